/- Do of the code: the sum of two arrays; another number of operands. -/
import Derived.Test.YtpbfbejckhbijaaGreatDoorPrJ
import Derived.Test.YtpbfbejckhbijaaGreatDoorExF
import Derived.Deep.DeepCutAuto
import Derived.Deep.RegionWith
namespace Go.Proofs.YtpbfbejckhbijaaGreatDoor
open Go.RowKit

theorem row15 : rowC 15 = #[.string (nmB 15), .string (ftB 15), .int .i64 11, .int .i64 12, .int .i64 0, .nilFunc, .nilFunc] := rfl
theorem neq_f1 (W : World) : (binOp BinOp.neq 58 .nilFunc .nilFunc).run Tryz.prog W = .ok (.bool false) W := by kernel_rfl
theorem neq_f2 (W : World) : (binOp BinOp.neq 59 .nilFunc .nilFunc).run Tryz.prog W = .ok (.bool false) W := by kernel_rfl
/-- Two arrays, one behind the other. -/
def R10 (w : World) (g : Nat) (A B : Ar) (v u : Value) : Prop := w.heap[g]? = some (.cells #[.int .i64 A.k, .int .i64 A.r, .int .i64 A.a, .int .i64 A.b, v, .int .i64 B.k, .int .i64 B.r, .int .i64 B.a, .int .i64 B.b, u] 43 (0, 0))
theorem R10.at {w : World} {g : Nat} {A B : Ar} {v u : Value} (h : R10 w g A B v u) (j : Nat) : w.cell? ⟨g, j, none⟩ = (#[.int .i64 A.k, .int .i64 A.r, .int .i64 A.a, .int .i64 A.b, v, .int .i64 B.k, .int .i64 B.r, .int .i64 B.a, .int .i64 B.b, u] : Array Value)[j]? := by
  unfold R10 at h
  simp [World.cell?, h]
theorem R10.lt {w : World} {g : Nat} {A B : Ar} {v u : Value} (h : R10 w g A B v u) : g < w.heap.size := (Array.getElem?_eq_some_iff.1 h).1
theorem R10.next {w w' : World} {g : Nat} {A B : Ar} {v u : Value} (h : R10 w g A B v u) (hb : Below w.heap.size w w') : R10 w' g A B v u := (hb.block g h.lt).trans h
set_option maxRecDepth 100000 in
set_option maxHeartbeats 16000000 in
theorem doadd_any (A B : Ar) (v u : Value) (g : Nat) (w : World) (hw : Ru.Lay w) (hc : R10 w g A B v u) (hv : RdI w.heap.size w v A.z) (hu : RdI w.heap.size w u B.z) (hl : A.z.length ≤ 1000000) (hl' : B.z.length ≤ 1000000) (h64 : in64 A.z) (h64' : in64 B.z) :
    Calls Tryz.prog 24 #[.int .i64 15, .slice (some ⟨g, 0, none⟩) 2 2] w (RetE (twV 15 A B) (twE 15 A B) w) := by
  have HR : Hid (∀ W, Calls Tryz.prog 33 #[.int .i64 15] W fun e w' => e = .returned (.tuple #[.agg #[.string (nmB 15), .string (ftB 15), .int .i64 11, .int .i64 12, .int .i64 0, .nilFunc, .nilFunc], .int .i64 0]) ∧ Below W.heap.size W w') := fun W => rowOf_ok 15 W (by omega) (by omega)
  have HA : Hid (∀ W, Calls Tryz.prog 16 #[.int .i64 15] W fun e w' => e = .returned (.tuple #[.int .i64 2, .int .i64 0]) ∧ w' = W) := fun W => arity_any 15 W
  have HT := Lib.hid (fun W h1 h2 h3 => etwo_any 15 A B v u W h1 h2 h3 hl hl' h64 h64')
  have HRes := Lib.hid (R5.new w 0 0 0 0 (.slice none 0 0))
  have HLay := Lib.hid hw
  have HC := Lib.hid hc
  have HV := Lib.hid hv
  have HU := Lib.hid hu
  have HB0 := Lib.hid (bel1 w (.cells #[.int .i64 0, .int .i64 0, .int .i64 0, .int .i64 0, .slice none 0 0] 43))
  obtain ⟨pv, cv, rfl, _⟩ := hv
  obtain ⟨pu, cu, rfl, _⟩ := hu
  clear hw hc hl hl' h64 h64'
  generalize nmB 15 = s1 at HR
  generalize ftB 15 = s2 at HR
  generalize twE 15 A B = E at HT ⊢
  generalize twV 15 A B = V at HT ⊢
  have hn1 := neq_f1
  have hn2 := neq_f2
  go_enter Tryz.func24, Tryz.ntmps24
  go_upto_region 7 with (first | (go_at_call 33; refine (HR.out _).mono ?_; rintro e w1 ⟨rfl, hb⟩; have HB1 := Lib.hid (hb.trans ((bel1 w1 (.cells #[.string s1, .string s2, .int .i64 11, .int .i64 12, .int .i64 0, .nilFunc, .nilFunc] 61)).mono hb.size)); clear hb) | (go_at_call 16; refine (HA.out _).mono ?_; rintro e w2 ⟨rfl, rfl⟩) | fail)
  have HB2 := Lib.hid (HB0.out.trans (HB1.out.mono HB0.out.size))
  have HR2 := Lib.hid (HRes.out.next HB1.out)
  have HC2 := Lib.hid (HC.out.next HB2.out)
  have HV2 := Lib.hid (HV.out.next HB2.out)
  have HU2 := Lib.hid (HU.out.next HB2.out)
  have HL2 := Lib.hid (HLay.out.next HB2.out)
  clear HB1 HRes HC HV HU HLay HR HA hn1 hn2
  generalize w1.alloc _ = W2 at HB2 HR2 HC2 HV2 HU2 HL2 ⊢
  have c0 := HC2.out.at 0; have c1 := HC2.out.at 1; have c2 := HC2.out.at 2; have c3 := HC2.out.at 3; have c4 := HC2.out.at 4
  have c5 := HC2.out.at 5; have c6 := HC2.out.at 6; have c7 := HC2.out.at 7; have c8 := HC2.out.at 8; have c9 := HC2.out.at 9
  simp only [List.getElem?_toArray, List.getElem?_cons_zero, List.getElem?_cons_succ] at c0 c1 c2 c3 c4 c5 c6 c7 c8 c9
  clear HB0
  go_region_with (first | (go_at_call 42; refine (HT.out _ (HL2.out.next (Below.refl _ _).drew) (HV2.out.next (Below.refl _ _).drew) (HU2.out.next (Below.refl _ _).drew)).mono ?_; rintro e w3 ⟨uu, rfl, hu, hb⟩; obtain ⟨qq, qc, hq, _, _⟩ := hu.form; have hq2 : uu = .slice qq V.z.length qc := hq; subst hq2; clear hq; have HU3 := Lib.hid hu; have HB3 := Lib.hid hb; have HR3 := Lib.hid ((HR2.out.next (Below.refl _ _).drew).next hb); have y0 := HR3.out.c0; have y1 := HR3.out.c1; have y2 := HR3.out.c2; have y3 := HR3.out.c3; have y4 := HR3.out.c4; have f0 := HR3.out.fr 0; have f1 := HR3.out.fr 1; have f2 := HR3.out.fr 2; have f3 := HR3.out.fr 3; have f4 := HR3.out.fr 4; clear hu hb) | fail)
  all_goals
    have hlt : w.heap.size < W2.heap.size := HR2.out.lt
    have HS := Lib.hid (HR3.out.set V.k V.r V.a V.b (.slice qq V.z.length qc))
    have z0 := HS.out.c0; have z1 := HS.out.c1; have z2 := HS.out.c2; have z3 := HS.out.c3; have z4 := HS.out.c4
    go_wp2_with fail
    refine bodyPost_ret (v := .tuple #[A5 V.k V.r V.a V.b (.slice qq V.z.length qc), .int .i64 E]) (by simp [results, Tryz.results24, go_sem, z0, z1, z2, z3, z4]) rfl ?_
    exact ⟨_, rfl, (HU3.out.st5 (by simpa using hlt) _ _ _ _ _).mono (by simpa using (Nat.le_of_lt hlt)), st5_below _ _ _ _ _ (Nat.le_refl _) ((HB2.out.trans (Below.refl _ _).drew).trans (HB3.out.mono (by simpa using (Nat.le_of_lt hlt))))⟩

set_option maxRecDepth 100000 in
set_option maxHeartbeats 8000000 in
theorem doone_any (p : Option Addr) (c : Nat) (w : World) :
    Calls Tryz.prog 24 #[.int .i64 15, .slice p 1 c] w fun e w' => e = .returned (.tuple #[A5 0 0 0 0 (.slice none 0 0), .int .i64 23]) ∧ Below w.heap.size w w' := by
  have HR : Hid (∀ W, Calls Tryz.prog 33 #[.int .i64 15] W fun e w' => e = .returned (.tuple #[.agg #[.string (nmB 15), .string (ftB 15), .int .i64 11, .int .i64 12, .int .i64 0, .nilFunc, .nilFunc], .int .i64 0]) ∧ Below W.heap.size W w') := fun W => rowOf_ok 15 W (by omega) (by omega)
  have HA : Hid (∀ W, Calls Tryz.prog 16 #[.int .i64 15] W fun e w' => e = .returned (.tuple #[.int .i64 2, .int .i64 0]) ∧ w' = W) := fun W => arity_any 15 W
  have HRes := Lib.hid (R5.new w 0 0 0 0 (.slice none 0 0))
  have HB0 := Lib.hid (bel1 w (.cells #[.int .i64 0, .int .i64 0, .int .i64 0, .int .i64 0, .slice none 0 0] 43))
  generalize nmB 15 = s1 at HR
  generalize ftB 15 = s2 at HR
  go_enter Tryz.func24, Tryz.ntmps24
  go_upto_region 6 with (first | (go_at_call 33; refine (HR.out _).mono ?_; rintro e w1 ⟨rfl, hb⟩; have HB1 := Lib.hid (hb.trans ((bel1 w1 (.cells #[.string s1, .string s2, .int .i64 11, .int .i64 12, .int .i64 0, .nilFunc, .nilFunc] 61)).mono hb.size)); clear hb) | (go_at_call 16; refine (HA.out _).mono ?_; rintro e w2 ⟨rfl, rfl⟩) | fail)
  have HB2 := Lib.hid (HB0.out.trans (HB1.out.mono HB0.out.size))
  have HR3 := Lib.hid (HRes.out.next HB1.out)
  clear HB1 HRes HR HA
  generalize w1.alloc _ = w3 at HB2 HR3 ⊢
  have y0 := HR3.out.c0; have y1 := HR3.out.c1; have y2 := HR3.out.c2; have y3 := HR3.out.c3; have y4 := HR3.out.c4; have f0 := HR3.out.fr 0; have f1 := HR3.out.fr 1; have f2 := HR3.out.fr 2; have f3 := HR3.out.fr 3; have f4 := HR3.out.fr 4
  have HS := Lib.hid (HR3.out.set 0 0 0 0 (.slice none 0 0))
  have z0 := HS.out.c0; have z1 := HS.out.c1; have z2 := HS.out.c2; have z3 := HS.out.c3; have z4 := HS.out.c4
  go_wp2_with fail
  refine bodyPost_ret (v := .tuple #[A5 0 0 0 0 (.slice none 0 0), .int .i64 23]) (by simp [results, Tryz.results24, go_sem, z0, z1, z2, z3, z4]) rfl ?_
  exact ⟨rfl, st5_below _ _ _ _ _ (Nat.le_refl _) HB2.out⟩
end Go.Proofs.YtpbfbejckhbijaaGreatDoor
