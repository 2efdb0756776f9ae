/- The reference's rows, Ravel and Reverse. -/
import Derived.Test.YthfpmpmhoegicaaDoorMvS
namespace Go.Proofs.YthfpmpmhoegicaaDoor
open Go.RowKit

set_option maxRecDepth 100000 in
set_option maxHeartbeats 4000000 in
theorem rows7_any (A : Ar) (v : Value) (w : World) (hA : Good A) (hr : A.r = 1 ∨ A.r = 2) (hv : RdI w.heap.size w v A.z) :
    Calls Tryd.prog 63 #[A5 A.k A.r A.a A.b v] w fun e w' => e = .returned (.tuple #[.int .i64 (rwN A), .int .i64 (rwM A)]) ∧ Below w.heap.size w w' := by
  rcases hr with hr | hr
  · obtain ⟨q1, q2, q3, q4⟩ := rw_vec hA hr
    rw [q1, q2, hr]
    have HB := Lib.hid (bel1 w (.cells #[.int .i64 A.k, .int .i64 1, .int .i64 A.a, .int .i64 A.b, v] 25))
    have HR := Lib.hid (R5.new w A.k 1 A.a A.b v)
    have x0 := HR.out.c0; have x1 := HR.out.c1; have x2 := HR.out.c2; have x3 := HR.out.c3; have x4 := HR.out.c4
    obtain ⟨p, cap, rfl, _, _, _⟩ := hv
    clear hr q1 q2 q3 q4 hA
    go_enter Tryd.func63, Tryd.ntmps63
    go_wp2_with fail
    go_quiet (fail)
    go_wp2
    go_ret2
    exact ⟨rfl, HB.out.trans ((drewN_below _ nq).mono HB.out.size)⟩
  · obtain ⟨q1, q2, q3, q4, q5⟩ := rw_mat hA hr
    rw [← q1, ← q2, hr]
    have HB := Lib.hid (bel1 w (.cells #[.int .i64 A.k, .int .i64 2, .int .i64 A.a, .int .i64 A.b, v] 25))
    have HR := Lib.hid (R5.new w A.k 2 A.a A.b v)
    have x0 := HR.out.c0; have x1 := HR.out.c1; have x2 := HR.out.c2; have x3 := HR.out.c3; have x4 := HR.out.c4
    clear hv hr q1 q2 q3 q4 q5 hA
    go_enter Tryd.func63, Tryd.ntmps63
    go_wp2_with fail
    go_quiet (fail)
    go_wp2
    go_ret2
    exact ⟨rfl, HB.out.trans ((drewN_below _ nq).mono HB.out.size)⟩

set_option maxRecDepth 100000 in
set_option maxHeartbeats 8000000 in
theorem rravel7_any (A : Ar) (v : Value) (w : World) (hw : Ru.Lay w) (hv : RdI w.heap.size w v A.z) (hn : Ru.NilC v) (hl : A.z.length ≤ 100000) :
    Calls Tryd.prog 14 #[A5 A.k A.r A.a A.b v] w (RetE (raV A) (ck A) w) := by
  have HCh := Lib.hid (fun W h => archeck_any A v W h (by omega))
  have HK := Lib.hid (MK1.new (A := A) hw hv)
  have x0 := HK.out.box.c0; have x1 := HK.out.box.c1; have x2 := HK.out.box.c2; have x3 := HK.out.box.c3; have x4 := HK.out.box.c4
  obtain ⟨p, cap, rfl, hcap, hcap2, hcell⟩ := hv
  clear hcell hw
  unfold raV
  by_cases h1 : ck A = 0
  · have HVe := Lib.hid (fun W (h : RdI W.heap.size W (.slice p A.z.length cap) A.z) => vec_lit (k := A.k) h hn hl)
    rw [orNo_yes h1, h1]
    rw [h1] at HCh
    clear h1 hn
    go_enter Tryd.func14, Tryd.ntmps14
    go_wp2_with (first
      | (go_at_call 40; (with_reducible refine (HCh.out _ HK.out.rdn).mono ?_); rintro e w1 ⟨rfl, hb⟩; have HK2 := Lib.hid (HK.out.next hb); clear HK x0 x1 x2 x3 x4; have HK := HK2; clear HK2; have x0 := HK.out.box.c0; have x1 := HK.out.box.c1; have x2 := HK.out.box.c2; have x3 := HK.out.box.c3; have x4 := HK.out.box.c4; clear hb)
      | (go_at_call 45; (with_reducible refine (HVe.out _ HK.out.rdn).mono ?_); rintro e w2 ⟨q, qc, rfl, hu, hb⟩; have HU := Lib.hid hu; have hlt := HK.out.sz; have HK2 := Lib.hid (HK.out.next hb); clear HK x0 x1 x2 x3 x4; have HK := HK2; clear HK2; have x0 := HK.out.box.c0; have x1 := HK.out.box.c1; have x2 := HK.out.box.c2; have x3 := HK.out.box.c3; have x4 := HK.out.box.c4; clear hu hb; have y0 := HK.out.res.c0; have y1 := HK.out.res.c1; have y2 := HK.out.res.c2; have y3 := HK.out.res.c3; have y4 := HK.out.res.c4; have f0 := HK.out.res.fr 0; have f1 := HK.out.res.fr 1; have f2 := HK.out.res.fr 2; have f3 := HK.out.res.fr 3; have f4 := HK.out.res.fr 4; have HS := Lib.hid (HK.out.res.set A.k 1 A.z.length 0 (.slice q A.z.length qc)); have z0 := HS.out.c0; have z1 := HS.out.c1; have z2 := HS.out.c2; have z3 := HS.out.c3; have z4 := HS.out.c4))
    refine bodyPost_ret (v := .tuple #[A5 A.k 1 A.z.length 0 (.slice q A.z.length qc), .int .i64 0]) (by simp [results, Tryd.results14, go_sem, z0, z1, z2, z3, z4]) rfl ?_
    exact ⟨_, rfl, (HU.out.st5 (by omega) _ _ _ _ _).mono (by omega), st5_below _ _ _ _ _ (by omega) HK.out.bel⟩
  · rw [orNo_no h1]
    obtain ⟨E, hE⟩ : ∃ E, ck A = E := ⟨_, rfl⟩
    rw [hE] at h1 HCh ⊢
    have k1 : (E != 0) = true := by simpa using h1
    clear h1 hE hn
    go_enter Tryd.func14, Tryd.ntmps14
    go_wp2_with (go_at_call 40; (with_reducible refine (HCh.out _ HK.out.rdn).mono ?_); rintro e w1 ⟨rfl, hb⟩; have HK2 := Lib.hid (HK.out.next hb); clear HK x0 x1 x2 x3 x4; have HK := HK2; clear HK2; have x0 := HK.out.box.c0; have x1 := HK.out.box.c1; have x2 := HK.out.box.c2; have x3 := HK.out.box.c3; have x4 := HK.out.box.c4; clear hb; have y0 := HK.out.res.c0; have y1 := HK.out.res.c1; have y2 := HK.out.res.c2; have y3 := HK.out.res.c3; have y4 := HK.out.res.c4; have f0 := HK.out.res.fr 0; have f1 := HK.out.res.fr 1; have f2 := HK.out.res.fr 2; have f3 := HK.out.res.fr 3; have f4 := HK.out.res.fr 4; have HS := Lib.hid (HK.out.res.set 0 0 0 0 (.slice none 0 0)); have z0 := HS.out.c0; have z1 := HS.out.c1; have z2 := HS.out.c2; have z3 := HS.out.c3; have z4 := HS.out.c4)
    exact bodyPost_ret (v := .tuple #[A5 0 0 0 0 (.slice none 0 0), .int .i64 E]) (by simp [results, Tryd.results14, go_sem, z0, z1, z2, z3, z4]) rfl (retE_no _ (st5_below _ _ _ _ _ (by omega) HK.out.bel))

/-- Cells of the reversed array, of which the first o have been written. -/
def rvP (A : Ar) (o t : Nat) : Int := if t < o then (rvZ A).getD t 0 else 0
theorem rvP_zero (A : Ar) (t : Nat) : rvP A 0 t = 0 := if_neg (Nat.not_lt_zero _)
theorem rvP_next {A : Ar} {i k : Nat} (hi : i < rwN A) (hk : k < rwM A) (t : Nat) : (if t = i * rwM A + k then A.z.getD (i * rwM A + (rwM A - 1 - k)) 0 else rvP A (i * rwM A + k) t) = rvP A (i * rwM A + k + 1) t := by
  unfold rvP
  by_cases h : t = i * rwM A + k
  · subst h
    rw [if_pos rfl, if_pos (Nat.lt_succ_self _)]
    unfold rvZ
    rw [gl_at hi hk]
  · rw [if_neg h]
    by_cases h2 : t < i * rwM A + k
    · rw [if_pos h2, if_pos (by omega)]
    · rw [if_neg h2, if_neg (by omega)]
theorem R5.put4 {w : World} {g : Nat} {k r a b : Int} {v : Value} (h : R5 w g k r a b v) (u : Value) : R5 (w.setCell ⟨g, 4, none⟩ u) g k r a b u := by
  unfold R5 at h ⊢
  simp [World.setCell, Array.getElem?_modify, h]
/-- What the loops of Reverse keep. -/
structure Kr7 (w : World) (A : Ar) (v : Value) (g gb o : Nat) (W : World) : Prop where
  m : MK1 w A v W
  bx : R5 W gb A.k A.r A.a A.b (.slice (some ⟨g, 0, none⟩) A.z.length A.z.length)
  row : rowZ W g A.z.length (rvP A o)
theorem Kr7.drew {w W : World} {A : Ar} {v : Value} {g gb o : Nat} (k : Kr7 w A v g gb o W) : Kr7 w A v g gb o W.drew :=
  have hb : Below W.heap.size W W.drew := (Below.refl _ _).drew
  ⟨k.m.next hb, k.bx.next hb, k.row.of_block (hb.block _ k.row.lt)⟩
theorem Kr7.put {w W : World} {A : Ar} {v : Value} {g gb i j : Nat} (k : Kr7 w A v g gb (i * rwM A + j) W) (q1 : w.heap.size + 1 < g) (q2 : gb ≠ g) (h3 : 0 + 1 ≤ w.heap.size) (hi : i < rwN A) (hj : j < rwM A) :
    Kr7 w A v g gb (i * rwM A + j + 1) (W.setCell ⟨g, i * rwM A + j, none⟩ (.int .i64 (A.z.getD (i * rwM A + (rwM A - 1 - j)) 0))) := by
  have hb : But g W (W.setCell ⟨g, i * rwM A + j, none⟩ (.int .i64 (A.z.getD (i * rwM A + (rwM A - 1 - j)) 0))) := (But.refl _ _).setCell _ _
  have hbl := hb.below (B := w.heap.size + 2) (by omega)
  exact ⟨k.m.far hbl (k.m.lay.below (by omega) hbl), (hb.block _ q2).trans k.bx, (k.row.put _ _).congr fun x _ => rvP_next hi hj x⟩

end Go.Proofs.YthfpmpmhoegicaaDoor
