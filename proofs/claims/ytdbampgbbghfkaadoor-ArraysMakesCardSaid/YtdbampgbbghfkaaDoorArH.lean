/- Int, Ints, vector of numbers; the reference's Int, Ints; the law's vector. -/
import Derived.Test.YtdbampgbbghfkaaDoorArF
import Derived.Test.YtdbampgbbghfkaaDoorArG
namespace Go.Proofs.YtdbampgbbghfkaaDoor
open Go.RowKit

/-- A vector of a kind. -/
def vcE (l : List Int) : Int := if 400 < l.length then 15 else 0
def vcV (k : Int) (l : List Int) : Ar := if 400 < l.length then Ar.no else ⟨k, 1, l.length, 0, l⟩
theorem ln_vec (n : Nat) : lnE 1 [(n : Int)] = (if 400 < n then 15 else 0) ∧ ln0 1 [(n : Int)] = (if 400 < n then 0 else (n : Int)) ∧ ln1 1 [(n : Int)] = 0 := by
  have h : lnE 1 [(n : Int)] = (if 400 < n then 15 else 0) := by
    unfold lnE
    rw [if_neg (by omega), if_pos (by simp)]
    show ckS 1 n 0 = _
    unfold ckS cn
    rw [if_neg (by omega), if_neg (by omega)]
    by_cases hn : 400 < n
    · rw [if_pos (by omega), if_pos hn]
    · rw [if_neg (by simp; omega), if_neg hn]
  unfold ln0 ln1
  rw [h]
  by_cases hn : 400 < n
  · rw [if_pos hn, if_pos hn]; exact ⟨rfl, rfl, rfl⟩
  · rw [if_neg hn, if_neg hn]; exact ⟨rfl, rfl, rfl⟩
/-- What a walk keeps that hands back an array which it makes of numbers. -/
structure KV (w : World) (v : Value) (z : List Int) (w' : World) : Prop where
  bel : Below w.heap.size w w'
  res : R5 w' w.heap.size 0 0 0 0 (.slice none 0 0)
  rd : RdI w'.heap.size w' v z
theorem KV.next {w w' w'' : World} {v : Value} {z : List Int} (h : KV w v z w') (hb : Below w'.heap.size w' w'') : KV w v z w'' := ⟨h.bel.trans (hb.mono h.bel.size), h.res.next hb, h.rd.next hb⟩
theorem KV.new {w : World} {v : Value} {z : List Int} (hv : RdI w.heap.size w v z) : KV w v z (w.alloc (.cells #[.int .i64 0, .int .i64 0, .int .i64 0, .int .i64 0, .slice none 0 0] 27)) := ⟨bel1 _ _, R5.new _ _ _ _ _ _, hv.next (bel1 _ _)⟩
theorem one_int (W : World) (n : Int) : RdI (W.alloc (.cells #[.int .i64 n] 3)).heap.size (W.alloc (.cells #[.int .i64 n] 3)) (.slice (some ⟨W.heap.size, 0, none⟩) 1 1) [n] := by
  refine ⟨_, 1, rfl, Nat.le_refl _, by omega, fun _ => ⟨W.heap.size, 0, rfl, by simp, fun j hj => ?_⟩⟩
  simp at hj
  subst hj
  simp [World.cell?_alloc_new]

set_option maxRecDepth 100000 in
set_option maxHeartbeats 4000000 in
theorem vector_any (k : Int) (l : List Int) (v : Value) (w : World) (hv : RdI w.heap.size w v l) :
    Calls Tryd.prog 25 #[.int .i64 k, v] w (RetE (vcV k l) (vcE l) w) := by
  have HL : Hid (∀ (W : World) (g : Nat), W.heap.size = g → Calls Tryd.prog 31 #[.int .i64 1, .slice (some ⟨g, 0, none⟩) 1 1] (W.alloc (.cells #[.int .i64 (l.length : Int)] 3)) fun e w' => e = .returned (.tuple #[P2 (if 400 < l.length then 0 else (l.length : Int)) 0, .int .i64 (if 400 < l.length then 15 else 0)]) ∧ Below W.heap.size W w') := fun W g hg => by
    subst hg
    have := lens_any 1 _ [(l.length : Int)] (W.alloc (.cells #[.int .i64 (l.length : Int)] 3)) (one_int W l.length)
    rw [(ln_vec l.length).1, (ln_vec l.length).2.1, (ln_vec l.length).2.2] at this
    exact this.mono fun e w' ⟨h1, h2⟩ => ⟨h1, (bel1 _ _).trans (h2.mono (by simp))⟩
  have HK := Lib.hid (KV.new hv)
  have HF := Lib.hid (fun W hl h => filled_any k 1 l.length 0 v l W h hl)
  obtain ⟨p, cap, rfl, hcap, hcap2, hcell⟩ := hv
  clear hcell
  by_cases h4 : 400 < l.length
  · have HV : Hid (vcV k l = Ar.no ∧ vcE l = 15) := ⟨if_pos h4, if_pos h4⟩
    rw [HV.out.1, HV.out.2]
    rw [if_pos h4, if_pos h4] at HL
    clear h4
    go_enter Tryd.func25, Tryd.ntmps25
    go_wp2_with (go_at_call 31; refine (HL.out _ _ (by simp)).mono ?_; rintro e w' ⟨rfl, hb⟩; have HK2 := Lib.hid ((HK.out.next hb).next (bel1 _ (.cells #[.int .i64 0, .int .i64 0] 25))); clear HK hb; have HK := HK2; clear HK2; have y0 := HK.out.res.c0; have y1 := HK.out.res.c1; have y2 := HK.out.res.c2; have y3 := HK.out.res.c3; have y4 := HK.out.res.c4; have f0 := HK.out.res.fr 0; have f1 := HK.out.res.fr 1; have f2 := HK.out.res.fr 2; have f3 := HK.out.res.fr 3; have f4 := HK.out.res.fr 4; have HS := Lib.hid (HK.out.res.set 0 0 0 0 (.slice none 0 0)); have z0 := HS.out.c0; have z1 := HS.out.c1; have z2 := HS.out.c2; have z3 := HS.out.c3; have z4 := HS.out.c4)
    exact bodyPost_ret (v := .tuple #[A5 0 0 0 0 (.slice none 0 0), .int .i64 15]) (by simp [results, Tryd.results25, go_sem, z0, z1, z2, z3, z4]) rfl (retE_no 15 (st5_below _ _ _ _ _ (by omega) HK.out.bel))
  · have HV : Hid (vcV k l = ⟨k, 1, l.length, 0, l⟩ ∧ vcE l = 0) := ⟨if_neg h4, if_neg h4⟩
    rw [HV.out.1, HV.out.2]
    rw [if_neg h4, if_neg h4] at HL
    have h5 : l.length ≤ 500 := by omega
    clear h4
    go_enter Tryd.func25, Tryd.ntmps25
    go_wp2_with (first
      | (go_at_call 31; refine (HL.out _ _ (by simp)).mono ?_; rintro e w' ⟨rfl, hb⟩; have HK2 := Lib.hid ((HK.out.next hb).next (bel1 _ (.cells #[.int .i64 (l.length : Int), .int .i64 0] 25))); have HX := Lib.hid (R2.new w' (l.length : Int) 0); clear HK hb; have HK := HK2; clear HK2; have u0 := HX.out.c0; have u1 := HX.out.c1)
      | (go_at_call 27; refine (HF.out _ h5 HK.out.rd).mono ?_; rintro e w2 ⟨u, rfl, hu, hb⟩; obtain ⟨q, qc, rfl, hqc, hqd⟩ := hu.form; have HU := Lib.hid hu; have hlt := HK.out.res.lt; have HK2 := Lib.hid (HK.out.next hb); clear HK hb hu HX u0 u1; have HK := HK2; clear HK2; have y0 := HK.out.res.c0; have y1 := HK.out.res.c1; have y2 := HK.out.res.c2; have y3 := HK.out.res.c3; have y4 := HK.out.res.c4; have f0 := HK.out.res.fr 0; have f1 := HK.out.res.fr 1; have f2 := HK.out.res.fr 2; have f3 := HK.out.res.fr 3; have f4 := HK.out.res.fr 4; have HS := Lib.hid (HK.out.res.set k 1 (l.length : Int) 0 (.slice q l.length qc)); have z0 := HS.out.c0; have z1 := HS.out.c1; have z2 := HS.out.c2; have z3 := HS.out.c3; have z4 := HS.out.c4))
    refine bodyPost_ret (v := .tuple #[A5 k 1 (l.length : Int) 0 (.slice q l.length qc), .int .i64 0]) (by simp [results, Tryd.results25, go_sem, z0, z1, z2, z3, z4]) rfl ?_
    exact ⟨_, rfl, (HU.out.st5 hlt _ _ _ _ _).mono (by omega), st5_below _ _ _ _ _ (by omega) HK.out.bel⟩
end Go.Proofs.YtdbampgbbghfkaaDoor
