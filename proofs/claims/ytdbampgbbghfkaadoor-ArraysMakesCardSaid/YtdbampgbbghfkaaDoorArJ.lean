/- filled and vector of runes. -/
import Derived.Test.YtdbampgbbghfkaaDoorArI
namespace Go.Proofs.YtdbampgbbghfkaaDoor
open Go.RowKit

abbrev vr (z : Int) : Value := .int .i32 z
/-- A slice of runes that can be read. -/
abbrev RdR := Rd vr
structure KVR (w : World) (v : Value) (z : List Int) (w' : World) : Prop where
  bel : Below w.heap.size w w'
  res : R5 w' w.heap.size 0 0 0 0 (.slice none 0 0)
  rd : RdR w'.heap.size w' v z
theorem KVR.next {w w' w'' : World} {v : Value} {z : List Int} (h : KVR w v z w') (hb : Below w'.heap.size w' w'') : KVR w v z w'' := ⟨h.bel.trans (hb.mono h.bel.size), h.res.next hb, h.rd.next hb⟩
theorem KVR.new {w : World} {v : Value} {z : List Int} (hv : RdR w.heap.size w v z) : KVR w v z (w.alloc (.cells #[.int .i64 0, .int .i64 0, .int .i64 0, .int .i64 0, .slice none 0 0] 27)) := ⟨bel1 _ _, R5.new _ _ _ _ _ _, hv.next (bel1 _ _)⟩

set_option maxRecDepth 100000 in
set_option maxHeartbeats 4000000 in
theorem filledR_any (k r a b : Int) (v : Value) (z : List Int) (w : World) (hv : RdR w.heap.size w v z) (hl : z.length ≤ 500) (hr : ∀ c ∈ z, 0 ≤ c ∧ c ≤ 1114111) :
    Calls Tryd.prog 45 #[.int .i64 k, .int .i64 r, P2 a b, v] w (RetA ⟨k, r, a, b, z⟩ w) := by
  have HV := Lib.hid hv
  have HRg := Lib.hid hr
  clear hr
  obtain ⟨p, cap, rfl, hcap, hcap2, hcell⟩ := hv
  clear hcell
  obtain ⟨i0, hi, hz0, hz1, hz2⟩ := info_parts info64
  generalize hO : Obj.cells #[Value.int .i64 a, Value.int .i64 b] 25 = O0
  generalize hO' : Obj.cells #[Value.int .i64 0, Value.int .i64 0, Value.int .i64 0, Value.int .i64 0, Value.slice none 0 0] 27 = O1
  have e1 : ((w.alloc O0).alloc O1).heap.size = w.heap.size + 2 := by simp
  have hmk := run_make (P := Tryd.prog) ((w.alloc O0).alloc O1) 22 2 i0 (.int .i64 0) Tryd.underlying22 hi hz0 .i64 .i64 z.length z.length (by omega) (by omega) (by rw [hz2]; omega) (by omega)
  rw [Int.toNat_natCast, hz1, Nat.mul_one, e1] at hmk
  have hr0 : (((w.alloc O0).alloc O1).alloc (.cells (madeCells (Value.int .i64 0).cells z.length) 2)).rowIs (w.heap.size + 2) 2 z.length (zf z 0) := by
    rw [← e1]
    exact (World.rowIs_made ((w.alloc O0).alloc O1) (.int .i64 0) z.length 2).congr fun i _ => by unfold zf; rw [if_neg (by omega)]
  have hb0 := bel1 ((w.alloc O0).alloc O1) (.cells (madeCells (Value.int .i64 0).cells z.length) 2)
  have hb00 : Below w.heap.size w ((w.alloc O0).alloc O1) := (bel1 w O0).trans ((bel1 _ O1).mono (by simp))
  have HA0 : Hid (R2 (((w.alloc O0).alloc O1).alloc (.cells (madeCells (Value.int .i64 0).cells z.length) 2)) w.heap.size a b) := by
    unfold Hid; rw [← hO]; exact ((R2.new w a b).alloc _).alloc _
  have HC0 : Hid (R5 (((w.alloc O0).alloc O1).alloc (.cells (madeCells (Value.int .i64 0).cells z.length) 2)) (w.heap.size + 1) 0 0 0 0 (.slice none 0 0)) := by
    unfold Hid
    have : (w.alloc O0).heap.size = w.heap.size + 1 := by simp
    rw [← hO', ← this]; exact (R5.new _ _ _ _ _ _).alloc _
  have HB0 := Lib.hid (hb00.trans (hb0.mono hb00.size))
  have HR0 := Lib.hid hr0
  clear hr0 hb0 hb00
  generalize hW1 : ((w.alloc O0).alloc O1).alloc (.cells (madeCells (Value.int .i64 0).cells z.length) 2) = W1 at hmk HC0 HA0 HB0 HR0
  clear hW1
  subst hO hO'
  clear e1
  have g0 := HA0.out.c0
  have g1 := HA0.out.c1
  go_enter Tryd.func45, Tryd.ntmps45
  go_wp2
  clear hmk
  go_loopg [17] z.length (fun g i wr => ∃ j : Nat, j + g = z.length ∧ i = .int .i64 j ∧ Below w.heap.size w wr ∧ R2 wr w.heap.size a b ∧ R5 wr (w.heap.size + 1) 0 0 0 0 (.slice none 0 0) ∧ wr.rowIs (w.heap.size + 2) 2 z.length (zf z j))
  case atStart => exact ⟨0, by omega, rfl, HB0.out, HA0.out, HC0.out, HR0.out⟩
  case round =>
    obtain ⟨j, hjg, rfl, hbl, h2, h5, hrow⟩ := hrel
    have x0 := h2.c0; have x1 := h2.c1
    have H2 := Lib.hid h2
    have H5 := Lib.hid h5
    have HRo := Lib.hid hrow
    clear h2 h5 hrow g0 g1
    cases gk with
    | zero =>
      have hjz : ¬ ((j : Int) < (z.length : Int)) := by omega
      have HJ : Hid (j = z.length) := by unfold Hid; omega
      have y0 := H5.out.c0; have y1 := H5.out.c1; have y2 := H5.out.c2; have y3 := H5.out.c3; have y4 := H5.out.c4
      have f0 := H5.out.fr 0; have f1 := H5.out.fr 1; have f2 := H5.out.fr 2; have f3 := H5.out.fr 3; have f4 := H5.out.fr 4
      have HF := Lib.hid (H5.out.set k r a b (.slice (some ⟨w.heap.size + 2, 0, none⟩) z.length z.length))
      have z0 := HF.out.c0; have z1 := HF.out.c1; have z2 := HF.out.c2; have z3 := HF.out.c3; have z4 := HF.out.c4
      go_wp2
      refine bodyPost_ret (v := A5 k r a b (.slice (some ⟨w.heap.size + 2, 0, none⟩) z.length z.length)) (by simp [results, Tryd.results45, go_sem, z0, z1, z2, z3, z4]) rfl ?_
      refine ⟨_, rfl, zf_new rfl ?_ (by omega) (by omega), st5_below _ _ _ _ _ (by omega) hbl⟩
      have := HRo.out
      rw [HJ.out] at this
      exact this.of_block (st5_other _ _ _ _ _ (by omega))
    | succ g =>
      have hjz : (j : Int) < (z.length : Int) := by omega
      have hj : j < z.length := by omega
      obtain ⟨bk, off, rfl, hbb, hc⟩ := (HV.out.below hbl).cells (by intro e; rw [e] at hj; simp at hj)
      have x2 := hc j hj
      have HG : Hid (z.getD j 0 = z[j]) := by unfold Hid; rw [List.getD_eq_getElem?_getD, List.getElem?_eq_getElem hj]; rfl
      have hr := HRg.out z[j] (List.getElem_mem hj)
      obtain ⟨x, hx⟩ : ∃ x, z[j] = x := ⟨_, rfl⟩
      rw [hx] at x2 HG hr
      have hw64 : IntKind.i64.wrap x = x := by rw [IntKind.wrap_i64]; omega
      clear hr
      clear hc hx
      have hy : wr.cell? ⟨w.heap.size + 2, j, none⟩ = some (.int .i64 0) := by
        rw [HRo.out.cell hj]; unfold zf; rw [if_neg (by omega)]
      have hyf : wr.frozen? ⟨w.heap.size + 2, j, none⟩ = false := HRo.out.frozen j
      go_wp2
      go_roundg g
      case measure => omega
      case rel => exact ⟨j + 1, by omega, by go_num, hbl.setCell (p := ⟨w.heap.size + 2, j, none⟩) (by show w.heap.size ≤ w.heap.size + 2; omega) _, (blkO _ _ _ _ (by omega)).trans H2.out, (blkO _ _ _ _ (by omega)).trans H5.out, zf_next HRo.out HG.out⟩

set_option maxRecDepth 100000 in
set_option maxHeartbeats 4000000 in
theorem vectorR_any (k : Int) (l : List Int) (v : Value) (w : World) (hv : RdR w.heap.size w v l) (hr : ∀ c ∈ l, 0 ≤ c ∧ c ≤ 1114111) :
    Calls Tryd.prog 29 #[.int .i64 k, v] w (RetE (vcV k l) (vcE l) w) := by
  have HL : Hid (∀ (W : World) (g : Nat), W.heap.size = g → Calls Tryd.prog 31 #[.int .i64 1, .slice (some ⟨g, 0, none⟩) 1 1] (W.alloc (.cells #[.int .i64 (l.length : Int)] 3)) fun e w' => e = .returned (.tuple #[P2 (if 400 < l.length then 0 else (l.length : Int)) 0, .int .i64 (if 400 < l.length then 15 else 0)]) ∧ Below W.heap.size W w') := fun W g hg => by
    subst hg
    have := lens_any 1 _ [(l.length : Int)] (W.alloc (.cells #[.int .i64 (l.length : Int)] 3)) (one_int W l.length)
    rw [(ln_vec l.length).1, (ln_vec l.length).2.1, (ln_vec l.length).2.2] at this
    exact this.mono fun e w' ⟨h1, h2⟩ => ⟨h1, (bel1 _ _).trans (h2.mono (by simp))⟩
  have HK := Lib.hid (KVR.new hv)
  have HF := Lib.hid (fun W hl h => filledR_any k 1 l.length 0 v l W h hl hr)
  obtain ⟨p, cap, rfl, hcap, hcap2, hcell⟩ := hv
  clear hcell
  by_cases h4 : 400 < l.length
  · have HV : Hid (vcV k l = Ar.no ∧ vcE l = 15) := ⟨if_pos h4, if_pos h4⟩
    rw [HV.out.1, HV.out.2]
    rw [if_pos h4, if_pos h4] at HL
    clear h4
    go_enter Tryd.func29, Tryd.ntmps29
    go_wp2_with (go_at_call 31; refine (HL.out _ _ (by simp)).mono ?_; rintro e w' ⟨rfl, hb⟩; have HK2 := Lib.hid ((HK.out.next hb).next (bel1 _ (.cells #[.int .i64 0, .int .i64 0] 25))); clear HK hb; have HK := HK2; clear HK2; have y0 := HK.out.res.c0; have y1 := HK.out.res.c1; have y2 := HK.out.res.c2; have y3 := HK.out.res.c3; have y4 := HK.out.res.c4; have f0 := HK.out.res.fr 0; have f1 := HK.out.res.fr 1; have f2 := HK.out.res.fr 2; have f3 := HK.out.res.fr 3; have f4 := HK.out.res.fr 4; have HS := Lib.hid (HK.out.res.set 0 0 0 0 (.slice none 0 0)); have z0 := HS.out.c0; have z1 := HS.out.c1; have z2 := HS.out.c2; have z3 := HS.out.c3; have z4 := HS.out.c4)
    exact bodyPost_ret (v := .tuple #[A5 0 0 0 0 (.slice none 0 0), .int .i64 15]) (by simp [results, Tryd.results29, go_sem, z0, z1, z2, z3, z4]) rfl (retE_no 15 (st5_below _ _ _ _ _ (by omega) HK.out.bel))
  · have HV : Hid (vcV k l = ⟨k, 1, l.length, 0, l⟩ ∧ vcE l = 0) := ⟨if_neg h4, if_neg h4⟩
    rw [HV.out.1, HV.out.2]
    rw [if_neg h4, if_neg h4] at HL
    have h5 : l.length ≤ 500 := by omega
    clear h4
    go_enter Tryd.func29, Tryd.ntmps29
    go_wp2_with (first
      | (go_at_call 31; refine (HL.out _ _ (by simp)).mono ?_; rintro e w' ⟨rfl, hb⟩; have HK2 := Lib.hid ((HK.out.next hb).next (bel1 _ (.cells #[.int .i64 (l.length : Int), .int .i64 0] 25))); have HX := Lib.hid (R2.new w' (l.length : Int) 0); clear HK hb; have HK := HK2; clear HK2; have u0 := HX.out.c0; have u1 := HX.out.c1)
      | (go_at_call 45; refine (HF.out _ h5 HK.out.rd).mono ?_; rintro e w2 ⟨u, rfl, hu, hb⟩; obtain ⟨q, qc, rfl, hqc, hqd⟩ := hu.form; have HU := Lib.hid hu; have hlt := HK.out.res.lt; have HK2 := Lib.hid (HK.out.next hb); clear HK hb hu HX u0 u1; have HK := HK2; clear HK2; have y0 := HK.out.res.c0; have y1 := HK.out.res.c1; have y2 := HK.out.res.c2; have y3 := HK.out.res.c3; have y4 := HK.out.res.c4; have f0 := HK.out.res.fr 0; have f1 := HK.out.res.fr 1; have f2 := HK.out.res.fr 2; have f3 := HK.out.res.fr 3; have f4 := HK.out.res.fr 4; have HS := Lib.hid (HK.out.res.set k 1 (l.length : Int) 0 (.slice q l.length qc)); have z0 := HS.out.c0; have z1 := HS.out.c1; have z2 := HS.out.c2; have z3 := HS.out.c3; have z4 := HS.out.c4))
    refine bodyPost_ret (v := .tuple #[A5 k 1 (l.length : Int) 0 (.slice q l.length qc), .int .i64 0]) (by simp [results, Tryd.results29, go_sem, z0, z1, z2, z3, z4]) rfl ?_
    exact ⟨_, rfl, (HU.out.st5 hlt _ _ _ _ _).mono (by omega), st5_below _ _ _ _ _ (by omega) HK.out.bel⟩
end Go.Proofs.YtdbampgbbghfkaaDoor
