/- Make of the code, whose result is a row of the call's own, that can be written. -/
import Derived.Test.YtbeoigmaieiigaaDoorMvB
namespace Go.Proofs.YtbeoigmaieiigaaDoor
open Go.RowKit

/-- A row of numbers, new from B on. -/
def OwnW (B : Nat) (w : World) (v : Value) (l : List Int) : Prop := ∃ g, v = .slice (some ⟨g, 0, none⟩) l.length l.length ∧ B ≤ g ∧ w.rowIs g 2 l.length (zf l l.length)
def RetWA (A : Ar) (w : World) (e : Ending) (w' : World) : Prop := ∃ u, e = .returned (A5 A.k A.r A.a A.b u) ∧ OwnW w.heap.size w' u A.z ∧ Below w.heap.size w w'
/-- An array with such a row, and an error; with an error nothing. -/
def RetW (A : Ar) (n : Int) (w : World) (e : Ending) (w' : World) : Prop := ∃ u, e = .returned (.tuple #[A5 A.k A.r A.a A.b u, .int .i64 n]) ∧ ((n ≠ 0 ∧ u = .slice none 0 0 ∧ A.z = []) ∨ OwnW w.heap.size w' u A.z) ∧ Below w.heap.size w w'
theorem zf_own {B : Nat} {w : World} {g : Nat} {z : List Int} (h : w.rowIs g 2 z.length (zf z z.length)) (hB : B ≤ g) : OwnW B w (.slice (some ⟨g, 0, none⟩) z.length z.length) z := ⟨g, rfl, hB, h⟩
theorem OwnW.rdn {B : Nat} {w : World} {v : Value} {l : List Int} (h : OwnW B w v l) (hl : l.length ≤ 1000000) : RdN B w v l := by
  obtain ⟨g, rfl, hB, h⟩ := h
  exact zf_new rfl h hl hB
theorem retW_no {w w' : World} {n : Int} (hn : n ≠ 0) (hb : Below w.heap.size w w') : RetW Ar.no n w (.returned (.tuple #[A5 0 0 0 0 (.slice none 0 0), .int .i64 n])) w' := ⟨_, rfl, .inl ⟨hn, rfl, rfl⟩, hb⟩

set_option maxRecDepth 100000 in
set_option maxHeartbeats 4000000 in
theorem filledW_any (k r a b : Int) (v : Value) (z : List Int) (w : World) (hv : RdI w.heap.size w v z) (hl : z.length ≤ 500) :
    Calls Tryd.prog 55 #[.int .i64 k, .int .i64 r, P2 a b, v] w (RetWA ⟨k, r, a, b, z⟩ w) := by
  have HV := Lib.hid hv
  obtain ⟨p, cap, rfl, hcap, hcap2, hcell⟩ := hv
  clear hcell
  obtain ⟨i0, hi, hz0, hz1, hz2⟩ := info_parts info64
  generalize hO : Obj.cells #[Value.int .i64 a, Value.int .i64 b] 22 = O0
  generalize hO' : Obj.cells #[Value.int .i64 0, Value.int .i64 0, Value.int .i64 0, Value.int .i64 0, Value.slice none 0 0] 25 = O1
  have e1 : ((w.alloc O0).alloc O1).heap.size = w.heap.size + 2 := by simp
  have hmk := run_make (P := Tryd.prog) ((w.alloc O0).alloc O1) 23 2 i0 (.int .i64 0) Tryd.underlying23 hi hz0 .i64 .i64 z.length z.length (by omega) (by omega) (by rw [hz2]; omega) (by omega)
  rw [Int.toNat_natCast, hz1, Nat.mul_one, e1] at hmk
  have hr0 : (((w.alloc O0).alloc O1).alloc (.cells (madeCells (Value.int .i64 0).cells z.length) 2)).rowIs (w.heap.size + 2) 2 z.length (zf z 0) := by
    rw [← e1]
    exact (World.rowIs_made ((w.alloc O0).alloc O1) (.int .i64 0) z.length 2).congr fun i _ => by unfold zf; rw [if_neg (by omega)]
  have hb0 := bel1 ((w.alloc O0).alloc O1) (.cells (madeCells (Value.int .i64 0).cells z.length) 2)
  have hb00 : Below w.heap.size w ((w.alloc O0).alloc O1) := (bel1 w O0).trans ((bel1 _ O1).mono (by simp))
  have HA0 : Hid (R2 (((w.alloc O0).alloc O1).alloc (.cells (madeCells (Value.int .i64 0).cells z.length) 2)) w.heap.size a b) := by
    unfold Hid; rw [← hO]; exact ((R2.new w a b).alloc _).alloc _
  have HC0 : Hid (R5 (((w.alloc O0).alloc O1).alloc (.cells (madeCells (Value.int .i64 0).cells z.length) 2)) (w.heap.size + 1) 0 0 0 0 (.slice none 0 0)) := by
    unfold Hid
    have : (w.alloc O0).heap.size = w.heap.size + 1 := by simp
    rw [← hO', ← this]; exact (R5.new _ _ _ _ _ _).alloc _
  have HB0 := Lib.hid (hb00.trans (hb0.mono hb00.size))
  have HR0 := Lib.hid hr0
  clear hr0 hb0 hb00
  generalize hW1 : ((w.alloc O0).alloc O1).alloc (.cells (madeCells (Value.int .i64 0).cells z.length) 2) = W1 at hmk HC0 HA0 HB0 HR0
  clear hW1
  subst hO hO'
  clear e1
  have g0 := HA0.out.c0
  have g1 := HA0.out.c1
  go_enter Tryd.func55, Tryd.ntmps55
  go_wp2
  clear hmk
  go_loopg [17] z.length (fun g i wr => ∃ j : Nat, j + g = z.length ∧ i = .int .i64 j ∧ Below w.heap.size w wr ∧ R2 wr w.heap.size a b ∧ R5 wr (w.heap.size + 1) 0 0 0 0 (.slice none 0 0) ∧ wr.rowIs (w.heap.size + 2) 2 z.length (zf z j))
  case atStart => exact ⟨0, by omega, rfl, HB0.out, HA0.out, HC0.out, HR0.out⟩
  case round =>
    obtain ⟨j, hjg, rfl, hbl, h2, h5, hrow⟩ := hrel
    have x0 := h2.c0; have x1 := h2.c1
    have H2 := Lib.hid h2
    have H5 := Lib.hid h5
    have HRo := Lib.hid hrow
    clear h2 h5 hrow g0 g1
    cases gk with
    | zero =>
      have hjz : ¬ ((j : Int) < (z.length : Int)) := by omega
      have HJ : Hid (j = z.length) := by unfold Hid; omega
      have y0 := H5.out.c0; have y1 := H5.out.c1; have y2 := H5.out.c2; have y3 := H5.out.c3; have y4 := H5.out.c4
      have f0 := H5.out.fr 0; have f1 := H5.out.fr 1; have f2 := H5.out.fr 2; have f3 := H5.out.fr 3; have f4 := H5.out.fr 4
      have HF := Lib.hid (H5.out.set k r a b (.slice (some ⟨w.heap.size + 2, 0, none⟩) z.length z.length))
      have z0 := HF.out.c0; have z1 := HF.out.c1; have z2 := HF.out.c2; have z3 := HF.out.c3; have z4 := HF.out.c4
      go_wp2
      refine bodyPost_ret (v := A5 k r a b (.slice (some ⟨w.heap.size + 2, 0, none⟩) z.length z.length)) (by simp [results, Tryd.results55, go_sem, z0, z1, z2, z3, z4]) rfl ?_
      refine ⟨_, rfl, zf_own ?_ (by omega), st5_below _ _ _ _ _ (by omega) hbl⟩
      have := HRo.out
      rw [HJ.out] at this
      exact this.of_block (st5_other _ _ _ _ _ (by omega))
    | succ g =>
      have hjz : (j : Int) < (z.length : Int) := by omega
      have hj : j < z.length := by omega
      obtain ⟨bk, off, rfl, hbb, hc⟩ := (HV.out.below hbl).cells (by intro e; rw [e] at hj; simp at hj)
      have x2 := hc j hj
      have HG : Hid (z.getD j 0 = z[j]) := by unfold Hid; rw [List.getD_eq_getElem?_getD, List.getElem?_eq_getElem hj]; rfl
      obtain ⟨x, hx⟩ : ∃ x, z[j] = x := ⟨_, rfl⟩
      rw [hx] at x2 HG
      clear hc hx
      have hy : wr.cell? ⟨w.heap.size + 2, j, none⟩ = some (.int .i64 0) := by
        rw [HRo.out.cell hj]; unfold zf; rw [if_neg (by omega)]
      have hyf : wr.frozen? ⟨w.heap.size + 2, j, none⟩ = false := HRo.out.frozen j
      go_wp2
      go_roundg g
      case measure => omega
      case rel => exact ⟨j + 1, by omega, by go_num, hbl.setCell (p := ⟨w.heap.size + 2, j, none⟩) (by show w.heap.size ≤ w.heap.size + 2; omega) _, (blkO _ _ _ _ (by omega)).trans H2.out, (blkO _ _ _ _ (by omega)).trans H5.out, zf_next HRo.out HG.out⟩
set_option maxRecDepth 100000 in
set_option maxHeartbeats 4000000 in
theorem makeW_any (k r a b : Int) (z : List Int) (v : Value) (w : World) (hw : Ru.Lay w) (hv : RdI w.heap.size w v z) (hl : z.length ≤ 1000000) :
    Calls Tryd.prog 41 #[.int .i64 k, .int .i64 r, P2 a b, v] w (RetW (mk ⟨k, r, a, b, z⟩) (ck ⟨k, r, a, b, z⟩) w) := by
  have HC : Hid (∀ W, Ru.Lay W → RdI W.heap.size W v z → Calls Tryd.prog 54 #[A5 k r a b v] W fun e w' => e = .returned (.int .i64 (ck ⟨k, r, a, b, z⟩)) ∧ Below W.heap.size W w') := fun W h1 h2 => acheck_any ⟨k, r, a, b, z⟩ v W h1 h2 hl
  have HK := Lib.hid (KB.new a b hw hv)
  have x0 := HK.out.box.c0; have x1 := HK.out.box.c1
  have HF : Hid (∀ W, z.length ≤ 500 → RdI W.heap.size W v z → Calls Tryd.prog 55 #[.int .i64 k, .int .i64 r, P2 a b, v] W (RetWA ⟨k, r, a, b, z⟩ W)) := fun W h0 h => filledW_any k r a b v z W h h0
  obtain ⟨p, cap, rfl, hcap, hcap2, hcell⟩ := hv
  clear hcell
  by_cases hk : ck ⟨k, r, a, b, z⟩ = 0
  · have hz : z.length ≤ 500 := by have := (ck_good hk).len4; simp at this; omega
    rw [mk_yes hk, hk]
    rw [hk] at HC
    clear hk hw
    go_enter Tryd.func41, Tryd.ntmps41
    go_wp2_with (first
      | (go_at_call 54; refine (HC.out _ HK.out.lay HK.out.rd).mono ?_; rintro e w' ⟨rfl, hb⟩; have HK2 := Lib.hid (HK.out.next hb); clear HK hb x0 x1; have HK := HK2; clear HK2; have x0 := HK.out.box.c0; have x1 := HK.out.box.c1)
      | (go_at_call 55; refine (HF.out _ hz HK.out.rd).mono ?_; rintro e w' ⟨u, rfl, hu, hb⟩; obtain ⟨g, rfl, hBg, hrow⟩ := hu; have HR := Lib.hid (HK.out.res.next hb); have HB := Lib.hid (HK.out.bel.trans (hb.mono HK.out.bel.size)); have hlt := HK.out.res.lt; have HRo := Lib.hid hrow; have HGl := Lib.hid hrow.lt; clear HK hrow x0 x1; have y0 := HR.out.c0; have y1 := HR.out.c1; have y2 := HR.out.c2; have y3 := HR.out.c3; have y4 := HR.out.c4; have f0 := HR.out.fr 0; have f1 := HR.out.fr 1; have f2 := HR.out.fr 2; have f3 := HR.out.fr 3; have f4 := HR.out.fr 4; have HS := Lib.hid (HR.out.set k r a b (.slice (some ⟨g, 0, none⟩) z.length z.length)); have z0 := HS.out.c0; have z1 := HS.out.c1; have z2 := HS.out.c2; have z3 := HS.out.c3; have z4 := HS.out.c4))
    refine bodyPost_ret (v := .tuple #[A5 k r a b (.slice (some ⟨g, 0, none⟩) z.length z.length), .int .i64 0]) (by simp [results, Tryd.results41, go_sem, z0, z1, z2, z3, z4]) rfl ?_
    exact ⟨_, rfl, .inr ⟨g, rfl, by omega, HRo.out.of_block (st5_other _ _ _ _ _ (by omega))⟩, st5_below _ _ _ _ _ (by omega) HB.out⟩
  · rw [mk_no hk]
    obtain ⟨E, hE⟩ : ∃ E, ck ⟨k, r, a, b, z⟩ = E := ⟨_, rfl⟩
    rw [hE] at hk HC ⊢
    have k1 : (E != 0) = true := by simpa using hk
    have HNz := Lib.hid hk
    clear hk hE
    go_enter Tryd.func41, Tryd.ntmps41
    go_wp2_with (first
      | (go_at_call 54; refine (HC.out _ HK.out.lay HK.out.rd).mono ?_; rintro e w' ⟨rfl, hb⟩; have HK2 := Lib.hid (HK.out.next hb); clear HK hb x0 x1; have HK := HK2; clear HK2; have y0 := HK.out.res.c0; have y1 := HK.out.res.c1; have y2 := HK.out.res.c2; have y3 := HK.out.res.c3; have y4 := HK.out.res.c4; have f0 := HK.out.res.fr 0; have f1 := HK.out.res.fr 1; have f2 := HK.out.res.fr 2; have f3 := HK.out.res.fr 3; have f4 := HK.out.res.fr 4; have HS := Lib.hid (HK.out.res.set 0 0 0 0 (.slice none 0 0)); have z0 := HS.out.c0; have z1 := HS.out.c1; have z2 := HS.out.c2; have z3 := HS.out.c3; have z4 := HS.out.c4))
    exact bodyPost_ret (v := .tuple #[A5 0 0 0 0 (.slice none 0 0), .int .i64 E]) (by simp [results, Tryd.results41, go_sem, z0, z1, z2, z3, z4]) rfl (retW_no HNz.out (st5_below _ _ _ _ _ (by omega) HK.out.bel))

end Go.Proofs.YtbeoigmaieiigaaDoor
