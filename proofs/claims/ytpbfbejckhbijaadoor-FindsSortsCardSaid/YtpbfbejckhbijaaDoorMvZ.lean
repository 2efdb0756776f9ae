/- Several texts as one (a claim has at most 60 files): MvB, MvC, MvD, MvE, MvF, MvG, MvH, MvI, MvJ, MvK, MvL, MvM, MvN, MvO. -/
import Derived.Test.YtpbfbejckhbijaaDoorMvA
import Derived.Deep.RegionHeld3
import Derived.BigQuiet
import Derived.Shelf.RegionOpenPlain
import Derived.Laws.CopyRow
import Derived.Laws.IdiomCopy
import Derived.Deep.DeepCutAuto
import Derived.StillTailTactics
namespace Go.Proofs.YtpbfbejckhbijaaDoor
open Go.RowKit

/-- An operand: an array, the kind that is asked for, the least and the greatest rank. -/
structure Opd where
  A : Ar
  v : Value
  k : Int
  l : Int
  m : Int
/-- An operand lies in memory. -/
structure OpAt (w : World) (g o : Nat) (x : Opd) : Prop where
  c0 : w.cell? ⟨g, o, none⟩ = some (.int .i64 x.A.k)
  c1 : w.cell? ⟨g, o + 1, none⟩ = some (.int .i64 x.A.r)
  c2 : w.cell? ⟨g, o + 2, none⟩ = some (.int .i64 x.A.a)
  c3 : w.cell? ⟨g, o + 3, none⟩ = some (.int .i64 x.A.b)
  c4 : w.cell? ⟨g, o + 4, none⟩ = some x.v
  c5 : w.cell? ⟨g, o + 5, none⟩ = some (.int .i64 x.k)
  c6 : w.cell? ⟨g, o + 6, none⟩ = some (.int .i64 x.l)
  c7 : w.cell? ⟨g, o + 7, none⟩ = some (.int .i64 x.m)
theorem OpAt.below {w w' : World} {g o B : Nat} {x : Opd} (h : OpAt w g o x) (hg : g < B) (hb : Below B w w') : OpAt w' g o x :=
  ⟨(hb.cell (p := ⟨g, o, none⟩) hg).trans h.c0, (hb.cell (p := ⟨g, o + 1, none⟩) hg).trans h.c1, (hb.cell (p := ⟨g, o + 2, none⟩) hg).trans h.c2, (hb.cell (p := ⟨g, o + 3, none⟩) hg).trans h.c3,
   (hb.cell (p := ⟨g, o + 4, none⟩) hg).trans h.c4, (hb.cell (p := ⟨g, o + 5, none⟩) hg).trans h.c5, (hb.cell (p := ⟨g, o + 6, none⟩) hg).trans h.c6, (hb.cell (p := ⟨g, o + 7, none⟩) hg).trans h.c7⟩
def Opd.bad (x : Opd) : Prop := x.A.r < x.l ∨ x.m < x.A.r
/-- What fault returns. -/
def FaIs (L : List Opd) (E : Int) : Prop :=
  (∃ (j : Nat) (h : j < L.length), (∀ t (ht : t < L.length), t < j → ck L[t].A = 0) ∧ ck L[j].A = E ∧ E ≠ 0) ∨
  ((∀ t (ht : t < L.length), ck L[t].A = 0) ∧
    (((∃ (j : Nat) (h : j < L.length), L[j].A.k ≠ L[j].k) ∧ E = 21) ∨
     ((∀ t (ht : t < L.length), L[t].A.k = L[t].k) ∧
       (((∃ (j : Nat) (h : j < L.length), L[j].bad) ∧ E = 22) ∨ ((∀ t (ht : t < L.length), ¬ L[t].bad) ∧ E = 0)))))
theorem fa_one {x : Opd} {E : Int} (hk : x.A.k = x.k) (h : FaIs [x] E) : E = oneE x.A x.l x.m := by
  unfold oneE
  rcases h with ⟨j, hj, _, h1, h2⟩ | ⟨h1, h⟩
  · have : j = 0 := by simp at hj; omega
    subst this
    simp only [List.getElem_cons_zero] at h1
    rw [if_neg (by omega), h1]
  · have c0 : ck x.A = 0 := h1 0 (by simp)
    rw [if_pos c0]
    rcases h with ⟨⟨j, hj, h2⟩, _⟩ | ⟨_, ⟨⟨j, hj, h2⟩, h3⟩ | ⟨h2, h3⟩⟩
    · have : j = 0 := by simp at hj; omega
      subst this
      exact absurd hk h2
    · have : j = 0 := by simp at hj; omega
      subst this
      rw [if_pos (show x.A.r < x.l ∨ x.m < x.A.r from h2), h3]
    · rw [if_neg (show ¬ (x.A.r < x.l ∨ x.m < x.A.r) from h2 0 (by simp)), h3]
theorem fa_two {x y : Opd} {E : Int} (h : FaIs [x, y] E) : E = twoE x.A y.A x.k y.k x.l x.m y.l y.m := by
  unfold twoE
  have two : ∀ j, j < [x, y].length → j = 0 ∨ j = 1 := fun j hj => by simp at hj; omega
  rcases h with ⟨j, hj, h0, h1, h2⟩ | ⟨h1, h⟩
  · rcases two j hj with rfl | rfl
    · simp only [List.getElem_cons_zero] at h1
      rw [if_neg (by omega), h1]
    · simp only [List.getElem_cons_succ, List.getElem_cons_zero] at h1
      have c0 : ck x.A = 0 := h0 0 (by simp) (by omega)
      rw [if_pos c0, if_neg (by omega), h1]
  · have c0 : ck x.A = 0 := h1 0 (by simp)
    have c1 : ck y.A = 0 := h1 1 (by simp)
    rw [if_pos c0, if_pos c1]
    rcases h with ⟨⟨j, hj, h2⟩, h3⟩ | ⟨hk, ⟨⟨j, hj, h2⟩, h3⟩ | ⟨h2, h3⟩⟩
    · rw [if_neg, h3]
      rintro ⟨e1, e2⟩
      rcases two j hj with rfl | rfl
      · exact h2 e1
      · exact h2 e2
    · rw [if_pos ⟨hk 0 (by simp), hk 1 (by simp)⟩, if_pos, h3]
      rcases two j hj with rfl | rfl
      · rcases h2 with e | e
        · exact .inl e
        · exact .inr (.inl e)
      · rcases h2 with e | e
        · exact .inr (.inr (.inl e))
        · exact .inr (.inr (.inr e))
    · have n0 := h2 0 (by simp)
      have n1 := h2 1 (by simp)
      unfold Opd.bad at n0 n1
      simp only [List.getElem_cons_zero, List.getElem_cons_succ] at n0 n1
      rw [if_pos ⟨hk 0 (by simp), hk 1 (by simp)⟩, if_neg (by omega), h3]

end Go.Proofs.YtpbfbejckhbijaaDoor
namespace Go.Proofs.YtpbfbejckhbijaaDoor
open Go.RowKit

/-- A row of numbers, new from B on. -/
def OwnW (B : Nat) (w : World) (v : Value) (l : List Int) : Prop := ∃ g, v = .slice (some ⟨g, 0, none⟩) l.length l.length ∧ B ≤ g ∧ w.rowIs g 2 l.length (zf l l.length)
def RetWA (A : Ar) (w : World) (e : Ending) (w' : World) : Prop := ∃ u, e = .returned (A5 A.k A.r A.a A.b u) ∧ OwnW w.heap.size w' u A.z ∧ Below w.heap.size w w'
/-- An array with such a row, and an error; with an error nothing. -/
def RetW (A : Ar) (n : Int) (w : World) (e : Ending) (w' : World) : Prop := ∃ u, e = .returned (.tuple #[A5 A.k A.r A.a A.b u, .int .i64 n]) ∧ ((n ≠ 0 ∧ u = .slice none 0 0 ∧ A.z = []) ∨ OwnW w.heap.size w' u A.z) ∧ Below w.heap.size w w'
theorem zf_own {B : Nat} {w : World} {g : Nat} {z : List Int} (h : w.rowIs g 2 z.length (zf z z.length)) (hB : B ≤ g) : OwnW B w (.slice (some ⟨g, 0, none⟩) z.length z.length) z := ⟨g, rfl, hB, h⟩
theorem OwnW.rdn {B : Nat} {w : World} {v : Value} {l : List Int} (h : OwnW B w v l) (hl : l.length ≤ 1000000) : RdN B w v l := by
  obtain ⟨g, rfl, hB, h⟩ := h
  exact zf_new rfl h hl hB
theorem retW_no {w w' : World} {n : Int} (hn : n ≠ 0) (hb : Below w.heap.size w w') : RetW Ar.no n w (.returned (.tuple #[A5 0 0 0 0 (.slice none 0 0), .int .i64 n])) w' := ⟨_, rfl, .inl ⟨hn, rfl, rfl⟩, hb⟩

set_option maxRecDepth 100000 in
set_option maxHeartbeats 4000000 in
theorem filledW_any (k r a b : Int) (v : Value) (z : List Int) (w : World) (hv : RdI w.heap.size w v z) (hl : z.length ≤ 500) :
    Calls Tryd.prog 34 #[.int .i64 k, .int .i64 r, P2 a b, v] w (RetWA ⟨k, r, a, b, z⟩ w) := by
  have HV := Lib.hid hv
  obtain ⟨p, cap, rfl, hcap, hcap2, hcell⟩ := hv
  clear hcell
  obtain ⟨i0, hi, hz0, hz1, hz2⟩ := info_parts info64
  generalize hO : Obj.cells #[Value.int .i64 a, Value.int .i64 b] 22 = O0
  generalize hO' : Obj.cells #[Value.int .i64 0, Value.int .i64 0, Value.int .i64 0, Value.int .i64 0, Value.slice none 0 0] 25 = O1
  have e1 : ((w.alloc O0).alloc O1).heap.size = w.heap.size + 2 := by simp
  have hmk := run_make (P := Tryd.prog) ((w.alloc O0).alloc O1) 23 2 i0 (.int .i64 0) Tryd.underlying23 hi hz0 .i64 .i64 z.length z.length (by omega) (by omega) (by rw [hz2]; omega) (by omega)
  rw [Int.toNat_natCast, hz1, Nat.mul_one, e1] at hmk
  have hr0 : (((w.alloc O0).alloc O1).alloc (.cells (madeCells (Value.int .i64 0).cells z.length) 2)).rowIs (w.heap.size + 2) 2 z.length (zf z 0) := by
    rw [← e1]
    exact (World.rowIs_made ((w.alloc O0).alloc O1) (.int .i64 0) z.length 2).congr fun i _ => by unfold zf; rw [if_neg (by omega)]
  have hb0 := bel1 ((w.alloc O0).alloc O1) (.cells (madeCells (Value.int .i64 0).cells z.length) 2)
  have hb00 : Below w.heap.size w ((w.alloc O0).alloc O1) := (bel1 w O0).trans ((bel1 _ O1).mono (by simp))
  have HA0 : Hid (R2 (((w.alloc O0).alloc O1).alloc (.cells (madeCells (Value.int .i64 0).cells z.length) 2)) w.heap.size a b) := by
    unfold Hid; rw [← hO]; exact ((R2.new w a b).alloc _).alloc _
  have HC0 : Hid (R5 (((w.alloc O0).alloc O1).alloc (.cells (madeCells (Value.int .i64 0).cells z.length) 2)) (w.heap.size + 1) 0 0 0 0 (.slice none 0 0)) := by
    unfold Hid
    have : (w.alloc O0).heap.size = w.heap.size + 1 := by simp
    rw [← hO', ← this]; exact (R5.new _ _ _ _ _ _).alloc _
  have HB0 := Lib.hid (hb00.trans (hb0.mono hb00.size))
  have HR0 := Lib.hid hr0
  clear hr0 hb0 hb00
  generalize hW1 : ((w.alloc O0).alloc O1).alloc (.cells (madeCells (Value.int .i64 0).cells z.length) 2) = W1 at hmk HC0 HA0 HB0 HR0
  clear hW1
  subst hO hO'
  clear e1
  have g0 := HA0.out.c0
  have g1 := HA0.out.c1
  go_enter Tryd.func34, Tryd.ntmps34
  go_wp2
  clear hmk
  go_loopg [17] z.length (fun g i wr => ∃ j : Nat, j + g = z.length ∧ i = .int .i64 j ∧ Below w.heap.size w wr ∧ R2 wr w.heap.size a b ∧ R5 wr (w.heap.size + 1) 0 0 0 0 (.slice none 0 0) ∧ wr.rowIs (w.heap.size + 2) 2 z.length (zf z j))
  case atStart => exact ⟨0, by omega, rfl, HB0.out, HA0.out, HC0.out, HR0.out⟩
  case round =>
    obtain ⟨j, hjg, rfl, hbl, h2, h5, hrow⟩ := hrel
    have x0 := h2.c0; have x1 := h2.c1
    have H2 := Lib.hid h2
    have H5 := Lib.hid h5
    have HRo := Lib.hid hrow
    clear h2 h5 hrow g0 g1
    cases gk with
    | zero =>
      have hjz : ¬ ((j : Int) < (z.length : Int)) := by omega
      have HJ : Hid (j = z.length) := by unfold Hid; omega
      have y0 := H5.out.c0; have y1 := H5.out.c1; have y2 := H5.out.c2; have y3 := H5.out.c3; have y4 := H5.out.c4
      have f0 := H5.out.fr 0; have f1 := H5.out.fr 1; have f2 := H5.out.fr 2; have f3 := H5.out.fr 3; have f4 := H5.out.fr 4
      have HF := Lib.hid (H5.out.set k r a b (.slice (some ⟨w.heap.size + 2, 0, none⟩) z.length z.length))
      have z0 := HF.out.c0; have z1 := HF.out.c1; have z2 := HF.out.c2; have z3 := HF.out.c3; have z4 := HF.out.c4
      go_wp2
      refine bodyPost_ret (v := A5 k r a b (.slice (some ⟨w.heap.size + 2, 0, none⟩) z.length z.length)) (by simp [results, Tryd.results34, go_sem, z0, z1, z2, z3, z4]) rfl ?_
      refine ⟨_, rfl, zf_own ?_ (by omega), st5_below _ _ _ _ _ (by omega) hbl⟩
      have := HRo.out
      rw [HJ.out] at this
      exact this.of_block (st5_other _ _ _ _ _ (by omega))
    | succ g =>
      have hjz : (j : Int) < (z.length : Int) := by omega
      have hj : j < z.length := by omega
      obtain ⟨bk, off, rfl, hbb, hc⟩ := (HV.out.below hbl).cells (by intro e; rw [e] at hj; simp at hj)
      have x2 := hc j hj
      have HG : Hid (z.getD j 0 = z[j]) := by unfold Hid; rw [List.getD_eq_getElem?_getD, List.getElem?_eq_getElem hj]; rfl
      obtain ⟨x, hx⟩ : ∃ x, z[j] = x := ⟨_, rfl⟩
      rw [hx] at x2 HG
      clear hc hx
      have hy : wr.cell? ⟨w.heap.size + 2, j, none⟩ = some (.int .i64 0) := by
        rw [HRo.out.cell hj]; unfold zf; rw [if_neg (by omega)]
      have hyf : wr.frozen? ⟨w.heap.size + 2, j, none⟩ = false := HRo.out.frozen j
      go_wp2
      go_roundg g
      case measure => omega
      case rel => exact ⟨j + 1, by omega, by go_num, hbl.setCell (p := ⟨w.heap.size + 2, j, none⟩) (by show w.heap.size ≤ w.heap.size + 2; omega) _, (blkO _ _ _ _ (by omega)).trans H2.out, (blkO _ _ _ _ (by omega)).trans H5.out, zf_next HRo.out HG.out⟩
set_option maxRecDepth 100000 in
set_option maxHeartbeats 4000000 in
theorem makeW_any (k r a b : Int) (z : List Int) (v : Value) (w : World) (hw : Ru.Lay w) (hv : RdI w.heap.size w v z) (hl : z.length ≤ 1000000) :
    Calls Tryd.prog 21 #[.int .i64 k, .int .i64 r, P2 a b, v] w (RetW (mk ⟨k, r, a, b, z⟩) (ck ⟨k, r, a, b, z⟩) w) := by
  have HC : Hid (∀ W, Ru.Lay W → RdI W.heap.size W v z → Calls Tryd.prog 33 #[A5 k r a b v] W fun e w' => e = .returned (.int .i64 (ck ⟨k, r, a, b, z⟩)) ∧ Below W.heap.size W w') := fun W h1 h2 => acheck_any ⟨k, r, a, b, z⟩ v W h1 h2 hl
  have HK := Lib.hid (KB.new a b hw hv)
  have x0 := HK.out.box.c0; have x1 := HK.out.box.c1
  have HF : Hid (∀ W, z.length ≤ 500 → RdI W.heap.size W v z → Calls Tryd.prog 34 #[.int .i64 k, .int .i64 r, P2 a b, v] W (RetWA ⟨k, r, a, b, z⟩ W)) := fun W h0 h => filledW_any k r a b v z W h h0
  obtain ⟨p, cap, rfl, hcap, hcap2, hcell⟩ := hv
  clear hcell
  by_cases hk : ck ⟨k, r, a, b, z⟩ = 0
  · have hz : z.length ≤ 500 := by have := (ck_good hk).len4; simp at this; omega
    rw [mk_yes hk, hk]
    rw [hk] at HC
    clear hk hw
    go_enter Tryd.func21, Tryd.ntmps21
    go_wp2_with (first
      | (go_at_call 33; refine (HC.out _ HK.out.lay HK.out.rd).mono ?_; rintro e w' ⟨rfl, hb⟩; have HK2 := Lib.hid (HK.out.next hb); clear HK hb x0 x1; have HK := HK2; clear HK2; have x0 := HK.out.box.c0; have x1 := HK.out.box.c1)
      | (go_at_call 34; refine (HF.out _ hz HK.out.rd).mono ?_; rintro e w' ⟨u, rfl, hu, hb⟩; obtain ⟨g, rfl, hBg, hrow⟩ := hu; have HR := Lib.hid (HK.out.res.next hb); have HB := Lib.hid (HK.out.bel.trans (hb.mono HK.out.bel.size)); have hlt := HK.out.res.lt; have HRo := Lib.hid hrow; have HGl := Lib.hid hrow.lt; clear HK hrow x0 x1; have y0 := HR.out.c0; have y1 := HR.out.c1; have y2 := HR.out.c2; have y3 := HR.out.c3; have y4 := HR.out.c4; have f0 := HR.out.fr 0; have f1 := HR.out.fr 1; have f2 := HR.out.fr 2; have f3 := HR.out.fr 3; have f4 := HR.out.fr 4; have HS := Lib.hid (HR.out.set k r a b (.slice (some ⟨g, 0, none⟩) z.length z.length)); have z0 := HS.out.c0; have z1 := HS.out.c1; have z2 := HS.out.c2; have z3 := HS.out.c3; have z4 := HS.out.c4))
    refine bodyPost_ret (v := .tuple #[A5 k r a b (.slice (some ⟨g, 0, none⟩) z.length z.length), .int .i64 0]) (by simp [results, Tryd.results21, go_sem, z0, z1, z2, z3, z4]) rfl ?_
    exact ⟨_, rfl, .inr ⟨g, rfl, by omega, HRo.out.of_block (st5_other _ _ _ _ _ (by omega))⟩, st5_below _ _ _ _ _ (by omega) HB.out⟩
  · rw [mk_no hk]
    obtain ⟨E, hE⟩ : ∃ E, ck ⟨k, r, a, b, z⟩ = E := ⟨_, rfl⟩
    rw [hE] at hk HC ⊢
    have k1 : (E != 0) = true := by simpa using hk
    have HNz := Lib.hid hk
    clear hk hE
    go_enter Tryd.func21, Tryd.ntmps21
    go_wp2_with (first
      | (go_at_call 33; refine (HC.out _ HK.out.lay HK.out.rd).mono ?_; rintro e w' ⟨rfl, hb⟩; have HK2 := Lib.hid (HK.out.next hb); clear HK hb x0 x1; have HK := HK2; clear HK2; have y0 := HK.out.res.c0; have y1 := HK.out.res.c1; have y2 := HK.out.res.c2; have y3 := HK.out.res.c3; have y4 := HK.out.res.c4; have f0 := HK.out.res.fr 0; have f1 := HK.out.res.fr 1; have f2 := HK.out.res.fr 2; have f3 := HK.out.res.fr 3; have f4 := HK.out.res.fr 4; have HS := Lib.hid (HK.out.res.set 0 0 0 0 (.slice none 0 0)); have z0 := HS.out.c0; have z1 := HS.out.c1; have z2 := HS.out.c2; have z3 := HS.out.c3; have z4 := HS.out.c4))
    exact bodyPost_ret (v := .tuple #[A5 0 0 0 0 (.slice none 0 0), .int .i64 E]) (by simp [results, Tryd.results21, go_sem, z0, z1, z2, z3, z4]) rfl (retW_no HNz.out (st5_below _ _ _ _ _ (by omega) HK.out.bel))

end Go.Proofs.YtpbfbejckhbijaaDoor
namespace Go.Proofs.YtpbfbejckhbijaaDoor
open Go.RowKit

theorem RetW.toE {A : Ar} {n : Int} {w w' : World} {e : Ending} (hl : A.z.length ≤ 1000000) (h : RetW A n w e w') : RetE A n w e w' := by
  obtain ⟨u, h1, h2, h3⟩ := h
  refine ⟨u, h1, ?_, h3⟩
  rcases h2 with ⟨_, rfl, hz⟩ | h2
  · rw [hz]; exact RdN.nil _ _
  · exact h2.rdn hl
/-- What a walk keeps: the result's block, a slice. -/
structure KM (w : World) (v : Value) (z : List Int) (w' : World) : Prop where
  bel : Below w.heap.size w w'
  res : R5 w' w.heap.size 0 0 0 0 (.slice none 0 0)
  rd : RdI w'.heap.size w' v z
  lay : Ru.Lay w'
theorem KM.new {w : World} {v : Value} {z : List Int} (hw : Ru.Lay w) (hv : RdI w.heap.size w v z) : KM w v z (w.alloc (.cells #[.int .i64 0, .int .i64 0, .int .i64 0, .int .i64 0, .slice none 0 0] 25)) := ⟨bel1 _ _, R5.new _ _ _ _ _ _, hv.next (bel1 _ _), hw.alloc _⟩

/-- What the region of blank keeps. -/
structure KL (w : World) (a b : Int) (w' : World) : Prop where
  bel : Below w.heap.size w w'
  box : R2 w' w.heap.size a b
  sz : w.heap.size + 1 < w'.heap.size
theorem KL.next {w W W' : World} {a b : Int} (h : KL w a b W) (hb : Below (w.heap.size + 1) W W') : KL w a b W' :=
  ⟨h.bel.trans (hb.mono (by omega)), (hb.block _ (by omega)).trans h.box, Nat.lt_of_lt_of_le h.sz hb.size⟩
abbrev KL2 (w : World) (a b : Int) (W : World) : Prop := KL w a b W ∧ W.cell? ⟨w.heap.size, 0, none⟩ = some (.int .i64 a) ∧ W.cell? ⟨w.heap.size, 1, none⟩ = some (.int .i64 b)
theorem KL.all {w W : World} {a b : Int} (h : KL w a b W) : KL2 w a b W := ⟨h, h.box.c0, h.box.c1⟩
/-- The world of blank, as its call begins. -/
theorem KL.new (w : World) (a b : Int) : KL w a b ((w.alloc (.cells #[.int .i64 a, .int .i64 b] 22)).alloc (.cells #[.int .i64 0, .int .i64 0, .int .i64 0, .int .i64 0, .slice none 0 0] 25)) :=
  ⟨(bel1 _ _).trans ((bel1 _ _).mono (by simp)), (R2.new w a b).alloc _, by simp⟩
theorem res_new (w : World) (a b : Int) : R5 ((w.alloc (.cells #[.int .i64 a, .int .i64 b] 22)).alloc (.cells #[.int .i64 0, .int .i64 0, .int .i64 0, .int .i64 0, .slice none 0 0] 25)) (w.heap.size + 1) 0 0 0 0 (.slice none 0 0) := by
  have : (w.alloc (.cells #[.int .i64 a, .int .i64 b] 22)).heap.size = w.heap.size + 1 := by simp
  rw [← this]; exact R5.new _ _ _ _ _ _
theorem made_zeros (n : Nat) (W : World) (hn : n ≤ 1000000) : RdI (W.alloc (.cells (madeCells (Value.int .i64 0).cells n) 2)).heap.size (W.alloc (.cells (madeCells (Value.int .i64 0).cells n) 2)) (.slice (some ⟨W.heap.size, 0, none⟩) n n) (List.replicate n 0) := by
  refine zf_all (by simp) ((made_row n W).congr fun i hi => ?_) hn
  unfold zf
  rw [if_pos hi, List.getD_eq_getElem?_getD, List.getElem?_replicate]
  simp [hi]

end Go.Proofs.YtpbfbejckhbijaaDoor
namespace Go.Proofs.YtpbfbejckhbijaaDoor
open Go.RowKit

/-- Row i of the cells at p, of m numbers. -/
def rp (p : Option Addr) (m i : Nat) : Value := match p with | some ad => .slice (some ⟨ad.block, ad.off + i * m, ad.spot⟩) m m | none => .slice none 0 0
/-- The rows, as far as they have been written. -/
def rq (p : Option Addr) (m k i : Nat) : Value := if i < k then rp p m i else .slice none 0 0
theorem rq_next {w : World} {b n m k : Nat} {p : Option Addr} {x : Value} (h : w.rowIs b 23 n (rq p m k)) (hx : rp p m k = x) : (w.setCell ⟨b, k, none⟩ x).rowIs b 23 n (rq p m (k + 1)) := by
  subst hx
  refine (h.set k _).congr fun i hi => ?_
  show (if i = k then rp p m k else rq p m k i) = rq p m (k + 1) i
  unfold rq
  by_cases e : i = k
  · subst e; rw [if_pos rfl, if_pos (by omega)]
  · rw [if_neg e]
    by_cases e2 : i < k
    · rw [if_pos e2, if_pos (by omega)]
    · rw [if_neg e2, if_neg (by omega)]
theorem rq_all {w : World} {b n m : Nat} {p : Option Addr} (h : w.rowIs b 23 n (rq p m n)) : w.rowIs b 23 n (rp p m) := h.congr fun i hi => by unfold rq; rw [if_pos hi]
/-- What a walk of rows keeps. -/
structure KE (w : World) (A : Ar) (v : Value) (W : World) : Prop where
  bel : Below w.heap.size w W
  sz : w.heap.size < W.heap.size
  blk : R5 W w.heap.size A.k A.r A.a A.b v
theorem KE.far {w W W' : World} {A : Ar} {v : Value} (h : KE w A v W) (hb : Below (w.heap.size + 1) W W') : KE w A v W' :=
  ⟨h.bel.trans (hb.mono (by omega)), Nat.lt_of_lt_of_le h.sz hb.size, (hb.block _ (by omega)).trans h.blk⟩
theorem KE.next {w W W' : World} {A : Ar} {v : Value} (h : KE w A v W) (hb : Below W.heap.size W W') : KE w A v W' := h.far (hb.mono h.sz)
theorem KE.new (w : World) (A : Ar) (v : Value) : KE w A v (w.alloc (.cells #[.int .i64 A.k, .int .i64 A.r, .int .i64 A.a, .int .i64 A.b, v] 25)) := ⟨bel1 _ _, by simp, R5.new _ _ _ _ _ _⟩
theorem KE.put {w W : World} {A : Ar} {v : Value} (h : KE w A v W) {g : Nat} (hg : w.heap.size < g) (j : Nat) (x : Value) : KE w A v (W.setCell ⟨g, j, none⟩ x) := h.far ((Below.refl _ _).setCell (p := ⟨g, j, none⟩) (by show w.heap.size + 1 ≤ g; omega) _)

theorem rp_some (b off : Nat) (m i : Nat) : rp (some ⟨b, off, none⟩) m i = .slice (some ⟨b, off + i * m, none⟩) m m := rfl
theorem rp_zero (ad : Addr) (i : Nat) : rp (some ad) 0 i = .slice (some ad) 0 0 := by simp [rp]
theorem rp_nil (i : Nat) : rp none 0 i = .slice none 0 0 := rfl
end Go.Proofs.YtpbfbejckhbijaaDoor
namespace Go.Proofs.YtpbfbejckhbijaaDoor
open Go.RowKit

/-- All blocks but one are as they were. -/
structure But (g : Nat) (w w' : World) : Prop where
  os : w'.os = w.os
  tape : w'.tape = w.tape
  output : w'.output = w.output
  size : w'.heap.size = w.heap.size
  block : ∀ k, k ≠ g → w'.heap[k]? = w.heap[k]?
theorem But.refl (g : Nat) (w : World) : But g w w := ⟨rfl, rfl, rfl, rfl, fun _ _ => rfl⟩
theorem But.trans {g : Nat} {a b c : World} (h : But g a b) (k : But g b c) : But g a c := ⟨k.os.trans h.os, k.tape.trans h.tape, k.output.trans h.output, k.size.trans h.size, fun i hi => (k.block i hi).trans (h.block i hi)⟩
theorem But.drew {g : Nat} {a w : World} (h : But g a w) : But g a w.drew := ⟨h.os, h.tape, h.output, h.size, h.block⟩
theorem But.setCell {g : Nat} {a w : World} (h : But g a w) (j : Nat) (x : Value) : But g a (w.setCell ⟨g, j, none⟩ x) :=
  h.trans ⟨rfl, rfl, rfl, by simp [World.setCell], fun k hk => Below.heap_setCell _ _ _ _ hk⟩
theorem But.below {g B : Nat} {w w' : World} (h : But g w w') (hB : B ≤ g) : Below B w w' := ⟨h.os, h.tape, h.output, Nat.le_of_eq h.size.symm, fun k hk => h.block k (by omega)⟩
/-- A row of numbers by its function. -/
abbrev rowZ (w : World) (g n : Nat) (f : Nat → Int) : Prop := w.rowIs g 2 n (fun i => .int .i64 (f i))
theorem rowZ.put {w : World} {g n : Nat} {f : Nat → Int} (h : rowZ w g n f) (k : Nat) (x : Int) : rowZ (w.setCell ⟨g, k, none⟩ (.int .i64 x)) g n (fun i => if i = k then x else f i) := by
  refine (h.set k _).congr fun i hi => ?_
  show (if i = k then Value.int .i64 x else .int .i64 (f i)) = .int .i64 (if i = k then x else f i)
  by_cases e : i = k
  · rw [if_pos e, if_pos e]
  · rw [if_neg e, if_neg e]
theorem rowZ.congr {w : World} {g n : Nat} {f h : Nat → Int} (hw : rowZ w g n f) (e : ∀ i, i < n → f i = h i) : rowZ w g n h := World.rowIs.congr hw fun i hi => by rw [e i hi]
/-- The part from o on, of m numbers, after t exchanges from both ends. -/
def rvF (f : Nat → Int) (o m t i : Nat) : Int := if o ≤ i ∧ i < o + m ∧ (i < o + t ∨ o + m ≤ i + t) then f (o + (m - 1 - (i - o))) else f i
theorem rvF_zero (f : Nat → Int) (o m i : Nat) : rvF f o m 0 i = f i := by unfold rvF; rw [if_neg (by omega)]
theorem rvF_end {f : Nat → Int} {o m t : Nat} (h : m ≤ 2 * t + 1) (i : Nat) : rvF f o m t i = if o ≤ i ∧ i < o + m then f (o + (m - 1 - (i - o))) else f i := by
  unfold rvF
  by_cases h1 : o ≤ i ∧ i < o + m
  · rw [if_pos h1]
    by_cases h2 : i < o + t ∨ o + m ≤ i + t
    · rw [if_pos ⟨h1.1, h1.2, h2⟩]
    · rw [if_neg (by omega)]
      congr 1; omega
  · rw [if_neg h1, if_neg (by omega)]
theorem rvF_next {f : Nat → Int} {o m t j : Nat} (h : t + j + 1 = m) (ht : t < j) (i : Nat) : rvF f o m (t + 1) i = if i = o + j then f (o + t) else if i = o + t then f (o + j) else rvF f o m t i := by
  by_cases h1 : i = o + j
  · rw [if_pos h1]
    unfold rvF
    rw [if_pos (by omega)]
    congr 1; omega
  · rw [if_neg h1]
    by_cases h2 : i = o + t
    · rw [if_pos h2]
      unfold rvF
      rw [if_pos (by omega)]
      congr 1; omega
    · rw [if_neg h2]
      unfold rvF
      by_cases h3 : o ≤ i ∧ i < o + m ∧ (i < o + t ∨ o + m ≤ i + t)
      · rw [if_pos h3, if_pos (by omega)]
      · rw [if_neg h3, if_neg (by omega)]
theorem rvF_mid {f : Nat → Int} {o m t j : Nat} (h : t + j + 1 = m) (ht : t < j) : rvF f o m t (o + t) = f (o + t) ∧ rvF f o m t (o + j) = f (o + j) := by
  unfold rvF
  rw [if_neg (by omega), if_neg (by omega)]
  exact ⟨rfl, rfl⟩
/-- What the loop keeps. -/
structure Rv (w : World) (g n : Nat) (f : Nat → Int) (o m t : Nat) (W : World) : Prop where
  row : rowZ W g n (rvF f o m t)
  but : But g w W
theorem Rv.swap {w W : World} {g n : Nat} {f : Nat → Int} {o m t j : Nat} (h : Rv w g n f o m t W) (hj : t + j + 1 = m) (ht : t < j) :
    Rv w g n f o m (t + 1) ((W.setCell ⟨g, o + t, none⟩ (.int .i64 (f (o + j)))).setCell ⟨g, o + j, none⟩ (.int .i64 (f (o + t)))) :=
  ⟨((h.row.put _ _).put _ _).congr fun i _ => by rw [rvF_next hj ht], (h.but.setCell _ _).setCell _ _⟩
theorem Rv.swap' {w W : World} {g n : Nat} {f : Nat → Int} {o m t j : Nat} (h : Rv w g n f o m t W) (hj : t + j + 1 = m) (ht : t < j) :
    Rv w g n f o m (t + 1) ((W.setCell ⟨g, o + j, none⟩ (.int .i64 (f (o + t)))).setCell ⟨g, o + t, none⟩ (.int .i64 (f (o + j)))) :=
  ⟨((h.row.put _ _).put _ _).congr fun i _ => by
    rw [rvF_next hj ht]
    by_cases e : i = o + j
    · rw [if_pos e, if_neg (by omega), if_pos e]
    · rw [if_neg e, if_neg e], (h.but.setCell _ _).setCell _ _⟩
theorem Rv.drew {w W : World} {g n : Nat} {f : Nat → Int} {o m t : Nat} (h : Rv w g n f o m t W) : Rv w g n f o m t W.drew := ⟨h.row.drew, h.but.drew⟩

end Go.Proofs.YtpbfbejckhbijaaDoor
namespace Go.Proofs.YtpbfbejckhbijaaDoor
open Go.RowKit

/-- What a walk over one array keeps. -/
structure MK1 (w : World) (A : Ar) (v : Value) (W : World) : Prop where
  bel : Below w.heap.size w W
  sz : w.heap.size + 2 ≤ W.heap.size
  box : R5 W w.heap.size A.k A.r A.a A.b v
  res : R5 W (w.heap.size + 1) 0 0 0 0 (.slice none 0 0)
  rd : RdI w.heap.size W v A.z
  lay : Ru.Lay W
theorem MK1.far {w W W' : World} {A : Ar} {v : Value} (h : MK1 w A v W) (hb : Below (w.heap.size + 2) W W') (hl : Ru.Lay W') : MK1 w A v W' :=
  ⟨h.bel.trans (hb.mono (by omega)), Nat.le_trans h.sz hb.size, (hb.block _ (by omega)).trans h.box, (hb.block _ (by omega)).trans h.res, h.rd.below (hb.mono (by omega)), hl⟩
theorem MK1.next {w W W' : World} {A : Ar} {v : Value} (h : MK1 w A v W) (hb : Below W.heap.size W W') : MK1 w A v W' := h.far (hb.mono h.sz) (h.lay.next hb)
theorem MK1.rdn {w W : World} {A : Ar} {v : Value} (h : MK1 w A v W) : RdI W.heap.size W v A.z := h.rd.mono h.bel.size
theorem MK1.new {w : World} {A : Ar} {v : Value} (hw : Ru.Lay w) (hv : RdI w.heap.size w v A.z) : MK1 w A v ((w.alloc (.cells #[.int .i64 A.k, .int .i64 A.r, .int .i64 A.a, .int .i64 A.b, v] 25)).alloc (.cells #[.int .i64 0, .int .i64 0, .int .i64 0, .int .i64 0, .slice none 0 0] 25)) := by
  have e : (w.alloc (.cells #[.int .i64 A.k, .int .i64 A.r, .int .i64 A.a, .int .i64 A.b, v] 25)).heap.size = w.heap.size + 1 := by simp
  have hb : Below w.heap.size w ((w.alloc (.cells #[.int .i64 A.k, .int .i64 A.r, .int .i64 A.a, .int .i64 A.b, v] 25)).alloc (.cells #[.int .i64 0, .int .i64 0, .int .i64 0, .int .i64 0, .slice none 0 0] 25)) := (bel1 _ _).trans ((bel1 _ _).mono (by simp))
  refine ⟨hb, by simp, (R5.new _ _ _ _ _ _).alloc _, ?_, hv.below hb, (hw.alloc _).alloc _⟩
  rw [← e]; exact R5.new _ _ _ _ _ _
theorem one_all (A : Ar) : oneE A 0 2 = ck A := by
  unfold oneE
  by_cases h : ck A = 0
  · rw [if_pos h, if_neg, h]
    have := (ck_good h).sh
    obtain ⟨k, r, a, b, z⟩ := A
    simp only at this ⊢
    cases this <;> omega
  · rw [if_neg h]
theorem ra_vec {A : Ar} (h : Good A) : ck (vecA A.k A.z) = 0 ∧ mk (vecA A.k A.z) = vecA A.k A.z := ⟨good_vec h (Nat.le_refl _) fun _ h => h, mk_yes (good_vec h (Nat.le_refl _) fun _ h => h)⟩
end Go.Proofs.YtpbfbejckhbijaaDoor
namespace Go.Proofs.YtpbfbejckhbijaaDoor
open Go.RowKit

theorem zf_rowZ {w : World} {g n : Nat} {z : List Int} (h : w.rowIs g 2 n (zf z n)) : rowZ w g n (fun i => z.getD i 0) := World.rowIs.congr h fun i hi => by unfold zf; rw [if_pos hi]
theorem rowZ.zf {w : World} {g n : Nat} {z : List Int} (h : rowZ w g n (fun i => z.getD i 0)) : w.rowIs g 2 n (zf z n) := World.rowIs.congr h fun i hi => by unfold Go.Proofs.YtpbfbejckhbijaaDoor.zf; rw [if_pos hi]
/-- Make of an array that is one: spelled out. -/
theorem make_ok {A : Ar} (h : ck A = 0) (v : Value) (w : World) (hw : Ru.Lay w) (hv : RdI w.heap.size w v A.z) (hl : A.z.length ≤ 1000000) :
    Calls Tryd.prog 21 #[.int .i64 A.k, .int .i64 A.r, P2 A.a A.b, v] w fun e w' => ∃ g, e = .returned (.tuple #[A5 A.k A.r A.a A.b (.slice (some ⟨g, 0, none⟩) A.z.length A.z.length), .int .i64 0]) ∧ w.heap.size ≤ g ∧ g < w'.heap.size ∧ rowZ w' g A.z.length (fun i => A.z.getD i 0) ∧ Below w.heap.size w w' := by
  refine (makeW_any A.k A.r A.a A.b A.z v w hw hv hl).mono ?_
  have h' : ck ⟨A.k, A.r, A.a, A.b, A.z⟩ = 0 := h
  rw [mk_yes h', h']
  rintro e w' ⟨u, h1, h2, h3⟩
  rcases h2 with ⟨hn, _⟩ | ⟨g, rfl, hg, hrow⟩
  · exact absurd rfl hn
  · exact ⟨g, h1, hg, hrow.lt, zf_rowZ hrow, h3⟩
/-- Cells, of which the first rows are reversed. -/
def rvR (A : Ar) (j i : Nat) : Int := if i < j * rwM A then (rvZ A).getD i 0 else A.z.getD i 0
theorem rvR_next {A : Ar} {j : Nat} (hj : j < rwN A) (i : Nat) : (if j * rwM A ≤ i ∧ i < j * rwM A + rwM A then rvR A j (j * rwM A + (rwM A - 1 - (i - j * rwM A))) else rvR A j i) = rvR A (j + 1) i := by
  have e : (j + 1) * rwM A = j * rwM A + rwM A := by rw [Nat.add_mul, Nat.one_mul]
  unfold rvR
  rw [e]
  by_cases h1 : j * rwM A ≤ i ∧ i < j * rwM A + rwM A
  · rw [if_pos h1, if_neg (by omega), if_pos h1.2]
    obtain ⟨k, rfl⟩ : ∃ k, i = j * rwM A + k := ⟨i - j * rwM A, by omega⟩
    rw [show j * rwM A + k - j * rwM A = k by omega]
    unfold rvZ
    rw [gl_at hj (by omega)]
  · rw [if_neg h1]
    by_cases h2 : i < j * rwM A
    · rw [if_pos h2, if_pos (by omega)]
    · rw [if_neg h2, if_neg (by omega)]
/-- What the loop of Reverse keeps. -/
structure Kv (w : World) (A : Ar) (g gb h j : Nat) (W : World) : Prop where
  bel : Below w.heap.size w W
  res : R5 W (w.heap.size + 1) 0 0 0 0 (.slice none 0 0)
  bx : R5 W gb A.k A.r A.a A.b (.slice (some ⟨g, 0, none⟩) A.z.length A.z.length)
  list : W.rowIs h 23 (rwN A) (rp (some ⟨g, 0, none⟩) (rwM A))
  row : rowZ W g A.z.length (rvR A j)
theorem Kv.next {w W W' : World} {A : Ar} {g gb h j : Nat} (k : Kv w A g gb h j W) (h1 : w.heap.size + 1 < g) (h2 : gb ≠ g) (h3 : h ≠ g) (hj : j < rwN A) (hb : But g W W')
    (hr : rowZ W' g A.z.length (fun i => if j * rwM A ≤ i ∧ i < j * rwM A + rwM A then rvR A j (j * rwM A + (rwM A - 1 - (i - j * rwM A))) else rvR A j i)) : Kv w A g gb h (j + 1) W' :=
  ⟨k.bel.trans (hb.below (by omega)), (hb.block _ (by omega)).trans k.res, (hb.block _ h2).trans k.bx, k.list.of_block (hb.block _ h3), hr.congr fun i _ => rvR_next hj i⟩
theorem rv_ok {A : Ar} (h : rvE A = 0) : Good A ∧ (A.r = 1 ∨ A.r = 2) := by
  obtain ⟨h1, h2, h3⟩ := one_ok h
  exact ⟨h1, by omega⟩

end Go.Proofs.YtpbfbejckhbijaaDoor
namespace Go.Proofs.YtpbfbejckhbijaaDoor
open Go.RowKit

/-- Cells of the flipped matrix, as far as they have been written. -/
def flF (A : Ar) (i j x : Nat) : Int := if x % rwN A < i ∨ (x % rwN A = i ∧ x / rwN A < j) then (fpZ A).getD x 0 else 0
theorem flF_zero (A : Ar) (x : Nat) : flF A 0 0 x = 0 := by unfold flF; rw [if_neg (by rintro (h | ⟨_, h⟩) <;> exact absurd h (Nat.not_lt_zero _))]
theorem flF_all {A : Ar} {i x : Nat} (hx : x < rwM A * rwN A) (hi : rwN A ≤ i) : flF A i 0 x = (fpZ A).getD x 0 := by
  obtain ⟨h1, h2, _⟩ := split_lt hx
  unfold flF
  rw [if_pos (.inl (by omega))]
theorem flF_outer {A : Ar} {i j x : Nat} (hx : x < rwM A * rwN A) (hj : rwM A ≤ j) : flF A i j x = flF A (i + 1) 0 x := by
  obtain ⟨h1, h2, _⟩ := split_lt hx
  unfold flF
  generalize x % rwN A = r at h2 ⊢
  generalize x / rwN A = q at h1 ⊢
  by_cases h : r < i + 1
  · rw [if_pos (by omega), if_pos (.inl h)]
  · rw [if_neg (by omega), if_neg (by omega)]
theorem flF_inner {A : Ar} {i j x : Nat} (hi : i < rwN A) (hj : j < rwM A) : (if x = j * rwN A + i then A.z.getD (i * rwM A + j) 0 else flF A i j x) = flF A i (j + 1) x := by
  by_cases h : x = j * rwN A + i
  · subst h
    rw [if_pos rfl]
    unfold flF
    rw [div_at hi, mod_at hi, if_pos (by omega)]
    unfold fpZ
    rw [gl_at hj hi]
  · rw [if_neg h]
    unfold flF
    have hne : ¬ (x % rwN A = i ∧ x / rwN A = j) := by
      rintro ⟨e1, e2⟩
      have := Nat.div_add_mod x (rwN A)
      rw [e1, e2, Nat.mul_comm] at this
      exact h this.symm
    by_cases h2 : x % rwN A < i ∨ (x % rwN A = i ∧ x / rwN A < j)
    · rw [if_pos h2, if_pos (by omega)]
    · rw [if_neg h2, if_neg (by omega)]
/-- What the loops of Flip keep. -/
structure Kf (w : World) (A : Ar) (v : Value) (g gb h1 h2 : Nat) (p : Option Addr) (i j : Nat) (W : World) : Prop where
  bel : Below w.heap.size w W
  res : R5 W (w.heap.size + 1) 0 0 0 0 (.slice none 0 0)
  bx : R5 W gb A.k 2 A.b A.a (.slice (some ⟨g, 0, none⟩) A.z.length A.z.length)
  l1 : W.rowIs h1 23 (rwM A) (rp (some ⟨g, 0, none⟩) (rwN A))
  l2 : W.rowIs h2 23 (rwN A) (rp p (rwM A))
  rd : RdI w.heap.size W v A.z
  row : rowZ W g A.z.length (flF A i j)
theorem Kf.inner {w W : World} {A : Ar} {v : Value} {g gb h1 h2 : Nat} {p : Option Addr} {i j : Nat} (k : Kf w A v g gb h1 h2 p i j W) (q1 : w.heap.size + 1 < g) (q2 : gb ≠ g) (q3 : h1 ≠ g) (q4 : h2 ≠ g) (hi : i < rwN A) (hj : j < rwM A) :
    Kf w A v g gb h1 h2 p i (j + 1) (W.setCell ⟨g, j * rwN A + i, none⟩ (.int .i64 (A.z.getD (i * rwM A + j) 0))) := by
  have hb : But g W (W.setCell ⟨g, j * rwN A + i, none⟩ (.int .i64 (A.z.getD (i * rwM A + j) 0))) := (But.refl _ _).setCell _ _
  exact ⟨k.bel.trans (hb.below (by omega)), (hb.block _ (by omega)).trans k.res, (hb.block _ q2).trans k.bx, k.l1.of_block (hb.block _ q3), k.l2.of_block (hb.block _ q4), k.rd.below (hb.below (by omega)), (k.row.put _ _).congr fun x _ => flF_inner hi hj⟩
theorem Kf.outer {w W : World} {A : Ar} {v : Value} {g gb h1 h2 : Nat} {p : Option Addr} {i j : Nat} (k : Kf w A v g gb h1 h2 p i j W) (hj : rwM A ≤ j) (_ : i < rwN A) (hA : A.z.length = rwN A * rwM A) : Kf w A v g gb h1 h2 p (i + 1) 0 W :=
  ⟨k.bel, k.res, k.bx, k.l1, k.l2, k.rd, k.row.congr fun x hx => flF_outer (by rw [Nat.mul_comm, ← hA]; exact hx) hj⟩
theorem fp_ok {A : Ar} (h : fpEE A = 0) : Good A ∧ A.r = 2 := by
  obtain ⟨h1, h2, h3⟩ := one_ok h
  exact ⟨h1, by omega⟩
theorem fp_blank {A : Ar} (h : Good A) (hr : A.r = 2) : ck ⟨A.k, 2, A.b, A.a, List.replicate A.z.length 0⟩ = 0 ∧ (if (2 : Int) = 2 then A.b * A.a else A.b) = (A.z.length : Int) := by
  obtain ⟨k, r, a, b, z⟩ := A
  simp only at hr
  subst hr
  have hs := h.sh
  have hl := h.len
  simp only at hs hl
  have e : (z.length : Int) = b * a := by rw [hl, Int.mul_comm]; simp [cn]
  cases hs with
  | s2 _ _ h0 h1 h2 h3 h4 =>
    refine ⟨ck_mat h.kind (Sh.s2 b a h2 h3 h0 h1 (by rw [Int.mul_comm]; exact h4)) (by rw [List.length_replicate]; exact e) (fun _ => zeros_all _), ?_⟩
    rw [if_pos rfl]; exact e.symm

end Go.Proofs.YtpbfbejckhbijaaDoor
namespace Go.Proofs.YtpbfbejckhbijaaDoor
open Go.RowKit

theorem rdI_take {B : Nat} {w : World} {p : Option Addr} {n cap : Nat} {z : List Int} (h : RdI B w (.slice p n cap) z) (k : Nat) (hk : k ≤ z.length) : RdI B w (.slice p k cap) (z.take k) := by
  obtain ⟨p', cap', e, h1, h2, h3⟩ := h
  cases e
  have hl : (z.take k).length = k := by rw [List.length_take]; omega
  refine ⟨p, cap, by rw [hl], by rw [hl]; omega, h2, fun hne => ?_⟩
  obtain ⟨b, off, e, hb, hc⟩ := h3 (by intro e; rw [e] at hne; simp at hne)
  refine ⟨b, off, e, hb, fun j hj => ?_⟩
  rw [hl] at hj
  rw [hc j (by omega), List.getElem_take]
theorem rdI_drop {B : Nat} {w : World} {ad : Addr} {n cap : Nat} {z : List Int} (h : RdI B w (.slice (some ad) n cap) z) (k : Nat) (hk : k ≤ z.length) : RdI B w (.slice (some (ad.add k)) (z.length - k) (cap - k)) (z.drop k) := by
  obtain ⟨p', cap', e, h1, h2, h3⟩ := h
  cases e
  have hl : (z.drop k).length = z.length - k := by simp
  refine ⟨_, _, by rw [hl], by rw [hl]; omega, by omega, fun hne => ?_⟩
  have hlt : k < z.length := by
    rcases Nat.lt_or_ge k z.length with h | h
    · exact h
    · exact absurd (List.drop_eq_nil_of_le h) hne
  obtain ⟨b', off', e, hb, hc⟩ := h3 (by intro e; subst e; simp at hlt)
  cases e
  refine ⟨b', off' + k, by simp [Addr.add], hb, fun j hj => ?_⟩
  rw [hl] at hj
  rw [Nat.add_assoc, hc (k + j) (by omega), List.getElem_drop]
theorem rdI_none {B : Nat} {w : World} {p : Option Addr} {cap : Nat} (h : cap ≤ 9223372036854775807) : RdI B w (.slice p 0 cap) [] := ⟨p, cap, rfl, Nat.zero_le _, h, fun h => absurd rfl h⟩
/-- What a walk over two arrays keeps. -/
structure MC2 (w : World) (A : Ar) (v : Value) (B : Ar) (u : Value) (W : World) : Prop where
  bel : Below w.heap.size w W
  sz : w.heap.size + 2 ≤ W.heap.size
  boxA : R5 W w.heap.size A.k A.r A.a A.b v
  boxB : R5 W (w.heap.size + 1) B.k B.r B.a B.b u
  rdA : RdI w.heap.size W v A.z
  rdB : RdI w.heap.size W u B.z
  lay : Ru.Lay W
theorem MC2.far {w W W' : World} {A B : Ar} {v u : Value} (h : MC2 w A v B u W) (hb : Below (w.heap.size + 2) W W') (hl : Ru.Lay W') : MC2 w A v B u W' :=
  ⟨h.bel.trans (hb.mono (by omega)), Nat.le_trans h.sz hb.size, (hb.block _ (by omega)).trans h.boxA, (hb.block _ (by omega)).trans h.boxB, h.rdA.below (hb.mono (by omega)), h.rdB.below (hb.mono (by omega)), hl⟩
theorem MC2.next {w W W' : World} {A B : Ar} {v u : Value} (h : MC2 w A v B u W) (hb : Below W.heap.size W W') : MC2 w A v B u W' := h.far (hb.mono h.sz) (h.lay.next hb)
theorem MC2.rdnA {w W : World} {A B : Ar} {v u : Value} (h : MC2 w A v B u W) : RdI W.heap.size W v A.z := h.rdA.mono h.bel.size
theorem MC2.rdnB {w W : World} {A B : Ar} {v u : Value} (h : MC2 w A v B u W) : RdI W.heap.size W u B.z := h.rdB.mono h.bel.size
theorem MC2.new {w : World} {A B : Ar} {v u : Value} (hw : Ru.Lay w) (hv : RdI w.heap.size w v A.z) (hu : RdI w.heap.size w u B.z) :
    MC2 w A v B u ((w.alloc (.cells #[.int .i64 A.k, .int .i64 A.r, .int .i64 A.a, .int .i64 A.b, v] 25)).alloc (.cells #[.int .i64 B.k, .int .i64 B.r, .int .i64 B.a, .int .i64 B.b, u] 25)) := by
  have e : (w.alloc (.cells #[.int .i64 A.k, .int .i64 A.r, .int .i64 A.a, .int .i64 A.b, v] 25)).heap.size = w.heap.size + 1 := by simp
  have hb : Below w.heap.size w ((w.alloc (.cells #[.int .i64 A.k, .int .i64 A.r, .int .i64 A.a, .int .i64 A.b, v] 25)).alloc (.cells #[.int .i64 B.k, .int .i64 B.r, .int .i64 B.a, .int .i64 B.b, u] 25)) := (bel1 _ _).trans ((bel1 _ _).mono (by simp))
  refine ⟨hb, by simp, (R5.new _ _ _ _ _ _).alloc _, ?_, hv.below hb, hu.below hb, (hw.alloc _).alloc _⟩
  rw [← e]; exact R5.new _ _ _ _ _ _
/-- A scalar has one cell. -/
theorem scalar_one {A : Ar} (h : Good A) (hr : A.r = 0) : A.z.length = 1 := by
  obtain ⟨k, r, a, b, z⟩ := A
  have hl := h.len
  simp only at hr hl
  subst hr
  simp [cn] at hl
  simp; omega
theorem fst1_cell {B : Nat} {w : World} {p : Option Addr} {n cap : Nat} {A : Ar} (h : RdI B w (.slice p n cap) A.z) (hl : 0 < A.z.length) : ∃ b off, p = some ⟨b, off, none⟩ ∧ b < B ∧ w.cell? ⟨b, off, none⟩ = some (.int .i64 (fst1 A)) := by
  obtain ⟨p', cap', e, h1, h2, h3⟩ := h
  cases e
  obtain ⟨b, off, e, hb, hc⟩ := h3 (List.length_pos_iff.1 hl)
  refine ⟨b, off, e, hb, ?_⟩
  have := hc 0 hl
  rw [Nat.add_zero] at this
  rw [this]
  unfold fst1
  rw [List.getD_eq_getElem?_getD, List.getElem?_eq_getElem hl]
  rfl
/-- What cut returns. -/
def CutR (E : Int) (n : Int) (z : List Int) (e : Ending) (w' : World) : Prop := ∃ t l, e = .returned (.tuple #[t, l, .int .i64 E]) ∧ (E = 0 → RdI w'.heap.size w' t (tkZ n z) ∧ RdI w'.heap.size w' l (drZ n z))
theorem tk_neg {n : Int} {z : List Int} {k : Nat} (hn : n < 0) (hk : (k : Int) = max ((z.length : Int) + n) 0) : tkZ n z = z.drop k ∧ drZ n z = z.take k := by
  unfold tkZ drZ
  rw [if_pos hn, if_pos hn]
  have : ((z.length : Int) + n).toNat = k := by omega
  rw [this]; exact ⟨rfl, rfl⟩
theorem tk_pos {n : Int} {z : List Int} {k : Nat} (hn : ¬ n < 0) (hk : (k : Int) = min n (z.length : Int)) : tkZ n z = z.take k ∧ drZ n z = z.drop k := by
  unfold tkZ drZ
  rw [if_neg hn, if_neg hn]
  by_cases h : n ≤ z.length
  · have : n.toNat = k := by omega
    rw [this]; exact ⟨rfl, rfl⟩
  · have h1 : k = z.length := by omega
    subst h1
    rw [List.take_of_length_le (by omega), List.drop_eq_nil_of_le (by omega), List.take_of_length_le (Nat.le_refl _), List.drop_eq_nil_of_le (Nat.le_refl _)]
    exact ⟨rfl, rfl⟩

/-- What a walk over two arrays keeps that lays a result. -/
structure MK2 (w : World) (A : Ar) (v : Value) (B : Ar) (u : Value) (W : World) : Prop where
  c : MC2 w A v B u W
  sz : w.heap.size + 3 ≤ W.heap.size
  res : R5 W (w.heap.size + 2) 0 0 0 0 (.slice none 0 0)
theorem MK2.far {w W W' : World} {A B : Ar} {v u : Value} (h : MK2 w A v B u W) (hb : Below (w.heap.size + 3) W W') (hl : Ru.Lay W') : MK2 w A v B u W' :=
  ⟨h.c.far (hb.mono (by omega)) hl, Nat.le_trans h.sz hb.size, (hb.block _ (by omega)).trans h.res⟩
theorem MK2.next {w W W' : World} {A B : Ar} {v u : Value} (h : MK2 w A v B u W) (hb : Below W.heap.size W W') : MK2 w A v B u W' := h.far (hb.mono h.sz) (h.c.lay.next hb)
theorem MK2.new {w : World} {A B : Ar} {v u : Value} (hw : Ru.Lay w) (hv : RdI w.heap.size w v A.z) (hu : RdI w.heap.size w u B.z) :
    MK2 w A v B u (((w.alloc (.cells #[.int .i64 A.k, .int .i64 A.r, .int .i64 A.a, .int .i64 A.b, v] 25)).alloc (.cells #[.int .i64 B.k, .int .i64 B.r, .int .i64 B.a, .int .i64 B.b, u] 25)).alloc (.cells #[.int .i64 0, .int .i64 0, .int .i64 0, .int .i64 0, .slice none 0 0] 25)) := by
  have e : ((w.alloc (.cells #[.int .i64 A.k, .int .i64 A.r, .int .i64 A.a, .int .i64 A.b, v] 25)).alloc (.cells #[.int .i64 B.k, .int .i64 B.r, .int .i64 B.a, .int .i64 B.b, u] 25)).heap.size = w.heap.size + 2 := by simp
  refine ⟨(MC2.new hw hv hu).next (bel1 _ _), by simp, ?_⟩
  rw [← e]; exact R5.new _ _ _ _ _ _
theorem tk_ok {N V : Ar} (h : tkE N V = 0) : ck (vecA V.k (tkZ (fst1 N) V.z)) = 0 ∧ ck (vecA V.k (drZ (fst1 N) V.z)) = 0 := by
  obtain ⟨_, hV, _⟩ := two_ok h
  exact ⟨good_vec hV (len_take _ _) fun _ => mem_take, good_vec hV (len_drop _ _) fun _ => mem_drop⟩

end Go.Proofs.YtpbfbejckhbijaaDoor
namespace Go.Proofs.YtpbfbejckhbijaaDoor
open Go.RowKit

def lmn (z : List Int) : Int := z.foldl min (z.getD 0 0)
def lmx (z : List Int) : Int := z.foldl max (z.getD 0 0)
theorem lmn_take {z : List Int} {j : Nat} (h : j < z.length) : (z.take (j + 1)).foldl min (z.getD 0 0) = min ((z.take j).foldl min (z.getD 0 0)) z[j] := by
  rw [List.take_succ_eq_append_getElem h, List.foldl_append]; rfl
theorem lmx_take {z : List Int} {j : Nat} (h : j < z.length) : (z.take (j + 1)).foldl max (z.getD 0 0) = max ((z.take j).foldl max (z.getD 0 0)) z[j] := by
  rw [List.take_succ_eq_append_getElem h, List.foldl_append]; rfl
theorem getD_lt {z : List Int} {j : Nat} (h : j < z.length) : z.getD j 0 = z[j] := by
  rw [List.getD_eq_getElem?_getD, List.getElem?_eq_getElem h]; rfl

theorem info64s : (Tryd.prog.info? 2).map (·.size) = some 1 := by kernel_rfl
theorem setRow_but (w : World) (g : Nat) (cs : Array Value) : But g w (w.setRow g cs) :=
  ⟨rfl, rfl, rfl, by simp [World.setRow], fun k hk => by simp only [World.setRow, Array.getElem?_modify]; rw [if_neg (fun e => hk e.symm)]⟩
/-- copy into a row of the call's own. -/
theorem copy_run {w : World} {g n : Nat} {f : Nat → Int} (h : rowZ w g n f) (o dl dc : Nat) {u : Value} {z : List Int} {B : Nat} (hu : RdI B w u z) (c : Nat) (hc : c = min z.length dl) (hfit : o + c ≤ n) :
    ∃ w', (∀ T, (Builtin.copy_ #[23, 23] T #[.slice (some ⟨g, o, none⟩) dl dc, u]).run Tryd.prog w = .ok (.int .i64 c) w') ∧ rowZ w' g n (fun i => if o ≤ i ∧ i < o + c then z.getD (i - o) 0 else f i) ∧ But g w w' := by
  obtain ⟨p, cap, rfl, h1, h2, h3⟩ := hu
  by_cases h0 : c = 0
  · subst h0
    exact ⟨w, fun T => run_copy_none (P := Tryd.prog) w _ _ T 2 _ _ _ _ _ _ Tryd.underlying23 info64s hc.symm, h.congr fun i _ => by rw [if_neg (by omega)], But.refl _ _⟩
  · obtain ⟨b, off, rfl, _, hcell⟩ := h3 (fun e => h0 (by rw [hc, e]; simp))
    obtain ⟨cs, hcs, hsz, hget⟩ := h
    have hlen : ((z.take c).map vi).length = c := by rw [List.length_map, List.length_take]; omega
    have hr := fun T => run_copy_row (P := Tryd.prog) w 23 23 T 2 g o dl dc ⟨b, off, none⟩ z.length cap cs 2 ((z.take c).map vi) Tryd.underlying23 info64s hcs (by rw [hlen]; exact hc)
      (fun j v hj => by
        have hjl : j < c := by
          rcases Nat.lt_or_ge j c with hj' | hj'
          · exact hj'
          · rw [List.getElem?_eq_none (by omega)] at hj; cases hj
        rw [Ru.add_off, hcell j (by omega)]
        rw [List.getElem?_map, List.getElem?_eq_getElem (by rw [List.length_take]; omega), List.getElem_take] at hj
        exact hj) (by rw [hlen, hsz]; exact hfit) (fun v hv => by obtain ⟨q, _, rfl⟩ := List.mem_map.1 hv; rfl)
    rw [hlen] at hr
    refine ⟨_, hr, ⟨_, setRow_heap w g cs _ _ _ hcs, ?_, fun i hi => ?_⟩, setRow_but _ _ _⟩
    · simp [List.length_take, hsz]; omega
    · have hi2 : i < cs.size := by omega
      have hgi := hget i hi
      simp only [List.getElem?_toArray]
      by_cases hin : o ≤ i ∧ i < o + c
      · rw [if_pos hin, List.append_assoc, List.getElem?_append_right (by simp; omega), List.getElem?_append_left (by simp [hsz]; omega)]
        simp only [List.length_take, Array.length_toList]
        rw [show i - min o cs.size = i - o by omega, List.getElem?_map, List.getElem?_eq_getElem (by rw [List.length_take]; omega), List.getElem_take, getD_lt (by omega)]
        rfl
      · rw [if_neg hin]
        by_cases hlt : i < o
        · rw [List.append_assoc, List.getElem?_append_left (by simp; omega), List.getElem?_take, if_pos hlt]
          simpa using hgi
        · rw [List.getElem?_append_right (by simp; omega), List.getElem?_drop]
          simp only [List.length_append, List.length_take, Array.length_toList, hlen]
          rw [show o + c + (i - (min o cs.size + c)) = i by omega]
          simpa using hgi
end Go.Proofs.YtpbfbejckhbijaaDoor
namespace Go.Proofs.YtpbfbejckhbijaaDoor
open Go.RowKit

theorem lmn_one (x : Int) : lmn [x] = x ∧ lmx [x] = x := by simp [lmn, lmx]
theorem lmn_two (x y : Int) : lmn [x, y] = min x y ∧ lmx [x, y] = max x y := by simp [lmn, lmx]
/-- What a walk of again keeps. -/
structure MA (w : World) (A : Ar) (v u : Value) (l : List Int) (W : World) : Prop where
  k : MK1 w A v W
  rl : RdI w.heap.size W u l
theorem MA.far {w W W' : World} {A : Ar} {v u : Value} {l : List Int} (h : MA w A v u l W) (hb : Below (w.heap.size + 2) W W') (hl : Ru.Lay W') : MA w A v u l W' := ⟨h.k.far hb hl, h.rl.below (hb.mono (by omega))⟩
theorem MA.next {w W W' : World} {A : Ar} {v u : Value} {l : List Int} (h : MA w A v u l W) (hb : Below W.heap.size W W') : MA w A v u l W' := h.far (hb.mono h.k.sz) (h.k.lay.next hb)
theorem MA.rln {w W : World} {A : Ar} {v u : Value} {l : List Int} (h : MA w A v u l W) : RdI W.heap.size W u l := h.rl.mono h.k.bel.size
theorem MA.new {w : World} {A : Ar} {v u : Value} {l : List Int} (hw : Ru.Lay w) (hv : RdI w.heap.size w v A.z) (hu : RdI w.heap.size w u l) : MA w A v u l ((w.alloc (.cells #[.int .i64 A.k, .int .i64 A.r, .int .i64 A.a, .int .i64 A.b, v] 25)).alloc (.cells #[.int .i64 0, .int .i64 0, .int .i64 0, .int .i64 0, .slice none 0 0] 25)) :=
  ⟨MK1.new hw hv, hu.below ((bel1 _ _).trans ((bel1 _ _).mono (by simp)))⟩
/-- The numbers again and again, of which the first o have been written. -/
def agF (z : List Int) (o i : Nat) : Int := if i < o then z.getD (i % z.length) 0 else 0
theorem agF_zero (z : List Int) (i : Nat) : agF z 0 i = 0 := by unfold agF; rw [if_neg (by omega)]
theorem agF_next {z : List Int} {o c i n : Nat} (ho : o % z.length = 0) (hc : c = min z.length (n - o)) (_ : i < n) : (if o ≤ i ∧ i < o + c then z.getD (i - o) 0 else agF z o i) = agF z (o + c) i := by
  unfold agF
  by_cases h : o ≤ i ∧ i < o + c
  · rw [if_pos h, if_pos h.2]
    have hlt : i - o < z.length := by omega
    have : i % z.length = i - o := by
      obtain ⟨q, hq⟩ := Nat.dvd_of_mod_eq_zero ho
      obtain ⟨d, rfl⟩ : ∃ d, i = o + d := ⟨i - o, by omega⟩
      rw [Nat.add_sub_cancel_left] at hlt ⊢
      rw [hq, Nat.mul_add_mod, Nat.mod_eq_of_lt hlt]
    rw [this]
  · rw [if_neg h]
    by_cases h2 : i < o
    · rw [if_pos h2, if_pos (by omega)]
    · rw [if_neg h2, if_neg (by omega)]
/-- What the copying loop keeps. -/
structure Kg (w : World) (A : Ar) (v u : Value) (l : List Int) (r a b : Int) (n g gb o : Nat) (q : Option Addr) (W : World) : Prop where
  m : MA w A v u l W
  bx : R5 W gb A.k r a b (.slice (some ⟨g, 0, none⟩) n n)
  row : rowZ W g n (agF A.z o)
  pos : o < n → q = some ⟨g, o, none⟩ ∧ o % A.z.length = 0
theorem Kg.next {w W W' : World} {A : Ar} {v u : Value} {l : List Int} {r a b : Int} {n g gb o c : Nat} {q q' : Option Addr} (k : Kg w A v u l r a b n g gb o q W) (h1 : w.heap.size + 1 < g) (h2 : gb ≠ g) (ho : o < n) (hc : c = min A.z.length (n - o))
    (hq : o + c < n → q' = some ⟨g, o + c, none⟩) (hb : But g W W') (hL : Ru.Lay W') (hr : rowZ W' g n (fun i => if o ≤ i ∧ i < o + c then A.z.getD (i - o) 0 else agF A.z o i)) : Kg w A v u l r a b n g gb (o + c) q' W' :=
  ⟨k.m.far (hb.below (by omega)) hL, (hb.block _ h2).trans k.bx, hr.congr fun i hi => agF_next (k.pos ho).2 hc hi, fun h => ⟨hq h, by
    have := (k.pos ho).2
    have e : c = A.z.length := by omega
    rw [e, Nat.add_mod_right]; exact this⟩⟩

/-- The lengths as again has written them. -/
structure KgL (w : World) (A : Ar) (v u : Value) (l : List Int) (gl : Nat) (a b : Int) (W : World) : Prop where
  m : MA w A v u l W
  bx : R2 W gl a b
theorem R2.put0 {w : World} {g : Nat} {a b : Int} (h : R2 w g a b) (x : Int) : R2 (w.setCell ⟨g, 0, none⟩ (.int .i64 x)) g x b := by
  unfold R2 at h ⊢
  simp [World.setCell, Array.getElem?_modify, h]
theorem R2.put1 {w : World} {g : Nat} {a b : Int} (h : R2 w g a b) (x : Int) : R2 (w.setCell ⟨g, 1, none⟩ (.int .i64 x)) g a x := by
  unfold R2 at h ⊢
  simp [World.setCell, Array.getElem?_modify, h]
theorem R2.fr {w : World} {g : Nat} {a b : Int} (h : R2 w g a b) (i : Nat) : w.frozen? ⟨g, i, none⟩ = false := Lib.frozen_of_heap h i
theorem KgL.put0 {w W : World} {A : Ar} {v u : Value} {l : List Int} {gl : Nat} {a b : Int} (h : KgL w A v u l gl a b W) (h3 : 0 + 1 ≤ w.heap.size) (hg : w.heap.size + 2 ≤ gl) (x : Int) : KgL w A v u l gl x b (W.setCell ⟨gl, 0, none⟩ (.int .i64 x)) :=
  have hb : Below (w.heap.size + 2) W (W.setCell ⟨gl, 0, none⟩ (.int .i64 x)) := (Below.refl _ _).setCell (p := ⟨gl, 0, none⟩) hg _
  ⟨h.m.far hb (h.m.k.lay.below (by omega) hb), h.bx.put0 x⟩
theorem KgL.put1 {w W : World} {A : Ar} {v u : Value} {l : List Int} {gl : Nat} {a b : Int} (h : KgL w A v u l gl a b W) (h3 : 0 + 1 ≤ w.heap.size) (hg : w.heap.size + 2 ≤ gl) (x : Int) : KgL w A v u l gl a x (W.setCell ⟨gl, 1, none⟩ (.int .i64 x)) :=
  have hb : Below (w.heap.size + 2) W (W.setCell ⟨gl, 1, none⟩ (.int .i64 x)) := (Below.refl _ _).setCell (p := ⟨gl, 1, none⟩) hg _
  ⟨h.m.far hb (h.m.k.lay.below (by omega) hb), h.bx.put1 x⟩
theorem MA.num {w W : World} {A : Ar} {v : Value} {p : Option Addr} {n cu : Nat} {l : List Int} (h : MA w A v (.slice p n cu) l W) (hl : 0 < l.length) : ∃ bu ou, p = some ⟨bu, ou, none⟩ ∧ ∀ W', RdI w.heap.size W' (.slice p n cu) l → ∀ j (hj : j < l.length), W'.cell? ⟨bu, ou + j, none⟩ = some (.int .i64 l[j]) := by
  obtain ⟨p', cap', e, h1, h2, h3⟩ := h.rl
  cases e
  obtain ⟨b, off, rfl, hb, hc⟩ := h3 (List.length_pos_iff.1 hl)
  refine ⟨b, off, rfl, fun W' h' => ?_⟩
  obtain ⟨p', cap', e, _, _, h3'⟩ := h'
  cases e
  obtain ⟨b', off', e', hb', hc'⟩ := h3' (List.length_pos_iff.1 hl)
  cases e'
  exact hc'

end Go.Proofs.YtpbfbejckhbijaaDoor
namespace Go.Proofs.YtpbfbejckhbijaaDoor
open Go.RowKit

theorem one_list {z : List Int} (h : z.length = 1) : z = [z.getD 0 0] := by
  match z, h with
  | [x], _ => rfl
theorem two_list {z : List Int} (h : z.length = 2) : z = [z.getD 0 0, z.getD 1 0] := by
  match z, h with
  | [x, y], _ => rfl
theorem agn_one (n : Nat) (x : Int) : agn n [x] = List.replicate n x := by
  refine ext_getD (by rw [agn_len, List.length_replicate]) fun t ht => ?_
  rw [agn_len] at ht
  rw [agn_getD ht, List.getD_eq_getElem?_getD, List.getD_eq_getElem?_getD, List.getElem?_replicate]
  simp [ht, Nat.mod_one]
theorem fi_ok {N S : Ar} (h : twoE N S 1 S.k 0 0 0 0 = 0) : Good S ∧ 0 < S.z.length ∧ N.z = [fst1 N] ∧ fiE N S = (if fst1 N < 0 then 13 else if 400 < fst1 N then 15 else 0) ∧
    fiV N S = orNo (fiE N S) ⟨S.k, 1, fst1 N, 0, agn (fst1 N).toNat S.z⟩ := by
  obtain ⟨hN, hS, h3, h4, h5, h6, h7, h8⟩ := two_ok h
  have hs := scalar_one hS (by omega)
  have hn := scalar_one hN (by omega)
  refine ⟨hS, by omega, one_list hn, by unfold fiE; rw [if_pos h], ?_⟩
  unfold fiV
  by_cases he : fiE N S = 0
  · rw [orNo_yes he, orNo_yes he]
    unfold fiE at he
    rw [if_pos h] at he
    by_cases hx : fst1 N < 0
    · rw [if_pos hx] at he; cases he
    · unfold vecA
      rw [one_list hs, agn_one, List.length_replicate]
      have : ((fst1 N).toNat : Int) = fst1 N := by omega
      rw [this]; rfl
  · rw [orNo_no he, orNo_no he]
theorem gd_ok {L V : Ar} (h : twoE L V 1 V.k 1 1 1 1 = 0) (h2 : L.z.length = 2) : Good V ∧ L.z = [L.z.getD 0 0, L.z.getD 1 0] ∧
    gdE L V = (if L.z.getD 0 0 < 0 ∨ L.z.getD 1 0 < 0 then 13 else if 400 < L.z.getD 0 0 ∨ 400 < L.z.getD 1 0 ∨ 400 < L.z.getD 0 0 * L.z.getD 1 0 then 15 else if V.z.length = 0 ∧ 0 < L.z.getD 0 0 * L.z.getD 1 0 then 13 else 0) := by
  obtain ⟨hN, hS, h3, h4, h5, h6, h7, h8⟩ := two_ok h
  exact ⟨hS, two_list h2, by unfold gdE; rw [if_pos h, if_pos h2]⟩

end Go.Proofs.YtpbfbejckhbijaaDoor
namespace Go.Proofs.YtpbfbejckhbijaaDoor
open Go.RowKit

theorem rwI_getD {A : Ar} (h : Good A) {i k : Nat} (hi : i < rwN A) (hk : k < rwM A) : (rwI A i).getD k 0 = A.z.getD (i * rwM A + k) 0 := by
  obtain ⟨_, _, e3, _, _⟩ := rw_good h
  have hl := rwI_len h hi
  have hlt := lt_at (n := rwN A) hi hk
  rw [getD_lt (by omega), getD_lt (by omega), rwI_get (by omega)]
/-- A row of an argument can be read. -/
theorem rp_rd {A : Ar} (h : Good A) {B : Nat} {w : World} {p : Option Addr} {n cap : Nat} (hv : RdI B w (.slice p n cap) A.z) {i : Nat} (hi : i < rwN A) : RdI B w (rp p (rwM A) i) (rwI A i) := by
  obtain ⟨_, _, e3, _, e5⟩ := rw_good h
  have hl := rwI_len h hi
  obtain ⟨p', cap', e, h1, h2, h3⟩ := hv
  cases e
  by_cases hm : rwM A = 0
  · have : rwI A i = [] := List.length_eq_zero_iff.1 (by omega)
    rw [this, hm]
    cases p with
    | none => exact rdI_none (by omega)
    | some ad => exact rdI_none (by omega)
  · have hz : A.z ≠ [] := by
      intro e
      have := Nat.mul_pos (show 0 < rwN A by omega) (show 0 < rwM A by omega)
      rw [e3, e] at this
      simp at this
    obtain ⟨b, off, rfl, hb, hc⟩ := h3 hz
    have hlt := lt_at (n := rwN A) hi (show rwM A - 1 < rwM A by omega)
    refine ⟨some ⟨b, off + i * rwM A, none⟩, rwM A, by rw [hl]; rfl, by omega, by omega, fun _ => ⟨b, off + i * rwM A, rfl, hb, fun j hj => ?_⟩⟩
    rw [Nat.add_assoc, hc _ (by omega), rwI_get hj]
/-- The cells of Cat, of which the first rows have been written. -/
def ctF (A B : Ar) (j x : Nat) : Int := if x < j * (rwM A + rwM B) then (ctZ A B).getD x 0 else 0
theorem ctF_zero (A B : Ar) (x : Nat) : ctF A B 0 x = 0 := by unfold ctF; rw [Nat.zero_mul, if_neg (by omega)]
theorem ctF_next {A B : Ar} (hA : Good A) (hB : Good B) {j : Nat} (hj : j < rwN A) (hj2 : j < rwN B) (x : Nat) :
    (if j * (rwM A + rwM B) + rwM A ≤ x ∧ x < j * (rwM A + rwM B) + rwM A + rwM B then (rwI B j).getD (x - (j * (rwM A + rwM B) + rwM A)) 0 else
      if j * (rwM A + rwM B) ≤ x ∧ x < j * (rwM A + rwM B) + rwM A then (rwI A j).getD (x - j * (rwM A + rwM B)) 0 else ctF A B j x) = ctF A B (j + 1) x := by
  have e : (j + 1) * (rwM A + rwM B) = j * (rwM A + rwM B) + (rwM A + rwM B) := by rw [Nat.add_mul, Nat.one_mul]
  unfold ctF
  rw [e]
  generalize hd : j * (rwM A + rwM B) = d
  by_cases h1 : d + rwM A ≤ x ∧ x < d + rwM A + rwM B
  · rw [if_pos h1, if_pos (by omega)]
    obtain ⟨k, rfl⟩ : ∃ k, x = d + (rwM A + k) := ⟨x - d - rwM A, by omega⟩
    rw [show d + (rwM A + k) - (d + rwM A) = k by omega, rwI_getD hB hj2 (by omega), ← hd]
    unfold ctZ
    rw [gl_at hj (by omega), if_neg (by omega), show rwM A + k - rwM A = k by omega]
  · rw [if_neg h1]
    by_cases h2 : d ≤ x ∧ x < d + rwM A
    · rw [if_pos h2, if_pos (by omega)]
      obtain ⟨k, rfl⟩ : ∃ k, x = d + k := ⟨x - d, by omega⟩
      rw [show d + k - d = k by omega, rwI_getD hA hj (by omega), ← hd]
      unfold ctZ
      rw [gl_at hj (by omega), if_pos (by omega)]
    · rw [if_neg h2]
      by_cases h3 : x < d
      · rw [if_pos h3, if_pos (by omega)]
      · rw [if_neg h3, if_neg (by omega)]
/-- The lengths of what Cat makes. -/
def ctA (A B : Ar) : Int := if A.r = 1 then A.a + B.a else A.a
def ctB (A B : Ar) : Int := if A.r = 1 then A.b else A.b + B.b
structure CatOk (A B : Ar) : Prop where
  gA : Good A
  gB : Good B
  kind : B.k = A.k
  rank : A.r = 1 ∨ A.r = 2
  same : B.r = A.r
theorem ct_ok {A B : Ar} (h : twoE A B A.k A.k 1 2 A.r A.r = 0) : CatOk A B := by
  obtain ⟨h1, h2, _, h4, h5, h6, h7, h8⟩ := two_ok h
  exact ⟨h1, h2, h4, by omega, by omega⟩
theorem ckS_vec {n : Int} (h : 0 ≤ n) : ckS 1 n 0 = if 400 < n then 15 else 0 := by
  have e : cn 1 n 0 = n := by simp [cn]
  unfold ckS
  rw [e, if_neg (by omega), if_neg (by omega)]
  by_cases h4 : 400 < n
  · rw [if_pos (by omega), if_pos h4]
  · rw [if_neg (by omega), if_neg h4]
theorem ckS_mat {a b : Int} (h : 0 ≤ a) (h2 : a ≤ 400) (h3 : 0 ≤ b) : ckS 2 a b = if 400 < b ∨ 400 < a * b then 15 else 0 := by
  have e : cn 2 a b = a * b := by simp [cn]
  unfold ckS
  rw [e, if_neg (by omega), if_neg (by omega)]
  by_cases h4 : 400 < b ∨ 400 < a * b
  · rw [if_pos (by omega), if_pos h4]
  · rw [if_neg (by omega), if_neg h4]
/-- What Cat returns where both have as many rows. -/
theorem ct_rows {A B : Ar} (h0 : twoE A B A.k A.k 1 2 A.r A.r = 0) : (rwN A ≠ rwN B → ctE A B = 11) ∧
    (rwN A = rwN B → ∃ n : Nat, n = rwN A * (rwM A + rwM B) ∧ n ≤ 1000000 ∧ (if A.r = 2 then ctA A B * ctB A B else ctA A B) = (n : Int) ∧ ctE A B = ck ⟨A.k, A.r, ctA A B, ctB A B, List.replicate n 0⟩ ∧
      (ctE A B = 0 → ctV A B = ⟨A.k, A.r, ctA A B, ctB A B, ctZ A B⟩ ∧ n ≤ 400)) := by
  have hc := ct_ok h0
  obtain ⟨gA, gB, hk, hr, hs⟩ := hc
  have hE : ctE A B = (if A.r = 2 ∧ A.a ≠ B.a then 11 else if 400 < A.z.length + B.z.length ∨ 400 < A.b + B.b then 15 else 0) := if_pos h0
  rcases hr with hr | hr
  · obtain ⟨a1, a2, a3, a4⟩ := rw_vec gA hr
    obtain ⟨b1, b2, b3, b4⟩ := rw_vec gB (hs.trans hr)
    rw [if_neg (by omega)] at hE
    refine ⟨fun h => absurd (a1.trans b1.symm) h, fun _ => ⟨_, rfl, ?_, ?_, ?_, fun he => ?_⟩⟩
    · rw [a1, a2, b2, Nat.one_mul]; have := gA.len4; have := gB.len4; omega
    · rw [if_neg (by omega), a1, a2, b2]; unfold ctA; rw [if_pos hr, a3, b3]; omega
    · rw [hE, ck_zeros gA.kind (fun _ => by rw [a1, a2, b2]; unfold ctA ctB cn; rw [if_pos hr, if_neg (by omega), if_pos hr, a3, b3]; omega)]
      unfold ctA ctB
      rw [if_pos hr, if_pos hr, hr, a4, ckS_vec (by omega), a3, b3, b4]
      by_cases h : 400 < A.z.length + B.z.length
      · rw [if_pos (.inl h), if_pos (by omega)]
      · rw [if_neg (by omega), if_neg (by omega)]
    · have hl : (ctZ A B).length = A.z.length + B.z.length := by rw [ctZ, gl_len, a1, a2, b2, Nat.one_mul]
      refine ⟨?_, ?_⟩
      · unfold ctV
        rw [orNo_yes he, if_neg (by omega)]
        unfold vecA ctA ctB
        rw [if_pos hr, if_pos hr, hr, hl, a3, b3, a4]
        congr 1
      · rw [a1, a2, b2, Nat.one_mul]
        rw [hE] at he
        by_cases h : 400 < A.z.length + B.z.length ∨ 400 < A.b + B.b
        · rw [if_pos h] at he; cases he
        · omega
  · obtain ⟨a1, a2, a3, a4, a5⟩ := rw_mat gA hr
    obtain ⟨b1, b2, b3, b4, b5⟩ := rw_mat gB (hs.trans hr)
    refine ⟨fun h => by rw [hE, if_pos ⟨hr, by omega⟩], fun h => ?_⟩
    rw [if_neg (by omega)] at hE
    have hp : rwN A * (rwM A + rwM B) = A.z.length + B.z.length := by rw [Nat.mul_add, a3, b3, h]
    refine ⟨_, rfl, ?_, ?_, ?_, fun he => ?_⟩
    · rw [hp]; have := gA.len4; have := gB.len4; omega
    · rw [if_pos hr]; unfold ctA ctB; rw [if_neg (by omega), if_neg (by omega), a1, a2, b2, Int.natCast_mul, Int.natCast_add]
    · have hprod : A.a * (A.b + B.b) = ((A.z.length + B.z.length : Nat) : Int) := by rw [← hp, a1, a2, b2, Int.natCast_mul, Int.natCast_add]
      rw [hE, ck_zeros gA.kind (fun _ => by rw [hp]; unfold ctA ctB cn; rw [if_neg (by omega), if_neg (by omega), if_neg (by omega), if_neg (by omega), hprod])]
      have c1 : ctA A B = A.a := if_neg (by omega)
      have c2 : ctB A B = A.b + B.b := if_neg (by omega)
      rw [c1, c2, hr, ckS_mat (by omega) (by omega) (by omega), hprod]
      by_cases hb : 400 < A.z.length + B.z.length ∨ 400 < A.b + B.b
      · rw [if_pos hb, if_pos (by omega)]
      · rw [if_neg hb, if_neg (by omega)]
    · refine ⟨?_, ?_⟩
      · unfold ctV
        rw [orNo_yes he, if_pos hr]
        unfold ctA ctB
        rw [if_neg (by omega), if_neg (by omega), hr]
      · rw [hp]
        rw [hE] at he
        by_cases hb : 400 < A.z.length + B.z.length ∨ 400 < A.b + B.b
        · rw [if_pos hb] at he; cases he
        · omega
/-- Rows are not too long, if there is no error. -/
theorem ct_wide {A B : Ar} (h0 : twoE A B A.k A.k 1 2 A.r A.r = 0) (he : ctE A B = 0) : rwM A + rwM B ≤ 400 := by
  have hc := ct_ok h0
  obtain ⟨gA, gB, hk, hr, hs⟩ := hc
  have hE : ctE A B = (if A.r = 2 ∧ A.a ≠ B.a then 11 else if 400 < A.z.length + B.z.length ∨ 400 < A.b + B.b then 15 else 0) := if_pos h0
  rw [hE] at he
  have h1 : ¬ (A.r = 2 ∧ A.a ≠ B.a) := fun h => by rw [if_pos h] at he; cases he
  rw [if_neg h1] at he
  have h2 : ¬ (400 < A.z.length + B.z.length ∨ 400 < A.b + B.b) := fun h => by rw [if_pos h] at he; cases he
  rcases hr with hr | hr
  · obtain ⟨a1, a2, a3, a4⟩ := rw_vec gA hr
    obtain ⟨b1, b2, b3, b4⟩ := rw_vec gB (hs.trans hr)
    omega
  · obtain ⟨a1, a2, a3, a4, a5⟩ := rw_mat gA hr
    obtain ⟨b1, b2, b3, b4, b5⟩ := rw_mat gB (hs.trans hr)
    omega
theorem ctZ_len (A B : Ar) : (ctZ A B).length = rwN A * (rwM A + rwM B) := by rw [ctZ, gl_len]
end Go.Proofs.YtpbfbejckhbijaaDoor
namespace Go.Proofs.YtpbfbejckhbijaaDoor
open Go.RowKit

theorem MK2.cells {w W : World} {A B : Ar} {v u : Value} (h : MK2 w A v B u W) : MK2 w A v B u W ∧ W.cell? ⟨w.heap.size, 0, none⟩ = some (.int .i64 A.k) ∧ W.cell? ⟨w.heap.size, 1, none⟩ = some (.int .i64 A.r) ∧ W.cell? ⟨w.heap.size, 2, none⟩ = some (.int .i64 A.a) ∧ W.cell? ⟨w.heap.size, 3, none⟩ = some (.int .i64 A.b) ∧ W.cell? ⟨w.heap.size, 4, none⟩ = some v ∧
    W.cell? ⟨w.heap.size + 1, 0, none⟩ = some (.int .i64 B.k) ∧ W.cell? ⟨w.heap.size + 1, 1, none⟩ = some (.int .i64 B.r) ∧ W.cell? ⟨w.heap.size + 1, 2, none⟩ = some (.int .i64 B.a) ∧ W.cell? ⟨w.heap.size + 1, 3, none⟩ = some (.int .i64 B.b) ∧ W.cell? ⟨w.heap.size + 1, 4, none⟩ = some u :=
  ⟨h, h.c.boxA.c0, h.c.boxA.c1, h.c.boxA.c2, h.c.boxA.c3, h.c.boxA.c4, h.c.boxB.c0, h.c.boxB.c1, h.c.boxB.c2, h.c.boxB.c3, h.c.boxB.c4⟩
/-- The rows of both. -/
def Two2 (w : World) (A : Ar) (v : Value) (B : Ar) (u : Value) (p q : Option Addr) (s7 s8 : Value) (W : World) : Prop :=
  ∃ h1 h2, s7 = .slice (some ⟨h1, 0, none⟩) (rwN A) (rwN A) ∧ s8 = .slice (some ⟨h2, 0, none⟩) (rwN B) (rwN B) ∧ MK2 w A v B u W ∧ W.rowIs h1 23 (rwN A) (rp p (rwM A)) ∧ W.rowIs h2 23 (rwN B) (rp q (rwM B))
/-- What the loop of Cat keeps. -/
structure Kt (w : World) (A : Ar) (v : Value) (B : Ar) (u : Value) (p q : Option Addr) (h1 h2 h3 g gc n j : Nat) (W : World) : Prop where
  m : MK2 w A v B u W
  l1 : W.rowIs h1 23 (rwN A) (rp p (rwM A))
  l2 : W.rowIs h2 23 (rwN B) (rp q (rwM B))
  l3 : W.rowIs h3 23 (rwN A) (rp (some ⟨g, 0, none⟩) (rwM A + rwM B))
  bx : R5 W gc A.k A.r (ctA A B) (ctB A B) (.slice (some ⟨g, 0, none⟩) n n)
  row : rowZ W g n (ctF A B j)
theorem Kt.next {w W W' : World} {A B : Ar} {v u : Value} {p q : Option Addr} {h1 h2 h3 g gc n j : Nat} (k : Kt w A v B u p q h1 h2 h3 g gc n j W) (s3 : 0 + 1 ≤ w.heap.size) (hg : w.heap.size + 2 < g) (q1 : h1 ≠ g) (q2 : h2 ≠ g) (q3 : h3 ≠ g) (q4 : gc ≠ g) (gA : Good A) (gB : Good B) (hj : j < rwN A) (hj2 : j < rwN B) (hb : But g W W')
    (hr : rowZ W' g n (fun x => if j * (rwM A + rwM B) + rwM A ≤ x ∧ x < j * (rwM A + rwM B) + rwM A + rwM B then (rwI B j).getD (x - (j * (rwM A + rwM B) + rwM A)) 0 else
      if j * (rwM A + rwM B) ≤ x ∧ x < j * (rwM A + rwM B) + rwM A then (rwI A j).getD (x - j * (rwM A + rwM B)) 0 else ctF A B j x)) : Kt w A v B u p q h1 h2 h3 g gc n (j + 1) W' :=
  have hbl : Below (w.heap.size + 3) W W' := hb.below (by omega)
  ⟨k.m.far hbl (k.m.c.lay.below (by omega) hbl), k.l1.of_block (hb.block _ q1), k.l2.of_block (hb.block _ q2), k.l3.of_block (hb.block _ q3), (hb.block _ q4).trans k.bx, hr.congr fun x _ => ctF_next gA gB hj hj2 x⟩

end Go.Proofs.YtpbfbejckhbijaaDoor
