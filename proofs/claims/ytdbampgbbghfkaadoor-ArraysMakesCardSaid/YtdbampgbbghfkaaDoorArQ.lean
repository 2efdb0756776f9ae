/- The law's awake. -/
import Derived.Test.YtdbampgbbghfkaaDoorArL
import Derived.Test.YtdbampgbbghfkaaDoorArN
import Derived.Test.YtdbampgbbghfkaaDoorArO
import Derived.Test.YtdbampgbbghfkaaDoorArP
namespace Go.Proofs.YtdbampgbbghfkaaDoor
open Go.RowKit

theorem nil_some (a : Addr) (n c : Nat) : Ru.NilC (.slice (some a) n c) := by intro n c e; cases e
/-- A block of numbers, read as a slice. -/
theorem blk_rd {W : World} {g : Nat} {l : List Int} {n : Nat} (hn : l.length = n) (hl : n ≤ 1000000) (h : W.heap[g]? = some (.cells (l.map vi).toArray 2 (0, 0))) : RdI W.heap.size W (.slice (some ⟨g, 0, none⟩) n n) l := by
  subst hn
  refine ⟨_, _, rfl, Nat.le_refl _, by omega, fun _ => ⟨g, 0, rfl, (Array.getElem?_eq_some_iff.1 h).1, fun j hj => ?_⟩⟩
  rw [Nat.zero_add]
  simp [World.cell?, h, List.getElem?_eq_getElem hj]
/-- What awake keeps of its three arrays. -/
structure KQ (w : World) (g1 g2 g3 : Nat) (u1 u2 u3 : Value) (W : World) : Prop where
  bel : Below w.heap.size w W
  a : R5 W g1 1 2 2 2 u1
  b : R5 W g2 1 1 3 0 u2
  c : R5 W g3 2 1 2 0 u3
  ra : RdI W.heap.size W u1 [1, 2, 3, 4]
  rb : RdI W.heap.size W u2 [5, 9, 7]
  rc : RdI W.heap.size W u3 [233, 33]
theorem KQ.next {w W W' : World} {g1 g2 g3 : Nat} {u1 u2 u3 : Value} (h : KQ w g1 g2 g3 u1 u2 u3 W) (hb : Below W.heap.size W W') : KQ w g1 g2 g3 u1 u2 u3 W' :=
  ⟨h.bel.trans (hb.mono h.bel.size), h.a.next hb, h.b.next hb, h.c.next hb, h.ra.next hb, h.rb.next hb, h.rc.next hb⟩
abbrev KQ2 (w : World) (g1 g2 g3 : Nat) (u1 u2 u3 : Value) (W : World) : Prop := KQ w g1 g2 g3 u1 u2 u3 W ∧ W.cell? ⟨g1, 0, none⟩ = some (.int .i64 1) ∧ W.cell? ⟨g1, 1, none⟩ = some (.int .i64 2) ∧ W.cell? ⟨g1, 2, none⟩ = some (.int .i64 2) ∧ W.cell? ⟨g1, 3, none⟩ = some (.int .i64 2) ∧ W.cell? ⟨g1, 4, none⟩ = some u1 ∧ W.cell? ⟨g2, 0, none⟩ = some (.int .i64 1) ∧ W.cell? ⟨g2, 1, none⟩ = some (.int .i64 1) ∧ W.cell? ⟨g2, 2, none⟩ = some (.int .i64 3) ∧ W.cell? ⟨g2, 3, none⟩ = some (.int .i64 0) ∧ W.cell? ⟨g2, 4, none⟩ = some u2 ∧ W.cell? ⟨g3, 0, none⟩ = some (.int .i64 2) ∧ W.cell? ⟨g3, 1, none⟩ = some (.int .i64 1) ∧ W.cell? ⟨g3, 2, none⟩ = some (.int .i64 2) ∧ W.cell? ⟨g3, 3, none⟩ = some (.int .i64 0) ∧ W.cell? ⟨g3, 4, none⟩ = some u3
theorem KQ.all {w W : World} {g1 g2 g3 : Nat} {u1 u2 u3 : Value} (h : KQ w g1 g2 g3 u1 u2 u3 W) : KQ2 w g1 g2 g3 u1 u2 u3 W := ⟨h, h.a.c0, h.a.c1, h.a.c2, h.a.c3, h.a.c4, h.b.c0, h.b.c1, h.b.c2, h.b.c3, h.b.c4, h.c.c0, h.c.c1, h.c.c2, h.c.c3, h.c.c4⟩

/-- The two rows of awake's matrix. -/
theorem rows_rd (w : World) : RdM (((w.alloc (.cells #[.int .i64 1, .int .i64 2] 2)).alloc (.cells #[.int .i64 3, .int .i64 4] 2)).alloc (.cells #[.slice (some ⟨w.heap.size, 0, none⟩) 2 2, .slice (some ⟨w.heap.size + 1, 0, none⟩) 2 2] 22)).heap.size (((w.alloc (.cells #[.int .i64 1, .int .i64 2] 2)).alloc (.cells #[.int .i64 3, .int .i64 4] 2)).alloc (.cells #[.slice (some ⟨w.heap.size, 0, none⟩) 2 2, .slice (some ⟨w.heap.size + 1, 0, none⟩) 2 2] 22)) (.slice (some ⟨w.heap.size + 1 + 1, 0, none⟩) 2 2) [[1, 2], [3, 4]] := by
  have e1 := (((bel1 (w.alloc (.cells #[.int .i64 1, .int .i64 2] 2)) (.cells #[.int .i64 3, .int .i64 4] 2)).block w.heap.size (by simp)).trans (heap_alloc_last w _))
  have e2 := heap_alloc_last (w.alloc (.cells #[.int .i64 1, .int .i64 2] 2)) (.cells #[.int .i64 3, .int .i64 4] 2)
  have s1 : (w.alloc (.cells #[.int .i64 1, .int .i64 2] 2)).heap.size = w.heap.size + 1 := by simp
  rw [s1] at e2
  have hb := bel1 ((w.alloc (.cells #[.int .i64 1, .int .i64 2] 2)).alloc (.cells #[.int .i64 3, .int .i64 4] 2)) (.cells #[.slice (some ⟨w.heap.size, 0, none⟩) 2 2, .slice (some ⟨w.heap.size + 1, 0, none⟩) 2 2] 22)
  have e3 := heap_alloc_last ((w.alloc (.cells #[.int .i64 1, .int .i64 2] 2)).alloc (.cells #[.int .i64 3, .int .i64 4] 2)) (.cells #[.slice (some ⟨w.heap.size, 0, none⟩) 2 2, .slice (some ⟨w.heap.size + 1, 0, none⟩) 2 2] 22)
  have s2 : ((w.alloc (.cells #[.int .i64 1, .int .i64 2] 2)).alloc (.cells #[.int .i64 3, .int .i64 4] 2)).heap.size = w.heap.size + 1 + 1 := by simp
  rw [s2] at e3
  have f1 := (hb.block w.heap.size (by simp; omega)).trans e1
  have f2 := (hb.block (w.heap.size + 1) (by simp)).trans e2
  generalize ((w.alloc (.cells #[.int .i64 1, .int .i64 2] 2)).alloc (.cells #[.int .i64 3, .int .i64 4] 2)).alloc (.cells #[.slice (some ⟨w.heap.size, 0, none⟩) 2 2, .slice (some ⟨w.heap.size + 1, 0, none⟩) 2 2] 22) = W at e3 f1 f2 ⊢
  refine ⟨_, 2, rfl, ⟨Nat.le_refl _, by omega⟩, fun _ => ⟨w.heap.size + 1 + 1, 0, rfl, (Array.getElem?_eq_some_iff.1 e3).1, fun j hj => ?_⟩⟩
  match j, hj with
  | 0, _ => exact ⟨_, by simp [World.cell?, e3], blk_rd (l := [1, 2]) rfl (by decide) f1, nil_some _ _ _⟩
  | 1, _ => exact ⟨_, by simp [World.cell?, e3], blk_rd (l := [3, 4]) rfl (by decide) f2, nil_some _ _ _⟩

set_option maxRecDepth 100000 in
set_option maxHeartbeats 8000000 in
theorem awake_any (w : World) (hw : Ru.Lay w) : Calls Tryd.prog 5 #[] w fun e w' => e = .returned (.bool true) ∧ Below w.heap.size w w' := by
  have HL := Lib.hid hw
  clear hw
  have HM : Hid (Calls Tryd.prog 13 #[.slice (some ⟨w.heap.size + 1 + 1, 0, none⟩) 2 2] (((w.alloc (.cells #[.int .i64 1, .int .i64 2] 2)).alloc (.cells #[.int .i64 3, .int .i64 4] 2)).alloc (.cells #[.slice (some ⟨w.heap.size, 0, none⟩) 2 2, .slice (some ⟨w.heap.size + 1, 0, none⟩) 2 2] 22)) fun e w' => ∃ u, e = .returned (.tuple #[A5 1 2 2 2 u, .int .i64 0]) ∧ RdI w'.heap.size w' u [1, 2, 3, 4] ∧ Below w.heap.size w w') := by
    refine (matrix_code _ [[1, 2], [3, 4]] _ (rows_rd w) (by intro r hr; simp at hr; rcases hr with rfl | rfl <;> simp)).mono ?_
    rw [show mtV [[1, 2], [3, 4]] = ⟨1, 2, 2, 2, [1, 2, 3, 4]⟩ from rfl, show mtE [[1, 2], [3, 4]] = 0 by decide]
    rintro e w' ⟨u, h1, h2, h3⟩
    exact ⟨u, h1, h2.rd, (bel1 w _).trans (((bel1 _ _).mono (by simp)).trans (((bel1 _ _).mono (by simp; omega)).trans (h3.mono (by simp; omega))))⟩
  have HV : Hid (∀ (l : List Int) (n : Nat) (g : Nat) (W : World), l.length = n → n ≤ 1000000 → W.heap[g]? = some (.cells (l.map vi).toArray 2 (0, 0)) → Calls Tryd.prog 23 #[.slice (some ⟨g, 0, none⟩) n n] W fun e w' => e = .returned (A5 1 1 n 0 (.slice (some ⟨g, 0, none⟩) n n)) ∧ RdI w'.heap.size w' (.slice (some ⟨g, 0, none⟩) n n) l ∧ Below W.heap.size W w') := fun l n g W h1 h2 h3 => by
    have hr := blk_rd h1 h2 h3
    subst h1
    exact (lvector_any l _ W hr).mono fun e w' ⟨q1, q2⟩ => ⟨q1, hr.next q2, q2⟩
  have HW : Hid (∀ (v : Value) (W : World), Ru.Lay W → RdI W.heap.size W v [5, 6, 7] → Ru.NilC v → Calls Tryd.prog 20 #[A5 1 1 3 0 v, P2 1 0, .int .i64 9] W fun e w' => ∃ u, e = .returned (.tuple #[A5 1 1 3 0 u, .int .i64 0]) ∧ RdI w'.heap.size w' u [5, 9, 7] ∧ Below W.heap.size W w') := fun v W h1 h2 h3 => by
    refine (with_any ⟨1, 1, 3, 0, [5, 6, 7]⟩ v 1 0 9 W h1 h2 h3 (by decide)).mono ?_
    rw [show wtV ⟨1, 1, 3, 0, [5, 6, 7]⟩ 1 0 9 = ⟨1, 1, 3, 0, [5, 9, 7]⟩ from rfl, show wtE ⟨1, 1, 3, 0, [5, 6, 7]⟩ 1 0 9 = 0 by decide]
    rintro e w' ⟨u, q1, q2, q3⟩
    exact ⟨u, q1, q2.rd, q3⟩
  have HT : Hid (∀ (W : World), Ru.Lay W → Calls Tryd.prog 11 #[.string ⟨#[195, 169, 33]⟩] W fun e w' => ∃ u, e = .returned (.tuple #[A5 2 1 2 0 u, .int .i64 0]) ∧ RdI w'.heap.size w' u [233, 33] ∧ Below W.heap.size W w') := fun W h1 => by
    refine (text_lay ⟨#[195, 169, 33]⟩ W h1 (by decide)).mono ?_
    rw [show byt ⟨#[195, 169, 33]⟩ = [195, 169, 33] from rfl, show txV [195, 169, 33] = ⟨2, 1, 2, 0, [233, 33]⟩ by rfl, show txE [195, 169, 33] = 0 by decide +kernel]
    rintro e w' ⟨u, q1, q2, q3⟩
    exact ⟨u, q1, q2.rd, q3⟩
  have HI : Hid (∀ (W : World), Calls Tryd.prog 9 #[.int .i64 5] W fun e w' => ∃ u, e = .returned (A5 1 0 0 0 u) ∧ RdI w'.heap.size w' u [5] ∧ Below W.heap.size W w') := fun W => (int_any 5 W).mono fun e w' ⟨u, q1, q2, q3⟩ => ⟨u, q1, q2.rd, q3⟩
  have HC : Hid (∀ (v u : Value) (W : World), Ru.Lay W → RdI W.heap.size W v [5] → RdI W.heap.size W u [1] → Calls Tryd.prog 24 #[A5 1 0 0 0 v, A5 1 1 1 0 u] W fun e w' => e = .returned (.tuple #[.int .i64 (-1), .int .i64 0]) ∧ Below W.heap.size W w') := fun v u W h1 h2 h3 => by
    have := compare_any ⟨1, 0, 0, 0, [5]⟩ ⟨1, 1, 1, 0, [1]⟩ v u W h1 h2 h3 (by decide) (by decide)
    rwa [show cpV ⟨1, 0, 0, 0, [5]⟩ ⟨1, 1, 1, 0, [1]⟩ = -1 by decide, show cpE ⟨1, 0, 0, 0, [5]⟩ ⟨1, 1, 1, 0, [1]⟩ = 0 by decide] at this
  have HSm : Hid (∀ (k r a b : Int) (z : List Int) (v u : Value) (W : World), z.length ≤ 1000000 → RdI W.heap.size W v z → RdI W.heap.size W u z → Calls Tryd.prog 8 #[A5 k r a b v, A5 k r a b u] W fun e w' => e = .returned (.bool true) ∧ Below W.heap.size W w') := fun k r a b z v u W h0 h1 h2 => by
    have := rsame_any ⟨k, r, a, b, z⟩ ⟨k, r, a, b, z⟩ v u W h1 h2 h0
    rwa [smB_self] at this
  have HV5 : Hid (∀ (W : World) (g : Nat), W.heap.size = g → Calls Tryd.prog 23 #[.slice (some ⟨g, 0, none⟩) 3 3] (W.alloc (.cells #[.int .i64 5, .int .i64 6, .int .i64 7] 2)) fun e w' => e = .returned (A5 1 1 3 0 (.slice (some ⟨g, 0, none⟩) 3 3)) ∧ RdI w'.heap.size w' (.slice (some ⟨g, 0, none⟩) 3 3) [5, 6, 7] ∧ Below W.heap.size W w') := fun W g hg => by
    subst hg
    exact (HV.out [5, 6, 7] 3 _ _ rfl (by decide) (heap_alloc_last W _)).mono fun e w' ⟨q1, q2, q3⟩ => ⟨q1, q2, (bel1 _ _).trans (q3.mono (by simp))⟩
  have HV1 : Hid (∀ (W : World) (g : Nat), W.heap.size = g → Calls Tryd.prog 23 #[.slice (some ⟨g, 0, none⟩) 1 1] (W.alloc (.cells #[.int .i64 1] 2)) fun e w' => e = .returned (A5 1 1 1 0 (.slice (some ⟨g, 0, none⟩) 1 1)) ∧ RdI w'.heap.size w' (.slice (some ⟨g, 0, none⟩) 1 1) [1] ∧ Below W.heap.size W w') := fun W g hg => by
    subst hg
    exact (HV.out [1] 1 _ _ rfl (by decide) (heap_alloc_last W _)).mono fun e w' ⟨q1, q2, q3⟩ => ⟨q1, q2, (bel1 _ _).trans (q3.mono (by simp))⟩
  have HV9 : Hid (∀ (W : World) (g : Nat), W.heap.size = g → Calls Tryd.prog 23 #[.slice (some ⟨g, 0, none⟩) 3 3] (W.alloc (.cells #[.int .i64 5, .int .i64 9, .int .i64 7] 2)) fun e w' => e = .returned (A5 1 1 3 0 (.slice (some ⟨g, 0, none⟩) 3 3)) ∧ RdI w'.heap.size w' (.slice (some ⟨g, 0, none⟩) 3 3) [5, 9, 7] ∧ Below (W.alloc (.cells #[.int .i64 5, .int .i64 9, .int .i64 7] 2)).heap.size (W.alloc (.cells #[.int .i64 5, .int .i64 9, .int .i64 7] 2)) w') := fun W g hg => by
    subst hg
    exact (HV.out [5, 9, 7] 3 _ _ rfl (by decide) (heap_alloc_last W _)).mono fun e w' ⟨q1, q2, q3⟩ => ⟨q1, q2, q3⟩
  have HS1 : Hid (∀ (v : Value) (W : World) (g : Nat), W.heap[g]? = some (.cells #[.int .i64 1, .int .i64 2, .int .i64 3, .int .i64 4] 2 (0, 0)) → RdI W.heap.size W v [1, 2, 3, 4] → Calls Tryd.prog 8 #[A5 1 2 2 2 v, A5 1 2 2 2 (.slice (some ⟨g, 0, none⟩) 4 4)] W fun e w' => e = .returned (.bool true) ∧ Below W.heap.size W w') := fun v W g h1 h2 => HSm.out 1 2 2 2 [1, 2, 3, 4] v _ W (by decide) h2 (blk_rd (l := [1, 2, 3, 4]) rfl (by decide) h1)
  have HS3 : Hid (∀ (v : Value) (W : World) (g : Nat), W.heap[g]? = some (.cells #[.int .i64 233, .int .i64 33] 2 (0, 0)) → RdI W.heap.size W v [233, 33] → Calls Tryd.prog 8 #[A5 2 1 2 0 v, A5 2 1 2 0 (.slice (some ⟨g, 0, none⟩) 2 2)] W fun e w' => e = .returned (.bool true) ∧ Below W.heap.size W w') := fun v W g h1 h2 => HSm.out 2 1 2 0 [233, 33] v _ W (by decide) h2 (blk_rd (l := [233, 33]) rfl (by decide) h1)
  have HS2 : Hid (∀ (v u : Value) (W : World), RdI W.heap.size W v [5, 9, 7] → RdI W.heap.size W u [5, 9, 7] → Calls Tryd.prog 8 #[A5 1 1 3 0 v, A5 1 1 3 0 u] W fun e w' => e = .returned (.bool true) ∧ Below W.heap.size W w') := fun v u W h1 h2 => HSm.out 1 1 3 0 [5, 9, 7] v u W (by decide) h1 h2
  go_enter Tryd.func5, Tryd.ntmps5
  go_wp2_with (first
    | (go_at_call 23; have hq4 := HR4; clear hq4; refine (HV1.out _ _ (by first | rfl | simp)).mono ?_; rintro e w' ⟨rfl, hrv, hb⟩; have HB2 := Lib.hid (HB.out.trans (hb.mono HB.out.size)); clear HB; have HB := HB2; clear HB2; have HA1n := Lib.hid (HA1.out.next hb); clear HA1; have HA1 := HA1n; clear HA1n; have HR1n := Lib.hid (HR1.out.next hb); clear HR1; have HR1 := HR1n; clear HR1n; have HA2n := Lib.hid (HA2.out.next hb); clear HA2; have HA2 := HA2n; clear HA2n; have HR2n := Lib.hid (HR2.out.next hb); clear HR2; have HR2 := HR2n; clear HR2n; have HA3n := Lib.hid (HA3.out.next hb); clear HA3; have HA3 := HA3n; clear HA3n; have HR3n := Lib.hid (HR3.out.next hb); clear HR3; have HR3 := HR3n; clear HR3n; have HR4n := Lib.hid (HR4.out.next hb); clear HR4; have HR4 := HR4n; clear HR4n; clear hb)
    | (go_at_call 13; refine HM.out.mono ?_; rintro e wa ⟨u1, rfl, hu, hb⟩; have HB := Lib.hid (Below.refl w.heap.size w); obtain ⟨p1, c1, hp1, _, _, _⟩ := id hu; have hp1' : u1 = .slice p1 4 c1 := hp1; subst hp1'; clear hp1; have hbx := bel1 wa (.cells #[.int .i64 1, .int .i64 2, .int .i64 2, .int .i64 2, (.slice p1 4 c1)] 27); have HB2 := Lib.hid (HB.out.trans (hb.mono HB.out.size)); clear HB; have HB := HB2; clear HB2; have HB2 := Lib.hid (HB.out.trans (hbx.mono HB.out.size)); clear HB; have HB := HB2; clear HB2; have HR1 := Lib.hid (hu.next hbx); have HA1 := Lib.hid (R5.new wa 1 2 2 2 (.slice p1 4 c1)); clear hb hbx hu; clear HM)
    | (go_at_call 23; refine (HV5.out _ _ (by simp)).mono ?_; rintro e w' ⟨rfl, hrv, hb⟩; have HB2 := Lib.hid (HB.out.trans (hb.mono HB.out.size)); clear HB; have HB := HB2; clear HB2; have HA1n := Lib.hid (HA1.out.next hb); clear HA1; have HA1 := HA1n; clear HA1n; have HR1n := Lib.hid (HR1.out.next hb); clear HR1; have HR1 := HR1n; clear HR1n; clear hb)
    | (go_at_call 20; refine (HW.out _ _ (HL.out.next HB.out) hrv (nil_some _ _ _)).mono ?_; rintro e wb ⟨u2, rfl, hu, hb⟩; obtain ⟨p2, c2, hp2, _, _, _⟩ := id hu; have hp2' : u2 = .slice p2 3 c2 := hp2; subst hp2'; clear hp2; have hbx := bel1 wb (.cells #[.int .i64 1, .int .i64 1, .int .i64 3, .int .i64 0, (.slice p2 3 c2)] 27); have HB2 := Lib.hid (HB.out.trans (hb.mono HB.out.size)); clear HB; have HB := HB2; clear HB2; have HA1n := Lib.hid (HA1.out.next hb); clear HA1; have HA1 := HA1n; clear HA1n; have HR1n := Lib.hid (HR1.out.next hb); clear HR1; have HR1 := HR1n; clear HR1n; have HB2 := Lib.hid (HB.out.trans (hbx.mono HB.out.size)); clear HB; have HB := HB2; clear HB2; have HA1n := Lib.hid (HA1.out.next hbx); clear HA1; have HA1 := HA1n; clear HA1n; have HR1n := Lib.hid (HR1.out.next hbx); clear HR1; have HR1 := HR1n; clear HR1n; have HR2 := Lib.hid (hu.next hbx); have HA2 := Lib.hid (R5.new wb 1 1 3 0 (.slice p2 3 c2)); clear hb hbx hu; clear hrv)
    | (go_at_call 11; refine (HT.out _ (HL.out.next HB.out)).mono ?_; rintro e wc ⟨u3, rfl, hu, hb⟩; obtain ⟨p3, c3, hp3, _, _, _⟩ := id hu; have hp3' : u3 = .slice p3 2 c3 := hp3; subst hp3'; clear hp3; have hbx := bel1 wc (.cells #[.int .i64 2, .int .i64 1, .int .i64 2, .int .i64 0, (.slice p3 2 c3)] 27); have HB2 := Lib.hid (HB.out.trans (hb.mono HB.out.size)); clear HB; have HB := HB2; clear HB2; have HA1n := Lib.hid (HA1.out.next hb); clear HA1; have HA1 := HA1n; clear HA1n; have HR1n := Lib.hid (HR1.out.next hb); clear HR1; have HR1 := HR1n; clear HR1n; have HA2n := Lib.hid (HA2.out.next hb); clear HA2; have HA2 := HA2n; clear HA2n; have HR2n := Lib.hid (HR2.out.next hb); clear HR2; have HR2 := HR2n; clear HR2n; have HB2 := Lib.hid (HB.out.trans (hbx.mono HB.out.size)); clear HB; have HB := HB2; clear HB2; have HA1n := Lib.hid (HA1.out.next hbx); clear HA1; have HA1 := HA1n; clear HA1n; have HR1n := Lib.hid (HR1.out.next hbx); clear HR1; have HR1 := HR1n; clear HR1n; have HA2n := Lib.hid (HA2.out.next hbx); clear HA2; have HA2 := HA2n; clear HA2n; have HR2n := Lib.hid (HR2.out.next hbx); clear HR2; have HR2 := HR2n; clear HR2n; have HR3 := Lib.hid (hu.next hbx); have HA3 := Lib.hid (R5.new wc 2 1 2 0 (.slice p3 2 c3)); clear hb hbx hu)
    | (go_at_call 9; refine (HI.out _).mono ?_; rintro e w' ⟨u4, rfl, hu, hb⟩; obtain ⟨p4, c4, hp4, _, _, _⟩ := id hu; have hp4' : u4 = .slice p4 1 c4 := hp4; subst hp4'; clear hp4; have HR4 := Lib.hid hu; have HB2 := Lib.hid (HB.out.trans (hb.mono HB.out.size)); clear HB; have HB := HB2; clear HB2; have HA1n := Lib.hid (HA1.out.next hb); clear HA1; have HA1 := HA1n; clear HA1n; have HR1n := Lib.hid (HR1.out.next hb); clear HR1; have HR1 := HR1n; clear HR1n; have HA2n := Lib.hid (HA2.out.next hb); clear HA2; have HA2 := HA2n; clear HA2n; have HR2n := Lib.hid (HR2.out.next hb); clear HR2; have HR2 := HR2n; clear HR2n; have HA3n := Lib.hid (HA3.out.next hb); clear HA3; have HA3 := HA3n; clear HA3n; have HR3n := Lib.hid (HR3.out.next hb); clear HR3; have HR3 := HR3n; clear HR3n; clear hb hu)
    | (go_at_call 24; refine (HC.out _ _ _ (HL.out.next HB.out) HR4.out hrv).mono ?_; rintro e w' ⟨rfl, hb⟩; have HB2 := Lib.hid (HB.out.trans (hb.mono HB.out.size)); clear HB; have HB := HB2; clear HB2; have HA1n := Lib.hid (HA1.out.next hb); clear HA1; have HA1 := HA1n; clear HA1n; have HR1n := Lib.hid (HR1.out.next hb); clear HR1; have HR1 := HR1n; clear HR1n; have HA2n := Lib.hid (HA2.out.next hb); clear HA2; have HA2 := HA2n; clear HA2n; have HR2n := Lib.hid (HR2.out.next hb); clear HR2; have HR2 := HR2n; clear HR2n; have HA3n := Lib.hid (HA3.out.next hb); clear HA3; have HA3 := HA3n; clear HA3n; have HR3n := Lib.hid (HR3.out.next hb); clear HR3; have HR3 := HR3n; clear HR3n; clear hb HR4 hrv))
  have hS : KQ w wa.heap.size wb.heap.size wc.heap.size (.slice p1 4 c1) (.slice p2 3 c2) (.slice p3 2 c3) _ := ⟨HB.out, HA1.out, HA2.out, HA3.out, HR1.out, HR2.out, HR3.out⟩
  clear HB HA1 HA2 HA3 HR1 HR2 HR3 HV5 HV1 HW HT HI HC HV
  go_region_held3 (KQ2 w wa.heap.size wb.heap.size wc.heap.size (.slice p1 4 c1) (.slice p2 3 c2) (.slice p3 2 c3))
    ((first | exact KQ.all ((by assumption : KQ2 _ _ _ _ _ _ _ _).1.next hbn) | exact KQ.all ((by assumption : KQ2 _ _ _ _ _ _ _ _).1.next (bel1 _ _)) | exact KQ.all (by assumption : KQ2 _ _ _ _ _ _ _ _).1 | exact KQ.all (hS.next (Below.refl _ _).drew) | fail))
    (first
      | (go_at_call 23; refine (HV9.out _ _ (by first | rfl | simp)).mono ?_; rintro e wn ⟨rfl, hrv, hbn⟩)
      | (go_at_call 8; (with_reducible refine (HS2.out _ _ _ (by with_unfolding_all exact (by assumption : KQ2 _ _ _ _ _ _ _ _).1.rb) hrv).mono ?_); rintro e wn ⟨rfl, hbn⟩)
      | (go_at_call 8; (with_reducible refine (HS1.out _ _ _ (by with_unfolding_all first | exact heap_alloc_last _ _ | simp) (by with_unfolding_all exact (by assumption : KQ2 _ _ _ _ _ _ _ _).1.ra)).mono ?_); rintro e wn ⟨rfl, hbn⟩)
      | (go_at_call 8; (with_reducible refine (HS3.out _ _ _ (by with_unfolding_all first | exact heap_alloc_last _ _ | simp) (by with_unfolding_all exact (by assumption : KQ2 _ _ _ _ _ _ _ _).1.rc)).mono ?_); rintro e wn ⟨rfl, hbn⟩)
      | fail)
  all_goals
    have HB := Lib.hid (by assumption : KQ2 _ _ _ _ _ _ _ _).1.bel
    go_wp2_with fail
    go_ret
    exact ⟨rfl, HB.out⟩
end Go.Proofs.YtdbampgbbghfkaaDoor
