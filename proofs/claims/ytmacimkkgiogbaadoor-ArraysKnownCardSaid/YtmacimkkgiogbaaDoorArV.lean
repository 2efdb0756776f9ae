/- The law ArraysKnown. -/
import Derived.Test.YtmacimkkgiogbaaDoorArR0
namespace Go.Proofs.YtmacimkkgiogbaaDoor
open Go.RowKit

/-- The two rows of the matrix that is none. -/
theorem rows2_rd (w : World) : RdM (((w.alloc (.cells #[.int .i64 1, .int .i64 2] 2)).alloc (.cells #[.int .i64 3] 2)).alloc (.cells #[.slice (some ⟨w.heap.size, 0, none⟩) 2 2, .slice (some ⟨w.heap.size + 1, 0, none⟩) 1 1] 23)).heap.size (((w.alloc (.cells #[.int .i64 1, .int .i64 2] 2)).alloc (.cells #[.int .i64 3] 2)).alloc (.cells #[.slice (some ⟨w.heap.size, 0, none⟩) 2 2, .slice (some ⟨w.heap.size + 1, 0, none⟩) 1 1] 23)) (.slice (some ⟨w.heap.size + 1 + 1, 0, none⟩) 2 2) [[1, 2], [3]] := by
  have e1 := (((bel1 (w.alloc (.cells #[.int .i64 1, .int .i64 2] 2)) (.cells #[.int .i64 3] 2)).block w.heap.size (by simp)).trans (heap_alloc_last w _))
  have e2 := heap_alloc_last (w.alloc (.cells #[.int .i64 1, .int .i64 2] 2)) (.cells #[.int .i64 3] 2)
  have s1 : (w.alloc (.cells #[.int .i64 1, .int .i64 2] 2)).heap.size = w.heap.size + 1 := by simp
  rw [s1] at e2
  have hb := bel1 ((w.alloc (.cells #[.int .i64 1, .int .i64 2] 2)).alloc (.cells #[.int .i64 3] 2)) (.cells #[.slice (some ⟨w.heap.size, 0, none⟩) 2 2, .slice (some ⟨w.heap.size + 1, 0, none⟩) 1 1] 23)
  have e3 := heap_alloc_last ((w.alloc (.cells #[.int .i64 1, .int .i64 2] 2)).alloc (.cells #[.int .i64 3] 2)) (.cells #[.slice (some ⟨w.heap.size, 0, none⟩) 2 2, .slice (some ⟨w.heap.size + 1, 0, none⟩) 1 1] 23)
  have s2 : ((w.alloc (.cells #[.int .i64 1, .int .i64 2] 2)).alloc (.cells #[.int .i64 3] 2)).heap.size = w.heap.size + 1 + 1 := by simp
  rw [s2] at e3
  have f1 := (hb.block w.heap.size (by simp; omega)).trans e1
  have f2 := (hb.block (w.heap.size + 1) (by simp)).trans e2
  generalize ((w.alloc (.cells #[.int .i64 1, .int .i64 2] 2)).alloc (.cells #[.int .i64 3] 2)).alloc (.cells #[.slice (some ⟨w.heap.size, 0, none⟩) 2 2, .slice (some ⟨w.heap.size + 1, 0, none⟩) 1 1] 23) = W at e3 f1 f2 ⊢
  refine ⟨_, 2, rfl, ⟨Nat.le_refl _, by omega⟩, fun _ => ⟨w.heap.size + 1 + 1, 0, rfl, (Array.getElem?_eq_some_iff.1 e3).1, fun j hj => ?_⟩⟩
  match j, hj with
  | 0, _ => exact ⟨_, by simp [World.cell?, e3], blk_rd (l := [1, 2]) rfl (by decide) f1, nil_some _ _ _⟩
  | 1, _ => exact ⟨_, by simp [World.cell?, e3], blk_rd (l := [3]) rfl (by decide) f2, nil_some _ _ _⟩

set_option maxRecDepth 100000 in
set_option maxHeartbeats 8000000 in
theorem lawKnown_any (w : World) (hw : Ru.Lay w) : Calls Tryd.prog 10 #[] w fun e w' => e = .returned (.bool true) ∧ Below w.heap.size w w' := by
  have HAw := Lib.hid (fun W h => awake_any W h)
  have HK : Hid (KLs w [] [] w) := KLs.start w hw
  clear hw
  have HZ1 : Hid (∀ W, Ru.Lay W → Calls Tryd.prog 15 #[.int .i64 2, .int .i64 2] W (RetE ⟨2, 2, 0, 0, []⟩ 0 W)) := fun W h => by
    have := zero_any 2 2 W h
    rwa [show zeV 2 2 = ⟨2, 2, 0, 0, []⟩ from rfl, show zeE 2 2 = 0 by decide] at this
  have HZ2 : Hid (∀ W, Ru.Lay W → Calls Tryd.prog 15 #[.int .i64 1, .int .i64 0] W (RetE ⟨1, 0, 0, 0, [0]⟩ 0 W)) := fun W h => by
    have := zero_any 1 0 W h
    rwa [show zeV 1 0 = ⟨1, 0, 0, 0, [0]⟩ from rfl, show zeE 1 0 = 0 by decide] at this
  have HM : Hid (∀ (W : World) (g : Nat), W.heap.size = g → Calls Tryd.prog 26 #[.slice (some ⟨g + 1 + 1, 0, none⟩) 2 2] (((W.alloc (.cells #[.int .i64 1, .int .i64 2] 2)).alloc (.cells #[.int .i64 3] 2)).alloc (.cells #[.slice (some ⟨g, 0, none⟩) 2 2, .slice (some ⟨g + 1, 0, none⟩) 1 1] 23)) fun e w' => ∃ u, e = .returned (.tuple #[A5 0 0 0 0 u, .int .i64 11]) ∧ RdN 0 w' u [] ∧ Below W.heap.size W w') := fun W g hg => by
    subst hg
    refine (matrix_code _ [[1, 2], [3]] _ (rows2_rd W) (by intro r hr; simp at hr; rcases hr with rfl | rfl <;> simp)).mono ?_
    rw [show mtV [[1, 2], [3]] = ⟨0, 0, 0, 0, []⟩ from rfl, show mtE [[1, 2], [3]] = 11 by decide]
    rintro e w' ⟨u, h1, h2, h3⟩
    exact ⟨u, h1, h2.mono (Nat.zero_le _), (bel1 W _).trans (((bel1 _ _).mono (by simp)).trans (((bel1 _ _).mono (by simp; omega)).trans (h3.mono (by simp; omega))))⟩
  have HT : Hid (∀ (W : World), Ru.Lay W → Calls Tryd.prog 24 #[.string ⟨#[255]⟩] W (RetE ⟨0, 0, 0, 0, []⟩ 6 W)) := fun W h1 => by
    have := text_lay ⟨#[255]⟩ W h1 (by decide)
    rwa [show byt ⟨#[255]⟩ = [255] from rfl, show txV [255] = ⟨0, 0, 0, 0, []⟩ by rfl, show txE [255] = 6 by decide +kernel] at this
  have HVa : Hid (∀ (l : List Int) (n : Nat) (g : Nat) (W : World), l.length = n → n ≤ 1000000 → W.heap[g]? = some (.cells (l.map vi).toArray 2 (0, 0)) → Calls Tryd.prog 42 #[.slice (some ⟨g, 0, none⟩) n n] W fun e w' => e = .returned (A5 1 1 n 0 (.slice (some ⟨g, 0, none⟩) n n)) ∧ RdI w'.heap.size w' (.slice (some ⟨g, 0, none⟩) n n) l ∧ Below W.heap.size W w') := fun l n g W h1 h2 h3 => by
    have hr := blk_rd h1 h2 h3
    subst h1
    exact (lvector_any l _ W hr).mono fun e w' ⟨q1, q2⟩ => ⟨q1, hr.next q2, q2⟩
  have HV2 : Hid (∀ (W : World) (g : Nat), W.heap.size = g → Calls Tryd.prog 42 #[.slice (some ⟨g, 0, none⟩) 2 2] (W.alloc (.cells #[.int .i64 1, .int .i64 2] 2)) fun e w' => e = .returned (A5 1 1 2 0 (.slice (some ⟨g, 0, none⟩) 2 2)) ∧ RdI w'.heap.size w' (.slice (some ⟨g, 0, none⟩) 2 2) [1, 2] ∧ Below W.heap.size W w') := fun W g hg => by
    subst hg
    exact (HVa.out [1, 2] 2 _ _ rfl (by decide) (heap_alloc_last W _)).mono fun e w' ⟨q1, q2, q3⟩ => ⟨q1, q2, (bel1 _ _).trans (q3.mono (by simp))⟩
  have HV3 : Hid (∀ (W : World) (g : Nat), W.heap.size = g → Calls Tryd.prog 42 #[.slice (some ⟨g, 0, none⟩) 2 2] (W.alloc (.cells #[.int .i64 1, .int .i64 3] 2)) fun e w' => e = .returned (A5 1 1 2 0 (.slice (some ⟨g, 0, none⟩) 2 2)) ∧ RdI w'.heap.size w' (.slice (some ⟨g, 0, none⟩) 2 2) [1, 3] ∧ Below W.heap.size W w') := fun W g hg => by
    subst hg
    exact (HVa.out [1, 3] 2 _ _ rfl (by decide) (heap_alloc_last W _)).mono fun e w' ⟨q1, q2, q3⟩ => ⟨q1, q2, (bel1 _ _).trans (q3.mono (by simp))⟩
  have HC1 : Hid (∀ (W : World) (g : Nat), W.heap.size = g → Ru.Lay W → Calls Tryd.prog 17 #[A5 1 1 2 0 (.slice (some ⟨g, 0, none⟩) 1 1)] (W.alloc (.cells #[.int .i64 5] 2)) fun e w' => e = .returned (.int .i64 6) ∧ Below W.heap.size W w') := fun W g hg h => by
    subst hg
    have := acheck_any ⟨1, 1, 2, 0, [5]⟩ (.slice (some ⟨W.heap.size, 0, none⟩) 1 1) (W.alloc (.cells #[.int .i64 5] 2)) (h.alloc _) (blk_rd (l := [5]) rfl (by decide) (heap_alloc_last W _)) (by simp)
    rw [show ck ⟨1, 1, 2, 0, [5]⟩ = 6 by decide] at this
    exact this.mono fun e w' ⟨q1, q2⟩ => ⟨q1, (bel1 _ _).trans (q2.mono (by simp))⟩
  have HC2 : Hid (∀ (W : World) (g : Nat), W.heap.size = g → Ru.Lay W → Calls Tryd.prog 17 #[A5 2 0 0 0 (.slice (some ⟨g, 0, none⟩) 1 1)] (W.alloc (.cells #[.int .i64 55296] 2)) fun e w' => e = .returned (.int .i64 7) ∧ Below W.heap.size W w') := fun W g hg h => by
    subst hg
    have := acheck_any ⟨2, 0, 0, 0, [55296]⟩ (.slice (some ⟨W.heap.size, 0, none⟩) 1 1) (W.alloc (.cells #[.int .i64 55296] 2)) (h.alloc _) (blk_rd (l := [55296]) rfl (by decide) (heap_alloc_last W _)) (by simp)
    rw [show ck ⟨2, 0, 0, 0, [55296]⟩ = 7 by decide] at this
    exact this.mono fun e w' ⟨q1, q2⟩ => ⟨q1, (bel1 _ _).trans (q2.mono (by simp))⟩
  have HC3 : Hid (∀ (W : World) (g : Nat), W.heap.size = g → Ru.Lay W → Calls Tryd.prog 17 #[A5 2 0 0 0 (.slice (some ⟨g, 0, none⟩) 1 1)] (W.alloc (.cells #[.int .i64 65] 2)) fun e w' => e = .returned (.int .i64 0) ∧ Below W.heap.size W w') := fun W g hg h => by
    subst hg
    have := acheck_any ⟨2, 0, 0, 0, [65]⟩ (.slice (some ⟨W.heap.size, 0, none⟩) 1 1) (W.alloc (.cells #[.int .i64 65] 2)) (h.alloc _) (blk_rd (l := [65]) rfl (by decide) (heap_alloc_last W _)) (by simp)
    rw [show ck ⟨2, 0, 0, 0, [65]⟩ = 0 by decide] at this
    exact this.mono fun e w' ⟨q1, q2⟩ => ⟨q1, (bel1 _ _).trans (q2.mono (by simp))⟩
  have HC : Hid (∀ (v u : Value) (W : World), Ru.Lay W → RdI W.heap.size W v [1, 2] → RdI W.heap.size W u [1, 3] → Calls Tryd.prog 36 #[A5 1 1 2 0 v, A5 1 1 2 0 u] W fun e w' => e = .returned (.tuple #[.int .i64 (-1), .int .i64 0]) ∧ Below W.heap.size W w') := fun v u W h1 h2 h3 => by
    have := compare_any ⟨1, 1, 2, 0, [1, 2]⟩ ⟨1, 1, 2, 0, [1, 3]⟩ v u W h1 h2 h3 (by decide) (by decide)
    rwa [show cpV ⟨1, 1, 2, 0, [1, 2]⟩ ⟨1, 1, 2, 0, [1, 3]⟩ = -1 by decide, show cpE ⟨1, 1, 2, 0, [1, 2]⟩ ⟨1, 1, 2, 0, [1, 3]⟩ = 0 by decide] at this
  have HS1 : Hid (∀ (v u : Value) (W : World), RdI W.heap.size W v [] → RdI W.heap.size W u [] → Calls Tryd.prog 19 #[A5 2 2 0 0 v, A5 2 2 0 0 u] W fun e w' => e = .returned (.bool true) ∧ Below W.heap.size W w') := fun v u W h1 h2 => same_eq 2 2 0 0 [] v u W h1 h2 (by simp)
  have HS2 : Hid (∀ (v : Value) (W : World) (g : Nat), W.heap.size = g → RdI W.heap.size W v [0] → Calls Tryd.prog 19 #[A5 1 0 0 0 v, A5 1 0 0 0 (.slice (some ⟨g, 0, none⟩) 1 1)] (W.alloc (.cells #[.int .i64 0] 2)) fun e w' => e = .returned (.bool true) ∧ Below W.heap.size W w') := fun v W g hg h1 => by
    subst hg
    exact (same_eq 1 0 0 0 [0] v _ _ (h1.next (bel1 _ _)) (blk_rd (l := [0]) rfl (by decide) (heap_alloc_last W _)) (by simp)).mono fun e w' ⟨q1, q2⟩ => ⟨q1, (bel1 _ _).trans (q2.mono (by simp))⟩
  clear HVa
  go_enter Tryd.func10, Tryd.ntmps10
  go_wp2_with (first
    | (go_at_call 15; (with_reducible refine (HZ1.out _ HK.out.lay).mono ?_); rintro e wa ⟨uwa, rfl, hu, hb⟩; obtain ⟨pwa, cwa, hpwa, _, _⟩ := hu.form; have hqwa : uwa = (.slice pwa 0 cwa) := hpwa; subst hqwa; clear hpwa; have HK2 := Lib.hid ((HK.out.next hb).push ⟨2, 2, 0, 0, []⟩ hu.rd); clear HK ; have HK := HK2; clear HK2; clear hb hu)
    | (go_at_call 15; (with_reducible refine (HZ2.out _ HK.out.lay).mono ?_); rintro e wb ⟨uwb, rfl, hu, hb⟩; obtain ⟨pwb, cwb, hpwb, _, _⟩ := hu.form; have hqwb : uwb = (.slice pwb 1 cwb) := hpwb; subst hqwb; clear hpwb; have HK2 := Lib.hid ((HK.out.next hb).push ⟨1, 0, 0, 0, [0]⟩ hu.rd); clear HK ; have HK := HK2; clear HK2; clear hb hu)
    | (go_at_call 26; (with_reducible refine (HM.out _ _ (by with_unfolding_all first | rfl | simp)).mono ?_); rintro e wc ⟨uwc, rfl, hu, hb⟩; obtain ⟨pwc, cwc, hpwc, _, _⟩ := hu.form; have hqwc : uwc = (.slice pwc 0 cwc) := hpwc; subst hqwc; clear hpwc; have HK2 := Lib.hid ((HK.out.next hb).push ⟨0, 0, 0, 0, []⟩ hu.rd); clear HK ; have HK := HK2; clear HK2; clear hb hu)
    | (go_at_call 24; (with_reducible refine (HT.out _ HK.out.lay).mono ?_); rintro e wd ⟨uwd, rfl, hu, hb⟩; obtain ⟨pwd, cwd, hpwd, _, _⟩ := hu.form; have hqwd : uwd = (.slice pwd 0 cwd) := hpwd; subst hqwd; clear hpwd; have HK2 := Lib.hid ((HK.out.next hb).push ⟨0, 0, 0, 0, []⟩ hu.rd); clear HK ; have HK := HK2; clear HK2; clear hb hu)
    | (go_at_call 42; (with_reducible refine (HV3.out _ _ (by with_unfolding_all first | rfl | simp)).mono ?_); rintro e wz ⟨rfl, hrv3, hb⟩; have hrv2n := hrv2.next hb; clear hrv2; have hrv2 := hrv2n; clear hrv2n; have HK2 := Lib.hid (HK.out.next hb); clear HK; have HK := HK2; clear HK2 hb)
    | (go_at_call 42; (with_reducible refine (HV2.out _ _ (by with_unfolding_all first | rfl | simp)).mono ?_); rintro e wz ⟨rfl, hrv2, hb⟩; have HK2 := Lib.hid (HK.out.next hb); clear HK; have HK := HK2; clear HK2 hb)
    | (go_at_call 36; (with_reducible refine (HC.out _ _ _ (by with_unfolding_all exact HK.out.lay) (by with_unfolding_all exact hrv2) (by with_unfolding_all exact hrv3)).mono ?_); rintro e wz ⟨rfl, hb⟩; clear hrv2 hrv3; have HK2 := Lib.hid (HK.out.next hb); clear HK; have HK := HK2; clear HK2 hb)
    | (go_at_call 17; (with_reducible refine (HC1.out _ _ (by with_unfolding_all first | rfl | simp) (by with_unfolding_all exact HK.out.lay)).mono ?_); rintro e wz ⟨rfl, hb⟩; have HK2 := Lib.hid (HK.out.next hb); clear HK; have HK := HK2; clear HK2 hb)
    | (go_at_call 17; (with_reducible refine (HC2.out _ _ (by with_unfolding_all first | rfl | simp) (by with_unfolding_all exact HK.out.lay)).mono ?_); rintro e wz ⟨rfl, hb⟩; have HK2 := Lib.hid (HK.out.next hb); clear HK; have HK := HK2; clear HK2 hb)
    | (go_at_call 17; (with_reducible refine (HC3.out _ _ (by with_unfolding_all first | rfl | simp) (by with_unfolding_all exact HK.out.lay)).mono ?_); rintro e wz ⟨rfl, hb⟩; have HK2 := Lib.hid (HK.out.next hb); clear HK; have HK := HK2; clear HK2 hb; have r0 := (HK.out.a _ (.tail _ (.tail _ (.tail _ (.head _))))).c0; have r1 := (HK.out.a _ (.tail _ (.tail _ (.tail _ (.head _))))).c1; have r2 := (HK.out.a _ (.tail _ (.tail _ (.tail _ (.head _))))).c2; have r3 := (HK.out.a _ (.tail _ (.tail _ (.tail _ (.head _))))).c3; have r4 := (HK.out.a _ (.tail _ (.tail _ (.tail _ (.head _))))).c4; have s0 := (HK.out.a _ (.tail _ (.tail _ (.head _)))).c0; have s1 := (HK.out.a _ (.tail _ (.tail _ (.head _)))).c1; have s2 := (HK.out.a _ (.tail _ (.tail _ (.head _)))).c2; have s3 := (HK.out.a _ (.tail _ (.tail _ (.head _)))).c3; have s4 := (HK.out.a _ (.tail _ (.tail _ (.head _)))).c4)
    | (go_at_call 19; (with_reducible refine (HS1.out _ _ _ (by with_unfolding_all exact HK.out.r _ (.tail _ (.tail _ (.tail _ (.head _))))) (by with_unfolding_all exact rd_nil _ _)).mono ?_); rintro e wz ⟨rfl, hb⟩; have HK2 := Lib.hid (HK.out.next hb); clear HK r0 r1 r2 r3 r4 s0 s1 s2 s3 s4; have HK := HK2; clear HK2; clear hb; have r0 := (HK.out.a _ (.tail _ (.tail _ (.tail _ (.head _))))).c0; have r1 := (HK.out.a _ (.tail _ (.tail _ (.tail _ (.head _))))).c1; have r2 := (HK.out.a _ (.tail _ (.tail _ (.tail _ (.head _))))).c2; have r3 := (HK.out.a _ (.tail _ (.tail _ (.tail _ (.head _))))).c3; have r4 := (HK.out.a _ (.tail _ (.tail _ (.tail _ (.head _))))).c4; have s0 := (HK.out.a _ (.tail _ (.tail _ (.head _)))).c0; have s1 := (HK.out.a _ (.tail _ (.tail _ (.head _)))).c1; have s2 := (HK.out.a _ (.tail _ (.tail _ (.head _)))).c2; have s3 := (HK.out.a _ (.tail _ (.tail _ (.head _)))).c3; have s4 := (HK.out.a _ (.tail _ (.tail _ (.head _)))).c4)
    | (go_at_call 19; (with_reducible refine (HS2.out _ _ _ (by with_unfolding_all first | rfl | simp) (by with_unfolding_all exact HK.out.r _ (.tail _ (.tail _ (.head _))))).mono ?_); rintro e wz ⟨rfl, hb⟩; have HK2 := Lib.hid (HK.out.next hb); clear HK r0 r1 r2 r3 r4 s0 s1 s2 s3 s4; have HK := HK2; clear HK2; clear hb; have r0 := (HK.out.a _ (.tail _ (.tail _ (.tail _ (.head _))))).c0; have r1 := (HK.out.a _ (.tail _ (.tail _ (.tail _ (.head _))))).c1; have r2 := (HK.out.a _ (.tail _ (.tail _ (.tail _ (.head _))))).c2; have r3 := (HK.out.a _ (.tail _ (.tail _ (.tail _ (.head _))))).c3; have r4 := (HK.out.a _ (.tail _ (.tail _ (.tail _ (.head _))))).c4; have s0 := (HK.out.a _ (.tail _ (.tail _ (.head _)))).c0; have s1 := (HK.out.a _ (.tail _ (.tail _ (.head _)))).c1; have s2 := (HK.out.a _ (.tail _ (.tail _ (.head _)))).c2; have s3 := (HK.out.a _ (.tail _ (.tail _ (.head _)))).c3; have s4 := (HK.out.a _ (.tail _ (.tail _ (.head _)))).c4)
    | (go_at_call 12; (with_reducible refine (HAw.out _ HK.out.lay).mono ?_); rintro e wz ⟨rfl, hb⟩; have HK2 := Lib.hid (HK.out.next hb); clear HK r0 r1 r2 r3 r4 s0 s1 s2 s3 s4; have HK := HK2; clear HK2; clear hb; have r0 := (HK.out.a _ (.tail _ (.tail _ (.tail _ (.head _))))).c0; have r1 := (HK.out.a _ (.tail _ (.tail _ (.tail _ (.head _))))).c1; have r2 := (HK.out.a _ (.tail _ (.tail _ (.tail _ (.head _))))).c2; have r3 := (HK.out.a _ (.tail _ (.tail _ (.tail _ (.head _))))).c3; have r4 := (HK.out.a _ (.tail _ (.tail _ (.tail _ (.head _))))).c4; have s0 := (HK.out.a _ (.tail _ (.tail _ (.head _)))).c0; have s1 := (HK.out.a _ (.tail _ (.tail _ (.head _)))).c1; have s2 := (HK.out.a _ (.tail _ (.tail _ (.head _)))).c2; have s3 := (HK.out.a _ (.tail _ (.tail _ (.head _)))).c3; have s4 := (HK.out.a _ (.tail _ (.tail _ (.head _)))).c4))
  go_ret
  exact ⟨rfl, HK.out.bel⟩
end Go.Proofs.YtmacimkkgiogbaaDoor
