/- The law MovesShapes. -/
import Derived.Test.YtbeoigmaieiigaaDoorMvKc
import Derived.Test.YtbeoigmaieiigaaDoorMvPs
import Derived.Test.YtbeoigmaieiigaaDoorMvW
import Derived.Test.YtbeoigmaieiigaaDoorMvO
import Derived.Deep.DeepCutAuto
namespace Go.Proofs.YtbeoigmaieiigaaDoor
open Go.RowKit

/-- What a region leaves that lays a variable and stores a result into it. -/
def CutE (w : World) (l : List Bk) (sp se : Value) (T : Ar) (E : Int) (W : World) : Prop :=
  ∃ g q c, sp = .pointer (some ⟨g, 0, none⟩) ∧ se = .int .i64 E ∧ KVar w (⟨g, T, .slice q T.z.length c⟩ :: l) W ∧ ∀ b ∈ l, b.g < g
/-- A block of two bytes. -/
def R8 (w : World) (g : Nat) (x y : Int) : Prop := w.heap[g]? = some (.cells #[.int .u8 x, .int .u8 y] 40 (0, 0))
theorem R8.c0 {w : World} {g : Nat} {x y : Int} (h : R8 w g x y) : w.cell? ⟨g, 0, none⟩ = some (.int .u8 x) := by unfold R8 at h; simp [World.cell?, h]
theorem R8.c1 {w : World} {g : Nat} {x y : Int} (h : R8 w g x y) : w.cell? ⟨g, 1, none⟩ = some (.int .u8 y) := by unfold R8 at h; simp [World.cell?, h]
theorem R8.next {w w' : World} {g : Nat} {x y : Int} (h : R8 w g x y) (hb : Below w.heap.size w w') : R8 w' g x y := (hb.block g (Array.getElem?_eq_some_iff.1 h).1).trans h
/-- The law's Ints of two numbers. -/
theorem ints_two7 (x y : Int) (v : Value) (W : World) (hv : RdI W.heap.size W v [x, y]) (hn : Ru.NilC v) : Calls Tryd.prog 35 #[v] W (RetA ⟨1, 1, 2, 0, [x, y]⟩ W) := lints_any [x, y] v W hv hn (by simp)
set_option maxRecDepth 100000 in
set_option maxHeartbeats 32000000 in
theorem lawShapes_any (A B : Ar) (l0 l1 : Int) (u v : Value) (w : World) (hw : Ru.Lay w) (hu : RdI w.heap.size w u A.z) (hv : RdI w.heap.size w v B.z) (hnu : Ru.NilC u) (hnv : Ru.NilC v) (h0 : 0 ≤ l0 ∧ l0 ≤ 255) (h1 : 0 ≤ l1 ∧ l1 ≤ 255) (haw : ∀ W, Ru.Lay W → Calls Tryd.prog 12 #[] W fun e w' => e = .returned (.bool true) ∧ Below W.heap.size W w') :
    Calls Tryd.prog 10 #[A5 A.k A.r A.a A.b u, A5 B.k B.r B.a B.b v, .agg #[.int .u8 l0, .int .u8 l1]] w fun e w' => e = .returned (.bool true) ∧ Below w.heap.size w w' := by
  have HF1 := Lib.hid (fun W h => far7_any A u W h)
  have HF2 := Lib.hid (fun W h => far7_any B v W h)
  have HAw := Lib.hid haw
  clear haw
  obtain ⟨W3, e3⟩ : ∃ W3, W3 = (((w.alloc (.cells #[.int .i64 A.k, .int .i64 A.r, .int .i64 A.a, .int .i64 A.b, u] 25)).alloc (.cells #[.int .i64 B.k, .int .i64 B.r, .int .i64 B.a, .int .i64 B.b, v] 25)).alloc (.cells #[.int .u8 l0, .int .u8 l1] 40)) := ⟨_, rfl⟩
  have HB3 : Hid (Below w.heap.size w W3) := by rw [e3]; exact ((bel1 w _).trans ((bel1 _ _).mono (by simp))).trans ((bel1 _ _).mono (by simp; omega))
  have HX : Hid (R5 W3 w.heap.size A.k A.r A.a A.b u) := by rw [e3]; exact ((R5.new w _ _ _ _ _).alloc _).alloc _
  have HY : Hid (R5 W3 (w.heap.size + 1) B.k B.r B.a B.b v) := by
    rw [e3]
    have := R5.new (w.alloc (.cells #[.int .i64 A.k, .int .i64 A.r, .int .i64 A.a, .int .i64 A.b, u] 25)) B.k B.r B.a B.b v
    rw [show (w.alloc (.cells #[.int .i64 A.k, .int .i64 A.r, .int .i64 A.a, .int .i64 A.b, u] 25)).heap.size = w.heap.size + 1 by simp] at this
    exact this.alloc _
  have HL8 : Hid (R8 W3 (w.heap.size + 1 + 1) l0 l1) := by
    rw [e3]
    have := heap_alloc_last ((w.alloc (.cells #[.int .i64 A.k, .int .i64 A.r, .int .i64 A.a, .int .i64 A.b, u] 25)).alloc (.cells #[.int .i64 B.k, .int .i64 B.r, .int .i64 B.a, .int .i64 B.b, v] 25)) (.cells #[.int .u8 l0, .int .u8 l1] 40)
    rw [show ((w.alloc (.cells #[.int .i64 A.k, .int .i64 A.r, .int .i64 A.a, .int .i64 A.b, u] 25)).alloc (.cells #[.int .i64 B.k, .int .i64 B.r, .int .i64 B.a, .int .i64 B.b, v] 25)).heap.size = w.heap.size + 1 + 1 by simp] at this
    exact this
  have HU := Lib.hid (hu.next HB3.out)
  have HV := Lib.hid (hv.next HB3.out)
  have HK : Hid (KVar W3 [] (((w.alloc (.cells #[.int .i64 A.k, .int .i64 A.r, .int .i64 A.a, .int .i64 A.b, u] 25)).alloc (.cells #[.int .i64 B.k, .int .i64 B.r, .int .i64 B.a, .int .i64 B.b, v] 25)).alloc (.cells #[.int .u8 l0, .int .u8 l1] 40))) := by rw [← e3]; exact KVar.start W3 (hw.next HB3.out)
  clear e3
  have HNA := Lib.hid hnu
  have HNB := Lib.hid hnv
  obtain ⟨p, cap, rfl, -, -, -⟩ := hu
  obtain ⟨q, cap', rfl, -, -, -⟩ := hv
  clear hw hnv hnu
  have x0 := (HX.out.next HK.out.bel).c0
  have x1 := (HX.out.next HK.out.bel).c1
  have x2 := (HX.out.next HK.out.bel).c2
  have x3 := (HX.out.next HK.out.bel).c3
  have x4 := (HX.out.next HK.out.bel).c4
  have y0 := (HY.out.next HK.out.bel).c0
  have y1 := (HY.out.next HK.out.bel).c1
  have y2 := (HY.out.next HK.out.bel).c2
  have y3 := (HY.out.next HK.out.bel).c3
  have y4 := (HY.out.next HK.out.bel).c4
  have m0 := (HL8.out.next HK.out.bel).c0
  have m1 := (HL8.out.next HK.out.bel).c1
  by_cases h2 : 405 < A.z.length
  · rw [decide_eq_true h2] at HF1
    clear h2
    as_aux_lemma =>
      go_enter Tryd.func10, Tryd.ntmps10
      go_wp2_with (first
        | (go_at_call 11; (with_reducible refine (HF1.out _ (by with_unfolding_all exact (HU.out.next HK.out.bel))).mono ?_); rintro e wz ⟨rfl, hb⟩; have HK2 := Lib.hid (HK.out.next hb); clear HK x0 x1 x2 x3 x4 y0 y1 y2 y3 y4 m0 m1; have HK := HK2; clear HK2; clear hb; have x0 := (HX.out.next HK.out.bel).c0; have x1 := (HX.out.next HK.out.bel).c1; have x2 := (HX.out.next HK.out.bel).c2; have x3 := (HX.out.next HK.out.bel).c3; have x4 := (HX.out.next HK.out.bel).c4; have y0 := (HY.out.next HK.out.bel).c0; have y1 := (HY.out.next HK.out.bel).c1; have y2 := (HY.out.next HK.out.bel).c2; have y3 := (HY.out.next HK.out.bel).c3; have y4 := (HY.out.next HK.out.bel).c4; have m0 := (HL8.out.next HK.out.bel).c0; have m1 := (HL8.out.next HK.out.bel).c1)
        | (go_at_call 12; (with_reducible refine (HAw.out _ (by with_unfolding_all exact HK.out.lay)).mono ?_); rintro e wz ⟨rfl, hb⟩; have HK2 := Lib.hid (HK.out.next hb); clear HK x0 x1 x2 x3 x4 y0 y1 y2 y3 y4 m0 m1; have HK := HK2; clear HK2; clear hb; have x0 := (HX.out.next HK.out.bel).c0; have x1 := (HX.out.next HK.out.bel).c1; have x2 := (HX.out.next HK.out.bel).c2; have x3 := (HX.out.next HK.out.bel).c3; have x4 := (HX.out.next HK.out.bel).c4; have y0 := (HY.out.next HK.out.bel).c0; have y1 := (HY.out.next HK.out.bel).c1; have y2 := (HY.out.next HK.out.bel).c2; have y3 := (HY.out.next HK.out.bel).c3; have y4 := (HY.out.next HK.out.bel).c4; have m0 := (HL8.out.next HK.out.bel).c0; have m1 := (HL8.out.next HK.out.bel).c1)
        | fail)
      go_ret
      exact ⟨rfl, HB3.out.trans (HK.out.bel.mono HB3.out.size)⟩
  rw [decide_eq_false h2] at HF1
  by_cases h3 : 405 < B.z.length
  · rw [decide_eq_true h3] at HF2
    clear h2 h3
    as_aux_lemma =>
      go_enter Tryd.func10, Tryd.ntmps10
      go_wp2_with (first
        | (go_at_call 11; (with_reducible refine (HF1.out _ (by with_unfolding_all exact (HU.out.next HK.out.bel))).mono ?_); rintro e wz ⟨rfl, hb⟩; have HK2 := Lib.hid (HK.out.next hb); clear HK x0 x1 x2 x3 x4 y0 y1 y2 y3 y4 m0 m1; have HK := HK2; clear HK2; clear hb; have x0 := (HX.out.next HK.out.bel).c0; have x1 := (HX.out.next HK.out.bel).c1; have x2 := (HX.out.next HK.out.bel).c2; have x3 := (HX.out.next HK.out.bel).c3; have x4 := (HX.out.next HK.out.bel).c4; have y0 := (HY.out.next HK.out.bel).c0; have y1 := (HY.out.next HK.out.bel).c1; have y2 := (HY.out.next HK.out.bel).c2; have y3 := (HY.out.next HK.out.bel).c3; have y4 := (HY.out.next HK.out.bel).c4; have m0 := (HL8.out.next HK.out.bel).c0; have m1 := (HL8.out.next HK.out.bel).c1)
        | (go_at_call 11; (with_reducible refine (HF2.out _ (by with_unfolding_all exact (HV.out.next HK.out.bel))).mono ?_); rintro e wz ⟨rfl, hb⟩; have HK2 := Lib.hid (HK.out.next hb); clear HK x0 x1 x2 x3 x4 y0 y1 y2 y3 y4 m0 m1; have HK := HK2; clear HK2; clear hb; have x0 := (HX.out.next HK.out.bel).c0; have x1 := (HX.out.next HK.out.bel).c1; have x2 := (HX.out.next HK.out.bel).c2; have x3 := (HX.out.next HK.out.bel).c3; have x4 := (HX.out.next HK.out.bel).c4; have y0 := (HY.out.next HK.out.bel).c0; have y1 := (HY.out.next HK.out.bel).c1; have y2 := (HY.out.next HK.out.bel).c2; have y3 := (HY.out.next HK.out.bel).c3; have y4 := (HY.out.next HK.out.bel).c4; have m0 := (HL8.out.next HK.out.bel).c0; have m1 := (HL8.out.next HK.out.bel).c1)
        | (go_at_call 12; (with_reducible refine (HAw.out _ (by with_unfolding_all exact HK.out.lay)).mono ?_); rintro e wz ⟨rfl, hb⟩; have HK2 := Lib.hid (HK.out.next hb); clear HK x0 x1 x2 x3 x4 y0 y1 y2 y3 y4 m0 m1; have HK := HK2; clear HK2; clear hb; have x0 := (HX.out.next HK.out.bel).c0; have x1 := (HX.out.next HK.out.bel).c1; have x2 := (HX.out.next HK.out.bel).c2; have x3 := (HX.out.next HK.out.bel).c3; have x4 := (HX.out.next HK.out.bel).c4; have y0 := (HY.out.next HK.out.bel).c0; have y1 := (HY.out.next HK.out.bel).c1; have y2 := (HY.out.next HK.out.bel).c2; have y3 := (HY.out.next HK.out.bel).c3; have y4 := (HY.out.next HK.out.bel).c4; have m0 := (HL8.out.next HK.out.bel).c0; have m1 := (HL8.out.next HK.out.bel).c1)
        | fail)
      go_ret
      exact ⟨rfl, HB3.out.trans (HK.out.bel.mono HB3.out.size)⟩
  rw [decide_eq_false h3] at HF2
  have hlA : A.z.length ≤ 1000000 := by omega
  have hlB : B.z.length ≤ 1000000 := by omega
  have HC1 := Lib.hid (fun W h => archeck_any A (.slice p A.z.length cap) W h hlA)
  have HC2 := Lib.hid (fun W h => archeck_any B (.slice q B.z.length cap') W h hlB)
  clear h2 h3
  go_enter Tryd.func10, Tryd.ntmps10
  go_upto_region 3 with (first
    | (go_at_call 11; (with_reducible refine (HF1.out _ (by with_unfolding_all exact (HU.out.next HK.out.bel))).mono ?_); rintro e wz ⟨rfl, hb⟩; have HK2 := Lib.hid (HK.out.next hb); clear HK x0 x1 x2 x3 x4 y0 y1 y2 y3 y4 m0 m1; have HK := HK2; clear HK2; clear hb; have x0 := (HX.out.next HK.out.bel).c0; have x1 := (HX.out.next HK.out.bel).c1; have x2 := (HX.out.next HK.out.bel).c2; have x3 := (HX.out.next HK.out.bel).c3; have x4 := (HX.out.next HK.out.bel).c4; have y0 := (HY.out.next HK.out.bel).c0; have y1 := (HY.out.next HK.out.bel).c1; have y2 := (HY.out.next HK.out.bel).c2; have y3 := (HY.out.next HK.out.bel).c3; have y4 := (HY.out.next HK.out.bel).c4; have m0 := (HL8.out.next HK.out.bel).c0; have m1 := (HL8.out.next HK.out.bel).c1)
    | (go_at_call 11; (with_reducible refine (HF2.out _ (by with_unfolding_all exact (HV.out.next HK.out.bel))).mono ?_); rintro e wz ⟨rfl, hb⟩; have HK2 := Lib.hid (HK.out.next hb); clear HK x0 x1 x2 x3 x4 y0 y1 y2 y3 y4 m0 m1; have HK := HK2; clear HK2; clear hb; have x0 := (HX.out.next HK.out.bel).c0; have x1 := (HX.out.next HK.out.bel).c1; have x2 := (HX.out.next HK.out.bel).c2; have x3 := (HX.out.next HK.out.bel).c3; have x4 := (HX.out.next HK.out.bel).c4; have y0 := (HY.out.next HK.out.bel).c0; have y1 := (HY.out.next HK.out.bel).c1; have y2 := (HY.out.next HK.out.bel).c2; have y3 := (HY.out.next HK.out.bel).c3; have y4 := (HY.out.next HK.out.bel).c4; have m0 := (HL8.out.next HK.out.bel).c0; have m1 := (HL8.out.next HK.out.bel).c1)
    | fail)
  go_cut [39] (fun t wx => t = .bool (decide (ck A = 0 ∧ A.r = 2)) ∧ KVar W3 [] wx)
  case first =>
    by_cases k1 : ck A = 0
    · rw [k1] at HC1
      by_cases k2 : A.r = 2
      · have k3 : (A.r == 2) = true := by simpa using k2
        have hd : Hid (decide (ck A = 0 ∧ A.r = 2) = true) := decide_eq_true ⟨k1, k2⟩
        clear k1 k2
        as_aux_lemma =>
          go_wp2_with (first
            | (go_at_call 30; (with_reducible refine (HC1.out _ (by with_unfolding_all exact (HU.out.next HK.out.bel))).mono ?_); rintro e wz ⟨rfl, hb⟩; have HK2 := Lib.hid (HK.out.next hb); clear HK x0 x1 x2 x3 x4 y0 y1 y2 y3 y4 m0 m1; have HK := HK2; clear HK2; clear hb; have x0 := (HX.out.next HK.out.bel).c0; have x1 := (HX.out.next HK.out.bel).c1; have x2 := (HX.out.next HK.out.bel).c2; have x3 := (HX.out.next HK.out.bel).c3; have x4 := (HX.out.next HK.out.bel).c4; have y0 := (HY.out.next HK.out.bel).c0; have y1 := (HY.out.next HK.out.bel).c1; have y2 := (HY.out.next HK.out.bel).c2; have y3 := (HY.out.next HK.out.bel).c3; have y4 := (HY.out.next HK.out.bel).c4; have m0 := (HL8.out.next HK.out.bel).c0; have m1 := (HL8.out.next HK.out.bel).c1)
            | fail)
          go_meet
          case rel => exact ⟨by rw [hd.out], HK.out⟩
      · have k3 : (A.r == 2) = false := by simpa using k2
        have hd : Hid (decide (ck A = 0 ∧ A.r = 2) = false) := decide_eq_false (fun h => k2 h.2)
        clear k1 k2
        as_aux_lemma =>
          go_wp2_with (first
            | (go_at_call 30; (with_reducible refine (HC1.out _ (by with_unfolding_all exact (HU.out.next HK.out.bel))).mono ?_); rintro e wz ⟨rfl, hb⟩; have HK2 := Lib.hid (HK.out.next hb); clear HK x0 x1 x2 x3 x4 y0 y1 y2 y3 y4 m0 m1; have HK := HK2; clear HK2; clear hb; have x0 := (HX.out.next HK.out.bel).c0; have x1 := (HX.out.next HK.out.bel).c1; have x2 := (HX.out.next HK.out.bel).c2; have x3 := (HX.out.next HK.out.bel).c3; have x4 := (HX.out.next HK.out.bel).c4; have y0 := (HY.out.next HK.out.bel).c0; have y1 := (HY.out.next HK.out.bel).c1; have y2 := (HY.out.next HK.out.bel).c2; have y3 := (HY.out.next HK.out.bel).c3; have y4 := (HY.out.next HK.out.bel).c4; have m0 := (HL8.out.next HK.out.bel).c0; have m1 := (HL8.out.next HK.out.bel).c1)
            | fail)
          go_meet
          case rel => exact ⟨by rw [hd.out], HK.out⟩
    · have hd : Hid (decide (ck A = 0 ∧ A.r = 2) = false) := decide_eq_false (fun h => k1 h.1)
      obtain ⟨E, hE⟩ : ∃ E, ck A = E := ⟨_, rfl⟩
      rw [hE] at k1 HC1
      clear hE
      have k3 : (E == 0) = false := by simpa using k1
      clear k1
      as_aux_lemma =>
        go_wp2_with (first
          | (go_at_call 30; (with_reducible refine (HC1.out _ (by with_unfolding_all exact (HU.out.next HK.out.bel))).mono ?_); rintro e wz ⟨rfl, hb⟩; have HK2 := Lib.hid (HK.out.next hb); clear HK x0 x1 x2 x3 x4 y0 y1 y2 y3 y4 m0 m1; have HK := HK2; clear HK2; clear hb; have x0 := (HX.out.next HK.out.bel).c0; have x1 := (HX.out.next HK.out.bel).c1; have x2 := (HX.out.next HK.out.bel).c2; have x3 := (HX.out.next HK.out.bel).c3; have x4 := (HX.out.next HK.out.bel).c4; have y0 := (HY.out.next HK.out.bel).c0; have y1 := (HY.out.next HK.out.bel).c1; have y2 := (HY.out.next HK.out.bel).c2; have y3 := (HY.out.next HK.out.bel).c3; have y4 := (HY.out.next HK.out.bel).c4; have m0 := (HL8.out.next HK.out.bel).c0; have m1 := (HL8.out.next HK.out.bel).c1)
          | fail)
        go_meet
        case rel => exact ⟨by rw [hd.out], HK.out⟩
  case rest =>
    obtain ⟨rfl, hk⟩ := hcut
    clear HK HC1 HF1 HF2 x0 x1 x2 x3 x4 y0 y1 y2 y3 y4 m0 m1
    have HK := Lib.hid hk
    clear hk
    have x0 := (HX.out.next HK.out.bel).c0
    have x1 := (HX.out.next HK.out.bel).c1
    have x2 := (HX.out.next HK.out.bel).c2
    have x3 := (HX.out.next HK.out.bel).c3
    have x4 := (HX.out.next HK.out.bel).c4
    have y0 := (HY.out.next HK.out.bel).c0
    have y1 := (HY.out.next HK.out.bel).c1
    have y2 := (HY.out.next HK.out.bel).c2
    have y3 := (HY.out.next HK.out.bel).c3
    have y4 := (HY.out.next HK.out.bel).c4
    have m0 := (HL8.out.next HK.out.bel).c0
    have m1 := (HL8.out.next HK.out.bel).c1
    go_upto_if 39 with fail
    go_cut [] (fun wx => KVar W3 [] wx)
    case first =>
      by_cases k1 : ck A = 0 ∧ A.r = 2
      rotate_left
      · rw [decide_eq_false k1]
        clear k1
        as_aux_lemma =>
          go_wp2_with fail
          go_meet
          case rel => exact HK.out
      · rw [decide_eq_true k1]
        have gA := ck_good k1.1
        have hr := k1.2
        obtain ⟨e1, e2⟩ := grid_ravel gA hr
        have HRa : Hid (∀ W, Ru.Lay W → RdI W.heap.size W (.slice p A.z.length cap) A.z → Calls Tryd.prog 13 #[A5 A.k A.r A.a A.b (.slice p A.z.length cap)] W (RetE ⟨A.k, 1, (A.z.length : Int), 0, A.z⟩ 0 W)) := fun W h0 h1 => by
          have := ravel_any A (.slice p A.z.length cap) W h0 h1 hlA
          rw [ra_good gA, k1.1] at this
          exact this
        have HIa : Hid (∀ v W, RdI W.heap.size W v [A.a, A.b] → Ru.NilC v → Calls Tryd.prog 35 #[v] W (RetA ⟨1, 1, 2, 0, [A.a, A.b]⟩ W)) := fun v W h h' => ints_two7 A.a A.b v W h h'
        have HGa : Hid (∀ u v W, Ru.Lay W → RdI W.heap.size W u [A.a, A.b] → RdI W.heap.size W v A.z → Calls Tryd.prog 26 #[A5 1 1 2 0 u, A5 A.k 1 (A.z.length : Int) 0 v] W (RetE ⟨A.k, A.r, A.a, A.b, A.z⟩ 0 W)) := fun u v W h0 h1 h2 => by
          have := mgrid_any (vecA 1 [A.a, A.b]) (vecA A.k A.z) u v W h0 h1 h2 (by simp [vecA]) hlA
          rw [e1, e2] at this
          exact this
        have HIs := Lib.hid (fun v u W h1 h2 => is_eq A v u W h1 h2 hlA)
        clear e1 e2 hr gA k1
        clear y0 y1 y2 y3 y4 m0 m1
        go_wp2_with (first
          | (go_at_call 13; (with_reducible refine (HRa.out _ (by with_unfolding_all exact HK.out.lay) (by with_unfolding_all exact (HU.out.next HK.out.bel))).mono ?_); rintro e wra ⟨uwra, rfl, hu, hb⟩; obtain ⟨pwra, cwra, hpwra, _, _⟩ := hu.form; have hqwra : uwra = (.slice pwra A.z.length cwra) := hpwra; subst hqwra; clear hpwra; have HK2 := Lib.hid (HK.out.res hb ⟨A.k, 1, (A.z.length : Int), 0, A.z⟩ hu); clear HK x0 x1 x2 x3 x4; have HK := HK2; clear HK2; clear hb hu; have x0 := (HX.out.next HK.out.bel).c0; have x1 := (HX.out.next HK.out.bel).c1; have x2 := (HX.out.next HK.out.bel).c2; have x3 := (HX.out.next HK.out.bel).c3; have x4 := (HX.out.next HK.out.bel).c4; have ra0 := (HK.out.a _ (.head _)).c0; have ra1 := (HK.out.a _ (.head _)).c1; have ra2 := (HK.out.a _ (.head _)).c2; have ra3 := (HK.out.a _ (.head _)).c3; have ra4 := (HK.out.a _ (.head _)).c4)
          | fail)
        clear x0 x1 x2 x3 x4 ra0 ra1 ra2 ra3 ra4
        generalize World.alloc wra _ = wy at HK ⊢
        generalize wra.heap.size = gra at *
        go_cut [9, 10] (fun sp se wx => CutE W3 [⟨gra, ⟨A.k, 1, (A.z.length : Int), 0, A.z⟩, (.slice pwra A.z.length cwra)⟩] sp se ⟨A.k, A.r, A.a, A.b, A.z⟩ 0 wx)
        case first =>
          as_aux_lemma =>
            skip
            have HLt : Hid (∀ g ∈ List.map Bk.g [⟨gra, ⟨A.k, 1, (A.z.length : Int), 0, A.z⟩, (.slice pwra A.z.length cwra)⟩], g < wy.heap.size) := fun g hg => by obtain ⟨c, hc, rfl⟩ := List.mem_map.1 hg; exact HK.out.lt c hc
            have HAll : Hid (∀ W, Below wy.heap.size wy W → (fun W => Below wy.heap.size wy W ∧ W.cell? ⟨w.heap.size, 2, none⟩ = some (.int .i64 A.a) ∧ W.cell? ⟨w.heap.size, 3, none⟩ = some (.int .i64 A.b) ∧ W.cell? ⟨gra, 0, none⟩ = some (.int .i64 A.k) ∧ W.cell? ⟨gra, 1, none⟩ = some (.int .i64 1) ∧ W.cell? ⟨gra, 2, none⟩ = some (.int .i64 (A.z.length : Int)) ∧ W.cell? ⟨gra, 3, none⟩ = some (.int .i64 0) ∧ W.cell? ⟨gra, 4, none⟩ = some ((.slice pwra A.z.length cwra))) W) := fun W h => ⟨h, (HX.out.next (HK.out.next h).bel).c2, (HX.out.next (HK.out.next h).bel).c3, ((HK.out.next h).a _ (.head _)).c0, ((HK.out.next h).a _ (.head _)).c1, ((HK.out.next h).a _ (.head _)).c2, ((HK.out.next h).a _ (.head _)).c3, ((HK.out.next h).a _ (.head _)).c4⟩
            refine wp_region_held_drew (S := (fun W => Below wy.heap.size wy W ∧ W.cell? ⟨w.heap.size, 2, none⟩ = some (.int .i64 A.a) ∧ W.cell? ⟨w.heap.size, 3, none⟩ = some (.int .i64 A.b) ∧ W.cell? ⟨gra, 0, none⟩ = some (.int .i64 A.k) ∧ W.cell? ⟨gra, 1, none⟩ = some (.int .i64 1) ∧ W.cell? ⟨gra, 2, none⟩ = some (.int .i64 (A.z.length : Int)) ∧ W.cell? ⟨gra, 3, none⟩ = some (.int .i64 0) ∧ W.cell? ⟨gra, 4, none⟩ = some ((.slice pwra A.z.length cwra)))) (by kernel_rfl) ?_ (fun hHeld => ?_)
            · exact HAll.out _ (Below.refl _ _).drew
            have HB0 : Hid (Below wy.heap.size wy (World.drew wy)) := (Below.refl _ _).drew
            generalize World.drew wy = wd at hHeld HB0 ⊢
            refine wpAnyH_take (i := 0) (v := ?_) rfl (by kernel_rfl) (by kernel_rfl) (by kernel_rfl) (fun _ _ _ h => h) (Or.inl ⟨by rfl, ?_⟩) (by assumption) ?_
            rotate_left
            · ((intro w0 hSw); (try dsimp only at hSw); go_simp; (try with_reducible rfl))
            change wpAnyH _ _ _ _ _ _ _ (Act.put _ (some 46) _) _
            try simp only [Act.put, List.setIfInBounds_toArray, List.set_cons_zero, List.set_cons_succ]
            refine wpAnyH_take (i := 1) (v := ?_) rfl (by kernel_rfl) (by kernel_rfl) (by kernel_rfl) (fun _ _ _ h => h) (Or.inl ⟨by rfl, ?_⟩) (by assumption) ?_
            rotate_left
            · ((intro w0 hSw); (try dsimp only at hSw); go_simp; (try with_reducible rfl))
            change wpAnyH _ _ _ _ _ _ _ (Act.put _ (some 47) _) _
            try simp only [Act.put, List.setIfInBounds_toArray, List.set_cons_zero, List.set_cons_succ]
            refine wpAnyH_take (i := 2) (v := ?_) rfl (by kernel_rfl) (by kernel_rfl) (by kernel_rfl) (fun _ _ _ h => h) (Or.inl ⟨by rfl, ?_⟩) (by assumption) ?_
            rotate_left
            · ((intro w0 hSw); (try dsimp only at hSw); go_simp; (try with_reducible rfl))
            change wpAnyH _ _ _ _ _ _ _ (Act.put _ (some 48) _) _
            try simp only [Act.put, List.setIfInBounds_toArray, List.set_cons_zero, List.set_cons_succ]
            refine wpAnyH_take (i := 3) (v := ?_) rfl (by kernel_rfl) (by kernel_rfl) (by kernel_rfl) (fun _ _ _ h => h) (Or.inl ⟨by rfl, ?_⟩) (by assumption) ?_
            rotate_left
            · ((intro w0 hSw); (try dsimp only at hSw); go_simp; (try with_reducible rfl))
            change wpAnyH _ _ _ _ _ _ _ (Act.put _ (some 49) _) _
            try simp only [Act.put, List.setIfInBounds_toArray, List.set_cons_zero, List.set_cons_succ]
            refine wpAnyH_take (i := 4) (v := ?_) rfl (by kernel_rfl) (by kernel_rfl) (by kernel_rfl) (fun _ _ _ h => h) (Or.inl ⟨by rfl, ?_⟩) (by assumption) ?_
            rotate_left
            · ((intro w0 hSw); (try dsimp only at hSw); go_simp; (try with_reducible rfl))
            change wpAnyH _ _ _ _ _ _ _ (Act.put _ (some 50) _) _
            try simp only [Act.put, List.setIfInBounds_toArray, List.set_cons_zero, List.set_cons_succ]
            refine wpAnyH_take (i := 5) (v := ?_) rfl (by kernel_rfl) (by kernel_rfl) (by kernel_rfl) (fun _ _ _ h => h) (Or.inl ⟨by rfl, ?_⟩) (by assumption) ?_
            rotate_left
            · ((intro w0 hSw); (try dsimp only at hSw); go_simp; (try with_reducible rfl))
            change wpAnyH _ _ _ _ _ _ _ (Act.put _ (some 51) _) _
            try simp only [Act.put, List.setIfInBounds_toArray, List.set_cons_zero, List.set_cons_succ]
            refine wpAnyH_take (i := 8) (v := ?_) rfl (by kernel_rfl) (by kernel_rfl) (by kernel_rfl) (fun _ _ _ h => h) (Or.inl ⟨by rfl, ?_⟩) (by assumption) ?_
            rotate_left
            · ((intro w0 hSw); (try dsimp only at hSw); go_simp; (try with_reducible rfl))
            change wpAnyH _ _ _ _ _ _ _ (Act.put _ (some 54) _) _
            try simp only [Act.put, List.setIfInBounds_toArray, List.set_cons_zero, List.set_cons_succ]
            refine wpAnyH_ready (rs := [6, 13]) (by kernel_rfl) (by simp) ?_
            refine AllReadyH.cons rfl (fun K hK => ?_) (AllReadyH.cons rfl (fun K hK => ?_) (AllReadyH.nil))
            · go_simp
              refine hK.out _ _ ?_ (fun hHeld2 => ?_)
              · exact HAll.out _ (HB0.out.trans ((bel1 wd _).mono HB0.out.size))
              clear hK K hHeld
              have hHeld := hHeld2; clear hHeld2
              try change wpAnyH _ _ _ _ _ _ _ (Act.put _ (some 52) _) _
              try simp only [Act.put, List.setIfInBounds_toArray, List.set_cons_zero, List.set_cons_succ]
              generalize hwx2 : World.alloc wd _ = wa1 at hHeld ⊢
              have HB3 : Hid (Below wy.heap.size wy wa1) := by rw [← hwx2]; exact HB0.out.trans ((bel1 wd _).mono HB0.out.size)
              have Hbx4 : Hid (Below wd.heap.size wd wa1) := by rw [← hwx2]; exact bel1 _ _
              have HU5 : Hid (RdI wa1.heap.size wa1 (.slice (some ⟨wd.heap.size, 0, none⟩) 2 2) [A.a, A.b]) := by rw [← hwx2]; exact blk_rd (l := [A.a, A.b]) rfl (by decide) (heap_alloc_last _ _)
              clear hwx2
              refine wpAnyH_ready (rs := [7, 13]) (by kernel_rfl) (by simp) ?_
              refine AllReadyH.cons rfl (fun K hK => ?_) (AllReadyH.cons rfl (fun K hK => ?_) (AllReadyH.nil))
              · go_simp
                go_at_call 35
                with_reducible refine (HIa.out _ _ HU5.out (nil_some _ _ _)).mono ?_
                rintro e wn11 ⟨uz12, rfl, hu8, hb9⟩
                obtain ⟨qz6, cz7, hq13, _, _⟩ := hu8.form
                have hq132 : uz12 = (.slice qz6 2 cz7) := hq13
                subst hq132
                clear hq13
                have HB10 := Lib.hid (HB3.out.trans (hb9.mono HB3.out.size))
                refine hK.out _ _ ?_ (fun hHeld2 => ?_)
                · exact HAll.out _ HB10.out
                clear hK K hHeld
                have hHeld := hHeld2; clear hHeld2
                try change wpAnyH _ _ _ _ _ _ _ (Act.put _ (some 53) _) _
                try dsimp only
                try simp only [Act.put, List.setIfInBounds_toArray, List.set_cons_zero, List.set_cons_succ]
                have HC14 := Lib.hid (HU5.out.next hb9)
                have HU15 := Lib.hid hu8.rd
                have HU15n := Lib.hid hu8.nilC
                clear hu8 hb9
                refine wpAnyH_ready (rs := [9, 13]) (by kernel_rfl) (by simp) ?_
                refine AllReadyH.cons rfl (fun K hK => ?_) (AllReadyH.cons rfl (fun K hK => ?_) (AllReadyH.nil))
                · go_simp
                  go_at_call 26
                  with_reducible refine (HGa.out _ _ _ (HK.out.next HB10.out).lay HU15.out (by with_unfolding_all exact ((HK.out.next HB10.out).r _ (.head _)))).mono ?_
                  rintro e wn21 ⟨uz22, rfl, hu18, hb19⟩
                  obtain ⟨qz16, cz17, hq23, _, _⟩ := hu18.form
                  have hq232 : uz22 = (.slice qz16 A.z.length cz17) := hq23
                  subst hq232
                  clear hq23
                  have HB20 := Lib.hid (HB10.out.trans (hb19.mono HB10.out.size))
                  refine hK.out _ _ ?_ (fun hHeld2 => ?_)
                  · exact HAll.out _ HB20.out
                  clear hK K hHeld
                  have hHeld := hHeld2; clear hHeld2
                  try change wpAnyH _ _ _ _ _ _ _ (Act.put _ (some 55) _) _
                  try dsimp only
                  try simp only [Act.put, List.setIfInBounds_toArray, List.set_cons_zero, List.set_cons_succ]
                  have HC24 := Lib.hid (HC14.out.next hb19)
                  have HC25 := Lib.hid (HU15.out.next hb19)
                  have HX26 : Hid (RdX (List.map Bk.g [⟨gra, ⟨A.k, 1, (A.z.length : Int), 0, A.z⟩, (.slice pwra A.z.length cwra)⟩]) wn21 (.slice qz16 A.z.length cz17) A.z) := rdN_toX hu18 (fun g mg => Nat.lt_of_lt_of_le (HLt.out g mg) HB10.out.size)
                  have HN27 := Lib.hid hu18.nilC
                  clear hu18 hb19
                  refine wpAnyH_take (i := 10) (v := ?_) rfl (by kernel_rfl) (by kernel_rfl) (by kernel_rfl) (fun _ _ _ h => h) (Or.inl ⟨by rfl, ?_⟩) (by assumption) ?_
                  rotate_left
                  · ((intro w0 hSw); (try dsimp only at hSw); go_simp; (try with_reducible rfl))
                  change wpAnyH _ _ _ _ _ _ _ (Act.put _ (some 45) _) _
                  try simp only [Act.put, List.setIfInBounds_toArray, List.set_cons_zero, List.set_cons_succ]
                  refine wpAnyH_take (i := 11) (v := ?_) rfl (by kernel_rfl) (by kernel_rfl) (by kernel_rfl) (fun _ _ _ h => h) (Or.inl ⟨by rfl, ?_⟩) (by assumption) ?_
                  rotate_left
                  · ((intro w0 hSw); (try dsimp only at hSw); go_simp; (try with_reducible rfl))
                  change wpAnyH _ _ _ _ _ _ _ (Act.put _ (some 56) _) _
                  try simp only [Act.put, List.setIfInBounds_toArray, List.set_cons_zero, List.set_cons_succ]
                  refine wpAnyH_take (i := 12) (v := ?_) rfl (by kernel_rfl) (by kernel_rfl) (by kernel_rfl) (fun _ _ _ h => h) (Or.inl ⟨by rfl, ?_⟩) (by assumption) ?_
                  rotate_left
                  · ((intro w0 hSw); (try dsimp only at hSw); go_simp; (try with_reducible rfl))
                  change wpAnyH _ _ _ _ _ _ _ (Act.put _ (some 57) _) _
                  try simp only [Act.put, List.setIfInBounds_toArray, List.set_cons_zero, List.set_cons_succ]
                  refine wpAnyH_ready (rs := [13]) (by kernel_rfl) (by simp) ?_
                  refine AllReadyH.cons rfl (fun K hK => ?_) (AllReadyH.nil)
                  go_simp
                  refine hK.out _ _ ?_ (fun hHeld2 => ?_)
                  · exact HAll.out _ (HB20.out.trans ((bel1 wn21 _).mono HB20.out.size))
                  clear hK K hHeld
                  have hHeld := hHeld2; clear hHeld2
                  try change wpAnyH _ _ _ _ _ _ _ (Act.put _ (some 9) _) _
                  try simp only [Act.put, List.setIfInBounds_toArray, List.set_cons_zero, List.set_cons_succ]
                  generalize hwx29 : World.alloc wn21 _ = wa28 at hHeld ⊢
                  have HB30 : Hid (Below wy.heap.size wy wa28) := by rw [← hwx29]; exact HB20.out.trans ((bel1 wn21 _).mono HB20.out.size)
                  have Hbx31 : Hid (Below wn21.heap.size wn21 wa28) := by rw [← hwx29]; exact bel1 _ _
                  have HC32 := Lib.hid (HC24.out.next Hbx31.out)
                  have HC33 := Lib.hid (HC25.out.next Hbx31.out)
                  have HG34 : Hid (R5 wa28 wn21.heap.size 0 0 0 0 (.slice none 0 0)) := by rw [← hwx29]; exact R5.new _ _ _ _ _ _
                  have hge : wy.heap.size ≤ wn21.heap.size := HB20.out.size
                  have HX35 : Hid (RdX (wn21.heap.size :: List.map Bk.g [⟨gra, ⟨A.k, 1, (A.z.length : Int), 0, A.z⟩, (.slice pwra A.z.length cwra)⟩]) wa28 (.slice qz16 A.z.length cz17) A.z) := (HX26.out.more (Nat.le_refl _)).keep Hbx31.out.size (fun c' _ hc' => Hbx31.out.block c' hc')
                  clear hwx29
                  as_aux_lemma =>
                    refine wpAnyH_ready (rs := [14]) (by kernel_rfl) (by simp) ?_
                    refine AllReadyH.cons rfl (fun K hK => ?_) (AllReadyH.nil)
                    have y0 := HG34.out.c0; have y1 := HG34.out.c1; have y2 := HG34.out.c2; have y3 := HG34.out.c3; have y4 := HG34.out.c4; have f0 := HG34.out.fr 0; have f1 := HG34.out.fr 1; have f2 := HG34.out.fr 2; have f3 := HG34.out.fr 3; have f4 := HG34.out.fr 4; have HS := Lib.hid (HG34.out.set A.k A.r A.a A.b (.slice qz16 A.z.length cz17)); have z0 := HS.out.c0; have z1 := HS.out.c1; have z2 := HS.out.c2; have z3 := HS.out.c3; have z4 := HS.out.c4
                    go_simp
                    refine hK.out _ _ ?_ (fun hHeld2 => ?_)
                    · exact HAll.out _ (st5_below _ _ _ _ _ hge HB30.out)
                    clear hK K hHeld
                    have hHeld := hHeld2; clear hHeld2
                    try simp only [Act.put, List.setIfInBounds_toArray, List.set_cons_zero, List.set_cons_succ]
                    refine wpAnyH_take (i := 15) (v := ?_) rfl (by kernel_rfl) (by kernel_rfl) (by kernel_rfl) (fun _ _ _ h => h) (Or.inl ⟨by rfl, ?_⟩) (by assumption) ?_
                    rotate_left
                    · ((intro w0 hSw); (try dsimp only at hSw); go_simp; (try with_reducible rfl))
                    change wpAnyH _ _ _ _ _ _ _ (Act.put _ (some 10) _) _
                    try simp only [Act.put, List.setIfInBounds_toArray, List.set_cons_zero, List.set_cons_succ]
                    refine wpAnyH_done (by kernel_rfl) ?_ _
                    go_wp2_with fail
                    go_meet
                    case rel => exact ⟨wn21.heap.size, qz16, cz17, rfl, rfl, HK.out.newAt HB30.out hge HG34.out ⟨A.k, A.r, A.a, A.b, A.z⟩ HX35.out HN27.out, fun b mb => Nat.lt_of_lt_of_le (HK.out.lt b mb) hge⟩
                · go_simp
                  refine hK.out _ _ ?_ (fun hHeld2 => ?_)
                  · exact HAll.out _ (HB10.out.trans ((bel1 wn11 _).mono HB10.out.size))
                  clear hK K hHeld
                  have hHeld := hHeld2; clear hHeld2
                  try change wpAnyH _ _ _ _ _ _ _ (Act.put _ (some 9) _) _
                  try simp only [Act.put, List.setIfInBounds_toArray, List.set_cons_zero, List.set_cons_succ]
                  generalize hwx37 : World.alloc wn11 _ = wa36 at hHeld ⊢
                  have HB38 : Hid (Below wy.heap.size wy wa36) := by rw [← hwx37]; exact HB10.out.trans ((bel1 wn11 _).mono HB10.out.size)
                  have Hbx39 : Hid (Below wn11.heap.size wn11 wa36) := by rw [← hwx37]; exact bel1 _ _
                  have HC40 := Lib.hid (HC14.out.next Hbx39.out)
                  have HC41 := Lib.hid (HU15.out.next Hbx39.out)
                  have HG42 : Hid (R5 wa36 wn11.heap.size 0 0 0 0 (.slice none 0 0)) := by rw [← hwx37]; exact R5.new _ _ _ _ _ _
                  have hge : wy.heap.size ≤ wn11.heap.size := HB10.out.size
                  clear hwx37
                  refine wpAnyH_ready (rs := [9]) (by kernel_rfl) (by simp) ?_
                  refine AllReadyH.cons rfl (fun K hK => ?_) (AllReadyH.nil)
                  go_simp
                  go_at_call 26
                  with_reducible refine (HGa.out _ _ _ (HK.out.next HB38.out).lay HC41.out (by with_unfolding_all exact ((HK.out.next HB38.out).r _ (.head _)))).mono ?_
                  rintro e wn48 ⟨uz49, rfl, hu45, hb46⟩
                  obtain ⟨qz43, cz44, hq50, _, _⟩ := hu45.form
                  have hq502 : uz49 = (.slice qz43 A.z.length cz44) := hq50
                  subst hq502
                  clear hq50
                  have HB47 := Lib.hid (HB38.out.trans (hb46.mono HB38.out.size))
                  refine hK.out _ _ ?_ (fun hHeld2 => ?_)
                  · exact HAll.out _ HB47.out
                  clear hK K hHeld
                  have hHeld := hHeld2; clear hHeld2
                  try change wpAnyH _ _ _ _ _ _ _ (Act.put _ (some 55) _) _
                  try dsimp only
                  try simp only [Act.put, List.setIfInBounds_toArray, List.set_cons_zero, List.set_cons_succ]
                  have HC51 := Lib.hid (HC40.out.next hb46)
                  have HC52 := Lib.hid (HC41.out.next hb46)
                  have HC53 := Lib.hid (HG42.out.next hb46)
                  have HX54 : Hid (RdX (wn11.heap.size :: List.map Bk.g [⟨gra, ⟨A.k, 1, (A.z.length : Int), 0, A.z⟩, (.slice pwra A.z.length cwra)⟩]) wn48 (.slice qz43 A.z.length cz44) A.z) := rdN_toX hu45 (fun g mg => by
                    rcases List.mem_cons.1 mg with rfl | mg
                    · exact HG42.out.lt
                    · exact Nat.lt_of_lt_of_le (HLt.out g mg) HB38.out.size)
                  have HN55 := Lib.hid hu45.nilC
                  clear hu45 hb46
                  refine wpAnyH_take (i := 10) (v := ?_) rfl (by kernel_rfl) (by kernel_rfl) (by kernel_rfl) (fun _ _ _ h => h) (Or.inl ⟨by rfl, ?_⟩) (by assumption) ?_
                  rotate_left
                  · ((intro w0 hSw); (try dsimp only at hSw); go_simp; (try with_reducible rfl))
                  change wpAnyH _ _ _ _ _ _ _ (Act.put _ (some 45) _) _
                  try simp only [Act.put, List.setIfInBounds_toArray, List.set_cons_zero, List.set_cons_succ]
                  refine wpAnyH_take (i := 11) (v := ?_) rfl (by kernel_rfl) (by kernel_rfl) (by kernel_rfl) (fun _ _ _ h => h) (Or.inl ⟨by rfl, ?_⟩) (by assumption) ?_
                  rotate_left
                  · ((intro w0 hSw); (try dsimp only at hSw); go_simp; (try with_reducible rfl))
                  change wpAnyH _ _ _ _ _ _ _ (Act.put _ (some 56) _) _
                  try simp only [Act.put, List.setIfInBounds_toArray, List.set_cons_zero, List.set_cons_succ]
                  refine wpAnyH_take (i := 12) (v := ?_) rfl (by kernel_rfl) (by kernel_rfl) (by kernel_rfl) (fun _ _ _ h => h) (Or.inl ⟨by rfl, ?_⟩) (by assumption) ?_
                  rotate_left
                  · ((intro w0 hSw); (try dsimp only at hSw); go_simp; (try with_reducible rfl))
                  change wpAnyH _ _ _ _ _ _ _ (Act.put _ (some 57) _) _
                  try simp only [Act.put, List.setIfInBounds_toArray, List.set_cons_zero, List.set_cons_succ]
                  as_aux_lemma =>
                    refine wpAnyH_ready (rs := [14]) (by kernel_rfl) (by simp) ?_
                    refine AllReadyH.cons rfl (fun K hK => ?_) (AllReadyH.nil)
                    have y0 := HC53.out.c0; have y1 := HC53.out.c1; have y2 := HC53.out.c2; have y3 := HC53.out.c3; have y4 := HC53.out.c4; have f0 := HC53.out.fr 0; have f1 := HC53.out.fr 1; have f2 := HC53.out.fr 2; have f3 := HC53.out.fr 3; have f4 := HC53.out.fr 4; have HS := Lib.hid (HC53.out.set A.k A.r A.a A.b (.slice qz43 A.z.length cz44)); have z0 := HS.out.c0; have z1 := HS.out.c1; have z2 := HS.out.c2; have z3 := HS.out.c3; have z4 := HS.out.c4
                    go_simp
                    refine hK.out _ _ ?_ (fun hHeld2 => ?_)
                    · exact HAll.out _ (st5_below _ _ _ _ _ hge HB47.out)
                    clear hK K hHeld
                    have hHeld := hHeld2; clear hHeld2
                    try simp only [Act.put, List.setIfInBounds_toArray, List.set_cons_zero, List.set_cons_succ]
                    refine wpAnyH_take (i := 15) (v := ?_) rfl (by kernel_rfl) (by kernel_rfl) (by kernel_rfl) (fun _ _ _ h => h) (Or.inl ⟨by rfl, ?_⟩) (by assumption) ?_
                    rotate_left
                    · ((intro w0 hSw); (try dsimp only at hSw); go_simp; (try with_reducible rfl))
                    change wpAnyH _ _ _ _ _ _ _ (Act.put _ (some 10) _) _
                    try simp only [Act.put, List.setIfInBounds_toArray, List.set_cons_zero, List.set_cons_succ]
                    refine wpAnyH_done (by kernel_rfl) ?_ _
                    go_wp2_with fail
                    go_meet
                    case rel => exact ⟨wn11.heap.size, qz43, cz44, rfl, rfl, HK.out.newAt HB47.out hge HC53.out ⟨A.k, A.r, A.a, A.b, A.z⟩ HX54.out HN55.out, fun b mb => Nat.lt_of_lt_of_le (HK.out.lt b mb) hge⟩
              · go_simp
                refine hK.out _ _ ?_ (fun hHeld2 => ?_)
                · exact HAll.out _ (HB3.out.trans ((bel1 wa1 _).mono HB3.out.size))
                clear hK K hHeld
                have hHeld := hHeld2; clear hHeld2
                try change wpAnyH _ _ _ _ _ _ _ (Act.put _ (some 9) _) _
                try simp only [Act.put, List.setIfInBounds_toArray, List.set_cons_zero, List.set_cons_succ]
                generalize hwx57 : World.alloc wa1 _ = wa56 at hHeld ⊢
                have HB58 : Hid (Below wy.heap.size wy wa56) := by rw [← hwx57]; exact HB3.out.trans ((bel1 wa1 _).mono HB3.out.size)
                have Hbx59 : Hid (Below wa1.heap.size wa1 wa56) := by rw [← hwx57]; exact bel1 _ _
                have HC60 := Lib.hid (HU5.out.next Hbx59.out)
                have HG61 : Hid (R5 wa56 wa1.heap.size 0 0 0 0 (.slice none 0 0)) := by rw [← hwx57]; exact R5.new _ _ _ _ _ _
                have hge : wy.heap.size ≤ wa1.heap.size := HB3.out.size
                clear hwx57
                refine wpAnyH_ready (rs := [7]) (by kernel_rfl) (by simp) ?_
                refine AllReadyH.cons rfl (fun K hK => ?_) (AllReadyH.nil)
                go_simp
                go_at_call 35
                with_reducible refine (HIa.out _ _ HC60.out (nil_some _ _ _)).mono ?_
                rintro e wn67 ⟨uz68, rfl, hu64, hb65⟩
                obtain ⟨qz62, cz63, hq69, _, _⟩ := hu64.form
                have hq692 : uz68 = (.slice qz62 2 cz63) := hq69
                subst hq692
                clear hq69
                have HB66 := Lib.hid (HB58.out.trans (hb65.mono HB58.out.size))
                refine hK.out _ _ ?_ (fun hHeld2 => ?_)
                · exact HAll.out _ HB66.out
                clear hK K hHeld
                have hHeld := hHeld2; clear hHeld2
                try change wpAnyH _ _ _ _ _ _ _ (Act.put _ (some 53) _) _
                try dsimp only
                try simp only [Act.put, List.setIfInBounds_toArray, List.set_cons_zero, List.set_cons_succ]
                have HC70 := Lib.hid (HC60.out.next hb65)
                have HC71 := Lib.hid (HG61.out.next hb65)
                have HU72 := Lib.hid hu64.rd
                have HU72n := Lib.hid hu64.nilC
                clear hu64 hb65
                refine wpAnyH_ready (rs := [9]) (by kernel_rfl) (by simp) ?_
                refine AllReadyH.cons rfl (fun K hK => ?_) (AllReadyH.nil)
                go_simp
                go_at_call 26
                with_reducible refine (HGa.out _ _ _ (HK.out.next HB66.out).lay HU72.out (by with_unfolding_all exact ((HK.out.next HB66.out).r _ (.head _)))).mono ?_
                rintro e wn78 ⟨uz79, rfl, hu75, hb76⟩
                obtain ⟨qz73, cz74, hq80, _, _⟩ := hu75.form
                have hq802 : uz79 = (.slice qz73 A.z.length cz74) := hq80
                subst hq802
                clear hq80
                have HB77 := Lib.hid (HB66.out.trans (hb76.mono HB66.out.size))
                refine hK.out _ _ ?_ (fun hHeld2 => ?_)
                · exact HAll.out _ HB77.out
                clear hK K hHeld
                have hHeld := hHeld2; clear hHeld2
                try change wpAnyH _ _ _ _ _ _ _ (Act.put _ (some 55) _) _
                try dsimp only
                try simp only [Act.put, List.setIfInBounds_toArray, List.set_cons_zero, List.set_cons_succ]
                have HC81 := Lib.hid (HC70.out.next hb76)
                have HC82 := Lib.hid (HC71.out.next hb76)
                have HC83 := Lib.hid (HU72.out.next hb76)
                have HX84 : Hid (RdX (wa1.heap.size :: List.map Bk.g [⟨gra, ⟨A.k, 1, (A.z.length : Int), 0, A.z⟩, (.slice pwra A.z.length cwra)⟩]) wn78 (.slice qz73 A.z.length cz74) A.z) := rdN_toX hu75 (fun g mg => by
                  rcases List.mem_cons.1 mg with rfl | mg
                  · exact HC71.out.lt
                  · exact Nat.lt_of_lt_of_le (HLt.out g mg) HB66.out.size)
                have HN85 := Lib.hid hu75.nilC
                clear hu75 hb76
                refine wpAnyH_take (i := 10) (v := ?_) rfl (by kernel_rfl) (by kernel_rfl) (by kernel_rfl) (fun _ _ _ h => h) (Or.inl ⟨by rfl, ?_⟩) (by assumption) ?_
                rotate_left
                · ((intro w0 hSw); (try dsimp only at hSw); go_simp; (try with_reducible rfl))
                change wpAnyH _ _ _ _ _ _ _ (Act.put _ (some 45) _) _
                try simp only [Act.put, List.setIfInBounds_toArray, List.set_cons_zero, List.set_cons_succ]
                refine wpAnyH_take (i := 11) (v := ?_) rfl (by kernel_rfl) (by kernel_rfl) (by kernel_rfl) (fun _ _ _ h => h) (Or.inl ⟨by rfl, ?_⟩) (by assumption) ?_
                rotate_left
                · ((intro w0 hSw); (try dsimp only at hSw); go_simp; (try with_reducible rfl))
                change wpAnyH _ _ _ _ _ _ _ (Act.put _ (some 56) _) _
                try simp only [Act.put, List.setIfInBounds_toArray, List.set_cons_zero, List.set_cons_succ]
                refine wpAnyH_take (i := 12) (v := ?_) rfl (by kernel_rfl) (by kernel_rfl) (by kernel_rfl) (fun _ _ _ h => h) (Or.inl ⟨by rfl, ?_⟩) (by assumption) ?_
                rotate_left
                · ((intro w0 hSw); (try dsimp only at hSw); go_simp; (try with_reducible rfl))
                change wpAnyH _ _ _ _ _ _ _ (Act.put _ (some 57) _) _
                try simp only [Act.put, List.setIfInBounds_toArray, List.set_cons_zero, List.set_cons_succ]
                as_aux_lemma =>
                  refine wpAnyH_ready (rs := [14]) (by kernel_rfl) (by simp) ?_
                  refine AllReadyH.cons rfl (fun K hK => ?_) (AllReadyH.nil)
                  have y0 := HC82.out.c0; have y1 := HC82.out.c1; have y2 := HC82.out.c2; have y3 := HC82.out.c3; have y4 := HC82.out.c4; have f0 := HC82.out.fr 0; have f1 := HC82.out.fr 1; have f2 := HC82.out.fr 2; have f3 := HC82.out.fr 3; have f4 := HC82.out.fr 4; have HS := Lib.hid (HC82.out.set A.k A.r A.a A.b (.slice qz73 A.z.length cz74)); have z0 := HS.out.c0; have z1 := HS.out.c1; have z2 := HS.out.c2; have z3 := HS.out.c3; have z4 := HS.out.c4
                  go_simp
                  refine hK.out _ _ ?_ (fun hHeld2 => ?_)
                  · exact HAll.out _ (st5_below _ _ _ _ _ hge HB77.out)
                  clear hK K hHeld
                  have hHeld := hHeld2; clear hHeld2
                  try simp only [Act.put, List.setIfInBounds_toArray, List.set_cons_zero, List.set_cons_succ]
                  refine wpAnyH_take (i := 15) (v := ?_) rfl (by kernel_rfl) (by kernel_rfl) (by kernel_rfl) (fun _ _ _ h => h) (Or.inl ⟨by rfl, ?_⟩) (by assumption) ?_
                  rotate_left
                  · ((intro w0 hSw); (try dsimp only at hSw); go_simp; (try with_reducible rfl))
                  change wpAnyH _ _ _ _ _ _ _ (Act.put _ (some 10) _) _
                  try simp only [Act.put, List.setIfInBounds_toArray, List.set_cons_zero, List.set_cons_succ]
                  refine wpAnyH_done (by kernel_rfl) ?_ _
                  go_wp2_with fail
                  go_meet
                  case rel => exact ⟨wa1.heap.size, qz73, cz74, rfl, rfl, HK.out.newAt HB77.out hge HC82.out ⟨A.k, A.r, A.a, A.b, A.z⟩ HX84.out HN85.out, fun b mb => Nat.lt_of_lt_of_le (HK.out.lt b mb) hge⟩
            · go_simp
              refine hK.out _ _ ?_ (fun hHeld2 => ?_)
              · exact HAll.out _ (HB0.out.trans ((bel1 wd _).mono HB0.out.size))
              clear hK K hHeld
              have hHeld := hHeld2; clear hHeld2
              try change wpAnyH _ _ _ _ _ _ _ (Act.put _ (some 9) _) _
              try simp only [Act.put, List.setIfInBounds_toArray, List.set_cons_zero, List.set_cons_succ]
              generalize hwx87 : World.alloc wd _ = wa86 at hHeld ⊢
              have HB88 : Hid (Below wy.heap.size wy wa86) := by rw [← hwx87]; exact HB0.out.trans ((bel1 wd _).mono HB0.out.size)
              have Hbx89 : Hid (Below wd.heap.size wd wa86) := by rw [← hwx87]; exact bel1 _ _
              have HG90 : Hid (R5 wa86 wd.heap.size 0 0 0 0 (.slice none 0 0)) := by rw [← hwx87]; exact R5.new _ _ _ _ _ _
              have hge : wy.heap.size ≤ wd.heap.size := HB0.out.size
              clear hwx87
              refine wpAnyH_ready (rs := [6]) (by kernel_rfl) (by simp) ?_
              refine AllReadyH.cons rfl (fun K hK => ?_) (AllReadyH.nil)
              go_simp
              refine hK.out _ _ ?_ (fun hHeld2 => ?_)
              · exact HAll.out _ (HB88.out.trans ((bel1 wa86 _).mono HB88.out.size))
              clear hK K hHeld
              have hHeld := hHeld2; clear hHeld2
              try change wpAnyH _ _ _ _ _ _ _ (Act.put _ (some 52) _) _
              try simp only [Act.put, List.setIfInBounds_toArray, List.set_cons_zero, List.set_cons_succ]
              generalize hwx92 : World.alloc wa86 _ = wa91 at hHeld ⊢
              have HB93 : Hid (Below wy.heap.size wy wa91) := by rw [← hwx92]; exact HB88.out.trans ((bel1 wa86 _).mono HB88.out.size)
              have Hbx94 : Hid (Below wa86.heap.size wa86 wa91) := by rw [← hwx92]; exact bel1 _ _
              have HC95 := Lib.hid (HG90.out.next Hbx94.out)
              have HU96 : Hid (RdI wa91.heap.size wa91 (.slice (some ⟨wa86.heap.size, 0, none⟩) 2 2) [A.a, A.b]) := by rw [← hwx92]; exact blk_rd (l := [A.a, A.b]) rfl (by decide) (heap_alloc_last _ _)
              clear hwx92
              refine wpAnyH_ready (rs := [7]) (by kernel_rfl) (by simp) ?_
              refine AllReadyH.cons rfl (fun K hK => ?_) (AllReadyH.nil)
              go_simp
              go_at_call 35
              with_reducible refine (HIa.out _ _ HU96.out (nil_some _ _ _)).mono ?_
              rintro e wn102 ⟨uz103, rfl, hu99, hb100⟩
              obtain ⟨qz97, cz98, hq104, _, _⟩ := hu99.form
              have hq1042 : uz103 = (.slice qz97 2 cz98) := hq104
              subst hq1042
              clear hq104
              have HB101 := Lib.hid (HB93.out.trans (hb100.mono HB93.out.size))
              refine hK.out _ _ ?_ (fun hHeld2 => ?_)
              · exact HAll.out _ HB101.out
              clear hK K hHeld
              have hHeld := hHeld2; clear hHeld2
              try change wpAnyH _ _ _ _ _ _ _ (Act.put _ (some 53) _) _
              try dsimp only
              try simp only [Act.put, List.setIfInBounds_toArray, List.set_cons_zero, List.set_cons_succ]
              have HC105 := Lib.hid (HC95.out.next hb100)
              have HC106 := Lib.hid (HU96.out.next hb100)
              have HU107 := Lib.hid hu99.rd
              have HU107n := Lib.hid hu99.nilC
              clear hu99 hb100
              refine wpAnyH_ready (rs := [9]) (by kernel_rfl) (by simp) ?_
              refine AllReadyH.cons rfl (fun K hK => ?_) (AllReadyH.nil)
              go_simp
              go_at_call 26
              with_reducible refine (HGa.out _ _ _ (HK.out.next HB101.out).lay HU107.out (by with_unfolding_all exact ((HK.out.next HB101.out).r _ (.head _)))).mono ?_
              rintro e wn113 ⟨uz114, rfl, hu110, hb111⟩
              obtain ⟨qz108, cz109, hq115, _, _⟩ := hu110.form
              have hq1152 : uz114 = (.slice qz108 A.z.length cz109) := hq115
              subst hq1152
              clear hq115
              have HB112 := Lib.hid (HB101.out.trans (hb111.mono HB101.out.size))
              refine hK.out _ _ ?_ (fun hHeld2 => ?_)
              · exact HAll.out _ HB112.out
              clear hK K hHeld
              have hHeld := hHeld2; clear hHeld2
              try change wpAnyH _ _ _ _ _ _ _ (Act.put _ (some 55) _) _
              try dsimp only
              try simp only [Act.put, List.setIfInBounds_toArray, List.set_cons_zero, List.set_cons_succ]
              have HC116 := Lib.hid (HC105.out.next hb111)
              have HC117 := Lib.hid (HC106.out.next hb111)
              have HC118 := Lib.hid (HU107.out.next hb111)
              have HX119 : Hid (RdX (wd.heap.size :: List.map Bk.g [⟨gra, ⟨A.k, 1, (A.z.length : Int), 0, A.z⟩, (.slice pwra A.z.length cwra)⟩]) wn113 (.slice qz108 A.z.length cz109) A.z) := rdN_toX hu110 (fun g mg => by
                rcases List.mem_cons.1 mg with rfl | mg
                · exact HC105.out.lt
                · exact Nat.lt_of_lt_of_le (HLt.out g mg) HB101.out.size)
              have HN120 := Lib.hid hu110.nilC
              clear hu110 hb111
              refine wpAnyH_take (i := 10) (v := ?_) rfl (by kernel_rfl) (by kernel_rfl) (by kernel_rfl) (fun _ _ _ h => h) (Or.inl ⟨by rfl, ?_⟩) (by assumption) ?_
              rotate_left
              · ((intro w0 hSw); (try dsimp only at hSw); go_simp; (try with_reducible rfl))
              change wpAnyH _ _ _ _ _ _ _ (Act.put _ (some 45) _) _
              try simp only [Act.put, List.setIfInBounds_toArray, List.set_cons_zero, List.set_cons_succ]
              refine wpAnyH_take (i := 11) (v := ?_) rfl (by kernel_rfl) (by kernel_rfl) (by kernel_rfl) (fun _ _ _ h => h) (Or.inl ⟨by rfl, ?_⟩) (by assumption) ?_
              rotate_left
              · ((intro w0 hSw); (try dsimp only at hSw); go_simp; (try with_reducible rfl))
              change wpAnyH _ _ _ _ _ _ _ (Act.put _ (some 56) _) _
              try simp only [Act.put, List.setIfInBounds_toArray, List.set_cons_zero, List.set_cons_succ]
              refine wpAnyH_take (i := 12) (v := ?_) rfl (by kernel_rfl) (by kernel_rfl) (by kernel_rfl) (fun _ _ _ h => h) (Or.inl ⟨by rfl, ?_⟩) (by assumption) ?_
              rotate_left
              · ((intro w0 hSw); (try dsimp only at hSw); go_simp; (try with_reducible rfl))
              change wpAnyH _ _ _ _ _ _ _ (Act.put _ (some 57) _) _
              try simp only [Act.put, List.setIfInBounds_toArray, List.set_cons_zero, List.set_cons_succ]
              as_aux_lemma =>
                refine wpAnyH_ready (rs := [14]) (by kernel_rfl) (by simp) ?_
                refine AllReadyH.cons rfl (fun K hK => ?_) (AllReadyH.nil)
                have y0 := HC116.out.c0; have y1 := HC116.out.c1; have y2 := HC116.out.c2; have y3 := HC116.out.c3; have y4 := HC116.out.c4; have f0 := HC116.out.fr 0; have f1 := HC116.out.fr 1; have f2 := HC116.out.fr 2; have f3 := HC116.out.fr 3; have f4 := HC116.out.fr 4; have HS := Lib.hid (HC116.out.set A.k A.r A.a A.b (.slice qz108 A.z.length cz109)); have z0 := HS.out.c0; have z1 := HS.out.c1; have z2 := HS.out.c2; have z3 := HS.out.c3; have z4 := HS.out.c4
                go_simp
                refine hK.out _ _ ?_ (fun hHeld2 => ?_)
                · exact HAll.out _ (st5_below _ _ _ _ _ hge HB112.out)
                clear hK K hHeld
                have hHeld := hHeld2; clear hHeld2
                try simp only [Act.put, List.setIfInBounds_toArray, List.set_cons_zero, List.set_cons_succ]
                refine wpAnyH_take (i := 15) (v := ?_) rfl (by kernel_rfl) (by kernel_rfl) (by kernel_rfl) (fun _ _ _ h => h) (Or.inl ⟨by rfl, ?_⟩) (by assumption) ?_
                rotate_left
                · ((intro w0 hSw); (try dsimp only at hSw); go_simp; (try with_reducible rfl))
                change wpAnyH _ _ _ _ _ _ _ (Act.put _ (some 10) _) _
                try simp only [Act.put, List.setIfInBounds_toArray, List.set_cons_zero, List.set_cons_succ]
                refine wpAnyH_done (by kernel_rfl) ?_ _
                go_wp2_with fail
                go_meet
                case rel => exact ⟨wd.heap.size, qz108, cz109, rfl, rfl, HK.out.newAt HB112.out hge HC116.out ⟨A.k, A.r, A.a, A.b, A.z⟩ HX119.out HN120.out, fun b mb => Nat.lt_of_lt_of_le (HK.out.lt b mb) hge⟩
        case rest =>
          obtain ⟨gga, qga, cga, rfl, rfl, hk, hlg⟩ := hcut
          clear HK hlg
          have HK : Hid (KVar W3 [⟨gga, ⟨A.k, A.r, A.a, A.b, A.z⟩, (.slice qga A.z.length cga)⟩, ⟨gra, ⟨A.k, 1, (A.z.length : Int), 0, A.z⟩, (.slice pwra A.z.length cwra)⟩] wc) := hk
          clear hk
          have x0 := (HX.out.next HK.out.bel).c0
          have x1 := (HX.out.next HK.out.bel).c1
          have x2 := (HX.out.next HK.out.bel).c2
          have x3 := (HX.out.next HK.out.bel).c3
          have x4 := (HX.out.next HK.out.bel).c4
          have gd0 := (HK.out.a _ (.head _)).c0
          have gd1 := (HK.out.a _ (.head _)).c1
          have gd2 := (HK.out.a _ (.head _)).c2
          have gd3 := (HK.out.a _ (.head _)).c3
          have gd4 := (HK.out.a _ (.head _)).c4
          as_aux_lemma =>
            go_wp2_with (first
              | (go_at_call 32; (with_reducible refine (HIs.out _ _ _ (by with_unfolding_all exact (HK.out.r _ (.head _))) (by with_unfolding_all exact (HU.out.next HK.out.bel))).mono ?_); rintro e wz ⟨rfl, hb⟩; have HK2 := Lib.hid (HK.out.next hb); clear HK x0 x1 x2 x3 x4 gd0 gd1 gd2 gd3 gd4; have HK := HK2; clear HK2; clear hb; have x0 := (HX.out.next HK.out.bel).c0; have x1 := (HX.out.next HK.out.bel).c1; have x2 := (HX.out.next HK.out.bel).c2; have x3 := (HX.out.next HK.out.bel).c3; have x4 := (HX.out.next HK.out.bel).c4; have gd0 := (HK.out.a _ (.head _)).c0; have gd1 := (HK.out.a _ (.head _)).c1; have gd2 := (HK.out.a _ (.head _)).c2; have gd3 := (HK.out.a _ (.head _)).c3; have gd4 := (HK.out.a _ (.head _)).c4)
              | fail)
            go_meet
            case rel => exact HK.out.drop (fun b m => nomatch m)
    case rest =>
      clear HK x0 x1 x2 x3 x4 y0 y1 y2 y3 y4 m0 m1
      have HK := Lib.hid hcut
      clear hcut
      have x0 := (HX.out.next HK.out.bel).c0
      have x1 := (HX.out.next HK.out.bel).c1
      have x2 := (HX.out.next HK.out.bel).c2
      have x3 := (HX.out.next HK.out.bel).c3
      have x4 := (HX.out.next HK.out.bel).c4
      have y0 := (HY.out.next HK.out.bel).c0
      have y1 := (HY.out.next HK.out.bel).c1
      have y2 := (HY.out.next HK.out.bel).c2
      have y3 := (HY.out.next HK.out.bel).c3
      have y4 := (HY.out.next HK.out.bel).c4
      have m0 := (HL8.out.next HK.out.bel).c0
      have m1 := (HL8.out.next HK.out.bel).c1
      by_cases k1 : ck B = 0
      rotate_left
      · generalize ck B = E at k1 HC2
        have k2 : (E != 0) = true := by simpa using k1
        clear k1
        as_aux_lemma =>
          go_wp2_with (first
            | (go_at_call 30; (with_reducible refine (HC2.out _ (by with_unfolding_all exact (HV.out.next HK.out.bel))).mono ?_); rintro e wz ⟨rfl, hb⟩; have HK2 := Lib.hid (HK.out.next hb); clear HK x0 x1 x2 x3 x4 y0 y1 y2 y3 y4 m0 m1; have HK := HK2; clear HK2; clear hb; have x0 := (HX.out.next HK.out.bel).c0; have x1 := (HX.out.next HK.out.bel).c1; have x2 := (HX.out.next HK.out.bel).c2; have x3 := (HX.out.next HK.out.bel).c3; have x4 := (HX.out.next HK.out.bel).c4; have y0 := (HY.out.next HK.out.bel).c0; have y1 := (HY.out.next HK.out.bel).c1; have y2 := (HY.out.next HK.out.bel).c2; have y3 := (HY.out.next HK.out.bel).c3; have y4 := (HY.out.next HK.out.bel).c4; have m0 := (HL8.out.next HK.out.bel).c0; have m1 := (HL8.out.next HK.out.bel).c1)
            | (go_at_call 12; (with_reducible refine (HAw.out _ (by with_unfolding_all exact HK.out.lay)).mono ?_); rintro e wz ⟨rfl, hb⟩; have HK2 := Lib.hid (HK.out.next hb); clear HK x0 x1 x2 x3 x4 y0 y1 y2 y3 y4 m0 m1; have HK := HK2; clear HK2; clear hb; have x0 := (HX.out.next HK.out.bel).c0; have x1 := (HX.out.next HK.out.bel).c1; have x2 := (HX.out.next HK.out.bel).c2; have x3 := (HX.out.next HK.out.bel).c3; have x4 := (HX.out.next HK.out.bel).c4; have y0 := (HY.out.next HK.out.bel).c0; have y1 := (HY.out.next HK.out.bel).c1; have y2 := (HY.out.next HK.out.bel).c2; have y3 := (HY.out.next HK.out.bel).c3; have y4 := (HY.out.next HK.out.bel).c4; have m0 := (HL8.out.next HK.out.bel).c0; have m1 := (HL8.out.next HK.out.bel).c1)
            | fail)
          go_ret
          exact ⟨rfl, HB3.out.trans (HK.out.bel.mono HB3.out.size)⟩
      have gB := ck_good k1
      rw [k1] at HC2
      by_cases hr : B.r = 1
      rotate_left
      · have k2 : (B.r != 1) = true := by simpa using hr
        clear k1 hr gB
        as_aux_lemma =>
          go_wp2_with (first
            | (go_at_call 30; (with_reducible refine (HC2.out _ (by with_unfolding_all exact (HV.out.next HK.out.bel))).mono ?_); rintro e wz ⟨rfl, hb⟩; have HK2 := Lib.hid (HK.out.next hb); clear HK x0 x1 x2 x3 x4 y0 y1 y2 y3 y4 m0 m1; have HK := HK2; clear HK2; clear hb; have x0 := (HX.out.next HK.out.bel).c0; have x1 := (HX.out.next HK.out.bel).c1; have x2 := (HX.out.next HK.out.bel).c2; have x3 := (HX.out.next HK.out.bel).c3; have x4 := (HX.out.next HK.out.bel).c4; have y0 := (HY.out.next HK.out.bel).c0; have y1 := (HY.out.next HK.out.bel).c1; have y2 := (HY.out.next HK.out.bel).c2; have y3 := (HY.out.next HK.out.bel).c3; have y4 := (HY.out.next HK.out.bel).c4; have m0 := (HL8.out.next HK.out.bel).c0; have m1 := (HL8.out.next HK.out.bel).c1)
            | (go_at_call 12; (with_reducible refine (HAw.out _ (by with_unfolding_all exact HK.out.lay)).mono ?_); rintro e wz ⟨rfl, hb⟩; have HK2 := Lib.hid (HK.out.next hb); clear HK x0 x1 x2 x3 x4 y0 y1 y2 y3 y4 m0 m1; have HK := HK2; clear HK2; clear hb; have x0 := (HX.out.next HK.out.bel).c0; have x1 := (HX.out.next HK.out.bel).c1; have x2 := (HX.out.next HK.out.bel).c2; have x3 := (HX.out.next HK.out.bel).c3; have x4 := (HX.out.next HK.out.bel).c4; have y0 := (HY.out.next HK.out.bel).c0; have y1 := (HY.out.next HK.out.bel).c1; have y2 := (HY.out.next HK.out.bel).c2; have y3 := (HY.out.next HK.out.bel).c3; have y4 := (HY.out.next HK.out.bel).c4; have m0 := (HL8.out.next HK.out.bel).c0; have m1 := (HL8.out.next HK.out.bel).c1)
            | fail)
          go_ret
          exact ⟨rfl, HB3.out.trans (HK.out.bel.mono HB3.out.size)⟩
      have k2 : (B.r != 1) = false := by simpa using hr
      have HR1 := Lib.hid hr
      clear hr k1
      go_upto_region 10 with (first
        | (go_at_call 30; (with_reducible refine (HC2.out _ (by with_unfolding_all exact (HV.out.next HK.out.bel))).mono ?_); rintro e wz ⟨rfl, hb⟩; have HK2 := Lib.hid (HK.out.next hb); clear HK x0 x1 x2 x3 x4 y0 y1 y2 y3 y4 m0 m1; have HK := HK2; clear HK2; clear hb; have x0 := (HX.out.next HK.out.bel).c0; have x1 := (HX.out.next HK.out.bel).c1; have x2 := (HX.out.next HK.out.bel).c2; have x3 := (HX.out.next HK.out.bel).c3; have x4 := (HX.out.next HK.out.bel).c4; have y0 := (HY.out.next HK.out.bel).c0; have y1 := (HY.out.next HK.out.bel).c1; have y2 := (HY.out.next HK.out.bel).c2; have y3 := (HY.out.next HK.out.bel).c3; have y4 := (HY.out.next HK.out.bel).c4; have m0 := (HL8.out.next HK.out.bel).c0; have m1 := (HL8.out.next HK.out.bel).c1)
        | fail)
      go_cut [11, 12] (fun x y wx => ∃ X Y : Int, x = .int .i64 X ∧ y = .int .i64 Y ∧ (0 ≤ X ∧ X ≤ 24) ∧ (0 ≤ Y ∧ Y ≤ 24) ∧ KVar W3 [] wx)
      case first =>
        go_quiet (fail)
        go_wp2_with fail
        go_meet
        case rel => exact ⟨_, _, rfl, rfl, by omega, by omega, HK.out.next (drewN_below _ _)⟩
      case rest =>
        obtain ⟨X, Y, rfl, rfl, hX, hY, hk⟩ := hcut
        clear HK HC2 x0 x1 x2 x3 x4 y0 y1 y2 y3 y4 m0 m1
        have HK := Lib.hid hk
        clear hk k2
        have HIn : Hid (∀ v W, RdI W.heap.size W v [X, Y] → Ru.NilC v → Calls Tryd.prog 35 #[v] W (RetA ⟨1, 1, 2, 0, [X, Y]⟩ W)) := fun v W h h' => ints_two7 X Y v W h h'
        have HGd : Hid (∀ u v W, Ru.Lay W → RdI W.heap.size W u [X, Y] → RdI W.heap.size W v B.z → Calls Tryd.prog 26 #[A5 1 1 2 0 u, A5 B.k B.r B.a B.b v] W (RetE (gdV (vecA 1 [X, Y]) B) (gdE (vecA 1 [X, Y]) B) W)) := fun u v W h0 h1 h2 => mgrid_any (vecA 1 [X, Y]) B u v W h0 h1 h2 (by simp [vecA]) hlB
        have hgc := grid_cases gB HR1.out hX hY
        generalize gdV (vecA 1 [X, Y]) B = D at HGd hgc
        generalize gdE (vecA 1 [X, Y]) B = E at HGd hgc
        obtain ⟨d1, d2, d3, d4, d5⟩ := D
        have HGC := Lib.hid hgc
        clear hgc
        have HG2 := Lib.hid gB
        clear gB
        have y0 := (HY.out.next HK.out.bel).c0
        have y1 := (HY.out.next HK.out.bel).c1
        have y2 := (HY.out.next HK.out.bel).c2
        have y3 := (HY.out.next HK.out.bel).c3
        have y4 := (HY.out.next HK.out.bel).c4
        go_wp2_with fail
        go_cut [13, 14] (fun sp se wx => CutE W3 [] sp se ⟨d1, d2, d3, d4, d5⟩ E wx)
        case first =>
          as_aux_lemma =>
            clear y0 y1 y2 y3 y4
            have HLt : Hid (∀ g ∈ List.map Bk.g [], g < wc.heap.size) := fun g hg => by obtain ⟨c, hc, rfl⟩ := List.mem_map.1 hg; exact HK.out.lt c hc
            have HAll : Hid (∀ W, Below wc.heap.size wc W → (fun W => Below wc.heap.size wc W ∧ W.cell? ⟨(w.heap.size + 1), 0, none⟩ = some (.int .i64 B.k) ∧ W.cell? ⟨(w.heap.size + 1), 1, none⟩ = some (.int .i64 B.r) ∧ W.cell? ⟨(w.heap.size + 1), 2, none⟩ = some (.int .i64 B.a) ∧ W.cell? ⟨(w.heap.size + 1), 3, none⟩ = some (.int .i64 B.b) ∧ W.cell? ⟨(w.heap.size + 1), 4, none⟩ = some ((.slice q B.z.length cap'))) W) := fun W h => ⟨h, (HY.out.next (HK.out.next h).bel).c0, (HY.out.next (HK.out.next h).bel).c1, (HY.out.next (HK.out.next h).bel).c2, (HY.out.next (HK.out.next h).bel).c3, (HY.out.next (HK.out.next h).bel).c4⟩
            refine wp_region_held_drew (S := (fun W => Below wc.heap.size wc W ∧ W.cell? ⟨(w.heap.size + 1), 0, none⟩ = some (.int .i64 B.k) ∧ W.cell? ⟨(w.heap.size + 1), 1, none⟩ = some (.int .i64 B.r) ∧ W.cell? ⟨(w.heap.size + 1), 2, none⟩ = some (.int .i64 B.a) ∧ W.cell? ⟨(w.heap.size + 1), 3, none⟩ = some (.int .i64 B.b) ∧ W.cell? ⟨(w.heap.size + 1), 4, none⟩ = some ((.slice q B.z.length cap')))) (by kernel_rfl) ?_ (fun hHeld => ?_)
            · exact HAll.out _ (Below.refl _ _).drew
            have HB0 : Hid (Below wc.heap.size wc (World.drew wc)) := (Below.refl _ _).drew
            generalize World.drew wc = wd at hHeld HB0 ⊢
            refine wpAnyH_take (i := 0) (v := ?_) rfl (by kernel_rfl) (by kernel_rfl) (by kernel_rfl) (fun _ _ _ h => h) (Or.inl ⟨by rfl, ?_⟩) (by assumption) ?_
            rotate_left
            · ((intro w0 hSw); (try dsimp only at hSw); go_simp; (try with_reducible rfl))
            change wpAnyH _ _ _ _ _ _ _ (Act.put _ (some 85) _) _
            try simp only [Act.put, List.setIfInBounds_toArray, List.set_cons_zero, List.set_cons_succ]
            refine wpAnyH_take (i := 1) (v := ?_) rfl (by kernel_rfl) (by kernel_rfl) (by kernel_rfl) (fun _ _ _ h => h) (Or.inl ⟨by rfl, ?_⟩) (by assumption) ?_
            rotate_left
            · ((intro w0 hSw); (try dsimp only at hSw); go_simp; (try with_reducible rfl))
            change wpAnyH _ _ _ _ _ _ _ (Act.put _ (some 86) _) _
            try simp only [Act.put, List.setIfInBounds_toArray, List.set_cons_zero, List.set_cons_succ]
            refine wpAnyH_take (i := 4) (v := ?_) rfl (by kernel_rfl) (by kernel_rfl) (by kernel_rfl) (fun _ _ _ h => h) (Or.inl ⟨by rfl, ?_⟩) (by assumption) ?_
            rotate_left
            · ((intro w0 hSw); (try dsimp only at hSw); go_simp; (try with_reducible rfl))
            change wpAnyH _ _ _ _ _ _ _ (Act.put _ (some 89) _) _
            try simp only [Act.put, List.setIfInBounds_toArray, List.set_cons_zero, List.set_cons_succ]
            refine wpAnyH_ready (rs := [2, 9]) (by kernel_rfl) (by simp) ?_
            refine AllReadyH.cons rfl (fun K hK => ?_) (AllReadyH.cons rfl (fun K hK => ?_) (AllReadyH.nil))
            · go_simp
              refine hK.out _ _ ?_ (fun hHeld2 => ?_)
              · exact HAll.out _ (HB0.out.trans ((bel1 wd _).mono HB0.out.size))
              clear hK K hHeld
              have hHeld := hHeld2; clear hHeld2
              try change wpAnyH _ _ _ _ _ _ _ (Act.put _ (some 87) _) _
              try simp only [Act.put, List.setIfInBounds_toArray, List.set_cons_zero, List.set_cons_succ]
              generalize hwx122 : World.alloc wd _ = wa121 at hHeld ⊢
              have HB123 : Hid (Below wc.heap.size wc wa121) := by rw [← hwx122]; exact HB0.out.trans ((bel1 wd _).mono HB0.out.size)
              have Hbx124 : Hid (Below wd.heap.size wd wa121) := by rw [← hwx122]; exact bel1 _ _
              have HU125 : Hid (RdI wa121.heap.size wa121 (.slice (some ⟨wd.heap.size, 0, none⟩) 2 2) [X, Y]) := by rw [← hwx122]; exact blk_rd (l := [X, Y]) rfl (by decide) (heap_alloc_last _ _)
              clear hwx122
              refine wpAnyH_ready (rs := [3, 9]) (by kernel_rfl) (by simp) ?_
              refine AllReadyH.cons rfl (fun K hK => ?_) (AllReadyH.cons rfl (fun K hK => ?_) (AllReadyH.nil))
              · go_simp
                go_at_call 35
                with_reducible refine (HIn.out _ _ HU125.out (nil_some _ _ _)).mono ?_
                rintro e wn131 ⟨uz132, rfl, hu128, hb129⟩
                obtain ⟨qz126, cz127, hq133, _, _⟩ := hu128.form
                have hq1332 : uz132 = (.slice qz126 2 cz127) := hq133
                subst hq1332
                clear hq133
                have HB130 := Lib.hid (HB123.out.trans (hb129.mono HB123.out.size))
                refine hK.out _ _ ?_ (fun hHeld2 => ?_)
                · exact HAll.out _ HB130.out
                clear hK K hHeld
                have hHeld := hHeld2; clear hHeld2
                try change wpAnyH _ _ _ _ _ _ _ (Act.put _ (some 88) _) _
                try dsimp only
                try simp only [Act.put, List.setIfInBounds_toArray, List.set_cons_zero, List.set_cons_succ]
                have HC134 := Lib.hid (HU125.out.next hb129)
                have HU135 := Lib.hid hu128.rd
                have HU135n := Lib.hid hu128.nilC
                clear hu128 hb129
                refine wpAnyH_ready (rs := [5, 9]) (by kernel_rfl) (by simp) ?_
                refine AllReadyH.cons rfl (fun K hK => ?_) (AllReadyH.cons rfl (fun K hK => ?_) (AllReadyH.nil))
                · go_simp
                  go_at_call 26
                  with_reducible refine (HGd.out _ _ _ (HK.out.next HB130.out).lay HU135.out (by with_unfolding_all exact (HV.out.next (HK.out.next HB130.out).bel))).mono ?_
                  rintro e wn141 ⟨uz142, rfl, hu138, hb139⟩
                  obtain ⟨qz136, cz137, hq143, _, _⟩ := hu138.form
                  have hq1432 : uz142 = (.slice qz136 d5.length cz137) := hq143
                  subst hq1432
                  clear hq143
                  have HB140 := Lib.hid (HB130.out.trans (hb139.mono HB130.out.size))
                  refine hK.out _ _ ?_ (fun hHeld2 => ?_)
                  · exact HAll.out _ HB140.out
                  clear hK K hHeld
                  have hHeld := hHeld2; clear hHeld2
                  try change wpAnyH _ _ _ _ _ _ _ (Act.put _ (some 90) _) _
                  try dsimp only
                  try simp only [Act.put, List.setIfInBounds_toArray, List.set_cons_zero, List.set_cons_succ]
                  have HC144 := Lib.hid (HC134.out.next hb139)
                  have HC145 := Lib.hid (HU135.out.next hb139)
                  have HX146 : Hid (RdX (List.map Bk.g []) wn141 (.slice qz136 d5.length cz137) d5) := rdN_toX hu138 (fun g mg => Nat.lt_of_lt_of_le (HLt.out g mg) HB130.out.size)
                  have HN147 := Lib.hid hu138.nilC
                  clear hu138 hb139
                  refine wpAnyH_take (i := 6) (v := ?_) rfl (by kernel_rfl) (by kernel_rfl) (by kernel_rfl) (fun _ _ _ h => h) (Or.inl ⟨by rfl, ?_⟩) (by assumption) ?_
                  rotate_left
                  · ((intro w0 hSw); (try dsimp only at hSw); go_simp; (try with_reducible rfl))
                  change wpAnyH _ _ _ _ _ _ _ (Act.put _ (some 84) _) _
                  try simp only [Act.put, List.setIfInBounds_toArray, List.set_cons_zero, List.set_cons_succ]
                  refine wpAnyH_take (i := 7) (v := ?_) rfl (by kernel_rfl) (by kernel_rfl) (by kernel_rfl) (fun _ _ _ h => h) (Or.inl ⟨by rfl, ?_⟩) (by assumption) ?_
                  rotate_left
                  · ((intro w0 hSw); (try dsimp only at hSw); go_simp; (try with_reducible rfl))
                  change wpAnyH _ _ _ _ _ _ _ (Act.put _ (some 91) _) _
                  try simp only [Act.put, List.setIfInBounds_toArray, List.set_cons_zero, List.set_cons_succ]
                  refine wpAnyH_take (i := 8) (v := ?_) rfl (by kernel_rfl) (by kernel_rfl) (by kernel_rfl) (fun _ _ _ h => h) (Or.inl ⟨by rfl, ?_⟩) (by assumption) ?_
                  rotate_left
                  · ((intro w0 hSw); (try dsimp only at hSw); go_simp; (try with_reducible rfl))
                  change wpAnyH _ _ _ _ _ _ _ (Act.put _ (some 92) _) _
                  try simp only [Act.put, List.setIfInBounds_toArray, List.set_cons_zero, List.set_cons_succ]
                  refine wpAnyH_ready (rs := [9]) (by kernel_rfl) (by simp) ?_
                  refine AllReadyH.cons rfl (fun K hK => ?_) (AllReadyH.nil)
                  go_simp
                  refine hK.out _ _ ?_ (fun hHeld2 => ?_)
                  · exact HAll.out _ (HB140.out.trans ((bel1 wn141 _).mono HB140.out.size))
                  clear hK K hHeld
                  have hHeld := hHeld2; clear hHeld2
                  try change wpAnyH _ _ _ _ _ _ _ (Act.put _ (some 13) _) _
                  try simp only [Act.put, List.setIfInBounds_toArray, List.set_cons_zero, List.set_cons_succ]
                  generalize hwx149 : World.alloc wn141 _ = wa148 at hHeld ⊢
                  have HB150 : Hid (Below wc.heap.size wc wa148) := by rw [← hwx149]; exact HB140.out.trans ((bel1 wn141 _).mono HB140.out.size)
                  have Hbx151 : Hid (Below wn141.heap.size wn141 wa148) := by rw [← hwx149]; exact bel1 _ _
                  have HC152 := Lib.hid (HC144.out.next Hbx151.out)
                  have HC153 := Lib.hid (HC145.out.next Hbx151.out)
                  have HG154 : Hid (R5 wa148 wn141.heap.size 0 0 0 0 (.slice none 0 0)) := by rw [← hwx149]; exact R5.new _ _ _ _ _ _
                  have hge : wc.heap.size ≤ wn141.heap.size := HB140.out.size
                  have HX155 : Hid (RdX (wn141.heap.size :: List.map Bk.g []) wa148 (.slice qz136 d5.length cz137) d5) := (HX146.out.more (Nat.le_refl _)).keep Hbx151.out.size (fun c' _ hc' => Hbx151.out.block c' hc')
                  clear hwx149
                  as_aux_lemma =>
                    refine wpAnyH_ready (rs := [10]) (by kernel_rfl) (by simp) ?_
                    refine AllReadyH.cons rfl (fun K hK => ?_) (AllReadyH.nil)
                    have y0 := HG154.out.c0; have y1 := HG154.out.c1; have y2 := HG154.out.c2; have y3 := HG154.out.c3; have y4 := HG154.out.c4; have f0 := HG154.out.fr 0; have f1 := HG154.out.fr 1; have f2 := HG154.out.fr 2; have f3 := HG154.out.fr 3; have f4 := HG154.out.fr 4; have HS := Lib.hid (HG154.out.set d1 d2 d3 d4 (.slice qz136 d5.length cz137)); have z0 := HS.out.c0; have z1 := HS.out.c1; have z2 := HS.out.c2; have z3 := HS.out.c3; have z4 := HS.out.c4
                    go_simp
                    refine hK.out _ _ ?_ (fun hHeld2 => ?_)
                    · exact HAll.out _ (st5_below _ _ _ _ _ hge HB150.out)
                    clear hK K hHeld
                    have hHeld := hHeld2; clear hHeld2
                    try simp only [Act.put, List.setIfInBounds_toArray, List.set_cons_zero, List.set_cons_succ]
                    refine wpAnyH_take (i := 11) (v := ?_) rfl (by kernel_rfl) (by kernel_rfl) (by kernel_rfl) (fun _ _ _ h => h) (Or.inl ⟨by rfl, ?_⟩) (by assumption) ?_
                    rotate_left
                    · ((intro w0 hSw); (try dsimp only at hSw); go_simp; (try with_reducible rfl))
                    change wpAnyH _ _ _ _ _ _ _ (Act.put _ (some 14) _) _
                    try simp only [Act.put, List.setIfInBounds_toArray, List.set_cons_zero, List.set_cons_succ]
                    refine wpAnyH_done (by kernel_rfl) ?_ _
                    go_wp2_with fail
                    go_meet
                    case rel => exact ⟨wn141.heap.size, qz136, cz137, rfl, rfl, HK.out.newAt HB150.out hge HG154.out ⟨d1, d2, d3, d4, d5⟩ HX155.out HN147.out, fun b mb => Nat.lt_of_lt_of_le (HK.out.lt b mb) hge⟩
                · go_simp
                  refine hK.out _ _ ?_ (fun hHeld2 => ?_)
                  · exact HAll.out _ (HB130.out.trans ((bel1 wn131 _).mono HB130.out.size))
                  clear hK K hHeld
                  have hHeld := hHeld2; clear hHeld2
                  try change wpAnyH _ _ _ _ _ _ _ (Act.put _ (some 13) _) _
                  try simp only [Act.put, List.setIfInBounds_toArray, List.set_cons_zero, List.set_cons_succ]
                  generalize hwx157 : World.alloc wn131 _ = wa156 at hHeld ⊢
                  have HB158 : Hid (Below wc.heap.size wc wa156) := by rw [← hwx157]; exact HB130.out.trans ((bel1 wn131 _).mono HB130.out.size)
                  have Hbx159 : Hid (Below wn131.heap.size wn131 wa156) := by rw [← hwx157]; exact bel1 _ _
                  have HC160 := Lib.hid (HC134.out.next Hbx159.out)
                  have HC161 := Lib.hid (HU135.out.next Hbx159.out)
                  have HG162 : Hid (R5 wa156 wn131.heap.size 0 0 0 0 (.slice none 0 0)) := by rw [← hwx157]; exact R5.new _ _ _ _ _ _
                  have hge : wc.heap.size ≤ wn131.heap.size := HB130.out.size
                  clear hwx157
                  refine wpAnyH_ready (rs := [5]) (by kernel_rfl) (by simp) ?_
                  refine AllReadyH.cons rfl (fun K hK => ?_) (AllReadyH.nil)
                  go_simp
                  go_at_call 26
                  with_reducible refine (HGd.out _ _ _ (HK.out.next HB158.out).lay HC161.out (by with_unfolding_all exact (HV.out.next (HK.out.next HB158.out).bel))).mono ?_
                  rintro e wn168 ⟨uz169, rfl, hu165, hb166⟩
                  obtain ⟨qz163, cz164, hq170, _, _⟩ := hu165.form
                  have hq1702 : uz169 = (.slice qz163 d5.length cz164) := hq170
                  subst hq1702
                  clear hq170
                  have HB167 := Lib.hid (HB158.out.trans (hb166.mono HB158.out.size))
                  refine hK.out _ _ ?_ (fun hHeld2 => ?_)
                  · exact HAll.out _ HB167.out
                  clear hK K hHeld
                  have hHeld := hHeld2; clear hHeld2
                  try change wpAnyH _ _ _ _ _ _ _ (Act.put _ (some 90) _) _
                  try dsimp only
                  try simp only [Act.put, List.setIfInBounds_toArray, List.set_cons_zero, List.set_cons_succ]
                  have HC171 := Lib.hid (HC160.out.next hb166)
                  have HC172 := Lib.hid (HC161.out.next hb166)
                  have HC173 := Lib.hid (HG162.out.next hb166)
                  have HX174 : Hid (RdX (wn131.heap.size :: List.map Bk.g []) wn168 (.slice qz163 d5.length cz164) d5) := rdN_toX hu165 (fun g mg => by
                    rcases List.mem_cons.1 mg with rfl | mg
                    · exact HG162.out.lt
                    · exact Nat.lt_of_lt_of_le (HLt.out g mg) HB158.out.size)
                  have HN175 := Lib.hid hu165.nilC
                  clear hu165 hb166
                  refine wpAnyH_take (i := 6) (v := ?_) rfl (by kernel_rfl) (by kernel_rfl) (by kernel_rfl) (fun _ _ _ h => h) (Or.inl ⟨by rfl, ?_⟩) (by assumption) ?_
                  rotate_left
                  · ((intro w0 hSw); (try dsimp only at hSw); go_simp; (try with_reducible rfl))
                  change wpAnyH _ _ _ _ _ _ _ (Act.put _ (some 84) _) _
                  try simp only [Act.put, List.setIfInBounds_toArray, List.set_cons_zero, List.set_cons_succ]
                  refine wpAnyH_take (i := 7) (v := ?_) rfl (by kernel_rfl) (by kernel_rfl) (by kernel_rfl) (fun _ _ _ h => h) (Or.inl ⟨by rfl, ?_⟩) (by assumption) ?_
                  rotate_left
                  · ((intro w0 hSw); (try dsimp only at hSw); go_simp; (try with_reducible rfl))
                  change wpAnyH _ _ _ _ _ _ _ (Act.put _ (some 91) _) _
                  try simp only [Act.put, List.setIfInBounds_toArray, List.set_cons_zero, List.set_cons_succ]
                  refine wpAnyH_take (i := 8) (v := ?_) rfl (by kernel_rfl) (by kernel_rfl) (by kernel_rfl) (fun _ _ _ h => h) (Or.inl ⟨by rfl, ?_⟩) (by assumption) ?_
                  rotate_left
                  · ((intro w0 hSw); (try dsimp only at hSw); go_simp; (try with_reducible rfl))
                  change wpAnyH _ _ _ _ _ _ _ (Act.put _ (some 92) _) _
                  try simp only [Act.put, List.setIfInBounds_toArray, List.set_cons_zero, List.set_cons_succ]
                  as_aux_lemma =>
                    refine wpAnyH_ready (rs := [10]) (by kernel_rfl) (by simp) ?_
                    refine AllReadyH.cons rfl (fun K hK => ?_) (AllReadyH.nil)
                    have y0 := HC173.out.c0; have y1 := HC173.out.c1; have y2 := HC173.out.c2; have y3 := HC173.out.c3; have y4 := HC173.out.c4; have f0 := HC173.out.fr 0; have f1 := HC173.out.fr 1; have f2 := HC173.out.fr 2; have f3 := HC173.out.fr 3; have f4 := HC173.out.fr 4; have HS := Lib.hid (HC173.out.set d1 d2 d3 d4 (.slice qz163 d5.length cz164)); have z0 := HS.out.c0; have z1 := HS.out.c1; have z2 := HS.out.c2; have z3 := HS.out.c3; have z4 := HS.out.c4
                    go_simp
                    refine hK.out _ _ ?_ (fun hHeld2 => ?_)
                    · exact HAll.out _ (st5_below _ _ _ _ _ hge HB167.out)
                    clear hK K hHeld
                    have hHeld := hHeld2; clear hHeld2
                    try simp only [Act.put, List.setIfInBounds_toArray, List.set_cons_zero, List.set_cons_succ]
                    refine wpAnyH_take (i := 11) (v := ?_) rfl (by kernel_rfl) (by kernel_rfl) (by kernel_rfl) (fun _ _ _ h => h) (Or.inl ⟨by rfl, ?_⟩) (by assumption) ?_
                    rotate_left
                    · ((intro w0 hSw); (try dsimp only at hSw); go_simp; (try with_reducible rfl))
                    change wpAnyH _ _ _ _ _ _ _ (Act.put _ (some 14) _) _
                    try simp only [Act.put, List.setIfInBounds_toArray, List.set_cons_zero, List.set_cons_succ]
                    refine wpAnyH_done (by kernel_rfl) ?_ _
                    go_wp2_with fail
                    go_meet
                    case rel => exact ⟨wn131.heap.size, qz163, cz164, rfl, rfl, HK.out.newAt HB167.out hge HC173.out ⟨d1, d2, d3, d4, d5⟩ HX174.out HN175.out, fun b mb => Nat.lt_of_lt_of_le (HK.out.lt b mb) hge⟩
              · go_simp
                refine hK.out _ _ ?_ (fun hHeld2 => ?_)
                · exact HAll.out _ (HB123.out.trans ((bel1 wa121 _).mono HB123.out.size))
                clear hK K hHeld
                have hHeld := hHeld2; clear hHeld2
                try change wpAnyH _ _ _ _ _ _ _ (Act.put _ (some 13) _) _
                try simp only [Act.put, List.setIfInBounds_toArray, List.set_cons_zero, List.set_cons_succ]
                generalize hwx177 : World.alloc wa121 _ = wa176 at hHeld ⊢
                have HB178 : Hid (Below wc.heap.size wc wa176) := by rw [← hwx177]; exact HB123.out.trans ((bel1 wa121 _).mono HB123.out.size)
                have Hbx179 : Hid (Below wa121.heap.size wa121 wa176) := by rw [← hwx177]; exact bel1 _ _
                have HC180 := Lib.hid (HU125.out.next Hbx179.out)
                have HG181 : Hid (R5 wa176 wa121.heap.size 0 0 0 0 (.slice none 0 0)) := by rw [← hwx177]; exact R5.new _ _ _ _ _ _
                have hge : wc.heap.size ≤ wa121.heap.size := HB123.out.size
                clear hwx177
                refine wpAnyH_ready (rs := [3]) (by kernel_rfl) (by simp) ?_
                refine AllReadyH.cons rfl (fun K hK => ?_) (AllReadyH.nil)
                go_simp
                go_at_call 35
                with_reducible refine (HIn.out _ _ HC180.out (nil_some _ _ _)).mono ?_
                rintro e wn187 ⟨uz188, rfl, hu184, hb185⟩
                obtain ⟨qz182, cz183, hq189, _, _⟩ := hu184.form
                have hq1892 : uz188 = (.slice qz182 2 cz183) := hq189
                subst hq1892
                clear hq189
                have HB186 := Lib.hid (HB178.out.trans (hb185.mono HB178.out.size))
                refine hK.out _ _ ?_ (fun hHeld2 => ?_)
                · exact HAll.out _ HB186.out
                clear hK K hHeld
                have hHeld := hHeld2; clear hHeld2
                try change wpAnyH _ _ _ _ _ _ _ (Act.put _ (some 88) _) _
                try dsimp only
                try simp only [Act.put, List.setIfInBounds_toArray, List.set_cons_zero, List.set_cons_succ]
                have HC190 := Lib.hid (HC180.out.next hb185)
                have HC191 := Lib.hid (HG181.out.next hb185)
                have HU192 := Lib.hid hu184.rd
                have HU192n := Lib.hid hu184.nilC
                clear hu184 hb185
                refine wpAnyH_ready (rs := [5]) (by kernel_rfl) (by simp) ?_
                refine AllReadyH.cons rfl (fun K hK => ?_) (AllReadyH.nil)
                go_simp
                go_at_call 26
                with_reducible refine (HGd.out _ _ _ (HK.out.next HB186.out).lay HU192.out (by with_unfolding_all exact (HV.out.next (HK.out.next HB186.out).bel))).mono ?_
                rintro e wn198 ⟨uz199, rfl, hu195, hb196⟩
                obtain ⟨qz193, cz194, hq200, _, _⟩ := hu195.form
                have hq2002 : uz199 = (.slice qz193 d5.length cz194) := hq200
                subst hq2002
                clear hq200
                have HB197 := Lib.hid (HB186.out.trans (hb196.mono HB186.out.size))
                refine hK.out _ _ ?_ (fun hHeld2 => ?_)
                · exact HAll.out _ HB197.out
                clear hK K hHeld
                have hHeld := hHeld2; clear hHeld2
                try change wpAnyH _ _ _ _ _ _ _ (Act.put _ (some 90) _) _
                try dsimp only
                try simp only [Act.put, List.setIfInBounds_toArray, List.set_cons_zero, List.set_cons_succ]
                have HC201 := Lib.hid (HC190.out.next hb196)
                have HC202 := Lib.hid (HC191.out.next hb196)
                have HC203 := Lib.hid (HU192.out.next hb196)
                have HX204 : Hid (RdX (wa121.heap.size :: List.map Bk.g []) wn198 (.slice qz193 d5.length cz194) d5) := rdN_toX hu195 (fun g mg => by
                  rcases List.mem_cons.1 mg with rfl | mg
                  · exact HC191.out.lt
                  · exact Nat.lt_of_lt_of_le (HLt.out g mg) HB186.out.size)
                have HN205 := Lib.hid hu195.nilC
                clear hu195 hb196
                refine wpAnyH_take (i := 6) (v := ?_) rfl (by kernel_rfl) (by kernel_rfl) (by kernel_rfl) (fun _ _ _ h => h) (Or.inl ⟨by rfl, ?_⟩) (by assumption) ?_
                rotate_left
                · ((intro w0 hSw); (try dsimp only at hSw); go_simp; (try with_reducible rfl))
                change wpAnyH _ _ _ _ _ _ _ (Act.put _ (some 84) _) _
                try simp only [Act.put, List.setIfInBounds_toArray, List.set_cons_zero, List.set_cons_succ]
                refine wpAnyH_take (i := 7) (v := ?_) rfl (by kernel_rfl) (by kernel_rfl) (by kernel_rfl) (fun _ _ _ h => h) (Or.inl ⟨by rfl, ?_⟩) (by assumption) ?_
                rotate_left
                · ((intro w0 hSw); (try dsimp only at hSw); go_simp; (try with_reducible rfl))
                change wpAnyH _ _ _ _ _ _ _ (Act.put _ (some 91) _) _
                try simp only [Act.put, List.setIfInBounds_toArray, List.set_cons_zero, List.set_cons_succ]
                refine wpAnyH_take (i := 8) (v := ?_) rfl (by kernel_rfl) (by kernel_rfl) (by kernel_rfl) (fun _ _ _ h => h) (Or.inl ⟨by rfl, ?_⟩) (by assumption) ?_
                rotate_left
                · ((intro w0 hSw); (try dsimp only at hSw); go_simp; (try with_reducible rfl))
                change wpAnyH _ _ _ _ _ _ _ (Act.put _ (some 92) _) _
                try simp only [Act.put, List.setIfInBounds_toArray, List.set_cons_zero, List.set_cons_succ]
                as_aux_lemma =>
                  refine wpAnyH_ready (rs := [10]) (by kernel_rfl) (by simp) ?_
                  refine AllReadyH.cons rfl (fun K hK => ?_) (AllReadyH.nil)
                  have y0 := HC202.out.c0; have y1 := HC202.out.c1; have y2 := HC202.out.c2; have y3 := HC202.out.c3; have y4 := HC202.out.c4; have f0 := HC202.out.fr 0; have f1 := HC202.out.fr 1; have f2 := HC202.out.fr 2; have f3 := HC202.out.fr 3; have f4 := HC202.out.fr 4; have HS := Lib.hid (HC202.out.set d1 d2 d3 d4 (.slice qz193 d5.length cz194)); have z0 := HS.out.c0; have z1 := HS.out.c1; have z2 := HS.out.c2; have z3 := HS.out.c3; have z4 := HS.out.c4
                  go_simp
                  refine hK.out _ _ ?_ (fun hHeld2 => ?_)
                  · exact HAll.out _ (st5_below _ _ _ _ _ hge HB197.out)
                  clear hK K hHeld
                  have hHeld := hHeld2; clear hHeld2
                  try simp only [Act.put, List.setIfInBounds_toArray, List.set_cons_zero, List.set_cons_succ]
                  refine wpAnyH_take (i := 11) (v := ?_) rfl (by kernel_rfl) (by kernel_rfl) (by kernel_rfl) (fun _ _ _ h => h) (Or.inl ⟨by rfl, ?_⟩) (by assumption) ?_
                  rotate_left
                  · ((intro w0 hSw); (try dsimp only at hSw); go_simp; (try with_reducible rfl))
                  change wpAnyH _ _ _ _ _ _ _ (Act.put _ (some 14) _) _
                  try simp only [Act.put, List.setIfInBounds_toArray, List.set_cons_zero, List.set_cons_succ]
                  refine wpAnyH_done (by kernel_rfl) ?_ _
                  go_wp2_with fail
                  go_meet
                  case rel => exact ⟨wa121.heap.size, qz193, cz194, rfl, rfl, HK.out.newAt HB197.out hge HC202.out ⟨d1, d2, d3, d4, d5⟩ HX204.out HN205.out, fun b mb => Nat.lt_of_lt_of_le (HK.out.lt b mb) hge⟩
            · go_simp
              refine hK.out _ _ ?_ (fun hHeld2 => ?_)
              · exact HAll.out _ (HB0.out.trans ((bel1 wd _).mono HB0.out.size))
              clear hK K hHeld
              have hHeld := hHeld2; clear hHeld2
              try change wpAnyH _ _ _ _ _ _ _ (Act.put _ (some 13) _) _
              try simp only [Act.put, List.setIfInBounds_toArray, List.set_cons_zero, List.set_cons_succ]
              generalize hwx207 : World.alloc wd _ = wa206 at hHeld ⊢
              have HB208 : Hid (Below wc.heap.size wc wa206) := by rw [← hwx207]; exact HB0.out.trans ((bel1 wd _).mono HB0.out.size)
              have Hbx209 : Hid (Below wd.heap.size wd wa206) := by rw [← hwx207]; exact bel1 _ _
              have HG210 : Hid (R5 wa206 wd.heap.size 0 0 0 0 (.slice none 0 0)) := by rw [← hwx207]; exact R5.new _ _ _ _ _ _
              have hge : wc.heap.size ≤ wd.heap.size := HB0.out.size
              clear hwx207
              refine wpAnyH_ready (rs := [2]) (by kernel_rfl) (by simp) ?_
              refine AllReadyH.cons rfl (fun K hK => ?_) (AllReadyH.nil)
              go_simp
              refine hK.out _ _ ?_ (fun hHeld2 => ?_)
              · exact HAll.out _ (HB208.out.trans ((bel1 wa206 _).mono HB208.out.size))
              clear hK K hHeld
              have hHeld := hHeld2; clear hHeld2
              try change wpAnyH _ _ _ _ _ _ _ (Act.put _ (some 87) _) _
              try simp only [Act.put, List.setIfInBounds_toArray, List.set_cons_zero, List.set_cons_succ]
              generalize hwx212 : World.alloc wa206 _ = wa211 at hHeld ⊢
              have HB213 : Hid (Below wc.heap.size wc wa211) := by rw [← hwx212]; exact HB208.out.trans ((bel1 wa206 _).mono HB208.out.size)
              have Hbx214 : Hid (Below wa206.heap.size wa206 wa211) := by rw [← hwx212]; exact bel1 _ _
              have HC215 := Lib.hid (HG210.out.next Hbx214.out)
              have HU216 : Hid (RdI wa211.heap.size wa211 (.slice (some ⟨wa206.heap.size, 0, none⟩) 2 2) [X, Y]) := by rw [← hwx212]; exact blk_rd (l := [X, Y]) rfl (by decide) (heap_alloc_last _ _)
              clear hwx212
              refine wpAnyH_ready (rs := [3]) (by kernel_rfl) (by simp) ?_
              refine AllReadyH.cons rfl (fun K hK => ?_) (AllReadyH.nil)
              go_simp
              go_at_call 35
              with_reducible refine (HIn.out _ _ HU216.out (nil_some _ _ _)).mono ?_
              rintro e wn222 ⟨uz223, rfl, hu219, hb220⟩
              obtain ⟨qz217, cz218, hq224, _, _⟩ := hu219.form
              have hq2242 : uz223 = (.slice qz217 2 cz218) := hq224
              subst hq2242
              clear hq224
              have HB221 := Lib.hid (HB213.out.trans (hb220.mono HB213.out.size))
              refine hK.out _ _ ?_ (fun hHeld2 => ?_)
              · exact HAll.out _ HB221.out
              clear hK K hHeld
              have hHeld := hHeld2; clear hHeld2
              try change wpAnyH _ _ _ _ _ _ _ (Act.put _ (some 88) _) _
              try dsimp only
              try simp only [Act.put, List.setIfInBounds_toArray, List.set_cons_zero, List.set_cons_succ]
              have HC225 := Lib.hid (HC215.out.next hb220)
              have HC226 := Lib.hid (HU216.out.next hb220)
              have HU227 := Lib.hid hu219.rd
              have HU227n := Lib.hid hu219.nilC
              clear hu219 hb220
              refine wpAnyH_ready (rs := [5]) (by kernel_rfl) (by simp) ?_
              refine AllReadyH.cons rfl (fun K hK => ?_) (AllReadyH.nil)
              go_simp
              go_at_call 26
              with_reducible refine (HGd.out _ _ _ (HK.out.next HB221.out).lay HU227.out (by with_unfolding_all exact (HV.out.next (HK.out.next HB221.out).bel))).mono ?_
              rintro e wn233 ⟨uz234, rfl, hu230, hb231⟩
              obtain ⟨qz228, cz229, hq235, _, _⟩ := hu230.form
              have hq2352 : uz234 = (.slice qz228 d5.length cz229) := hq235
              subst hq2352
              clear hq235
              have HB232 := Lib.hid (HB221.out.trans (hb231.mono HB221.out.size))
              refine hK.out _ _ ?_ (fun hHeld2 => ?_)
              · exact HAll.out _ HB232.out
              clear hK K hHeld
              have hHeld := hHeld2; clear hHeld2
              try change wpAnyH _ _ _ _ _ _ _ (Act.put _ (some 90) _) _
              try dsimp only
              try simp only [Act.put, List.setIfInBounds_toArray, List.set_cons_zero, List.set_cons_succ]
              have HC236 := Lib.hid (HC225.out.next hb231)
              have HC237 := Lib.hid (HC226.out.next hb231)
              have HC238 := Lib.hid (HU227.out.next hb231)
              have HX239 : Hid (RdX (wd.heap.size :: List.map Bk.g []) wn233 (.slice qz228 d5.length cz229) d5) := rdN_toX hu230 (fun g mg => by
                rcases List.mem_cons.1 mg with rfl | mg
                · exact HC225.out.lt
                · exact Nat.lt_of_lt_of_le (HLt.out g mg) HB221.out.size)
              have HN240 := Lib.hid hu230.nilC
              clear hu230 hb231
              refine wpAnyH_take (i := 6) (v := ?_) rfl (by kernel_rfl) (by kernel_rfl) (by kernel_rfl) (fun _ _ _ h => h) (Or.inl ⟨by rfl, ?_⟩) (by assumption) ?_
              rotate_left
              · ((intro w0 hSw); (try dsimp only at hSw); go_simp; (try with_reducible rfl))
              change wpAnyH _ _ _ _ _ _ _ (Act.put _ (some 84) _) _
              try simp only [Act.put, List.setIfInBounds_toArray, List.set_cons_zero, List.set_cons_succ]
              refine wpAnyH_take (i := 7) (v := ?_) rfl (by kernel_rfl) (by kernel_rfl) (by kernel_rfl) (fun _ _ _ h => h) (Or.inl ⟨by rfl, ?_⟩) (by assumption) ?_
              rotate_left
              · ((intro w0 hSw); (try dsimp only at hSw); go_simp; (try with_reducible rfl))
              change wpAnyH _ _ _ _ _ _ _ (Act.put _ (some 91) _) _
              try simp only [Act.put, List.setIfInBounds_toArray, List.set_cons_zero, List.set_cons_succ]
              refine wpAnyH_take (i := 8) (v := ?_) rfl (by kernel_rfl) (by kernel_rfl) (by kernel_rfl) (fun _ _ _ h => h) (Or.inl ⟨by rfl, ?_⟩) (by assumption) ?_
              rotate_left
              · ((intro w0 hSw); (try dsimp only at hSw); go_simp; (try with_reducible rfl))
              change wpAnyH _ _ _ _ _ _ _ (Act.put _ (some 92) _) _
              try simp only [Act.put, List.setIfInBounds_toArray, List.set_cons_zero, List.set_cons_succ]
              as_aux_lemma =>
                refine wpAnyH_ready (rs := [10]) (by kernel_rfl) (by simp) ?_
                refine AllReadyH.cons rfl (fun K hK => ?_) (AllReadyH.nil)
                have y0 := HC236.out.c0; have y1 := HC236.out.c1; have y2 := HC236.out.c2; have y3 := HC236.out.c3; have y4 := HC236.out.c4; have f0 := HC236.out.fr 0; have f1 := HC236.out.fr 1; have f2 := HC236.out.fr 2; have f3 := HC236.out.fr 3; have f4 := HC236.out.fr 4; have HS := Lib.hid (HC236.out.set d1 d2 d3 d4 (.slice qz228 d5.length cz229)); have z0 := HS.out.c0; have z1 := HS.out.c1; have z2 := HS.out.c2; have z3 := HS.out.c3; have z4 := HS.out.c4
                go_simp
                refine hK.out _ _ ?_ (fun hHeld2 => ?_)
                · exact HAll.out _ (st5_below _ _ _ _ _ hge HB232.out)
                clear hK K hHeld
                have hHeld := hHeld2; clear hHeld2
                try simp only [Act.put, List.setIfInBounds_toArray, List.set_cons_zero, List.set_cons_succ]
                refine wpAnyH_take (i := 11) (v := ?_) rfl (by kernel_rfl) (by kernel_rfl) (by kernel_rfl) (fun _ _ _ h => h) (Or.inl ⟨by rfl, ?_⟩) (by assumption) ?_
                rotate_left
                · ((intro w0 hSw); (try dsimp only at hSw); go_simp; (try with_reducible rfl))
                change wpAnyH _ _ _ _ _ _ _ (Act.put _ (some 14) _) _
                try simp only [Act.put, List.setIfInBounds_toArray, List.set_cons_zero, List.set_cons_succ]
                refine wpAnyH_done (by kernel_rfl) ?_ _
                go_wp2_with fail
                go_meet
                case rel => exact ⟨wd.heap.size, qz228, cz229, rfl, rfl, HK.out.newAt HB232.out hge HC236.out ⟨d1, d2, d3, d4, d5⟩ HX239.out HN240.out, fun b mb => Nat.lt_of_lt_of_le (HK.out.lt b mb) hge⟩
        case rest =>
          obtain ⟨gg, qg, cg, rfl, rfl, hk, hlg⟩ := hcut
          clear HK hlg HGd HIn
          have HK := Lib.hid hk
          clear hk
          have hxy : 0 ≤ X * Y ∧ X * Y ≤ 576 := ⟨Int.mul_nonneg hX.1 hY.1, by have := Int.mul_le_mul hX.2 hY.2 hY.1 (by decide : (0 : Int) ≤ 24); omega⟩
          rcases HGC.out with ⟨h4, rfl, -⟩ | ⟨h4, h5, hz, rfl, -⟩ | ⟨h4, hz, rfl, hD, hgg⟩
          · have k3 : decide ((400 : Int) < X * Y) = true := decide_eq_true h4
            clear h4 HGC
            as_aux_lemma =>
              go_wp2_with (first
                | (go_at_call 12; (with_reducible refine (HAw.out _ (by with_unfolding_all exact HK.out.lay)).mono ?_); rintro e wz ⟨rfl, hb⟩; have HK2 := Lib.hid (HK.out.next hb); clear HK y0 y1 y2 y3 y4; have HK := HK2; clear HK2; clear hb; have y0 := (HY.out.next HK.out.bel).c0; have y1 := (HY.out.next HK.out.bel).c1; have y2 := (HY.out.next HK.out.bel).c2; have y3 := (HY.out.next HK.out.bel).c3; have y4 := (HY.out.next HK.out.bel).c4)
                | fail)
              go_ret
              exact ⟨rfl, HB3.out.trans (HK.out.bel.mono HB3.out.size)⟩
          · have k3 : decide ((400 : Int) < X * Y) = false := decide_eq_false (by omega)
            have k4 : decide ((0 : Int) < X * Y) = true := decide_eq_true h5
            have y4 : wc.cell? ⟨w.heap.size + 1, 4, none⟩ = some (.slice q 0 cap') := by
              have := (HY.out.next HK.out.bel).c4
              rw [hz] at this
              exact this
            clear h4 h5 hz HGC
            as_aux_lemma =>
              go_wp2_with (first
                | (go_at_call 12; (with_reducible refine (HAw.out _ (by with_unfolding_all exact HK.out.lay)).mono ?_); rintro e wz ⟨rfl, hb⟩; have HK2 := Lib.hid (HK.out.next hb); clear HK; have HK := HK2; clear HK2; clear hb)
                | fail)
              go_ret
              exact ⟨rfl, HB3.out.trans (HK.out.bel.mono HB3.out.size)⟩
          · obtain ⟨f1, f2, f3, f4, f5⟩ := Ar.mk.inj hD.symm
            subst f1 f2 f3 f4 f5
            have hlen : ((agn (X * Y).toNat B.z).length : Int) = X * Y := by rw [agn_len]; omega
            have hel : ∀ j, j < (agn (X * Y).toNat B.z).length → (agn (X * Y).toNat B.z).getD j 0 = B.z.getD (j % B.z.length) 0 := fun j hj => agn_getD (by rwa [agn_len] at hj)
            clear HGC
            generalize agn (X * Y).toNat B.z = zz at HK hgg hlen hel
            have hll : zz.length ≤ 1000000 := by omega
            have HRv : Hid (∀ u W, Ru.Lay W → RdI W.heap.size W u zz → Calls Tryd.prog 13 #[A5 B.k 2 X Y u] W (RetE ⟨B.k, 1, (zz.length : Int), 0, zz⟩ 0 W)) := fun u W h0 h1 => by
              have := ravel_any ⟨B.k, 2, X, Y, zz⟩ u W h0 h1 hll
              rw [ra_good hgg, good_ck hgg] at this
              exact this
            have k5 : ((zz.length : Int) != X * Y) = false := by rw [hlen]; simp
            have HEl := Lib.hid hel
            have hq2 : ∀ W, (Op.equalIn 10000 22 (.agg #[.int .i64 X, .int .i64 Y]) (.agg #[.int .i64 X, .int .i64 Y])).run Tryd.prog W = .ok true W := fun W => (eq2 X Y X Y W).trans (by simp)
            have HZ0 := Lib.hid hz
            have HLen := Lib.hid hlen
            clear hgg hel hz hlen h4
            have y0 := (HY.out.next HK.out.bel).c0
            have y1 := (HY.out.next HK.out.bel).c1
            have y2 := (HY.out.next HK.out.bel).c2
            have y3 := (HY.out.next HK.out.bel).c3
            have y4 := (HY.out.next HK.out.bel).c4
            have g0 := (HK.out.a _ (.head _)).c0
            have g1 := (HK.out.a _ (.head _)).c1
            have g2 := (HK.out.a _ (.head _)).c2
            have g3 := (HK.out.a _ (.head _)).c3
            have g4 := (HK.out.a _ (.head _)).c4
            go_wp2_with (first
              | (go_at_call 13; (with_reducible refine (HRv.out _ _ (by with_unfolding_all exact HK.out.lay) (by with_unfolding_all exact (HK.out.r _ (.head _)))).mono ?_); rintro e wq ⟨uwq, rfl, hu, hb⟩; obtain ⟨pwq, cwq, hpwq, _, _⟩ := hu.form; have hqwq : uwq = (.slice pwq zz.length cwq) := hpwq; subst hqwq; clear hpwq; have hltgr : gg < wq.heap.size := Nat.lt_of_lt_of_le (HK.out.lt _ (.head _)) hb.size; have HK2 := Lib.hid (HK.out.res hb ⟨B.k, 1, (zz.length : Int), 0, zz⟩ hu); clear HK y0 y1 y2 y3 y4 g0 g1 g2 g3 g4; have HK := HK2; clear HK2; clear hb hu; have y0 := (HY.out.next HK.out.bel).c0; have y1 := (HY.out.next HK.out.bel).c1; have y2 := (HY.out.next HK.out.bel).c2; have y3 := (HY.out.next HK.out.bel).c3; have y4 := (HY.out.next HK.out.bel).c4; have g0 := (HK.out.a _ (.tail _ (.head _))).c0; have g1 := (HK.out.a _ (.tail _ (.head _))).c1; have g2 := (HK.out.a _ (.tail _ (.head _))).c2; have g3 := (HK.out.a _ (.tail _ (.head _))).c3; have g4 := (HK.out.a _ (.tail _ (.head _))).c4; have r0 := (HK.out.a _ (.head _)).c0; have r1 := (HK.out.a _ (.head _)).c1; have r2 := (HK.out.a _ (.head _)).c2; have r3 := (HK.out.a _ (.head _)).c3; have r4 := (HK.out.a _ (.head _)).c4)
              | fail)
            go_loopg [17] zz.length (fun gk i wr2 => ∃ j : Nat, j + gk = zz.length ∧ i = .int .i64 j ∧ KVar W3 [⟨wq.heap.size, ⟨B.k, 1, (zz.length : Int), 0, zz⟩, (.slice pwq zz.length cwq)⟩, ⟨gg, ⟨B.k, 2, X, Y, zz⟩, (.slice qg zz.length cg)⟩] wr2)
            case atStart => exact ⟨0, by omega, rfl, HK.out⟩
            case round =>
              obtain ⟨j, hjg, rfl, hk⟩ := hrel
              clear HK k5 hq2 y0 y1 y2 y3 y4 g0 g1 g2 g3 g4 r0 r1 r2 r3 r4
              have HK := Lib.hid hk
              clear hk
              have y0 := (HY.out.next HK.out.bel).c0
              have y1 := (HY.out.next HK.out.bel).c1
              have y2 := (HY.out.next HK.out.bel).c2
              have y3 := (HY.out.next HK.out.bel).c3
              have y4 := (HY.out.next HK.out.bel).c4
              have g0 := (HK.out.a _ (.tail _ (.head _))).c0
              have g1 := (HK.out.a _ (.tail _ (.head _))).c1
              have g2 := (HK.out.a _ (.tail _ (.head _))).c2
              have g3 := (HK.out.a _ (.tail _ (.head _))).c3
              have g4 := (HK.out.a _ (.tail _ (.head _))).c4
              have r0 := (HK.out.a _ (.head _)).c0
              have r1 := (HK.out.a _ (.head _)).c1
              have r2 := (HK.out.a _ (.head _)).c2
              have r3 := (HK.out.a _ (.head _)).c3
              have r4 := (HK.out.a _ (.head _)).c4
              cases gk with
              | zero =>
                have hjz : ¬ ((j : Int) < (zz.length : Int)) := by omega
                by_cases hz : B.z = []
                · have hzl : B.z.length = 0 := by rw [hz]; rfl
                  rw [hzl] at y4
                  clear hzl hz hjg
                  as_aux_lemma =>
                    go_wp2_with (first
                      | (go_at_call 12; (with_reducible refine (HAw.out _ (by with_unfolding_all exact HK.out.lay)).mono ?_); rintro e wz ⟨rfl, hb⟩; have HK2 := Lib.hid (HK.out.next hb); clear HK y0 y1 y2 y3 y4; have HK := HK2; clear HK2; clear hb; have y0 := (HY.out.next HK.out.bel).c0; have y1 := (HY.out.next HK.out.bel).c1; have y2 := (HY.out.next HK.out.bel).c2; have y3 := (HY.out.next HK.out.bel).c3; skip)
                      | fail)
                    go_ret
                    exact ⟨rfl, HB3.out.trans (HK.out.bel.mono HB3.out.size)⟩
                · have hpos : 0 < B.z.length := List.length_pos_iff.2 hz
                  clear hjg HRv HEl HLen HZ0
                  obtain ⟨v0, vs, hvz⟩ : ∃ v0 vs, B.z = v0 :: vs := by cases h : B.z with | nil => exact absurd h hz | cons a l => exact ⟨a, l, rfl⟩
                  have hkd := HG2.out.kind
                  have hr0 : B.k = 2 → Ru.isR v0 = true := fun e => List.all_eq_true.1 (HG2.out.runes e) v0 (by rw [hvz]; exact List.mem_cons_self)
                  obtain ⟨fe, fv⟩ := fill_one hkd hr0 hY
                  obtain ⟨re, rk, rv⟩ := row_one hkd hr0 hY
                  have hcp : B.z.length ≤ cap' ∧ cap' ≤ 9223372036854775807 := by obtain ⟨_, _, e, c1, c2, _⟩ := HV.out; cases e; exact ⟨c1, c2⟩
                  obtain ⟨b2, o2, hbe, hlt2, hcc⟩ := HV.out.cells hz
                  cases hbe
                  have hc0 : W3.cell? ⟨b2, o2, none⟩ = some (.int .i64 v0) := by
                    have := hcc 0 hpos
                    rw [Nat.add_zero] at this
                    refine this.trans ?_
                    simp only [hvz]
                    rfl
                  have HV0 : Hid (∀ W, Below W3.heap.size W3 W → W.cell? ⟨b2, o2, none⟩ = some (.int .i64 v0)) := fun W h => by rw [h.cell hlt2]; exact hc0
                  have HVs : Hid (∀ W, Below W3.heap.size W3 W → RdI W.heap.size W (.slice (some ⟨b2, o2, none⟩) 1 cap') [v0]) := fun W h => ⟨_, cap', rfl, by simp only [List.length_singleton]; omega, hcp.2, fun _ => ⟨b2, o2, rfl, Nat.lt_of_lt_of_le hlt2 h.size, fun j hj => by
                    obtain rfl : j = 0 := by simp at hj; exact hj
                    rw [h.cell hlt2]
                    exact hc0⟩⟩
                  have hcp1 : 1 ≤ cap' := by omega
                  have hcp2 : (1 : Int) ≤ (cap' : Int) := by omega
                  have k6 : ((B.z.length : Int) == 0) = false := by rw [beq_eq_false_iff_ne]; omega
                  have k7 : 0 < B.z.length := hpos
                  have HSc : Hid (∀ W, Calls Tryd.prog 36 #[.int .i64 B.k, .int .i64 v0] W (RetA ⟨B.k, 0, 0, 0, [v0]⟩ W)) := fun W => scalar7_any B.k v0 W
                  have HIy : Hid (∀ W, Calls Tryd.prog 34 #[.int .i64 Y] W (RetA ⟨1, 0, 0, 0, [Y]⟩ W)) := fun W => lint_any Y W
                  have HI1 : Hid (∀ v W, RdI W.heap.size W v [1, Y] → Ru.NilC v → Calls Tryd.prog 35 #[v] W (RetA ⟨1, 1, 2, 0, [1, Y]⟩ W)) := fun v W h h' => ints_two7 1 Y v W h h'
                  have HVe : Hid (∀ v W, RdI W.heap.size W v [v0] → Ru.NilC v → Calls Tryd.prog 37 #[.int .i64 B.k, v] W (RetA ⟨B.k, 1, 1, 0, [v0]⟩ W)) := fun v W h h' => vector7_any B.k [v0] v W h h' (by simp)
                  have HFi : Hid (∀ u v W, Ru.Lay W → RdI W.heap.size W u [Y] → RdI W.heap.size W v [v0] → Calls Tryd.prog 24 #[A5 1 0 0 0 u, A5 B.k 0 0 0 v] W (RetE (vecA B.k (List.replicate Y.toNat v0)) 0 W)) := fun u v W h0 h1 h2 => by
                    have := mfill_any (inA Y) ⟨B.k, 0, 0, 0, [v0]⟩ u v W h0 h1 h2 (by simp [inA]) (by simp)
                    rw [fe, fv] at this
                    exact this
                  have HGr : Hid (∀ u v W, Ru.Lay W → RdI W.heap.size W u [1, Y] → RdI W.heap.size W v [v0] → Calls Tryd.prog 26 #[A5 1 1 2 0 u, A5 B.k 1 1 0 v] W (RetE (gdV (vecA 1 [1, Y]) (vecA B.k [v0])) 0 W)) := fun u v W h0 h1 h2 => by
                    have := mgrid_any (vecA 1 [1, Y]) (vecA B.k [v0]) u v W h0 h1 h2 (by simp [vecA]) (by simp [vecA])
                    rw [re] at this
                    exact this
                  have hgl : (gdV (vecA 1 [1, Y]) (vecA B.k [v0])).z.length ≤ 1000000 := by have := (ck_good rk).len4; omega
                  have HRw : Hid (∀ u W, Ru.Lay W → RdI W.heap.size W u (gdV (vecA 1 [1, Y]) (vecA B.k [v0])).z → Calls Tryd.prog 13 #[A5 (gdV (vecA 1 [1, Y]) (vecA B.k [v0])).k (gdV (vecA 1 [1, Y]) (vecA B.k [v0])).r (gdV (vecA 1 [1, Y]) (vecA B.k [v0])).a (gdV (vecA 1 [1, Y]) (vecA B.k [v0])).b u] W (RetE (vecA B.k (List.replicate Y.toNat v0)) 0 W)) := fun u W h0 h1 => by
                    have := ravel_any (gdV (vecA 1 [1, Y]) (vecA B.k [v0])) u W h0 h1 hgl
                    rw [rk, rv] at this
                    exact this
                  generalize gdV (vecA 1 [1, Y]) (vecA B.k [v0]) = R at HGr HRw
                  obtain ⟨rr1, rr2, rr3, rr4, rr5⟩ := R
                  have hrl : (List.replicate Y.toNat v0).length ≤ 1000000 := by rw [List.length_replicate]; omega
                  generalize List.replicate Y.toNat v0 = rz at HFi HRw hrl
                  have HFi2 : Hid (∀ u v W, Ru.Lay W → RdI W.heap.size W u [Y] → RdI W.heap.size W v [v0] → Calls Tryd.prog 24 #[A5 1 0 0 0 u, A5 B.k 0 0 0 v] W (RetE ⟨B.k, 1, (rz.length : Int), 0, rz⟩ 0 W)) := HFi.out
                  have HRw2 : Hid (∀ u W, Ru.Lay W → RdI W.heap.size W u rr5 → Calls Tryd.prog 13 #[A5 rr1 rr2 rr3 rr4 u] W (RetE ⟨B.k, 1, (rz.length : Int), 0, rz⟩ 0 W)) := HRw.out
                  have HIs := Lib.hid (fun v u W h1 h2 => is_eq ⟨B.k, 1, (rz.length : Int), 0, rz⟩ v u W h1 h2 hrl)
                  clear HFi HRw hgl hrl fe fv re rk rv hcc hc0 hvz hkd hr0 hlt2 hz hpos hcp
                  clear y0 y1 y2 y3 y4 g0 g1 g2 g3 g4 r0 r1 r2 r3 r4
                  have y0 := (HY.out.next HK.out.bel).c0
                  have y1 := (HY.out.next HK.out.bel).c1
                  have y2 := (HY.out.next HK.out.bel).c2
                  have y3 := (HY.out.next HK.out.bel).c3
                  have y4 := (HY.out.next HK.out.bel).c4
                  have r0 := (HK.out.a _ (.head _)).c0
                  have r1 := (HK.out.a _ (.head _)).c1
                  have r2 := (HK.out.a _ (.head _)).c2
                  have r3 := (HK.out.a _ (.head _)).c3
                  have r4 := (HK.out.a _ (.head _)).c4
                  go_wp2_with fail
                  go_cut [18] (fun sp wx => ∃ se, CutE W3 [⟨wq.heap.size, ⟨B.k, 1, (zz.length : Int), 0, zz⟩, (.slice pwq zz.length cwq)⟩, ⟨gg, ⟨B.k, 2, X, Y, zz⟩, (.slice qg zz.length cg)⟩] sp se ⟨B.k, 0, 0, 0, [v0]⟩ 0 wx)
                  case first =>
                    as_aux_lemma =>
                      clear y0 y1 y2 y3 y4 r0 r1 r2 r3 r4
                      have HLt : Hid (∀ g ∈ List.map Bk.g [⟨wq.heap.size, ⟨B.k, 1, (zz.length : Int), 0, zz⟩, (.slice pwq zz.length cwq)⟩, ⟨gg, ⟨B.k, 2, X, Y, zz⟩, (.slice qg zz.length cg)⟩], g < wr.heap.size) := fun g hg => by obtain ⟨c, hc, rfl⟩ := List.mem_map.1 hg; exact HK.out.lt c hc
                      have HAll : Hid (∀ W, Below wr.heap.size wr W → (fun W => Below wr.heap.size wr W ∧ W.cell? ⟨(w.heap.size + 1), 0, none⟩ = some (.int .i64 B.k) ∧ W.cell? ⟨(w.heap.size + 1), 4, none⟩ = some ((.slice (some ⟨b2, o2, none⟩) B.z.length cap')) ∧ W.cell? ⟨b2, o2, none⟩ = some (.int .i64 v0)) W) := fun W h => ⟨h, (HY.out.next (HK.out.next h).bel).c0, (HY.out.next (HK.out.next h).bel).c4, HV0.out _ (HK.out.next h).bel⟩
                      refine wp_region_held_drew (S := (fun W => Below wr.heap.size wr W ∧ W.cell? ⟨(w.heap.size + 1), 0, none⟩ = some (.int .i64 B.k) ∧ W.cell? ⟨(w.heap.size + 1), 4, none⟩ = some ((.slice (some ⟨b2, o2, none⟩) B.z.length cap')) ∧ W.cell? ⟨b2, o2, none⟩ = some (.int .i64 v0))) (by kernel_rfl) ?_ (fun hHeld => ?_)
                      · exact HAll.out _ (Below.refl _ _).drew
                      have HB0 : Hid (Below wr.heap.size wr (World.drew wr)) := (Below.refl _ _).drew
                      generalize World.drew wr = wd at hHeld HB0 ⊢
                      refine wpAnyH_take (i := 0) (v := ?_) rfl (by kernel_rfl) (by kernel_rfl) (by kernel_rfl) (fun _ _ _ h => h) (Or.inl ⟨by rfl, ?_⟩) (by assumption) ?_
                      rotate_left
                      · ((intro w0 hSw); (try dsimp only at hSw); go_simp; (try with_reducible rfl))
                      change wpAnyH _ _ _ _ _ _ _ (Act.put _ (some 180) _) _
                      try simp only [Act.put, List.setIfInBounds_toArray, List.set_cons_zero, List.set_cons_succ]
                      refine wpAnyH_take (i := 1) (v := ?_) rfl (by kernel_rfl) (by kernel_rfl) (by kernel_rfl) (fun _ _ _ h => h) (Or.inl ⟨by rfl, ?_⟩) (by assumption) ?_
                      rotate_left
                      · ((intro w0 hSw); (try dsimp only at hSw); go_simp; (try with_reducible rfl))
                      change wpAnyH _ _ _ _ _ _ _ (Act.put _ (some 181) _) _
                      try simp only [Act.put, List.setIfInBounds_toArray, List.set_cons_zero, List.set_cons_succ]
                      refine wpAnyH_take (i := 2) (v := ?_) rfl (by kernel_rfl) (by kernel_rfl) (by kernel_rfl) (fun _ _ _ h => h) (Or.inl ⟨by rfl, ?_⟩) (by assumption) ?_
                      rotate_left
                      · ((intro w0 hSw); (try dsimp only at hSw); go_simp; (try with_reducible rfl))
                      change wpAnyH _ _ _ _ _ _ _ (Act.put _ (some 182) _) _
                      try simp only [Act.put, List.setIfInBounds_toArray, List.set_cons_zero, List.set_cons_succ]
                      refine wpAnyH_take (i := 3) (v := ?_) rfl (by kernel_rfl) (by kernel_rfl) (by kernel_rfl) (fun _ _ _ h => h) (Or.inl ⟨by rfl, ?_⟩) (by assumption) ?_
                      rotate_left
                      · ((intro w0 hSw); (try dsimp only at hSw); go_simp; (try with_reducible rfl))
                      change wpAnyH _ _ _ _ _ _ _ (Act.put _ (some 183) _) _
                      try simp only [Act.put, List.setIfInBounds_toArray, List.set_cons_zero, List.set_cons_succ]
                      refine wpAnyH_take (i := 4) (v := ?_) rfl (by kernel_rfl) (by kernel_rfl) (by kernel_rfl) (fun _ _ _ h => h) (Or.inl ⟨by rfl, ?_⟩) (by assumption) ?_
                      rotate_left
                      · ((intro w0 hSw); (try dsimp only at hSw); go_simp; (try with_reducible rfl))
                      change wpAnyH _ _ _ _ _ _ _ (Act.put _ (some 184) _) _
                      try simp only [Act.put, List.setIfInBounds_toArray, List.set_cons_zero, List.set_cons_succ]
                      refine wpAnyH_take (i := 5) (v := ?_) rfl (by kernel_rfl) (by kernel_rfl) (by kernel_rfl) (fun _ _ _ h => h) (Or.inl ⟨by rfl, ?_⟩) (by assumption) ?_
                      rotate_left
                      · ((intro w0 hSw); (try dsimp only at hSw); go_simp; (try with_reducible rfl))
                      change wpAnyH _ _ _ _ _ _ _ (Act.put _ (some 185) _) _
                      try simp only [Act.put, List.setIfInBounds_toArray, List.set_cons_zero, List.set_cons_succ]
                      refine wpAnyH_ready (rs := [6, 7]) (by kernel_rfl) (by simp) ?_
                      refine AllReadyH.cons rfl (fun K hK => ?_) (AllReadyH.cons rfl (fun K hK => ?_) (AllReadyH.nil))
                      · go_simp
                        go_at_call 36
                        with_reducible refine (HSc.out _).mono ?_
                        rintro e wn246 ⟨uz247, rfl, hu243, hb244⟩
                        obtain ⟨qz241, cz242, hq248, _, _⟩ := hu243.form
                        have hq2482 : uz247 = (.slice qz241 1 cz242) := hq248
                        subst hq2482
                        clear hq248
                        have HB245 := Lib.hid (HB0.out.trans (hb244.mono HB0.out.size))
                        refine hK.out _ _ ?_ (fun hHeld2 => ?_)
                        · exact HAll.out _ HB245.out
                        clear hK K hHeld
                        have hHeld := hHeld2; clear hHeld2
                        try change wpAnyH _ _ _ _ _ _ _ (Act.put _ (some 186) _) _
                        try dsimp only
                        try simp only [Act.put, List.setIfInBounds_toArray, List.set_cons_zero, List.set_cons_succ]
                        have HX249 : Hid (RdX (List.map Bk.g [⟨wq.heap.size, ⟨B.k, 1, (zz.length : Int), 0, zz⟩, (.slice pwq zz.length cwq)⟩, ⟨gg, ⟨B.k, 2, X, Y, zz⟩, (.slice qg zz.length cg)⟩]) wn246 (.slice qz241 1 cz242) [v0]) := rdN_toX hu243 (fun g mg => Nat.lt_of_lt_of_le (HLt.out g mg) HB0.out.size)
                        have HN250 := Lib.hid hu243.nilC
                        clear hu243 hb244
                        refine wpAnyH_ready (rs := [7]) (by kernel_rfl) (by simp) ?_
                        refine AllReadyH.cons rfl (fun K hK => ?_) (AllReadyH.nil)
                        go_simp
                        refine hK.out _ _ ?_ (fun hHeld2 => ?_)
                        · exact HAll.out _ (HB245.out.trans ((bel1 wn246 _).mono HB245.out.size))
                        clear hK K hHeld
                        have hHeld := hHeld2; clear hHeld2
                        try change wpAnyH _ _ _ _ _ _ _ (Act.put _ (some 18) _) _
                        try simp only [Act.put, List.setIfInBounds_toArray, List.set_cons_zero, List.set_cons_succ]
                        generalize hwx252 : World.alloc wn246 _ = wa251 at hHeld ⊢
                        have HB253 : Hid (Below wr.heap.size wr wa251) := by rw [← hwx252]; exact HB245.out.trans ((bel1 wn246 _).mono HB245.out.size)
                        have Hbx254 : Hid (Below wn246.heap.size wn246 wa251) := by rw [← hwx252]; exact bel1 _ _
                        have HG255 : Hid (R5 wa251 wn246.heap.size 0 0 0 0 (.slice none 0 0)) := by rw [← hwx252]; exact R5.new _ _ _ _ _ _
                        have hge : wr.heap.size ≤ wn246.heap.size := HB245.out.size
                        have HX256 : Hid (RdX (wn246.heap.size :: List.map Bk.g [⟨wq.heap.size, ⟨B.k, 1, (zz.length : Int), 0, zz⟩, (.slice pwq zz.length cwq)⟩, ⟨gg, ⟨B.k, 2, X, Y, zz⟩, (.slice qg zz.length cg)⟩]) wa251 (.slice qz241 1 cz242) [v0]) := (HX249.out.more (Nat.le_refl _)).keep Hbx254.out.size (fun c' _ hc' => Hbx254.out.block c' hc')
                        clear hwx252
                        as_aux_lemma =>
                          refine wpAnyH_ready (rs := [8]) (by kernel_rfl) (by simp) ?_
                          refine AllReadyH.cons rfl (fun K hK => ?_) (AllReadyH.nil)
                          have y0 := HG255.out.c0; have y1 := HG255.out.c1; have y2 := HG255.out.c2; have y3 := HG255.out.c3; have y4 := HG255.out.c4; have f0 := HG255.out.fr 0; have f1 := HG255.out.fr 1; have f2 := HG255.out.fr 2; have f3 := HG255.out.fr 3; have f4 := HG255.out.fr 4; have HS := Lib.hid (HG255.out.set B.k 0 0 0 (.slice qz241 1 cz242)); have z0 := HS.out.c0; have z1 := HS.out.c1; have z2 := HS.out.c2; have z3 := HS.out.c3; have z4 := HS.out.c4
                          go_simp
                          refine hK.out _ _ ?_ (fun hHeld2 => ?_)
                          · exact HAll.out _ (st5_below _ _ _ _ _ hge HB253.out)
                          clear hK K hHeld
                          have hHeld := hHeld2; clear hHeld2
                          try simp only [Act.put, List.setIfInBounds_toArray, List.set_cons_zero, List.set_cons_succ]
                          refine wpAnyH_done (by kernel_rfl) ?_ _
                          go_wp2_with fail
                          go_meet
                          case rel => exact ⟨.int .i64 0, ⟨wn246.heap.size, qz241, cz242, rfl, rfl, HK.out.newAt HB253.out hge HG255.out ⟨B.k, 0, 0, 0, [v0]⟩ HX256.out HN250.out, fun b mb => Nat.lt_of_lt_of_le (HK.out.lt b mb) hge⟩⟩
                      · go_simp
                        refine hK.out _ _ ?_ (fun hHeld2 => ?_)
                        · exact HAll.out _ (HB0.out.trans ((bel1 wd _).mono HB0.out.size))
                        clear hK K hHeld
                        have hHeld := hHeld2; clear hHeld2
                        try change wpAnyH _ _ _ _ _ _ _ (Act.put _ (some 18) _) _
                        try simp only [Act.put, List.setIfInBounds_toArray, List.set_cons_zero, List.set_cons_succ]
                        generalize hwx258 : World.alloc wd _ = wa257 at hHeld ⊢
                        have HB259 : Hid (Below wr.heap.size wr wa257) := by rw [← hwx258]; exact HB0.out.trans ((bel1 wd _).mono HB0.out.size)
                        have Hbx260 : Hid (Below wd.heap.size wd wa257) := by rw [← hwx258]; exact bel1 _ _
                        have HG261 : Hid (R5 wa257 wd.heap.size 0 0 0 0 (.slice none 0 0)) := by rw [← hwx258]; exact R5.new _ _ _ _ _ _
                        have hge : wr.heap.size ≤ wd.heap.size := HB0.out.size
                        clear hwx258
                        refine wpAnyH_ready (rs := [6]) (by kernel_rfl) (by simp) ?_
                        refine AllReadyH.cons rfl (fun K hK => ?_) (AllReadyH.nil)
                        go_simp
                        go_at_call 36
                        with_reducible refine (HSc.out _).mono ?_
                        rintro e wn267 ⟨uz268, rfl, hu264, hb265⟩
                        obtain ⟨qz262, cz263, hq269, _, _⟩ := hu264.form
                        have hq2692 : uz268 = (.slice qz262 1 cz263) := hq269
                        subst hq2692
                        clear hq269
                        have HB266 := Lib.hid (HB259.out.trans (hb265.mono HB259.out.size))
                        refine hK.out _ _ ?_ (fun hHeld2 => ?_)
                        · exact HAll.out _ HB266.out
                        clear hK K hHeld
                        have hHeld := hHeld2; clear hHeld2
                        try change wpAnyH _ _ _ _ _ _ _ (Act.put _ (some 186) _) _
                        try dsimp only
                        try simp only [Act.put, List.setIfInBounds_toArray, List.set_cons_zero, List.set_cons_succ]
                        have HC270 := Lib.hid (HG261.out.next hb265)
                        have HX271 : Hid (RdX (wd.heap.size :: List.map Bk.g [⟨wq.heap.size, ⟨B.k, 1, (zz.length : Int), 0, zz⟩, (.slice pwq zz.length cwq)⟩, ⟨gg, ⟨B.k, 2, X, Y, zz⟩, (.slice qg zz.length cg)⟩]) wn267 (.slice qz262 1 cz263) [v0]) := rdN_toX hu264 (fun g mg => by
                          rcases List.mem_cons.1 mg with rfl | mg
                          · exact HG261.out.lt
                          · exact Nat.lt_of_lt_of_le (HLt.out g mg) HB259.out.size)
                        have HN272 := Lib.hid hu264.nilC
                        clear hu264 hb265
                        as_aux_lemma =>
                          refine wpAnyH_ready (rs := [8]) (by kernel_rfl) (by simp) ?_
                          refine AllReadyH.cons rfl (fun K hK => ?_) (AllReadyH.nil)
                          have y0 := HC270.out.c0; have y1 := HC270.out.c1; have y2 := HC270.out.c2; have y3 := HC270.out.c3; have y4 := HC270.out.c4; have f0 := HC270.out.fr 0; have f1 := HC270.out.fr 1; have f2 := HC270.out.fr 2; have f3 := HC270.out.fr 3; have f4 := HC270.out.fr 4; have HS := Lib.hid (HC270.out.set B.k 0 0 0 (.slice qz262 1 cz263)); have z0 := HS.out.c0; have z1 := HS.out.c1; have z2 := HS.out.c2; have z3 := HS.out.c3; have z4 := HS.out.c4
                          go_simp
                          refine hK.out _ _ ?_ (fun hHeld2 => ?_)
                          · exact HAll.out _ (st5_below _ _ _ _ _ hge HB266.out)
                          clear hK K hHeld
                          have hHeld := hHeld2; clear hHeld2
                          try simp only [Act.put, List.setIfInBounds_toArray, List.set_cons_zero, List.set_cons_succ]
                          refine wpAnyH_done (by kernel_rfl) ?_ _
                          go_wp2_with fail
                          go_meet
                          case rel => exact ⟨.int .i64 0, ⟨wd.heap.size, qz262, cz263, rfl, rfl, HK.out.newAt HB266.out hge HC270.out ⟨B.k, 0, 0, 0, [v0]⟩ HX271.out HN272.out, fun b mb => Nat.lt_of_lt_of_le (HK.out.lt b mb) hge⟩⟩
                  case rest =>
                    obtain ⟨_, hcut⟩ := hcut
                    obtain ⟨gs, qs, cs, rfl, _, hk, hlgs⟩ := hcut
                    have hlgs_r := hlgs _ (.head _)
                    have hlgs_g := hlgs _ (.tail _ (.head _))
                    clear HK hlgs
                    have HK : Hid (KVar W3 [⟨gs, ⟨B.k, 0, 0, 0, [v0]⟩, (.slice qs 1 cs)⟩, ⟨wq.heap.size, ⟨B.k, 1, (zz.length : Int), 0, zz⟩, (.slice pwq zz.length cwq)⟩, ⟨gg, ⟨B.k, 2, X, Y, zz⟩, (.slice qg zz.length cg)⟩] wc) := hk
                    clear hk
                    have y0 := (HY.out.next HK.out.bel).c0
                    have y1 := (HY.out.next HK.out.bel).c1
                    have y2 := (HY.out.next HK.out.bel).c2
                    have y3 := (HY.out.next HK.out.bel).c3
                    have y4 := (HY.out.next HK.out.bel).c4
                    have sc0 := (HK.out.a _ (.head _)).c0
                    have sc1 := (HK.out.a _ (.head _)).c1
                    have sc2 := (HK.out.a _ (.head _)).c2
                    have sc3 := (HK.out.a _ (.head _)).c3
                    have sc4 := (HK.out.a _ (.head _)).c4
                    go_wp2_with fail
                    go_cut [19, 20] (fun sp se wx => CutE W3 [⟨gs, ⟨B.k, 0, 0, 0, [v0]⟩, (.slice qs 1 cs)⟩, ⟨wq.heap.size, ⟨B.k, 1, (zz.length : Int), 0, zz⟩, (.slice pwq zz.length cwq)⟩, ⟨gg, ⟨B.k, 2, X, Y, zz⟩, (.slice qg zz.length cg)⟩] sp se ⟨B.k, 1, (rz.length : Int), 0, rz⟩ 0 wx)
                    case first =>
                      as_aux_lemma =>
                        clear y0 y1 y2 y3 y4 sc0 sc1 sc2 sc3 sc4
                        have HLt : Hid (∀ g ∈ List.map Bk.g [⟨gs, ⟨B.k, 0, 0, 0, [v0]⟩, (.slice qs 1 cs)⟩, ⟨wq.heap.size, ⟨B.k, 1, (zz.length : Int), 0, zz⟩, (.slice pwq zz.length cwq)⟩, ⟨gg, ⟨B.k, 2, X, Y, zz⟩, (.slice qg zz.length cg)⟩], g < wc.heap.size) := fun g hg => by obtain ⟨c, hc, rfl⟩ := List.mem_map.1 hg; exact HK.out.lt c hc
                        have HAll : Hid (∀ W, Below wc.heap.size wc W → (fun W => Below wc.heap.size wc W ∧ W.cell? ⟨gs, 0, none⟩ = some (.int .i64 B.k) ∧ W.cell? ⟨gs, 1, none⟩ = some (.int .i64 0) ∧ W.cell? ⟨gs, 2, none⟩ = some (.int .i64 0) ∧ W.cell? ⟨gs, 3, none⟩ = some (.int .i64 0) ∧ W.cell? ⟨gs, 4, none⟩ = some ((.slice qs 1 cs))) W) := fun W h => ⟨h, ((HK.out.next h).a _ (.head _)).c0, ((HK.out.next h).a _ (.head _)).c1, ((HK.out.next h).a _ (.head _)).c2, ((HK.out.next h).a _ (.head _)).c3, ((HK.out.next h).a _ (.head _)).c4⟩
                        refine wp_region_held_drew (S := (fun W => Below wc.heap.size wc W ∧ W.cell? ⟨gs, 0, none⟩ = some (.int .i64 B.k) ∧ W.cell? ⟨gs, 1, none⟩ = some (.int .i64 0) ∧ W.cell? ⟨gs, 2, none⟩ = some (.int .i64 0) ∧ W.cell? ⟨gs, 3, none⟩ = some (.int .i64 0) ∧ W.cell? ⟨gs, 4, none⟩ = some ((.slice qs 1 cs)))) (by kernel_rfl) ?_ (fun hHeld => ?_)
                        · exact HAll.out _ (Below.refl _ _).drew
                        have HB0 : Hid (Below wc.heap.size wc (World.drew wc)) := (Below.refl _ _).drew
                        generalize World.drew wc = wd at hHeld HB0 ⊢
                        refine wpAnyH_take (i := 0) (v := ?_) rfl (by kernel_rfl) (by kernel_rfl) (by kernel_rfl) (fun _ _ _ h => h) (Or.inl ⟨by rfl, ?_⟩) (by assumption) ?_
                        rotate_left
                        · ((intro w0 hSw); (try dsimp only at hSw); go_simp; (try with_reducible rfl))
                        change wpAnyH _ _ _ _ _ _ _ (Act.put _ (some 188) _) _
                        try simp only [Act.put, List.setIfInBounds_toArray, List.set_cons_zero, List.set_cons_succ]
                        refine wpAnyH_take (i := 2) (v := ?_) rfl (by kernel_rfl) (by kernel_rfl) (by kernel_rfl) (fun _ _ _ h => h) (Or.inl ⟨by rfl, ?_⟩) (by assumption) ?_
                        rotate_left
                        · ((intro w0 hSw); (try dsimp only at hSw); go_simp; (try with_reducible rfl))
                        change wpAnyH _ _ _ _ _ _ _ (Act.put _ (some 190) _) _
                        try simp only [Act.put, List.setIfInBounds_toArray, List.set_cons_zero, List.set_cons_succ]
                        refine wpAnyH_ready (rs := [1, 7]) (by kernel_rfl) (by simp) ?_
                        refine AllReadyH.cons rfl (fun K hK => ?_) (AllReadyH.cons rfl (fun K hK => ?_) (AllReadyH.nil))
                        · go_simp
                          go_at_call 34
                          with_reducible refine (HIy.out _).mono ?_
                          rintro e wn278 ⟨uz279, rfl, hu275, hb276⟩
                          obtain ⟨qz273, cz274, hq280, _, _⟩ := hu275.form
                          have hq2802 : uz279 = (.slice qz273 1 cz274) := hq280
                          subst hq2802
                          clear hq280
                          have HB277 := Lib.hid (HB0.out.trans (hb276.mono HB0.out.size))
                          refine hK.out _ _ ?_ (fun hHeld2 => ?_)
                          · exact HAll.out _ HB277.out
                          clear hK K hHeld
                          have hHeld := hHeld2; clear hHeld2
                          try change wpAnyH _ _ _ _ _ _ _ (Act.put _ (some 189) _) _
                          try dsimp only
                          try simp only [Act.put, List.setIfInBounds_toArray, List.set_cons_zero, List.set_cons_succ]
                          have HU281 := Lib.hid hu275.rd
                          have HU281n := Lib.hid hu275.nilC
                          clear hu275 hb276
                          refine wpAnyH_ready (rs := [3, 7]) (by kernel_rfl) (by simp) ?_
                          refine AllReadyH.cons rfl (fun K hK => ?_) (AllReadyH.cons rfl (fun K hK => ?_) (AllReadyH.nil))
                          · go_simp
                            go_at_call 24
                            with_reducible refine (HFi2.out _ _ _ (HK.out.next HB277.out).lay HU281.out (by with_unfolding_all exact ((HK.out.next HB277.out).r _ (.head _)))).mono ?_
                            rintro e wn287 ⟨uz288, rfl, hu284, hb285⟩
                            obtain ⟨qz282, cz283, hq289, _, _⟩ := hu284.form
                            have hq2892 : uz288 = (.slice qz282 rz.length cz283) := hq289
                            subst hq2892
                            clear hq289
                            have HB286 := Lib.hid (HB277.out.trans (hb285.mono HB277.out.size))
                            refine hK.out _ _ ?_ (fun hHeld2 => ?_)
                            · exact HAll.out _ HB286.out
                            clear hK K hHeld
                            have hHeld := hHeld2; clear hHeld2
                            try change wpAnyH _ _ _ _ _ _ _ (Act.put _ (some 191) _) _
                            try dsimp only
                            try simp only [Act.put, List.setIfInBounds_toArray, List.set_cons_zero, List.set_cons_succ]
                            have HC290 := Lib.hid (HU281.out.next hb285)
                            have HX291 : Hid (RdX (List.map Bk.g [⟨gs, ⟨B.k, 0, 0, 0, [v0]⟩, (.slice qs 1 cs)⟩, ⟨wq.heap.size, ⟨B.k, 1, (zz.length : Int), 0, zz⟩, (.slice pwq zz.length cwq)⟩, ⟨gg, ⟨B.k, 2, X, Y, zz⟩, (.slice qg zz.length cg)⟩]) wn287 (.slice qz282 rz.length cz283) rz) := rdN_toX hu284 (fun g mg => Nat.lt_of_lt_of_le (HLt.out g mg) HB277.out.size)
                            have HN292 := Lib.hid hu284.nilC
                            clear hu284 hb285
                            refine wpAnyH_take (i := 4) (v := ?_) rfl (by kernel_rfl) (by kernel_rfl) (by kernel_rfl) (fun _ _ _ h => h) (Or.inl ⟨by rfl, ?_⟩) (by assumption) ?_
                            rotate_left
                            · ((intro w0 hSw); (try dsimp only at hSw); go_simp; (try with_reducible rfl))
                            change wpAnyH _ _ _ _ _ _ _ (Act.put _ (some 187) _) _
                            try simp only [Act.put, List.setIfInBounds_toArray, List.set_cons_zero, List.set_cons_succ]
                            refine wpAnyH_take (i := 5) (v := ?_) rfl (by kernel_rfl) (by kernel_rfl) (by kernel_rfl) (fun _ _ _ h => h) (Or.inl ⟨by rfl, ?_⟩) (by assumption) ?_
                            rotate_left
                            · ((intro w0 hSw); (try dsimp only at hSw); go_simp; (try with_reducible rfl))
                            change wpAnyH _ _ _ _ _ _ _ (Act.put _ (some 192) _) _
                            try simp only [Act.put, List.setIfInBounds_toArray, List.set_cons_zero, List.set_cons_succ]
                            refine wpAnyH_take (i := 6) (v := ?_) rfl (by kernel_rfl) (by kernel_rfl) (by kernel_rfl) (fun _ _ _ h => h) (Or.inl ⟨by rfl, ?_⟩) (by assumption) ?_
                            rotate_left
                            · ((intro w0 hSw); (try dsimp only at hSw); go_simp; (try with_reducible rfl))
                            change wpAnyH _ _ _ _ _ _ _ (Act.put _ (some 193) _) _
                            try simp only [Act.put, List.setIfInBounds_toArray, List.set_cons_zero, List.set_cons_succ]
                            refine wpAnyH_ready (rs := [7]) (by kernel_rfl) (by simp) ?_
                            refine AllReadyH.cons rfl (fun K hK => ?_) (AllReadyH.nil)
                            go_simp
                            refine hK.out _ _ ?_ (fun hHeld2 => ?_)
                            · exact HAll.out _ (HB286.out.trans ((bel1 wn287 _).mono HB286.out.size))
                            clear hK K hHeld
                            have hHeld := hHeld2; clear hHeld2
                            try change wpAnyH _ _ _ _ _ _ _ (Act.put _ (some 19) _) _
                            try simp only [Act.put, List.setIfInBounds_toArray, List.set_cons_zero, List.set_cons_succ]
                            generalize hwx294 : World.alloc wn287 _ = wa293 at hHeld ⊢
                            have HB295 : Hid (Below wc.heap.size wc wa293) := by rw [← hwx294]; exact HB286.out.trans ((bel1 wn287 _).mono HB286.out.size)
                            have Hbx296 : Hid (Below wn287.heap.size wn287 wa293) := by rw [← hwx294]; exact bel1 _ _
                            have HC297 := Lib.hid (HC290.out.next Hbx296.out)
                            have HG298 : Hid (R5 wa293 wn287.heap.size 0 0 0 0 (.slice none 0 0)) := by rw [← hwx294]; exact R5.new _ _ _ _ _ _
                            have hge : wc.heap.size ≤ wn287.heap.size := HB286.out.size
                            have HX299 : Hid (RdX (wn287.heap.size :: List.map Bk.g [⟨gs, ⟨B.k, 0, 0, 0, [v0]⟩, (.slice qs 1 cs)⟩, ⟨wq.heap.size, ⟨B.k, 1, (zz.length : Int), 0, zz⟩, (.slice pwq zz.length cwq)⟩, ⟨gg, ⟨B.k, 2, X, Y, zz⟩, (.slice qg zz.length cg)⟩]) wa293 (.slice qz282 rz.length cz283) rz) := (HX291.out.more (Nat.le_refl _)).keep Hbx296.out.size (fun c' _ hc' => Hbx296.out.block c' hc')
                            clear hwx294
                            as_aux_lemma =>
                              refine wpAnyH_ready (rs := [8]) (by kernel_rfl) (by simp) ?_
                              refine AllReadyH.cons rfl (fun K hK => ?_) (AllReadyH.nil)
                              have y0 := HG298.out.c0; have y1 := HG298.out.c1; have y2 := HG298.out.c2; have y3 := HG298.out.c3; have y4 := HG298.out.c4; have f0 := HG298.out.fr 0; have f1 := HG298.out.fr 1; have f2 := HG298.out.fr 2; have f3 := HG298.out.fr 3; have f4 := HG298.out.fr 4; have HS := Lib.hid (HG298.out.set B.k 1 (rz.length : Int) 0 (.slice qz282 rz.length cz283)); have z0 := HS.out.c0; have z1 := HS.out.c1; have z2 := HS.out.c2; have z3 := HS.out.c3; have z4 := HS.out.c4
                              go_simp
                              refine hK.out _ _ ?_ (fun hHeld2 => ?_)
                              · exact HAll.out _ (st5_below _ _ _ _ _ hge HB295.out)
                              clear hK K hHeld
                              have hHeld := hHeld2; clear hHeld2
                              try simp only [Act.put, List.setIfInBounds_toArray, List.set_cons_zero, List.set_cons_succ]
                              refine wpAnyH_take (i := 9) (v := ?_) rfl (by kernel_rfl) (by kernel_rfl) (by kernel_rfl) (fun _ _ _ h => h) (Or.inl ⟨by rfl, ?_⟩) (by assumption) ?_
                              rotate_left
                              · ((intro w0 hSw); (try dsimp only at hSw); go_simp; (try with_reducible rfl))
                              change wpAnyH _ _ _ _ _ _ _ (Act.put _ (some 20) _) _
                              try simp only [Act.put, List.setIfInBounds_toArray, List.set_cons_zero, List.set_cons_succ]
                              refine wpAnyH_done (by kernel_rfl) ?_ _
                              go_wp2_with fail
                              go_meet
                              case rel => exact ⟨wn287.heap.size, qz282, cz283, rfl, rfl, HK.out.newAt HB295.out hge HG298.out ⟨B.k, 1, (rz.length : Int), 0, rz⟩ HX299.out HN292.out, fun b mb => Nat.lt_of_lt_of_le (HK.out.lt b mb) hge⟩
                          · go_simp
                            refine hK.out _ _ ?_ (fun hHeld2 => ?_)
                            · exact HAll.out _ (HB277.out.trans ((bel1 wn278 _).mono HB277.out.size))
                            clear hK K hHeld
                            have hHeld := hHeld2; clear hHeld2
                            try change wpAnyH _ _ _ _ _ _ _ (Act.put _ (some 19) _) _
                            try simp only [Act.put, List.setIfInBounds_toArray, List.set_cons_zero, List.set_cons_succ]
                            generalize hwx301 : World.alloc wn278 _ = wa300 at hHeld ⊢
                            have HB302 : Hid (Below wc.heap.size wc wa300) := by rw [← hwx301]; exact HB277.out.trans ((bel1 wn278 _).mono HB277.out.size)
                            have Hbx303 : Hid (Below wn278.heap.size wn278 wa300) := by rw [← hwx301]; exact bel1 _ _
                            have HC304 := Lib.hid (HU281.out.next Hbx303.out)
                            have HG305 : Hid (R5 wa300 wn278.heap.size 0 0 0 0 (.slice none 0 0)) := by rw [← hwx301]; exact R5.new _ _ _ _ _ _
                            have hge : wc.heap.size ≤ wn278.heap.size := HB277.out.size
                            clear hwx301
                            refine wpAnyH_ready (rs := [3]) (by kernel_rfl) (by simp) ?_
                            refine AllReadyH.cons rfl (fun K hK => ?_) (AllReadyH.nil)
                            go_simp
                            go_at_call 24
                            with_reducible refine (HFi2.out _ _ _ (HK.out.next HB302.out).lay HC304.out (by with_unfolding_all exact ((HK.out.next HB302.out).r _ (.head _)))).mono ?_
                            rintro e wn311 ⟨uz312, rfl, hu308, hb309⟩
                            obtain ⟨qz306, cz307, hq313, _, _⟩ := hu308.form
                            have hq3132 : uz312 = (.slice qz306 rz.length cz307) := hq313
                            subst hq3132
                            clear hq313
                            have HB310 := Lib.hid (HB302.out.trans (hb309.mono HB302.out.size))
                            refine hK.out _ _ ?_ (fun hHeld2 => ?_)
                            · exact HAll.out _ HB310.out
                            clear hK K hHeld
                            have hHeld := hHeld2; clear hHeld2
                            try change wpAnyH _ _ _ _ _ _ _ (Act.put _ (some 191) _) _
                            try dsimp only
                            try simp only [Act.put, List.setIfInBounds_toArray, List.set_cons_zero, List.set_cons_succ]
                            have HC314 := Lib.hid (HC304.out.next hb309)
                            have HC315 := Lib.hid (HG305.out.next hb309)
                            have HX316 : Hid (RdX (wn278.heap.size :: List.map Bk.g [⟨gs, ⟨B.k, 0, 0, 0, [v0]⟩, (.slice qs 1 cs)⟩, ⟨wq.heap.size, ⟨B.k, 1, (zz.length : Int), 0, zz⟩, (.slice pwq zz.length cwq)⟩, ⟨gg, ⟨B.k, 2, X, Y, zz⟩, (.slice qg zz.length cg)⟩]) wn311 (.slice qz306 rz.length cz307) rz) := rdN_toX hu308 (fun g mg => by
                              rcases List.mem_cons.1 mg with rfl | mg
                              · exact HG305.out.lt
                              · exact Nat.lt_of_lt_of_le (HLt.out g mg) HB302.out.size)
                            have HN317 := Lib.hid hu308.nilC
                            clear hu308 hb309
                            refine wpAnyH_take (i := 4) (v := ?_) rfl (by kernel_rfl) (by kernel_rfl) (by kernel_rfl) (fun _ _ _ h => h) (Or.inl ⟨by rfl, ?_⟩) (by assumption) ?_
                            rotate_left
                            · ((intro w0 hSw); (try dsimp only at hSw); go_simp; (try with_reducible rfl))
                            change wpAnyH _ _ _ _ _ _ _ (Act.put _ (some 187) _) _
                            try simp only [Act.put, List.setIfInBounds_toArray, List.set_cons_zero, List.set_cons_succ]
                            refine wpAnyH_take (i := 5) (v := ?_) rfl (by kernel_rfl) (by kernel_rfl) (by kernel_rfl) (fun _ _ _ h => h) (Or.inl ⟨by rfl, ?_⟩) (by assumption) ?_
                            rotate_left
                            · ((intro w0 hSw); (try dsimp only at hSw); go_simp; (try with_reducible rfl))
                            change wpAnyH _ _ _ _ _ _ _ (Act.put _ (some 192) _) _
                            try simp only [Act.put, List.setIfInBounds_toArray, List.set_cons_zero, List.set_cons_succ]
                            refine wpAnyH_take (i := 6) (v := ?_) rfl (by kernel_rfl) (by kernel_rfl) (by kernel_rfl) (fun _ _ _ h => h) (Or.inl ⟨by rfl, ?_⟩) (by assumption) ?_
                            rotate_left
                            · ((intro w0 hSw); (try dsimp only at hSw); go_simp; (try with_reducible rfl))
                            change wpAnyH _ _ _ _ _ _ _ (Act.put _ (some 193) _) _
                            try simp only [Act.put, List.setIfInBounds_toArray, List.set_cons_zero, List.set_cons_succ]
                            as_aux_lemma =>
                              refine wpAnyH_ready (rs := [8]) (by kernel_rfl) (by simp) ?_
                              refine AllReadyH.cons rfl (fun K hK => ?_) (AllReadyH.nil)
                              have y0 := HC315.out.c0; have y1 := HC315.out.c1; have y2 := HC315.out.c2; have y3 := HC315.out.c3; have y4 := HC315.out.c4; have f0 := HC315.out.fr 0; have f1 := HC315.out.fr 1; have f2 := HC315.out.fr 2; have f3 := HC315.out.fr 3; have f4 := HC315.out.fr 4; have HS := Lib.hid (HC315.out.set B.k 1 (rz.length : Int) 0 (.slice qz306 rz.length cz307)); have z0 := HS.out.c0; have z1 := HS.out.c1; have z2 := HS.out.c2; have z3 := HS.out.c3; have z4 := HS.out.c4
                              go_simp
                              refine hK.out _ _ ?_ (fun hHeld2 => ?_)
                              · exact HAll.out _ (st5_below _ _ _ _ _ hge HB310.out)
                              clear hK K hHeld
                              have hHeld := hHeld2; clear hHeld2
                              try simp only [Act.put, List.setIfInBounds_toArray, List.set_cons_zero, List.set_cons_succ]
                              refine wpAnyH_take (i := 9) (v := ?_) rfl (by kernel_rfl) (by kernel_rfl) (by kernel_rfl) (fun _ _ _ h => h) (Or.inl ⟨by rfl, ?_⟩) (by assumption) ?_
                              rotate_left
                              · ((intro w0 hSw); (try dsimp only at hSw); go_simp; (try with_reducible rfl))
                              change wpAnyH _ _ _ _ _ _ _ (Act.put _ (some 20) _) _
                              try simp only [Act.put, List.setIfInBounds_toArray, List.set_cons_zero, List.set_cons_succ]
                              refine wpAnyH_done (by kernel_rfl) ?_ _
                              go_wp2_with fail
                              go_meet
                              case rel => exact ⟨wn278.heap.size, qz306, cz307, rfl, rfl, HK.out.newAt HB310.out hge HC315.out ⟨B.k, 1, (rz.length : Int), 0, rz⟩ HX316.out HN317.out, fun b mb => Nat.lt_of_lt_of_le (HK.out.lt b mb) hge⟩
                        · go_simp
                          refine hK.out _ _ ?_ (fun hHeld2 => ?_)
                          · exact HAll.out _ (HB0.out.trans ((bel1 wd _).mono HB0.out.size))
                          clear hK K hHeld
                          have hHeld := hHeld2; clear hHeld2
                          try change wpAnyH _ _ _ _ _ _ _ (Act.put _ (some 19) _) _
                          try simp only [Act.put, List.setIfInBounds_toArray, List.set_cons_zero, List.set_cons_succ]
                          generalize hwx319 : World.alloc wd _ = wa318 at hHeld ⊢
                          have HB320 : Hid (Below wc.heap.size wc wa318) := by rw [← hwx319]; exact HB0.out.trans ((bel1 wd _).mono HB0.out.size)
                          have Hbx321 : Hid (Below wd.heap.size wd wa318) := by rw [← hwx319]; exact bel1 _ _
                          have HG322 : Hid (R5 wa318 wd.heap.size 0 0 0 0 (.slice none 0 0)) := by rw [← hwx319]; exact R5.new _ _ _ _ _ _
                          have hge : wc.heap.size ≤ wd.heap.size := HB0.out.size
                          clear hwx319
                          refine wpAnyH_ready (rs := [1]) (by kernel_rfl) (by simp) ?_
                          refine AllReadyH.cons rfl (fun K hK => ?_) (AllReadyH.nil)
                          go_simp
                          go_at_call 34
                          with_reducible refine (HIy.out _).mono ?_
                          rintro e wn328 ⟨uz329, rfl, hu325, hb326⟩
                          obtain ⟨qz323, cz324, hq330, _, _⟩ := hu325.form
                          have hq3302 : uz329 = (.slice qz323 1 cz324) := hq330
                          subst hq3302
                          clear hq330
                          have HB327 := Lib.hid (HB320.out.trans (hb326.mono HB320.out.size))
                          refine hK.out _ _ ?_ (fun hHeld2 => ?_)
                          · exact HAll.out _ HB327.out
                          clear hK K hHeld
                          have hHeld := hHeld2; clear hHeld2
                          try change wpAnyH _ _ _ _ _ _ _ (Act.put _ (some 189) _) _
                          try dsimp only
                          try simp only [Act.put, List.setIfInBounds_toArray, List.set_cons_zero, List.set_cons_succ]
                          have HC331 := Lib.hid (HG322.out.next hb326)
                          have HU332 := Lib.hid hu325.rd
                          have HU332n := Lib.hid hu325.nilC
                          clear hu325 hb326
                          refine wpAnyH_ready (rs := [3]) (by kernel_rfl) (by simp) ?_
                          refine AllReadyH.cons rfl (fun K hK => ?_) (AllReadyH.nil)
                          go_simp
                          go_at_call 24
                          with_reducible refine (HFi2.out _ _ _ (HK.out.next HB327.out).lay HU332.out (by with_unfolding_all exact ((HK.out.next HB327.out).r _ (.head _)))).mono ?_
                          rintro e wn338 ⟨uz339, rfl, hu335, hb336⟩
                          obtain ⟨qz333, cz334, hq340, _, _⟩ := hu335.form
                          have hq3402 : uz339 = (.slice qz333 rz.length cz334) := hq340
                          subst hq3402
                          clear hq340
                          have HB337 := Lib.hid (HB327.out.trans (hb336.mono HB327.out.size))
                          refine hK.out _ _ ?_ (fun hHeld2 => ?_)
                          · exact HAll.out _ HB337.out
                          clear hK K hHeld
                          have hHeld := hHeld2; clear hHeld2
                          try change wpAnyH _ _ _ _ _ _ _ (Act.put _ (some 191) _) _
                          try dsimp only
                          try simp only [Act.put, List.setIfInBounds_toArray, List.set_cons_zero, List.set_cons_succ]
                          have HC341 := Lib.hid (HC331.out.next hb336)
                          have HC342 := Lib.hid (HU332.out.next hb336)
                          have HX343 : Hid (RdX (wd.heap.size :: List.map Bk.g [⟨gs, ⟨B.k, 0, 0, 0, [v0]⟩, (.slice qs 1 cs)⟩, ⟨wq.heap.size, ⟨B.k, 1, (zz.length : Int), 0, zz⟩, (.slice pwq zz.length cwq)⟩, ⟨gg, ⟨B.k, 2, X, Y, zz⟩, (.slice qg zz.length cg)⟩]) wn338 (.slice qz333 rz.length cz334) rz) := rdN_toX hu335 (fun g mg => by
                            rcases List.mem_cons.1 mg with rfl | mg
                            · exact HC331.out.lt
                            · exact Nat.lt_of_lt_of_le (HLt.out g mg) HB327.out.size)
                          have HN344 := Lib.hid hu335.nilC
                          clear hu335 hb336
                          refine wpAnyH_take (i := 4) (v := ?_) rfl (by kernel_rfl) (by kernel_rfl) (by kernel_rfl) (fun _ _ _ h => h) (Or.inl ⟨by rfl, ?_⟩) (by assumption) ?_
                          rotate_left
                          · ((intro w0 hSw); (try dsimp only at hSw); go_simp; (try with_reducible rfl))
                          change wpAnyH _ _ _ _ _ _ _ (Act.put _ (some 187) _) _
                          try simp only [Act.put, List.setIfInBounds_toArray, List.set_cons_zero, List.set_cons_succ]
                          refine wpAnyH_take (i := 5) (v := ?_) rfl (by kernel_rfl) (by kernel_rfl) (by kernel_rfl) (fun _ _ _ h => h) (Or.inl ⟨by rfl, ?_⟩) (by assumption) ?_
                          rotate_left
                          · ((intro w0 hSw); (try dsimp only at hSw); go_simp; (try with_reducible rfl))
                          change wpAnyH _ _ _ _ _ _ _ (Act.put _ (some 192) _) _
                          try simp only [Act.put, List.setIfInBounds_toArray, List.set_cons_zero, List.set_cons_succ]
                          refine wpAnyH_take (i := 6) (v := ?_) rfl (by kernel_rfl) (by kernel_rfl) (by kernel_rfl) (fun _ _ _ h => h) (Or.inl ⟨by rfl, ?_⟩) (by assumption) ?_
                          rotate_left
                          · ((intro w0 hSw); (try dsimp only at hSw); go_simp; (try with_reducible rfl))
                          change wpAnyH _ _ _ _ _ _ _ (Act.put _ (some 193) _) _
                          try simp only [Act.put, List.setIfInBounds_toArray, List.set_cons_zero, List.set_cons_succ]
                          as_aux_lemma =>
                            refine wpAnyH_ready (rs := [8]) (by kernel_rfl) (by simp) ?_
                            refine AllReadyH.cons rfl (fun K hK => ?_) (AllReadyH.nil)
                            have y0 := HC341.out.c0; have y1 := HC341.out.c1; have y2 := HC341.out.c2; have y3 := HC341.out.c3; have y4 := HC341.out.c4; have f0 := HC341.out.fr 0; have f1 := HC341.out.fr 1; have f2 := HC341.out.fr 2; have f3 := HC341.out.fr 3; have f4 := HC341.out.fr 4; have HS := Lib.hid (HC341.out.set B.k 1 (rz.length : Int) 0 (.slice qz333 rz.length cz334)); have z0 := HS.out.c0; have z1 := HS.out.c1; have z2 := HS.out.c2; have z3 := HS.out.c3; have z4 := HS.out.c4
                            go_simp
                            refine hK.out _ _ ?_ (fun hHeld2 => ?_)
                            · exact HAll.out _ (st5_below _ _ _ _ _ hge HB337.out)
                            clear hK K hHeld
                            have hHeld := hHeld2; clear hHeld2
                            try simp only [Act.put, List.setIfInBounds_toArray, List.set_cons_zero, List.set_cons_succ]
                            refine wpAnyH_take (i := 9) (v := ?_) rfl (by kernel_rfl) (by kernel_rfl) (by kernel_rfl) (fun _ _ _ h => h) (Or.inl ⟨by rfl, ?_⟩) (by assumption) ?_
                            rotate_left
                            · ((intro w0 hSw); (try dsimp only at hSw); go_simp; (try with_reducible rfl))
                            change wpAnyH _ _ _ _ _ _ _ (Act.put _ (some 20) _) _
                            try simp only [Act.put, List.setIfInBounds_toArray, List.set_cons_zero, List.set_cons_succ]
                            refine wpAnyH_done (by kernel_rfl) ?_ _
                            go_wp2_with fail
                            go_meet
                            case rel => exact ⟨wd.heap.size, qz333, cz334, rfl, rfl, HK.out.newAt HB337.out hge HC341.out ⟨B.k, 1, (rz.length : Int), 0, rz⟩ HX343.out HN344.out, fun b mb => Nat.lt_of_lt_of_le (HK.out.lt b mb) hge⟩
                    case rest =>
                      obtain ⟨gf, qf, cf, rfl, rfl, hk, hlgf⟩ := hcut
                      have hlgf_sc := hlgf _ (.head _)
                      have hlgf_r := hlgf _ (.tail _ (.head _))
                      have hlgf_g := hlgf _ (.tail _ (.tail _ (.head _)))
                      clear HK hlgf
                      have HK : Hid (KVar W3 [⟨gf, ⟨B.k, 1, (rz.length : Int), 0, rz⟩, (.slice qf rz.length cf)⟩, ⟨gs, ⟨B.k, 0, 0, 0, [v0]⟩, (.slice qs 1 cs)⟩, ⟨wq.heap.size, ⟨B.k, 1, (zz.length : Int), 0, zz⟩, (.slice pwq zz.length cwq)⟩, ⟨gg, ⟨B.k, 2, X, Y, zz⟩, (.slice qg zz.length cg)⟩] wc) := hk
                      clear hk
                      have y0 := (HY.out.next HK.out.bel).c0
                      have y1 := (HY.out.next HK.out.bel).c1
                      have y2 := (HY.out.next HK.out.bel).c2
                      have y3 := (HY.out.next HK.out.bel).c3
                      have y4 := (HY.out.next HK.out.bel).c4
                      go_wp2_with fail
                      go_cut [21, 22] (fun sp se wx => CutE W3 [⟨gf, ⟨B.k, 1, (rz.length : Int), 0, rz⟩, (.slice qf rz.length cf)⟩, ⟨gs, ⟨B.k, 0, 0, 0, [v0]⟩, (.slice qs 1 cs)⟩, ⟨wq.heap.size, ⟨B.k, 1, (zz.length : Int), 0, zz⟩, (.slice pwq zz.length cwq)⟩, ⟨gg, ⟨B.k, 2, X, Y, zz⟩, (.slice qg zz.length cg)⟩] sp se ⟨rr1, rr2, rr3, rr4, rr5⟩ 0 wx)
                      case first =>
                        as_aux_lemma =>
                          clear y0 y1 y2 y3 y4
                          have HLt : Hid (∀ g ∈ List.map Bk.g [⟨gf, ⟨B.k, 1, (rz.length : Int), 0, rz⟩, (.slice qf rz.length cf)⟩, ⟨gs, ⟨B.k, 0, 0, 0, [v0]⟩, (.slice qs 1 cs)⟩, ⟨wq.heap.size, ⟨B.k, 1, (zz.length : Int), 0, zz⟩, (.slice pwq zz.length cwq)⟩, ⟨gg, ⟨B.k, 2, X, Y, zz⟩, (.slice qg zz.length cg)⟩], g < wc.heap.size) := fun g hg => by obtain ⟨c, hc, rfl⟩ := List.mem_map.1 hg; exact HK.out.lt c hc
                          have HAll : Hid (∀ W, Below wc.heap.size wc W → (fun W => Below wc.heap.size wc W ∧ W.cell? ⟨(w.heap.size + 1), 0, none⟩ = some (.int .i64 B.k) ∧ W.cell? ⟨(w.heap.size + 1), 4, none⟩ = some ((.slice (some ⟨b2, o2, none⟩) B.z.length cap'))) W) := fun W h => ⟨h, (HY.out.next (HK.out.next h).bel).c0, (HY.out.next (HK.out.next h).bel).c4⟩
                          refine wp_region_held_drew (S := (fun W => Below wc.heap.size wc W ∧ W.cell? ⟨(w.heap.size + 1), 0, none⟩ = some (.int .i64 B.k) ∧ W.cell? ⟨(w.heap.size + 1), 4, none⟩ = some ((.slice (some ⟨b2, o2, none⟩) B.z.length cap')))) (by kernel_rfl) ?_ (fun hHeld => ?_)
                          · exact HAll.out _ (Below.refl _ _).drew
                          have HB0 : Hid (Below wc.heap.size wc (World.drew wc)) := (Below.refl _ _).drew
                          generalize World.drew wc = wd at hHeld HB0 ⊢
                          refine wpAnyH_take (i := 0) (v := ?_) rfl (by kernel_rfl) (by kernel_rfl) (by kernel_rfl) (fun _ _ _ h => h) (Or.inl ⟨by rfl, ?_⟩) (by assumption) ?_
                          rotate_left
                          · ((intro w0 hSw); (try dsimp only at hSw); go_simp; (try with_reducible rfl))
                          change wpAnyH _ _ _ _ _ _ _ (Act.put _ (some 195) _) _
                          try simp only [Act.put, List.setIfInBounds_toArray, List.set_cons_zero, List.set_cons_succ]
                          refine wpAnyH_take (i := 3) (v := ?_) rfl (by kernel_rfl) (by kernel_rfl) (by kernel_rfl) (fun _ _ _ h => h) (Or.inl ⟨by rfl, ?_⟩) (by assumption) ?_
                          rotate_left
                          · ((intro w0 hSw); (try dsimp only at hSw); go_simp; (try with_reducible rfl))
                          change wpAnyH _ _ _ _ _ _ _ (Act.put _ (some 198) _) _
                          try simp only [Act.put, List.setIfInBounds_toArray, List.set_cons_zero, List.set_cons_succ]
                          refine wpAnyH_take (i := 4) (v := ?_) rfl (by kernel_rfl) (by kernel_rfl) (by kernel_rfl) (fun _ _ _ h => h) (Or.inl ⟨by rfl, ?_⟩) (by assumption) ?_
                          rotate_left
                          · ((intro w0 hSw); (try dsimp only at hSw); go_simp; (try with_reducible rfl))
                          change wpAnyH _ _ _ _ _ _ _ (Act.put _ (some 199) _) _
                          try simp only [Act.put, List.setIfInBounds_toArray, List.set_cons_zero, List.set_cons_succ]
                          refine wpAnyH_take (i := 5) (v := ?_) rfl (by kernel_rfl) (by kernel_rfl) (by kernel_rfl) (fun _ _ _ h => h) (Or.inl ⟨by rfl, ?_⟩) (by assumption) ?_
                          rotate_left
                          · ((intro w0 hSw); (try dsimp only at hSw); go_simp; (try with_reducible rfl))
                          change wpAnyH _ _ _ _ _ _ _ (Act.put _ (some 200) _) _
                          try simp only [Act.put, List.setIfInBounds_toArray, List.set_cons_zero, List.set_cons_succ]
                          refine wpAnyH_take (i := 6) (v := ?_) rfl (by kernel_rfl) (by kernel_rfl) (by kernel_rfl) (fun _ _ _ h => h) (Or.inl ⟨by rfl, ?_⟩) (by assumption) ?_
                          rotate_left
                          · ((intro w0 hSw); (try dsimp only at hSw); go_simp; (try with_reducible rfl))
                          change wpAnyH _ _ _ _ _ _ _ (Act.put _ (some 201) _) _
                          try simp only [Act.put, List.setIfInBounds_toArray, List.set_cons_zero, List.set_cons_succ]
                          refine wpAnyH_take (i := 7) (v := ?_) rfl (by kernel_rfl) (by kernel_rfl) (by kernel_rfl) (fun _ _ _ h => h) (Or.inl ⟨by rfl, ?_⟩) (by assumption) ?_
                          rotate_left
                          · ((intro w0 hSw); (try dsimp only at hSw); go_simp; (try with_reducible rfl))
                          change wpAnyH _ _ _ _ _ _ _ (Act.put _ (some 202) _) _
                          try simp only [Act.put, List.setIfInBounds_toArray, List.set_cons_zero, List.set_cons_succ]
                          refine wpAnyH_ready (rs := [1, 13]) (by kernel_rfl) (by simp) ?_
                          refine AllReadyH.cons rfl (fun K hK => ?_) (AllReadyH.cons rfl (fun K hK => ?_) (AllReadyH.nil))
                          · go_simp
                            refine hK.out _ _ ?_ (fun hHeld2 => ?_)
                            · exact HAll.out _ (HB0.out.trans ((bel1 wd _).mono HB0.out.size))
                            clear hK K hHeld
                            have hHeld := hHeld2; clear hHeld2
                            try change wpAnyH _ _ _ _ _ _ _ (Act.put _ (some 196) _) _
                            try simp only [Act.put, List.setIfInBounds_toArray, List.set_cons_zero, List.set_cons_succ]
                            generalize hwx346 : World.alloc wd _ = wa345 at hHeld ⊢
                            have HB347 : Hid (Below wc.heap.size wc wa345) := by rw [← hwx346]; exact HB0.out.trans ((bel1 wd _).mono HB0.out.size)
                            have Hbx348 : Hid (Below wd.heap.size wd wa345) := by rw [← hwx346]; exact bel1 _ _
                            have HU349 : Hid (RdI wa345.heap.size wa345 (.slice (some ⟨wd.heap.size, 0, none⟩) 2 2) [1, Y]) := by rw [← hwx346]; exact blk_rd (l := [1, Y]) rfl (by decide) (heap_alloc_last _ _)
                            clear hwx346
                            refine wpAnyH_ready (rs := [2, 13]) (by kernel_rfl) (by simp) ?_
                            refine AllReadyH.cons rfl (fun K hK => ?_) (AllReadyH.cons rfl (fun K hK => ?_) (AllReadyH.nil))
                            · go_simp
                              go_at_call 35
                              with_reducible refine (HI1.out _ _ HU349.out (nil_some _ _ _)).mono ?_
                              rintro e wn355 ⟨uz356, rfl, hu352, hb353⟩
                              obtain ⟨qz350, cz351, hq357, _, _⟩ := hu352.form
                              have hq3572 : uz356 = (.slice qz350 2 cz351) := hq357
                              subst hq3572
                              clear hq357
                              have HB354 := Lib.hid (HB347.out.trans (hb353.mono HB347.out.size))
                              refine hK.out _ _ ?_ (fun hHeld2 => ?_)
                              · exact HAll.out _ HB354.out
                              clear hK K hHeld
                              have hHeld := hHeld2; clear hHeld2
                              try change wpAnyH _ _ _ _ _ _ _ (Act.put _ (some 197) _) _
                              try dsimp only
                              try simp only [Act.put, List.setIfInBounds_toArray, List.set_cons_zero, List.set_cons_succ]
                              have HC358 := Lib.hid (HU349.out.next hb353)
                              have HU359 := Lib.hid hu352.rd
                              have HU359n := Lib.hid hu352.nilC
                              clear hu352 hb353
                              refine wpAnyH_ready (rs := [8, 13]) (by kernel_rfl) (by simp) ?_
                              refine AllReadyH.cons rfl (fun K hK => ?_) (AllReadyH.cons rfl (fun K hK => ?_) (AllReadyH.nil))
                              · go_simp
                                go_at_call 37
                                with_reducible refine (HVe.out _ _ (HVs.out _ (HK.out.next HB354.out).bel) (nil_some _ _ _)).mono ?_
                                rintro e wn365 ⟨uz366, rfl, hu362, hb363⟩
                                obtain ⟨qz360, cz361, hq367, _, _⟩ := hu362.form
                                have hq3672 : uz366 = (.slice qz360 1 cz361) := hq367
                                subst hq3672
                                clear hq367
                                have HB364 := Lib.hid (HB354.out.trans (hb363.mono HB354.out.size))
                                refine hK.out _ _ ?_ (fun hHeld2 => ?_)
                                · exact HAll.out _ HB364.out
                                clear hK K hHeld
                                have hHeld := hHeld2; clear hHeld2
                                try change wpAnyH _ _ _ _ _ _ _ (Act.put _ (some 203) _) _
                                try dsimp only
                                try simp only [Act.put, List.setIfInBounds_toArray, List.set_cons_zero, List.set_cons_succ]
                                have HC368 := Lib.hid (HC358.out.next hb363)
                                have HC369 := Lib.hid (HU359.out.next hb363)
                                have HU370 := Lib.hid hu362.rd
                                have HU370n := Lib.hid hu362.nilC
                                clear hu362 hb363
                                refine wpAnyH_ready (rs := [9, 13]) (by kernel_rfl) (by simp) ?_
                                refine AllReadyH.cons rfl (fun K hK => ?_) (AllReadyH.cons rfl (fun K hK => ?_) (AllReadyH.nil))
                                · go_simp
                                  go_at_call 26
                                  with_reducible refine (HGr.out _ _ _ (HK.out.next HB364.out).lay HC369.out HU370.out).mono ?_
                                  rintro e wn376 ⟨uz377, rfl, hu373, hb374⟩
                                  obtain ⟨qz371, cz372, hq378, _, _⟩ := hu373.form
                                  have hq3782 : uz377 = (.slice qz371 rr5.length cz372) := hq378
                                  subst hq3782
                                  clear hq378
                                  have HB375 := Lib.hid (HB364.out.trans (hb374.mono HB364.out.size))
                                  refine hK.out _ _ ?_ (fun hHeld2 => ?_)
                                  · exact HAll.out _ HB375.out
                                  clear hK K hHeld
                                  have hHeld := hHeld2; clear hHeld2
                                  try change wpAnyH _ _ _ _ _ _ _ (Act.put _ (some 204) _) _
                                  try dsimp only
                                  try simp only [Act.put, List.setIfInBounds_toArray, List.set_cons_zero, List.set_cons_succ]
                                  have HC379 := Lib.hid (HC368.out.next hb374)
                                  have HC380 := Lib.hid (HC369.out.next hb374)
                                  have HC381 := Lib.hid (HU370.out.next hb374)
                                  have HX382 : Hid (RdX (List.map Bk.g [⟨gf, ⟨B.k, 1, (rz.length : Int), 0, rz⟩, (.slice qf rz.length cf)⟩, ⟨gs, ⟨B.k, 0, 0, 0, [v0]⟩, (.slice qs 1 cs)⟩, ⟨wq.heap.size, ⟨B.k, 1, (zz.length : Int), 0, zz⟩, (.slice pwq zz.length cwq)⟩, ⟨gg, ⟨B.k, 2, X, Y, zz⟩, (.slice qg zz.length cg)⟩]) wn376 (.slice qz371 rr5.length cz372) rr5) := rdN_toX hu373 (fun g mg => Nat.lt_of_lt_of_le (HLt.out g mg) HB364.out.size)
                                  have HN383 := Lib.hid hu373.nilC
                                  clear hu373 hb374
                                  refine wpAnyH_take (i := 10) (v := ?_) rfl (by kernel_rfl) (by kernel_rfl) (by kernel_rfl) (fun _ _ _ h => h) (Or.inl ⟨by rfl, ?_⟩) (by assumption) ?_
                                  rotate_left
                                  · ((intro w0 hSw); (try dsimp only at hSw); go_simp; (try with_reducible rfl))
                                  change wpAnyH _ _ _ _ _ _ _ (Act.put _ (some 194) _) _
                                  try simp only [Act.put, List.setIfInBounds_toArray, List.set_cons_zero, List.set_cons_succ]
                                  refine wpAnyH_take (i := 11) (v := ?_) rfl (by kernel_rfl) (by kernel_rfl) (by kernel_rfl) (fun _ _ _ h => h) (Or.inl ⟨by rfl, ?_⟩) (by assumption) ?_
                                  rotate_left
                                  · ((intro w0 hSw); (try dsimp only at hSw); go_simp; (try with_reducible rfl))
                                  change wpAnyH _ _ _ _ _ _ _ (Act.put _ (some 205) _) _
                                  try simp only [Act.put, List.setIfInBounds_toArray, List.set_cons_zero, List.set_cons_succ]
                                  refine wpAnyH_take (i := 12) (v := ?_) rfl (by kernel_rfl) (by kernel_rfl) (by kernel_rfl) (fun _ _ _ h => h) (Or.inl ⟨by rfl, ?_⟩) (by assumption) ?_
                                  rotate_left
                                  · ((intro w0 hSw); (try dsimp only at hSw); go_simp; (try with_reducible rfl))
                                  change wpAnyH _ _ _ _ _ _ _ (Act.put _ (some 206) _) _
                                  try simp only [Act.put, List.setIfInBounds_toArray, List.set_cons_zero, List.set_cons_succ]
                                  refine wpAnyH_ready (rs := [13]) (by kernel_rfl) (by simp) ?_
                                  refine AllReadyH.cons rfl (fun K hK => ?_) (AllReadyH.nil)
                                  go_simp
                                  refine hK.out _ _ ?_ (fun hHeld2 => ?_)
                                  · exact HAll.out _ (HB375.out.trans ((bel1 wn376 _).mono HB375.out.size))
                                  clear hK K hHeld
                                  have hHeld := hHeld2; clear hHeld2
                                  try change wpAnyH _ _ _ _ _ _ _ (Act.put _ (some 21) _) _
                                  try simp only [Act.put, List.setIfInBounds_toArray, List.set_cons_zero, List.set_cons_succ]
                                  generalize hwx385 : World.alloc wn376 _ = wa384 at hHeld ⊢
                                  have HB386 : Hid (Below wc.heap.size wc wa384) := by rw [← hwx385]; exact HB375.out.trans ((bel1 wn376 _).mono HB375.out.size)
                                  have Hbx387 : Hid (Below wn376.heap.size wn376 wa384) := by rw [← hwx385]; exact bel1 _ _
                                  have HC388 := Lib.hid (HC379.out.next Hbx387.out)
                                  have HC389 := Lib.hid (HC380.out.next Hbx387.out)
                                  have HC390 := Lib.hid (HC381.out.next Hbx387.out)
                                  have HG391 : Hid (R5 wa384 wn376.heap.size 0 0 0 0 (.slice none 0 0)) := by rw [← hwx385]; exact R5.new _ _ _ _ _ _
                                  have hge : wc.heap.size ≤ wn376.heap.size := HB375.out.size
                                  have HX392 : Hid (RdX (wn376.heap.size :: List.map Bk.g [⟨gf, ⟨B.k, 1, (rz.length : Int), 0, rz⟩, (.slice qf rz.length cf)⟩, ⟨gs, ⟨B.k, 0, 0, 0, [v0]⟩, (.slice qs 1 cs)⟩, ⟨wq.heap.size, ⟨B.k, 1, (zz.length : Int), 0, zz⟩, (.slice pwq zz.length cwq)⟩, ⟨gg, ⟨B.k, 2, X, Y, zz⟩, (.slice qg zz.length cg)⟩]) wa384 (.slice qz371 rr5.length cz372) rr5) := (HX382.out.more (Nat.le_refl _)).keep Hbx387.out.size (fun c' _ hc' => Hbx387.out.block c' hc')
                                  clear hwx385
                                  as_aux_lemma =>
                                    refine wpAnyH_ready (rs := [14]) (by kernel_rfl) (by simp) ?_
                                    refine AllReadyH.cons rfl (fun K hK => ?_) (AllReadyH.nil)
                                    have y0 := HG391.out.c0; have y1 := HG391.out.c1; have y2 := HG391.out.c2; have y3 := HG391.out.c3; have y4 := HG391.out.c4; have f0 := HG391.out.fr 0; have f1 := HG391.out.fr 1; have f2 := HG391.out.fr 2; have f3 := HG391.out.fr 3; have f4 := HG391.out.fr 4; have HS := Lib.hid (HG391.out.set rr1 rr2 rr3 rr4 (.slice qz371 rr5.length cz372)); have z0 := HS.out.c0; have z1 := HS.out.c1; have z2 := HS.out.c2; have z3 := HS.out.c3; have z4 := HS.out.c4
                                    go_simp
                                    refine hK.out _ _ ?_ (fun hHeld2 => ?_)
                                    · exact HAll.out _ (st5_below _ _ _ _ _ hge HB386.out)
                                    clear hK K hHeld
                                    have hHeld := hHeld2; clear hHeld2
                                    try simp only [Act.put, List.setIfInBounds_toArray, List.set_cons_zero, List.set_cons_succ]
                                    refine wpAnyH_take (i := 15) (v := ?_) rfl (by kernel_rfl) (by kernel_rfl) (by kernel_rfl) (fun _ _ _ h => h) (Or.inl ⟨by rfl, ?_⟩) (by assumption) ?_
                                    rotate_left
                                    · ((intro w0 hSw); (try dsimp only at hSw); go_simp; (try with_reducible rfl))
                                    change wpAnyH _ _ _ _ _ _ _ (Act.put _ (some 22) _) _
                                    try simp only [Act.put, List.setIfInBounds_toArray, List.set_cons_zero, List.set_cons_succ]
                                    refine wpAnyH_done (by kernel_rfl) ?_ _
                                    go_wp2_with fail
                                    go_meet
                                    case rel => exact ⟨wn376.heap.size, qz371, cz372, rfl, rfl, HK.out.newAt HB386.out hge HG391.out ⟨rr1, rr2, rr3, rr4, rr5⟩ HX392.out HN383.out, fun b mb => Nat.lt_of_lt_of_le (HK.out.lt b mb) hge⟩
                                · go_simp
                                  refine hK.out _ _ ?_ (fun hHeld2 => ?_)
                                  · exact HAll.out _ (HB364.out.trans ((bel1 wn365 _).mono HB364.out.size))
                                  clear hK K hHeld
                                  have hHeld := hHeld2; clear hHeld2
                                  try change wpAnyH _ _ _ _ _ _ _ (Act.put _ (some 21) _) _
                                  try simp only [Act.put, List.setIfInBounds_toArray, List.set_cons_zero, List.set_cons_succ]
                                  generalize hwx394 : World.alloc wn365 _ = wa393 at hHeld ⊢
                                  have HB395 : Hid (Below wc.heap.size wc wa393) := by rw [← hwx394]; exact HB364.out.trans ((bel1 wn365 _).mono HB364.out.size)
                                  have Hbx396 : Hid (Below wn365.heap.size wn365 wa393) := by rw [← hwx394]; exact bel1 _ _
                                  have HC397 := Lib.hid (HC368.out.next Hbx396.out)
                                  have HC398 := Lib.hid (HC369.out.next Hbx396.out)
                                  have HC399 := Lib.hid (HU370.out.next Hbx396.out)
                                  have HG400 : Hid (R5 wa393 wn365.heap.size 0 0 0 0 (.slice none 0 0)) := by rw [← hwx394]; exact R5.new _ _ _ _ _ _
                                  have hge : wc.heap.size ≤ wn365.heap.size := HB364.out.size
                                  clear hwx394
                                  refine wpAnyH_ready (rs := [9]) (by kernel_rfl) (by simp) ?_
                                  refine AllReadyH.cons rfl (fun K hK => ?_) (AllReadyH.nil)
                                  go_simp
                                  go_at_call 26
                                  with_reducible refine (HGr.out _ _ _ (HK.out.next HB395.out).lay HC398.out HC399.out).mono ?_
                                  rintro e wn406 ⟨uz407, rfl, hu403, hb404⟩
                                  obtain ⟨qz401, cz402, hq408, _, _⟩ := hu403.form
                                  have hq4082 : uz407 = (.slice qz401 rr5.length cz402) := hq408
                                  subst hq4082
                                  clear hq408
                                  have HB405 := Lib.hid (HB395.out.trans (hb404.mono HB395.out.size))
                                  refine hK.out _ _ ?_ (fun hHeld2 => ?_)
                                  · exact HAll.out _ HB405.out
                                  clear hK K hHeld
                                  have hHeld := hHeld2; clear hHeld2
                                  try change wpAnyH _ _ _ _ _ _ _ (Act.put _ (some 204) _) _
                                  try dsimp only
                                  try simp only [Act.put, List.setIfInBounds_toArray, List.set_cons_zero, List.set_cons_succ]
                                  have HC409 := Lib.hid (HC397.out.next hb404)
                                  have HC410 := Lib.hid (HC398.out.next hb404)
                                  have HC411 := Lib.hid (HC399.out.next hb404)
                                  have HC412 := Lib.hid (HG400.out.next hb404)
                                  have HX413 : Hid (RdX (wn365.heap.size :: List.map Bk.g [⟨gf, ⟨B.k, 1, (rz.length : Int), 0, rz⟩, (.slice qf rz.length cf)⟩, ⟨gs, ⟨B.k, 0, 0, 0, [v0]⟩, (.slice qs 1 cs)⟩, ⟨wq.heap.size, ⟨B.k, 1, (zz.length : Int), 0, zz⟩, (.slice pwq zz.length cwq)⟩, ⟨gg, ⟨B.k, 2, X, Y, zz⟩, (.slice qg zz.length cg)⟩]) wn406 (.slice qz401 rr5.length cz402) rr5) := rdN_toX hu403 (fun g mg => by
                                    rcases List.mem_cons.1 mg with rfl | mg
                                    · exact HG400.out.lt
                                    · exact Nat.lt_of_lt_of_le (HLt.out g mg) HB395.out.size)
                                  have HN414 := Lib.hid hu403.nilC
                                  clear hu403 hb404
                                  refine wpAnyH_take (i := 10) (v := ?_) rfl (by kernel_rfl) (by kernel_rfl) (by kernel_rfl) (fun _ _ _ h => h) (Or.inl ⟨by rfl, ?_⟩) (by assumption) ?_
                                  rotate_left
                                  · ((intro w0 hSw); (try dsimp only at hSw); go_simp; (try with_reducible rfl))
                                  change wpAnyH _ _ _ _ _ _ _ (Act.put _ (some 194) _) _
                                  try simp only [Act.put, List.setIfInBounds_toArray, List.set_cons_zero, List.set_cons_succ]
                                  refine wpAnyH_take (i := 11) (v := ?_) rfl (by kernel_rfl) (by kernel_rfl) (by kernel_rfl) (fun _ _ _ h => h) (Or.inl ⟨by rfl, ?_⟩) (by assumption) ?_
                                  rotate_left
                                  · ((intro w0 hSw); (try dsimp only at hSw); go_simp; (try with_reducible rfl))
                                  change wpAnyH _ _ _ _ _ _ _ (Act.put _ (some 205) _) _
                                  try simp only [Act.put, List.setIfInBounds_toArray, List.set_cons_zero, List.set_cons_succ]
                                  refine wpAnyH_take (i := 12) (v := ?_) rfl (by kernel_rfl) (by kernel_rfl) (by kernel_rfl) (fun _ _ _ h => h) (Or.inl ⟨by rfl, ?_⟩) (by assumption) ?_
                                  rotate_left
                                  · ((intro w0 hSw); (try dsimp only at hSw); go_simp; (try with_reducible rfl))
                                  change wpAnyH _ _ _ _ _ _ _ (Act.put _ (some 206) _) _
                                  try simp only [Act.put, List.setIfInBounds_toArray, List.set_cons_zero, List.set_cons_succ]
                                  as_aux_lemma =>
                                    refine wpAnyH_ready (rs := [14]) (by kernel_rfl) (by simp) ?_
                                    refine AllReadyH.cons rfl (fun K hK => ?_) (AllReadyH.nil)
                                    have y0 := HC412.out.c0; have y1 := HC412.out.c1; have y2 := HC412.out.c2; have y3 := HC412.out.c3; have y4 := HC412.out.c4; have f0 := HC412.out.fr 0; have f1 := HC412.out.fr 1; have f2 := HC412.out.fr 2; have f3 := HC412.out.fr 3; have f4 := HC412.out.fr 4; have HS := Lib.hid (HC412.out.set rr1 rr2 rr3 rr4 (.slice qz401 rr5.length cz402)); have z0 := HS.out.c0; have z1 := HS.out.c1; have z2 := HS.out.c2; have z3 := HS.out.c3; have z4 := HS.out.c4
                                    go_simp
                                    refine hK.out _ _ ?_ (fun hHeld2 => ?_)
                                    · exact HAll.out _ (st5_below _ _ _ _ _ hge HB405.out)
                                    clear hK K hHeld
                                    have hHeld := hHeld2; clear hHeld2
                                    try simp only [Act.put, List.setIfInBounds_toArray, List.set_cons_zero, List.set_cons_succ]
                                    refine wpAnyH_take (i := 15) (v := ?_) rfl (by kernel_rfl) (by kernel_rfl) (by kernel_rfl) (fun _ _ _ h => h) (Or.inl ⟨by rfl, ?_⟩) (by assumption) ?_
                                    rotate_left
                                    · ((intro w0 hSw); (try dsimp only at hSw); go_simp; (try with_reducible rfl))
                                    change wpAnyH _ _ _ _ _ _ _ (Act.put _ (some 22) _) _
                                    try simp only [Act.put, List.setIfInBounds_toArray, List.set_cons_zero, List.set_cons_succ]
                                    refine wpAnyH_done (by kernel_rfl) ?_ _
                                    go_wp2_with fail
                                    go_meet
                                    case rel => exact ⟨wn365.heap.size, qz401, cz402, rfl, rfl, HK.out.newAt HB405.out hge HC412.out ⟨rr1, rr2, rr3, rr4, rr5⟩ HX413.out HN414.out, fun b mb => Nat.lt_of_lt_of_le (HK.out.lt b mb) hge⟩
                              · go_simp
                                refine hK.out _ _ ?_ (fun hHeld2 => ?_)
                                · exact HAll.out _ (HB354.out.trans ((bel1 wn355 _).mono HB354.out.size))
                                clear hK K hHeld
                                have hHeld := hHeld2; clear hHeld2
                                try change wpAnyH _ _ _ _ _ _ _ (Act.put _ (some 21) _) _
                                try simp only [Act.put, List.setIfInBounds_toArray, List.set_cons_zero, List.set_cons_succ]
                                generalize hwx416 : World.alloc wn355 _ = wa415 at hHeld ⊢
                                have HB417 : Hid (Below wc.heap.size wc wa415) := by rw [← hwx416]; exact HB354.out.trans ((bel1 wn355 _).mono HB354.out.size)
                                have Hbx418 : Hid (Below wn355.heap.size wn355 wa415) := by rw [← hwx416]; exact bel1 _ _
                                have HC419 := Lib.hid (HC358.out.next Hbx418.out)
                                have HC420 := Lib.hid (HU359.out.next Hbx418.out)
                                have HG421 : Hid (R5 wa415 wn355.heap.size 0 0 0 0 (.slice none 0 0)) := by rw [← hwx416]; exact R5.new _ _ _ _ _ _
                                have hge : wc.heap.size ≤ wn355.heap.size := HB354.out.size
                                clear hwx416
                                refine wpAnyH_ready (rs := [8]) (by kernel_rfl) (by simp) ?_
                                refine AllReadyH.cons rfl (fun K hK => ?_) (AllReadyH.nil)
                                go_simp
                                go_at_call 37
                                with_reducible refine (HVe.out _ _ (HVs.out _ (HK.out.next HB417.out).bel) (nil_some _ _ _)).mono ?_
                                rintro e wn427 ⟨uz428, rfl, hu424, hb425⟩
                                obtain ⟨qz422, cz423, hq429, _, _⟩ := hu424.form
                                have hq4292 : uz428 = (.slice qz422 1 cz423) := hq429
                                subst hq4292
                                clear hq429
                                have HB426 := Lib.hid (HB417.out.trans (hb425.mono HB417.out.size))
                                refine hK.out _ _ ?_ (fun hHeld2 => ?_)
                                · exact HAll.out _ HB426.out
                                clear hK K hHeld
                                have hHeld := hHeld2; clear hHeld2
                                try change wpAnyH _ _ _ _ _ _ _ (Act.put _ (some 203) _) _
                                try dsimp only
                                try simp only [Act.put, List.setIfInBounds_toArray, List.set_cons_zero, List.set_cons_succ]
                                have HC430 := Lib.hid (HC419.out.next hb425)
                                have HC431 := Lib.hid (HC420.out.next hb425)
                                have HC432 := Lib.hid (HG421.out.next hb425)
                                have HU433 := Lib.hid hu424.rd
                                have HU433n := Lib.hid hu424.nilC
                                clear hu424 hb425
                                refine wpAnyH_ready (rs := [9]) (by kernel_rfl) (by simp) ?_
                                refine AllReadyH.cons rfl (fun K hK => ?_) (AllReadyH.nil)
                                go_simp
                                go_at_call 26
                                with_reducible refine (HGr.out _ _ _ (HK.out.next HB426.out).lay HC431.out HU433.out).mono ?_
                                rintro e wn439 ⟨uz440, rfl, hu436, hb437⟩
                                obtain ⟨qz434, cz435, hq441, _, _⟩ := hu436.form
                                have hq4412 : uz440 = (.slice qz434 rr5.length cz435) := hq441
                                subst hq4412
                                clear hq441
                                have HB438 := Lib.hid (HB426.out.trans (hb437.mono HB426.out.size))
                                refine hK.out _ _ ?_ (fun hHeld2 => ?_)
                                · exact HAll.out _ HB438.out
                                clear hK K hHeld
                                have hHeld := hHeld2; clear hHeld2
                                try change wpAnyH _ _ _ _ _ _ _ (Act.put _ (some 204) _) _
                                try dsimp only
                                try simp only [Act.put, List.setIfInBounds_toArray, List.set_cons_zero, List.set_cons_succ]
                                have HC442 := Lib.hid (HC430.out.next hb437)
                                have HC443 := Lib.hid (HC431.out.next hb437)
                                have HC444 := Lib.hid (HC432.out.next hb437)
                                have HC445 := Lib.hid (HU433.out.next hb437)
                                have HX446 : Hid (RdX (wn355.heap.size :: List.map Bk.g [⟨gf, ⟨B.k, 1, (rz.length : Int), 0, rz⟩, (.slice qf rz.length cf)⟩, ⟨gs, ⟨B.k, 0, 0, 0, [v0]⟩, (.slice qs 1 cs)⟩, ⟨wq.heap.size, ⟨B.k, 1, (zz.length : Int), 0, zz⟩, (.slice pwq zz.length cwq)⟩, ⟨gg, ⟨B.k, 2, X, Y, zz⟩, (.slice qg zz.length cg)⟩]) wn439 (.slice qz434 rr5.length cz435) rr5) := rdN_toX hu436 (fun g mg => by
                                  rcases List.mem_cons.1 mg with rfl | mg
                                  · exact HC432.out.lt
                                  · exact Nat.lt_of_lt_of_le (HLt.out g mg) HB426.out.size)
                                have HN447 := Lib.hid hu436.nilC
                                clear hu436 hb437
                                refine wpAnyH_take (i := 10) (v := ?_) rfl (by kernel_rfl) (by kernel_rfl) (by kernel_rfl) (fun _ _ _ h => h) (Or.inl ⟨by rfl, ?_⟩) (by assumption) ?_
                                rotate_left
                                · ((intro w0 hSw); (try dsimp only at hSw); go_simp; (try with_reducible rfl))
                                change wpAnyH _ _ _ _ _ _ _ (Act.put _ (some 194) _) _
                                try simp only [Act.put, List.setIfInBounds_toArray, List.set_cons_zero, List.set_cons_succ]
                                refine wpAnyH_take (i := 11) (v := ?_) rfl (by kernel_rfl) (by kernel_rfl) (by kernel_rfl) (fun _ _ _ h => h) (Or.inl ⟨by rfl, ?_⟩) (by assumption) ?_
                                rotate_left
                                · ((intro w0 hSw); (try dsimp only at hSw); go_simp; (try with_reducible rfl))
                                change wpAnyH _ _ _ _ _ _ _ (Act.put _ (some 205) _) _
                                try simp only [Act.put, List.setIfInBounds_toArray, List.set_cons_zero, List.set_cons_succ]
                                refine wpAnyH_take (i := 12) (v := ?_) rfl (by kernel_rfl) (by kernel_rfl) (by kernel_rfl) (fun _ _ _ h => h) (Or.inl ⟨by rfl, ?_⟩) (by assumption) ?_
                                rotate_left
                                · ((intro w0 hSw); (try dsimp only at hSw); go_simp; (try with_reducible rfl))
                                change wpAnyH _ _ _ _ _ _ _ (Act.put _ (some 206) _) _
                                try simp only [Act.put, List.setIfInBounds_toArray, List.set_cons_zero, List.set_cons_succ]
                                as_aux_lemma =>
                                  refine wpAnyH_ready (rs := [14]) (by kernel_rfl) (by simp) ?_
                                  refine AllReadyH.cons rfl (fun K hK => ?_) (AllReadyH.nil)
                                  have y0 := HC444.out.c0; have y1 := HC444.out.c1; have y2 := HC444.out.c2; have y3 := HC444.out.c3; have y4 := HC444.out.c4; have f0 := HC444.out.fr 0; have f1 := HC444.out.fr 1; have f2 := HC444.out.fr 2; have f3 := HC444.out.fr 3; have f4 := HC444.out.fr 4; have HS := Lib.hid (HC444.out.set rr1 rr2 rr3 rr4 (.slice qz434 rr5.length cz435)); have z0 := HS.out.c0; have z1 := HS.out.c1; have z2 := HS.out.c2; have z3 := HS.out.c3; have z4 := HS.out.c4
                                  go_simp
                                  refine hK.out _ _ ?_ (fun hHeld2 => ?_)
                                  · exact HAll.out _ (st5_below _ _ _ _ _ hge HB438.out)
                                  clear hK K hHeld
                                  have hHeld := hHeld2; clear hHeld2
                                  try simp only [Act.put, List.setIfInBounds_toArray, List.set_cons_zero, List.set_cons_succ]
                                  refine wpAnyH_take (i := 15) (v := ?_) rfl (by kernel_rfl) (by kernel_rfl) (by kernel_rfl) (fun _ _ _ h => h) (Or.inl ⟨by rfl, ?_⟩) (by assumption) ?_
                                  rotate_left
                                  · ((intro w0 hSw); (try dsimp only at hSw); go_simp; (try with_reducible rfl))
                                  change wpAnyH _ _ _ _ _ _ _ (Act.put _ (some 22) _) _
                                  try simp only [Act.put, List.setIfInBounds_toArray, List.set_cons_zero, List.set_cons_succ]
                                  refine wpAnyH_done (by kernel_rfl) ?_ _
                                  go_wp2_with fail
                                  go_meet
                                  case rel => exact ⟨wn355.heap.size, qz434, cz435, rfl, rfl, HK.out.newAt HB438.out hge HC444.out ⟨rr1, rr2, rr3, rr4, rr5⟩ HX446.out HN447.out, fun b mb => Nat.lt_of_lt_of_le (HK.out.lt b mb) hge⟩
                            · go_simp
                              refine hK.out _ _ ?_ (fun hHeld2 => ?_)
                              · exact HAll.out _ (HB347.out.trans ((bel1 wa345 _).mono HB347.out.size))
                              clear hK K hHeld
                              have hHeld := hHeld2; clear hHeld2
                              try change wpAnyH _ _ _ _ _ _ _ (Act.put _ (some 21) _) _
                              try simp only [Act.put, List.setIfInBounds_toArray, List.set_cons_zero, List.set_cons_succ]
                              generalize hwx449 : World.alloc wa345 _ = wa448 at hHeld ⊢
                              have HB450 : Hid (Below wc.heap.size wc wa448) := by rw [← hwx449]; exact HB347.out.trans ((bel1 wa345 _).mono HB347.out.size)
                              have Hbx451 : Hid (Below wa345.heap.size wa345 wa448) := by rw [← hwx449]; exact bel1 _ _
                              have HC452 := Lib.hid (HU349.out.next Hbx451.out)
                              have HG453 : Hid (R5 wa448 wa345.heap.size 0 0 0 0 (.slice none 0 0)) := by rw [← hwx449]; exact R5.new _ _ _ _ _ _
                              have hge : wc.heap.size ≤ wa345.heap.size := HB347.out.size
                              clear hwx449
                              refine wpAnyH_ready (rs := [2]) (by kernel_rfl) (by simp) ?_
                              refine AllReadyH.cons rfl (fun K hK => ?_) (AllReadyH.nil)
                              go_simp
                              go_at_call 35
                              with_reducible refine (HI1.out _ _ HC452.out (nil_some _ _ _)).mono ?_
                              rintro e wn459 ⟨uz460, rfl, hu456, hb457⟩
                              obtain ⟨qz454, cz455, hq461, _, _⟩ := hu456.form
                              have hq4612 : uz460 = (.slice qz454 2 cz455) := hq461
                              subst hq4612
                              clear hq461
                              have HB458 := Lib.hid (HB450.out.trans (hb457.mono HB450.out.size))
                              refine hK.out _ _ ?_ (fun hHeld2 => ?_)
                              · exact HAll.out _ HB458.out
                              clear hK K hHeld
                              have hHeld := hHeld2; clear hHeld2
                              try change wpAnyH _ _ _ _ _ _ _ (Act.put _ (some 197) _) _
                              try dsimp only
                              try simp only [Act.put, List.setIfInBounds_toArray, List.set_cons_zero, List.set_cons_succ]
                              have HC462 := Lib.hid (HC452.out.next hb457)
                              have HC463 := Lib.hid (HG453.out.next hb457)
                              have HU464 := Lib.hid hu456.rd
                              have HU464n := Lib.hid hu456.nilC
                              clear hu456 hb457
                              refine wpAnyH_ready (rs := [8]) (by kernel_rfl) (by simp) ?_
                              refine AllReadyH.cons rfl (fun K hK => ?_) (AllReadyH.nil)
                              go_simp
                              go_at_call 37
                              with_reducible refine (HVe.out _ _ (HVs.out _ (HK.out.next HB458.out).bel) (nil_some _ _ _)).mono ?_
                              rintro e wn470 ⟨uz471, rfl, hu467, hb468⟩
                              obtain ⟨qz465, cz466, hq472, _, _⟩ := hu467.form
                              have hq4722 : uz471 = (.slice qz465 1 cz466) := hq472
                              subst hq4722
                              clear hq472
                              have HB469 := Lib.hid (HB458.out.trans (hb468.mono HB458.out.size))
                              refine hK.out _ _ ?_ (fun hHeld2 => ?_)
                              · exact HAll.out _ HB469.out
                              clear hK K hHeld
                              have hHeld := hHeld2; clear hHeld2
                              try change wpAnyH _ _ _ _ _ _ _ (Act.put _ (some 203) _) _
                              try dsimp only
                              try simp only [Act.put, List.setIfInBounds_toArray, List.set_cons_zero, List.set_cons_succ]
                              have HC473 := Lib.hid (HC462.out.next hb468)
                              have HC474 := Lib.hid (HC463.out.next hb468)
                              have HC475 := Lib.hid (HU464.out.next hb468)
                              have HU476 := Lib.hid hu467.rd
                              have HU476n := Lib.hid hu467.nilC
                              clear hu467 hb468
                              refine wpAnyH_ready (rs := [9]) (by kernel_rfl) (by simp) ?_
                              refine AllReadyH.cons rfl (fun K hK => ?_) (AllReadyH.nil)
                              go_simp
                              go_at_call 26
                              with_reducible refine (HGr.out _ _ _ (HK.out.next HB469.out).lay HC475.out HU476.out).mono ?_
                              rintro e wn482 ⟨uz483, rfl, hu479, hb480⟩
                              obtain ⟨qz477, cz478, hq484, _, _⟩ := hu479.form
                              have hq4842 : uz483 = (.slice qz477 rr5.length cz478) := hq484
                              subst hq4842
                              clear hq484
                              have HB481 := Lib.hid (HB469.out.trans (hb480.mono HB469.out.size))
                              refine hK.out _ _ ?_ (fun hHeld2 => ?_)
                              · exact HAll.out _ HB481.out
                              clear hK K hHeld
                              have hHeld := hHeld2; clear hHeld2
                              try change wpAnyH _ _ _ _ _ _ _ (Act.put _ (some 204) _) _
                              try dsimp only
                              try simp only [Act.put, List.setIfInBounds_toArray, List.set_cons_zero, List.set_cons_succ]
                              have HC485 := Lib.hid (HC473.out.next hb480)
                              have HC486 := Lib.hid (HC474.out.next hb480)
                              have HC487 := Lib.hid (HC475.out.next hb480)
                              have HC488 := Lib.hid (HU476.out.next hb480)
                              have HX489 : Hid (RdX (wa345.heap.size :: List.map Bk.g [⟨gf, ⟨B.k, 1, (rz.length : Int), 0, rz⟩, (.slice qf rz.length cf)⟩, ⟨gs, ⟨B.k, 0, 0, 0, [v0]⟩, (.slice qs 1 cs)⟩, ⟨wq.heap.size, ⟨B.k, 1, (zz.length : Int), 0, zz⟩, (.slice pwq zz.length cwq)⟩, ⟨gg, ⟨B.k, 2, X, Y, zz⟩, (.slice qg zz.length cg)⟩]) wn482 (.slice qz477 rr5.length cz478) rr5) := rdN_toX hu479 (fun g mg => by
                                rcases List.mem_cons.1 mg with rfl | mg
                                · exact HC474.out.lt
                                · exact Nat.lt_of_lt_of_le (HLt.out g mg) HB469.out.size)
                              have HN490 := Lib.hid hu479.nilC
                              clear hu479 hb480
                              refine wpAnyH_take (i := 10) (v := ?_) rfl (by kernel_rfl) (by kernel_rfl) (by kernel_rfl) (fun _ _ _ h => h) (Or.inl ⟨by rfl, ?_⟩) (by assumption) ?_
                              rotate_left
                              · ((intro w0 hSw); (try dsimp only at hSw); go_simp; (try with_reducible rfl))
                              change wpAnyH _ _ _ _ _ _ _ (Act.put _ (some 194) _) _
                              try simp only [Act.put, List.setIfInBounds_toArray, List.set_cons_zero, List.set_cons_succ]
                              refine wpAnyH_take (i := 11) (v := ?_) rfl (by kernel_rfl) (by kernel_rfl) (by kernel_rfl) (fun _ _ _ h => h) (Or.inl ⟨by rfl, ?_⟩) (by assumption) ?_
                              rotate_left
                              · ((intro w0 hSw); (try dsimp only at hSw); go_simp; (try with_reducible rfl))
                              change wpAnyH _ _ _ _ _ _ _ (Act.put _ (some 205) _) _
                              try simp only [Act.put, List.setIfInBounds_toArray, List.set_cons_zero, List.set_cons_succ]
                              refine wpAnyH_take (i := 12) (v := ?_) rfl (by kernel_rfl) (by kernel_rfl) (by kernel_rfl) (fun _ _ _ h => h) (Or.inl ⟨by rfl, ?_⟩) (by assumption) ?_
                              rotate_left
                              · ((intro w0 hSw); (try dsimp only at hSw); go_simp; (try with_reducible rfl))
                              change wpAnyH _ _ _ _ _ _ _ (Act.put _ (some 206) _) _
                              try simp only [Act.put, List.setIfInBounds_toArray, List.set_cons_zero, List.set_cons_succ]
                              as_aux_lemma =>
                                refine wpAnyH_ready (rs := [14]) (by kernel_rfl) (by simp) ?_
                                refine AllReadyH.cons rfl (fun K hK => ?_) (AllReadyH.nil)
                                have y0 := HC486.out.c0; have y1 := HC486.out.c1; have y2 := HC486.out.c2; have y3 := HC486.out.c3; have y4 := HC486.out.c4; have f0 := HC486.out.fr 0; have f1 := HC486.out.fr 1; have f2 := HC486.out.fr 2; have f3 := HC486.out.fr 3; have f4 := HC486.out.fr 4; have HS := Lib.hid (HC486.out.set rr1 rr2 rr3 rr4 (.slice qz477 rr5.length cz478)); have z0 := HS.out.c0; have z1 := HS.out.c1; have z2 := HS.out.c2; have z3 := HS.out.c3; have z4 := HS.out.c4
                                go_simp
                                refine hK.out _ _ ?_ (fun hHeld2 => ?_)
                                · exact HAll.out _ (st5_below _ _ _ _ _ hge HB481.out)
                                clear hK K hHeld
                                have hHeld := hHeld2; clear hHeld2
                                try simp only [Act.put, List.setIfInBounds_toArray, List.set_cons_zero, List.set_cons_succ]
                                refine wpAnyH_take (i := 15) (v := ?_) rfl (by kernel_rfl) (by kernel_rfl) (by kernel_rfl) (fun _ _ _ h => h) (Or.inl ⟨by rfl, ?_⟩) (by assumption) ?_
                                rotate_left
                                · ((intro w0 hSw); (try dsimp only at hSw); go_simp; (try with_reducible rfl))
                                change wpAnyH _ _ _ _ _ _ _ (Act.put _ (some 22) _) _
                                try simp only [Act.put, List.setIfInBounds_toArray, List.set_cons_zero, List.set_cons_succ]
                                refine wpAnyH_done (by kernel_rfl) ?_ _
                                go_wp2_with fail
                                go_meet
                                case rel => exact ⟨wa345.heap.size, qz477, cz478, rfl, rfl, HK.out.newAt HB481.out hge HC486.out ⟨rr1, rr2, rr3, rr4, rr5⟩ HX489.out HN490.out, fun b mb => Nat.lt_of_lt_of_le (HK.out.lt b mb) hge⟩
                          · go_simp
                            refine hK.out _ _ ?_ (fun hHeld2 => ?_)
                            · exact HAll.out _ (HB0.out.trans ((bel1 wd _).mono HB0.out.size))
                            clear hK K hHeld
                            have hHeld := hHeld2; clear hHeld2
                            try change wpAnyH _ _ _ _ _ _ _ (Act.put _ (some 21) _) _
                            try simp only [Act.put, List.setIfInBounds_toArray, List.set_cons_zero, List.set_cons_succ]
                            generalize hwx492 : World.alloc wd _ = wa491 at hHeld ⊢
                            have HB493 : Hid (Below wc.heap.size wc wa491) := by rw [← hwx492]; exact HB0.out.trans ((bel1 wd _).mono HB0.out.size)
                            have Hbx494 : Hid (Below wd.heap.size wd wa491) := by rw [← hwx492]; exact bel1 _ _
                            have HG495 : Hid (R5 wa491 wd.heap.size 0 0 0 0 (.slice none 0 0)) := by rw [← hwx492]; exact R5.new _ _ _ _ _ _
                            have hge : wc.heap.size ≤ wd.heap.size := HB0.out.size
                            clear hwx492
                            refine wpAnyH_ready (rs := [1]) (by kernel_rfl) (by simp) ?_
                            refine AllReadyH.cons rfl (fun K hK => ?_) (AllReadyH.nil)
                            go_simp
                            refine hK.out _ _ ?_ (fun hHeld2 => ?_)
                            · exact HAll.out _ (HB493.out.trans ((bel1 wa491 _).mono HB493.out.size))
                            clear hK K hHeld
                            have hHeld := hHeld2; clear hHeld2
                            try change wpAnyH _ _ _ _ _ _ _ (Act.put _ (some 196) _) _
                            try simp only [Act.put, List.setIfInBounds_toArray, List.set_cons_zero, List.set_cons_succ]
                            generalize hwx497 : World.alloc wa491 _ = wa496 at hHeld ⊢
                            have HB498 : Hid (Below wc.heap.size wc wa496) := by rw [← hwx497]; exact HB493.out.trans ((bel1 wa491 _).mono HB493.out.size)
                            have Hbx499 : Hid (Below wa491.heap.size wa491 wa496) := by rw [← hwx497]; exact bel1 _ _
                            have HC500 := Lib.hid (HG495.out.next Hbx499.out)
                            have HU501 : Hid (RdI wa496.heap.size wa496 (.slice (some ⟨wa491.heap.size, 0, none⟩) 2 2) [1, Y]) := by rw [← hwx497]; exact blk_rd (l := [1, Y]) rfl (by decide) (heap_alloc_last _ _)
                            clear hwx497
                            refine wpAnyH_ready (rs := [2]) (by kernel_rfl) (by simp) ?_
                            refine AllReadyH.cons rfl (fun K hK => ?_) (AllReadyH.nil)
                            go_simp
                            go_at_call 35
                            with_reducible refine (HI1.out _ _ HU501.out (nil_some _ _ _)).mono ?_
                            rintro e wn507 ⟨uz508, rfl, hu504, hb505⟩
                            obtain ⟨qz502, cz503, hq509, _, _⟩ := hu504.form
                            have hq5092 : uz508 = (.slice qz502 2 cz503) := hq509
                            subst hq5092
                            clear hq509
                            have HB506 := Lib.hid (HB498.out.trans (hb505.mono HB498.out.size))
                            refine hK.out _ _ ?_ (fun hHeld2 => ?_)
                            · exact HAll.out _ HB506.out
                            clear hK K hHeld
                            have hHeld := hHeld2; clear hHeld2
                            try change wpAnyH _ _ _ _ _ _ _ (Act.put _ (some 197) _) _
                            try dsimp only
                            try simp only [Act.put, List.setIfInBounds_toArray, List.set_cons_zero, List.set_cons_succ]
                            have HC510 := Lib.hid (HC500.out.next hb505)
                            have HC511 := Lib.hid (HU501.out.next hb505)
                            have HU512 := Lib.hid hu504.rd
                            have HU512n := Lib.hid hu504.nilC
                            clear hu504 hb505
                            refine wpAnyH_ready (rs := [8]) (by kernel_rfl) (by simp) ?_
                            refine AllReadyH.cons rfl (fun K hK => ?_) (AllReadyH.nil)
                            go_simp
                            go_at_call 37
                            with_reducible refine (HVe.out _ _ (HVs.out _ (HK.out.next HB506.out).bel) (nil_some _ _ _)).mono ?_
                            rintro e wn518 ⟨uz519, rfl, hu515, hb516⟩
                            obtain ⟨qz513, cz514, hq520, _, _⟩ := hu515.form
                            have hq5202 : uz519 = (.slice qz513 1 cz514) := hq520
                            subst hq5202
                            clear hq520
                            have HB517 := Lib.hid (HB506.out.trans (hb516.mono HB506.out.size))
                            refine hK.out _ _ ?_ (fun hHeld2 => ?_)
                            · exact HAll.out _ HB517.out
                            clear hK K hHeld
                            have hHeld := hHeld2; clear hHeld2
                            try change wpAnyH _ _ _ _ _ _ _ (Act.put _ (some 203) _) _
                            try dsimp only
                            try simp only [Act.put, List.setIfInBounds_toArray, List.set_cons_zero, List.set_cons_succ]
                            have HC521 := Lib.hid (HC510.out.next hb516)
                            have HC522 := Lib.hid (HC511.out.next hb516)
                            have HC523 := Lib.hid (HU512.out.next hb516)
                            have HU524 := Lib.hid hu515.rd
                            have HU524n := Lib.hid hu515.nilC
                            clear hu515 hb516
                            refine wpAnyH_ready (rs := [9]) (by kernel_rfl) (by simp) ?_
                            refine AllReadyH.cons rfl (fun K hK => ?_) (AllReadyH.nil)
                            go_simp
                            go_at_call 26
                            with_reducible refine (HGr.out _ _ _ (HK.out.next HB517.out).lay HC523.out HU524.out).mono ?_
                            rintro e wn530 ⟨uz531, rfl, hu527, hb528⟩
                            obtain ⟨qz525, cz526, hq532, _, _⟩ := hu527.form
                            have hq5322 : uz531 = (.slice qz525 rr5.length cz526) := hq532
                            subst hq5322
                            clear hq532
                            have HB529 := Lib.hid (HB517.out.trans (hb528.mono HB517.out.size))
                            refine hK.out _ _ ?_ (fun hHeld2 => ?_)
                            · exact HAll.out _ HB529.out
                            clear hK K hHeld
                            have hHeld := hHeld2; clear hHeld2
                            try change wpAnyH _ _ _ _ _ _ _ (Act.put _ (some 204) _) _
                            try dsimp only
                            try simp only [Act.put, List.setIfInBounds_toArray, List.set_cons_zero, List.set_cons_succ]
                            have HC533 := Lib.hid (HC521.out.next hb528)
                            have HC534 := Lib.hid (HC522.out.next hb528)
                            have HC535 := Lib.hid (HC523.out.next hb528)
                            have HC536 := Lib.hid (HU524.out.next hb528)
                            have HX537 : Hid (RdX (wd.heap.size :: List.map Bk.g [⟨gf, ⟨B.k, 1, (rz.length : Int), 0, rz⟩, (.slice qf rz.length cf)⟩, ⟨gs, ⟨B.k, 0, 0, 0, [v0]⟩, (.slice qs 1 cs)⟩, ⟨wq.heap.size, ⟨B.k, 1, (zz.length : Int), 0, zz⟩, (.slice pwq zz.length cwq)⟩, ⟨gg, ⟨B.k, 2, X, Y, zz⟩, (.slice qg zz.length cg)⟩]) wn530 (.slice qz525 rr5.length cz526) rr5) := rdN_toX hu527 (fun g mg => by
                              rcases List.mem_cons.1 mg with rfl | mg
                              · exact HC521.out.lt
                              · exact Nat.lt_of_lt_of_le (HLt.out g mg) HB517.out.size)
                            have HN538 := Lib.hid hu527.nilC
                            clear hu527 hb528
                            refine wpAnyH_take (i := 10) (v := ?_) rfl (by kernel_rfl) (by kernel_rfl) (by kernel_rfl) (fun _ _ _ h => h) (Or.inl ⟨by rfl, ?_⟩) (by assumption) ?_
                            rotate_left
                            · ((intro w0 hSw); (try dsimp only at hSw); go_simp; (try with_reducible rfl))
                            change wpAnyH _ _ _ _ _ _ _ (Act.put _ (some 194) _) _
                            try simp only [Act.put, List.setIfInBounds_toArray, List.set_cons_zero, List.set_cons_succ]
                            refine wpAnyH_take (i := 11) (v := ?_) rfl (by kernel_rfl) (by kernel_rfl) (by kernel_rfl) (fun _ _ _ h => h) (Or.inl ⟨by rfl, ?_⟩) (by assumption) ?_
                            rotate_left
                            · ((intro w0 hSw); (try dsimp only at hSw); go_simp; (try with_reducible rfl))
                            change wpAnyH _ _ _ _ _ _ _ (Act.put _ (some 205) _) _
                            try simp only [Act.put, List.setIfInBounds_toArray, List.set_cons_zero, List.set_cons_succ]
                            refine wpAnyH_take (i := 12) (v := ?_) rfl (by kernel_rfl) (by kernel_rfl) (by kernel_rfl) (fun _ _ _ h => h) (Or.inl ⟨by rfl, ?_⟩) (by assumption) ?_
                            rotate_left
                            · ((intro w0 hSw); (try dsimp only at hSw); go_simp; (try with_reducible rfl))
                            change wpAnyH _ _ _ _ _ _ _ (Act.put _ (some 206) _) _
                            try simp only [Act.put, List.setIfInBounds_toArray, List.set_cons_zero, List.set_cons_succ]
                            as_aux_lemma =>
                              refine wpAnyH_ready (rs := [14]) (by kernel_rfl) (by simp) ?_
                              refine AllReadyH.cons rfl (fun K hK => ?_) (AllReadyH.nil)
                              have y0 := HC533.out.c0; have y1 := HC533.out.c1; have y2 := HC533.out.c2; have y3 := HC533.out.c3; have y4 := HC533.out.c4; have f0 := HC533.out.fr 0; have f1 := HC533.out.fr 1; have f2 := HC533.out.fr 2; have f3 := HC533.out.fr 3; have f4 := HC533.out.fr 4; have HS := Lib.hid (HC533.out.set rr1 rr2 rr3 rr4 (.slice qz525 rr5.length cz526)); have z0 := HS.out.c0; have z1 := HS.out.c1; have z2 := HS.out.c2; have z3 := HS.out.c3; have z4 := HS.out.c4
                              go_simp
                              refine hK.out _ _ ?_ (fun hHeld2 => ?_)
                              · exact HAll.out _ (st5_below _ _ _ _ _ hge HB529.out)
                              clear hK K hHeld
                              have hHeld := hHeld2; clear hHeld2
                              try simp only [Act.put, List.setIfInBounds_toArray, List.set_cons_zero, List.set_cons_succ]
                              refine wpAnyH_take (i := 15) (v := ?_) rfl (by kernel_rfl) (by kernel_rfl) (by kernel_rfl) (fun _ _ _ h => h) (Or.inl ⟨by rfl, ?_⟩) (by assumption) ?_
                              rotate_left
                              · ((intro w0 hSw); (try dsimp only at hSw); go_simp; (try with_reducible rfl))
                              change wpAnyH _ _ _ _ _ _ _ (Act.put _ (some 22) _) _
                              try simp only [Act.put, List.setIfInBounds_toArray, List.set_cons_zero, List.set_cons_succ]
                              refine wpAnyH_done (by kernel_rfl) ?_ _
                              go_wp2_with fail
                              go_meet
                              case rel => exact ⟨wd.heap.size, qz525, cz526, rfl, rfl, HK.out.newAt HB529.out hge HC533.out ⟨rr1, rr2, rr3, rr4, rr5⟩ HX537.out HN538.out, fun b mb => Nat.lt_of_lt_of_le (HK.out.lt b mb) hge⟩
                      case rest =>
                        obtain ⟨gr, qr, cr, rfl, rfl, hk, hlgr⟩ := hcut
                        have hlgr_fa := hlgr _ (.head _)
                        have hlgr_sc := hlgr _ (.tail _ (.head _))
                        have hlgr_r := hlgr _ (.tail _ (.tail _ (.head _)))
                        have hlgr_g := hlgr _ (.tail _ (.tail _ (.tail _ (.head _))))
                        clear HK hlgr
                        have HK : Hid (KVar W3 [⟨gr, ⟨rr1, rr2, rr3, rr4, rr5⟩, (.slice qr rr5.length cr)⟩, ⟨gf, ⟨B.k, 1, (rz.length : Int), 0, rz⟩, (.slice qf rz.length cf)⟩, ⟨gs, ⟨B.k, 0, 0, 0, [v0]⟩, (.slice qs 1 cs)⟩, ⟨wq.heap.size, ⟨B.k, 1, (zz.length : Int), 0, zz⟩, (.slice pwq zz.length cwq)⟩, ⟨gg, ⟨B.k, 2, X, Y, zz⟩, (.slice qg zz.length cg)⟩] wc) := hk
                        clear hk
                        have fa0 := (HK.out.a _ (.tail _ (.head _))).c0
                        have fa1 := (HK.out.a _ (.tail _ (.head _))).c1
                        have fa2 := (HK.out.a _ (.tail _ (.head _))).c2
                        have fa3 := (HK.out.a _ (.tail _ (.head _))).c3
                        have fa4 := (HK.out.a _ (.tail _ (.head _))).c4
                        have ro0 := (HK.out.a _ (.head _)).c0
                        have ro1 := (HK.out.a _ (.head _)).c1
                        have ro2 := (HK.out.a _ (.head _)).c2
                        have ro3 := (HK.out.a _ (.head _)).c3
                        have ro4 := (HK.out.a _ (.head _)).c4
                        as_aux_lemma =>
                          go_wp2_with (first
                            | (go_at_call 13; (with_reducible refine (HRw2.out _ _ (by with_unfolding_all exact HK.out.lay) (by with_unfolding_all exact (HK.out.r _ (.head _)))).mono ?_); rintro e wb ⟨uwb, rfl, hu, hb⟩; obtain ⟨pwb, cwb, hpwb, _, _⟩ := hu.form; have hqwb : uwb = (.slice pwb rz.length cwb) := hpwb; subst hqwb; clear hpwb; have hltrobb : gr < wb.heap.size := Nat.lt_of_lt_of_le (HK.out.lt _ (.head _)) hb.size; have hltfabb : gf < wb.heap.size := Nat.lt_of_lt_of_le (HK.out.lt _ (.tail _ (.head _))) hb.size; have hltscbb : gs < wb.heap.size := Nat.lt_of_lt_of_le (HK.out.lt _ (.tail _ (.tail _ (.head _)))) hb.size; have hltrbb : wq.heap.size < wb.heap.size := Nat.lt_of_lt_of_le (HK.out.lt _ (.tail _ (.tail _ (.tail _ (.head _))))) hb.size; have hltgbb : gg < wb.heap.size := Nat.lt_of_lt_of_le (HK.out.lt _ (.tail _ (.tail _ (.tail _ (.tail _ (.head _)))))) hb.size; have HK2 := Lib.hid (HK.out.res hb ⟨B.k, 1, (rz.length : Int), 0, rz⟩ hu); clear HK fa0 fa1 fa2 fa3 fa4 ro0 ro1 ro2 ro3 ro4; have HK := HK2; clear HK2; clear hb hu; have fa0 := (HK.out.a _ (.tail _ (.tail _ (.head _)))).c0; have fa1 := (HK.out.a _ (.tail _ (.tail _ (.head _)))).c1; have fa2 := (HK.out.a _ (.tail _ (.tail _ (.head _)))).c2; have fa3 := (HK.out.a _ (.tail _ (.tail _ (.head _)))).c3; have fa4 := (HK.out.a _ (.tail _ (.tail _ (.head _)))).c4; have ro0 := (HK.out.a _ (.tail _ (.head _))).c0; have ro1 := (HK.out.a _ (.tail _ (.head _))).c1; have ro2 := (HK.out.a _ (.tail _ (.head _))).c2; have ro3 := (HK.out.a _ (.tail _ (.head _))).c3; have ro4 := (HK.out.a _ (.tail _ (.head _))).c4; have bb0 := (HK.out.a _ (.head _)).c0; have bb1 := (HK.out.a _ (.head _)).c1; have bb2 := (HK.out.a _ (.head _)).c2; have bb3 := (HK.out.a _ (.head _)).c3; have bb4 := (HK.out.a _ (.head _)).c4)
                            | (go_at_call 32; (with_reducible refine (HIs.out _ _ _ (by with_unfolding_all exact (HK.out.r _ (.head _))) (by with_unfolding_all exact (HK.out.r _ (.tail _ (.tail _ (.head _)))))).mono ?_); rintro e wz ⟨rfl, hb⟩; have HK2 := Lib.hid (HK.out.next hb); clear HK fa0 fa1 fa2 fa3 fa4 ro0 ro1 ro2 ro3 ro4 bb0 bb1 bb2 bb3 bb4; have HK := HK2; clear HK2; clear hb; have fa0 := (HK.out.a _ (.tail _ (.tail _ (.head _)))).c0; have fa1 := (HK.out.a _ (.tail _ (.tail _ (.head _)))).c1; have fa2 := (HK.out.a _ (.tail _ (.tail _ (.head _)))).c2; have fa3 := (HK.out.a _ (.tail _ (.tail _ (.head _)))).c3; have fa4 := (HK.out.a _ (.tail _ (.tail _ (.head _)))).c4; have ro0 := (HK.out.a _ (.tail _ (.head _))).c0; have ro1 := (HK.out.a _ (.tail _ (.head _))).c1; have ro2 := (HK.out.a _ (.tail _ (.head _))).c2; have ro3 := (HK.out.a _ (.tail _ (.head _))).c3; have ro4 := (HK.out.a _ (.tail _ (.head _))).c4; have bb0 := (HK.out.a _ (.head _)).c0; have bb1 := (HK.out.a _ (.head _)).c1; have bb2 := (HK.out.a _ (.head _)).c2; have bb3 := (HK.out.a _ (.head _)).c3; have bb4 := (HK.out.a _ (.head _)).c4)
                            | (go_at_call 12; (with_reducible refine (HAw.out _ (by with_unfolding_all exact HK.out.lay)).mono ?_); rintro e wz ⟨rfl, hb⟩; have HK2 := Lib.hid (HK.out.next hb); clear HK fa0 fa1 fa2 fa3 fa4 ro0 ro1 ro2 ro3 ro4 bb0 bb1 bb2 bb3 bb4; have HK := HK2; clear HK2; clear hb; have fa0 := (HK.out.a _ (.tail _ (.tail _ (.head _)))).c0; have fa1 := (HK.out.a _ (.tail _ (.tail _ (.head _)))).c1; have fa2 := (HK.out.a _ (.tail _ (.tail _ (.head _)))).c2; have fa3 := (HK.out.a _ (.tail _ (.tail _ (.head _)))).c3; have fa4 := (HK.out.a _ (.tail _ (.tail _ (.head _)))).c4; have ro0 := (HK.out.a _ (.tail _ (.head _))).c0; have ro1 := (HK.out.a _ (.tail _ (.head _))).c1; have ro2 := (HK.out.a _ (.tail _ (.head _))).c2; have ro3 := (HK.out.a _ (.tail _ (.head _))).c3; have ro4 := (HK.out.a _ (.tail _ (.head _))).c4; have bb0 := (HK.out.a _ (.head _)).c0; have bb1 := (HK.out.a _ (.head _)).c1; have bb2 := (HK.out.a _ (.head _)).c2; have bb3 := (HK.out.a _ (.head _)).c3; have bb4 := (HK.out.a _ (.head _)).c4)
                            | fail)
                          go_ret
                          exact ⟨rfl, HB3.out.trans (HK.out.bel.mono HB3.out.size)⟩
              | succ g2 =>
                as_aux_lemma =>
                  have hjz : (j : Int) < (zz.length : Int) := by omega
                  have hj : j < zz.length := by omega
                  have hwi : IntKind.i64.wrap ((j : Int) + 1) = (j : Int) + 1 := by rw [IntKind.wrap_i64]; omega
                  have hne2 : ¬ (B.z = []) := fun h => by have := HZ0.out h; have := HLen.out; omega
                  have hpos : 0 < B.z.length := List.length_pos_iff.2 hne2
                  obtain ⟨s, hs⟩ : ∃ s, j % B.z.length = s := ⟨_, rfl⟩
                  have hsl : s < B.z.length := by rw [← hs]; exact Nat.mod_lt _ hpos
                  obtain ⟨b2, o2, hbe, _, hcc⟩ := (HV.out.next HK.out.bel).cells hne2
                  cases hbe
                  have xv := hcc s hsl
                  obtain ⟨b4, o4, hbe, _, hcd⟩ := (HK.out.r _ (.head _)).cells (show zz ≠ [] from fun h => by rw [h] at hj; exact absurd hj (Nat.not_lt_zero _))
                  cases hbe
                  have xr := hcd j hj
                  have hvr : zz[j] = (B.z)[s] := by have := HEl.out j hj; rw [hs, List.getD_eq_getElem?_getD, List.getD_eq_getElem?_getD, List.getElem?_eq_getElem hj, List.getElem?_eq_getElem hsl] at this; exact this
                  rw [hvr] at xr
                  clear hvr hcc hcd
                  generalize (B.z)[s] = c at xv xr
                  have hs1 : (s : Int) < (B.z.length : Int) := by omega
                  have hmod : (j : Int) % (B.z.length : Int) = (s : Int) := by rw [← Int.natCast_emod, hs]
                  have htm : Int.tmod (j : Int) (B.z.length : Int) = (s : Int) := by rw [Int.tmod_eq_emod_of_nonneg (by omega), hmod]
                  have hws : IntKind.i64.wrap (s : Int) = (s : Int) := by rw [IntKind.wrap_i64]; omega
                  have hne : ((B.z.length : Int) == 0) = false := by rw [beq_eq_false_iff_ne]; omega
                  have hmn : j % B.z.length = s := hs
                  clear hpos hs hsl HRv
                  go_wp2_with fail
                  go_quiet (fail)
                  go_wp2_with fail
                  go_roundg g2
                  case measure => omega
                  case rel => exact ⟨j + 1, by omega, by go_num, HK.out.next (drewN_below _ _)⟩
end Go.Proofs.YtbeoigmaieiigaaDoor
