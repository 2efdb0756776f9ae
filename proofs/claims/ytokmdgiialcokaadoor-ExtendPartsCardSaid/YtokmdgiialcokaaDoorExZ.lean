/- The law Parts of extend. -/
import Derived.Test.YtokmdgiialcokaaDoorExZa
import Derived.Test.YtokmdgiialcokaaDoorExL
import Derived.Test.YtokmdgiialcokaaDoorExR
import Derived.Deep.DeepCutAuto
namespace Go.Proofs.YtokmdgiialcokaaDoor
open Go.RowKit

/-- What a region leaves that lays a variable and stores a result into it. -/
def CutE (w : World) (l : List Bk) (sp se : Value) (T : Ar) (E : Int) (W : World) : Prop :=
  ∃ g q c, sp = .pointer (some ⟨g, 0, none⟩) ∧ se = .int .i64 E ∧ KVar w (⟨g, T, .slice q T.z.length c⟩ :: l) W ∧ ∀ b ∈ l, b.g < g
/-- A block of an array and a place. -/
def RCut (w : World) (g : Nat) (k r a b : Int) (v : Value) (n : Int) : Prop := w.heap[g]? = some (.cells #[.int .i64 k, .int .i64 r, .int .i64 a, .int .i64 b, v, .int .u16 n] 40 (0, 0))
theorem RCut.c5 {w : World} {g : Nat} {k r a b : Int} {v : Value} {n : Int} (h : RCut w g k r a b v n) : w.cell? ⟨g, 5, none⟩ = some (.int .u16 n) := by unfold RCut at h; simp [World.cell?, h]
theorem RCut.next {w w' : World} {g : Nat} {k r a b : Int} {v : Value} {n : Int} (h : RCut w g k r a b v n) (hb : Below w.heap.size w w') : RCut w' g k r a b v n := (hb.block g (Array.getElem?_eq_some_iff.1 h).1).trans h
theorem RCut.new (w : World) (k r a b : Int) (v : Value) (n : Int) : RCut (w.alloc (.cells #[.int .i64 k, .int .i64 r, .int .i64 a, .int .i64 b, v, .int .u16 n] 40)) w.heap.size k r a b v n := heap_alloc_last w _

set_option maxRecDepth 100000 in
set_option maxHeartbeats 64000000 in
theorem lawParts10_any (p : Int) (A B : Ar) (at' : Int) (v u : Value) (w : World) (hw : Ru.Lay w) (hv : RdI w.heap.size w v A.z) (hu : RdI w.heap.size w u B.z) (hn : Ru.NilC v) (hn' : Ru.NilC u) (h64 : in64 A.z) (h64' : in64 B.z) (hat : 0 ≤ at' ∧ at' ≤ 65535) (haw : ∀ W, Ru.Lay W → Calls Tryd.prog 15 #[] W fun e w' => e = .returned (.bool true) ∧ Below W.heap.size W w') :
    Calls Tryd.prog 4 #[.int .i64 p, A5 A.k A.r A.a A.b v, .agg #[.int .i64 B.k, .int .i64 B.r, .int .i64 B.a, .int .i64 B.b, u, .int .u16 at']] w fun e w' => e = .returned (.bool true) ∧ Below w.heap.size w w' := by
  have HF1 := Lib.hid (fun W h => far7_any A v W h)
  have HF2 := Lib.hid (fun W h => far7_any B u W h)
  have HAw := Lib.hid haw
  clear haw
  have s1 : (w.alloc (.cells #[.int .i64 A.k, .int .i64 A.r, .int .i64 A.a, .int .i64 A.b, v] 25)).heap.size = w.heap.size + 1 := by simp
  have s2 : ((w.alloc (.cells #[.int .i64 A.k, .int .i64 A.r, .int .i64 A.a, .int .i64 A.b, v] 25)).alloc (.cells #[.int .i64 B.k, .int .i64 B.r, .int .i64 B.a, .int .i64 B.b, u, .int .u16 at'] 40)).heap.size = w.heap.size + 1 + 1 := by simp
  have HK : Hid (KVar w [⟨w.heap.size + 1 + 1, B, u⟩, ⟨w.heap.size, A, v⟩] (((w.alloc (.cells #[.int .i64 A.k, .int .i64 A.r, .int .i64 A.a, .int .i64 A.b, v] 25)).alloc (.cells #[.int .i64 B.k, .int .i64 B.r, .int .i64 B.a, .int .i64 B.b, u, .int .u16 at'] 40)).alloc (.cells #[.int .i64 B.k, .int .i64 B.r, .int .i64 B.a, .int .i64 B.b, u] 25))) := by
    have h := (((KVar.start w hw).arg A hv hn).next (bel1 _ (.cells #[.int .i64 B.k, .int .i64 B.r, .int .i64 B.a, .int .i64 B.b, u, .int .u16 at'] 40))).arg B hu hn'
    rw [s2] at h
    exact h
  have HC : Hid (RCut (((w.alloc (.cells #[.int .i64 A.k, .int .i64 A.r, .int .i64 A.a, .int .i64 A.b, v] 25)).alloc (.cells #[.int .i64 B.k, .int .i64 B.r, .int .i64 B.a, .int .i64 B.b, u, .int .u16 at'] 40)).alloc (.cells #[.int .i64 B.k, .int .i64 B.r, .int .i64 B.a, .int .i64 B.b, u] 25)) (w.heap.size + 1) B.k B.r B.a B.b u at') := by
    have h := RCut.new (w.alloc (.cells #[.int .i64 A.k, .int .i64 A.r, .int .i64 A.a, .int .i64 A.b, v] 25)) B.k B.r B.a B.b u at'
    rw [s1] at h
    exact h.next (bel1 _ _)
  have HI := Lib.hid h64
  have HJ := Lib.hid h64'
  have HNv := Lib.hid hn
  have HNu := Lib.hid hn'
  obtain ⟨q, cap, rfl, hcp1, hcp2, _⟩ := hv
  obtain ⟨q', cap', rfl, hcp3, hcp4, _⟩ := hu
  have HCap := Lib.hid (And.intro (And.intro hcp1 hcp2) (And.intro hcp3 hcp4))
  clear hw hn hn' h64 h64' s1 s2 hcp1 hcp2 hcp3 hcp4
  have x0 := (HK.out.a _ (.tail _ (.head _))).c0
  have x1 := (HK.out.a _ (.tail _ (.head _))).c1
  have x2 := (HK.out.a _ (.tail _ (.head _))).c2
  have x3 := (HK.out.a _ (.tail _ (.head _))).c3
  have x4 := (HK.out.a _ (.tail _ (.head _))).c4
  have b0 := (HK.out.a _ (.head _)).c0
  have b1 := (HK.out.a _ (.head _)).c1
  have b2 := (HK.out.a _ (.head _)).c2
  have b3 := (HK.out.a _ (.head _)).c3
  have b4 := (HK.out.a _ (.head _)).c4
  by_cases hf : 405 < A.z.length
  · rw [decide_eq_true hf] at HF1
    clear hf
    as_aux_lemma =>
      go_enter Tryd.func4, Tryd.ntmps4
      go_wp2_with (first
        | (go_at_call 13; (with_reducible refine (HF1.out _ (by with_unfolding_all exact (HK.out.r _ (.tail _ (.head _))))).mono ?_); rintro e wz ⟨rfl, hb⟩; have HK2 := Lib.hid (HK.out.next hb); clear HK x0 x1 x2 x3 x4 b0 b1 b2 b3 b4; have HK := HK2; clear HK2; have HC2 := Lib.hid (HC.out.next hb); clear HC hb; have HC := HC2; clear HC2; have q5 := HC.out.c5; have x0 := (HK.out.a _ (.tail _ (.head _))).c0; have x1 := (HK.out.a _ (.tail _ (.head _))).c1; have x2 := (HK.out.a _ (.tail _ (.head _))).c2; have x3 := (HK.out.a _ (.tail _ (.head _))).c3; have x4 := (HK.out.a _ (.tail _ (.head _))).c4; have b0 := (HK.out.a _ (.head _)).c0; have b1 := (HK.out.a _ (.head _)).c1; have b2 := (HK.out.a _ (.head _)).c2; have b3 := (HK.out.a _ (.head _)).c3; have b4 := (HK.out.a _ (.head _)).c4)
        | (go_at_call 15; (with_reducible refine (HAw.out _ (by with_unfolding_all exact HK.out.lay)).mono ?_); rintro e wz ⟨rfl, hb⟩; have HK2 := Lib.hid (HK.out.next hb); clear HK x0 x1 x2 x3 x4 b0 b1 b2 b3 b4; have HK := HK2; clear HK2; clear hb; have x0 := (HK.out.a _ (.tail _ (.head _))).c0; have x1 := (HK.out.a _ (.tail _ (.head _))).c1; have x2 := (HK.out.a _ (.tail _ (.head _))).c2; have x3 := (HK.out.a _ (.tail _ (.head _))).c3; have x4 := (HK.out.a _ (.tail _ (.head _))).c4; have b0 := (HK.out.a _ (.head _)).c0; have b1 := (HK.out.a _ (.head _)).c1; have b2 := (HK.out.a _ (.head _)).c2; have b3 := (HK.out.a _ (.head _)).c3; have b4 := (HK.out.a _ (.head _)).c4) | fail)
      go_ret
      exact ⟨rfl, HK.out.bel⟩
  rw [decide_eq_false hf] at HF1
  by_cases hg : 405 < B.z.length
  · rw [decide_eq_true hg] at HF2
    clear hf hg
    as_aux_lemma =>
      go_enter Tryd.func4, Tryd.ntmps4
      go_wp2_with (first
        | (go_at_call 13; (with_reducible refine (HF1.out _ (by with_unfolding_all exact (HK.out.r _ (.tail _ (.head _))))).mono ?_); rintro e wz ⟨rfl, hb⟩; have HK2 := Lib.hid (HK.out.next hb); clear HK x0 x1 x2 x3 x4 b0 b1 b2 b3 b4; have HK := HK2; clear HK2; have HC2 := Lib.hid (HC.out.next hb); clear HC hb; have HC := HC2; clear HC2; have q5 := HC.out.c5; have x0 := (HK.out.a _ (.tail _ (.head _))).c0; have x1 := (HK.out.a _ (.tail _ (.head _))).c1; have x2 := (HK.out.a _ (.tail _ (.head _))).c2; have x3 := (HK.out.a _ (.tail _ (.head _))).c3; have x4 := (HK.out.a _ (.tail _ (.head _))).c4; have b0 := (HK.out.a _ (.head _)).c0; have b1 := (HK.out.a _ (.head _)).c1; have b2 := (HK.out.a _ (.head _)).c2; have b3 := (HK.out.a _ (.head _)).c3; have b4 := (HK.out.a _ (.head _)).c4)
        | (go_at_call 13; (with_reducible refine (HF2.out _ (by with_unfolding_all exact (HK.out.r _ (.head _)))).mono ?_); rintro e wz ⟨rfl, hb⟩; have HK2 := Lib.hid (HK.out.next hb); clear HK x0 x1 x2 x3 x4 b0 b1 b2 b3 b4; have HK := HK2; clear HK2; have HC2 := Lib.hid (HC.out.next hb); clear HC hb; have HC := HC2; clear HC2; have q5 := HC.out.c5; have x0 := (HK.out.a _ (.tail _ (.head _))).c0; have x1 := (HK.out.a _ (.tail _ (.head _))).c1; have x2 := (HK.out.a _ (.tail _ (.head _))).c2; have x3 := (HK.out.a _ (.tail _ (.head _))).c3; have x4 := (HK.out.a _ (.tail _ (.head _))).c4; have b0 := (HK.out.a _ (.head _)).c0; have b1 := (HK.out.a _ (.head _)).c1; have b2 := (HK.out.a _ (.head _)).c2; have b3 := (HK.out.a _ (.head _)).c3; have b4 := (HK.out.a _ (.head _)).c4)
        | (go_at_call 15; (with_reducible refine (HAw.out _ (by with_unfolding_all exact HK.out.lay)).mono ?_); rintro e wz ⟨rfl, hb⟩; have HK2 := Lib.hid (HK.out.next hb); clear HK x0 x1 x2 x3 x4 b0 b1 b2 b3 b4; have HK := HK2; clear HK2; clear hb; have x0 := (HK.out.a _ (.tail _ (.head _))).c0; have x1 := (HK.out.a _ (.tail _ (.head _))).c1; have x2 := (HK.out.a _ (.tail _ (.head _))).c2; have x3 := (HK.out.a _ (.tail _ (.head _))).c3; have x4 := (HK.out.a _ (.tail _ (.head _))).c4; have b0 := (HK.out.a _ (.head _)).c0; have b1 := (HK.out.a _ (.head _)).c1; have b2 := (HK.out.a _ (.head _)).c2; have b3 := (HK.out.a _ (.head _)).c3; have b4 := (HK.out.a _ (.head _)).c4) | fail)
      go_ret
      exact ⟨rfl, HK.out.bel⟩
  rw [decide_eq_false hg] at HF2
  have HC1 := Lib.hid (fun W h => archeck_any A (.slice q A.z.length cap) W h (by omega))
  have HC2' := Lib.hid (fun W h => archeck_any B (.slice q' B.z.length cap') W h (by omega))
  by_cases h1 : ck A ≠ 0
  · generalize ck A = E at HC1 h1
    have k1 : (E != 0) = true := by simpa using h1
    clear hf hg h1
    as_aux_lemma =>
      go_enter Tryd.func4, Tryd.ntmps4
      go_wp2_with (first
        | (go_at_call 13; (with_reducible refine (HF1.out _ (by with_unfolding_all exact (HK.out.r _ (.tail _ (.head _))))).mono ?_); rintro e wz ⟨rfl, hb⟩; have HK2 := Lib.hid (HK.out.next hb); clear HK x0 x1 x2 x3 x4 b0 b1 b2 b3 b4; have HK := HK2; clear HK2; have HC2 := Lib.hid (HC.out.next hb); clear HC hb; have HC := HC2; clear HC2; have q5 := HC.out.c5; have x0 := (HK.out.a _ (.tail _ (.head _))).c0; have x1 := (HK.out.a _ (.tail _ (.head _))).c1; have x2 := (HK.out.a _ (.tail _ (.head _))).c2; have x3 := (HK.out.a _ (.tail _ (.head _))).c3; have x4 := (HK.out.a _ (.tail _ (.head _))).c4; have b0 := (HK.out.a _ (.head _)).c0; have b1 := (HK.out.a _ (.head _)).c1; have b2 := (HK.out.a _ (.head _)).c2; have b3 := (HK.out.a _ (.head _)).c3; have b4 := (HK.out.a _ (.head _)).c4)
        | (go_at_call 13; (with_reducible refine (HF2.out _ (by with_unfolding_all exact (HK.out.r _ (.head _)))).mono ?_); rintro e wz ⟨rfl, hb⟩; have HK2 := Lib.hid (HK.out.next hb); clear HK x0 x1 x2 x3 x4 b0 b1 b2 b3 b4; have HK := HK2; clear HK2; have HC2 := Lib.hid (HC.out.next hb); clear HC hb; have HC := HC2; clear HC2; have q5 := HC.out.c5; have x0 := (HK.out.a _ (.tail _ (.head _))).c0; have x1 := (HK.out.a _ (.tail _ (.head _))).c1; have x2 := (HK.out.a _ (.tail _ (.head _))).c2; have x3 := (HK.out.a _ (.tail _ (.head _))).c3; have x4 := (HK.out.a _ (.tail _ (.head _))).c4; have b0 := (HK.out.a _ (.head _)).c0; have b1 := (HK.out.a _ (.head _)).c1; have b2 := (HK.out.a _ (.head _)).c2; have b3 := (HK.out.a _ (.head _)).c3; have b4 := (HK.out.a _ (.head _)).c4)
        | (go_at_call 14; (with_reducible refine (HC1.out _ (by with_unfolding_all exact (HK.out.r _ (.tail _ (.head _))))).mono ?_); rintro e wz ⟨rfl, hb⟩; have HK2 := Lib.hid (HK.out.next hb); clear HK x0 x1 x2 x3 x4 b0 b1 b2 b3 b4; have HK := HK2; clear HK2; have HC2 := Lib.hid (HC.out.next hb); clear HC hb; have HC := HC2; clear HC2; have q5 := HC.out.c5; have x0 := (HK.out.a _ (.tail _ (.head _))).c0; have x1 := (HK.out.a _ (.tail _ (.head _))).c1; have x2 := (HK.out.a _ (.tail _ (.head _))).c2; have x3 := (HK.out.a _ (.tail _ (.head _))).c3; have x4 := (HK.out.a _ (.tail _ (.head _))).c4; have b0 := (HK.out.a _ (.head _)).c0; have b1 := (HK.out.a _ (.head _)).c1; have b2 := (HK.out.a _ (.head _)).c2; have b3 := (HK.out.a _ (.head _)).c3; have b4 := (HK.out.a _ (.head _)).c4)
        | (go_at_call 15; (with_reducible refine (HAw.out _ (by with_unfolding_all exact HK.out.lay)).mono ?_); rintro e wz ⟨rfl, hb⟩; have HK2 := Lib.hid (HK.out.next hb); clear HK x0 x1 x2 x3 x4 b0 b1 b2 b3 b4; have HK := HK2; clear HK2; clear hb; have x0 := (HK.out.a _ (.tail _ (.head _))).c0; have x1 := (HK.out.a _ (.tail _ (.head _))).c1; have x2 := (HK.out.a _ (.tail _ (.head _))).c2; have x3 := (HK.out.a _ (.tail _ (.head _))).c3; have x4 := (HK.out.a _ (.tail _ (.head _))).c4; have b0 := (HK.out.a _ (.head _)).c0; have b1 := (HK.out.a _ (.head _)).c1; have b2 := (HK.out.a _ (.head _)).c2; have b3 := (HK.out.a _ (.head _)).c3; have b4 := (HK.out.a _ (.head _)).c4) | fail)
      go_ret
      exact ⟨rfl, HK.out.bel⟩
  have h1' : ck A = 0 := by omega
  rw [h1'] at HC1
  by_cases h2 : ck B ≠ 0
  · generalize ck B = E at HC2' h2
    have k1 : (E != 0) = true := by simpa using h2
    clear hf hg h1 h2 h1'
    as_aux_lemma =>
      go_enter Tryd.func4, Tryd.ntmps4
      go_wp2_with (first
        | (go_at_call 13; (with_reducible refine (HF1.out _ (by with_unfolding_all exact (HK.out.r _ (.tail _ (.head _))))).mono ?_); rintro e wz ⟨rfl, hb⟩; have HK2 := Lib.hid (HK.out.next hb); clear HK x0 x1 x2 x3 x4 b0 b1 b2 b3 b4; have HK := HK2; clear HK2; have HC2 := Lib.hid (HC.out.next hb); clear HC hb; have HC := HC2; clear HC2; have q5 := HC.out.c5; have x0 := (HK.out.a _ (.tail _ (.head _))).c0; have x1 := (HK.out.a _ (.tail _ (.head _))).c1; have x2 := (HK.out.a _ (.tail _ (.head _))).c2; have x3 := (HK.out.a _ (.tail _ (.head _))).c3; have x4 := (HK.out.a _ (.tail _ (.head _))).c4; have b0 := (HK.out.a _ (.head _)).c0; have b1 := (HK.out.a _ (.head _)).c1; have b2 := (HK.out.a _ (.head _)).c2; have b3 := (HK.out.a _ (.head _)).c3; have b4 := (HK.out.a _ (.head _)).c4)
        | (go_at_call 13; (with_reducible refine (HF2.out _ (by with_unfolding_all exact (HK.out.r _ (.head _)))).mono ?_); rintro e wz ⟨rfl, hb⟩; have HK2 := Lib.hid (HK.out.next hb); clear HK x0 x1 x2 x3 x4 b0 b1 b2 b3 b4; have HK := HK2; clear HK2; have HC2 := Lib.hid (HC.out.next hb); clear HC hb; have HC := HC2; clear HC2; have q5 := HC.out.c5; have x0 := (HK.out.a _ (.tail _ (.head _))).c0; have x1 := (HK.out.a _ (.tail _ (.head _))).c1; have x2 := (HK.out.a _ (.tail _ (.head _))).c2; have x3 := (HK.out.a _ (.tail _ (.head _))).c3; have x4 := (HK.out.a _ (.tail _ (.head _))).c4; have b0 := (HK.out.a _ (.head _)).c0; have b1 := (HK.out.a _ (.head _)).c1; have b2 := (HK.out.a _ (.head _)).c2; have b3 := (HK.out.a _ (.head _)).c3; have b4 := (HK.out.a _ (.head _)).c4)
        | (go_at_call 14; (with_reducible refine (HC1.out _ (by with_unfolding_all exact (HK.out.r _ (.tail _ (.head _))))).mono ?_); rintro e wz ⟨rfl, hb⟩; have HK2 := Lib.hid (HK.out.next hb); clear HK x0 x1 x2 x3 x4 b0 b1 b2 b3 b4; have HK := HK2; clear HK2; have HC2 := Lib.hid (HC.out.next hb); clear HC hb; have HC := HC2; clear HC2; have q5 := HC.out.c5; have x0 := (HK.out.a _ (.tail _ (.head _))).c0; have x1 := (HK.out.a _ (.tail _ (.head _))).c1; have x2 := (HK.out.a _ (.tail _ (.head _))).c2; have x3 := (HK.out.a _ (.tail _ (.head _))).c3; have x4 := (HK.out.a _ (.tail _ (.head _))).c4; have b0 := (HK.out.a _ (.head _)).c0; have b1 := (HK.out.a _ (.head _)).c1; have b2 := (HK.out.a _ (.head _)).c2; have b3 := (HK.out.a _ (.head _)).c3; have b4 := (HK.out.a _ (.head _)).c4)
        | (go_at_call 14; (with_reducible refine (HC2'.out _ (by with_unfolding_all exact (HK.out.r _ (.head _)))).mono ?_); rintro e wz ⟨rfl, hb⟩; have HK2 := Lib.hid (HK.out.next hb); clear HK x0 x1 x2 x3 x4 b0 b1 b2 b3 b4; have HK := HK2; clear HK2; have HC2 := Lib.hid (HC.out.next hb); clear HC hb; have HC := HC2; clear HC2; have q5 := HC.out.c5; have x0 := (HK.out.a _ (.tail _ (.head _))).c0; have x1 := (HK.out.a _ (.tail _ (.head _))).c1; have x2 := (HK.out.a _ (.tail _ (.head _))).c2; have x3 := (HK.out.a _ (.tail _ (.head _))).c3; have x4 := (HK.out.a _ (.tail _ (.head _))).c4; have b0 := (HK.out.a _ (.head _)).c0; have b1 := (HK.out.a _ (.head _)).c1; have b2 := (HK.out.a _ (.head _)).c2; have b3 := (HK.out.a _ (.head _)).c3; have b4 := (HK.out.a _ (.head _)).c4)
        | (go_at_call 15; (with_reducible refine (HAw.out _ (by with_unfolding_all exact HK.out.lay)).mono ?_); rintro e wz ⟨rfl, hb⟩; have HK2 := Lib.hid (HK.out.next hb); clear HK x0 x1 x2 x3 x4 b0 b1 b2 b3 b4; have HK := HK2; clear HK2; clear hb; have x0 := (HK.out.a _ (.tail _ (.head _))).c0; have x1 := (HK.out.a _ (.tail _ (.head _))).c1; have x2 := (HK.out.a _ (.tail _ (.head _))).c2; have x3 := (HK.out.a _ (.tail _ (.head _))).c3; have x4 := (HK.out.a _ (.tail _ (.head _))).c4; have b0 := (HK.out.a _ (.head _)).c0; have b1 := (HK.out.a _ (.head _)).c1; have b2 := (HK.out.a _ (.head _)).c2; have b3 := (HK.out.a _ (.head _)).c3; have b4 := (HK.out.a _ (.head _)).c4) | fail)
      go_ret
      exact ⟨rfl, HK.out.bel⟩
  have h2' : ck B = 0 := by omega
  rw [h2'] at HC2'
  by_cases h3 : A.r ≠ 1
  · have k1 : (A.r != 1) = true := by simpa using h3
    clear hf hg h1 h2 h1' h2' h3
    as_aux_lemma =>
      go_enter Tryd.func4, Tryd.ntmps4
      go_wp2_with (first
        | (go_at_call 13; (with_reducible refine (HF1.out _ (by with_unfolding_all exact (HK.out.r _ (.tail _ (.head _))))).mono ?_); rintro e wz ⟨rfl, hb⟩; have HK2 := Lib.hid (HK.out.next hb); clear HK x0 x1 x2 x3 x4 b0 b1 b2 b3 b4; have HK := HK2; clear HK2; have HC2 := Lib.hid (HC.out.next hb); clear HC hb; have HC := HC2; clear HC2; have q5 := HC.out.c5; have x0 := (HK.out.a _ (.tail _ (.head _))).c0; have x1 := (HK.out.a _ (.tail _ (.head _))).c1; have x2 := (HK.out.a _ (.tail _ (.head _))).c2; have x3 := (HK.out.a _ (.tail _ (.head _))).c3; have x4 := (HK.out.a _ (.tail _ (.head _))).c4; have b0 := (HK.out.a _ (.head _)).c0; have b1 := (HK.out.a _ (.head _)).c1; have b2 := (HK.out.a _ (.head _)).c2; have b3 := (HK.out.a _ (.head _)).c3; have b4 := (HK.out.a _ (.head _)).c4)
        | (go_at_call 13; (with_reducible refine (HF2.out _ (by with_unfolding_all exact (HK.out.r _ (.head _)))).mono ?_); rintro e wz ⟨rfl, hb⟩; have HK2 := Lib.hid (HK.out.next hb); clear HK x0 x1 x2 x3 x4 b0 b1 b2 b3 b4; have HK := HK2; clear HK2; have HC2 := Lib.hid (HC.out.next hb); clear HC hb; have HC := HC2; clear HC2; have q5 := HC.out.c5; have x0 := (HK.out.a _ (.tail _ (.head _))).c0; have x1 := (HK.out.a _ (.tail _ (.head _))).c1; have x2 := (HK.out.a _ (.tail _ (.head _))).c2; have x3 := (HK.out.a _ (.tail _ (.head _))).c3; have x4 := (HK.out.a _ (.tail _ (.head _))).c4; have b0 := (HK.out.a _ (.head _)).c0; have b1 := (HK.out.a _ (.head _)).c1; have b2 := (HK.out.a _ (.head _)).c2; have b3 := (HK.out.a _ (.head _)).c3; have b4 := (HK.out.a _ (.head _)).c4)
        | (go_at_call 14; (with_reducible refine (HC1.out _ (by with_unfolding_all exact (HK.out.r _ (.tail _ (.head _))))).mono ?_); rintro e wz ⟨rfl, hb⟩; have HK2 := Lib.hid (HK.out.next hb); clear HK x0 x1 x2 x3 x4 b0 b1 b2 b3 b4; have HK := HK2; clear HK2; have HC2 := Lib.hid (HC.out.next hb); clear HC hb; have HC := HC2; clear HC2; have q5 := HC.out.c5; have x0 := (HK.out.a _ (.tail _ (.head _))).c0; have x1 := (HK.out.a _ (.tail _ (.head _))).c1; have x2 := (HK.out.a _ (.tail _ (.head _))).c2; have x3 := (HK.out.a _ (.tail _ (.head _))).c3; have x4 := (HK.out.a _ (.tail _ (.head _))).c4; have b0 := (HK.out.a _ (.head _)).c0; have b1 := (HK.out.a _ (.head _)).c1; have b2 := (HK.out.a _ (.head _)).c2; have b3 := (HK.out.a _ (.head _)).c3; have b4 := (HK.out.a _ (.head _)).c4)
        | (go_at_call 14; (with_reducible refine (HC2'.out _ (by with_unfolding_all exact (HK.out.r _ (.head _)))).mono ?_); rintro e wz ⟨rfl, hb⟩; have HK2 := Lib.hid (HK.out.next hb); clear HK x0 x1 x2 x3 x4 b0 b1 b2 b3 b4; have HK := HK2; clear HK2; have HC2 := Lib.hid (HC.out.next hb); clear HC hb; have HC := HC2; clear HC2; have q5 := HC.out.c5; have x0 := (HK.out.a _ (.tail _ (.head _))).c0; have x1 := (HK.out.a _ (.tail _ (.head _))).c1; have x2 := (HK.out.a _ (.tail _ (.head _))).c2; have x3 := (HK.out.a _ (.tail _ (.head _))).c3; have x4 := (HK.out.a _ (.tail _ (.head _))).c4; have b0 := (HK.out.a _ (.head _)).c0; have b1 := (HK.out.a _ (.head _)).c1; have b2 := (HK.out.a _ (.head _)).c2; have b3 := (HK.out.a _ (.head _)).c3; have b4 := (HK.out.a _ (.head _)).c4)
        | (go_at_call 15; (with_reducible refine (HAw.out _ (by with_unfolding_all exact HK.out.lay)).mono ?_); rintro e wz ⟨rfl, hb⟩; have HK2 := Lib.hid (HK.out.next hb); clear HK x0 x1 x2 x3 x4 b0 b1 b2 b3 b4; have HK := HK2; clear HK2; clear hb; have x0 := (HK.out.a _ (.tail _ (.head _))).c0; have x1 := (HK.out.a _ (.tail _ (.head _))).c1; have x2 := (HK.out.a _ (.tail _ (.head _))).c2; have x3 := (HK.out.a _ (.tail _ (.head _))).c3; have x4 := (HK.out.a _ (.tail _ (.head _))).c4; have b0 := (HK.out.a _ (.head _)).c0; have b1 := (HK.out.a _ (.head _)).c1; have b2 := (HK.out.a _ (.head _)).c2; have b3 := (HK.out.a _ (.head _)).c3; have b4 := (HK.out.a _ (.head _)).c4) | fail)
      go_ret
      exact ⟨rfl, HK.out.bel⟩
  have k1 : (A.r != 1) = false := by simpa using h3
  by_cases h4 : B.r ≠ 1
  · have k2 : (B.r != 1) = true := by simpa using h4
    clear hf hg h1 h2 h1' h2' h3 h4
    as_aux_lemma =>
      go_enter Tryd.func4, Tryd.ntmps4
      go_wp2_with (first
        | (go_at_call 13; (with_reducible refine (HF1.out _ (by with_unfolding_all exact (HK.out.r _ (.tail _ (.head _))))).mono ?_); rintro e wz ⟨rfl, hb⟩; have HK2 := Lib.hid (HK.out.next hb); clear HK x0 x1 x2 x3 x4 b0 b1 b2 b3 b4; have HK := HK2; clear HK2; have HC2 := Lib.hid (HC.out.next hb); clear HC hb; have HC := HC2; clear HC2; have q5 := HC.out.c5; have x0 := (HK.out.a _ (.tail _ (.head _))).c0; have x1 := (HK.out.a _ (.tail _ (.head _))).c1; have x2 := (HK.out.a _ (.tail _ (.head _))).c2; have x3 := (HK.out.a _ (.tail _ (.head _))).c3; have x4 := (HK.out.a _ (.tail _ (.head _))).c4; have b0 := (HK.out.a _ (.head _)).c0; have b1 := (HK.out.a _ (.head _)).c1; have b2 := (HK.out.a _ (.head _)).c2; have b3 := (HK.out.a _ (.head _)).c3; have b4 := (HK.out.a _ (.head _)).c4)
        | (go_at_call 13; (with_reducible refine (HF2.out _ (by with_unfolding_all exact (HK.out.r _ (.head _)))).mono ?_); rintro e wz ⟨rfl, hb⟩; have HK2 := Lib.hid (HK.out.next hb); clear HK x0 x1 x2 x3 x4 b0 b1 b2 b3 b4; have HK := HK2; clear HK2; have HC2 := Lib.hid (HC.out.next hb); clear HC hb; have HC := HC2; clear HC2; have q5 := HC.out.c5; have x0 := (HK.out.a _ (.tail _ (.head _))).c0; have x1 := (HK.out.a _ (.tail _ (.head _))).c1; have x2 := (HK.out.a _ (.tail _ (.head _))).c2; have x3 := (HK.out.a _ (.tail _ (.head _))).c3; have x4 := (HK.out.a _ (.tail _ (.head _))).c4; have b0 := (HK.out.a _ (.head _)).c0; have b1 := (HK.out.a _ (.head _)).c1; have b2 := (HK.out.a _ (.head _)).c2; have b3 := (HK.out.a _ (.head _)).c3; have b4 := (HK.out.a _ (.head _)).c4)
        | (go_at_call 14; (with_reducible refine (HC1.out _ (by with_unfolding_all exact (HK.out.r _ (.tail _ (.head _))))).mono ?_); rintro e wz ⟨rfl, hb⟩; have HK2 := Lib.hid (HK.out.next hb); clear HK x0 x1 x2 x3 x4 b0 b1 b2 b3 b4; have HK := HK2; clear HK2; have HC2 := Lib.hid (HC.out.next hb); clear HC hb; have HC := HC2; clear HC2; have q5 := HC.out.c5; have x0 := (HK.out.a _ (.tail _ (.head _))).c0; have x1 := (HK.out.a _ (.tail _ (.head _))).c1; have x2 := (HK.out.a _ (.tail _ (.head _))).c2; have x3 := (HK.out.a _ (.tail _ (.head _))).c3; have x4 := (HK.out.a _ (.tail _ (.head _))).c4; have b0 := (HK.out.a _ (.head _)).c0; have b1 := (HK.out.a _ (.head _)).c1; have b2 := (HK.out.a _ (.head _)).c2; have b3 := (HK.out.a _ (.head _)).c3; have b4 := (HK.out.a _ (.head _)).c4)
        | (go_at_call 14; (with_reducible refine (HC2'.out _ (by with_unfolding_all exact (HK.out.r _ (.head _)))).mono ?_); rintro e wz ⟨rfl, hb⟩; have HK2 := Lib.hid (HK.out.next hb); clear HK x0 x1 x2 x3 x4 b0 b1 b2 b3 b4; have HK := HK2; clear HK2; have HC2 := Lib.hid (HC.out.next hb); clear HC hb; have HC := HC2; clear HC2; have q5 := HC.out.c5; have x0 := (HK.out.a _ (.tail _ (.head _))).c0; have x1 := (HK.out.a _ (.tail _ (.head _))).c1; have x2 := (HK.out.a _ (.tail _ (.head _))).c2; have x3 := (HK.out.a _ (.tail _ (.head _))).c3; have x4 := (HK.out.a _ (.tail _ (.head _))).c4; have b0 := (HK.out.a _ (.head _)).c0; have b1 := (HK.out.a _ (.head _)).c1; have b2 := (HK.out.a _ (.head _)).c2; have b3 := (HK.out.a _ (.head _)).c3; have b4 := (HK.out.a _ (.head _)).c4)
        | (go_at_call 15; (with_reducible refine (HAw.out _ (by with_unfolding_all exact HK.out.lay)).mono ?_); rintro e wz ⟨rfl, hb⟩; have HK2 := Lib.hid (HK.out.next hb); clear HK x0 x1 x2 x3 x4 b0 b1 b2 b3 b4; have HK := HK2; clear HK2; clear hb; have x0 := (HK.out.a _ (.tail _ (.head _))).c0; have x1 := (HK.out.a _ (.tail _ (.head _))).c1; have x2 := (HK.out.a _ (.tail _ (.head _))).c2; have x3 := (HK.out.a _ (.tail _ (.head _))).c3; have x4 := (HK.out.a _ (.tail _ (.head _))).c4; have b0 := (HK.out.a _ (.head _)).c0; have b1 := (HK.out.a _ (.head _)).c1; have b2 := (HK.out.a _ (.head _)).c2; have b3 := (HK.out.a _ (.head _)).c3; have b4 := (HK.out.a _ (.head _)).c4) | fail)
      go_ret
      exact ⟨rfl, HK.out.bel⟩
  have k2 : (B.r != 1) = false := by simpa using h4
  by_cases h5 : A.z.length ≠ B.z.length
  · have k3 : ((A.z.length : Int) != (B.z.length : Int)) = true := by rw [bne_iff_ne]; omega
    clear hf hg h1 h2 h1' h2' h3 h4 h5
    as_aux_lemma =>
      go_enter Tryd.func4, Tryd.ntmps4
      go_wp2_with (first
        | (go_at_call 13; (with_reducible refine (HF1.out _ (by with_unfolding_all exact (HK.out.r _ (.tail _ (.head _))))).mono ?_); rintro e wz ⟨rfl, hb⟩; have HK2 := Lib.hid (HK.out.next hb); clear HK x0 x1 x2 x3 x4 b0 b1 b2 b3 b4; have HK := HK2; clear HK2; have HC2 := Lib.hid (HC.out.next hb); clear HC hb; have HC := HC2; clear HC2; have q5 := HC.out.c5; have x0 := (HK.out.a _ (.tail _ (.head _))).c0; have x1 := (HK.out.a _ (.tail _ (.head _))).c1; have x2 := (HK.out.a _ (.tail _ (.head _))).c2; have x3 := (HK.out.a _ (.tail _ (.head _))).c3; have x4 := (HK.out.a _ (.tail _ (.head _))).c4; have b0 := (HK.out.a _ (.head _)).c0; have b1 := (HK.out.a _ (.head _)).c1; have b2 := (HK.out.a _ (.head _)).c2; have b3 := (HK.out.a _ (.head _)).c3; have b4 := (HK.out.a _ (.head _)).c4)
        | (go_at_call 13; (with_reducible refine (HF2.out _ (by with_unfolding_all exact (HK.out.r _ (.head _)))).mono ?_); rintro e wz ⟨rfl, hb⟩; have HK2 := Lib.hid (HK.out.next hb); clear HK x0 x1 x2 x3 x4 b0 b1 b2 b3 b4; have HK := HK2; clear HK2; have HC2 := Lib.hid (HC.out.next hb); clear HC hb; have HC := HC2; clear HC2; have q5 := HC.out.c5; have x0 := (HK.out.a _ (.tail _ (.head _))).c0; have x1 := (HK.out.a _ (.tail _ (.head _))).c1; have x2 := (HK.out.a _ (.tail _ (.head _))).c2; have x3 := (HK.out.a _ (.tail _ (.head _))).c3; have x4 := (HK.out.a _ (.tail _ (.head _))).c4; have b0 := (HK.out.a _ (.head _)).c0; have b1 := (HK.out.a _ (.head _)).c1; have b2 := (HK.out.a _ (.head _)).c2; have b3 := (HK.out.a _ (.head _)).c3; have b4 := (HK.out.a _ (.head _)).c4)
        | (go_at_call 14; (with_reducible refine (HC1.out _ (by with_unfolding_all exact (HK.out.r _ (.tail _ (.head _))))).mono ?_); rintro e wz ⟨rfl, hb⟩; have HK2 := Lib.hid (HK.out.next hb); clear HK x0 x1 x2 x3 x4 b0 b1 b2 b3 b4; have HK := HK2; clear HK2; have HC2 := Lib.hid (HC.out.next hb); clear HC hb; have HC := HC2; clear HC2; have q5 := HC.out.c5; have x0 := (HK.out.a _ (.tail _ (.head _))).c0; have x1 := (HK.out.a _ (.tail _ (.head _))).c1; have x2 := (HK.out.a _ (.tail _ (.head _))).c2; have x3 := (HK.out.a _ (.tail _ (.head _))).c3; have x4 := (HK.out.a _ (.tail _ (.head _))).c4; have b0 := (HK.out.a _ (.head _)).c0; have b1 := (HK.out.a _ (.head _)).c1; have b2 := (HK.out.a _ (.head _)).c2; have b3 := (HK.out.a _ (.head _)).c3; have b4 := (HK.out.a _ (.head _)).c4)
        | (go_at_call 14; (with_reducible refine (HC2'.out _ (by with_unfolding_all exact (HK.out.r _ (.head _)))).mono ?_); rintro e wz ⟨rfl, hb⟩; have HK2 := Lib.hid (HK.out.next hb); clear HK x0 x1 x2 x3 x4 b0 b1 b2 b3 b4; have HK := HK2; clear HK2; have HC2 := Lib.hid (HC.out.next hb); clear HC hb; have HC := HC2; clear HC2; have q5 := HC.out.c5; have x0 := (HK.out.a _ (.tail _ (.head _))).c0; have x1 := (HK.out.a _ (.tail _ (.head _))).c1; have x2 := (HK.out.a _ (.tail _ (.head _))).c2; have x3 := (HK.out.a _ (.tail _ (.head _))).c3; have x4 := (HK.out.a _ (.tail _ (.head _))).c4; have b0 := (HK.out.a _ (.head _)).c0; have b1 := (HK.out.a _ (.head _)).c1; have b2 := (HK.out.a _ (.head _)).c2; have b3 := (HK.out.a _ (.head _)).c3; have b4 := (HK.out.a _ (.head _)).c4)
        | (go_at_call 15; (with_reducible refine (HAw.out _ (by with_unfolding_all exact HK.out.lay)).mono ?_); rintro e wz ⟨rfl, hb⟩; have HK2 := Lib.hid (HK.out.next hb); clear HK x0 x1 x2 x3 x4 b0 b1 b2 b3 b4; have HK := HK2; clear HK2; clear hb; have x0 := (HK.out.a _ (.tail _ (.head _))).c0; have x1 := (HK.out.a _ (.tail _ (.head _))).c1; have x2 := (HK.out.a _ (.tail _ (.head _))).c2; have x3 := (HK.out.a _ (.tail _ (.head _))).c3; have x4 := (HK.out.a _ (.tail _ (.head _))).c4; have b0 := (HK.out.a _ (.head _)).c0; have b1 := (HK.out.a _ (.head _)).c1; have b2 := (HK.out.a _ (.head _)).c2; have b3 := (HK.out.a _ (.head _)).c3; have b4 := (HK.out.a _ (.head _)).c4) | fail)
      go_ret
      exact ⟨rfl, HK.out.bel⟩
  have hlen : A.z.length = B.z.length := by omega
  have k3 : ((A.z.length : Int) != (B.z.length : Int)) = false := by rw [hlen]; simp
  have gA := ck_good h1'
  have gB := ck_good h2'
  have rA : A.r = 1 := by omega
  have rB : B.r = 1 := by omega
  have hl4 := gA.len4
  have hwat : IntKind.i64.wrap at' = at' := by rw [IntKind.wrap_i64]; omega
  have hwL : IntKind.i64.wrap ((A.z.length : Int) + 1) = (A.z.length : Int) + 1 := by rw [IntKind.wrap_i64]; omega
  obtain ⟨c, hrem, hc⟩ : ∃ c : Nat, at'.tmod ((A.z.length : Int) + 1) = (c : Int) ∧ c ≤ A.z.length := by
    have h0 := Int.tmod_nonneg ((A.z.length : Int) + 1) hat.1
    have h1 := Int.tmod_lt_of_pos at' (show (0 : Int) < (A.z.length : Int) + 1 by omega)
    exact ⟨(at'.tmod ((A.z.length : Int) + 1)).toNat, by omega, by omega⟩
  have hnz : (A.z.length : Int) + 1 ≠ 0 := by omega
  have hP := parts10 (p := p) gA gB rA rB hlen hc
  have HT0 := Lib.hid (fun W h0 h1 h2 => etwo_any p A B (.slice q A.z.length cap) (.slice q' B.z.length cap') W h0 h1 h2 (by omega) (by omega) HI.out HJ.out)
  have HRa1 : Hid (∀ D W, RdI D W (.slice q A.z.length cap) A.z → RdI D W (.slice q c cap) (A.z.take c)) := fun D W h => rd_take h hc
  have HRb1 : Hid (∀ D W, RdI D W (.slice q' B.z.length cap') B.z → RdI D W (.slice q' c cap') (B.z.take c)) := fun D W h => rd_take h (by omega)
  have HRa2 : Hid (∀ D W, RdI D W (.slice q A.z.length cap) A.z → RdI D W (cutS q c A.z.length cap) (A.z.drop c)) := fun D W h => rd_drop h hc
  have HRb2 : Hid (∀ D W, RdI D W (.slice q' B.z.length cap') B.z → RdI D W (cutS q' c B.z.length cap') (B.z.drop c)) := fun D W h => rd_drop h (by omega)
  have HNa2 := Lib.hid (cut_nil (lo := c) (hi := A.z.length) HNv.out)
  have HNb2 := Lib.hid (cut_nil (lo := c) (hi := B.z.length) HNu.out)
  have hsa1 := fun W => hi_run q A.z.length cap c (by have := HCap.out.1.1; omega) W
  have hsb1 := fun W => hi_run q' B.z.length cap' c (by have := HCap.out.2.1; omega) W
  have hsa2 := fun W => lo_run q A.z.length cap c hc HCap.out.1.1 W
  have hsb2 := fun W => lo_run q' B.z.length cap' c (by omega) HCap.out.2.1 W
  have hca : cutS q c A.z.length cap = .slice (if cap = c then q else q.map (·.add c)) (A.z.length - c) (cap - c) := rfl
  have hcb : cutS q' c B.z.length cap' = .slice (if cap' = c then q' else q'.map (·.add c)) (B.z.length - c) (cap' - c) := rfl
  rw [hca] at HRa2 HNa2 hsa2
  rw [hcb] at HRb2 HNb2 hsb2
  have lx1 : (A.z.take c).length = c := by rw [List.length_take]; omega
  have ly1 : (B.z.take c).length = c := by rw [List.length_take]; omega
  have lx2 : (A.z.drop c).length = A.z.length - c := by rw [List.length_drop]
  have ly2 : (B.z.drop c).length = B.z.length - c := by rw [List.length_drop]
  have i1 : in64 (A.z.take c) := fun x hx => HI.out x (List.mem_of_mem_take hx)
  have i2 : in64 (B.z.take c) := fun x hx => HJ.out x (List.mem_of_mem_take hx)
  have i3 : in64 (A.z.drop c) := fun x hx => HI.out x (List.mem_of_mem_drop hx)
  have i4 : in64 (B.z.drop c) := fun x hx => HJ.out x (List.mem_of_mem_drop hx)
  have HG1 : Hid (∀ v u W, Ru.Lay W → RdI W.heap.size W v (A.z.take c) → RdI W.heap.size W u (B.z.take c) → Calls Tryd.prog 16 #[.int .i64 p, A5 A.k 1 ((A.z.take c).length : Int) 0 v, A5 B.k 1 ((B.z.take c).length : Int) 0 u] W (RetE (twV p (vecA A.k (A.z.take c)) (vecA B.k (B.z.take c))) (twE p (vecA A.k (A.z.take c)) (vecA B.k (B.z.take c))) W)) := fun v u W h0 h1 h2 => etwo_any p (vecA A.k (A.z.take c)) (vecA B.k (B.z.take c)) v u W h0 h1 h2 (by show (A.z.take c).length ≤ _; omega) (by show (B.z.take c).length ≤ _; omega) i1 i2
  have HG2 : Hid (∀ v u W, Ru.Lay W → RdI W.heap.size W v (A.z.drop c) → RdI W.heap.size W u (B.z.drop c) → Calls Tryd.prog 16 #[.int .i64 p, A5 A.k 1 ((A.z.drop c).length : Int) 0 v, A5 B.k 1 ((B.z.drop c).length : Int) 0 u] W (RetE (twV p (vecA A.k (A.z.drop c)) (vecA B.k (B.z.drop c))) (twE p (vecA A.k (A.z.drop c)) (vecA B.k (B.z.drop c))) W)) := fun v u W h0 h1 h2 => etwo_any p (vecA A.k (A.z.drop c)) (vecA B.k (B.z.drop c)) v u W h0 h1 h2 (by show (A.z.drop c).length ≤ _; omega) (by show (B.z.drop c).length ≤ _; omega) i3 i4
  have lM := twV_len p A B
  have lF := twV_len p (vecA A.k (A.z.take c)) (vecA B.k (B.z.take c))
  have lG := twV_len p (vecA A.k (A.z.drop c)) (vecA B.k (B.z.drop c))
  have lM2 : (twV p A B).z.length ≤ 1000000 := Nat.le_trans lM (by omega)
  have lF2 : (twV p (vecA A.k (A.z.take c)) (vecA B.k (B.z.take c))).z.length ≤ 100000 := Nat.le_trans lF (by show (A.z.take c).length + (B.z.take c).length ≤ _; omega)
  have lG2 : (twV p (vecA A.k (A.z.drop c)) (vecA B.k (B.z.drop c))).z.length ≤ 100000 := Nat.le_trans lG (by show (A.z.drop c).length + (B.z.drop c).length ≤ _; omega)
  clear lM lF lG i1 i2 i3 i4 hca hcb
  generalize twV p A B = M at HT0 hP lM2
  generalize twE p A B = E at HT0 hP
  generalize twV p (vecA A.k (A.z.take c)) (vecA B.k (B.z.take c)) = F at HG1 hP lF2
  generalize twE p (vecA A.k (A.z.take c)) (vecA B.k (B.z.take c)) = EF at HG1 hP
  generalize twV p (vecA A.k (A.z.drop c)) (vecA B.k (B.z.drop c)) = G at HG2 hP lG2
  generalize twE p (vecA A.k (A.z.drop c)) (vecA B.k (B.z.drop c)) = EG at HG2 hP
  have HCt := Lib.hid (fun v u W h0 h1 h2 h3 h4 => rcat7_any F G v u W h0 h1 h2 h3 h4 lF2 lG2)
  obtain ⟨m1, m2, m3, m4, m5⟩ := M
  obtain ⟨uf1, uf2, uf3, uf4, uf5⟩ := F
  obtain ⟨g1, g2, g3, g4, g5⟩ := G
  have HQ := Lib.hid (fun v u W h1 h2 => is10_eq ⟨m1, m2, m3, m4, m5⟩ v u W h1 h2 lM2)
  have HP := Lib.hid hP
  have HNa1 := Lib.hid (nil_take (n := c) HNv.out)
  have HNb1 := Lib.hid (nil_take (n := c) HNu.out)
  generalize A.z.take c = za1 at HRa1 HG1 lx1
  generalize B.z.take c = zb1 at HRb1 HG1 ly1
  generalize A.z.drop c = za2 at HRa2 HG2 lx2
  generalize B.z.drop c = zb2 at HRb2 HG2 ly2
  generalize (if cap = c then q else q.map (·.add c)) = qa2 at HRa2 HNa2 hsa2
  generalize (if cap' = c then q' else q'.map (·.add c)) = qb2 at HRb2 HNb2 hsb2
  generalize hla2 : A.z.length - c = la2 at HRa2 HNa2 hsa2 lx2
  generalize hlb2 : B.z.length - c = lb2 at HRb2 HNb2 hsb2 ly2
  generalize cap - c = ca2 at HRa2 HNa2 hsa2
  generalize cap' - c = cb2 at HRb2 HNb2 hsb2
  have HVa1 := Lib.hid (fun W h => vector7_any A.k za1 (.slice q c cap) W h HNa1.out (by omega))
  have HVb1 := Lib.hid (fun W h => vector7_any B.k zb1 (.slice q' c cap') W h HNb1.out (by omega))
  have HVa2 := Lib.hid (fun W h => vector7_any A.k za2 (.slice qa2 la2 ca2) W h HNa2.out (by omega))
  have HVb2 := Lib.hid (fun W h => vector7_any B.k zb2 (.slice qb2 lb2 cb2) W h HNb2.out (by omega))
  have HLen := Lib.hid hlen
  clear hP lM2 lF2 lG2 hla2 hlb2 lx1 ly1 lx2 ly2 hlen HNa1 HNb1 HNa2 HNb2 HNv HNu HI HJ HCap hf hg h1 h2 h1' h2' h3 h4 h5 rA rB hl4 gA gB hat hc
  go_enter Tryd.func4, Tryd.ntmps4
  go_wp2_with (first
    | (go_at_call 13; (with_reducible refine (HF1.out _ (by with_unfolding_all exact (HK.out.r _ (.tail _ (.head _))))).mono ?_); rintro e wz ⟨rfl, hb⟩; have HK2 := Lib.hid (HK.out.next hb); clear HK x0 x1 x2 x3 x4 b0 b1 b2 b3 b4; have HK := HK2; clear HK2; have HC2 := Lib.hid (HC.out.next hb); clear HC hb; have HC := HC2; clear HC2; have q5 := HC.out.c5; have x0 := (HK.out.a _ (.tail _ (.head _))).c0; have x1 := (HK.out.a _ (.tail _ (.head _))).c1; have x2 := (HK.out.a _ (.tail _ (.head _))).c2; have x3 := (HK.out.a _ (.tail _ (.head _))).c3; have x4 := (HK.out.a _ (.tail _ (.head _))).c4; have b0 := (HK.out.a _ (.head _)).c0; have b1 := (HK.out.a _ (.head _)).c1; have b2 := (HK.out.a _ (.head _)).c2; have b3 := (HK.out.a _ (.head _)).c3; have b4 := (HK.out.a _ (.head _)).c4)
    | (go_at_call 13; (with_reducible refine (HF2.out _ (by with_unfolding_all exact (HK.out.r _ (.head _)))).mono ?_); rintro e wz ⟨rfl, hb⟩; have HK2 := Lib.hid (HK.out.next hb); clear HK x0 x1 x2 x3 x4 b0 b1 b2 b3 b4; have HK := HK2; clear HK2; have HC2 := Lib.hid (HC.out.next hb); clear HC hb; have HC := HC2; clear HC2; have q5 := HC.out.c5; have x0 := (HK.out.a _ (.tail _ (.head _))).c0; have x1 := (HK.out.a _ (.tail _ (.head _))).c1; have x2 := (HK.out.a _ (.tail _ (.head _))).c2; have x3 := (HK.out.a _ (.tail _ (.head _))).c3; have x4 := (HK.out.a _ (.tail _ (.head _))).c4; have b0 := (HK.out.a _ (.head _)).c0; have b1 := (HK.out.a _ (.head _)).c1; have b2 := (HK.out.a _ (.head _)).c2; have b3 := (HK.out.a _ (.head _)).c3; have b4 := (HK.out.a _ (.head _)).c4)
    | (go_at_call 14; (with_reducible refine (HC1.out _ (by with_unfolding_all exact (HK.out.r _ (.tail _ (.head _))))).mono ?_); rintro e wz ⟨rfl, hb⟩; have HK2 := Lib.hid (HK.out.next hb); clear HK x0 x1 x2 x3 x4 b0 b1 b2 b3 b4; have HK := HK2; clear HK2; have HC2 := Lib.hid (HC.out.next hb); clear HC hb; have HC := HC2; clear HC2; have q5 := HC.out.c5; have x0 := (HK.out.a _ (.tail _ (.head _))).c0; have x1 := (HK.out.a _ (.tail _ (.head _))).c1; have x2 := (HK.out.a _ (.tail _ (.head _))).c2; have x3 := (HK.out.a _ (.tail _ (.head _))).c3; have x4 := (HK.out.a _ (.tail _ (.head _))).c4; have b0 := (HK.out.a _ (.head _)).c0; have b1 := (HK.out.a _ (.head _)).c1; have b2 := (HK.out.a _ (.head _)).c2; have b3 := (HK.out.a _ (.head _)).c3; have b4 := (HK.out.a _ (.head _)).c4)
    | (go_at_call 14; (with_reducible refine (HC2'.out _ (by with_unfolding_all exact (HK.out.r _ (.head _)))).mono ?_); rintro e wz ⟨rfl, hb⟩; have HK2 := Lib.hid (HK.out.next hb); clear HK x0 x1 x2 x3 x4 b0 b1 b2 b3 b4; have HK := HK2; clear HK2; have HC2 := Lib.hid (HC.out.next hb); clear HC hb; have HC := HC2; clear HC2; have q5 := HC.out.c5; have x0 := (HK.out.a _ (.tail _ (.head _))).c0; have x1 := (HK.out.a _ (.tail _ (.head _))).c1; have x2 := (HK.out.a _ (.tail _ (.head _))).c2; have x3 := (HK.out.a _ (.tail _ (.head _))).c3; have x4 := (HK.out.a _ (.tail _ (.head _))).c4; have b0 := (HK.out.a _ (.head _)).c0; have b1 := (HK.out.a _ (.head _)).c1; have b2 := (HK.out.a _ (.head _)).c2; have b3 := (HK.out.a _ (.head _)).c3; have b4 := (HK.out.a _ (.head _)).c4)
    | (go_at_call 16; (with_reducible refine (HT0.out _ (by with_unfolding_all exact HK.out.lay) (by with_unfolding_all exact (HK.out.r _ (.tail _ (.head _)))) (by with_unfolding_all exact (HK.out.r _ (.head _)))).mono ?_); rintro e wh ⟨uwh, rfl, hu, hb⟩; obtain ⟨pwh, cwh, hpwh, _, _⟩ := hu.form; have hqwh : uwh = (.slice pwh m5.length cwh) := hpwh; subst hqwh; clear hpwh; have hltbwh : (w.heap.size + 1 + 1) < wh.heap.size := Nat.lt_of_lt_of_le (HK.out.lt _ (.head _)) hb.size; have hltxwh : w.heap.size < wh.heap.size := Nat.lt_of_lt_of_le (HK.out.lt _ (.tail _ (.head _))) hb.size; have HK2 := Lib.hid (HK.out.res hb ⟨m1, m2, m3, m4, m5⟩ hu); clear HK x0 x1 x2 x3 x4 b0 b1 b2 b3 b4; have HK := HK2; clear HK2; clear hb hu; have x0 := (HK.out.a _ (.tail _ (.tail _ (.head _)))).c0; have x1 := (HK.out.a _ (.tail _ (.tail _ (.head _)))).c1; have x2 := (HK.out.a _ (.tail _ (.tail _ (.head _)))).c2; have x3 := (HK.out.a _ (.tail _ (.tail _ (.head _)))).c3; have x4 := (HK.out.a _ (.tail _ (.tail _ (.head _)))).c4; have b0 := (HK.out.a _ (.tail _ (.head _))).c0; have b1 := (HK.out.a _ (.tail _ (.head _))).c1; have b2 := (HK.out.a _ (.tail _ (.head _))).c2; have b3 := (HK.out.a _ (.tail _ (.head _))).c3; have b4 := (HK.out.a _ (.tail _ (.head _))).c4)
    | fail)
  clear HC HF1 HF2 HC1 HC2' HT0 k1 k2 k3 hwat hwL hrem hnz x0 x1 x2 x3 x4 b0 b1 b2 b3 b4
  generalize World.alloc wh _ = wy at HK ⊢
  generalize wh.heap.size = gwh at *
  go_cut [11, 12] (fun sp se wx => CutE w [⟨gwh, ⟨m1, m2, m3, m4, m5⟩, (.slice pwh m5.length cwh)⟩, ⟨(w.heap.size + 1 + 1), B, (.slice q' B.z.length cap')⟩, ⟨w.heap.size, A, (.slice q A.z.length cap)⟩] sp se ⟨uf1, uf2, uf3, uf4, uf5⟩ EF wx)
  case first =>
    as_aux_lemma =>
      skip
      have HLt : Hid (∀ g ∈ List.map Bk.g [⟨gwh, ⟨m1, m2, m3, m4, m5⟩, (.slice pwh m5.length cwh)⟩, ⟨(w.heap.size + 1 + 1), B, (.slice q' B.z.length cap')⟩, ⟨w.heap.size, A, (.slice q A.z.length cap)⟩], g < wy.heap.size) := fun g hg => by obtain ⟨c, hc, rfl⟩ := List.mem_map.1 hg; exact HK.out.lt c hc
      have HAll : Hid (∀ W, Below wy.heap.size wy W → (fun W => Below wy.heap.size wy W ∧ W.cell? ⟨w.heap.size, 0, none⟩ = some (.int .i64 A.k) ∧ W.cell? ⟨w.heap.size, 4, none⟩ = some ((.slice q A.z.length cap)) ∧ W.cell? ⟨(w.heap.size + 1 + 1), 0, none⟩ = some (.int .i64 B.k) ∧ W.cell? ⟨(w.heap.size + 1 + 1), 4, none⟩ = some ((.slice q' B.z.length cap'))) W) := fun W h => ⟨h, ((HK.out.next h).a _ (.tail _ (.tail _ (.head _)))).c0, ((HK.out.next h).a _ (.tail _ (.tail _ (.head _)))).c4, ((HK.out.next h).a _ (.tail _ (.head _))).c0, ((HK.out.next h).a _ (.tail _ (.head _))).c4⟩
      refine wp_region_held_drew (S := (fun W => Below wy.heap.size wy W ∧ W.cell? ⟨w.heap.size, 0, none⟩ = some (.int .i64 A.k) ∧ W.cell? ⟨w.heap.size, 4, none⟩ = some ((.slice q A.z.length cap)) ∧ W.cell? ⟨(w.heap.size + 1 + 1), 0, none⟩ = some (.int .i64 B.k) ∧ W.cell? ⟨(w.heap.size + 1 + 1), 4, none⟩ = some ((.slice q' B.z.length cap')))) (by kernel_rfl) ?_ (fun hHeld => ?_)
      · exact HAll.out _ (Below.refl _ _).drew
      have HB0 : Hid (Below wy.heap.size wy (World.drew wy)) := (Below.refl _ _).drew
      generalize World.drew wy = wd at hHeld HB0 ⊢
      refine wpAnyH_take (i := 0) (v := ?_) rfl (by kernel_rfl) (by kernel_rfl) (by kernel_rfl) (fun _ _ _ h => h) (Or.inl ⟨by rfl, ?_⟩) (by assumption) ?_
      rotate_left
      · ((intro w0 hSw); (try dsimp only at hSw); go_simp; (try with_reducible rfl))
      change wpAnyH _ _ _ _ _ _ _ (Act.put _ (some 71) _) _
      try simp only [Act.put, List.setIfInBounds_toArray, List.set_cons_zero, List.set_cons_succ]
      refine wpAnyH_take (i := 1) (v := ?_) rfl (by kernel_rfl) (by kernel_rfl) (by kernel_rfl) (fun _ _ _ h => h) (Or.inl ⟨by rfl, ?_⟩) (by assumption) ?_
      rotate_left
      · ((intro w0 hSw); (try dsimp only at hSw); go_simp; (try with_reducible rfl))
      change wpAnyH _ _ _ _ _ _ _ (Act.put _ (some 72) _) _
      try simp only [Act.put, List.setIfInBounds_toArray, List.set_cons_zero, List.set_cons_succ]
      refine wpAnyH_take (i := 2) (v := ?_) rfl (by kernel_rfl) (by kernel_rfl) (by kernel_rfl) (fun _ _ _ h => h) (Or.inl ⟨by rfl, ?_⟩) (by assumption) ?_
      rotate_left
      · ((intro w0 hSw); (try dsimp only at hSw); go_simp; (try with_reducible rfl))
      change wpAnyH _ _ _ _ _ _ _ (Act.put _ (some 73) _) _
      try simp only [Act.put, List.setIfInBounds_toArray, List.set_cons_zero, List.set_cons_succ]
      refine wpAnyH_take (i := 3) (v := ?_) rfl (by kernel_rfl) (by kernel_rfl) (by kernel_rfl) (fun _ _ _ h => h) (Or.inl ⟨by rfl, ?_⟩) (by assumption) ?_
      rotate_left
      · ((intro w0 hSw); (try dsimp only at hSw); go_simp; (try with_reducible rfl))
      change wpAnyH _ _ _ _ _ _ _ (Act.put _ (some 74) _) _
      try simp only [Act.put, List.setIfInBounds_toArray, List.set_cons_zero, List.set_cons_succ]
      refine wpAnyH_take (i := 4) (v := ?_) rfl (by kernel_rfl) (by kernel_rfl) (by kernel_rfl) (fun _ _ _ h => h) (Or.inl ⟨by rfl, ?_⟩) (by assumption) ?_
      rotate_left
      · ((intro w0 hSw); (try dsimp only at hSw); go_simp; (try with_reducible rfl))
      change wpAnyH _ _ _ _ _ _ _ (Act.put _ (some 75) _) _
      try simp only [Act.put, List.setIfInBounds_toArray, List.set_cons_zero, List.set_cons_succ]
      refine wpAnyH_take (i := 5) (v := ?_) rfl (by kernel_rfl) (by kernel_rfl) (by kernel_rfl) (fun _ _ _ h => h) (Or.inl ⟨by rfl, ?_⟩) (by assumption) ?_
      rotate_left
      · ((intro w0 hSw); (try dsimp only at hSw); go_simp; (try with_reducible rfl))
      change wpAnyH _ _ _ _ _ _ _ (Act.put _ (some 76) _) _
      try simp only [Act.put, List.setIfInBounds_toArray, List.set_cons_zero, List.set_cons_succ]
      refine wpAnyH_take (i := 6) (v := ?_) rfl (by kernel_rfl) (by kernel_rfl) (by kernel_rfl) (fun _ _ _ h => h) (Or.inl ⟨by rfl, ?_⟩) (by assumption) ?_
      rotate_left
      · ((intro w0 hSw); (try dsimp only at hSw); go_simp; (try with_reducible rfl))
      change wpAnyH _ _ _ _ _ _ _ (Act.put _ (some 77) _) _
      try simp only [Act.put, List.setIfInBounds_toArray, List.set_cons_zero, List.set_cons_succ]
      refine wpAnyH_take (i := 8) (v := ?_) rfl (by kernel_rfl) (by kernel_rfl) (by kernel_rfl) (fun _ _ _ h => h) (Or.inl ⟨by rfl, ?_⟩) (by assumption) ?_
      rotate_left
      · ((intro w0 hSw); (try dsimp only at hSw); go_simp; (try with_reducible rfl))
      change wpAnyH _ _ _ _ _ _ _ (Act.put _ (some 79) _) _
      try simp only [Act.put, List.setIfInBounds_toArray, List.set_cons_zero, List.set_cons_succ]
      refine wpAnyH_take (i := 9) (v := ?_) rfl (by kernel_rfl) (by kernel_rfl) (by kernel_rfl) (fun _ _ _ h => h) (Or.inl ⟨by rfl, ?_⟩) (by assumption) ?_
      rotate_left
      · ((intro w0 hSw); (try dsimp only at hSw); go_simp; (try with_reducible rfl))
      change wpAnyH _ _ _ _ _ _ _ (Act.put _ (some 80) _) _
      try simp only [Act.put, List.setIfInBounds_toArray, List.set_cons_zero, List.set_cons_succ]
      refine wpAnyH_take (i := 10) (v := ?_) rfl (by kernel_rfl) (by kernel_rfl) (by kernel_rfl) (fun _ _ _ h => h) (Or.inl ⟨by rfl, ?_⟩) (by assumption) ?_
      rotate_left
      · ((intro w0 hSw); (try dsimp only at hSw); go_simp; (try with_reducible rfl))
      change wpAnyH _ _ _ _ _ _ _ (Act.put _ (some 81) _) _
      try simp only [Act.put, List.setIfInBounds_toArray, List.set_cons_zero, List.set_cons_succ]
      refine wpAnyH_take (i := 11) (v := ?_) rfl (by kernel_rfl) (by kernel_rfl) (by kernel_rfl) (fun _ _ _ h => h) (Or.inl ⟨by rfl, ?_⟩) (by assumption) ?_
      rotate_left
      · ((intro w0 hSw); (try dsimp only at hSw); go_simp; (try with_reducible rfl))
      change wpAnyH _ _ _ _ _ _ _ (Act.put _ (some 82) _) _
      try simp only [Act.put, List.setIfInBounds_toArray, List.set_cons_zero, List.set_cons_succ]
      refine wpAnyH_take (i := 12) (v := ?_) rfl (by kernel_rfl) (by kernel_rfl) (by kernel_rfl) (fun _ _ _ h => h) (Or.inl ⟨by rfl, ?_⟩) (by assumption) ?_
      rotate_left
      · ((intro w0 hSw); (try dsimp only at hSw); go_simp; (try with_reducible rfl))
      change wpAnyH _ _ _ _ _ _ _ (Act.put _ (some 83) _) _
      try simp only [Act.put, List.setIfInBounds_toArray, List.set_cons_zero, List.set_cons_succ]
      refine wpAnyH_take (i := 13) (v := ?_) rfl (by kernel_rfl) (by kernel_rfl) (by kernel_rfl) (fun _ _ _ h => h) (Or.inl ⟨by rfl, ?_⟩) (by assumption) ?_
      rotate_left
      · ((intro w0 hSw); (try dsimp only at hSw); go_simp; (try with_reducible rfl))
      change wpAnyH _ _ _ _ _ _ _ (Act.put _ (some 84) _) _
      try simp only [Act.put, List.setIfInBounds_toArray, List.set_cons_zero, List.set_cons_succ]
      refine wpAnyH_ready (rs := [7, 19]) (by kernel_rfl) (by simp) ?_
      refine AllReadyH.cons rfl (fun K hK => ?_) (AllReadyH.cons rfl (fun K hK => ?_) (AllReadyH.nil))
      · go_simp
        go_at_call 22
        with_reducible refine (HVa1.out _ (HRa1.out _ _ (by with_unfolding_all exact ((HK.out.next HB0.out).r _ (.tail _ (.tail _ (.head _))))))).mono ?_
        rintro e wn6 ⟨uz7, rfl, hu3, hb4⟩
        obtain ⟨qz1, cz2, hq8, _, _⟩ := hu3.form
        have hq82 : uz7 = (.slice qz1 za1.length cz2) := hq8
        subst hq82
        clear hq8
        have HB5 := Lib.hid (HB0.out.trans (hb4.mono HB0.out.size))
        refine hK.out _ _ ?_ (fun hHeld2 => ?_)
        · exact HAll.out _ HB5.out
        clear hK K hHeld
        have hHeld := hHeld2; clear hHeld2
        try change wpAnyH _ _ _ _ _ _ _ (Act.put _ (some 78) _) _
        try dsimp only
        try simp only [Act.put, List.setIfInBounds_toArray, List.set_cons_zero, List.set_cons_succ]
        have HU9 := Lib.hid hu3.rd
        have HU9n := Lib.hid hu3.nilC
        clear hu3 hb4
        refine wpAnyH_ready (rs := [14, 19]) (by kernel_rfl) (by simp) ?_
        refine AllReadyH.cons rfl (fun K hK => ?_) (AllReadyH.cons rfl (fun K hK => ?_) (AllReadyH.nil))
        · go_simp
          go_at_call 22
          with_reducible refine (HVb1.out _ (HRb1.out _ _ (by with_unfolding_all exact ((HK.out.next HB5.out).r _ (.tail _ (.head _)))))).mono ?_
          rintro e wn15 ⟨uz16, rfl, hu12, hb13⟩
          obtain ⟨qz10, cz11, hq17, _, _⟩ := hu12.form
          have hq172 : uz16 = (.slice qz10 zb1.length cz11) := hq17
          subst hq172
          clear hq17
          have HB14 := Lib.hid (HB5.out.trans (hb13.mono HB5.out.size))
          refine hK.out _ _ ?_ (fun hHeld2 => ?_)
          · exact HAll.out _ HB14.out
          clear hK K hHeld
          have hHeld := hHeld2; clear hHeld2
          try change wpAnyH _ _ _ _ _ _ _ (Act.put _ (some 85) _) _
          try dsimp only
          try simp only [Act.put, List.setIfInBounds_toArray, List.set_cons_zero, List.set_cons_succ]
          have HC18 := Lib.hid (HU9.out.next hb13)
          have HU19 := Lib.hid hu12.rd
          have HU19n := Lib.hid hu12.nilC
          clear hu12 hb13
          refine wpAnyH_ready (rs := [15, 19]) (by kernel_rfl) (by simp) ?_
          refine AllReadyH.cons rfl (fun K hK => ?_) (AllReadyH.cons rfl (fun K hK => ?_) (AllReadyH.nil))
          · go_simp
            go_at_call 16
            with_reducible refine (HG1.out _ _ _ (HK.out.next HB14.out).lay HC18.out HU19.out).mono ?_
            rintro e wn25 ⟨uz26, rfl, hu22, hb23⟩
            obtain ⟨qz20, cz21, hq27, _, _⟩ := hu22.form
            have hq272 : uz26 = (.slice qz20 uf5.length cz21) := hq27
            subst hq272
            clear hq27
            have HB24 := Lib.hid (HB14.out.trans (hb23.mono HB14.out.size))
            refine hK.out _ _ ?_ (fun hHeld2 => ?_)
            · exact HAll.out _ HB24.out
            clear hK K hHeld
            have hHeld := hHeld2; clear hHeld2
            try change wpAnyH _ _ _ _ _ _ _ (Act.put _ (some 86) _) _
            try dsimp only
            try simp only [Act.put, List.setIfInBounds_toArray, List.set_cons_zero, List.set_cons_succ]
            have HC28 := Lib.hid (HC18.out.next hb23)
            have HC29 := Lib.hid (HU19.out.next hb23)
            have HX30 : Hid (RdX (List.map Bk.g [⟨gwh, ⟨m1, m2, m3, m4, m5⟩, (.slice pwh m5.length cwh)⟩, ⟨(w.heap.size + 1 + 1), B, (.slice q' B.z.length cap')⟩, ⟨w.heap.size, A, (.slice q A.z.length cap)⟩]) wn25 (.slice qz20 uf5.length cz21) uf5) := rdN_toX hu22 (fun g mg => Nat.lt_of_lt_of_le (HLt.out g mg) HB14.out.size)
            have HN31 := Lib.hid hu22.nilC
            clear hu22 hb23
            refine wpAnyH_take (i := 16) (v := ?_) rfl (by kernel_rfl) (by kernel_rfl) (by kernel_rfl) (fun _ _ _ h => h) (Or.inl ⟨by rfl, ?_⟩) (by assumption) ?_
            rotate_left
            · ((intro w0 hSw); (try dsimp only at hSw); go_simp; (try with_reducible rfl))
            change wpAnyH _ _ _ _ _ _ _ (Act.put _ (some 70) _) _
            try simp only [Act.put, List.setIfInBounds_toArray, List.set_cons_zero, List.set_cons_succ]
            refine wpAnyH_take (i := 17) (v := ?_) rfl (by kernel_rfl) (by kernel_rfl) (by kernel_rfl) (fun _ _ _ h => h) (Or.inl ⟨by rfl, ?_⟩) (by assumption) ?_
            rotate_left
            · ((intro w0 hSw); (try dsimp only at hSw); go_simp; (try with_reducible rfl))
            change wpAnyH _ _ _ _ _ _ _ (Act.put _ (some 87) _) _
            try simp only [Act.put, List.setIfInBounds_toArray, List.set_cons_zero, List.set_cons_succ]
            refine wpAnyH_take (i := 18) (v := ?_) rfl (by kernel_rfl) (by kernel_rfl) (by kernel_rfl) (fun _ _ _ h => h) (Or.inl ⟨by rfl, ?_⟩) (by assumption) ?_
            rotate_left
            · ((intro w0 hSw); (try dsimp only at hSw); go_simp; (try with_reducible rfl))
            change wpAnyH _ _ _ _ _ _ _ (Act.put _ (some 88) _) _
            try simp only [Act.put, List.setIfInBounds_toArray, List.set_cons_zero, List.set_cons_succ]
            refine wpAnyH_ready (rs := [19]) (by kernel_rfl) (by simp) ?_
            refine AllReadyH.cons rfl (fun K hK => ?_) (AllReadyH.nil)
            go_simp
            refine hK.out _ _ ?_ (fun hHeld2 => ?_)
            · exact HAll.out _ (HB24.out.trans ((bel1 wn25 _).mono HB24.out.size))
            clear hK K hHeld
            have hHeld := hHeld2; clear hHeld2
            try change wpAnyH _ _ _ _ _ _ _ (Act.put _ (some 11) _) _
            try simp only [Act.put, List.setIfInBounds_toArray, List.set_cons_zero, List.set_cons_succ]
            generalize hwx33 : World.alloc wn25 _ = wa32 at hHeld ⊢
            have HB34 : Hid (Below wy.heap.size wy wa32) := by rw [← hwx33]; exact HB24.out.trans ((bel1 wn25 _).mono HB24.out.size)
            have Hbx35 : Hid (Below wn25.heap.size wn25 wa32) := by rw [← hwx33]; exact bel1 _ _
            have HC36 := Lib.hid (HC28.out.next Hbx35.out)
            have HC37 := Lib.hid (HC29.out.next Hbx35.out)
            have HG38 : Hid (R5 wa32 wn25.heap.size 0 0 0 0 (.slice none 0 0)) := by rw [← hwx33]; exact R5.new _ _ _ _ _ _
            have hge : wy.heap.size ≤ wn25.heap.size := HB24.out.size
            have HX39 : Hid (RdX (wn25.heap.size :: List.map Bk.g [⟨gwh, ⟨m1, m2, m3, m4, m5⟩, (.slice pwh m5.length cwh)⟩, ⟨(w.heap.size + 1 + 1), B, (.slice q' B.z.length cap')⟩, ⟨w.heap.size, A, (.slice q A.z.length cap)⟩]) wa32 (.slice qz20 uf5.length cz21) uf5) := (HX30.out.more (Nat.le_refl _)).keep Hbx35.out.size (fun c' _ hc' => Hbx35.out.block c' hc')
            clear hwx33
            as_aux_lemma =>
              refine wpAnyH_ready (rs := [20]) (by kernel_rfl) (by simp) ?_
              refine AllReadyH.cons rfl (fun K hK => ?_) (AllReadyH.nil)
              have y0 := HG38.out.c0; have y1 := HG38.out.c1; have y2 := HG38.out.c2; have y3 := HG38.out.c3; have y4 := HG38.out.c4; have f0 := HG38.out.fr 0; have f1 := HG38.out.fr 1; have f2 := HG38.out.fr 2; have f3 := HG38.out.fr 3; have f4 := HG38.out.fr 4; have HS := Lib.hid (HG38.out.set uf1 uf2 uf3 uf4 (.slice qz20 uf5.length cz21)); have z0 := HS.out.c0; have z1 := HS.out.c1; have z2 := HS.out.c2; have z3 := HS.out.c3; have z4 := HS.out.c4
              go_simp
              refine hK.out _ _ ?_ (fun hHeld2 => ?_)
              · exact HAll.out _ (st5_below _ _ _ _ _ hge HB34.out)
              clear hK K hHeld
              have hHeld := hHeld2; clear hHeld2
              try simp only [Act.put, List.setIfInBounds_toArray, List.set_cons_zero, List.set_cons_succ]
              refine wpAnyH_take (i := 21) (v := ?_) rfl (by kernel_rfl) (by kernel_rfl) (by kernel_rfl) (fun _ _ _ h => h) (Or.inl ⟨by rfl, ?_⟩) (by assumption) ?_
              rotate_left
              · ((intro w0 hSw); (try dsimp only at hSw); go_simp; (try with_reducible rfl))
              change wpAnyH _ _ _ _ _ _ _ (Act.put _ (some 12) _) _
              try simp only [Act.put, List.setIfInBounds_toArray, List.set_cons_zero, List.set_cons_succ]
              refine wpAnyH_done (by kernel_rfl) ?_ _
              go_wp2_with fail
              go_meet
              case rel => exact ⟨wn25.heap.size, qz20, cz21, rfl, rfl, HK.out.newAt HB34.out hge HG38.out ⟨uf1, uf2, uf3, uf4, uf5⟩ HX39.out HN31.out, fun b mb => Nat.lt_of_lt_of_le (HK.out.lt b mb) hge⟩
          · go_simp
            refine hK.out _ _ ?_ (fun hHeld2 => ?_)
            · exact HAll.out _ (HB14.out.trans ((bel1 wn15 _).mono HB14.out.size))
            clear hK K hHeld
            have hHeld := hHeld2; clear hHeld2
            try change wpAnyH _ _ _ _ _ _ _ (Act.put _ (some 11) _) _
            try simp only [Act.put, List.setIfInBounds_toArray, List.set_cons_zero, List.set_cons_succ]
            generalize hwx41 : World.alloc wn15 _ = wa40 at hHeld ⊢
            have HB42 : Hid (Below wy.heap.size wy wa40) := by rw [← hwx41]; exact HB14.out.trans ((bel1 wn15 _).mono HB14.out.size)
            have Hbx43 : Hid (Below wn15.heap.size wn15 wa40) := by rw [← hwx41]; exact bel1 _ _
            have HC44 := Lib.hid (HC18.out.next Hbx43.out)
            have HC45 := Lib.hid (HU19.out.next Hbx43.out)
            have HG46 : Hid (R5 wa40 wn15.heap.size 0 0 0 0 (.slice none 0 0)) := by rw [← hwx41]; exact R5.new _ _ _ _ _ _
            have hge : wy.heap.size ≤ wn15.heap.size := HB14.out.size
            clear hwx41
            refine wpAnyH_ready (rs := [15]) (by kernel_rfl) (by simp) ?_
            refine AllReadyH.cons rfl (fun K hK => ?_) (AllReadyH.nil)
            go_simp
            go_at_call 16
            with_reducible refine (HG1.out _ _ _ (HK.out.next HB42.out).lay HC44.out HC45.out).mono ?_
            rintro e wn52 ⟨uz53, rfl, hu49, hb50⟩
            obtain ⟨qz47, cz48, hq54, _, _⟩ := hu49.form
            have hq542 : uz53 = (.slice qz47 uf5.length cz48) := hq54
            subst hq542
            clear hq54
            have HB51 := Lib.hid (HB42.out.trans (hb50.mono HB42.out.size))
            refine hK.out _ _ ?_ (fun hHeld2 => ?_)
            · exact HAll.out _ HB51.out
            clear hK K hHeld
            have hHeld := hHeld2; clear hHeld2
            try change wpAnyH _ _ _ _ _ _ _ (Act.put _ (some 86) _) _
            try dsimp only
            try simp only [Act.put, List.setIfInBounds_toArray, List.set_cons_zero, List.set_cons_succ]
            have HC55 := Lib.hid (HC44.out.next hb50)
            have HC56 := Lib.hid (HC45.out.next hb50)
            have HC57 := Lib.hid (HG46.out.next hb50)
            have HX58 : Hid (RdX (wn15.heap.size :: List.map Bk.g [⟨gwh, ⟨m1, m2, m3, m4, m5⟩, (.slice pwh m5.length cwh)⟩, ⟨(w.heap.size + 1 + 1), B, (.slice q' B.z.length cap')⟩, ⟨w.heap.size, A, (.slice q A.z.length cap)⟩]) wn52 (.slice qz47 uf5.length cz48) uf5) := rdN_toX hu49 (fun g mg => by
              rcases List.mem_cons.1 mg with rfl | mg
              · exact HG46.out.lt
              · exact Nat.lt_of_lt_of_le (HLt.out g mg) HB42.out.size)
            have HN59 := Lib.hid hu49.nilC
            clear hu49 hb50
            refine wpAnyH_take (i := 16) (v := ?_) rfl (by kernel_rfl) (by kernel_rfl) (by kernel_rfl) (fun _ _ _ h => h) (Or.inl ⟨by rfl, ?_⟩) (by assumption) ?_
            rotate_left
            · ((intro w0 hSw); (try dsimp only at hSw); go_simp; (try with_reducible rfl))
            change wpAnyH _ _ _ _ _ _ _ (Act.put _ (some 70) _) _
            try simp only [Act.put, List.setIfInBounds_toArray, List.set_cons_zero, List.set_cons_succ]
            refine wpAnyH_take (i := 17) (v := ?_) rfl (by kernel_rfl) (by kernel_rfl) (by kernel_rfl) (fun _ _ _ h => h) (Or.inl ⟨by rfl, ?_⟩) (by assumption) ?_
            rotate_left
            · ((intro w0 hSw); (try dsimp only at hSw); go_simp; (try with_reducible rfl))
            change wpAnyH _ _ _ _ _ _ _ (Act.put _ (some 87) _) _
            try simp only [Act.put, List.setIfInBounds_toArray, List.set_cons_zero, List.set_cons_succ]
            refine wpAnyH_take (i := 18) (v := ?_) rfl (by kernel_rfl) (by kernel_rfl) (by kernel_rfl) (fun _ _ _ h => h) (Or.inl ⟨by rfl, ?_⟩) (by assumption) ?_
            rotate_left
            · ((intro w0 hSw); (try dsimp only at hSw); go_simp; (try with_reducible rfl))
            change wpAnyH _ _ _ _ _ _ _ (Act.put _ (some 88) _) _
            try simp only [Act.put, List.setIfInBounds_toArray, List.set_cons_zero, List.set_cons_succ]
            as_aux_lemma =>
              refine wpAnyH_ready (rs := [20]) (by kernel_rfl) (by simp) ?_
              refine AllReadyH.cons rfl (fun K hK => ?_) (AllReadyH.nil)
              have y0 := HC57.out.c0; have y1 := HC57.out.c1; have y2 := HC57.out.c2; have y3 := HC57.out.c3; have y4 := HC57.out.c4; have f0 := HC57.out.fr 0; have f1 := HC57.out.fr 1; have f2 := HC57.out.fr 2; have f3 := HC57.out.fr 3; have f4 := HC57.out.fr 4; have HS := Lib.hid (HC57.out.set uf1 uf2 uf3 uf4 (.slice qz47 uf5.length cz48)); have z0 := HS.out.c0; have z1 := HS.out.c1; have z2 := HS.out.c2; have z3 := HS.out.c3; have z4 := HS.out.c4
              go_simp
              refine hK.out _ _ ?_ (fun hHeld2 => ?_)
              · exact HAll.out _ (st5_below _ _ _ _ _ hge HB51.out)
              clear hK K hHeld
              have hHeld := hHeld2; clear hHeld2
              try simp only [Act.put, List.setIfInBounds_toArray, List.set_cons_zero, List.set_cons_succ]
              refine wpAnyH_take (i := 21) (v := ?_) rfl (by kernel_rfl) (by kernel_rfl) (by kernel_rfl) (fun _ _ _ h => h) (Or.inl ⟨by rfl, ?_⟩) (by assumption) ?_
              rotate_left
              · ((intro w0 hSw); (try dsimp only at hSw); go_simp; (try with_reducible rfl))
              change wpAnyH _ _ _ _ _ _ _ (Act.put _ (some 12) _) _
              try simp only [Act.put, List.setIfInBounds_toArray, List.set_cons_zero, List.set_cons_succ]
              refine wpAnyH_done (by kernel_rfl) ?_ _
              go_wp2_with fail
              go_meet
              case rel => exact ⟨wn15.heap.size, qz47, cz48, rfl, rfl, HK.out.newAt HB51.out hge HC57.out ⟨uf1, uf2, uf3, uf4, uf5⟩ HX58.out HN59.out, fun b mb => Nat.lt_of_lt_of_le (HK.out.lt b mb) hge⟩
        · go_simp
          refine hK.out _ _ ?_ (fun hHeld2 => ?_)
          · exact HAll.out _ (HB5.out.trans ((bel1 wn6 _).mono HB5.out.size))
          clear hK K hHeld
          have hHeld := hHeld2; clear hHeld2
          try change wpAnyH _ _ _ _ _ _ _ (Act.put _ (some 11) _) _
          try simp only [Act.put, List.setIfInBounds_toArray, List.set_cons_zero, List.set_cons_succ]
          generalize hwx61 : World.alloc wn6 _ = wa60 at hHeld ⊢
          have HB62 : Hid (Below wy.heap.size wy wa60) := by rw [← hwx61]; exact HB5.out.trans ((bel1 wn6 _).mono HB5.out.size)
          have Hbx63 : Hid (Below wn6.heap.size wn6 wa60) := by rw [← hwx61]; exact bel1 _ _
          have HC64 := Lib.hid (HU9.out.next Hbx63.out)
          have HG65 : Hid (R5 wa60 wn6.heap.size 0 0 0 0 (.slice none 0 0)) := by rw [← hwx61]; exact R5.new _ _ _ _ _ _
          have hge : wy.heap.size ≤ wn6.heap.size := HB5.out.size
          clear hwx61
          refine wpAnyH_ready (rs := [14]) (by kernel_rfl) (by simp) ?_
          refine AllReadyH.cons rfl (fun K hK => ?_) (AllReadyH.nil)
          go_simp
          go_at_call 22
          with_reducible refine (HVb1.out _ (HRb1.out _ _ (by with_unfolding_all exact ((HK.out.next HB62.out).r _ (.tail _ (.head _)))))).mono ?_
          rintro e wn71 ⟨uz72, rfl, hu68, hb69⟩
          obtain ⟨qz66, cz67, hq73, _, _⟩ := hu68.form
          have hq732 : uz72 = (.slice qz66 zb1.length cz67) := hq73
          subst hq732
          clear hq73
          have HB70 := Lib.hid (HB62.out.trans (hb69.mono HB62.out.size))
          refine hK.out _ _ ?_ (fun hHeld2 => ?_)
          · exact HAll.out _ HB70.out
          clear hK K hHeld
          have hHeld := hHeld2; clear hHeld2
          try change wpAnyH _ _ _ _ _ _ _ (Act.put _ (some 85) _) _
          try dsimp only
          try simp only [Act.put, List.setIfInBounds_toArray, List.set_cons_zero, List.set_cons_succ]
          have HC74 := Lib.hid (HC64.out.next hb69)
          have HC75 := Lib.hid (HG65.out.next hb69)
          have HU76 := Lib.hid hu68.rd
          have HU76n := Lib.hid hu68.nilC
          clear hu68 hb69
          refine wpAnyH_ready (rs := [15]) (by kernel_rfl) (by simp) ?_
          refine AllReadyH.cons rfl (fun K hK => ?_) (AllReadyH.nil)
          go_simp
          go_at_call 16
          with_reducible refine (HG1.out _ _ _ (HK.out.next HB70.out).lay HC74.out HU76.out).mono ?_
          rintro e wn82 ⟨uz83, rfl, hu79, hb80⟩
          obtain ⟨qz77, cz78, hq84, _, _⟩ := hu79.form
          have hq842 : uz83 = (.slice qz77 uf5.length cz78) := hq84
          subst hq842
          clear hq84
          have HB81 := Lib.hid (HB70.out.trans (hb80.mono HB70.out.size))
          refine hK.out _ _ ?_ (fun hHeld2 => ?_)
          · exact HAll.out _ HB81.out
          clear hK K hHeld
          have hHeld := hHeld2; clear hHeld2
          try change wpAnyH _ _ _ _ _ _ _ (Act.put _ (some 86) _) _
          try dsimp only
          try simp only [Act.put, List.setIfInBounds_toArray, List.set_cons_zero, List.set_cons_succ]
          have HC85 := Lib.hid (HC74.out.next hb80)
          have HC86 := Lib.hid (HC75.out.next hb80)
          have HC87 := Lib.hid (HU76.out.next hb80)
          have HX88 : Hid (RdX (wn6.heap.size :: List.map Bk.g [⟨gwh, ⟨m1, m2, m3, m4, m5⟩, (.slice pwh m5.length cwh)⟩, ⟨(w.heap.size + 1 + 1), B, (.slice q' B.z.length cap')⟩, ⟨w.heap.size, A, (.slice q A.z.length cap)⟩]) wn82 (.slice qz77 uf5.length cz78) uf5) := rdN_toX hu79 (fun g mg => by
            rcases List.mem_cons.1 mg with rfl | mg
            · exact HC75.out.lt
            · exact Nat.lt_of_lt_of_le (HLt.out g mg) HB70.out.size)
          have HN89 := Lib.hid hu79.nilC
          clear hu79 hb80
          refine wpAnyH_take (i := 16) (v := ?_) rfl (by kernel_rfl) (by kernel_rfl) (by kernel_rfl) (fun _ _ _ h => h) (Or.inl ⟨by rfl, ?_⟩) (by assumption) ?_
          rotate_left
          · ((intro w0 hSw); (try dsimp only at hSw); go_simp; (try with_reducible rfl))
          change wpAnyH _ _ _ _ _ _ _ (Act.put _ (some 70) _) _
          try simp only [Act.put, List.setIfInBounds_toArray, List.set_cons_zero, List.set_cons_succ]
          refine wpAnyH_take (i := 17) (v := ?_) rfl (by kernel_rfl) (by kernel_rfl) (by kernel_rfl) (fun _ _ _ h => h) (Or.inl ⟨by rfl, ?_⟩) (by assumption) ?_
          rotate_left
          · ((intro w0 hSw); (try dsimp only at hSw); go_simp; (try with_reducible rfl))
          change wpAnyH _ _ _ _ _ _ _ (Act.put _ (some 87) _) _
          try simp only [Act.put, List.setIfInBounds_toArray, List.set_cons_zero, List.set_cons_succ]
          refine wpAnyH_take (i := 18) (v := ?_) rfl (by kernel_rfl) (by kernel_rfl) (by kernel_rfl) (fun _ _ _ h => h) (Or.inl ⟨by rfl, ?_⟩) (by assumption) ?_
          rotate_left
          · ((intro w0 hSw); (try dsimp only at hSw); go_simp; (try with_reducible rfl))
          change wpAnyH _ _ _ _ _ _ _ (Act.put _ (some 88) _) _
          try simp only [Act.put, List.setIfInBounds_toArray, List.set_cons_zero, List.set_cons_succ]
          as_aux_lemma =>
            refine wpAnyH_ready (rs := [20]) (by kernel_rfl) (by simp) ?_
            refine AllReadyH.cons rfl (fun K hK => ?_) (AllReadyH.nil)
            have y0 := HC86.out.c0; have y1 := HC86.out.c1; have y2 := HC86.out.c2; have y3 := HC86.out.c3; have y4 := HC86.out.c4; have f0 := HC86.out.fr 0; have f1 := HC86.out.fr 1; have f2 := HC86.out.fr 2; have f3 := HC86.out.fr 3; have f4 := HC86.out.fr 4; have HS := Lib.hid (HC86.out.set uf1 uf2 uf3 uf4 (.slice qz77 uf5.length cz78)); have z0 := HS.out.c0; have z1 := HS.out.c1; have z2 := HS.out.c2; have z3 := HS.out.c3; have z4 := HS.out.c4
            go_simp
            refine hK.out _ _ ?_ (fun hHeld2 => ?_)
            · exact HAll.out _ (st5_below _ _ _ _ _ hge HB81.out)
            clear hK K hHeld
            have hHeld := hHeld2; clear hHeld2
            try simp only [Act.put, List.setIfInBounds_toArray, List.set_cons_zero, List.set_cons_succ]
            refine wpAnyH_take (i := 21) (v := ?_) rfl (by kernel_rfl) (by kernel_rfl) (by kernel_rfl) (fun _ _ _ h => h) (Or.inl ⟨by rfl, ?_⟩) (by assumption) ?_
            rotate_left
            · ((intro w0 hSw); (try dsimp only at hSw); go_simp; (try with_reducible rfl))
            change wpAnyH _ _ _ _ _ _ _ (Act.put _ (some 12) _) _
            try simp only [Act.put, List.setIfInBounds_toArray, List.set_cons_zero, List.set_cons_succ]
            refine wpAnyH_done (by kernel_rfl) ?_ _
            go_wp2_with fail
            go_meet
            case rel => exact ⟨wn6.heap.size, qz77, cz78, rfl, rfl, HK.out.newAt HB81.out hge HC86.out ⟨uf1, uf2, uf3, uf4, uf5⟩ HX88.out HN89.out, fun b mb => Nat.lt_of_lt_of_le (HK.out.lt b mb) hge⟩
      · go_simp
        refine hK.out _ _ ?_ (fun hHeld2 => ?_)
        · exact HAll.out _ (HB0.out.trans ((bel1 wd _).mono HB0.out.size))
        clear hK K hHeld
        have hHeld := hHeld2; clear hHeld2
        try change wpAnyH _ _ _ _ _ _ _ (Act.put _ (some 11) _) _
        try simp only [Act.put, List.setIfInBounds_toArray, List.set_cons_zero, List.set_cons_succ]
        generalize hwx91 : World.alloc wd _ = wa90 at hHeld ⊢
        have HB92 : Hid (Below wy.heap.size wy wa90) := by rw [← hwx91]; exact HB0.out.trans ((bel1 wd _).mono HB0.out.size)
        have Hbx93 : Hid (Below wd.heap.size wd wa90) := by rw [← hwx91]; exact bel1 _ _
        have HG94 : Hid (R5 wa90 wd.heap.size 0 0 0 0 (.slice none 0 0)) := by rw [← hwx91]; exact R5.new _ _ _ _ _ _
        have hge : wy.heap.size ≤ wd.heap.size := HB0.out.size
        clear hwx91
        refine wpAnyH_ready (rs := [7]) (by kernel_rfl) (by simp) ?_
        refine AllReadyH.cons rfl (fun K hK => ?_) (AllReadyH.nil)
        go_simp
        go_at_call 22
        with_reducible refine (HVa1.out _ (HRa1.out _ _ (by with_unfolding_all exact ((HK.out.next HB92.out).r _ (.tail _ (.tail _ (.head _))))))).mono ?_
        rintro e wn100 ⟨uz101, rfl, hu97, hb98⟩
        obtain ⟨qz95, cz96, hq102, _, _⟩ := hu97.form
        have hq1022 : uz101 = (.slice qz95 za1.length cz96) := hq102
        subst hq1022
        clear hq102
        have HB99 := Lib.hid (HB92.out.trans (hb98.mono HB92.out.size))
        refine hK.out _ _ ?_ (fun hHeld2 => ?_)
        · exact HAll.out _ HB99.out
        clear hK K hHeld
        have hHeld := hHeld2; clear hHeld2
        try change wpAnyH _ _ _ _ _ _ _ (Act.put _ (some 78) _) _
        try dsimp only
        try simp only [Act.put, List.setIfInBounds_toArray, List.set_cons_zero, List.set_cons_succ]
        have HC103 := Lib.hid (HG94.out.next hb98)
        have HU104 := Lib.hid hu97.rd
        have HU104n := Lib.hid hu97.nilC
        clear hu97 hb98
        refine wpAnyH_ready (rs := [14]) (by kernel_rfl) (by simp) ?_
        refine AllReadyH.cons rfl (fun K hK => ?_) (AllReadyH.nil)
        go_simp
        go_at_call 22
        with_reducible refine (HVb1.out _ (HRb1.out _ _ (by with_unfolding_all exact ((HK.out.next HB99.out).r _ (.tail _ (.head _)))))).mono ?_
        rintro e wn110 ⟨uz111, rfl, hu107, hb108⟩
        obtain ⟨qz105, cz106, hq112, _, _⟩ := hu107.form
        have hq1122 : uz111 = (.slice qz105 zb1.length cz106) := hq112
        subst hq1122
        clear hq112
        have HB109 := Lib.hid (HB99.out.trans (hb108.mono HB99.out.size))
        refine hK.out _ _ ?_ (fun hHeld2 => ?_)
        · exact HAll.out _ HB109.out
        clear hK K hHeld
        have hHeld := hHeld2; clear hHeld2
        try change wpAnyH _ _ _ _ _ _ _ (Act.put _ (some 85) _) _
        try dsimp only
        try simp only [Act.put, List.setIfInBounds_toArray, List.set_cons_zero, List.set_cons_succ]
        have HC113 := Lib.hid (HC103.out.next hb108)
        have HC114 := Lib.hid (HU104.out.next hb108)
        have HU115 := Lib.hid hu107.rd
        have HU115n := Lib.hid hu107.nilC
        clear hu107 hb108
        refine wpAnyH_ready (rs := [15]) (by kernel_rfl) (by simp) ?_
        refine AllReadyH.cons rfl (fun K hK => ?_) (AllReadyH.nil)
        go_simp
        go_at_call 16
        with_reducible refine (HG1.out _ _ _ (HK.out.next HB109.out).lay HC114.out HU115.out).mono ?_
        rintro e wn121 ⟨uz122, rfl, hu118, hb119⟩
        obtain ⟨qz116, cz117, hq123, _, _⟩ := hu118.form
        have hq1232 : uz122 = (.slice qz116 uf5.length cz117) := hq123
        subst hq1232
        clear hq123
        have HB120 := Lib.hid (HB109.out.trans (hb119.mono HB109.out.size))
        refine hK.out _ _ ?_ (fun hHeld2 => ?_)
        · exact HAll.out _ HB120.out
        clear hK K hHeld
        have hHeld := hHeld2; clear hHeld2
        try change wpAnyH _ _ _ _ _ _ _ (Act.put _ (some 86) _) _
        try dsimp only
        try simp only [Act.put, List.setIfInBounds_toArray, List.set_cons_zero, List.set_cons_succ]
        have HC124 := Lib.hid (HC113.out.next hb119)
        have HC125 := Lib.hid (HC114.out.next hb119)
        have HC126 := Lib.hid (HU115.out.next hb119)
        have HX127 : Hid (RdX (wd.heap.size :: List.map Bk.g [⟨gwh, ⟨m1, m2, m3, m4, m5⟩, (.slice pwh m5.length cwh)⟩, ⟨(w.heap.size + 1 + 1), B, (.slice q' B.z.length cap')⟩, ⟨w.heap.size, A, (.slice q A.z.length cap)⟩]) wn121 (.slice qz116 uf5.length cz117) uf5) := rdN_toX hu118 (fun g mg => by
          rcases List.mem_cons.1 mg with rfl | mg
          · exact HC113.out.lt
          · exact Nat.lt_of_lt_of_le (HLt.out g mg) HB109.out.size)
        have HN128 := Lib.hid hu118.nilC
        clear hu118 hb119
        refine wpAnyH_take (i := 16) (v := ?_) rfl (by kernel_rfl) (by kernel_rfl) (by kernel_rfl) (fun _ _ _ h => h) (Or.inl ⟨by rfl, ?_⟩) (by assumption) ?_
        rotate_left
        · ((intro w0 hSw); (try dsimp only at hSw); go_simp; (try with_reducible rfl))
        change wpAnyH _ _ _ _ _ _ _ (Act.put _ (some 70) _) _
        try simp only [Act.put, List.setIfInBounds_toArray, List.set_cons_zero, List.set_cons_succ]
        refine wpAnyH_take (i := 17) (v := ?_) rfl (by kernel_rfl) (by kernel_rfl) (by kernel_rfl) (fun _ _ _ h => h) (Or.inl ⟨by rfl, ?_⟩) (by assumption) ?_
        rotate_left
        · ((intro w0 hSw); (try dsimp only at hSw); go_simp; (try with_reducible rfl))
        change wpAnyH _ _ _ _ _ _ _ (Act.put _ (some 87) _) _
        try simp only [Act.put, List.setIfInBounds_toArray, List.set_cons_zero, List.set_cons_succ]
        refine wpAnyH_take (i := 18) (v := ?_) rfl (by kernel_rfl) (by kernel_rfl) (by kernel_rfl) (fun _ _ _ h => h) (Or.inl ⟨by rfl, ?_⟩) (by assumption) ?_
        rotate_left
        · ((intro w0 hSw); (try dsimp only at hSw); go_simp; (try with_reducible rfl))
        change wpAnyH _ _ _ _ _ _ _ (Act.put _ (some 88) _) _
        try simp only [Act.put, List.setIfInBounds_toArray, List.set_cons_zero, List.set_cons_succ]
        as_aux_lemma =>
          refine wpAnyH_ready (rs := [20]) (by kernel_rfl) (by simp) ?_
          refine AllReadyH.cons rfl (fun K hK => ?_) (AllReadyH.nil)
          have y0 := HC124.out.c0; have y1 := HC124.out.c1; have y2 := HC124.out.c2; have y3 := HC124.out.c3; have y4 := HC124.out.c4; have f0 := HC124.out.fr 0; have f1 := HC124.out.fr 1; have f2 := HC124.out.fr 2; have f3 := HC124.out.fr 3; have f4 := HC124.out.fr 4; have HS := Lib.hid (HC124.out.set uf1 uf2 uf3 uf4 (.slice qz116 uf5.length cz117)); have z0 := HS.out.c0; have z1 := HS.out.c1; have z2 := HS.out.c2; have z3 := HS.out.c3; have z4 := HS.out.c4
          go_simp
          refine hK.out _ _ ?_ (fun hHeld2 => ?_)
          · exact HAll.out _ (st5_below _ _ _ _ _ hge HB120.out)
          clear hK K hHeld
          have hHeld := hHeld2; clear hHeld2
          try simp only [Act.put, List.setIfInBounds_toArray, List.set_cons_zero, List.set_cons_succ]
          refine wpAnyH_take (i := 21) (v := ?_) rfl (by kernel_rfl) (by kernel_rfl) (by kernel_rfl) (fun _ _ _ h => h) (Or.inl ⟨by rfl, ?_⟩) (by assumption) ?_
          rotate_left
          · ((intro w0 hSw); (try dsimp only at hSw); go_simp; (try with_reducible rfl))
          change wpAnyH _ _ _ _ _ _ _ (Act.put _ (some 12) _) _
          try simp only [Act.put, List.setIfInBounds_toArray, List.set_cons_zero, List.set_cons_succ]
          refine wpAnyH_done (by kernel_rfl) ?_ _
          go_wp2_with fail
          go_meet
          case rel => exact ⟨wd.heap.size, qz116, cz117, rfl, rfl, HK.out.newAt HB120.out hge HC124.out ⟨uf1, uf2, uf3, uf4, uf5⟩ HX127.out HN128.out, fun b mb => Nat.lt_of_lt_of_le (HK.out.lt b mb) hge⟩
  case rest =>
    obtain ⟨gfi, qfi, cfi, rfl, rfl, hk, hlf⟩ := hcut
    have hlf_wh := hlf _ (.head _)
    have hlf_b := hlf _ (.tail _ (.head _))
    have hlf_x := hlf _ (.tail _ (.tail _ (.head _)))
    clear HK hlf HVa1 HVb1 HRa1 HRb1 HG1 hsa1 hsb1
    have HK : Hid (KVar w [⟨gfi, ⟨uf1, uf2, uf3, uf4, uf5⟩, (.slice qfi uf5.length cfi)⟩, ⟨gwh, ⟨m1, m2, m3, m4, m5⟩, (.slice pwh m5.length cwh)⟩, ⟨(w.heap.size + 1 + 1), B, (.slice q' B.z.length cap')⟩, ⟨w.heap.size, A, (.slice q A.z.length cap)⟩] wc) := hk
    clear hk
    have x0 := (HK.out.a _ (.tail _ (.tail _ (.tail _ (.head _))))).c0
    have x1 := (HK.out.a _ (.tail _ (.tail _ (.tail _ (.head _))))).c1
    have x2 := (HK.out.a _ (.tail _ (.tail _ (.tail _ (.head _))))).c2
    have x3 := (HK.out.a _ (.tail _ (.tail _ (.tail _ (.head _))))).c3
    have x4 := (HK.out.a _ (.tail _ (.tail _ (.tail _ (.head _))))).c4
    have b0 := (HK.out.a _ (.tail _ (.tail _ (.head _)))).c0
    have b1 := (HK.out.a _ (.tail _ (.tail _ (.head _)))).c1
    have b2 := (HK.out.a _ (.tail _ (.tail _ (.head _)))).c2
    have b3 := (HK.out.a _ (.tail _ (.tail _ (.head _)))).c3
    have b4 := (HK.out.a _ (.tail _ (.tail _ (.head _)))).c4
    go_wp2_with fail
    go_cut [13, 14] (fun sp se wx => CutE w [⟨gfi, ⟨uf1, uf2, uf3, uf4, uf5⟩, (.slice qfi uf5.length cfi)⟩, ⟨gwh, ⟨m1, m2, m3, m4, m5⟩, (.slice pwh m5.length cwh)⟩, ⟨(w.heap.size + 1 + 1), B, (.slice q' B.z.length cap')⟩, ⟨w.heap.size, A, (.slice q A.z.length cap)⟩] sp se ⟨g1, g2, g3, g4, g5⟩ EG wx)
    case first =>
      as_aux_lemma =>
        clear x0 x1 x2 x3 x4 b0 b1 b2 b3 b4
        have HLt : Hid (∀ g ∈ List.map Bk.g [⟨gfi, ⟨uf1, uf2, uf3, uf4, uf5⟩, (.slice qfi uf5.length cfi)⟩, ⟨gwh, ⟨m1, m2, m3, m4, m5⟩, (.slice pwh m5.length cwh)⟩, ⟨(w.heap.size + 1 + 1), B, (.slice q' B.z.length cap')⟩, ⟨w.heap.size, A, (.slice q A.z.length cap)⟩], g < wc.heap.size) := fun g hg => by obtain ⟨c, hc, rfl⟩ := List.mem_map.1 hg; exact HK.out.lt c hc
        have HAll : Hid (∀ W, Below wc.heap.size wc W → (fun W => Below wc.heap.size wc W ∧ W.cell? ⟨w.heap.size, 0, none⟩ = some (.int .i64 A.k) ∧ W.cell? ⟨w.heap.size, 4, none⟩ = some ((.slice q A.z.length cap)) ∧ W.cell? ⟨(w.heap.size + 1 + 1), 0, none⟩ = some (.int .i64 B.k) ∧ W.cell? ⟨(w.heap.size + 1 + 1), 4, none⟩ = some ((.slice q' B.z.length cap'))) W) := fun W h => ⟨h, ((HK.out.next h).a _ (.tail _ (.tail _ (.tail _ (.head _))))).c0, ((HK.out.next h).a _ (.tail _ (.tail _ (.tail _ (.head _))))).c4, ((HK.out.next h).a _ (.tail _ (.tail _ (.head _)))).c0, ((HK.out.next h).a _ (.tail _ (.tail _ (.head _)))).c4⟩
        refine wp_region_held_drew (S := (fun W => Below wc.heap.size wc W ∧ W.cell? ⟨w.heap.size, 0, none⟩ = some (.int .i64 A.k) ∧ W.cell? ⟨w.heap.size, 4, none⟩ = some ((.slice q A.z.length cap)) ∧ W.cell? ⟨(w.heap.size + 1 + 1), 0, none⟩ = some (.int .i64 B.k) ∧ W.cell? ⟨(w.heap.size + 1 + 1), 4, none⟩ = some ((.slice q' B.z.length cap')))) (by kernel_rfl) ?_ (fun hHeld => ?_)
        · exact HAll.out _ (Below.refl _ _).drew
        have HB0 : Hid (Below wc.heap.size wc (World.drew wc)) := (Below.refl _ _).drew
        generalize World.drew wc = wd at hHeld HB0 ⊢
        refine wpAnyH_take (i := 0) (v := ?_) rfl (by kernel_rfl) (by kernel_rfl) (by kernel_rfl) (fun _ _ _ h => h) (Or.inl ⟨by rfl, ?_⟩) (by assumption) ?_
        rotate_left
        · ((intro w0 hSw); (try dsimp only at hSw); go_simp; (try with_reducible rfl))
        change wpAnyH _ _ _ _ _ _ _ (Act.put _ (some 90) _) _
        try simp only [Act.put, List.setIfInBounds_toArray, List.set_cons_zero, List.set_cons_succ]
        refine wpAnyH_take (i := 1) (v := ?_) rfl (by kernel_rfl) (by kernel_rfl) (by kernel_rfl) (fun _ _ _ h => h) (Or.inl ⟨by rfl, ?_⟩) (by assumption) ?_
        rotate_left
        · ((intro w0 hSw); (try dsimp only at hSw); go_simp; (try with_reducible rfl))
        change wpAnyH _ _ _ _ _ _ _ (Act.put _ (some 91) _) _
        try simp only [Act.put, List.setIfInBounds_toArray, List.set_cons_zero, List.set_cons_succ]
        refine wpAnyH_take (i := 2) (v := ?_) rfl (by kernel_rfl) (by kernel_rfl) (by kernel_rfl) (fun _ _ _ h => h) (Or.inl ⟨by rfl, ?_⟩) (by assumption) ?_
        rotate_left
        · ((intro w0 hSw); (try dsimp only at hSw); go_simp; (try with_reducible rfl))
        change wpAnyH _ _ _ _ _ _ _ (Act.put _ (some 92) _) _
        try simp only [Act.put, List.setIfInBounds_toArray, List.set_cons_zero, List.set_cons_succ]
        refine wpAnyH_take (i := 3) (v := ?_) rfl (by kernel_rfl) (by kernel_rfl) (by kernel_rfl) (fun _ _ _ h => h) (Or.inl ⟨by rfl, ?_⟩) (by assumption) ?_
        rotate_left
        · ((intro w0 hSw); (try dsimp only at hSw); go_simp; (try with_reducible rfl))
        change wpAnyH _ _ _ _ _ _ _ (Act.put _ (some 93) _) _
        try simp only [Act.put, List.setIfInBounds_toArray, List.set_cons_zero, List.set_cons_succ]
        refine wpAnyH_take (i := 4) (v := ?_) rfl (by kernel_rfl) (by kernel_rfl) (by kernel_rfl) (fun _ _ _ h => h) (Or.inl ⟨by rfl, ?_⟩) (by assumption) ?_
        rotate_left
        · ((intro w0 hSw); (try dsimp only at hSw); go_simp; (try with_reducible rfl))
        change wpAnyH _ _ _ _ _ _ _ (Act.put _ (some 94) _) _
        try simp only [Act.put, List.setIfInBounds_toArray, List.set_cons_zero, List.set_cons_succ]
        refine wpAnyH_take (i := 5) (v := ?_) rfl (by kernel_rfl) (by kernel_rfl) (by kernel_rfl) (fun _ _ _ h => h) (Or.inl ⟨by rfl, ?_⟩) (by assumption) ?_
        rotate_left
        · ((intro w0 hSw); (try dsimp only at hSw); go_simp; (try with_reducible rfl))
        change wpAnyH _ _ _ _ _ _ _ (Act.put _ (some 95) _) _
        try simp only [Act.put, List.setIfInBounds_toArray, List.set_cons_zero, List.set_cons_succ]
        refine wpAnyH_take (i := 6) (v := ?_) rfl (by kernel_rfl) (by kernel_rfl) (by kernel_rfl) (fun _ _ _ h => h) (Or.inl ⟨by rfl, ?_⟩) (by assumption) ?_
        rotate_left
        · ((intro w0 hSw); (try dsimp only at hSw); go_simp; (try with_reducible rfl))
        change wpAnyH _ _ _ _ _ _ _ (Act.put _ (some 96) _) _
        try simp only [Act.put, List.setIfInBounds_toArray, List.set_cons_zero, List.set_cons_succ]
        refine wpAnyH_take (i := 8) (v := ?_) rfl (by kernel_rfl) (by kernel_rfl) (by kernel_rfl) (fun _ _ _ h => h) (Or.inl ⟨by rfl, ?_⟩) (by assumption) ?_
        rotate_left
        · ((intro w0 hSw); (try dsimp only at hSw); go_simp; (try with_reducible rfl))
        change wpAnyH _ _ _ _ _ _ _ (Act.put _ (some 98) _) _
        try simp only [Act.put, List.setIfInBounds_toArray, List.set_cons_zero, List.set_cons_succ]
        refine wpAnyH_take (i := 9) (v := ?_) rfl (by kernel_rfl) (by kernel_rfl) (by kernel_rfl) (fun _ _ _ h => h) (Or.inl ⟨by rfl, ?_⟩) (by assumption) ?_
        rotate_left
        · ((intro w0 hSw); (try dsimp only at hSw); go_simp; (try with_reducible rfl))
        change wpAnyH _ _ _ _ _ _ _ (Act.put _ (some 99) _) _
        try simp only [Act.put, List.setIfInBounds_toArray, List.set_cons_zero, List.set_cons_succ]
        refine wpAnyH_take (i := 10) (v := ?_) rfl (by kernel_rfl) (by kernel_rfl) (by kernel_rfl) (fun _ _ _ h => h) (Or.inl ⟨by rfl, ?_⟩) (by assumption) ?_
        rotate_left
        · ((intro w0 hSw); (try dsimp only at hSw); go_simp; (try with_reducible rfl))
        change wpAnyH _ _ _ _ _ _ _ (Act.put _ (some 100) _) _
        try simp only [Act.put, List.setIfInBounds_toArray, List.set_cons_zero, List.set_cons_succ]
        refine wpAnyH_take (i := 11) (v := ?_) rfl (by kernel_rfl) (by kernel_rfl) (by kernel_rfl) (fun _ _ _ h => h) (Or.inl ⟨by rfl, ?_⟩) (by assumption) ?_
        rotate_left
        · ((intro w0 hSw); (try dsimp only at hSw); go_simp; (try with_reducible rfl))
        change wpAnyH _ _ _ _ _ _ _ (Act.put _ (some 101) _) _
        try simp only [Act.put, List.setIfInBounds_toArray, List.set_cons_zero, List.set_cons_succ]
        refine wpAnyH_take (i := 12) (v := ?_) rfl (by kernel_rfl) (by kernel_rfl) (by kernel_rfl) (fun _ _ _ h => h) (Or.inl ⟨by rfl, ?_⟩) (by assumption) ?_
        rotate_left
        · ((intro w0 hSw); (try dsimp only at hSw); go_simp; (try with_reducible rfl))
        change wpAnyH _ _ _ _ _ _ _ (Act.put _ (some 102) _) _
        try simp only [Act.put, List.setIfInBounds_toArray, List.set_cons_zero, List.set_cons_succ]
        refine wpAnyH_take (i := 13) (v := ?_) rfl (by kernel_rfl) (by kernel_rfl) (by kernel_rfl) (fun _ _ _ h => h) (Or.inl ⟨by rfl, ?_⟩) (by assumption) ?_
        rotate_left
        · ((intro w0 hSw); (try dsimp only at hSw); go_simp; (try with_reducible rfl))
        change wpAnyH _ _ _ _ _ _ _ (Act.put _ (some 103) _) _
        try simp only [Act.put, List.setIfInBounds_toArray, List.set_cons_zero, List.set_cons_succ]
        refine wpAnyH_ready (rs := [7, 19]) (by kernel_rfl) (by simp) ?_
        refine AllReadyH.cons rfl (fun K hK => ?_) (AllReadyH.cons rfl (fun K hK => ?_) (AllReadyH.nil))
        · go_simp
          go_at_call 22
          with_reducible refine (HVa2.out _ (HRa2.out _ _ (by with_unfolding_all exact ((HK.out.next HB0.out).r _ (.tail _ (.tail _ (.tail _ (.head _)))))))).mono ?_
          rintro e wn134 ⟨uz135, rfl, hu131, hb132⟩
          obtain ⟨qz129, cz130, hq136, _, _⟩ := hu131.form
          have hq1362 : uz135 = (.slice qz129 za2.length cz130) := hq136
          subst hq1362
          clear hq136
          have HB133 := Lib.hid (HB0.out.trans (hb132.mono HB0.out.size))
          refine hK.out _ _ ?_ (fun hHeld2 => ?_)
          · exact HAll.out _ HB133.out
          clear hK K hHeld
          have hHeld := hHeld2; clear hHeld2
          try change wpAnyH _ _ _ _ _ _ _ (Act.put _ (some 97) _) _
          try dsimp only
          try simp only [Act.put, List.setIfInBounds_toArray, List.set_cons_zero, List.set_cons_succ]
          have HU137 := Lib.hid hu131.rd
          have HU137n := Lib.hid hu131.nilC
          clear hu131 hb132
          refine wpAnyH_ready (rs := [14, 19]) (by kernel_rfl) (by simp) ?_
          refine AllReadyH.cons rfl (fun K hK => ?_) (AllReadyH.cons rfl (fun K hK => ?_) (AllReadyH.nil))
          · go_simp
            go_at_call 22
            with_reducible refine (HVb2.out _ (HRb2.out _ _ (by with_unfolding_all exact ((HK.out.next HB133.out).r _ (.tail _ (.tail _ (.head _))))))).mono ?_
            rintro e wn143 ⟨uz144, rfl, hu140, hb141⟩
            obtain ⟨qz138, cz139, hq145, _, _⟩ := hu140.form
            have hq1452 : uz144 = (.slice qz138 zb2.length cz139) := hq145
            subst hq1452
            clear hq145
            have HB142 := Lib.hid (HB133.out.trans (hb141.mono HB133.out.size))
            refine hK.out _ _ ?_ (fun hHeld2 => ?_)
            · exact HAll.out _ HB142.out
            clear hK K hHeld
            have hHeld := hHeld2; clear hHeld2
            try change wpAnyH _ _ _ _ _ _ _ (Act.put _ (some 104) _) _
            try dsimp only
            try simp only [Act.put, List.setIfInBounds_toArray, List.set_cons_zero, List.set_cons_succ]
            have HC146 := Lib.hid (HU137.out.next hb141)
            have HU147 := Lib.hid hu140.rd
            have HU147n := Lib.hid hu140.nilC
            clear hu140 hb141
            refine wpAnyH_ready (rs := [15, 19]) (by kernel_rfl) (by simp) ?_
            refine AllReadyH.cons rfl (fun K hK => ?_) (AllReadyH.cons rfl (fun K hK => ?_) (AllReadyH.nil))
            · go_simp
              go_at_call 16
              with_reducible refine (HG2.out _ _ _ (HK.out.next HB142.out).lay HC146.out HU147.out).mono ?_
              rintro e wn153 ⟨uz154, rfl, hu150, hb151⟩
              obtain ⟨qz148, cz149, hq155, _, _⟩ := hu150.form
              have hq1552 : uz154 = (.slice qz148 g5.length cz149) := hq155
              subst hq1552
              clear hq155
              have HB152 := Lib.hid (HB142.out.trans (hb151.mono HB142.out.size))
              refine hK.out _ _ ?_ (fun hHeld2 => ?_)
              · exact HAll.out _ HB152.out
              clear hK K hHeld
              have hHeld := hHeld2; clear hHeld2
              try change wpAnyH _ _ _ _ _ _ _ (Act.put _ (some 105) _) _
              try dsimp only
              try simp only [Act.put, List.setIfInBounds_toArray, List.set_cons_zero, List.set_cons_succ]
              have HC156 := Lib.hid (HC146.out.next hb151)
              have HC157 := Lib.hid (HU147.out.next hb151)
              have HX158 : Hid (RdX (List.map Bk.g [⟨gfi, ⟨uf1, uf2, uf3, uf4, uf5⟩, (.slice qfi uf5.length cfi)⟩, ⟨gwh, ⟨m1, m2, m3, m4, m5⟩, (.slice pwh m5.length cwh)⟩, ⟨(w.heap.size + 1 + 1), B, (.slice q' B.z.length cap')⟩, ⟨w.heap.size, A, (.slice q A.z.length cap)⟩]) wn153 (.slice qz148 g5.length cz149) g5) := rdN_toX hu150 (fun g mg => Nat.lt_of_lt_of_le (HLt.out g mg) HB142.out.size)
              have HN159 := Lib.hid hu150.nilC
              clear hu150 hb151
              refine wpAnyH_take (i := 16) (v := ?_) rfl (by kernel_rfl) (by kernel_rfl) (by kernel_rfl) (fun _ _ _ h => h) (Or.inl ⟨by rfl, ?_⟩) (by assumption) ?_
              rotate_left
              · ((intro w0 hSw); (try dsimp only at hSw); go_simp; (try with_reducible rfl))
              change wpAnyH _ _ _ _ _ _ _ (Act.put _ (some 89) _) _
              try simp only [Act.put, List.setIfInBounds_toArray, List.set_cons_zero, List.set_cons_succ]
              refine wpAnyH_take (i := 17) (v := ?_) rfl (by kernel_rfl) (by kernel_rfl) (by kernel_rfl) (fun _ _ _ h => h) (Or.inl ⟨by rfl, ?_⟩) (by assumption) ?_
              rotate_left
              · ((intro w0 hSw); (try dsimp only at hSw); go_simp; (try with_reducible rfl))
              change wpAnyH _ _ _ _ _ _ _ (Act.put _ (some 106) _) _
              try simp only [Act.put, List.setIfInBounds_toArray, List.set_cons_zero, List.set_cons_succ]
              refine wpAnyH_take (i := 18) (v := ?_) rfl (by kernel_rfl) (by kernel_rfl) (by kernel_rfl) (fun _ _ _ h => h) (Or.inl ⟨by rfl, ?_⟩) (by assumption) ?_
              rotate_left
              · ((intro w0 hSw); (try dsimp only at hSw); go_simp; (try with_reducible rfl))
              change wpAnyH _ _ _ _ _ _ _ (Act.put _ (some 107) _) _
              try simp only [Act.put, List.setIfInBounds_toArray, List.set_cons_zero, List.set_cons_succ]
              refine wpAnyH_ready (rs := [19]) (by kernel_rfl) (by simp) ?_
              refine AllReadyH.cons rfl (fun K hK => ?_) (AllReadyH.nil)
              go_simp
              refine hK.out _ _ ?_ (fun hHeld2 => ?_)
              · exact HAll.out _ (HB152.out.trans ((bel1 wn153 _).mono HB152.out.size))
              clear hK K hHeld
              have hHeld := hHeld2; clear hHeld2
              try change wpAnyH _ _ _ _ _ _ _ (Act.put _ (some 13) _) _
              try simp only [Act.put, List.setIfInBounds_toArray, List.set_cons_zero, List.set_cons_succ]
              generalize hwx161 : World.alloc wn153 _ = wa160 at hHeld ⊢
              have HB162 : Hid (Below wc.heap.size wc wa160) := by rw [← hwx161]; exact HB152.out.trans ((bel1 wn153 _).mono HB152.out.size)
              have Hbx163 : Hid (Below wn153.heap.size wn153 wa160) := by rw [← hwx161]; exact bel1 _ _
              have HC164 := Lib.hid (HC156.out.next Hbx163.out)
              have HC165 := Lib.hid (HC157.out.next Hbx163.out)
              have HG166 : Hid (R5 wa160 wn153.heap.size 0 0 0 0 (.slice none 0 0)) := by rw [← hwx161]; exact R5.new _ _ _ _ _ _
              have hge : wc.heap.size ≤ wn153.heap.size := HB152.out.size
              have HX167 : Hid (RdX (wn153.heap.size :: List.map Bk.g [⟨gfi, ⟨uf1, uf2, uf3, uf4, uf5⟩, (.slice qfi uf5.length cfi)⟩, ⟨gwh, ⟨m1, m2, m3, m4, m5⟩, (.slice pwh m5.length cwh)⟩, ⟨(w.heap.size + 1 + 1), B, (.slice q' B.z.length cap')⟩, ⟨w.heap.size, A, (.slice q A.z.length cap)⟩]) wa160 (.slice qz148 g5.length cz149) g5) := (HX158.out.more (Nat.le_refl _)).keep Hbx163.out.size (fun c' _ hc' => Hbx163.out.block c' hc')
              clear hwx161
              as_aux_lemma =>
                refine wpAnyH_ready (rs := [20]) (by kernel_rfl) (by simp) ?_
                refine AllReadyH.cons rfl (fun K hK => ?_) (AllReadyH.nil)
                have y0 := HG166.out.c0; have y1 := HG166.out.c1; have y2 := HG166.out.c2; have y3 := HG166.out.c3; have y4 := HG166.out.c4; have f0 := HG166.out.fr 0; have f1 := HG166.out.fr 1; have f2 := HG166.out.fr 2; have f3 := HG166.out.fr 3; have f4 := HG166.out.fr 4; have HS := Lib.hid (HG166.out.set g1 g2 g3 g4 (.slice qz148 g5.length cz149)); have z0 := HS.out.c0; have z1 := HS.out.c1; have z2 := HS.out.c2; have z3 := HS.out.c3; have z4 := HS.out.c4
                go_simp
                refine hK.out _ _ ?_ (fun hHeld2 => ?_)
                · exact HAll.out _ (st5_below _ _ _ _ _ hge HB162.out)
                clear hK K hHeld
                have hHeld := hHeld2; clear hHeld2
                try simp only [Act.put, List.setIfInBounds_toArray, List.set_cons_zero, List.set_cons_succ]
                refine wpAnyH_take (i := 21) (v := ?_) rfl (by kernel_rfl) (by kernel_rfl) (by kernel_rfl) (fun _ _ _ h => h) (Or.inl ⟨by rfl, ?_⟩) (by assumption) ?_
                rotate_left
                · ((intro w0 hSw); (try dsimp only at hSw); go_simp; (try with_reducible rfl))
                change wpAnyH _ _ _ _ _ _ _ (Act.put _ (some 14) _) _
                try simp only [Act.put, List.setIfInBounds_toArray, List.set_cons_zero, List.set_cons_succ]
                refine wpAnyH_done (by kernel_rfl) ?_ _
                go_wp2_with fail
                go_meet
                case rel => exact ⟨wn153.heap.size, qz148, cz149, rfl, rfl, HK.out.newAt HB162.out hge HG166.out ⟨g1, g2, g3, g4, g5⟩ HX167.out HN159.out, fun b mb => Nat.lt_of_lt_of_le (HK.out.lt b mb) hge⟩
            · go_simp
              refine hK.out _ _ ?_ (fun hHeld2 => ?_)
              · exact HAll.out _ (HB142.out.trans ((bel1 wn143 _).mono HB142.out.size))
              clear hK K hHeld
              have hHeld := hHeld2; clear hHeld2
              try change wpAnyH _ _ _ _ _ _ _ (Act.put _ (some 13) _) _
              try simp only [Act.put, List.setIfInBounds_toArray, List.set_cons_zero, List.set_cons_succ]
              generalize hwx169 : World.alloc wn143 _ = wa168 at hHeld ⊢
              have HB170 : Hid (Below wc.heap.size wc wa168) := by rw [← hwx169]; exact HB142.out.trans ((bel1 wn143 _).mono HB142.out.size)
              have Hbx171 : Hid (Below wn143.heap.size wn143 wa168) := by rw [← hwx169]; exact bel1 _ _
              have HC172 := Lib.hid (HC146.out.next Hbx171.out)
              have HC173 := Lib.hid (HU147.out.next Hbx171.out)
              have HG174 : Hid (R5 wa168 wn143.heap.size 0 0 0 0 (.slice none 0 0)) := by rw [← hwx169]; exact R5.new _ _ _ _ _ _
              have hge : wc.heap.size ≤ wn143.heap.size := HB142.out.size
              clear hwx169
              refine wpAnyH_ready (rs := [15]) (by kernel_rfl) (by simp) ?_
              refine AllReadyH.cons rfl (fun K hK => ?_) (AllReadyH.nil)
              go_simp
              go_at_call 16
              with_reducible refine (HG2.out _ _ _ (HK.out.next HB170.out).lay HC172.out HC173.out).mono ?_
              rintro e wn180 ⟨uz181, rfl, hu177, hb178⟩
              obtain ⟨qz175, cz176, hq182, _, _⟩ := hu177.form
              have hq1822 : uz181 = (.slice qz175 g5.length cz176) := hq182
              subst hq1822
              clear hq182
              have HB179 := Lib.hid (HB170.out.trans (hb178.mono HB170.out.size))
              refine hK.out _ _ ?_ (fun hHeld2 => ?_)
              · exact HAll.out _ HB179.out
              clear hK K hHeld
              have hHeld := hHeld2; clear hHeld2
              try change wpAnyH _ _ _ _ _ _ _ (Act.put _ (some 105) _) _
              try dsimp only
              try simp only [Act.put, List.setIfInBounds_toArray, List.set_cons_zero, List.set_cons_succ]
              have HC183 := Lib.hid (HC172.out.next hb178)
              have HC184 := Lib.hid (HC173.out.next hb178)
              have HC185 := Lib.hid (HG174.out.next hb178)
              have HX186 : Hid (RdX (wn143.heap.size :: List.map Bk.g [⟨gfi, ⟨uf1, uf2, uf3, uf4, uf5⟩, (.slice qfi uf5.length cfi)⟩, ⟨gwh, ⟨m1, m2, m3, m4, m5⟩, (.slice pwh m5.length cwh)⟩, ⟨(w.heap.size + 1 + 1), B, (.slice q' B.z.length cap')⟩, ⟨w.heap.size, A, (.slice q A.z.length cap)⟩]) wn180 (.slice qz175 g5.length cz176) g5) := rdN_toX hu177 (fun g mg => by
                rcases List.mem_cons.1 mg with rfl | mg
                · exact HG174.out.lt
                · exact Nat.lt_of_lt_of_le (HLt.out g mg) HB170.out.size)
              have HN187 := Lib.hid hu177.nilC
              clear hu177 hb178
              refine wpAnyH_take (i := 16) (v := ?_) rfl (by kernel_rfl) (by kernel_rfl) (by kernel_rfl) (fun _ _ _ h => h) (Or.inl ⟨by rfl, ?_⟩) (by assumption) ?_
              rotate_left
              · ((intro w0 hSw); (try dsimp only at hSw); go_simp; (try with_reducible rfl))
              change wpAnyH _ _ _ _ _ _ _ (Act.put _ (some 89) _) _
              try simp only [Act.put, List.setIfInBounds_toArray, List.set_cons_zero, List.set_cons_succ]
              refine wpAnyH_take (i := 17) (v := ?_) rfl (by kernel_rfl) (by kernel_rfl) (by kernel_rfl) (fun _ _ _ h => h) (Or.inl ⟨by rfl, ?_⟩) (by assumption) ?_
              rotate_left
              · ((intro w0 hSw); (try dsimp only at hSw); go_simp; (try with_reducible rfl))
              change wpAnyH _ _ _ _ _ _ _ (Act.put _ (some 106) _) _
              try simp only [Act.put, List.setIfInBounds_toArray, List.set_cons_zero, List.set_cons_succ]
              refine wpAnyH_take (i := 18) (v := ?_) rfl (by kernel_rfl) (by kernel_rfl) (by kernel_rfl) (fun _ _ _ h => h) (Or.inl ⟨by rfl, ?_⟩) (by assumption) ?_
              rotate_left
              · ((intro w0 hSw); (try dsimp only at hSw); go_simp; (try with_reducible rfl))
              change wpAnyH _ _ _ _ _ _ _ (Act.put _ (some 107) _) _
              try simp only [Act.put, List.setIfInBounds_toArray, List.set_cons_zero, List.set_cons_succ]
              as_aux_lemma =>
                refine wpAnyH_ready (rs := [20]) (by kernel_rfl) (by simp) ?_
                refine AllReadyH.cons rfl (fun K hK => ?_) (AllReadyH.nil)
                have y0 := HC185.out.c0; have y1 := HC185.out.c1; have y2 := HC185.out.c2; have y3 := HC185.out.c3; have y4 := HC185.out.c4; have f0 := HC185.out.fr 0; have f1 := HC185.out.fr 1; have f2 := HC185.out.fr 2; have f3 := HC185.out.fr 3; have f4 := HC185.out.fr 4; have HS := Lib.hid (HC185.out.set g1 g2 g3 g4 (.slice qz175 g5.length cz176)); have z0 := HS.out.c0; have z1 := HS.out.c1; have z2 := HS.out.c2; have z3 := HS.out.c3; have z4 := HS.out.c4
                go_simp
                refine hK.out _ _ ?_ (fun hHeld2 => ?_)
                · exact HAll.out _ (st5_below _ _ _ _ _ hge HB179.out)
                clear hK K hHeld
                have hHeld := hHeld2; clear hHeld2
                try simp only [Act.put, List.setIfInBounds_toArray, List.set_cons_zero, List.set_cons_succ]
                refine wpAnyH_take (i := 21) (v := ?_) rfl (by kernel_rfl) (by kernel_rfl) (by kernel_rfl) (fun _ _ _ h => h) (Or.inl ⟨by rfl, ?_⟩) (by assumption) ?_
                rotate_left
                · ((intro w0 hSw); (try dsimp only at hSw); go_simp; (try with_reducible rfl))
                change wpAnyH _ _ _ _ _ _ _ (Act.put _ (some 14) _) _
                try simp only [Act.put, List.setIfInBounds_toArray, List.set_cons_zero, List.set_cons_succ]
                refine wpAnyH_done (by kernel_rfl) ?_ _
                go_wp2_with fail
                go_meet
                case rel => exact ⟨wn143.heap.size, qz175, cz176, rfl, rfl, HK.out.newAt HB179.out hge HC185.out ⟨g1, g2, g3, g4, g5⟩ HX186.out HN187.out, fun b mb => Nat.lt_of_lt_of_le (HK.out.lt b mb) hge⟩
          · go_simp
            refine hK.out _ _ ?_ (fun hHeld2 => ?_)
            · exact HAll.out _ (HB133.out.trans ((bel1 wn134 _).mono HB133.out.size))
            clear hK K hHeld
            have hHeld := hHeld2; clear hHeld2
            try change wpAnyH _ _ _ _ _ _ _ (Act.put _ (some 13) _) _
            try simp only [Act.put, List.setIfInBounds_toArray, List.set_cons_zero, List.set_cons_succ]
            generalize hwx189 : World.alloc wn134 _ = wa188 at hHeld ⊢
            have HB190 : Hid (Below wc.heap.size wc wa188) := by rw [← hwx189]; exact HB133.out.trans ((bel1 wn134 _).mono HB133.out.size)
            have Hbx191 : Hid (Below wn134.heap.size wn134 wa188) := by rw [← hwx189]; exact bel1 _ _
            have HC192 := Lib.hid (HU137.out.next Hbx191.out)
            have HG193 : Hid (R5 wa188 wn134.heap.size 0 0 0 0 (.slice none 0 0)) := by rw [← hwx189]; exact R5.new _ _ _ _ _ _
            have hge : wc.heap.size ≤ wn134.heap.size := HB133.out.size
            clear hwx189
            refine wpAnyH_ready (rs := [14]) (by kernel_rfl) (by simp) ?_
            refine AllReadyH.cons rfl (fun K hK => ?_) (AllReadyH.nil)
            go_simp
            go_at_call 22
            with_reducible refine (HVb2.out _ (HRb2.out _ _ (by with_unfolding_all exact ((HK.out.next HB190.out).r _ (.tail _ (.tail _ (.head _))))))).mono ?_
            rintro e wn199 ⟨uz200, rfl, hu196, hb197⟩
            obtain ⟨qz194, cz195, hq201, _, _⟩ := hu196.form
            have hq2012 : uz200 = (.slice qz194 zb2.length cz195) := hq201
            subst hq2012
            clear hq201
            have HB198 := Lib.hid (HB190.out.trans (hb197.mono HB190.out.size))
            refine hK.out _ _ ?_ (fun hHeld2 => ?_)
            · exact HAll.out _ HB198.out
            clear hK K hHeld
            have hHeld := hHeld2; clear hHeld2
            try change wpAnyH _ _ _ _ _ _ _ (Act.put _ (some 104) _) _
            try dsimp only
            try simp only [Act.put, List.setIfInBounds_toArray, List.set_cons_zero, List.set_cons_succ]
            have HC202 := Lib.hid (HC192.out.next hb197)
            have HC203 := Lib.hid (HG193.out.next hb197)
            have HU204 := Lib.hid hu196.rd
            have HU204n := Lib.hid hu196.nilC
            clear hu196 hb197
            refine wpAnyH_ready (rs := [15]) (by kernel_rfl) (by simp) ?_
            refine AllReadyH.cons rfl (fun K hK => ?_) (AllReadyH.nil)
            go_simp
            go_at_call 16
            with_reducible refine (HG2.out _ _ _ (HK.out.next HB198.out).lay HC202.out HU204.out).mono ?_
            rintro e wn210 ⟨uz211, rfl, hu207, hb208⟩
            obtain ⟨qz205, cz206, hq212, _, _⟩ := hu207.form
            have hq2122 : uz211 = (.slice qz205 g5.length cz206) := hq212
            subst hq2122
            clear hq212
            have HB209 := Lib.hid (HB198.out.trans (hb208.mono HB198.out.size))
            refine hK.out _ _ ?_ (fun hHeld2 => ?_)
            · exact HAll.out _ HB209.out
            clear hK K hHeld
            have hHeld := hHeld2; clear hHeld2
            try change wpAnyH _ _ _ _ _ _ _ (Act.put _ (some 105) _) _
            try dsimp only
            try simp only [Act.put, List.setIfInBounds_toArray, List.set_cons_zero, List.set_cons_succ]
            have HC213 := Lib.hid (HC202.out.next hb208)
            have HC214 := Lib.hid (HC203.out.next hb208)
            have HC215 := Lib.hid (HU204.out.next hb208)
            have HX216 : Hid (RdX (wn134.heap.size :: List.map Bk.g [⟨gfi, ⟨uf1, uf2, uf3, uf4, uf5⟩, (.slice qfi uf5.length cfi)⟩, ⟨gwh, ⟨m1, m2, m3, m4, m5⟩, (.slice pwh m5.length cwh)⟩, ⟨(w.heap.size + 1 + 1), B, (.slice q' B.z.length cap')⟩, ⟨w.heap.size, A, (.slice q A.z.length cap)⟩]) wn210 (.slice qz205 g5.length cz206) g5) := rdN_toX hu207 (fun g mg => by
              rcases List.mem_cons.1 mg with rfl | mg
              · exact HC203.out.lt
              · exact Nat.lt_of_lt_of_le (HLt.out g mg) HB198.out.size)
            have HN217 := Lib.hid hu207.nilC
            clear hu207 hb208
            refine wpAnyH_take (i := 16) (v := ?_) rfl (by kernel_rfl) (by kernel_rfl) (by kernel_rfl) (fun _ _ _ h => h) (Or.inl ⟨by rfl, ?_⟩) (by assumption) ?_
            rotate_left
            · ((intro w0 hSw); (try dsimp only at hSw); go_simp; (try with_reducible rfl))
            change wpAnyH _ _ _ _ _ _ _ (Act.put _ (some 89) _) _
            try simp only [Act.put, List.setIfInBounds_toArray, List.set_cons_zero, List.set_cons_succ]
            refine wpAnyH_take (i := 17) (v := ?_) rfl (by kernel_rfl) (by kernel_rfl) (by kernel_rfl) (fun _ _ _ h => h) (Or.inl ⟨by rfl, ?_⟩) (by assumption) ?_
            rotate_left
            · ((intro w0 hSw); (try dsimp only at hSw); go_simp; (try with_reducible rfl))
            change wpAnyH _ _ _ _ _ _ _ (Act.put _ (some 106) _) _
            try simp only [Act.put, List.setIfInBounds_toArray, List.set_cons_zero, List.set_cons_succ]
            refine wpAnyH_take (i := 18) (v := ?_) rfl (by kernel_rfl) (by kernel_rfl) (by kernel_rfl) (fun _ _ _ h => h) (Or.inl ⟨by rfl, ?_⟩) (by assumption) ?_
            rotate_left
            · ((intro w0 hSw); (try dsimp only at hSw); go_simp; (try with_reducible rfl))
            change wpAnyH _ _ _ _ _ _ _ (Act.put _ (some 107) _) _
            try simp only [Act.put, List.setIfInBounds_toArray, List.set_cons_zero, List.set_cons_succ]
            as_aux_lemma =>
              refine wpAnyH_ready (rs := [20]) (by kernel_rfl) (by simp) ?_
              refine AllReadyH.cons rfl (fun K hK => ?_) (AllReadyH.nil)
              have y0 := HC214.out.c0; have y1 := HC214.out.c1; have y2 := HC214.out.c2; have y3 := HC214.out.c3; have y4 := HC214.out.c4; have f0 := HC214.out.fr 0; have f1 := HC214.out.fr 1; have f2 := HC214.out.fr 2; have f3 := HC214.out.fr 3; have f4 := HC214.out.fr 4; have HS := Lib.hid (HC214.out.set g1 g2 g3 g4 (.slice qz205 g5.length cz206)); have z0 := HS.out.c0; have z1 := HS.out.c1; have z2 := HS.out.c2; have z3 := HS.out.c3; have z4 := HS.out.c4
              go_simp
              refine hK.out _ _ ?_ (fun hHeld2 => ?_)
              · exact HAll.out _ (st5_below _ _ _ _ _ hge HB209.out)
              clear hK K hHeld
              have hHeld := hHeld2; clear hHeld2
              try simp only [Act.put, List.setIfInBounds_toArray, List.set_cons_zero, List.set_cons_succ]
              refine wpAnyH_take (i := 21) (v := ?_) rfl (by kernel_rfl) (by kernel_rfl) (by kernel_rfl) (fun _ _ _ h => h) (Or.inl ⟨by rfl, ?_⟩) (by assumption) ?_
              rotate_left
              · ((intro w0 hSw); (try dsimp only at hSw); go_simp; (try with_reducible rfl))
              change wpAnyH _ _ _ _ _ _ _ (Act.put _ (some 14) _) _
              try simp only [Act.put, List.setIfInBounds_toArray, List.set_cons_zero, List.set_cons_succ]
              refine wpAnyH_done (by kernel_rfl) ?_ _
              go_wp2_with fail
              go_meet
              case rel => exact ⟨wn134.heap.size, qz205, cz206, rfl, rfl, HK.out.newAt HB209.out hge HC214.out ⟨g1, g2, g3, g4, g5⟩ HX216.out HN217.out, fun b mb => Nat.lt_of_lt_of_le (HK.out.lt b mb) hge⟩
        · go_simp
          refine hK.out _ _ ?_ (fun hHeld2 => ?_)
          · exact HAll.out _ (HB0.out.trans ((bel1 wd _).mono HB0.out.size))
          clear hK K hHeld
          have hHeld := hHeld2; clear hHeld2
          try change wpAnyH _ _ _ _ _ _ _ (Act.put _ (some 13) _) _
          try simp only [Act.put, List.setIfInBounds_toArray, List.set_cons_zero, List.set_cons_succ]
          generalize hwx219 : World.alloc wd _ = wa218 at hHeld ⊢
          have HB220 : Hid (Below wc.heap.size wc wa218) := by rw [← hwx219]; exact HB0.out.trans ((bel1 wd _).mono HB0.out.size)
          have Hbx221 : Hid (Below wd.heap.size wd wa218) := by rw [← hwx219]; exact bel1 _ _
          have HG222 : Hid (R5 wa218 wd.heap.size 0 0 0 0 (.slice none 0 0)) := by rw [← hwx219]; exact R5.new _ _ _ _ _ _
          have hge : wc.heap.size ≤ wd.heap.size := HB0.out.size
          clear hwx219
          refine wpAnyH_ready (rs := [7]) (by kernel_rfl) (by simp) ?_
          refine AllReadyH.cons rfl (fun K hK => ?_) (AllReadyH.nil)
          go_simp
          go_at_call 22
          with_reducible refine (HVa2.out _ (HRa2.out _ _ (by with_unfolding_all exact ((HK.out.next HB220.out).r _ (.tail _ (.tail _ (.tail _ (.head _)))))))).mono ?_
          rintro e wn228 ⟨uz229, rfl, hu225, hb226⟩
          obtain ⟨qz223, cz224, hq230, _, _⟩ := hu225.form
          have hq2302 : uz229 = (.slice qz223 za2.length cz224) := hq230
          subst hq2302
          clear hq230
          have HB227 := Lib.hid (HB220.out.trans (hb226.mono HB220.out.size))
          refine hK.out _ _ ?_ (fun hHeld2 => ?_)
          · exact HAll.out _ HB227.out
          clear hK K hHeld
          have hHeld := hHeld2; clear hHeld2
          try change wpAnyH _ _ _ _ _ _ _ (Act.put _ (some 97) _) _
          try dsimp only
          try simp only [Act.put, List.setIfInBounds_toArray, List.set_cons_zero, List.set_cons_succ]
          have HC231 := Lib.hid (HG222.out.next hb226)
          have HU232 := Lib.hid hu225.rd
          have HU232n := Lib.hid hu225.nilC
          clear hu225 hb226
          refine wpAnyH_ready (rs := [14]) (by kernel_rfl) (by simp) ?_
          refine AllReadyH.cons rfl (fun K hK => ?_) (AllReadyH.nil)
          go_simp
          go_at_call 22
          with_reducible refine (HVb2.out _ (HRb2.out _ _ (by with_unfolding_all exact ((HK.out.next HB227.out).r _ (.tail _ (.tail _ (.head _))))))).mono ?_
          rintro e wn238 ⟨uz239, rfl, hu235, hb236⟩
          obtain ⟨qz233, cz234, hq240, _, _⟩ := hu235.form
          have hq2402 : uz239 = (.slice qz233 zb2.length cz234) := hq240
          subst hq2402
          clear hq240
          have HB237 := Lib.hid (HB227.out.trans (hb236.mono HB227.out.size))
          refine hK.out _ _ ?_ (fun hHeld2 => ?_)
          · exact HAll.out _ HB237.out
          clear hK K hHeld
          have hHeld := hHeld2; clear hHeld2
          try change wpAnyH _ _ _ _ _ _ _ (Act.put _ (some 104) _) _
          try dsimp only
          try simp only [Act.put, List.setIfInBounds_toArray, List.set_cons_zero, List.set_cons_succ]
          have HC241 := Lib.hid (HC231.out.next hb236)
          have HC242 := Lib.hid (HU232.out.next hb236)
          have HU243 := Lib.hid hu235.rd
          have HU243n := Lib.hid hu235.nilC
          clear hu235 hb236
          refine wpAnyH_ready (rs := [15]) (by kernel_rfl) (by simp) ?_
          refine AllReadyH.cons rfl (fun K hK => ?_) (AllReadyH.nil)
          go_simp
          go_at_call 16
          with_reducible refine (HG2.out _ _ _ (HK.out.next HB237.out).lay HC242.out HU243.out).mono ?_
          rintro e wn249 ⟨uz250, rfl, hu246, hb247⟩
          obtain ⟨qz244, cz245, hq251, _, _⟩ := hu246.form
          have hq2512 : uz250 = (.slice qz244 g5.length cz245) := hq251
          subst hq2512
          clear hq251
          have HB248 := Lib.hid (HB237.out.trans (hb247.mono HB237.out.size))
          refine hK.out _ _ ?_ (fun hHeld2 => ?_)
          · exact HAll.out _ HB248.out
          clear hK K hHeld
          have hHeld := hHeld2; clear hHeld2
          try change wpAnyH _ _ _ _ _ _ _ (Act.put _ (some 105) _) _
          try dsimp only
          try simp only [Act.put, List.setIfInBounds_toArray, List.set_cons_zero, List.set_cons_succ]
          have HC252 := Lib.hid (HC241.out.next hb247)
          have HC253 := Lib.hid (HC242.out.next hb247)
          have HC254 := Lib.hid (HU243.out.next hb247)
          have HX255 : Hid (RdX (wd.heap.size :: List.map Bk.g [⟨gfi, ⟨uf1, uf2, uf3, uf4, uf5⟩, (.slice qfi uf5.length cfi)⟩, ⟨gwh, ⟨m1, m2, m3, m4, m5⟩, (.slice pwh m5.length cwh)⟩, ⟨(w.heap.size + 1 + 1), B, (.slice q' B.z.length cap')⟩, ⟨w.heap.size, A, (.slice q A.z.length cap)⟩]) wn249 (.slice qz244 g5.length cz245) g5) := rdN_toX hu246 (fun g mg => by
            rcases List.mem_cons.1 mg with rfl | mg
            · exact HC241.out.lt
            · exact Nat.lt_of_lt_of_le (HLt.out g mg) HB237.out.size)
          have HN256 := Lib.hid hu246.nilC
          clear hu246 hb247
          refine wpAnyH_take (i := 16) (v := ?_) rfl (by kernel_rfl) (by kernel_rfl) (by kernel_rfl) (fun _ _ _ h => h) (Or.inl ⟨by rfl, ?_⟩) (by assumption) ?_
          rotate_left
          · ((intro w0 hSw); (try dsimp only at hSw); go_simp; (try with_reducible rfl))
          change wpAnyH _ _ _ _ _ _ _ (Act.put _ (some 89) _) _
          try simp only [Act.put, List.setIfInBounds_toArray, List.set_cons_zero, List.set_cons_succ]
          refine wpAnyH_take (i := 17) (v := ?_) rfl (by kernel_rfl) (by kernel_rfl) (by kernel_rfl) (fun _ _ _ h => h) (Or.inl ⟨by rfl, ?_⟩) (by assumption) ?_
          rotate_left
          · ((intro w0 hSw); (try dsimp only at hSw); go_simp; (try with_reducible rfl))
          change wpAnyH _ _ _ _ _ _ _ (Act.put _ (some 106) _) _
          try simp only [Act.put, List.setIfInBounds_toArray, List.set_cons_zero, List.set_cons_succ]
          refine wpAnyH_take (i := 18) (v := ?_) rfl (by kernel_rfl) (by kernel_rfl) (by kernel_rfl) (fun _ _ _ h => h) (Or.inl ⟨by rfl, ?_⟩) (by assumption) ?_
          rotate_left
          · ((intro w0 hSw); (try dsimp only at hSw); go_simp; (try with_reducible rfl))
          change wpAnyH _ _ _ _ _ _ _ (Act.put _ (some 107) _) _
          try simp only [Act.put, List.setIfInBounds_toArray, List.set_cons_zero, List.set_cons_succ]
          as_aux_lemma =>
            refine wpAnyH_ready (rs := [20]) (by kernel_rfl) (by simp) ?_
            refine AllReadyH.cons rfl (fun K hK => ?_) (AllReadyH.nil)
            have y0 := HC252.out.c0; have y1 := HC252.out.c1; have y2 := HC252.out.c2; have y3 := HC252.out.c3; have y4 := HC252.out.c4; have f0 := HC252.out.fr 0; have f1 := HC252.out.fr 1; have f2 := HC252.out.fr 2; have f3 := HC252.out.fr 3; have f4 := HC252.out.fr 4; have HS := Lib.hid (HC252.out.set g1 g2 g3 g4 (.slice qz244 g5.length cz245)); have z0 := HS.out.c0; have z1 := HS.out.c1; have z2 := HS.out.c2; have z3 := HS.out.c3; have z4 := HS.out.c4
            go_simp
            refine hK.out _ _ ?_ (fun hHeld2 => ?_)
            · exact HAll.out _ (st5_below _ _ _ _ _ hge HB248.out)
            clear hK K hHeld
            have hHeld := hHeld2; clear hHeld2
            try simp only [Act.put, List.setIfInBounds_toArray, List.set_cons_zero, List.set_cons_succ]
            refine wpAnyH_take (i := 21) (v := ?_) rfl (by kernel_rfl) (by kernel_rfl) (by kernel_rfl) (fun _ _ _ h => h) (Or.inl ⟨by rfl, ?_⟩) (by assumption) ?_
            rotate_left
            · ((intro w0 hSw); (try dsimp only at hSw); go_simp; (try with_reducible rfl))
            change wpAnyH _ _ _ _ _ _ _ (Act.put _ (some 14) _) _
            try simp only [Act.put, List.setIfInBounds_toArray, List.set_cons_zero, List.set_cons_succ]
            refine wpAnyH_done (by kernel_rfl) ?_ _
            go_wp2_with fail
            go_meet
            case rel => exact ⟨wd.heap.size, qz244, cz245, rfl, rfl, HK.out.newAt HB248.out hge HC252.out ⟨g1, g2, g3, g4, g5⟩ HX255.out HN256.out, fun b mb => Nat.lt_of_lt_of_le (HK.out.lt b mb) hge⟩
    case rest =>
      obtain ⟨gse, qse, cse, rfl, rfl, hk, hls⟩ := hcut
      have hls_fi := hls _ (.head _)
      have hls_wh := hls _ (.tail _ (.head _))
      have hls_b := hls _ (.tail _ (.tail _ (.head _)))
      have hls_x := hls _ (.tail _ (.tail _ (.tail _ (.head _))))
      clear HK hls HVa2 HVb2 HRa2 HRb2 HG2 hsa2 hsb2
      have HK : Hid (KVar w [⟨gse, ⟨g1, g2, g3, g4, g5⟩, (.slice qse g5.length cse)⟩, ⟨gfi, ⟨uf1, uf2, uf3, uf4, uf5⟩, (.slice qfi uf5.length cfi)⟩, ⟨gwh, ⟨m1, m2, m3, m4, m5⟩, (.slice pwh m5.length cwh)⟩, ⟨(w.heap.size + 1 + 1), B, (.slice q' B.z.length cap')⟩, ⟨w.heap.size, A, (.slice q A.z.length cap)⟩] wc) := hk
      clear hk
      have wh0 := (HK.out.a _ (.tail _ (.tail _ (.head _)))).c0
      have wh1 := (HK.out.a _ (.tail _ (.tail _ (.head _)))).c1
      have wh2 := (HK.out.a _ (.tail _ (.tail _ (.head _)))).c2
      have wh3 := (HK.out.a _ (.tail _ (.tail _ (.head _)))).c3
      have wh4 := (HK.out.a _ (.tail _ (.tail _ (.head _)))).c4
      have fi0 := (HK.out.a _ (.tail _ (.head _))).c0
      have fi1 := (HK.out.a _ (.tail _ (.head _))).c1
      have fi2 := (HK.out.a _ (.tail _ (.head _))).c2
      have fi3 := (HK.out.a _ (.tail _ (.head _))).c3
      have fi4 := (HK.out.a _ (.tail _ (.head _))).c4
      have se0 := (HK.out.a _ (.head _)).c0
      have se1 := (HK.out.a _ (.head _)).c1
      have se2 := (HK.out.a _ (.head _)).c2
      have se3 := (HK.out.a _ (.head _)).c3
      have se4 := (HK.out.a _ (.head _)).c4
      by_cases hF : EF ≠ 0
      · have hE := HP.out.1 hF
        have kF : (EF != 0) = true := by simpa using hF
        subst hE
        clear HP hF HCt HQ
        as_aux_lemma =>
          go_wp2_with (first
            | (go_at_call 15; (with_reducible refine (HAw.out _ (by with_unfolding_all exact HK.out.lay)).mono ?_); rintro e wz ⟨rfl, hb⟩; have HK2 := Lib.hid (HK.out.next hb); clear HK wh0 wh1 wh2 wh3 wh4 fi0 fi1 fi2 fi3 fi4 se0 se1 se2 se3 se4; have HK := HK2; clear HK2; clear hb; have wh0 := (HK.out.a _ (.tail _ (.tail _ (.head _)))).c0; have wh1 := (HK.out.a _ (.tail _ (.tail _ (.head _)))).c1; have wh2 := (HK.out.a _ (.tail _ (.tail _ (.head _)))).c2; have wh3 := (HK.out.a _ (.tail _ (.tail _ (.head _)))).c3; have wh4 := (HK.out.a _ (.tail _ (.tail _ (.head _)))).c4; have fi0 := (HK.out.a _ (.tail _ (.head _))).c0; have fi1 := (HK.out.a _ (.tail _ (.head _))).c1; have fi2 := (HK.out.a _ (.tail _ (.head _))).c2; have fi3 := (HK.out.a _ (.tail _ (.head _))).c3; have fi4 := (HK.out.a _ (.tail _ (.head _))).c4; have se0 := (HK.out.a _ (.head _)).c0; have se1 := (HK.out.a _ (.head _)).c1; have se2 := (HK.out.a _ (.head _)).c2; have se3 := (HK.out.a _ (.head _)).c3; have se4 := (HK.out.a _ (.head _)).c4)
            | fail)
          go_ret
          exact ⟨rfl, HK.out.bel⟩
      have hF0 : EF = 0 := by omega
      by_cases hG : EG ≠ 0
      · have hE := HP.out.2.1 hF0 hG
        have kG : (EG != 0) = true := by simpa using hG
        subst hE hF0
        clear HP hF hG HCt HQ
        as_aux_lemma =>
          go_wp2_with (first
            | (go_at_call 15; (with_reducible refine (HAw.out _ (by with_unfolding_all exact HK.out.lay)).mono ?_); rintro e wz ⟨rfl, hb⟩; have HK2 := Lib.hid (HK.out.next hb); clear HK wh0 wh1 wh2 wh3 wh4 fi0 fi1 fi2 fi3 fi4 se0 se1 se2 se3 se4; have HK := HK2; clear HK2; clear hb; have wh0 := (HK.out.a _ (.tail _ (.tail _ (.head _)))).c0; have wh1 := (HK.out.a _ (.tail _ (.tail _ (.head _)))).c1; have wh2 := (HK.out.a _ (.tail _ (.tail _ (.head _)))).c2; have wh3 := (HK.out.a _ (.tail _ (.tail _ (.head _)))).c3; have wh4 := (HK.out.a _ (.tail _ (.tail _ (.head _)))).c4; have fi0 := (HK.out.a _ (.tail _ (.head _))).c0; have fi1 := (HK.out.a _ (.tail _ (.head _))).c1; have fi2 := (HK.out.a _ (.tail _ (.head _))).c2; have fi3 := (HK.out.a _ (.tail _ (.head _))).c3; have fi4 := (HK.out.a _ (.tail _ (.head _))).c4; have se0 := (HK.out.a _ (.head _)).c0; have se1 := (HK.out.a _ (.head _)).c1; have se2 := (HK.out.a _ (.head _)).c2; have se3 := (HK.out.a _ (.head _)).c3; have se4 := (HK.out.a _ (.head _)).c4)
            | fail)
          go_ret
          exact ⟨rfl, HK.out.bel⟩
      have hG0 : EG = 0 := by omega
      obtain ⟨hE, hc1, hc2⟩ := HP.out.2.2 hF0 hG0
      rw [hc1, hc2] at HCt
      subst hE hF0 hG0
      clear HP hF hG hc1 hc2
      as_aux_lemma =>
        go_wp2_with (first
          | (go_at_call 23; (with_reducible refine (HCt.out _ _ _ (by with_unfolding_all exact HK.out.lay) (by with_unfolding_all exact (HK.out.r _ (.tail _ (.head _)))) (by with_unfolding_all exact (HK.out.r _ (.head _))) (by with_unfolding_all exact HK.out.n _ (.tail _ (.head _))) (by with_unfolding_all exact HK.out.n _ (.head _))).mono ?_); rintro e wbo ⟨uwbo, rfl, hu, hb⟩; obtain ⟨pwbo, cwbo, hpwbo, _, _⟩ := hu.form; have hqwbo : uwbo = (.slice pwbo m5.length cwbo) := hpwbo; subst hqwbo; clear hpwbo; have hltsebo : gse < wbo.heap.size := Nat.lt_of_lt_of_le (HK.out.lt _ (.head _)) hb.size; have hltfibo : gfi < wbo.heap.size := Nat.lt_of_lt_of_le (HK.out.lt _ (.tail _ (.head _))) hb.size; have hltwhbo : gwh < wbo.heap.size := Nat.lt_of_lt_of_le (HK.out.lt _ (.tail _ (.tail _ (.head _)))) hb.size; have hltbbo : (w.heap.size + 1 + 1) < wbo.heap.size := Nat.lt_of_lt_of_le (HK.out.lt _ (.tail _ (.tail _ (.tail _ (.head _))))) hb.size; have hltxbo : w.heap.size < wbo.heap.size := Nat.lt_of_lt_of_le (HK.out.lt _ (.tail _ (.tail _ (.tail _ (.tail _ (.head _)))))) hb.size; have HK2 := Lib.hid (HK.out.res hb ⟨m1, m2, m3, m4, m5⟩ hu); clear HK wh0 wh1 wh2 wh3 wh4 fi0 fi1 fi2 fi3 fi4 se0 se1 se2 se3 se4; have HK := HK2; clear HK2; clear hb hu; have wh0 := (HK.out.a _ (.tail _ (.tail _ (.tail _ (.head _))))).c0; have wh1 := (HK.out.a _ (.tail _ (.tail _ (.tail _ (.head _))))).c1; have wh2 := (HK.out.a _ (.tail _ (.tail _ (.tail _ (.head _))))).c2; have wh3 := (HK.out.a _ (.tail _ (.tail _ (.tail _ (.head _))))).c3; have wh4 := (HK.out.a _ (.tail _ (.tail _ (.tail _ (.head _))))).c4; have fi0 := (HK.out.a _ (.tail _ (.tail _ (.head _)))).c0; have fi1 := (HK.out.a _ (.tail _ (.tail _ (.head _)))).c1; have fi2 := (HK.out.a _ (.tail _ (.tail _ (.head _)))).c2; have fi3 := (HK.out.a _ (.tail _ (.tail _ (.head _)))).c3; have fi4 := (HK.out.a _ (.tail _ (.tail _ (.head _)))).c4; have se0 := (HK.out.a _ (.tail _ (.head _))).c0; have se1 := (HK.out.a _ (.tail _ (.head _))).c1; have se2 := (HK.out.a _ (.tail _ (.head _))).c2; have se3 := (HK.out.a _ (.tail _ (.head _))).c3; have se4 := (HK.out.a _ (.tail _ (.head _))).c4; have bo0 := (HK.out.a _ (.head _)).c0; have bo1 := (HK.out.a _ (.head _)).c1; have bo2 := (HK.out.a _ (.head _)).c2; have bo3 := (HK.out.a _ (.head _)).c3; have bo4 := (HK.out.a _ (.head _)).c4)
          | (go_at_call 24; (with_reducible refine (HQ.out _ _ _ (by with_unfolding_all exact (HK.out.r _ (.tail _ (.tail _ (.tail _ (.head _)))))) (by with_unfolding_all exact (HK.out.r _ (.head _)))).mono ?_); rintro e wz ⟨rfl, hb⟩; have HK2 := Lib.hid (HK.out.next hb); clear HK wh0 wh1 wh2 wh3 wh4 fi0 fi1 fi2 fi3 fi4 se0 se1 se2 se3 se4 bo0 bo1 bo2 bo3 bo4; have HK := HK2; clear HK2; clear hb; have wh0 := (HK.out.a _ (.tail _ (.tail _ (.tail _ (.head _))))).c0; have wh1 := (HK.out.a _ (.tail _ (.tail _ (.tail _ (.head _))))).c1; have wh2 := (HK.out.a _ (.tail _ (.tail _ (.tail _ (.head _))))).c2; have wh3 := (HK.out.a _ (.tail _ (.tail _ (.tail _ (.head _))))).c3; have wh4 := (HK.out.a _ (.tail _ (.tail _ (.tail _ (.head _))))).c4; have fi0 := (HK.out.a _ (.tail _ (.tail _ (.head _)))).c0; have fi1 := (HK.out.a _ (.tail _ (.tail _ (.head _)))).c1; have fi2 := (HK.out.a _ (.tail _ (.tail _ (.head _)))).c2; have fi3 := (HK.out.a _ (.tail _ (.tail _ (.head _)))).c3; have fi4 := (HK.out.a _ (.tail _ (.tail _ (.head _)))).c4; have se0 := (HK.out.a _ (.tail _ (.head _))).c0; have se1 := (HK.out.a _ (.tail _ (.head _))).c1; have se2 := (HK.out.a _ (.tail _ (.head _))).c2; have se3 := (HK.out.a _ (.tail _ (.head _))).c3; have se4 := (HK.out.a _ (.tail _ (.head _))).c4; have bo0 := (HK.out.a _ (.head _)).c0; have bo1 := (HK.out.a _ (.head _)).c1; have bo2 := (HK.out.a _ (.head _)).c2; have bo3 := (HK.out.a _ (.head _)).c3; have bo4 := (HK.out.a _ (.head _)).c4)
          | (go_at_call 15; (with_reducible refine (HAw.out _ (by with_unfolding_all exact HK.out.lay)).mono ?_); rintro e wz ⟨rfl, hb⟩; have HK2 := Lib.hid (HK.out.next hb); clear HK wh0 wh1 wh2 wh3 wh4 fi0 fi1 fi2 fi3 fi4 se0 se1 se2 se3 se4 bo0 bo1 bo2 bo3 bo4; have HK := HK2; clear HK2; clear hb; have wh0 := (HK.out.a _ (.tail _ (.tail _ (.tail _ (.head _))))).c0; have wh1 := (HK.out.a _ (.tail _ (.tail _ (.tail _ (.head _))))).c1; have wh2 := (HK.out.a _ (.tail _ (.tail _ (.tail _ (.head _))))).c2; have wh3 := (HK.out.a _ (.tail _ (.tail _ (.tail _ (.head _))))).c3; have wh4 := (HK.out.a _ (.tail _ (.tail _ (.tail _ (.head _))))).c4; have fi0 := (HK.out.a _ (.tail _ (.tail _ (.head _)))).c0; have fi1 := (HK.out.a _ (.tail _ (.tail _ (.head _)))).c1; have fi2 := (HK.out.a _ (.tail _ (.tail _ (.head _)))).c2; have fi3 := (HK.out.a _ (.tail _ (.tail _ (.head _)))).c3; have fi4 := (HK.out.a _ (.tail _ (.tail _ (.head _)))).c4; have se0 := (HK.out.a _ (.tail _ (.head _))).c0; have se1 := (HK.out.a _ (.tail _ (.head _))).c1; have se2 := (HK.out.a _ (.tail _ (.head _))).c2; have se3 := (HK.out.a _ (.tail _ (.head _))).c3; have se4 := (HK.out.a _ (.tail _ (.head _))).c4; have bo0 := (HK.out.a _ (.head _)).c0; have bo1 := (HK.out.a _ (.head _)).c1; have bo2 := (HK.out.a _ (.head _)).c2; have bo3 := (HK.out.a _ (.head _)).c3; have bo4 := (HK.out.a _ (.head _)).c4)
          | fail)
        go_ret
        exact ⟨rfl, HK.out.bel⟩
end Go.Proofs.YtokmdgiialcokaaDoor
