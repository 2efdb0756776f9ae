/- Lens of the code. -/
import Derived.Test.YtokmdgiialcokaaDoorExF
namespace Go.Proofs.YtokmdgiialcokaaDoor
open Go.RowKit

/-- What Lens' walk keeps. -/
structure KLn (w : World) (A : Ar) (v : Value) (B : Ar) (u : Value) (W : World) : Prop where
  bel : Below w.heap.size w W
  ba : R5 W w.heap.size A.k A.r A.a A.b v
  bb : R5 W (w.heap.size + 1) B.k B.r B.a B.b u
  res : R2 W (w.heap.size + 2) 0 0
  ra : RdI W.heap.size W v A.z
  rb : RdI W.heap.size W u B.z
  lay : Ru.Lay W
theorem KLn.next {w W W' : World} {A B : Ar} {v u : Value} (h : KLn w A v B u W) (hb : Below W.heap.size W W') : KLn w A v B u W' :=
  ⟨h.bel.trans (hb.mono h.bel.size), h.ba.next hb, h.bb.next hb, h.res.next hb, h.ra.next hb, h.rb.next hb, h.lay.next hb⟩
theorem KLn.new {w : World} {v u : Value} {A B : Ar} (hw : Ru.Lay w) (hv : RdI w.heap.size w v A.z) (hu : RdI w.heap.size w u B.z) : KLn w A v B u (((w.alloc (.cells #[.int .i64 A.k, .int .i64 A.r, .int .i64 A.a, .int .i64 A.b, v] 25)).alloc (.cells #[.int .i64 B.k, .int .i64 B.r, .int .i64 B.a, .int .i64 B.b, u] 25)).alloc (.cells #[.int .i64 0, .int .i64 0] 22)) := by
  have h2 := bel1 w (.cells #[.int .i64 A.k, .int .i64 A.r, .int .i64 A.a, .int .i64 A.b, v] 25)
  have s2 : (w.alloc (.cells #[.int .i64 A.k, .int .i64 A.r, .int .i64 A.a, .int .i64 A.b, v] 25)).heap.size = w.heap.size + 1 := by simp
  have ha := R5.new w A.k A.r A.a A.b v
  generalize w.alloc (.cells #[.int .i64 A.k, .int .i64 A.r, .int .i64 A.a, .int .i64 A.b, v] 25) = w2 at h2 s2 ha ⊢
  have h3 := bel1 w2 (.cells #[.int .i64 B.k, .int .i64 B.r, .int .i64 B.a, .int .i64 B.b, u] 25)
  have s3 : (w2.alloc (.cells #[.int .i64 B.k, .int .i64 B.r, .int .i64 B.a, .int .i64 B.b, u] 25)).heap.size = w.heap.size + 2 := by simp [s2]
  have hb := R5.new w2 B.k B.r B.a B.b u
  rw [s2] at hb
  generalize w2.alloc (.cells #[.int .i64 B.k, .int .i64 B.r, .int .i64 B.a, .int .i64 B.b, u] 25) = w3 at h3 s3 hb ⊢
  have h4 := bel1 w3 (.cells #[.int .i64 0, .int .i64 0] 22)
  have hr := R2.new w3 0 0
  rw [s3] at hr
  have h13 := h2.trans (h3.mono h2.size)
  exact ⟨h13.trans (h4.mono h13.size), (ha.next h3).next h4, hb.next h4, hr, ((hv.next h2).next h3).next h4, ((hu.next h2).next h3).next h4, ((hw.next h2).next h3).next h4⟩
theorem efault2_new (kd : Bool) (A B : Ar) (v u : Value) (W : World) (g : Nat) (hg : W.heap.size = g) (hw : Ru.Lay W) (hv : RdI W.heap.size W v A.z) (hu : RdI W.heap.size W u B.z) (hl : A.z.length ≤ 1000000) (hl' : B.z.length ≤ 1000000) :
    Calls Tryd.prog 49 #[.bool kd, .slice (some ⟨g, 0, none⟩) 2 2] (W.alloc (.cells #[.int .i64 A.k, .int .i64 A.r, .int .i64 A.a, .int .i64 A.b, v, .int .i64 B.k, .int .i64 B.r, .int .i64 B.a, .int .i64 B.b, u] 25)) fun e w' => e = .returned (.int .i64 (faV kd (if ck A ≠ 0 then ck A else ck B))) ∧ Below W.heap.size W w' := by
  subst hg
  have hb := bel1 W (.cells #[.int .i64 A.k, .int .i64 A.r, .int .i64 A.a, .int .i64 A.b, v, .int .i64 B.k, .int .i64 B.r, .int .i64 B.a, .int .i64 B.b, u] 25)
  have ha := at2_new A B v u W
  exact (efault2_at kd A B v u _ W.heap.size (by simp) ha.1 ha.2 (hw.next hb) (hv.next hb) (hu.next hb) hl hl').mono fun e w' ⟨h1, h2⟩ => ⟨h1, hb.trans (h2.mono hb.size)⟩
theorem ln_bad {A B : Ar} (h : lnF A B ≠ 0) : lnR A B = 0 ∧ lnA A B = 0 ∧ lnB A B = 0 := by unfold lnR lnA lnB; rw [if_neg h, if_neg h, if_neg h]; exact ⟨rfl, rfl, rfl⟩
theorem ln_bo {A B : Ar} (h : lnF A B = boE A B) : lnR A B = (orNo (boE A B) (boV A B)).r ∧ lnA A B = (orNo (boE A B) (boV A B)).a ∧ lnB A B = (orNo (boE A B) (boV A B)).b := by
  unfold lnR lnA lnB
  rw [h]
  by_cases h0 : boE A B = 0
  · rw [if_pos h0, if_pos h0, if_pos h0, orNo_yes h0]; exact ⟨rfl, rfl, rfl⟩
  · rw [if_neg h0, if_neg h0, if_neg h0, orNo_no h0]; exact ⟨rfl, rfl, rfl⟩
end Go.Proofs.YtokmdgiialcokaaDoor
