/- The library's way to read a rune and 'dec'. No run in this text. -/
import Derived.Test.YtdbampgbbghfkaaDoorRuC
import Derived.Lib.DecodeNEq
namespace Go.Proofs.YtdbampgbbghfkaaDoor.Ru
open Go

def fullT (n b0 b1 b2 : Nat) : Bool :=
  decide (Lib.firstT b0 % 8 ≤ n) || (decide (1 < n) && (decide (b1 < Lib.accLo (Lib.firstT b0 / 16)) || decide (Lib.accHi (Lib.firstT b0 / 16) < b1))) || (decide (2 < n) && (decide (b2 < 128) || decide (191 < b2)))

theorem decN_ok (n b0 b1 b2 b3 r k : Nat) (h : decT n b0 b1 b2 b3 = (r, k, 0)) : Lib.decodeN n b0 b1 b2 b3 = (r, k) ∧ (r = 65533 → 1 < k) := by
  have h0 : (decT n b0 b1 b2 b3).2.2 = 0 := by rw [h]
  rcases decT_ok n b0 b1 b2 b3 h0 with ⟨a, e⟩ | ⟨hn', a1, a2, a3, e⟩ | ⟨hn', a1, a2, a3, a4, a5, a6, e⟩ | ⟨hn', a1, a2, a3, a4, a5, a6, a7, e⟩
  all_goals
    rw [e] at h
    simp only [Prod.mk.injEq] at h
    obtain ⟨rfl, rfl, _⟩ := h
    refine ⟨?_, by omega⟩
    unfold Lib.decodeN
  · rw [if_pos a]
  · rw [if_neg (by omega), if_pos (by omega), if_pos (by omega)]
  · rw [if_neg (by omega), if_neg (by omega), if_pos (by omega), if_pos (by omega)]
  · rw [if_neg (by omega), if_neg (by omega), if_neg (by omega), if_pos (by omega), if_pos (by omega)]
theorem decN_bad (n b0 b1 b2 b3 : Nat) (h : (decT n b0 b1 b2 b3).2.2 ≠ 0) : Lib.decodeN n b0 b1 b2 b3 = (65533, 1) := by
  have key : ∀ r k, Lib.decodeN n b0 b1 b2 b3 = (r, k) → (r, k) ≠ (65533, 1) → (decT n b0 b1 b2 b3).2.2 = 0 := by
    intro r k e hne
    unfold Lib.decodeN at e
    unfold decT
    by_cases h0 : b0 < 128
    · rw [if_pos h0]
    rw [if_neg h0] at e ⊢
    by_cases h1 : b0 / 32 = 6 ∧ (1 < n ∧ b1 / 64 = 2)
    · rw [if_pos h1] at e
      split at e
      · rw [if_neg (by omega), if_pos (by omega), if_neg (by omega), if_pos (by omega)]
      · exact absurd e.symm hne
    rw [if_neg h1] at e
    by_cases h2 : b0 / 16 = 14 ∧ (1 < n ∧ b1 / 64 = 2) ∧ (2 < n ∧ b2 / 64 = 2)
    · rw [if_pos h2] at e
      split at e
      · rw [if_neg (by omega), if_neg (by omega), if_pos (by omega), if_neg (by omega), if_neg (by omega), if_neg (by omega), if_pos (by omega)]
      · exact absurd e.symm hne
    rw [if_neg h2] at e
    by_cases h3 : b0 / 8 = 30 ∧ (1 < n ∧ b1 / 64 = 2) ∧ (2 < n ∧ b2 / 64 = 2) ∧ (3 < n ∧ b3 / 64 = 2)
    · rw [if_pos h3] at e
      split at e
      · rw [if_neg (by omega), if_neg (by omega), if_neg (by omega), if_pos (by omega), if_neg (by omega), if_neg (by omega), if_neg (by omega), if_neg (by omega), if_neg (by omega), if_pos (by omega)]
      · exact absurd e.symm hne
    rw [if_neg h3] at e
    exact absurd e.symm hne
  by_cases hne : ((Lib.decodeN n b0 b1 b2 b3).1, (Lib.decodeN n b0 b1 b2 b3).2) = (65533, 1)
  · exact hne
  · exact absurd (key _ _ rfl hne) h
def fB (sz lo hi n b1 b2 : Nat) : Bool := decide (sz ≤ n) || (decide (1 < n) && (decide (b1 < lo) || decide (hi < b1))) || (decide (2 < n) && (decide (b2 < 128) || decide (191 < b2)))
theorem fB_t {sz lo hi n b1 b2 : Nat} (h : sz ≤ n ∨ (1 < n ∧ (b1 < lo ∨ hi < b1)) ∨ (2 < n ∧ (b2 < 128 ∨ 191 < b2))) : fB sz lo hi n b1 b2 = true := by
  simp only [fB, Bool.or_eq_true, Bool.and_eq_true, decide_eq_true_eq]; omega
theorem fB_f {sz lo hi n b1 b2 : Nat} (h : ¬ (sz ≤ n ∨ (1 < n ∧ (b1 < lo ∨ hi < b1)) ∨ (2 < n ∧ (b2 < 128 ∨ 191 < b2)))) : fB sz lo hi n b1 b2 = false := by
  rw [Bool.eq_false_iff]; simp only [fB, ne_eq, Bool.or_eq_true, Bool.and_eq_true, decide_eq_true_eq]; omega
theorem fullT_fB (n b0 b1 b2 X : Nat) (h : Lib.firstT b0 = X) : fullT n b0 b1 b2 = fB (X % 8) (Lib.accLo (X / 16)) (Lib.accHi (X / 16)) n b1 b2 := by subst h; rfl
theorem f3 (n b1 b2 lo hi v : Nat) (C : Prop) [Decidable C] (hC : C ↔ (b1 < lo ∨ hi < b1)) (_ : b2 < 256) :
    ((if n < 2 then (0, 0, 370) else if C then (0, 0, 6) else if n < 3 then (0, 0, 370) else if b2 / 64 = 2 then (v, 3, 0) else (0, 0, 6) : Nat × Nat × Nat) = (0, 0, 6) → fB 3 lo hi n b1 b2 = true) ∧
    ((if n < 2 then (0, 0, 370) else if C then (0, 0, 6) else if n < 3 then (0, 0, 370) else if b2 / 64 = 2 then (v, 3, 0) else (0, 0, 6) : Nat × Nat × Nat) = (0, 0, 370) → fB 3 lo hi n b1 b2 = false) := by
  by_cases a : n < 2
  · rw [if_pos a]; exact ⟨fun h => by simp at h, fun _ => fB_f (by omega)⟩
  rw [if_neg a]
  by_cases c : C
  · rw [if_pos c]; have := hC.1 c; exact ⟨fun _ => fB_t (by omega), fun h => by simp at h⟩
  rw [if_neg c]
  have hc : ¬ (b1 < lo ∨ hi < b1) := fun h => c (hC.2 h)
  by_cases d : n < 3
  · rw [if_pos d]; exact ⟨fun h => by simp at h, fun _ => fB_f (by omega)⟩
  rw [if_neg d]
  by_cases e : b2 / 64 = 2
  · rw [if_pos e]; exact ⟨fun h => by simp at h, fun h => by simp at h⟩
  · rw [if_neg e]; exact ⟨fun _ => fB_t (by omega), fun h => by simp at h⟩
theorem f4 (n b1 b2 b3 lo hi v : Nat) (C : Prop) [Decidable C] (hC : C ↔ (b1 < lo ∨ hi < b1)) (h2 : b2 < 256) :
    ((if n < 2 then (0, 0, 370) else if C then (0, 0, 6) else if n < 3 then (0, 0, 370) else if b2 / 64 ≠ 2 then (0, 0, 6) else if n < 4 then (0, 0, 370) else if b3 / 64 = 2 then (v, 4, 0) else (0, 0, 6) : Nat × Nat × Nat) = (0, 0, 6) → fB 4 lo hi n b1 b2 = true) ∧
    ((if n < 2 then (0, 0, 370) else if C then (0, 0, 6) else if n < 3 then (0, 0, 370) else if b2 / 64 ≠ 2 then (0, 0, 6) else if n < 4 then (0, 0, 370) else if b3 / 64 = 2 then (v, 4, 0) else (0, 0, 6) : Nat × Nat × Nat) = (0, 0, 370) → fB 4 lo hi n b1 b2 = false) := by
  by_cases a : n < 2
  · rw [if_pos a]; exact ⟨fun h => by simp at h, fun _ => fB_f (by omega)⟩
  rw [if_neg a]
  by_cases c : C
  · rw [if_pos c]; have := hC.1 c; exact ⟨fun _ => fB_t (by omega), fun h => by simp at h⟩
  rw [if_neg c]
  have hc : ¬ (b1 < lo ∨ hi < b1) := fun h => c (hC.2 h)
  by_cases d : n < 3
  · rw [if_pos d]; exact ⟨fun h => by simp at h, fun _ => fB_f (by omega)⟩
  rw [if_neg d]
  by_cases e : b2 / 64 ≠ 2
  · rw [if_pos e]; exact ⟨fun _ => fB_t (by omega), fun h => by simp at h⟩
  rw [if_neg e]
  by_cases f : n < 4
  · rw [if_pos f]; exact ⟨fun h => by simp at h, fun _ => fB_f (by omega)⟩
  rw [if_neg f]
  by_cases g : b3 / 64 = 2
  · rw [if_pos g]; exact ⟨fun h => by simp at h, fun h => by simp at h⟩
  · rw [if_neg g]; exact ⟨fun _ => fB_t (by omega), fun h => by simp at h⟩
theorem full_form (n b0 b1 b2 b3 : Nat) (hn : 1 ≤ n) (h0 : b0 < 256) (h1 : b1 < 256) (h2 : b2 < 256) :
    (decT n b0 b1 b2 b3 = (0, 0, 6) → fullT n b0 b1 b2 = true) ∧ (decT n b0 b1 b2 b3 = (0, 0, 370) → fullT n b0 b1 b2 = false) := by
  have hf : (b0 < 128 ∧ Lib.firstT b0 = 240) ∨ (128 ≤ b0 ∧ b0 < 194 ∧ Lib.firstT b0 = 241) ∨ (194 ≤ b0 ∧ b0 < 224 ∧ Lib.firstT b0 = 2) ∨ (b0 = 224 ∧ Lib.firstT b0 = 19) ∨ (224 < b0 ∧ b0 < 240 ∧ b0 ≠ 237 ∧ Lib.firstT b0 = 3) ∨ (b0 = 237 ∧ Lib.firstT b0 = 35) ∨ (b0 = 240 ∧ Lib.firstT b0 = 52) ∨ (240 < b0 ∧ b0 < 244 ∧ Lib.firstT b0 = 4) ∨ (b0 = 244 ∧ Lib.firstT b0 = 68) ∨ (244 < b0 ∧ Lib.firstT b0 = 241) := by
    unfold Lib.firstT
    repeat' split
    all_goals omega
  rcases hf with ⟨a, e⟩ | ⟨a, a', e⟩ | ⟨a, a', e⟩ | ⟨a, e⟩ | ⟨a, a', a'', e⟩ | ⟨a, e⟩ | ⟨a, e⟩ | ⟨a, a', e⟩ | ⟨a, e⟩ | ⟨a, e⟩
  all_goals
    rw [fullT_fB n b0 b1 b2 _ e]
    unfold decT
  · rw [if_pos a]; constructor <;> intro h <;> simp at h
  · rw [if_neg (by omega), if_pos (by omega)]; exact ⟨fun _ => fB_t (by omega), fun h => by simp at h⟩
  · rw [if_neg (by omega), if_neg (by omega), if_pos (by omega)]
    by_cases c : n < 2
    · rw [if_pos c]; exact ⟨fun h => by simp at h, fun _ => fB_f (by omega)⟩
    rw [if_neg c]
    by_cases d : b1 / 64 = 2
    · rw [if_pos d]; exact ⟨fun h => by simp at h, fun h => by simp at h⟩
    · rw [if_neg d]; exact ⟨fun _ => fB_t (by omega), fun h => by simp at h⟩
  · rw [if_neg (by omega), if_neg (by omega), if_neg (by omega), if_pos (by omega)]
    exact f3 n b1 b2 160 191 _ _ (by omega) h2
  · rw [if_neg (by omega), if_neg (by omega), if_neg (by omega), if_pos (by omega)]
    exact f3 n b1 b2 128 191 _ _ (by omega) h2
  · rw [if_neg (by omega), if_neg (by omega), if_neg (by omega), if_pos (by omega)]
    exact f3 n b1 b2 128 159 _ _ (by omega) h2
  · rw [if_neg (by omega), if_neg (by omega), if_neg (by omega), if_neg (by omega), if_pos (by omega)]
    exact f4 n b1 b2 b3 144 191 _ _ (by omega) h2
  · rw [if_neg (by omega), if_neg (by omega), if_neg (by omega), if_neg (by omega), if_pos (by omega)]
    exact f4 n b1 b2 b3 128 191 _ _ (by omega) h2
  · rw [if_neg (by omega), if_neg (by omega), if_neg (by omega), if_neg (by omega), if_pos (by omega)]
    exact f4 n b1 b2 b3 128 143 _ _ (by omega) h2
  · rw [if_neg (by omega), if_neg (by omega), if_neg (by omega), if_neg (by omega), if_neg (by omega)]
    exact ⟨fun _ => fB_t (by omega), fun h => by simp at h⟩
end Go.Proofs.YtdbampgbbghfkaaDoor.Ru
