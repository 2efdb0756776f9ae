/- Plain facts on the order of arrays. -/
import Derived.Test.YtmacimkkgiogbaaDoorArX
namespace Go.Proofs.YtmacimkkgiogbaaDoor
open Go.RowKit

theorem cm_cases (x y : Int) : (x < y ∧ cmZ x y = -1) ∨ (x = y ∧ cmZ x y = 0) ∨ (y < x ∧ cmZ x y = 1) := by
  unfold cmZ
  by_cases h1 : x < y
  · exact .inl ⟨h1, if_pos h1⟩
  · by_cases h2 : y < x
    · exact .inr (.inr ⟨h2, by rw [if_neg h1, if_pos h2]⟩)
    · exact .inr (.inl ⟨by omega, by rw [if_neg h1, if_neg h2]⟩)
theorem cm_rev (x y : Int) : cmZ y x = -cmZ x y := by
  rcases cm_cases x y with ⟨h, e⟩ | ⟨h, e⟩ | ⟨h, e⟩ <;> rcases cm_cases y x with ⟨k, f⟩ | ⟨k, f⟩ | ⟨k, f⟩ <;> omega
theorem lx_bd : ∀ l m : List Int, lxZ l m = -1 ∨ lxZ l m = 0 ∨ lxZ l m = 1
  | [], [] => .inr (.inl rfl)
  | [], _ :: _ => .inl rfl
  | _ :: _, [] => .inr (.inr rfl)
  | x :: l, y :: m => by
    simp only [lxZ]
    split
    · exact lx_bd l m
    · rcases cm_cases x y with ⟨_, e⟩ | ⟨_, e⟩ | ⟨_, e⟩ <;> omega
theorem lx_rev : ∀ l m : List Int, lxZ m l = -lxZ l m
  | [], [] => rfl
  | [], _ :: _ => rfl
  | _ :: _, [] => rfl
  | x :: l, y :: m => by
    simp only [lxZ]
    rw [cm_rev x y]
    by_cases h : cmZ x y = 0
    · rw [if_pos (by omega), if_pos h, lx_rev l m]
    · rw [if_neg (by omega), if_neg h]
theorem lx_zero : ∀ l m : List Int, lxZ l m = 0 ↔ l = m
  | [], [] => ⟨fun _ => rfl, fun _ => rfl⟩
  | [], _ :: _ => ⟨(fun h => by simp [lxZ] at h), (fun h => by cases h)⟩
  | _ :: _, [] => ⟨(fun h => by simp [lxZ] at h), (fun h => by cases h)⟩
  | x :: l, y :: m => by
    simp only [lxZ]
    by_cases h : cmZ x y = 0
    · rw [if_pos h, lx_zero l m]
      have : x = y := by rcases cm_cases x y with ⟨_, e⟩ | ⟨k, e⟩ | ⟨_, e⟩ <;> omega
      subst this
      simp
    · rw [if_neg h]
      constructor
      · intro k; exact absurd k h
      · intro k; cases k; exact absurd (cm_self x) h
theorem lx_trans : ∀ l m n : List Int, lxZ l m ≤ 0 → lxZ m n ≤ 0 → lxZ l n ≤ 0 ∧ (lxZ l m < 0 → lxZ l n < 0)
  | [], m, [], h, k => by
    cases m with
    | nil => exact ⟨by decide, fun q => by cases q⟩
    | cons y m => simp [lxZ] at k
  | [], m, z :: n, h, k => ⟨by simp [lxZ], fun _ => by simp [lxZ]⟩
  | x :: l, [], n, h, k => by simp [lxZ] at h
  | x :: l, y :: m, [], h, k => by simp [lxZ] at k
  | x :: l, y :: m, z :: n, h, k => by
    simp only [lxZ] at h k ⊢
    rcases cm_cases x y with ⟨a1, e1⟩ | ⟨a1, e1⟩ | ⟨a1, e1⟩
    · rw [e1] at h ⊢
      have : x < z := by
        rcases cm_cases y z with ⟨a2, e2⟩ | ⟨a2, e2⟩ | ⟨a2, e2⟩
        · omega
        · omega
        · rw [e2] at k; simp at k
      rcases cm_cases x z with ⟨a3, e3⟩ | ⟨a3, e3⟩ | ⟨a3, e3⟩
      · rw [e3]; simp
      · omega
      · omega
    · subst a1
      rw [e1, if_pos rfl] at h ⊢
      by_cases h2 : cmZ x z = 0
      · rw [if_pos h2] at k ⊢
        exact lx_trans l m n h k
      · rw [if_neg h2] at k ⊢
        exact ⟨k, fun _ => by omega⟩
    · rw [e1] at h; simp at h
theorem hd_inj {A B : Ar} : hdZ A = hdZ B ↔ A = B := by
  obtain ⟨k, r, a, b, z⟩ := A
  obtain ⟨k', r', a', b', z'⟩ := B
  simp [hdZ]
/-- Compare of two arrays is the order of lists. -/
theorem fd_lx' : ∀ (l m : List Int), (∀ j, l.take 4 = m.take 4 → j = 0 → l.length = m.length) → 4 ≤ l.length → 4 ≤ m.length → fdZ l m = lxZ l m
  | a :: b :: c :: d :: l, a' :: b' :: c' :: d' :: m, h, _, _ => by
    simp only [fdZ, lxZ]
    by_cases e1 : a = a'
    · rw [if_pos e1, e1, if_pos (cm_self _)]
      by_cases e2 : b = b'
      · rw [if_pos e2, e2, if_pos (cm_self _)]
        by_cases e3 : c = c'
        · rw [if_pos e3, e3, if_pos (cm_self _)]
          by_cases e4 : d = d'
          · rw [if_pos e4, e4, if_pos (cm_self _)]
            refine fd_lx l m ?_
            have := h 0 (by simp [e1, e2, e3, e4]) rfl
            simpa using this
          · rw [if_neg e4, if_neg (cm_ne e4)]
        · rw [if_neg e3, if_neg (cm_ne e3)]
      · rw [if_neg e2, if_neg (cm_ne e2)]
    · rw [if_neg e1, if_neg (cm_ne e1)]
  | [], _, _, h, _ => absurd h (by decide)
  | [_], _, _, h, _ => absurd h (by simp)
  | [_, _], _, _, h, _ => absurd h (by simp)
  | [_, _, _], _, _, h, _ => absurd h (by simp)
  | _ :: _ :: _ :: _ :: _, [], _, _, h => absurd h (by decide)
  | _ :: _ :: _ :: _ :: _, [_], _, _, h => absurd h (by simp)
  | _ :: _ :: _ :: _ :: _, [_, _], _, _, h => absurd h (by simp)
  | _ :: _ :: _ :: _ :: _, [_, _, _], _, _, h => absurd h (by simp)
theorem cm_lx {A B : Ar} (ha : Good A) (hb : Good B) : cmV A B = lxZ (hdZ A) (hdZ B) := by
  rw [← fd_cm ha hb]
  refine fd_lx' _ _ (fun _ h _ => ?_) (by simp [hdZ]) (by simp [hdZ])
  have h1 := ha.len
  have h2 := hb.len
  simp [hdZ] at h
  obtain ⟨_, e2, e3, e4⟩ := h
  rw [e2, e3, e4] at h1
  have : A.z.length = B.z.length := by omega
  simp [hdZ, this]
/-- What the law asks of three arrays. -/
theorem cm_law {A B C : Ar} (ha : Good A) (hb : Good B) (hc : Good C) :
    cmV B A = -cmV A B ∧ (cmV A B = -1 ∨ cmV A B = 0 ∨ cmV A B = 1) ∧ (cmV A B = 0 ↔ A = B) ∧ (cmV A B ≤ 0 → cmV B C ≤ 0 → cmV A C ≤ 0 ∧ (cmV A B < 0 → cmV A C < 0)) := by
  rw [cm_lx ha hb, cm_lx hb ha, cm_lx hb hc, cm_lx ha hc]
  exact ⟨lx_rev _ _, lx_bd _ _, (lx_zero _ _).trans hd_inj, lx_trans _ _ _⟩
end Go.Proofs.YtmacimkkgiogbaaDoor
