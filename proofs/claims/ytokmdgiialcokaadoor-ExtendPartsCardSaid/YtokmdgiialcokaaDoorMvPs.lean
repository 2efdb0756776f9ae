/- Plain facts of Grid, Ravel and Fill, for the law MovesShapes. -/
import Derived.Test.YtokmdgiialcokaaDoorMvPp
import Derived.Test.YtokmdgiialcokaaDoorMvXg
namespace Go.Proofs.YtokmdgiialcokaaDoor
open Go.RowKit

theorem two_good {x y : Int} : Good (vecA 1 [x, y]) := ⟨.inl rfl, Sh.s1 2 (by omega) (by omega), by simp [vecA, cn], by intro e; cases e⟩
theorem grid_two {x y : Int} {V : Ar} (h : Good V) (hr : V.r = 1) : twoE (vecA 1 [x, y]) V 1 V.k 1 1 1 1 = 0 := by
  unfold twoE
  rw [if_pos (good_ck two_good), if_pos (good_ck h), if_pos ⟨rfl, rfl⟩, if_neg (by show ¬ ((1 : Int) < 1 ∨ (1 : Int) < 1 ∨ V.r < 1 ∨ 1 < V.r); omega)]
theorem agn_self (z : List Int) : agn z.length z = z := ext_getD (agn_len _ _) fun t ht => by
  rw [agn_len] at ht
  rw [agn_getD ht, Nat.mod_eq_of_lt ht]
theorem ra_good {A : Ar} (h : Good A) : raV A = vecA A.k A.z := orNo_yes (good_ck h)
/-- Grid of the lengths of a matrix, and of its Ravel. -/
theorem grid_ravel {A : Ar} (h : Good A) (hr : A.r = 2) : gdE (vecA 1 [A.a, A.b]) (vecA A.k A.z) = 0 ∧ gdV (vecA 1 [A.a, A.b]) (vecA A.k A.z) = A := by
  have gz : Good (vecA A.k A.z) := vec_good h (Nat.le_refl _) fun _ m => m
  have h2 := grid_two (x := A.a) (y := A.b) gz rfl
  have hs := h.sh
  have hl := h.len
  obtain ⟨k, r, a, b, z⟩ := A
  simp only at hr
  subst hr
  have hl' : (z.length : Int) = a * b := by simpa [cn] using hl
  obtain ⟨q0, q1, q2, q3, q4⟩ : 0 ≤ a ∧ a ≤ 400 ∧ 0 ≤ b ∧ b ≤ 400 ∧ a * b ≤ 400 := by
    cases hs with
    | s2 _ _ h0 h1 h2 h3 h4 => exact ⟨h0, h1, h2, h3, h4⟩
  have hle : leE [a, b] = 0 := by
    show (if a < 0 ∨ b < 0 then (13 : Int) else if 400 < a ∨ 400 < b ∨ 400 < a * b then 15 else 0) = 0
    rw [if_neg (by omega), if_neg (by omega)]
  obtain ⟨_, _, _, _, hE⟩ := le_ok h2 hle
  have hE2 : gdE (vecA 1 [a, b]) (vecA k z) = 0 := by
    rw [hE]
    show (if z.length = 0 ∧ 0 < a * b then (13 : Int) else 0) = 0
    rw [if_neg]
    rintro ⟨e1, e2⟩
    omega
  refine ⟨hE2, ?_⟩
  show orNo (gdE (vecA 1 [a, b]) (vecA k z)) ⟨k, 2, a, b, agn (a * b).toNat z⟩ = _
  rw [orNo_yes hE2, ← hl', Int.toNat_natCast, agn_self]
theorem agn_isR {n : Nat} {z : List Int} (h : z.all Ru.isR = true) : (agn n z).all Ru.isR = true := List.all_eq_true.2 fun x hx => by
  obtain ⟨t, _, rfl⟩ := List.mem_map.1 hx
  rw [List.getD_eq_getElem?_getD]
  rcases Nat.lt_or_ge (t % z.length) z.length with hl | hl
  · rw [List.getElem?_eq_getElem hl]
    exact List.all_eq_true.1 h _ (List.getElem_mem hl)
  · rw [List.getElem?_eq_none hl]
    exact isR0
/-- Grid of two small lengths and a vector. -/
theorem grid_cases {x y : Int} {V : Ar} (h : Good V) (hr : V.r = 1) (hx : 0 ≤ x ∧ x ≤ 24) (hy : 0 ≤ y ∧ y ≤ 24) :
    (400 < x * y ∧ gdE (vecA 1 [x, y]) V = 15 ∧ gdV (vecA 1 [x, y]) V = Ar.no) ∨
    (x * y ≤ 400 ∧ 0 < x * y ∧ V.z = [] ∧ gdE (vecA 1 [x, y]) V = 13 ∧ gdV (vecA 1 [x, y]) V = Ar.no) ∨
    (x * y ≤ 400 ∧ (V.z = [] → x * y = 0) ∧ gdE (vecA 1 [x, y]) V = 0 ∧ gdV (vecA 1 [x, y]) V = ⟨V.k, 2, x, y, agn (x * y).toNat V.z⟩ ∧ Good ⟨V.k, 2, x, y, agn (x * y).toNat V.z⟩) := by
  have h2 := grid_two (x := x) (y := y) h hr
  have h0 : 0 ≤ x * y := Int.mul_nonneg hx.1 hy.1
  have hn : leE [x, y] = if 400 < x * y then 15 else 0 := by
    show (if x < 0 ∨ y < 0 then (13 : Int) else if 400 < x ∨ 400 < y ∨ 400 < x * y then 15 else 0) = _
    rw [if_neg (by omega)]
    by_cases h4 : 400 < x * y
    · rw [if_pos (.inr (.inr h4)), if_pos h4]
    · rw [if_neg (by omega), if_neg h4]
  by_cases h4 : 400 < x * y
  · rw [if_pos h4] at hn
    have e := le_no (L := vecA 1 [x, y]) h2 (by show leE [x, y] ≠ 0; rw [hn]; decide)
    have e2 : gdE (vecA 1 [x, y]) V = 15 := e.trans hn
    exact .inl ⟨h4, e2, orNo_no (by rw [e2]; decide)⟩
  · rw [if_neg h4] at hn
    obtain ⟨_, _, _, _, hE⟩ := le_ok (L := vecA 1 [x, y]) h2 hn
    have hE' : gdE (vecA 1 [x, y]) V = if V.z.length = 0 ∧ 0 < x * y then 13 else 0 := hE
    by_cases h5 : V.z.length = 0 ∧ 0 < x * y
    · rw [if_pos h5] at hE'
      exact .inr (.inl ⟨by omega, h5.2, List.length_eq_zero_iff.1 h5.1, hE', orNo_no (by rw [hE']; decide)⟩)
    · rw [if_neg h5] at hE'
      refine .inr (.inr ⟨by omega, fun e => ?_, hE', orNo_yes hE', h.kind, Sh.s2 x y (by omega) (by omega) (by omega) (by omega) (by omega), ?_, fun e => agn_isR (h.runes e)⟩)
      · rcases Int.lt_or_le 0 (x * y) with h6 | h6
        · exact absurd ⟨by rw [e]; rfl, h6⟩ h5
        · omega
      · show ((agn (x * y).toNat V.z).length : Int) = x * y
        rw [agn_len]
        omega
/-- Fill of one number. -/
theorem fill_one {k v0 y : Int} (hk : k = 1 ∨ k = 2) (hr : k = 2 → Ru.isR v0 = true) (hy : 0 ≤ y ∧ y ≤ 24) :
    fiE (inA y) ⟨k, 0, 0, 0, [v0]⟩ = 0 ∧ fiV (inA y) ⟨k, 0, 0, 0, [v0]⟩ = vecA k (List.replicate y.toNat v0) := by
  have g : Good ⟨k, 0, 0, 0, [v0]⟩ := ⟨hk, Sh.s0, by simp [cn], fun e => by simp [hr e]⟩
  have h2 : twoE (inA y) ⟨k, 0, 0, 0, [v0]⟩ 1 k 0 0 0 0 = 0 := by
    unfold twoE
    rw [if_pos (good_ck (in_good y)), if_pos (good_ck g), if_pos ⟨rfl, rfl⟩, if_neg (by show ¬ ((0 : Int) < 0 ∨ (0 : Int) < 0 ∨ (0 : Int) < 0 ∨ (0 : Int) < 0); omega)]
  have e : fiE (inA y) ⟨k, 0, 0, 0, [v0]⟩ = 0 := by
    show (if twoE (inA y) ⟨k, 0, 0, 0, [v0]⟩ 1 k 0 0 0 0 = 0 then (if y < 0 then (13 : Int) else if 400 < y then 15 else 0) else _) = 0
    rw [if_pos h2, if_neg (by omega), if_neg (by omega)]
  exact ⟨e, orNo_yes e⟩
/-- Grid of one row of one number, raveled. -/
theorem row_one {k v0 y : Int} (hk : k = 1 ∨ k = 2) (hr : k = 2 → Ru.isR v0 = true) (hy : 0 ≤ y ∧ y ≤ 24) :
    gdE (vecA 1 [1, y]) (vecA k [v0]) = 0 ∧ ck (gdV (vecA 1 [1, y]) (vecA k [v0])) = 0 ∧ raV (gdV (vecA 1 [1, y]) (vecA k [v0])) = vecA k (List.replicate y.toNat v0) := by
  have g : Good (vecA k [v0]) := ⟨hk, Sh.s1 1 (by omega) (by omega), by simp [vecA, cn], fun e => by simp [vecA, hr e]⟩
  rcases grid_cases (x := 1) (y := y) g rfl (by omega) hy with h | h | h
  · omega
  · exact absurd h.2.2.1 (by simp [vecA])
  · obtain ⟨_, _, h3, h4, h5⟩ := h
    refine ⟨h3, by rw [h4]; exact good_ck h5, ?_⟩
    rw [h4, ra_good h5]
    show vecA k (agn (1 * y).toNat [v0]) = _
    rw [agn_one, Int.one_mul]
end Go.Proofs.YtokmdgiialcokaaDoor
