/- A law of the walk: a scope in which a run jumps to several labels, inside a fence. -/
import Derived.ControlIn
import Derived.AtR
namespace Go.Proofs.YtocmnobcccjenaaDoor
open Go

/-- As Q; by a goto: J. -/
def jumps (J : Nat → Act → World → Prop) (Q : Exit → Act → World → Prop) : Exit → Act → World → Prop
  | .goto l, a, w => J l a w
  | e, a, w => Q e a w

section
variable {P : Program} {b : Frame} {a : Act} {k : List Item} {cs : List Frame} {w : World} {Q : Exit → Act → World → Prop} {F : Fence} {n : Nat}
theorem stepR_scope {c : Code} : step P (lone (b.atR a (.code (.scope c) :: k)) cs w) = .next (lone (b.atR a (.code c :: .inScope c :: k)) cs w) :=
  step_lone_go (by simp [stepG, stepG.exec, Frame.atR])
theorem stepR_inScope {c : Code} : step P (lone (b.atR a (.inScope c :: k)) cs w) = .next (lone (b.atR a k) cs w) :=
  step_lone_go (by simp [stepG, stepG.exec, Frame.atR])

theorem wpIn_scope_jumps {c : Code} (J : Nat → Act → World → Prop) (μ : Nat → Act → World → Nat)
    (lab : ∀ l a w, J l a w → (findLabel c l).isSome = true) (first : c.wpIn F n P (jumps J Q) a w)
    (pass : ∀ l rest a w, findLabel c l = some rest → J l a w → rest.wpIn F n P (jumps (fun l' a' w' => J l' a' w' ∧ μ l' a' w' < μ l a w) Q) a w) : (Code.scope c).wpIn F n P Q a w := by
  intro b k cs hro hb hr
  have key : ∀ j l rest a w, μ l a w = j → findLabel c l = some rest → J l a w →
      ∃ e a' w', Q e a' w' ∧ ArrivesIn (Machine.fenced P F) P (lone (b.atR a (.code rest :: .inScope c :: k)) cs w) b k cs e a' w' := by
    intro j
    induction j using Nat.strongRecOn with
    | _ j ih =>
      intro l rest a w hn hf hJ
      obtain ⟨e, a₁, w₁, hq, harr⟩ := pass l rest a w hf hJ b (.inScope c :: k) cs hro hb hr
      cases e with
      | normal => exact ⟨.normal, a₁, w₁, hq, StepsIn.trans harr (.one (fenced_calm hb hr rfl) stepR_inScope)⟩
      | exit id => exact ⟨.exit id, a₁, w₁, hq, fun k' hk => harr.1 k' (by simp [exitTo, hk]), fun hr' hk => harr.2 hr' (by simp [exitTo, hk])⟩
      | goto l' =>
        obtain ⟨hJ', hlt⟩ := hq
        obtain ⟨rest', hf'⟩ := Option.isSome_iff_exists.1 (lab _ _ _ hJ')
        obtain ⟨e₂, a₂, w₂, hq₂, harr₂⟩ := ih _ (by omega) l' rest' a₁ w₁ rfl hf' hJ'
        exact ⟨e₂, a₂, w₂, hq₂, .of_steps (harr.1 _ (by simp [gotoIn, hf'])) harr₂⟩
      | ret => exact ⟨_, a₁, w₁, hq, harr⟩
      | panic ch => exact ⟨_, a₁, w₁, hq, harr⟩
      | outgrown => exact ⟨_, a₁, w₁, hq, harr⟩
  have h0 : (lone (b.atR a (.code (.scope c) :: k)) cs w).fenced P F := fenced_calm hb hr rfl
  obtain ⟨e, a₁, w₁, hq, harr⟩ := first b (.inScope c :: k) cs hro hb hr
  cases e with
  | normal => exact ⟨.normal, a₁, w₁, hq, .head h0 stepR_scope (StepsIn.trans harr (.one (fenced_calm hb hr rfl) stepR_inScope))⟩
  | exit id => exact ⟨.exit id, a₁, w₁, hq, fun k' hk => .head h0 stepR_scope (harr.1 k' (by simp [exitTo, hk])), fun hr' hk => by
      obtain ⟨k₁, h1, h2⟩ := harr.2 hr' (by simp [exitTo, hk])
      exact ⟨k₁, h1, .head h0 stepR_scope h2⟩⟩
  | goto l' =>
    have hJ' : J l' a₁ w₁ := hq
    obtain ⟨rest', hf'⟩ := Option.isSome_iff_exists.1 (lab _ _ _ hJ')
    obtain ⟨e₂, a₂, w₂, hq₂, harr₂⟩ := key _ l' rest' a₁ w₁ rfl hf' hJ'
    exact ⟨e₂, a₂, w₂, hq₂, .of_steps (.head h0 stepR_scope (harr.1 _ (by simp [gotoIn, hf']))) harr₂⟩
  | ret => exact ⟨_, a₁, w₁, hq, .of_steps (.one h0 stepR_scope) harr⟩
  | panic ch => exact ⟨_, a₁, w₁, hq, .of_steps (.one h0 stepR_scope) harr⟩
  | outgrown => exact ⟨_, a₁, w₁, hq, .of_steps (.one h0 stepR_scope) harr⟩

theorem wpIn_scope_from {c : Code} (J : Nat → Act → World → Prop) (μ : Nat → Act → World → Nat)
    (lab : ∀ l a w, J l a w → ∃ rest, findLabel c l = some (Code.seq Code.skip rest))
    (pass : ∀ l rest a w, findLabel c l = some (Code.seq Code.skip rest) → J l a w → rest.wpIn F n P (jumps (fun l' a' w' => J l' a' w' ∧ μ l' a' w' < μ l a w) Q) a w)
    (first : (∀ l rest a w, findLabel c l = some (Code.seq Code.skip rest) → J l a w → rest.wpIn F n P (jumps J Q) a w) → c.wpIn F n P (jumps J Q) a w) : (Code.scope c).wpIn F n P Q a w := by
  refine wpIn_scope_jumps J μ (fun l a w h => ?_) ?_ ?_
  · obtain ⟨rest, hr⟩ := lab l a w h
    rw [hr]; rfl
  · refine first fun l rest a w hf hJ => wpIn_mono (pass l rest a w hf hJ) fun e a' w' hq => ?_
    cases e with
    | goto l' => exact hq.1
    | normal => exact hq
    | exit id => exact hq
    | ret => exact hq
    | panic ch => exact hq
    | outgrown => exact hq
  · intro l rest a w hf hJ
    obtain ⟨r2, hr⟩ := lab l a w hJ
    obtain rfl : Code.seq Code.skip r2 = rest := Option.some.inj (hr.symm.trans hf)
    exact wpIn_seq (wpIn_skip (pass l r2 a w hr hJ))
end
end Go.Proofs.YtocmnobcccjenaaDoor
