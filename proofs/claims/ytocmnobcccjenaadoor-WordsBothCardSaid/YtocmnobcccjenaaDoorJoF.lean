/- The law WordsBoth. -/
import Derived.Test.YtocmnobcccjenaaDoorJoE
import Derived.Test.YtocmnobcccjenaaDoorSpB
import Derived.Laws.AppendOwnNone
import Derived.Deep.AppendLies
import Derived.OwnWalk
namespace Go.Proofs.YtocmnobcccjenaaDoor
open Go.RowKit

/-! Two lines together. -/
theorem join_app (sep : List UInt8) : ∀ (xs ys : List (List UInt8)), xs ≠ [] → ys ≠ [] → Lib.join (xs ++ ys) sep = Lib.join xs sep ++ sep ++ Lib.join ys sep
  | [], _, h, _ => absurd rfl h
  | _, [], _, h => absurd rfl h
  | a :: r, b :: q, _, _ => by
    rw [List.cons_append, Lib.join_cons, Lib.join_cons, Lib.join_cons]
    unfold Lib.joinTail
    simp [List.append_assoc]
theorem jL_app {l m : List Fd} (hl : l ≠ []) (hm : m ≠ []) : jL (l ++ m) = jL l ++ [32] ++ jL m := by
  unfold jL
  rw [List.map_append]
  exact join_app _ _ _ (by simpa using hl) (by simpa using hm)
theorem too_app {l m : List Fd} : tooB (l ++ m) = false ↔ (longB l = false ∧ longB m = false) ∧ l.length + m.length ≤ 64 := by
  unfold tooB longB
  rw [List.any_append, List.length_append, Bool.or_eq_false_iff, Bool.or_eq_false_iff, decide_eq_false_iff_not]
  constructor
  · rintro ⟨h, h2⟩; exact ⟨h, by omega⟩
  · rintro ⟨h, h2⟩; exact ⟨h, by omega⟩
theorem jE_cases (l : List Fd) : (tooB l = true ∧ jE l = 3) ∨ (tooB l = false ∧ l.all okF = false ∧ jE l = 6) ∨ (tooB l = false ∧ l.all okF = true ∧ 8192 < (jL l).length ∧ jE l = 3) ∨ (tooB l = false ∧ l.all okF = true ∧ ¬ 8192 < (jL l).length ∧ jE l = 0) := by
  cases h1 : tooB l with
  | true => exact .inl ⟨rfl, jE_too h1⟩
  | false =>
    cases h2 : l.all okF with
    | false => exact .inr (.inl ⟨rfl, rfl, jE_form h1 h2⟩)
    | true =>
      by_cases h3 : 8192 < (jL l).length
      · exact .inr (.inr (.inl ⟨rfl, rfl, h3, jE_long h1 h2 h3⟩))
      · exact .inr (.inr (.inr ⟨rfl, rfl, h3, jE_ok h1 h2 h3⟩))
theorem jE_zero {l : List Fd} : jE l = 0 ↔ tooB l = false ∧ l.all okF = true ∧ (jL l).length ≤ 8192 := by
  rcases jE_cases l with h | h | h | h
  · rw [h.2]; simp [h.1]
  · rw [h.2.2]; simp [h.2.1]
  · rw [h.2.2.2]; simp; omega
  · rw [h.2.2.2]; simp [h.1, h.2.1]; omega
theorem both_no {l m : List Fd} (hl : l ≠ []) (hm : m ≠ []) (h : jE l ≠ 0 ∨ jE m ≠ 0) : jE (l ++ m) ≠ 0 := by
  intro e
  obtain ⟨h1, h2, h3⟩ := jE_zero.1 e
  obtain ⟨⟨h4, h5⟩, h6⟩ := too_app.1 h1
  rw [List.all_append, Bool.and_eq_true] at h2
  rw [jL_app hl hm, List.length_append, List.length_append] at h3
  have q1 : jE l = 0 := jE_zero.2 ⟨by unfold tooB; rw [h4, decide_eq_false (by omega)]; rfl, h2.1, by omega⟩
  have q2 : jE m = 0 := jE_zero.2 ⟨by unfold tooB; rw [h5, decide_eq_false (by omega)]; rfl, h2.2, by omega⟩
  rcases h with h | h
  · exact h q1
  · exact h q2
theorem both_long {l m : List Fd} (hl : l ≠ []) (hm : m ≠ []) (h1 : jE l = 0) (h2 : jE m = 0) (h : 64 < l.length + m.length ∨ 8192 < (jL l).length + 1 + (jL m).length) : jE (l ++ m) = 3 ∧ jV (l ++ m) = [] := by
  obtain ⟨a1, a2, a3⟩ := jE_zero.1 h1
  obtain ⟨b1, b2, b3⟩ := jE_zero.1 h2
  have hall : (l ++ m).all okF = true := by rw [List.all_append, a2, b2]; rfl
  have e : jE (l ++ m) = 3 := by
    cases h3 : tooB (l ++ m) with
    | true => exact jE_too h3
    | false =>
      refine jE_long h3 hall ?_
      have h4 := (too_app.1 h3).2
      rw [jL_app hl hm, List.length_append, List.length_append]
      show 8192 < (jL l).length + 1 + (jL m).length
      omega
  exact ⟨e, jV_no e (by decide)⟩
theorem both_ok {l m : List Fd} (hl : l ≠ []) (hm : m ≠ []) (h1 : jE l = 0) (h2 : jE m = 0) (h3 : ¬ 64 < l.length + m.length) (h4 : ¬ 8192 < (jL l).length + 1 + (jL m).length) : jE (l ++ m) = 0 ∧ jV (l ++ m) = jV l ++ [32] ++ jV m := by
  obtain ⟨a1, a2, a3⟩ := jE_zero.1 h1
  obtain ⟨b1, b2, b3⟩ := jE_zero.1 h2
  have hl1 : longB l = false := by unfold tooB at a1; rw [Bool.or_eq_false_iff] at a1; exact a1.1
  have hm1 : longB m = false := by unfold tooB at b1; rw [Bool.or_eq_false_iff] at b1; exact b1.1
  have e : jE (l ++ m) = 0 := jE_zero.2 ⟨too_app.2 ⟨⟨hl1, hm1⟩, by omega⟩, by rw [List.all_append, a2, b2]; rfl, by rw [jL_app hl hm, List.length_append, List.length_append]; show (jL l).length + 1 + (jL m).length ≤ 8192; omega⟩
  exact ⟨e, by rw [jV_ok e, jV_ok h1, jV_ok h2, jL_app hl hm]⟩

/-! append of fields that came in. -/
theorem add_off (b off j : Nat) : (⟨b, off, none⟩ : Addr).add j = ⟨b, off + j, none⟩ := by simp [Addr.add]
theorem wpList_met {P : Program} {w : World} {ops : Array Oper} {rest : List Oper} {o : Oper} {a : Act} {Q : Exit → Act → World → Prop} (hw : Region.wanted o (yielded ops a.tmps) = true)
    (h : ∀ K : Act → World → Prop, (∀ a w, wpList P ops Q rest a w → K a w) → o.wp P a w K Q) : wpList P ops Q (o :: rest) a w :=
  wpList_step fun K hK => by rw [if_pos hw]; exact h K hK
theorem wp_append_none {P : Program} {w : World} {o : Oper} {a : Act} {K : Act → World → Prop} {Q : Exit → Act → World → Prop} (s x : Operand) (t : TypeId)
    (ho : o.op = .call { callee := .builtin .append, args := #[s, x], argTypes := #[t, t] })
    (base : Nat) (e : TypeId) (i : TypeInfo) (size : Nat) (ht : P.underlying t = some (.slice e)) (hi : P.info? e = some i)
    (v : Value) (n : Nat) (xs : List Value) (hs : a.eval s = v) (hown : w.ownsRow base e size v n xs) (hx : a.eval x = .slice none 0 0)
    (h : K (a.put o.dst v) w) : o.wp P a w K Q := by
  have hrun := run_append_owned_none (P := P) (w := w) base t o.type e i size ht hi v n xs hown
  unfold Oper.wp
  simp [execOp, ho, resolve, invoke, builtin, hs, hx, hrun, Result.andThen]
  exact h
theorem fd_len (m : List Fd) : (m.flatMap fdV).length = m.length * 2 := by
  induction m with
  | nil => rfl
  | cons f r ih => rw [List.flatMap_cons, List.length_append, ih, List.length_cons]; show 2 + r.length * 2 = (r.length + 1) * 2; omega
theorem fd_one (m : List Fd) : ∀ u ∈ m.flatMap fdV, u.oneCell' = true := by
  intro u hu
  obtain ⟨f, _, h⟩ := List.mem_flatMap.1 hu
  simp only [fdV, List.mem_cons, List.not_mem_nil, or_false] at h
  rcases h with rfl | rfl <;> rfl
theorem wpList_append_fs {w : World} {ops : Array Oper} {rest : List Oper} {o : Oper} {a : Act} {Q : Exit → Act → World → Prop} (hgd : Region.wanted o (yielded ops a.tmps) = true) (s x : Operand)
    (ho : o.op = .call { callee := .builtin .append, args := #[s, x], argTypes := #[22, 22] }) (B : Nat) (v : Value) (l : List Fd) (hs : a.eval s = v) (hown : Fls w B v l)
    (u : Value) (m : List Fd) (hx : a.eval x = u) (B' : Nat) (hu : FldB B' w u m) (hn : NilC u) (hl : l.length + m.length ≤ 1000000) (hB : B ≤ w.heap.size)
    (h : ∀ v' w', Fls w' B v' (l ++ m) → w.grownBy w' v.ownBlock → wpList Tryd.prog ops Q rest (a.put o.dst v') w') : wpList Tryd.prog ops Q (o :: rest) a w := by
  obtain ⟨i0, hi, hz0, hz1, hz2⟩ := info_parts infoF
  obtain ⟨ua, cap, rfl, hc1, hcell⟩ := hu
  cases ua with
  | none =>
    have hm : m = [] := by
      rcases m with _ | ⟨c, m⟩
      · rfl
      · obtain ⟨b, off, e, _⟩ := hcell (by simp); cases e
    subst hm
    have hcap := hn _ _ rfl
    subst hcap
    refine wpList_met hgd fun K hK => wp_append_none s x 22 ho B 30 i0 2 Tryd.underlying22 hi v l.length _ hs hown hx (hK _ _ ?_)
    exact h v w (by rw [List.append_nil]; exact hown) (World.grownBy.refl w _)
  | some ad =>
    refine wpList_met hgd fun K hK => wp_append_own _ s x 22 ho B 30 i0 (.agg #[.string ByteArray.empty, .bool false]) 2 24 Tryd.underlying22 hi hz0 hz1 hz2 rfl (by decide) v l.length _ hs hown ad m.length cap (m.flatMap fdV) hx (fd_len m) ?_ (fd_one m) (by unfold maxLen; omega) (by omega) hB ?_
    · intro j z hz
      have hj2 : j < m.length * 2 := by
        rcases Nat.lt_or_ge j (m.length * 2) with hj | hj
        · exact hj
        · rw [List.getElem?_eq_none (by rw [fd_len]; omega)] at hz; cases hz
      have hj : j / 2 < m.length := by omega
      obtain ⟨b, off, e, _, hc⟩ := hcell (by intro e; subst e; simp at hj)
      cases e
      obtain ⟨c1, c2⟩ := hc (j / 2) hj
      obtain ⟨f1, f2⟩ := flat_at m (j / 2) hj
      rw [add_off]
      rcases Nat.mod_two_eq_zero_or_one j with e | e
      · rw [show j = j / 2 * 2 by omega] at hz ⊢
        rw [f1] at hz
        rw [c1]; exact hz
      · rw [show j = j / 2 * 2 + 1 by omega] at hz ⊢
        rw [f2] at hz
        rw [← Nat.add_assoc, c2]; exact hz
    · intro v' w' hown' hg _
      exact hK _ _ (h v' w' (by unfold Fls; rw [List.length_append, List.flatMap_append]; exact hown') hg)
end Go.Proofs.YtocmnobcccjenaaDoor
