/- append of labels that came in to a row of the law's own; arguments that are nil or have room. -/
import Derived.Test.YtablaacddbkeiaaGreatDoorLbS
import Derived.Test.YtablaacddbkeiaaGreatDoorLtDu
import Derived.Test.YtablaacddbkeiaaGreatDoorLbN
import Derived.Laws.AppendOwnNone
import Derived.Deep.AppendLies
import Derived.OwnWalk
namespace Go.Proofs.YtablaacddbkeiaaGreatDoor
open Go.ChangeShapes Go.WideShapes Go.ChangeAt Go.RowKit Go.Joins

/-- A nil slice has no capacity. -/
def NilC (v : Value) : Prop := ∀ n c, v = .slice none n c → c = 0
theorem add_off (b off j : Nat) : (⟨b, off, none⟩ : Addr).add j = ⟨b, off + j, none⟩ := by simp [Addr.add]
theorem wpList_met {P : Program} {w : World} {ops : Array Oper} {rest : List Oper} {o : Oper} {a : Act} {Q : Exit → Act → World → Prop} (hw : Region.wanted o (yielded ops a.tmps) = true)
    (h : ∀ K : Act → World → Prop, (∀ a w, wpList P ops Q rest a w → K a w) → o.wp P a w K Q) : wpList P ops Q (o :: rest) a w :=
  wpList_step fun K hK => by rw [if_pos hw]; exact h K hK
theorem wp_append_none {P : Program} {w : World} {o : Oper} {a : Act} {K : Act → World → Prop} {Q : Exit → Act → World → Prop} (s x : Operand) (t : TypeId)
    (ho : o.op = .call { callee := .builtin .append, args := #[s, x], argTypes := #[t, t] })
    (base : Nat) (e : TypeId) (i : TypeInfo) (size : Nat) (ht : P.underlying t = some (.slice e)) (hi : P.info? e = some i)
    (v : Value) (n : Nat) (xs : List Value) (hs : a.eval s = v) (hown : w.ownsRow base e size v n xs) (hx : a.eval x = .slice none 0 0)
    (h : K (a.put o.dst v) w) : o.wp P a w K Q := by
  have hrun := run_append_owned_none (P := P) (w := w) base t o.type e i size ht hi v n xs hown
  unfold Oper.wp
  simp [execOp, ho, resolve, invoke, builtin, hs, hx, hrun, Result.andThen]
  exact h
theorem wpList_append_ns {w : World} {ops : Array Oper} {rest : List Oper} {o : Oper} {a : Act} {Q : Exit → Act → World → Prop} (hgd : Region.wanted o (yielded ops a.tmps) = true) (s x : Operand)
    (ho : o.op = .call { callee := .builtin .append, args := #[s, x], argTypes := #[26, 26] }) (B : Nat) (v : Value) (l : List Nat) (hs : a.eval s = v) (hown : Own B w v l)
    (u : Value) (m : List Nat) (hx : a.eval x = u) (B' : Nat) (hu : RdN B' w u m) (hn : NilC u) (hl : l.length + m.length ≤ 1000000) (hB : B ≤ w.heap.size)
    (h : ∀ v' w', Own B w' v' (l ++ m) → w.grownBy w' v.ownBlock → wpList Tryz.prog ops Q rest (a.put o.dst v') w') : wpList Tryz.prog ops Q (o :: rest) a w := by
  obtain ⟨i0, hi, hz0, hz1, hz2⟩ := info_parts info3
  obtain ⟨ua, cap, rfl, hc1, hc2, hcell⟩ := hu
  cases ua with
  | none =>
    have hm : m = [] := by
      rcases m with _ | ⟨c, m⟩
      · rfl
      · obtain ⟨b, off, e, _⟩ := hcell (by simp); cases e
    subst hm
    have hcap := hn _ _ rfl
    subst hcap
    refine wpList_met hgd fun K hK => wp_append_none s x 26 ho B 3 i0 1 Tryz.underlying26 hi v l.length _ hs hown hx (hK _ _ ?_)
    have := h v w (by rw [List.append_nil]; exact hown) (World.grownBy.refl w _)
    exact this
  | some ad =>
    refine wpList_met hgd fun K hK => wp_append_own _ s x 26 ho B 3 i0 (.int .i64 0) 1 8 Tryz.underlying26 hi hz0 hz1 hz2 rfl (by decide) v l.length _ hs hown ad m.length cap (m.map vn) hx (by simp) ?_ (by simp [Value.oneCell']) (by unfold maxLen; omega) (by omega) hB ?_
    · intro j z hz
      have hj : j < m.length := by
        rcases Nat.lt_or_ge j m.length with hj | hj
        · exact hj
        · rw [List.getElem?_eq_none (by simp; omega)] at hz; cases hz
      obtain ⟨b, off, e, _, hc⟩ := hcell (by intro e; subst e; simp at hj)
      cases e
      rw [add_off, hc j hj]
      rw [List.getElem?_map, List.getElem?_eq_getElem hj] at hz
      exact hz
    · intro v' w' hown' hg _
      exact hK _ _ (h v' w' (by unfold Own; rw [List.length_append, List.map_append]; exact hown') hg)

section
variable {H : Type} {enc : TypeId × Value → H}
theorem read_nc {W : World} {n : Nat} {v : Value} {y : DataW H × List MemPlace} (hf : DataW.trod enc Tryz.prog W 0 (fun _ => true) true n 26 [v] = some y) : NilC v := by
  rcases open_ints Tryz.underlying26 Tryz.underlying3 c3w hf with ⟨hcs, hx⟩ | ⟨a, len, cap, zs, hcs, hba, hl, hm, hz, hx, hcell, hwz⟩
  · simp at hcs
    subst hcs
    intro n c e; cases e; rfl
  · simp at hcs
    subst hcs
    intro n c e; cases e
set_option maxRecDepth 100000 in
theorem open_is2 {W : World} {base : Nat} {v : Value} {d : DataW H} {p : List MemPlace} (hval : Value.okWide Tryz.prog W .any base 26 v) (h1 : DataW.Trod enc Tryz.prog W 0 (fun _ => true) true 26 v d p) : NilC v := by
  obtain ⟨a1, len, cap, rfl⟩ := okWide_slice Tryz.underlying26 hval
  obtain ⟨fuel, hf⟩ := h1
  exact read_nc (by simpa [Value.cells] using hf)
end
end Go.Proofs.YtablaacddbkeiaaGreatDoor
