/- For the reference's Rows: slices of rows that the call has made. -/
import Derived.Test.YtnoljljagfpogaaDoorArS4
import Derived.Test.YtnoljljagfpogaaDoorArS3
namespace Go.Proofs.YtnoljljagfpogaaDoor
open Go.RowKit

theorem own_keep {w w' : World} {B : Nat} {e : TypeId} {s : Nat} {v : Value} {n : Nat} {xs : List Value} (h : w.ownsRow B e s v n xs) (hb : ∀ (g : Nat) (c : Array Value), w.heap[g]? = some (Obj.cells c e (0, 0)) → w'.heap[g]? = w.heap[g]?) : w'.ownsRow B e s v n xs := by
  obtain ⟨h1, h2⟩ := h
  refine ⟨h1, ?_⟩
  rcases h2 with h2 | ⟨g, cap, cur, hv, hg, hh, r⟩
  · exact .inl h2
  · exact .inr ⟨g, cap, cur, hv, hg, (hb g cur hh).trans hh, r⟩
/-- A slice of rows that the call has made. -/
def MM (w : World) (B : Nat) (u : Value) (l : List (List Int)) : Prop :=
  ∃ xs, w.ownsRow B 22 1 u l.length xs ∧ ∀ t (h : t < l.length), ∃ x, xs[t]? = some x ∧ Ru.Ins 2 w B x l[t]
theorem MM.form {w : World} {B : Nat} {u : Value} {l : List (List Int)} (h : MM w B u l) : ∃ a c, u = .slice a l.length c := by
  obtain ⟨xs, ⟨_, ⟨rfl, h0⟩ | ⟨g, cap, cur, rfl, _⟩⟩, _⟩ := h
  · exact ⟨none, 0, by rw [h0]⟩
  · exact ⟨_, cap, rfl⟩
theorem MM.next {w w' : World} {B : Nat} {u : Value} {l : List (List Int)} (h : MM w B u l) (hb : Below w.heap.size w w') : MM w' B u l := by
  obtain ⟨xs, h1, h2⟩ := h
  refine ⟨xs, own_keep h1 fun g _ hg => hb.block g (Array.getElem?_eq_some_iff.1 hg).1, fun t ht => ?_⟩
  obtain ⟨x, e, hi⟩ := h2 t ht
  exact ⟨x, e, own_keep hi fun g _ hg => hb.block g (Array.getElem?_eq_some_iff.1 hg).1⟩
theorem ins_next {w w' : World} {B : Nat} {x : Value} {m : List Int} (h : Ru.Ins 2 w B x m) (hb : Below w.heap.size w w') : Ru.Ins 2 w' B x m := own_keep h fun g _ hg => hb.block g (Array.getElem?_eq_some_iff.1 hg).1
theorem cell_new (w : World) (v : Value) (t : TypeId) : (w.alloc (.cells #[v] t)).cell? ⟨w.heap.size, 0, none⟩ = some v := by
  unfold World.cell?
  rw [heap_alloc_last]
  rfl
theorem MM.nil (w : World) (B : Nat) : MM w B (.slice none 0 0) [] := ⟨[], World.ownsRow_nil _ _ _ _, fun t h => absurd h (by simp)⟩
theorem ins_rd {w : World} {B : Nat} {x : Value} {m : List Int} (h : Ru.Ins 2 w B x m) : RdI w.heap.size w x m ∧ Ru.NilC x := ⟨(ins_new h).rd, (ins_new h).nilC⟩
theorem MM.rd {w : World} {B : Nat} {u : Value} {l : List (List Int)} (h : MM w B u l) : RdM w.heap.size w u l := by
  obtain ⟨xs, h1, h2⟩ := h
  rcases h1.2 with ⟨rfl, h0⟩ | ⟨g, cap, cur, rfl, hg, hh, r1, r2, r3, r4⟩
  · have : l = [] := List.length_eq_zero_iff.1 h0
    subst this
    exact ⟨none, 0, rfl, ⟨Nat.le_refl _, by omega⟩, fun h => absurd rfl h⟩
  · refine ⟨_, cap, rfl, ⟨r1, by unfold maxLen at r2; omega⟩, fun _ => ⟨g, 0, rfl, (Array.getElem?_eq_some_iff.1 hh).1, fun j hj => ?_⟩⟩
    obtain ⟨x, e, hi⟩ := h2 j hj
    have := World.ownsRow.cellAt h1 j (by omega)
    exact ⟨x, by rw [Nat.zero_add, this, e], (ins_rd hi).1, (ins_rd hi).2⟩
theorem info35 : (Tryd.prog.info? 22).map (fun i => (i.zero, i.size, i.bytes)) = some (some (.slice none 0 0), 1, 24) := by kernel_rfl
/-- append of one row, as one operation. -/
theorem wp_append_row {w : World} {o : Oper} {a : Act} {K : Act → World → Prop} {Q : Exit → Act → World → Prop} (s x : Operand)
    (ho : o.op = .call { callee := .builtin .append, args := #[s, x], argTypes := #[23, 23] }) (B : Nat) (v : Value) (l : List (List Int)) (hs : a.eval s = v) (hm : MM w B v l)
    (g : Nat) (hx : a.eval x = .slice (some ⟨g, 0, none⟩) 1 1) (y : Value) (hy : w.cell? ⟨g, 0, none⟩ = some y) (m : List Int) (hi : Ru.Ins 2 w B y m) (hl : l.length ≤ 1000) (hB : B ≤ w.heap.size)
    (h : ∀ v' w', MM w' B v' (l ++ [m]) → Below B w w' → K (a.put o.dst v') w') : o.wp Tryd.prog a w K Q := by
  obtain ⟨i0, hi0, hz0, hz1, hz2⟩ := info_parts info35
  obtain ⟨xs, h1, h2⟩ := hm
  have hone : y.oneCell' = true := by
    obtain ⟨a, c, rfl⟩ := ins_form hi
    rfl
  refine wp_append_own _ s x 23 ho B 22 i0 (.slice none 0 0) 1 24 Tryd.underlying23 hi0 hz0 hz1 hz2 rfl (by decide) v l.length _ hs h1 ⟨g, 0, none⟩ 1 1 [y] hx (by simp) ?_ (by simpa using hone) (by unfold maxLen; omega) (by omega) hB ?_
  · intro j z hz
    have hj : j = 0 := by
      rcases Nat.eq_zero_or_pos j with e | e
      · exact e
      · rw [List.getElem?_eq_none (by simp; omega)] at hz; cases hz
    subst hj
    rw [Ru.add_off, hy]
    simpa using hz
  · intro v' w' hown' hg _
    have hb : Below B w w' := (Below.refl B w).grown hg hB (fun j e => (World.ownsRow.lt h1 j e).1)
    have hkeep : ∀ {z : Value} {r : List Int}, Ru.Ins 2 w B z r → Ru.Ins 2 w' B z r := fun hz => own_keep hz fun k _ hk => by
      refine hg.block k (Array.getElem?_eq_some_iff.1 hk).1 fun e => ?_
      rcases h1.2 with ⟨rfl, _⟩ | ⟨g', cap, cur, rfl, _, hh, _⟩
      · cases e
      · have : g' = k := by simpa [Value.ownBlock] using e.symm
        subst this
        rw [hk] at hh
        simp at hh
    refine (h v' w' ⟨xs ++ [y], by rw [List.length_append]; exact hown', fun t ht => ?_⟩ hb)
    have hlx : xs.length = l.length := by have := h1.1; omega
    rw [List.length_append, List.length_singleton] at ht
    by_cases e : t < l.length
    · obtain ⟨z, e1, hz⟩ := h2 t e
      exact ⟨z, by rw [List.getElem?_append_left (by omega)]; exact e1, by rw [List.getElem_append_left e]; exact hkeep hz⟩
    · have : t = l.length := by omega
      subst this
      exact ⟨y, by rw [List.getElem?_append_right (by omega), hlx]; simp, by simpa using hkeep hi⟩
theorem rwL_snoc {A : Ar} (h : ck A = 0) {j : Nat} (hj : j < rwN A) : (rwL A).take (j + 1) = (rwL A).take j ++ [rwI A j] := by
  have hl := rwL_len h
  rw [List.take_succ_eq_append_getElem (by omega), rwL_get h]
/-- A part of the cells, as argument of append. -/
theorem rd_cut {A : Ar} (h : ck A = 0) {B : Nat} {w : World} {ad : Addr} {cap : Nat} (hv : RdI B w (.slice (some ad) A.z.length cap) A.z) {j : Nat} (hj : j < rwN A) :
    RdI B w (.slice (some ⟨ad.block, ad.off + j * rwM A, ad.spot⟩) (rwM A) (cap - j * rwM A)) (rwI A j) := by
  obtain ⟨_, _, r2, r3, r4⟩ := rw_good (ck_good h)
  have hI := rwI_len (ck_good h) hj
  have hle : (j + 1) * rwM A ≤ rwN A * rwM A := Nat.mul_le_mul_right _ hj
  rw [Nat.add_mul] at hle
  obtain ⟨p, c, e, h1, h2, h3⟩ := hv
  cases e
  refine ⟨_, _, by rw [hI], by rw [hI]; omega, by omega, fun hne => ?_⟩
  have : A.z ≠ [] := by
    intro e
    apply hne
    unfold rwI
    rw [e]; simp
  obtain ⟨b, off, e, hb, hc⟩ := h3 this
  cases e
  refine ⟨b, off + j * rwM A, rfl, hb, fun t ht => ?_⟩
  rw [Nat.add_assoc, hc _ (by omega), rwI_get ht]

/-- What a walk of the reference's Rows keeps. -/
structure KQr (w : World) (A : Ar) (v : Value) (W : World) : Prop where
  bel : Below w.heap.size w W
  sz : w.heap.size + 1 ≤ W.heap.size
  blk : R5 W w.heap.size A.k A.r A.a A.b v
  rd : RdI w.heap.size W v A.z
theorem KQr.far {w W W' : World} {A : Ar} {v : Value} (h : KQr w A v W) (hb : Below (w.heap.size + 1) W W') : KQr w A v W' :=
  ⟨h.bel.trans (hb.mono (by omega)), Nat.le_trans h.sz hb.size, (hb.block _ (by omega)).trans h.blk, h.rd.below (hb.mono (by omega))⟩
theorem KQr.next {w W W' : World} {A : Ar} {v : Value} (h : KQr w A v W) (hb : Below W.heap.size W W') : KQr w A v W' := h.far (hb.mono h.sz)
theorem KQr.rdn {w W : World} {A : Ar} {v : Value} (h : KQr w A v W) : RdI W.heap.size W v A.z := h.rd.mono h.bel.size
theorem KQr.new {w : World} {A : Ar} {v : Value} (hv : RdI w.heap.size w v A.z) : KQr w A v (w.alloc (.cells #[.int .i64 A.k, .int .i64 A.r, .int .i64 A.a, .int .i64 A.b, v] 27)) :=
  ⟨bel1 _ _, by simp, R5.new _ _ _ _ _ _, hv.below (bel1 _ _)⟩

end Go.Proofs.YtnoljljagfpogaaDoor
