/- The sums on the way: sums.and; slices of them. -/
import Derived.Test.YtokmdgiialcokaaDoorFoD
namespace Go.Proofs.YtokmdgiialcokaaDoor
open Go.RowKit

/-- A block that holds the sums so far. -/
def S2 (w : World) (g : Nat) (x : Int) (u : Value) : Prop := w.heap[g]? = some (.cells #[.int .i64 x, u] 80 (0, 0))
theorem S2.c0 {w : World} {g : Nat} {x : Int} {u : Value} (h : S2 w g x u) : w.cell? ⟨g, 0, none⟩ = some (.int .i64 x) := by unfold S2 at h; simp [World.cell?, h]
theorem S2.c1 {w : World} {g : Nat} {x : Int} {u : Value} (h : S2 w g x u) : w.cell? ⟨g, 1, none⟩ = some u := by unfold S2 at h; simp [World.cell?, h]
theorem S2.fr {w : World} {g : Nat} {x : Int} {u : Value} (h : S2 w g x u) (i : Nat) : w.frozen? ⟨g, i, none⟩ = false := Lib.frozen_of_heap h i
theorem S2.lt {w : World} {g : Nat} {x : Int} {u : Value} (h : S2 w g x u) : g < w.heap.size := (Array.getElem?_eq_some_iff.1 h).1
theorem S2.next {w w' : World} {g : Nat} {x : Int} {u : Value} (h : S2 w g x u) (hb : Below w.heap.size w w') : S2 w' g x u := (hb.block g h.lt).trans h
theorem S2.new (w : World) (x : Int) (u : Value) : S2 (w.alloc (.cells #[.int .i64 x, u] 80)) w.heap.size x u := heap_alloc_last w _
abbrev st2 (w : World) (g : Nat) (x : Int) (u : Value) : World := (w.setCell ⟨g, 0, none⟩ (.int .i64 x)).setCell ⟨g, 1, none⟩ u
theorem S2.set {w : World} {g : Nat} {x : Int} {u : Value} (h : S2 w g x u) (y : Int) (v : Value) : S2 (st2 w g y v) g y v := by
  unfold S2 at h ⊢
  simp [World.setCell, Array.getElem?_modify, h]
theorem st2_other {w : World} {g : Nat} (x : Int) (u : Value) {c : Nat} (hc : c ≠ g) : (st2 w g x u).heap[c]? = w.heap[c]? := by
  have : g ≠ c := fun e => hc e.symm
  simp [World.setCell, Array.getElem?_modify, this]
theorem st2_below {B : Nat} {w w' : World} {g : Nat} (x : Int) (u : Value) (hg : B ≤ g) (h : Below B w w') : Below B w (st2 w' g x u) :=
  (h.setCell (p := ⟨g, 0, none⟩) hg _).setCell (p := ⟨g, 1, none⟩) hg _
theorem own_keep7 {w w' : World} {B : Nat} {e : TypeId} {s : Nat} {v : Value} {n : Nat} {xs : List Value} (h : w.ownsRow B e s v n xs) (hb : ∀ (g : Nat) (c : Array Value), w.heap[g]? = some (Obj.cells c e (0, 0)) → w'.heap[g]? = w.heap[g]?) : w'.ownsRow B e s v n xs := by
  obtain ⟨h1, h2⟩ := h
  refine ⟨h1, ?_⟩
  rcases h2 with h2 | ⟨g, cap, cur, hv, hg, hh, r⟩
  · exact .inl h2
  · exact .inr ⟨g, cap, cur, hv, hg, (hb g cur hh).trans hh, r⟩
theorem ins_st2 {w : World} {B g : Nat} {u : Value} {l : List Int} {x0 : Int} {u0 : Value} (h : Ru.Ins 2 w B u l) (hs : S2 w g x0 u0) (x : Int) (v : Value) : Ru.Ins 2 (st2 w g x v) B u l :=
  own_keep7 h fun k c hk => st2_other _ _ fun e => by
    subst e
    unfold S2 at hs
    rw [hs] at hk
    simp at hk
theorem ins_form7 {B : Nat} {w : World} {v : Value} {l : List Int} (h : Ru.Ins 2 w B v l) : ∃ a c, v = .slice a l.length c := by
  obtain ⟨a, c, h1, _⟩ := (ins_new h).form
  exact ⟨a, c, h1⟩
/-- append of one number, laid in a block of its own just before; what stays. -/
theorem wpList_app1k {w0 : World} {ops : Array Oper} {rest : List Oper} {o : Oper} {a : Act} {Q : Exit → Act → World → Prop} (hgd : Region.wanted o (yielded ops a.tmps) = true) (s x : Operand)
    (ho : o.op = .call { callee := .builtin .append, args := #[s, x], argTypes := #[23, 23] }) (B : Nat) (v : Value) (l : List Int) (hs : a.eval s = v) (hown : Ru.Ins 2 w0 B v l) (m : Int)
    (hx : a.eval x = .slice (some ⟨w0.heap.size, 0, none⟩) 1 1) (hl : l.length + 1 ≤ 1000000) (hB : B ≤ w0.heap.size)
    (h : ∀ v' w', Ru.Ins 2 w' B v' (l ++ [m]) → Below B w0 w' → (∀ k, k < w0.heap.size → v.ownBlock ≠ some k → w'.heap[k]? = w0.heap[k]?) → wpList Tryd.prog ops Q rest (a.put o.dst v') w') : wpList Tryd.prog ops Q (o :: rest) a (w0.alloc (.cells #[.int .i64 m] 2)) := by
  have hb := bel1 w0 (.cells #[.int .i64 m] 2)
  have ho2 : Ru.Ins 2 (w0.alloc (.cells #[.int .i64 m] 2)) B v l := World.ownsRow.alloc hown _
  refine Ru.wpList_append_is hgd s x ho B v l hs ho2 _ [m] hx _ (blk_rd (l := [m]) rfl (by simp) (heap_alloc_last w0 _)).ru (nil_some _ _ _) (by simpa using hl) (by simp; omega) ?_
  intro v' w' h1 h2
  exact h v' w' h1 ((hb.mono hB).trans (ins_grown ho2 (by simp; omega) h2)) fun k hk hne => (h2.block k (by simp; omega) fun e => hne e.symm).trans (hb.block k hk)
set_option maxRecDepth 100000 in
set_option maxHeartbeats 4000000 in
theorem and_any (x c : Int) (B : Nat) (q : Option Addr) (n cap : Nat) (l : List Int) (w : World) (hu : Ru.Ins 2 w B (.slice q n cap) l) (hB : B ≤ w.heap.size) (hx : Sc.inr x = true) (hc : Sc.inr c = true) (hl : l.length ≤ 1000) :
    Calls Tryd.prog 69 #[.agg #[.int .i64 x, .slice q n cap], .int .i64 c] w fun e w' => ∃ q' c', e = .returned (.tuple #[.agg #[.int .i64 (Sc.twoV 15 x c).1, .slice q' (n + 1) c'], .int .i64 (Sc.twoV 15 x c).2]) ∧ Ru.Ins 2 w' B (.slice q' (n + 1) c') (l ++ [(Sc.twoV 15 x c).1]) ∧ Below B w w' := by
  have HC : Hid (∀ W, Calls Tryd.prog 54 #[.int .i64 15, .int .i64 x, .int .i64 c] W fun e w' => e = .returned (.tuple #[.int .i64 (Sc.twoV 15 x c).1, .int .i64 (Sc.twoV 15 x c).2]) ∧ Below W.heap.size W w') := fun W => Sc.stwo_any 15 x c W (inr_lo hx) (inr_hi hx) (inr_lo hc) (inr_hi hc)
  generalize (Sc.twoV 15 x c).1 = a at HC ⊢
  generalize (Sc.twoV 15 x c).2 = b at HC ⊢
  have hnl : n = l.length := by
    obtain ⟨_, _, e⟩ := ins_form7 hu
    injection e
  have HNl := Lib.hid hnl
  have hl2 : n ≤ 1000 := by omega
  clear hnl hl
  have HIn := Lib.hid hu
  have HOw : Hid (∀ k, Value.ownBlock (.slice q n cap) = some k → k < w.heap.size) := fun k e => (World.ownsRow.lt hu k e).2
  have h0 := bel1 w (.cells #[.int .i64 x, .slice q n cap] 80)
  have e1 : (w.alloc (.cells #[.int .i64 x, .slice q n cap] 80)).heap.size = w.heap.size + 1 := by simp
  have hs0 := S2.new w x (.slice q n cap)
  have hbx : S2 ((w.alloc (.cells #[.int .i64 x, .slice q n cap] 80)).alloc (.cells #[.int .i64 0, .slice none 0 0] 80)) w.heap.size x (.slice q n cap) := hs0.next (bel1 _ _)
  have hrs : S2 ((w.alloc (.cells #[.int .i64 x, .slice q n cap] 80)).alloc (.cells #[.int .i64 0, .slice none 0 0] 80)) (w.heap.size + 1) 0 (.slice none 0 0) := by rw [← e1]; exact S2.new _ _ _
  have HBx := Lib.hid hbx
  have HRs := Lib.hid hrs
  have HB0 : Hid (Below w.heap.size w ((w.alloc (.cells #[.int .i64 x, .slice q n cap] 80)).alloc (.cells #[.int .i64 0, .slice none 0 0] 80))) := h0.trans ((bel1 _ _).mono (by simp))
  have x0 := HBx.out.c0
  have x1 := HBx.out.c1
  clear hu hx hc h0 e1 hs0 hbx hrs
  go_enter Tryd.func69, Tryd.ntmps69
  go_wp2_with (first
    | (go_at_call 54; (with_reducible refine (HC.out _).mono ?_); rintro e w1 ⟨rfl, hb⟩; have HBx1 := Lib.hid (HBx.out.next hb); have HRs1 := Lib.hid (HRs.out.next hb); have HB1 := Lib.hid (HB0.out.trans (hb.mono HB0.out.size)); have HIn1 := Lib.hid (ins_next7 HIn.out HB1.out); have hsz := HB1.out.size; clear hb HBx HRs x0 x1; have x1 := HBx1.out.c1)
    | (at_builtin; refine wpList_app1k (by simp [Region.wanted]) _ _ rfl B _ _ rfl HIn1.out a rfl (by rw [← HNl.out]; omega) (by omega) ?_; intro u2 w2 hu2 hb2 hk2; obtain ⟨va, vc, hv⟩ := ins_form7 hu2; rw [List.length_append, List.length_singleton, ← HNl.out] at hv; subst hv; have HU2 := Lib.hid hu2; have HR2 : Hid (S2 w2 (w.heap.size + 1) 0 (.slice none 0 0)) := (hk2 _ HRs1.out.lt (fun e => absurd (HOw.out _ e) (by omega))).trans HRs1.out; have HB2 := Lib.hid ((HB1.out.mono hB).trans hb2); clear hu2 hb2 hk2; have y0 := HR2.out.c0; have y1 := HR2.out.c1; have f0 := HR2.out.fr 0; have f1 := HR2.out.fr 1; have HS := Lib.hid (HR2.out.set a (.slice va (n + 1) vc)); have z0 := HS.out.c0; have z1 := HS.out.c1)
    | fail)
  refine bodyPost_ret (v := .tuple #[.agg #[.int .i64 a, .slice va (n + 1) vc], .int .i64 b]) (by simp [results, Tryd.results69, go_sem, z0, z1]) rfl ?_
  exact ⟨_, _, rfl, ins_st2 HU2.out HR2.out _ _, st2_below _ _ (by omega) HB2.out⟩

/-- A slice of sums that the call has made. -/
def MS (w : World) (B : Nat) (u : Value) (L : List (List Int)) : Prop :=
  ∃ xs, w.ownsRow B 80 2 u L.length xs ∧ ∀ t (h : t < L.length), ∃ x y, xs[t * 2]? = some (.int .i64 x) ∧ xs[t * 2 + 1]? = some y ∧ Ru.Ins 2 w B y L[t]
theorem MS.next {w w' : World} {B : Nat} {u : Value} {l : List (List Int)} (h : MS w B u l) (hb : Below w.heap.size w w') : MS w' B u l := by
  obtain ⟨xs, h1, h2⟩ := h
  refine ⟨xs, own_keep7 h1 fun g _ hg => hb.block g (Array.getElem?_eq_some_iff.1 hg).1, fun t ht => ?_⟩
  obtain ⟨x, y, e, e2, hi⟩ := h2 t ht
  exact ⟨x, y, e, e2, own_keep7 hi fun g _ hg => hb.block g (Array.getElem?_eq_some_iff.1 hg).1⟩
theorem MS.nil (w : World) (B : Nat) : MS w B (.slice none 0 0) [] := ⟨[], World.ownsRow_nil _ _ _ _, fun t h => absurd h (by simp)⟩
theorem infoSums : (Tryd.prog.info? 80).map (fun i => (i.zero, i.size, i.bytes)) = some (some (.agg #[.int .i64 0, .slice none 0 0]), 2, 32) := by kernel_rfl
theorem MS.mono {w : World} {B B' : Nat} {u : Value} {l : List (List Int)} (h : MS w B u l) (hB : B' ≤ B) : MS w B' u l := by
  obtain ⟨xs, h1, h2⟩ := h
  refine ⟨xs, Ru.own_mono h1 hB, fun t ht => ?_⟩
  obtain ⟨x, y, e, e2, hi⟩ := h2 t ht
  exact ⟨x, y, e, e2, Ru.own_mono hi hB⟩
/-- append of one, laid in a block of its own just before. -/
theorem wpList_append_ms {w0 : World} {ops : Array Oper} {rest : List Oper} {o : Oper} {a : Act} {Q : Exit → Act → World → Prop} (hgd : Region.wanted o (yielded ops a.tmps) = true) (s x : Operand)
    (ho : o.op = .call { callee := .builtin .append, args := #[s, x], argTypes := #[76, 76] }) (B : Nat) (v : Value) (L : List (List Int)) (hs : a.eval s = v) (hm : MS w0 B v L) (z : Int) (y : Value) (m : List Int) (hi : Ru.Ins 2 w0 B y m)
    (hx : a.eval x = .slice (some ⟨w0.heap.size, 0, none⟩) 1 1) (hl : L.length ≤ 1000) (hB : B ≤ w0.heap.size)
    (h : ∀ v' w', MS w' B v' (L ++ [m]) → Below B w0 w' → wpList Tryd.prog ops Q rest (a.put o.dst v') w') : wpList Tryd.prog ops Q (o :: rest) a (w0.alloc (.cells #[.int .i64 z, y] 80)) := by
  obtain ⟨i0, hi0, hz0, hz1, hz2⟩ := info_parts infoSums
  obtain ⟨xs, h1, h2⟩ := hm
  have hone : y.oneCell' = true := by
    obtain ⟨a, c, rfl⟩ := ins_form7 hi
    rfl
  have hb0 := bel1 w0 (.cells #[.int .i64 z, y] 80)
  have h1a := World.ownsRow.alloc h1 (.cells #[.int .i64 z, y] 80)
  refine Ru.wpList_met hgd fun K hK => wp_append_own _ s x 76 ho B 80 i0 (.agg #[.int .i64 0, .slice none 0 0]) 2 32 Tryd.underlying76 hi0 hz0 hz1 hz2 rfl (by decide) v L.length _ hs h1a ⟨w0.heap.size, 0, none⟩ 1 1 [.int .i64 z, y] hx (by simp) ?_ (by simpa [Value.oneCell'] using hone) (by unfold maxLen; omega) (by omega) (by simp; omega) ?_
  · intro j t ht
    rw [Ru.add_off, Nat.zero_add]
    have hj : j = 0 ∨ j = 1 := by
      rcases Nat.lt_or_ge j 2 with e | e
      · omega
      · rw [List.getElem?_eq_none (by simp; omega)] at ht; cases ht
    have c0 := (S2.new w0 z y).c0
    have c1 := (S2.new w0 z y).c1
    rcases hj with rfl | rfl
    · rw [c0]; simpa using ht
    · rw [c1]; simpa using ht
  · intro v' w' hown' hg _
    have hb : Below B w0 w' := (hb0.mono hB).trans ((Below.refl B _).grown hg (by simp; omega) (fun j e => (World.ownsRow.lt h1a j e).1))
    have hkeep : ∀ {z : Value} {r : List Int}, Ru.Ins 2 w0 B z r → Ru.Ins 2 w' B z r := fun hz => own_keep7 hz fun k _ hk => by
      have hk2 : k < w0.heap.size := (Array.getElem?_eq_some_iff.1 hk).1
      refine (hg.block k (by simp; omega) fun e => ?_).trans (hb0.block k hk2)
      rcases h1.2 with ⟨rfl, _⟩ | ⟨g', cap, cur, rfl, _, hh, _⟩
      · cases e
      · have : g' = k := by simpa [Value.ownBlock] using e.symm
        subst this
        rw [hk] at hh
        simp at hh
    refine hK _ _ (h v' w' ⟨xs ++ [.int .i64 z, y], by rw [List.length_append]; exact hown', fun t ht => ?_⟩ hb)
    have hlx : xs.length = L.length * 2 := h1.1
    rw [List.length_append, List.length_singleton] at ht
    by_cases e : t < L.length
    · obtain ⟨x1, y1, e1, e2, hz⟩ := h2 t e
      exact ⟨x1, y1, by rw [List.getElem?_append_left (by omega)]; exact e1, by rw [List.getElem?_append_left (by omega)]; exact e2, by rw [List.getElem_append_left e]; exact hkeep hz⟩
    · have : t = L.length := by omega
      subst this
      exact ⟨z, y, by rw [List.getElem?_append_right (by omega), hlx]; simp, by rw [List.getElem?_append_right (by omega), hlx, show L.length * 2 + 1 - L.length * 2 = 1 by omega]; rfl, by simpa using hkeep hi⟩
end Go.Proofs.YtokmdgiialcokaaDoor
