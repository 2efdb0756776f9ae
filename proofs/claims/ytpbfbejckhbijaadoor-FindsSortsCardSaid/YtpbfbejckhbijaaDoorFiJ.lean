/- slices.SortStableFunc of fewer than 20 places, by the cells of a vector (for Grade at few cells). -/
import Derived.Test.YtpbfbejckhbijaaDoorFiAz
import Derived.Test.YtpbfbejckhbijaaDoorShelf
import Derived.Test.YtpbfbejckhbijaaDoorArY
import Derived.Deep.QuietTactic
namespace Go.Proofs.YtpbfbejckhbijaaDoor
open Go.RowKit Go.Sort

set_option maxRecDepth 100000 in
set_option maxHeartbeats 4000000 in
/-- The closure that compares two places. -/
theorem grade1_any (z : List Int) (gb : Nat) (v : Value) (i k : Nat) (w : World) (hb : w.cell? ⟨gb, 4, none⟩ = some v) (hv : RdI w.heap.size w v z) (hi : i < z.length) (hk : k < z.length) :
    Calls Tryd.prog 26 #[.int .i64 i, .int .i64 k, .pointer (some ⟨gb, 0, none⟩)] w fun e w' => e = .returned (.int .i64 (cmZ (z.getD i 0) (z.getD k 0))) ∧ ∃ m, w' = w.drewN m := by
  obtain ⟨p, cap, rfl, hcap, hcap2, hcell⟩ := id hv
  clear hcell
  obtain ⟨bk, off, rfl, _, hc⟩ := hv.cells (by intro e; rw [e] at hi; simp at hi)
  have x0 := hc i hi
  have y0 := hc k hk
  have e1 : z.getD i 0 = z[i] := by rw [List.getD_eq_getElem?_getD, List.getElem?_eq_getElem hi]; rfl
  have e2 : z.getD k 0 = z[k] := by rw [List.getD_eq_getElem?_getD, List.getElem?_eq_getElem hk]; rfl
  rw [e1, e2]
  clear e1 e2 hc hv
  have h1 : (i : Int) < (z.length : Int) := by omega
  have h2 : (k : Int) < (z.length : Int) := by omega
  generalize z[i] = a at x0 ⊢
  generalize z[k] = b at y0 ⊢
  have HC : Hid (∀ n, Calls Tryd.prog 27 #[.int .i64 a, .int .i64 b] (w.drewN n) fun e w' => e = .returned (.int .i64 (cmZ a b)) ∧ ∃ m, w' = w.drewN m) := fun n => (cmp_i64 a b _).mono fun e w' h => ⟨h.1, n, h.2.symm⟩
  go_enter Tryd.func26, Tryd.ntmps26
  go_wp2_with fail
  go_quiet (first | (go_at_call 27; exact HC.out _) | fail)
  go_wp2_with fail
  go_ret
  exact ⟨rfl, _, rfl⟩
def encF {m : Nat} (i : Fin m) : Value := .int .i64 (i.val : Int)
def cfF (z : List Int) {m : Nat} (i k : Fin m) : Int := cmZ (z.getD i.val 0) (z.getD k.val 0)
theorem sortWorld_heap {α : Type} [Inhabited α] (enc : α → Value) (w : World) (blk off m : Nat) (dk : Array α) (os : Array Obj) {c : Nat} (h1 : c ≠ blk) (h2 : c < w.heap.size) : (sortWorld enc w blk off m dk os).heap[c]? = w.heap[c]? := by
  have : blk ≠ c := fun e => h1 e.symm
  unfold sortWorld grow putRow mapBlock Sort.ahead
  simp [Array.getElem?_append, Array.getElem_modify, h2, this]
theorem sortWorld_size {α : Type} [Inhabited α] (enc : α → Value) (w : World) (blk off m : Nat) (dk : Array α) (os : Array Obj) : w.heap.size ≤ (sortWorld enc w blk off m dk os).heap.size := by
  unfold sortWorld grow putRow mapBlock Sort.ahead
  simp
theorem cmpReads_grade {n : Nat} (z : List Int) (hz : z.length = n + 1) (gb blk : Nat) (v : Value) (w : World) (hb : w.cell? ⟨gb, 4, none⟩ = some v) (hv : RdX [blk] w v z) (hg : gb ≠ blk) (hgl : gb < w.heap.size) :
    CmpReads Tryd.prog 26 #[.pointer (some ⟨gb, 0, none⟩)] (encF (m := n + 1)) (cfF z) blk 0 (n + 1) w := by
  intro m os dk hs x y
  have hh : ∀ c, c ≠ blk → c < w.heap.size → (sortWorld encF w blk 0 m dk os).heap[c]? = w.heap[c]? := fun c h1 h2 => sortWorld_heap _ _ _ _ _ _ _ h1 h2
  refine grade1_any z gb v x.val y.val _ ?_ ((hv.keep (sortWorld_size _ _ _ _ _ _ _) fun c hc hl => hh c (by simpa using hc) hl).rd) (by have := x.isLt; omega) (by have := y.isLt; omega)
  have h := hb
  unfold World.cell? at h ⊢
  rw [hh gb hg hgl]
  exact h
/-- The places in the order that the insertions leave. -/
def grS (z : List Int) : List Int := match z.length with
  | 0 => []
  | n + 1 => (Sort.insertionSort (ltOf (cfF z)) (Array.ofFn (fun i : Fin (n + 1) => i)) 0 (n + 1)).toList.map fun i => (i.val : Int)
theorem insInner_size {α : Type} [Inhabited α] (lt : α → α → Bool) (a : Nat) : ∀ (j : Nat) (d : Array α), (insInner lt a j d).size = d.size
  | 0, d => rfl
  | j + 1, d => by
    unfold insInner
    split
    · rw [insInner_size lt a j]; simp [swp]
    · rfl
theorem insOuter_size {α : Type} [Inhabited α] (lt : α → α → Bool) (a b : Nat) : ∀ (k i : Nat) (d : Array α), b - i = k → (insOuter lt a b i d).size = d.size := by
  intro k
  induction k with
  | zero => intro i d h; rw [insOuter]; rw [if_neg (by omega)]
  | succ k ih => intro i d h; rw [insOuter]; rw [if_pos (by omega), ih _ _ (by omega), insInner_size]
theorem insSort_size {α : Type} [Inhabited α] (lt : α → α → Bool) (d : Array α) (a b : Nat) : (Sort.insertionSort lt d a b).size = d.size := insOuter_size lt a b _ _ _ rfl
theorem putRow_below {α : Type} [Inhabited α] (enc : α → Value) (w : World) (blk off : Nat) (d : Array α) {B : Nat} (hB : B ≤ blk) : Below B w (putRow enc w blk off d) := by
  refine ⟨rfl, rfl, rfl, by simp, fun k hk => ?_⟩
  have h := sortWorld_heap enc w blk off 0 d #[] (c := k) (by omega)
  by_cases hl : k < w.heap.size
  · have h2 := h hl
    rw [sortWorld_none] at h2
    exact h2
  · rw [Array.getElem?_eq_none (by simp; omega), Array.getElem?_eq_none (by omega)]
set_option maxRecDepth 100000 in
set_option maxHeartbeats 4000000 in
theorem stable_small {n : Nat} (z : List Int) (hz : z.length = n + 1) (h20 : n + 1 < 20) (gb blk : Nat) (v : Value) (w : World) (hb : w.cell? ⟨gb, 4, none⟩ = some v) (hv : RdX [blk] w v z) (hg : gb ≠ blk) (hgl : gb < w.heap.size)
    (hr : w.rowIs blk 2 (n + 1) (zf (upZ (n + 1)) (n + 1))) :
    Calls Tryd.prog 25 #[.slice (some ⟨blk, 0, none⟩) (n + 1) (n + 1), .func (.func 26) #[] #[.pointer (some ⟨gb, 0, none⟩)]] w fun e w' => e = .returned (.tuple #[]) ∧ RdI w'.heap.size w' (.slice (some ⟨blk, 0, none⟩) (n + 1) (n + 1)) (grS z) ∧ Below blk w w' := by
  obtain ⟨d, hd⟩ : ∃ d : Array (Fin (n + 1)), d = Array.ofFn (fun i : Fin (n + 1) => i) := ⟨_, rfl⟩
  have hds : d.size = n + 1 := by rw [hd]; simp
  have hH : Holds encF w blk 0 d := fun j hj => by
    have hj2 : j < n + 1 := by omega
    refine ⟨?_, hr.frozen _⟩
    rw [Nat.zero_add, hr.cell hj2]
    unfold zf encF
    rw [if_pos hj2, upZ_at hj2, getElem!_pos d j hj]
    subst hd
    simp
  have hgs : grS z = (Sort.insertionSort (ltOf (cfF z)) d 0 (n + 1)).toList.map fun i => (i.val : Int) := by
    unfold grS
    rw [hz, hd]
  have hrs := insSort_size (ltOf (cfF z)) d 0 (n + 1)
  have hc := Any.insertionSortCmpFunc_one Tryd.isort (encF (m := n + 1)) (fun _ => rfl) (cfF z) 26 #[.pointer (some ⟨gb, 0, none⟩)] blk 0 (n + 1) 0 d.size d w (fun _ _ => by kernel_rfl) (by rw [hds]; exact cmpReads_grade z hz gb blk v w hb hv hg hgl) hH (Nat.zero_le _) (Nat.le_refl _) (by omega)
  rw [hds] at hc
  have HEnd : Hid (∀ m, RdI ((putRow encF w blk 0 (Sort.insertionSort (ltOf (cfF z)) d 0 (n + 1))).drewN m).heap.size ((putRow encF w blk 0 (Sort.insertionSort (ltOf (cfF z)) d 0 (n + 1))).drewN m) (.slice (some ⟨blk, 0, none⟩) (n + 1) (n + 1)) (grS z) ∧ Below blk w ((putRow encF w blk 0 (Sort.insertionSort (ltOf (cfF z)) d 0 (n + 1))).drewN m)) := fun m => by
    have hlt := hr.lt
    have hp := holds_putRow encF w blk 0 d _ hH hrs
    have hl : (grS z).length = n + 1 := by rw [hgs]; simp [hrs, hds]
    refine ⟨⟨_, _, by rw [hl], by rw [hl]; exact Nat.le_refl _, by omega, fun _ => ⟨blk, 0, rfl, ?_, fun j hj => ?_⟩⟩, (putRow_below encF w blk 0 _ (Nat.le_refl _)).trans (below_drewN (Below.refl _ _) m)⟩
    · show blk < (putRow encF w blk 0 _).heap.size
      simpa using hlt
    · rw [hl] at hj
      have h1 := (hp j (by rw [hrs, hds]; exact hj)).1
      show (putRow encF w blk 0 _).cell? _ = _
      rw [h1]
      unfold encF
      simp only [hgs, List.getElem_map, Array.getElem_toList]
      rw [getElem!_pos _ j (by rw [hrs, hds]; exact hj)]
  have HX : Hid (∃ F : Nat → World, (Calls Tryd.prog 43 #[.slice (some ⟨blk, 0, none⟩) (n + 1) (n + 1), .int .i64 0, .int .i64 ((n + 1 : Nat) : Int), .func (.func 26) #[] #[.pointer (some ⟨gb, 0, none⟩)]] w fun e w' => e = .returned (.tuple #[]) ∧ ∃ m, w' = F m) ∧ ∀ m, RdI (F m).heap.size (F m) (.slice (some ⟨blk, 0, none⟩) (n + 1) (n + 1)) (grS z) ∧ Below blk w (F m)) := ⟨_, hc, HEnd.out⟩
  clear hc hrs hgs hd hH hds hv hr hb HEnd
  obtain ⟨F, hF, hE⟩ := HX.out
  have HC := Lib.hid hF
  have HEnd := Lib.hid hE
  clear HX hF hE hz
  generalize grS z = Z at HEnd ⊢
  obtain ⟨M, hM⟩ : ∃ M : Nat, n + 1 = M := ⟨_, rfl⟩
  rw [hM] at HC HEnd h20 ⊢
  clear hM
  have k1 : decide ((20 : Int) ≤ (M : Int)) = false := decide_eq_false (by omega)
  have k2 : decide ((20 : Int) < (M : Int)) = false := decide_eq_false (by omega)
  have k3 : ¬ ((20 : Int) ≤ (M : Int)) := by omega
  have k4 : ¬ ((20 : Int) < (M : Int)) := by omega
  have HSt : Hid (Calls Tryd.prog 35 #[.slice (some ⟨blk, 0, none⟩) M M, .int .i64 (M : Int), .func (.func 26) #[] #[.pointer (some ⟨gb, 0, none⟩)]] w fun e w' => e = .returned (.tuple #[]) ∧ ∃ m, w' = F m) := by
    unfold Hid
    clear HEnd
    go_enter Tryd.func35, Tryd.ntmps35
    go_wp2
    refine wp_loop_rounds 1 ?_
    rw [rounds_succ]
    go_wp2_with (go_at_call 43; refine HC.out.mono ?_; rintro e w1 ⟨rfl, m, rfl⟩)
    refine wp_loop_rounds 1 ?_
    rw [rounds_succ]
    go_wp2
    go_end0
    exact ⟨rfl, m, rfl⟩
  go_enter Tryd.func25, Tryd.ntmps25
  go_wp2_with (go_at_call 35; refine HSt.out.mono ?_; rintro e w1 ⟨rfl, m, rfl⟩)
  go_end0
  exact ⟨rfl, HEnd.out m⟩
end Go.Proofs.YtpbfbejckhbijaaDoor
