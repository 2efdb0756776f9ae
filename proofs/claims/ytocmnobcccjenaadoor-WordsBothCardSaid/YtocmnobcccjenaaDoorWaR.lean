/- tooLong. -/
import Derived.Test.YtocmnobcccjenaaDoorWaK
namespace Go.Proofs.YtocmnobcccjenaaDoor
open Go.RowKit

abbrev Fd := List UInt8 × Bool
def fdV (f : Fd) : List Value := [.string ⟨f.1.toArray⟩, .bool f.2]
/-- A slice that reads as a list of fields, in a block below B. -/
def FldB (B : Nat) (w : World) (v : Value) (l : List Fd) : Prop :=
  ∃ a cap, v = .slice a l.length cap ∧ l.length ≤ cap ∧ (l ≠ [] → ∃ b off, a = some ⟨b, off, none⟩ ∧ b < B ∧ ∀ j (h : j < l.length), w.cell? ⟨b, off + j * 2, none⟩ = some (.string ⟨l[j].1.toArray⟩) ∧ w.cell? ⟨b, off + j * 2 + 1, none⟩ = some (.bool l[j].2))
/-- A row of fields of the call's own. -/
def Fls (w : World) (base : Nat) (v : Value) (l : List Fd) : Prop := w.ownsRow base 30 2 v l.length (l.flatMap fdV)
theorem flat_at (l : List Fd) : ∀ (j : Nat) (h : j < l.length), (l.flatMap fdV)[j * 2]? = some (.string ⟨l[j].1.toArray⟩) ∧ (l.flatMap fdV)[j * 2 + 1]? = some (.bool l[j].2) := by
  induction l with
  | nil => intro j h; simp at h
  | cons f r ih =>
    intro j h
    cases j with
    | zero => exact ⟨rfl, rfl⟩
    | succ j =>
      have := ih j (by simpa using h)
      rw [show (j + 1) * 2 = j * 2 + 1 + 1 from by omega]
      exact this
theorem Fls.fld {w : World} {base : Nat} {v : Value} {l : List Fd} (h : Fls w base v l) : FldB w.heap.size w v l := by
  obtain ⟨h1, h2⟩ := h
  rcases h2 with ⟨rfl, hl⟩ | ⟨g, cap, cur, rfl, hg, hh, hc, hm, hs, ht⟩
  · have : l = [] := List.eq_nil_of_length_eq_zero hl
    subst this
    exact ⟨none, 0, rfl, Nat.le_refl _, fun h => absurd rfl h⟩
  · refine ⟨_, cap, rfl, hc, fun _ => ⟨g, 0, rfl, (Array.getElem?_eq_some_iff.1 hh).1, fun j hj => ?_⟩⟩
    have hf := flat_at l j hj
    rw [← ht, List.getElem?_take, if_pos (by omega), List.getElem?_take, if_pos (by omega)] at hf
    rw [Nat.zero_add, cell_of_block hh, cell_of_block hh]
    simpa using hf
def longB (l : List Fd) : Bool := l.any (fun f => decide (2000 < f.1.length))
def tooB (l : List Fd) : Bool := longB l || decide (64 < l.length)

theorem long_snoc (l : List Fd) (k : Nat) (h : k < l.length) : longB (l.take (k + 1)) = (longB (l.take k) || decide (2000 < l[k].1.length)) := by
  unfold longB; rw [List.take_succ_eq_append_getElem h, List.any_append]; simp
theorem long_no (l : List Fd) (k : Nat) (h : k < l.length) (hp : 2000 < l[k].1.length) : longB l = true := by
  unfold longB; rw [List.any_eq_true]; exact ⟨l[k], List.getElem_mem h, by simpa using hp⟩

set_option maxHeartbeats 2000000 in
theorem tooLong_any (v : Value) (l : List Fd) (w : World) (hv : FldB w.heap.size w v l) (hln : l.length ≤ 1000000) :
    Calls Tryd.prog 15 #[v] w fun e w' => e = .returned (.bool (tooB l)) ∧ Below w.heap.size w w' := by
  obtain ⟨a, cap, rfl, hcap, hcell⟩ := hv
  go_enter Tryd.func15, Tryd.ntmps15
  go_wp2
  go_loopw [7] (fun i wr => ∃ k : Nat, k ≤ l.length ∧ i = .int .i64 k ∧ Below w.heap.size w wr ∧ Hid (longB (l.take k) = false)) (fun i _ => l.length - (intOf i).toNat)
  case atStart => exact ⟨0, by omega, rfl, Below.refl _ _, by simp [Hid, longB]⟩
  case round =>
    obtain ⟨k, hk, rfl, hbl, hq⟩ := hrel
    have hsz := hbl.size
    by_cases hlt : k < l.length
    · obtain ⟨b, off, rfl, hb, hc⟩ := hcell (by intro e; rw [e] at hlt; simp at hlt)
      obtain ⟨hc1, hc2⟩ := hc k hlt
      have hd1 : wr.cell? ⟨b, off + k * 2, none⟩ = some (.string ⟨l[k].1.toArray⟩) := (hbl.cell (p := ⟨b, off + k * 2, none⟩) hb).trans hc1
      have hd2 : wr.cell? ⟨b, off + k * 2 + 1, none⟩ = some (.bool l[k].2) := (hbl.cell (p := ⟨b, off + k * 2 + 1, none⟩) hb).trans hc2
      clear hcell hc hc1 hc2
      have HS := Lib.hid (long_snoc l k hlt)
      have HN := Lib.hid (long_no l k hlt)
      go_wp2
      · go_ret
        exact ⟨ret_bool (by unfold tooB; rw [HN.out (by omega)]; rfl), hbl.alloc hsz _⟩
      · go_roundw
        case rel => exact ⟨k + 1, by omega, by go_num, hbl.alloc hsz _, by unfold Hid; rw [HS.out, hq.out, decide_eq_false (by omega)]; rfl⟩
        case measure => simp [intOf]; try omega
    · have HL : Hid (longB l = false) := by unfold Hid; have := hq.out; rwa [List.take_of_length_le (by omega)] at this
      clear hq hcell
      go_wp2
      all_goals (go_ret; exact ⟨ret_bool (by unfold tooB; rw [HL.out, Bool.false_or, Bool.eq_iff_iff]; simp; try omega), hbl⟩)
end Go.Proofs.YtocmnobcccjenaaDoor
