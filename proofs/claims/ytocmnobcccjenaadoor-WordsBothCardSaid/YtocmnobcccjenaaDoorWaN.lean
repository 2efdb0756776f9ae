/- firstRun. -/
import Derived.Test.YtocmnobcccjenaaDoorWaM
namespace Go.Proofs.YtocmnobcccjenaaDoor
open Go.RowKit

/-- How many numbers the run has that a list begins with. -/
def runL : List Int → Nat
  | a :: b :: r => if b = a + 1 then runL (b :: r) + 1 else 1
  | _ => 1
theorem runL_eq (zs : List Int) : ∀ (m : Nat) (h : m < zs.length), (∀ j (h : j + 1 < zs.length), j < m → zs[j + 1] = zs[j] + 1) → (∀ h : m + 1 < zs.length, zs[m + 1] ≠ zs[m] + 1) → runL zs = m + 1 := by
  induction zs with
  | nil => intro m h; simp at h
  | cons a r ih =>
    intro m h ha hs
    cases r with
    | nil => simp at h; subst h; rfl
    | cons b q =>
      show (if b = a + 1 then _ else _) = _
      cases m with
      | zero =>
        have : b ≠ a + 1 := hs (by simp)
        rw [if_neg this]
      | succ m =>
        have : b = a + 1 := ha 0 (by simp) (by omega)
        rw [if_pos this, ih m (by simpa using h) (fun j h h2 => ha (j + 1) (by simpa using h) (by omega)) (fun h => hs (by simpa using h))]
theorem runL_pos (zs : List Int) : 1 ≤ runL zs := by
  match zs with
  | [] => exact Nat.le_refl _
  | [_] => exact Nat.le_refl _
  | a :: b :: r =>
    show 1 ≤ (if b = a + 1 then _ else _)
    split <;> omega
theorem runL_le (zs : List Int) (h : zs ≠ []) : runL zs ≤ zs.length := by
  induction zs with
  | nil => exact absurd rfl h
  | cons a r ih =>
    cases r with
    | nil => exact Nat.le_refl _
    | cons b q =>
      have := ih (by simp)
      show (if b = a + 1 then _ else _) ≤ _
      split
      · simp at this ⊢; omega
      · simp

set_option maxHeartbeats 4000000 in
theorem firstRun_any (v : Value) (zs : List Int) (w : World) (hv : Ints w v zs) (hne : zs ≠ []) (hr : ∀ x ∈ zs, 0 ≤ x ∧ x ≤ 1000000000) (hln : zs.length ≤ 500) :
    Calls Tryd.prog 26 #[v] w fun e w' => e = .returned (.int .i64 (runL zs)) ∧ Below w.heap.size w w' := by
  obtain ⟨a, cap, rfl, hcap, hcell⟩ := hv
  obtain ⟨b, off, rfl, hblt, hcells⟩ := hcell hne
  have hpos : 0 < zs.length := by cases zs with
    | nil => exact absurd rfl hne
    | cons _ _ => simp
  clear hcell hne
  have HC := Lib.hid hcells; clear hcells
  have HR := Lib.hid (fun j (h : j < zs.length) => hr zs[j] (List.getElem_mem h)); clear hr
  go_enter Tryd.func26, Tryd.ntmps26
  go_wp2
  go_loopw [3] (fun i wr => ∃ m : Nat, m + 1 ≤ zs.length ∧ i = .int .i64 ((m : Int) + 1) ∧ Below w.heap.size w wr ∧ Hid (∀ j (h : j + 1 < zs.length), j < m → zs[j + 1] = zs[j] + 1)) (fun i _ => zs.length - (intOf i).toNat)
  case atStart => exact ⟨0, by omega, rfl, Below.refl _ _, fun j h h0 => absurd h0 (by omega)⟩
  case round =>
    obtain ⟨m, hm, rfl, hbl, hq⟩ := hrel
    by_cases hlt2 : m + 1 < zs.length
    · have hc1 : wr.cell? ⟨b, off + m, none⟩ = some (.int .i64 zs[m]) := (hbl.cell (p := ⟨b, off + m, none⟩) hblt).trans (HC.out m (by omega))
      have hc2 : wr.cell? ⟨b, off + (m + 1), none⟩ = some (.int .i64 zs[m + 1]) := (hbl.cell (p := ⟨b, off + (m + 1), none⟩) hblt).trans (HC.out (m + 1) hlt2)
      have hl1 : (m : Int) < (zs.length : Int) := by omega
      have hl2 : (m : Int) + 1 < (zs.length : Int) := by omega
      obtain ⟨hb1, hb2⟩ := HR.out m (by omega)
      have hwr : IntKind.i64.wrap (zs[m] + 1) = zs[m] + 1 := by rw [IntKind.wrap_i64]; omega
      go_wp2_with fail
      go_quiet (fail)
      go_wp2
      · have h : (zs[m + 1] == zs[m] + 1) = true := by assumption
        go_roundw
        case rel => exact ⟨m + 1, by omega, by go_num, below_drewN hbl _, fun j hj h0 => by
          by_cases e : j = m
          · subst e; simpa using h
          · exact hq.out j hj (by omega)⟩
        case measure => simp [intOf]; try omega
      · have h : (zs[m + 1] == zs[m] + 1) = false := by assumption
        have HE := Lib.hid (runL_eq zs m (by omega) hq.out (fun _ => by simpa using h))
        go_ret
        exact ⟨ret_i64 (by rw [HE.out]; go_num), below_drewN hbl _⟩
    · have HE := Lib.hid (runL_eq zs m (by omega) hq.out (fun h => absurd h hlt2))
      have hd : decide ((m : Int) + 1 < (zs.length : Int)) = false := decide_eq_false (by omega)
      go_wp2_with fail
      go_quiet (fail)
      go_wp2
      go_ret
      exact ⟨ret_i64 (by rw [HE.out]; simp), below_drewN hbl _⟩
end Go.Proofs.YtocmnobcccjenaaDoor
