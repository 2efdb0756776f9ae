/- checkList, firstRun. -/
import Derived.Test.YtocmnobcccjenaaDoorLay
import Derived.Deep.QuietTactic
import Derived.BigQuiet
import Derived.Deep.Light
namespace Go.Proofs.YtocmnobcccjenaaDoor
open Go.RowKit

/-- A slice that reads as a list of numbers. -/
def Ints (w : World) (v : Value) (zs : List Int) : Prop :=
  ∃ a cap, v = .slice a zs.length cap ∧ zs.length ≤ cap ∧ (zs ≠ [] → ∃ b off, a = some ⟨b, off, none⟩ ∧ b < w.heap.size ∧ ∀ j (h : j < zs.length), w.cell? ⟨b, off + j, none⟩ = some (.int .i64 zs[j]))
theorem Ints.below {w w' : World} {v : Value} {zs : List Int} (h : Ints w v zs) (hb : Below w.heap.size w w') : Ints w' v zs := by
  obtain ⟨a, cap, hv, hc, h⟩ := h
  refine ⟨a, cap, hv, hc, fun hn => ?_⟩
  obtain ⟨b, off, ha, hlt, hcell⟩ := h hn
  exact ⟨b, off, ha, Nat.lt_of_lt_of_le hlt hb.size, fun j hj => (hb.cell (p := ⟨b, off + j, none⟩) hlt).trans (hcell j hj)⟩

def rngB (x : Int) : Bool := decide (0 ≤ x ∧ x ≤ 1000000000)
def ascB : List Int → Bool
  | a :: b :: r => decide (a < b) && ascB (b :: r)
  | _ => true
def chkE (zs : List Int) : Int := if 500 < zs.length then 3 else if zs.all rngB = false then 7 else if ascB zs = false then 6 else 0
theorem ascB_iff (zs : List Int) : ascB zs = true ↔ ∀ j (h : j + 1 < zs.length), zs[j] < zs[j + 1] := by
  induction zs with
  | nil => simp [ascB]
  | cons a r ih =>
    cases r with
    | nil => simp [ascB]
    | cons b q =>
      simp only [ascB, Bool.and_eq_true, decide_eq_true_eq, ih]
      constructor
      · rintro ⟨h1, h2⟩ j hj
        cases j with
        | zero => exact h1
        | succ j => exact h2 j (by simpa using hj)
      · intro h
        exact ⟨h 0 (by simp), fun j hj => h (j + 1) (by simpa using hj)⟩
theorem all_no' (p : Int → Bool) (zs : List Int) (k : Nat) (h : k < zs.length) (hp : p zs[k] = false) : zs.all p = false := by
  rw [Bool.eq_false_iff]; intro ha
  have := (List.all_eq_true.1 ha) zs[k] (List.getElem_mem h)
  rw [hp] at this; cases this
theorem all_snoc' (p : Int → Bool) (zs : List Int) (k : Nat) (h : k < zs.length) : (zs.take (k + 1)).all p = ((zs.take k).all p && p zs[k]) := by
  rw [List.take_succ_eq_append_getElem h]; simp only [List.all_append, List.all_cons, List.all_nil, Bool.and_true]

theorem ret_i64 {a b : Int} (h : a = b) : Ending.returned (.int .i64 a) = .returned (.int .i64 b) := by rw [h]
theorem chk_7 {zs : List Int} (h : zs.length ≤ 500) (ha : zs.all rngB = false) : 7 = chkE zs := by unfold chkE; rw [if_neg (by omega), if_pos ha]
theorem chk_6 {zs : List Int} (h : zs.length ≤ 500) (ha : zs.all rngB = true) (hb : ascB zs = false) : 6 = chkE zs := by unfold chkE; rw [if_neg (by omega), ha, if_neg (by simp), if_pos hb]
theorem chk_0 {zs : List Int} (h : zs.length ≤ 500) (ha : zs.all rngB = true) (hb : ascB zs = true) : 0 = chkE zs := by unfold chkE; rw [if_neg (by omega), ha, if_neg (by simp), hb, if_neg (by simp)]
theorem asc_no (zs : List Int) (m : Nat) (h : m + 1 < zs.length) (hn : zs[m + 1] ≤ zs[m]) : ascB zs = false := by
  rw [Bool.eq_false_iff]; intro ha
  have := (ascB_iff zs).1 ha m h
  omega

set_option maxHeartbeats 4000000 in
theorem checkList_any (v : Value) (zs : List Int) (w : World) (hv : Ints w v zs) :
    Calls Tryd.prog 25 #[v] w fun e w' => e = .returned (.int .i64 (chkE zs)) ∧ Below w.heap.size w w' := by
  obtain ⟨a, cap, rfl, hcap, hcell⟩ := hv
  by_cases hlen : zs.length ≤ 500
  · by_cases hne : zs = []
    · subst hne
      clear hcell
      go_enter Tryd.func25, Tryd.ntmps25
      go_wp2
      refine wp_loop_rounds 1 ?_
      rw [rounds_succ]
      go_wp2
      refine wp_loop_rounds 1 ?_
      rw [rounds_succ]
      go_wp2
      go_ret
      exact ⟨rfl, Below.refl _ _⟩
    · obtain ⟨b, off, rfl, hblt, hcells⟩ := hcell hne
      have hpos : 0 < zs.length := by cases zs with
        | nil => exact absurd rfl hne
        | cons _ _ => simp
      clear hcell hne
      have HC := Lib.hid hcells; clear hcells
      go_enter Tryd.func25, Tryd.ntmps25
      go_wp2
      go_loop [11] (fun i => ∃ k : Nat, k ≤ zs.length ∧ i = .int .i64 k ∧ Hid ((zs.take k).all rngB = true)) (fun i => zs.length - (intOf i).toNat)
      case atStart => exact ⟨0, Nat.zero_le _, rfl, by simp [Hid]⟩
      case round =>
        obtain ⟨k, hk, rfl, hq⟩ := hrel
        by_cases hlt : k < zs.length
        · have hc := HC.out k hlt
          have Ha := Lib.hid (all_snoc' rngB zs k hlt)
          have Hn := Lib.hid (all_no' rngB zs k hlt)
          go_wp2
          all_goals first
            | (have hr : rngB zs[k] = true := by unfold rngB; rw [decide_eq_true]; omega
               go_round
               case rel => exact ⟨k + 1, by omega, by go_num, by unfold Hid; rw [Ha.out, hq.out, hr]; rfl⟩
               case measure => simp [intOf]; try omega)
            | (have hr : rngB zs[k] = false := by unfold rngB; rw [decide_eq_false]; omega
               go_ret
               exact ⟨ret_i64 (chk_7 (by omega) (Hn.out hr)), Below.refl _ _⟩)
        · have HR : Hid (zs.all rngB = true) := by unfold Hid; have := hq.out; rwa [List.take_of_length_le (by omega)] at this
          clear hq
          go_wp2
          go_loopw [5] (fun i wr => ∃ m : Nat, m + 1 ≤ zs.length ∧ i = .int .i64 ((m : Int) + 1) ∧ Below w.heap.size w wr ∧ Hid (∀ j (h : j + 1 < zs.length), j < m → zs[j] < zs[j + 1])) (fun i _ => zs.length - (intOf i).toNat)
          case atStart => exact ⟨0, by omega, rfl, Below.refl _ _, fun j h h0 => absurd h0 (by omega)⟩
          case round =>
            obtain ⟨m, hm, rfl, hbl, hq⟩ := hrel
            by_cases hlt2 : m + 1 < zs.length
            · have hc1 : wr.cell? ⟨b, off + m, none⟩ = some (.int .i64 zs[m]) := (hbl.cell (p := ⟨b, off + m, none⟩) hblt).trans (HC.out m (by omega))
              have hc2 : wr.cell? ⟨b, off + (m + 1), none⟩ = some (.int .i64 zs[m + 1]) := (hbl.cell (p := ⟨b, off + (m + 1), none⟩) hblt).trans (HC.out (m + 1) hlt2)
              have hl1 : (m : Int) < (zs.length : Int) := by omega
              have hl2 : (m : Int) + 1 < (zs.length : Int) := by omega
              go_wp2_with fail
              go_quiet (fail)
              go_wp2
              · go_ret
                exact ⟨ret_i64 (chk_6 (by omega) HR.out (asc_no zs m hlt2 (by omega))), below_drewN hbl _⟩
              · go_roundw
                case rel => exact ⟨m + 1, by omega, by go_num, below_drewN hbl _, fun j h h0 => by
                  by_cases e : j = m
                  · subst e; assumption
                  · exact hq.out j h (by omega)⟩
                case measure => simp [intOf]; try omega
            · have HA : Hid (ascB zs = true) := (ascB_iff zs).2 fun j h => hq.out j h (by omega)
              clear hq
              go_wp2
              go_ret
              exact ⟨ret_i64 (chk_0 (by omega) HR.out HA.out), hbl⟩
  · have HE : Hid (chkE zs = 3) := by unfold Hid chkE; rw [if_pos (by omega)]
    clear hcell
    go_enter Tryd.func25, Tryd.ntmps25
    go_wp2
    go_ret
    exact ⟨by rw [HE.out]; rfl, Below.refl _ _⟩
end Go.Proofs.YtocmnobcccjenaaDoor
