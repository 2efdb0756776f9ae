/- The reference's bare; its way through a line is the code's. -/
import Derived.Test.YtocmnobcccjenaaDoorQuF
import Derived.Test.YtocmnobcccjenaaDoorWaT
namespace Go.Proofs.YtocmnobcccjenaaDoor
open Go.RowKit

set_option maxRecDepth 100000

def brB (l : List UInt8) : Bool := l.all br8 && !l.isEmpty

theorem fy_q (f : Nat) (l : List UInt8) (q : List UInt8 × Nat) (h : quo l = some q) : fy (f + 1) l = ((q.1, true), true) :: spY (fy f) (l.drop q.2) := by
  have h34 : l.head? = some 34 := by
    match l, h with
    | [], h => cases h
    | c :: r, h =>
      have e : quo (c :: r) = if c = 34 then (rq (r.length + 1) r).map fun q => (q.1, 1 + q.2) else none := rfl
      rw [e] at h
      by_cases hc : c = 34
      · rw [hc]; rfl
      · rw [if_neg hc] at h; cases h
  show (if l.head? = some 34 then (match quo l with | none => [bad] | some q => ((q.1, true), true) :: spY (fy f) (l.drop q.2)) else _) = _
  rw [if_pos h34, h]
theorem bw_all (l : List UInt8) : (l.take (bw l)).all br8 = true := by
  unfold bw
  rw [List.all_eq_true]
  intro x hx
  have hp : l.takeWhile br8 = l.take (l.takeWhile br8).length := (List.prefix_iff_eq_take.1 (List.takeWhile_prefix _))
  rw [← hp] at hx
  exact List.all_eq_true.1 (List.all_takeWhile) x hx
theorem fy_b (f : Nat) (l : List UInt8) (m : Nat) (hm : m ≤ l.length) (hq : quo l = none) (hb : brB (l.take m) = true) (hs : ∀ h : m < l.length, l[m] = 32) :
    fy (f + 1) l = ((l.take m, false), true) :: spY (fy f) (l.drop m) ∧ 1 ≤ m := by
  unfold brB at hb
  simp only [Bool.and_eq_true, Bool.not_eq_true', List.isEmpty_eq_false_iff] at hb
  obtain ⟨h1, h2⟩ := hb
  have hm1 : 1 ≤ m := by
    rcases Nat.eq_zero_or_pos m with h | h
    · subst h; exact absurd rfl h2
    · exact h
  have hbw : bw l = m := bw_eq l m hm h1 (fun h => by rw [hs h]; rfl)
  have h34 : l.head? ≠ some 34 := by
    intro e
    match l, e with
    | c :: r, e =>
      simp at e
      subst e
      have := (List.all_eq_true.1 h1) 34 (by rw [show m = (m - 1) + 1 from by omega]; simp)
      revert this; decide +kernel
  refine ⟨?_, hm1⟩
  show (if l.head? = some 34 then _ else if bw l = 0 then [bad] else ((l.take (bw l), false), true) :: spY (fy f) (l.drop (bw l))) = _
  rw [if_neg h34, hbw, if_neg (by omega)]
theorem fy_bad (f : Nat) (l : List UInt8) (m : Nat) (hm : m ≤ l.length) (hq : quo l = none) (hb : brB (l.take m) = false) (ha : ∀ (i : Nat) (h : i < l.length), i < m → l[i] ≠ 32) (hs : ∀ h : m < l.length, l[m] = 32) :
    ∃ y ∈ fy (f + 1) l, y.2 = false := by
  have hbad : ∃ y ∈ ([bad] : List Yd), y.2 = false := ⟨bad, by simp, rfl⟩
  by_cases h34 : l.head? = some 34
  · have e : fy (f + 1) l = [bad] := by
      show (if l.head? = some 34 then (match quo l with | none => [bad] | some q => ((q.1, true), true) :: spY (fy f) (l.drop q.2)) else _) = _
      rw [if_pos h34, hq]
    rw [e]; exact hbad
  · have e : fy (f + 1) l = if bw l = 0 then [bad] else ((l.take (bw l), false), true) :: spY (fy f) (l.drop (bw l)) := by
      show (if l.head? = some 34 then _ else _) = _
      rw [if_neg h34]
    rw [e]
    by_cases h0 : bw l = 0
    · rw [if_pos h0]; exact hbad
    · rw [if_neg h0]
      have hall := bw_all l
      have hle := bw_le l
      have hk : bw l < m := by
        rcases Nat.lt_or_ge (bw l) m with h | h
        · exact h
        · exfalso
          have hm1 : 1 ≤ m := by
            rcases Nat.eq_zero_or_pos m with h' | h'
            · subst h'
              have hl0 : 0 < l.length := by omega
              have := hs hl0
              have h2 := (List.all_eq_true.1 hall) l[0] (by
                rw [List.mem_take_iff_getElem]; exact ⟨0, by omega, rfl⟩)
              rw [this] at h2
              revert h2; decide +kernel
            · exact h'
          have : brB (l.take m) = true := by
            unfold brB
            simp only [Bool.and_eq_true, Bool.not_eq_true', List.isEmpty_eq_false_iff]
            refine ⟨?_, ?_⟩
            · rw [List.all_eq_true] at hall ⊢
              intro x hx
              refine hall x ?_
              rw [List.mem_take_iff_getElem] at hx ⊢
              obtain ⟨i, hi, hx⟩ := hx
              exact ⟨i, by omega, hx⟩
            · intro e'
              have := congrArg List.length e'
              rw [List.length_take, List.length_nil] at this
              omega
          rw [this] at hb; cases hb
      have hkl : bw l < l.length := by omega
      have hne := ha (bw l) hkl hk
      refine ⟨bad, ?_, rfl⟩
      rw [List.drop_eq_getElem_cons hkl]
      have e2 : spY (fy f) (l[bw l] :: l.drop (bw l + 1)) = if l[bw l] = 32 then fy f (l.drop (bw l + 1)) else [bad] := rfl
      rw [e2, if_neg hne]
      simp

set_option maxHeartbeats 4000000 in
theorem rbare_any (s : ByteArray) (w : World) (hs : s.size ≤ 9223372036854775807) :
    Calls Tryd.prog 20 #[.string s] w fun e w' => e = .returned (.bool (brB (byt s))) ∧ w = w' := by
  have Hl := Lib.hid (byt_len s)
  go_enter Tryd.func20, Tryd.ntmps20
  go_wp2
  go_loop [3] (fun i => ∃ k : Nat, k ≤ s.size ∧ i = .int .i64 k ∧ Hid (((byt s).take k).all br8 = true)) (fun i => s.size - (intOf i).toNat)
  case atStart => exact ⟨0, Nat.zero_le _, rfl, by simp [Hid]⟩
  case round =>
    obtain ⟨k, hk, rfl, hq⟩ := hrel
    by_cases hlt : k < s.size
    · have HA : Hid (br8 s[k] = true → ((byt s).take (k + 1)).all br8 = true) := fun h => by
        rw [take_succ_byt s k hlt, List.all_append, hq.out]; simp [h]
      have HN : Hid (br8 s[k] = false → brB (byt s) = false) := fun h => by
        unfold brB
        have : (byt s).all br8 = false := by
          rw [Bool.eq_false_iff]; intro e
          have := (List.all_eq_true.1 e) s[k] (List.mem_of_getElem? (byt_at s k hlt))
          rw [h] at this; cases this
        rw [this]; rfl
      cases hp : pl8 s[k] with
      | false =>
        have HF := Lib.hid (HN.out (by unfold br8; rw [hp]; rfl))
        clear HA HN
        go_wp2_with (go_at_call 37; refine (plain_b _ _).mono ?_; rintro e w' ⟨rfl, rfl⟩)
        go_ret
        exact ⟨by rw [HF.out]; rfl, rfl⟩
      | true =>
        by_cases hc : s[k] = 32
        · have hb := b32_t hc
          have HF := Lib.hid (HN.out (by rw [hc]; rfl))
          clear HA HN hc
          go_wp2_with (go_at_call 37; refine (plain_b _ _).mono ?_; rintro e w' ⟨rfl, rfl⟩)
          go_ret
          exact ⟨by rw [HF.out]; rfl, rfl⟩
        · have hb := b32_f hc
          have HF := Lib.hid (HA.out (by unfold br8; rw [hp]; simpa using hc))
          clear HA HN hc
          go_wp2_with (go_at_call 37; refine (plain_b _ _).mono ?_; rintro e w' ⟨rfl, rfl⟩)
          go_round
          case rel => exact ⟨k + 1, by omega, by go_num, HF⟩
          case measure => simp [intOf]; try omega
    · have hke : k = s.size := by omega
      have HF : Hid (brB (byt s) = decide (0 < s.size)) := by
        unfold Hid brB
        have := hq.out
        rw [List.take_of_length_le (by rw [byt_len]; omega)] at this
        rw [this, Bool.true_and]
        by_cases h0 : 0 < s.size
        · rw [decide_eq_true h0, byt_cons s h0]; rfl
        · rw [decide_eq_false h0, List.eq_nil_of_length_eq_zero (by rw [byt_len]; omega : (byt s).length = 0)]; rfl
      subst hke
      clear hq
      go_wp2
      all_goals go_ret
      all_goals exact ⟨by rw [HF.out]; rfl, rfl⟩
end Go.Proofs.YtocmnobcccjenaaDoor
