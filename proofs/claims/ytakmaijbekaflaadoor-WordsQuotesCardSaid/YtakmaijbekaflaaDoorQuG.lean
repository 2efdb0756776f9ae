/- The reference's Unquote; the law WordsQuotes. -/
import Derived.Test.YtakmaijbekaflaaDoorQuF
import Derived.Test.YtakmaijbekaflaaDoorWaU
namespace Go.Proofs.YtakmaijbekaflaaDoor
open Go.RowKit

set_option maxRecDepth 100000

theorem quo_pos (l : List UInt8) (h : (quo l).isSome = true) : qN (quo l) ≠ 0 := by
  match l, h with
  | [], h => cases h
  | c :: r, h =>
    have e : quo (c :: r) = if c = 34 then (rq (r.length + 1) r).map fun q => (q.1, 1 + q.2) else none := rfl
    rw [e] at h ⊢
    by_cases hc : c = 34
    · rw [if_pos hc] at h ⊢
      cases hr : rq (r.length + 1) r with
      | none => rw [hr] at h; cases h
      | some q => simp [qN]; omega
    · rw [if_neg hc] at h; cases h
theorem unqOk_iff (s : ByteArray) : unqOk (byt s) = true ↔ qN (quo (byt s)) ≠ 0 ∧ qN (quo (byt s)) = (s.size : Int) := by
  unfold unqOk
  rw [byt_len, Bool.and_eq_true, decide_eq_true_eq]
  constructor
  · rintro ⟨h1, h2⟩; exact ⟨quo_pos _ h1, h2⟩
  · rintro ⟨h1, h2⟩
    refine ⟨?_, h2⟩
    cases h : quo (byt s) with
    | none => rw [h] at h1; exact absurd rfl h1
    | some q => rfl

set_option maxHeartbeats 4000000 in
theorem runquote_any (s : ByteArray) (w : World) (hs : s.size ≤ 1099511627776) :
    Calls Tryd.prog 18 #[.string s] w fun e w' => e = .returned (.tuple #[.string ⟨(unqV (byt s)).toArray⟩, .int .i64 (unqE (byt s))]) ∧ Below w.heap.size w w' := by
  have hi := unqOk_iff s
  cases hk : unqOk (byt s) with
  | true =>
    obtain ⟨a1, a2⟩ := hi.1 hk
    have HF := Lib.hid (unq_yes hk)
    have hz : (qN (quo (byt s)) == 0) = false := by rw [beq_eq_false_iff_ne]; exact a1
    have hd : (qN (quo (byt s)) != (s.size : Int)) = false := by simp [a2]
    clear hi hk a2
    go_enter Tryd.func18, Tryd.ntmps18
    go_wp2_with (go_at_call 39; refine (rquoted_any s _ hs).mono ?_; rintro e w1 ⟨rfl, hb1⟩)
    go_ret2
    exact ⟨ret_two (by rw [HF.out.1]; rfl) (by rw [HF.out.2]; rfl), hb1⟩
  | false =>
    have HF := Lib.hid (unq_no hk)
    by_cases a1 : qN (quo (byt s)) = 0
    · have hz : (qN (quo (byt s)) == 0) = true := by rw [beq_iff_eq]; exact a1
      clear hi hk
      go_enter Tryd.func18, Tryd.ntmps18
      go_wp2_with (go_at_call 39; refine (rquoted_any s _ hs).mono ?_; rintro e w1 ⟨rfl, hb1⟩)
      go_ret2
      exact ⟨ret_two (by rw [HF.out.1]; rfl) (by rw [HF.out.2]; rfl), hb1⟩
    · have hz : (qN (quo (byt s)) == 0) = false := by rw [beq_eq_false_iff_ne]; exact a1
      have hd : (qN (quo (byt s)) != (s.size : Int)) = true := by
        rw [bne_iff_ne]; intro e; exact absurd (hi.2 ⟨a1, e⟩) (by rw [hk]; simp)
      clear hi hk
      go_enter Tryd.func18, Tryd.ntmps18
      go_wp2_with (go_at_call 39; refine (rquoted_any s _ hs).mono ?_; rintro e w1 ⟨rfl, hb1⟩)
      go_ret2
      exact ⟨ret_two (by rw [HF.out.1]; rfl) (by rw [HF.out.2]; rfl), hb1⟩

set_option maxHeartbeats 4000000 in
theorem lawQuotes_any (s : ByteArray) (w : World) (hw : Lay w) :
    Calls Tryd.prog 4 #[.string s] w fun e w' => e = .returned (.bool true) ∧ Below w.heap.size w w' := by
  by_cases hl : s.size ≤ 1000
  · go_enter Tryd.func4, Tryd.ntmps4
    go_wp2_with fail
    refine (unquote_any s w hw (by omega)).mono ?_
    rintro e w1 ⟨rfl, hb1⟩
    have hL1 := hw.next hb1
    go_wp2_with fail
    refine (runquote_any s w1 (by omega)).mono ?_
    rintro e w2 ⟨rfl, hb2⟩
    have hL2 := hL1.next hb2
    go_wp2_with fail
    refine (quote_any s w2 hL2 (by omega)).mono ?_
    rintro e w3 ⟨rfl, hb3⟩
    have hL3 := hL2.next hb3
    go_wp2_with fail
    refine (rquote_any s w3 (by omega)).mono ?_
    rintro e w4 ⟨rfl, hb4⟩
    have hL4 := hL3.next hb4
    have HB : Hid (Below w.heap.size w w4) := by
      have h1 := hb1.size
      have h2 := hb2.size
      have h3 := hb3.size
      exact ((hb1.trans (hb2.mono h1)).trans (hb3.mono (by omega))).trans (hb4.mono (by omega))
    have hs4 := HB.out.size
    clear hb1 hb2 hb3 hb4 hL1 hL2 hL3
    go_wp2_with fail
    refine (shown_any _ hL4).mono ?_
    rintro e w6 ⟨rfl, hb6⟩
    go_wp2_with fail
    go_ret
    exact ⟨rfl, HB.out.trans (hb6.mono hs4)⟩
  · go_enter Tryd.func4, Tryd.ntmps4
    go_wp2_with fail
    refine (shown_any _ hw).mono ?_
    rintro e w6 ⟨rfl, hb6⟩
    go_wp2_with fail
    go_ret
    exact ⟨rfl, hb6⟩
end Go.Proofs.YtakmaijbekaflaaDoor
