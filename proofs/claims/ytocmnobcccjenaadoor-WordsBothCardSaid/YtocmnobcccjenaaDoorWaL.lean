/- Unquote. -/
import Derived.Test.YtocmnobcccjenaaDoorWaK
namespace Go.Proofs.YtocmnobcccjenaaDoor
open Go.RowKit

/-- The string of a quoted form, and the error. -/
def unqOk (l : List UInt8) : Bool := (quo l).isSome && decide (qN (quo l) = (l.length : Int))
def unqV (l : List UInt8) : List UInt8 := if unqOk l = true then qT (quo l) else []
def unqE (l : List UInt8) : Int := if unqOk l = true then 0 else 6
theorem unq_yes {l : List UInt8} (h : unqOk l = true) : unqV l = qT (quo l) ∧ unqE l = 0 := by unfold unqV unqE; rw [if_pos h, if_pos h]; exact ⟨rfl, rfl⟩
theorem unq_no {l : List UInt8} (h : unqOk l = false) : unqV l = [] ∧ unqE l = 6 := by unfold unqV unqE; rw [h]; exact ⟨rfl, rfl⟩

set_option maxHeartbeats 1000000 in
theorem unquote_any (s : ByteArray) (w : World) (hw : Lay w) (hs : s.size ≤ 140737488351232) :
    Calls Tryd.prog 12 #[.string s] w fun e w' => e = .returned (.tuple #[.string ⟨(unqV (byt s)).toArray⟩, .int .i64 (unqE (byt s))]) ∧ Below w.heap.size w w' := by
  have hlen := byt_len s
  cases h1 : (quo (byt s)).isSome
  · have HF := Lib.hid (unq_no (l := byt s) (by unfold unqOk; rw [h1]; rfl))
    clear hlen
    go_enter Tryd.func12, Tryd.ntmps12
    go_wp2_with (go_at_call 28; refine (readQuoted_any _ _ hw hs).mono ?_; rintro e w' ⟨rfl, hb⟩)
    go_ret2
    exact ⟨ret_two (by rw [HF.out.1]; rfl) (by rw [HF.out.2]; rfl), hb⟩
  · by_cases h2 : qN (quo (byt s)) = (s.size : Int)
    · have HF := Lib.hid (unq_yes (l := byt s) (by unfold unqOk; rw [h1, decide_eq_true (by rw [hlen]; exact h2)]; rfl))
      have hd : (qN (quo (byt s)) != (s.size : Int)) = false := by simp [h2]
      clear hlen h2
      go_enter Tryd.func12, Tryd.ntmps12
      go_wp2_with (go_at_call 28; refine (readQuoted_any _ _ hw hs).mono ?_; rintro e w' ⟨rfl, hb⟩)
      go_ret2
      exact ⟨ret_two (by rw [HF.out.1]; rfl) (by rw [HF.out.2]; rfl), hb⟩
    · have HF := Lib.hid (unq_no (l := byt s) (by unfold unqOk; rw [h1, decide_eq_false (by rw [hlen]; exact h2)]; rfl))
      have hd : (qN (quo (byt s)) != (s.size : Int)) = true := by simpa using h2
      clear hlen h2
      go_enter Tryd.func12, Tryd.ntmps12
      go_wp2_with (go_at_call 28; refine (readQuoted_any _ _ hw hs).mono ?_; rintro e w' ⟨rfl, hb⟩)
      go_ret2
      exact ⟨ret_two (by rw [HF.out.1]; rfl) (by rw [HF.out.2]; rfl), hb⟩
end Go.Proofs.YtocmnobcccjenaaDoor
