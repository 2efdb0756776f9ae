/- The functions that make a cell; the array that is made of them, with its panics and its recover. -/
import Derived.Test.YtpbfbejckhbijaaDoorExB
import Derived.Test.YtpbfbejckhbijaaDoorExT
import Derived.Test.YtpbfbejckhbijaaDoorScX
import Derived.Test.YtpbfbejckhbijaaDoorMvZ
import Derived.Recover
namespace Go.Proofs.YtpbfbejckhbijaaDoor
open Go.RowKit

/-- A cell is returned, or its error panics. -/
def CloE (c : Int × Int) (w : World) (e : Ending) (w' : World) : Prop :=
  ((c.2 = 0 ∧ e = .returned (.int .i64 c.1)) ∨ (c.2 ≠ 0 ∧ e = .panicked [{ v := erV c.2, recovered := false }])) ∧ Below w.heap.size w w'
theorem clo_ok {n : Int} {w w' : World} (h : Below w.heap.size w w') : CloE (n, 0) w (.returned (.int .i64 n)) w' := ⟨.inl ⟨rfl, rfl⟩, h⟩
theorem clo_bad {n E : Int} {w w' : World} (hE : E ≠ 0) (h : Below w.heap.size w w') : CloE (n, E) w (.panicked [{ v := erV E, recovered := false }]) w' := ⟨.inr ⟨hE, rfl⟩, h⟩
theorem inr_lo {z : Int} (h : Sc.inr z = true) : -9223372036854775808 ≤ z := (Sc.inr_iff.1 h).1
theorem inr_hi {z : Int} (h : Sc.inr z = true) : z ≤ 9223372036854775807 := (Sc.inr_iff.1 h).2
/-- All cells are numbers of 64 bits. -/
def in64 (z : List Int) : Prop := ∀ x ∈ z, Sc.inr x = true
theorem in64.get {z : List Int} (h : in64 z) (i : Nat) : Sc.inr (z.getD i 0) = true := by
  rw [List.getD_eq_getElem?_getD]
  rcases Nat.lt_or_ge i z.length with hl | hl
  · rw [List.getElem?_eq_getElem hl]; exact h _ (List.getElem_mem hl)
  · rw [List.getElem?_eq_none hl]; decide
end Go.Proofs.YtpbfbejckhbijaaDoor
