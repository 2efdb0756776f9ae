/- An array of eight Booleans: read whole, compared. -/
import Derived.Test.YtdkljpoecdinjaaLbT
import Derived.Deep.WholeRow
import Derived.ChangeKeysEq
namespace Go.Proofs.Ytdkljpoecdinjaa
open Go.RowKit

/-- Eight cells, written out. -/
def arr8 (f : Nat → Value) : Array Value := #[f 0, f 1, f 2, f 3, f 4, f 5, f 6, f 7]
theorem arr8_of {c : Array Value} {f : Nat → Value} (hn : c.size = 8) (h : ∀ i, i < 8 → c[i]? = some (f i)) : c = arr8 f := by
  apply Array.ext (by rw [hn]; rfl)
  intro i h1 h2
  have hi : i < 8 := by omega
  have := h i hi
  rw [Array.getElem?_eq_getElem h1] at this
  injection this with e
  rw [e]
  match i, hi with
  | 0, _ => rfl
  | 1, _ => rfl
  | 2, _ => rfl
  | 3, _ => rfl
  | 4, _ => rfl
  | 5, _ => rfl
  | 6, _ => rfl
  | 7, _ => rfl
theorem inf8 : (Try.prog.info? 45).map (·.size) = some 8 := by kernel_rfl
theorem ld8 {w : World} {b : Nat} {f : Nat → Value} (h : w.rowIs b 45 8 f) : (Instr.loadAt 45 (.pointer (some ⟨b, 0, none⟩))).run Try.prog w = .ok (.agg (arr8 f)) w := by
  obtain ⟨c, hb, hn, hc⟩ := h
  obtain rfl := arr8_of hn hc
  simp only [Instr.loadAt, Instr.sureAddr, Sem.run_bind, Sem.run_pure, Result.andThen]
  exact run_loadVar_row w b _ _ _ _ _ hb Try.underlying45 rfl inf8
theorem lit8 (b0 b1 b2 b3 b4 b5 b6 b7 : Bool) : (List.range 8).mapM (fun i => Try.prog.keyLits 9 4 (((#[Value.bool b0, .bool b1, .bool b2, .bool b3, .bool b4, .bool b5, .bool b6, .bool b7] : Array Value).toList.drop (i * Try.prog.cellsOf 4)).take (Try.prog.cellsOf 4))) = some [[.bool b0], [.bool b1], [.bool b2], [.bool b3], [.bool b4], [.bool b5], [.bool b6], [.bool b7]] := by kernel_rfl
theorem plain4 : Try.prog.plainKey 4 = true := by kernel_rfl
set_option maxRecDepth 100000 in
theorem eq8 (l : List Nat) (w : World) : (Op.equal 45 (.agg (arr8 (mB l))) (.agg (arr8 (mB l)))).run Try.prog w = .ok true w := by
  have h1 := lit8 (decide (0 ∈ l)) (decide (1 ∈ l)) (decide (2 ∈ l)) (decide (3 ∈ l)) (decide (4 ∈ l)) (decide (5 ∈ l)) (decide (6 ∈ l)) (decide (7 ∈ l))
  obtain ⟨r, hr, hiff⟩ := run_eqItems_plain (P := Try.prog) (w := w) 9998 plain4 _ _ _ _ _ h1 h1
  obtain ⟨i0, hi⟩ : ∃ i, Try.prog.info? 4 = some i := by
    cases h : Try.prog.info? 4 with
    | none => exact absurd h (by decide +kernel)
    | some i => exact ⟨i, rfl⟩
  have h2 := run_equalIn_array (P := Try.prog) (w := w) 9999 (arr8 (mB l)) (arr8 (mB l)) Try.underlying45 hi
  obtain rfl : r = true := hiff.2 rfl
  exact h2.trans hr
theorem cs8 {w : World} {b : Nat} {t : TypeId} {l : List Nat} (h : w.rowIs b t 8 (mB l)) : (w.cell? ⟨b, 0, none⟩ = some (.bool (decide (0 ∈ l))) ∧ w.cell? ⟨b, 1, none⟩ = some (.bool (decide (1 ∈ l))) ∧ w.cell? ⟨b, 2, none⟩ = some (.bool (decide (2 ∈ l))) ∧ w.cell? ⟨b, 3, none⟩ = some (.bool (decide (3 ∈ l)))) ∧ w.cell? ⟨b, 4, none⟩ = some (.bool (decide (4 ∈ l))) ∧ w.cell? ⟨b, 5, none⟩ = some (.bool (decide (5 ∈ l))) ∧ w.cell? ⟨b, 6, none⟩ = some (.bool (decide (6 ∈ l))) ∧ w.cell? ⟨b, 7, none⟩ = some (.bool (decide (7 ∈ l))) :=
  ⟨⟨h.cell (by decide), h.cell (by decide), h.cell (by decide), h.cell (by decide)⟩, h.cell (by decide), h.cell (by decide), h.cell (by decide), h.cell (by decide)⟩
end Go.Proofs.Ytdkljpoecdinjaa
