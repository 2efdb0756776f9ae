/- The lattice of the examples; the law's awake. -/
import Derived.Test.YtdgnogkdiakjoaaLtZ
namespace Go.Proofs.Ytdgnogkdiakjoaa
open Go.RowKit

def dN : List ByteArray := [⟨#[108, 111, 119]⟩, ⟨#[97, 110, 110]⟩, ⟨#[98, 111, 98]⟩, ⟨#[116, 111, 112]⟩]
def dU : List UInt8 := [15, 10, 12, 8]
theorem dGood : Good dN dU := good_of (by decide +kernel)
theorem d_1 : J (le dU) dU.length 1 2 = 3 ∧ J (ge dU) dU.length 1 2 = 0 ∧ le dU 0 2 = true ∧ cov dU dU.length = [(0, 1), (0, 2), (1, 3), (2, 3)] := by decide +kernel
theorem d_2 : prL dN dU dN.length = [108, 111, 119, 32, 49, 49, 49, 49, 10, 97, 110, 110, 32, 48, 49, 48, 49, 10, 98, 111, 98, 32, 48, 48, 49, 49, 10, 116, 111, 112, 32, 48, 48, 48, 49, 10] := by decide +kernel

theorem rd_new {α : Type} (f : α → Value) (w : World) (l : List α) (t : TypeId) (z : Nat × Nat) (hl : l.length ≤ 1000) : Rd f (w.alloc (.cells (l.map f).toArray t z)).heap.size (w.alloc (.cells (l.map f).toArray t z)) (.slice (some ⟨w.heap.size, 0, none⟩) l.length l.length) l := by
  refine ⟨_, l.length, rfl, Nat.le_refl _, by omega, fun _ => ⟨w.heap.size, 0, rfl, by simp, fun j hj => ?_⟩⟩
  rw [Nat.zero_add, cell_of_block (heap_new w _) j]
  simp [List.getElem?_eq_getElem hj]

set_option maxRecDepth 100000 in
set_option maxHeartbeats 1000000 in
theorem diamond_any (w : World) :
    Calls Try.prog 11 #[] w fun e w' => ∃ v, e = .returned v ∧ RdL w'.heap.size w' v dN dU ∧ Below w.heap.size w w' := by
  go_enter Try.func11, Try.ntmps11
  go_wp2
  have e1 : ∀ o, (w.alloc o).heap.size = w.heap.size + 1 := fun o => by simp
  generalize hO : Obj.cells #[Value.slice (some { block := w.heap.size + 1, off := 0 }) 4 4, Value.slice (some { block := w.heap.size + 1 + 1, off := 0 }) 4 4] 25 = O1
  have h1 := rd_new vs (w.alloc O1) dN 9 (0, 0) (by decide)
  have e2 : ∀ o, ((w.alloc O1).alloc o).heap.size = w.heap.size + 1 + 1 := fun o => by simp
  have h2 := rd_new vb ((w.alloc O1).alloc (.cells (dN.map vs).toArray 9 (0, 0))) dU 5 (0, 0) (by decide)
  have h3 := h1.al (.cells (dU.map vb).toArray 5 (0, 0))
  rw [e1] at h3
  rw [e2] at h2
  have hb := ((bel1 w O1).trans ((bel1 (w.alloc O1) (.cells (dN.map vs).toArray 9 (0, 0))).mono (bel1 w O1).size)).trans ((bel1 ((w.alloc O1).alloc (.cells (dN.map vs).toArray 9 (0, 0))) (.cells (dU.map vb).toArray 5 (0, 0))).mono (Nat.le_trans (bel1 w O1).size (bel1 _ _).size))
  subst hO
  refine bodyPost_ret (v := .agg #[.slice (some ⟨w.heap.size + 1, 0, none⟩) 4 4, .slice (some ⟨w.heap.size + 1 + 1, 0, none⟩) 4 4]) (by simp [results, Try.results11, go_sem]) rfl ⟨_, rfl, ⟨⟨_, _, rfl, h3, h2⟩, ?_⟩, hb⟩
  intro s hs
  have : s.size = 3 := by
    unfold dN at hs
    simp only [List.mem_cons, List.not_mem_nil, or_false] at hs
    rcases hs with rfl | rfl | rfl | rfl <;> rfl
  omega

theorem eqPc (w : World) : (binOp .eql 44 (.agg #[.int .i64 2, .int .i64 3]) (.agg #[.int .i64 2, .int .i64 3])).run Try.prog w = .ok (.bool true) w := by kernel_rfl
theorem eqPg (w : World) (x y : Operand) (xs ys : Array Value) : (eqGuard .eql 44 x y (.agg xs) (.agg ys)).run Try.prog w = .ok () w := by kernel_rfl
theorem c_join (w : World) (v : Value) (hv : RdL w.heap.size w v dN dU) : Calls Try.prog 7 #[v, .int .i64 1, .int .i64 2] w fun e w' => e = .returned (.tuple #[.int .i64 3, .int .i64 0]) ∧ Below w.heap.size w w' := by
  have := join_ok v dN dU 1 2 w hv dGood (by decide) (by decide)
  rw [d_1.1] at this
  exact this
theorem c_meet (w : World) (v : Value) (hv : RdL w.heap.size w v dN dU) : Calls Try.prog 8 #[v, .int .i64 1, .int .i64 2] w fun e w' => e = .returned (.tuple #[.int .i64 0, .int .i64 0]) ∧ Below w.heap.size w w' := by
  have := meet_ok v dN dU 1 2 w hv dGood (by decide) (by decide)
  rw [d_1.2.1] at this
  exact this
theorem c_leq (w : World) (v : Value) (hv : RdL w.heap.size w v dN dU) : Calls Try.prog 13 #[v, .int .i64 0, .int .i64 2] w fun e w' => e = .returned (.tuple #[.bool true, .int .i64 0]) ∧ Below w.heap.size w w' := by
  have := leq_ok v dN dU 0 2 w hv dGood (by decide) (by decide)
  rw [d_1.2.2.1] at this
  exact this
theorem c_cov (w : World) (v : Value) (hv : RdL w.heap.size w v dN dU) : Calls Try.prog 12 #[v] w fun e w' => ∃ g off cap, e = .returned (.tuple #[.slice (some ⟨g, off, none⟩) 4 cap, .int .i64 0]) ∧ g < w'.heap.size ∧ w'.cell? ⟨g, off + 6, none⟩ = some (.int .i64 2) ∧ w'.cell? ⟨g, off + 6 + 1, none⟩ = some (.int .i64 3) ∧ Below w.heap.size w w' := by
  have := covers_ok v dN dU w hv dGood
  rw [d_1.2.2.2] at this
  refine this.mono ?_
  rintro e w' ⟨u, rfl, ⟨a, cap, rfl, hc, h⟩, hb⟩
  obtain ⟨g, off, rfl, hg, hcell⟩ := h (by simp)
  have := hcell 3 (by simp)
  exact ⟨g, off, cap, rfl, hg, this.1, this.2, hb⟩
theorem c_prt (w : World) (v : Value) (hv : RdL w.heap.size w v dN dU) : Calls Try.prog 14 #[v] w fun e w' => e = .returned (.tuple #[.string ⟨#[108, 111, 119, 32, 49, 49, 49, 49, 10, 97, 110, 110, 32, 48, 49, 48, 49, 10, 98, 111, 98, 32, 48, 48, 49, 49, 10, 116, 111, 112, 32, 48, 48, 48, 49, 10]⟩, .int .i64 0]) ∧ Below w.heap.size w w' := by
  have := print_ok v dN dU w hv dGood
  rw [d_2] at this
  exact this

set_option maxRecDepth 100000 in
set_option maxHeartbeats 4000000 in
theorem awake_any (w : World) : Calls Try.prog 5 #[] w fun e w' => e = .returned (.bool true) ∧ Below w.heap.size w w' := by
  go_enter Try.func5, Try.ntmps5
  go_wp2_with fail
  refine (diamond_any w).mono ?_
  rintro e w1 ⟨v1, rfl, h1, hb1⟩
  go_wp2_with fail
  refine (c_join w1 v1 h1).mono ?_
  rintro e w2 ⟨rfl, hb2⟩
  have H2 := Lib.hid (hb1.trans (hb2.mono hb1.size))
  clear h1 hb1 hb2
  go_wp2_with fail
  refine (diamond_any w2).mono ?_
  rintro e w3 ⟨v3, rfl, h3, hb3⟩
  go_wp2_with fail
  refine (c_meet w3 v3 h3).mono ?_
  rintro e w4 ⟨rfl, hb4⟩
  have H4 := Lib.hid (H2.out.trans ((hb3.trans (hb4.mono hb3.size)).mono H2.out.size))
  clear h3 hb3 hb4
  go_wp2_with fail
  refine (diamond_any w4).mono ?_
  rintro e w5 ⟨v5, rfl, h5, hb5⟩
  go_wp2_with fail
  refine (c_cov w5 v5 h5).mono ?_
  rintro e w6 ⟨g, off, cap, rfl, hg, hx, hy, hb6⟩
  have H6 := Lib.hid (H4.out.trans ((hb5.trans (hb6.mono hb5.size)).mono H4.out.size))
  clear h5 hb5 hb6
  go_wp2_with fail
  refine (diamond_any w6).mono ?_
  rintro e w7 ⟨v7, rfl, h7, hb7⟩
  go_wp2_with fail
  refine (c_leq w7 v7 h7).mono ?_
  rintro e w8 ⟨rfl, hb8⟩
  have hb68 := hb7.trans (hb8.mono hb7.size)
  clear h7 hb7 hb8
  go_wp2_with fail
  refine (diamond_any w8).mono ?_
  rintro e w9 ⟨v9, rfl, h9, hb9⟩
  go_wp2_with fail
  refine (c_prt w9 v9 h9).mono ?_
  rintro e w10 ⟨rfl, hb10⟩
  have hb610 := hb68.trans ((hb9.trans (hb10.mono hb9.size)).mono hb68.size)
  have HE := Lib.hid (H6.out.trans (hb610.mono H6.out.size))
  have hx2 : w10.cell? ⟨g, off + 6, none⟩ = some (.int .i64 2) := (hb610.cell (p := ⟨g, off + 6, none⟩) hg).trans hx
  have hy2 : w10.cell? ⟨g, off + 6 + 1, none⟩ = some (.int .i64 3) := (hb610.cell (p := ⟨g, off + 6 + 1, none⟩) hg).trans hy
  clear h9 hb9 hb10 hb68 hb610 hx hy H2 H4 H6
  have hq := eqPc
  have hgd := eqPg
  go_wp2_with fail
  go_ret
  exact ⟨rfl, HE.out⟩
end Go.Proofs.Ytdgnogkdiakjoaa
