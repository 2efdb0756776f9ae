/- From a row's listed variables to the facts 'Lay'; a world for the witness; how the arguments open, and that they read again as they read. -/
import Derived.Test.YtnojidecfmpdjaaDoorCards
import Derived.Test.YtnojidecfmpdjaaDoorTie
import Derived.Test.YtnojidecfmpdjaaDoorShL
import Derived.Test.YtnojidecfmpdjaaDoorLay
import Derived.WalkKit
import Derived.ProofKit
import Derived.OpenShut
import Derived.ChangeSlices
import Derived.ChangeAt
import Derived.Carry
import Derived.Lib.SmallJoins
import Derived.Deep.DeepHandedRow
import Derived.Deep.DeepWitnessRowRef
import Derived.Lib.LaidTab
import Derived.Lib.LaidU8
import Derived.LaidLaws
namespace Go.Proofs.YtnojidecfmpdjaaDoor
open Go.ChangeShapes Go.WideShapes Go.ChangeAt Go.RowKit Go.Lib Go.Joins

theorem own : ownKnob Tryd.prog.godebug = Option.none := by kernel_rfl
theorem laidOut : laidOutB Tryd.prog = true := by kernel_rfl

theorem nPow : Tryd.prog.globalNamed "internal/strconv.uint64pow10" = some 0 := by kernel_rfl
theorem yPow : (Tryd.prog.globals[0]?).map (·.type) = some 65 := by kernel_rfl
theorem c124w : Tryd.prog.cellsOf 65 = 20 := by kernel_rfl
theorem c100w : Tryd.prog.cellsOf 58 = 1 := by kernel_rfl
theorem nBru : Tryd.prog.globalNamed "math/bits.deBruijn64tab" = some 2 := by kernel_rfl
theorem block_of_var {W : World} {n : String} {g : Nat} {cs : Array Value} (hg : Tryd.prog.globalNamed n = some g) (h : W.var? Tryd.prog n = some cs) : ∃ t z, W.heap[g]? = some (.cells cs t z) := by
  unfold World.var? at h
  rw [hg, Option.bind_some] at h
  split at h
  · rename_i c t z hh
    cases h
    exact ⟨t, z, hh⟩
  · cases h
theorem array_ext {a b : Array Value} (h : a.toList = b.toList) : a = b := by
  cases a; cases b; simp_all
theorem pow_of_reads {W : World} (h : VarReads Tryd.prog W "internal/strconv.uint64pow10" Rows.laid_internal_strconv_uint64pow10) : ∃ t z, W.heap[0]? = some (.cells (Lib.pow10Tab.map fun n => Value.int .u64 n).toArray t z) := by
  obtain ⟨g, t, cs, fuel, p, hg, hty, hvar, hd⟩ := h
  obtain rfl := Option.some.inj (nPow.symm.trans hg)
  obtain rfl := Option.some.inj (yPow.symm.trans hty)
  have hd' : DataW.trod (fun _ => ()) Tryd.prog W 0 (fun _ => true) false fuel 65 cs.toList = some (tabData .u64 Lib.pow10Tab, p) := hd
  have hcs := cells_of_tab Tryd.underlying65 Tryd.underlying58 c100w c124w hd'
  have : cs = (Lib.pow10Tab.map fun n => Value.int .u64 n).toArray := array_ext (by rw [hcs])
  subst this
  exact block_of_var nPow hvar
theorem size_of_reads {W : World} {d : DataW Unit} (h : VarReads Tryd.prog W "math/bits.deBruijn64tab" d) : 2 + 1 ≤ W.heap.size := by
  obtain ⟨g, t, cs, fuel, p, hg, hty, hvar, hd⟩ := h
  obtain ⟨t', z, e⟩ := block_of_var nBru hvar
  have := (Array.getElem?_eq_some_iff.1 e).1
  omega
theorem lay_of_laid {W : World} {l : List (String × DataW Unit)} (h : laidMet Tryd.prog l W) (d : DataW Unit)
    (m0 : ("math/bits.deBruijn64tab", d) ∈ l) (m1 : ("internal/strconv.uint64pow10", Rows.laid_internal_strconv_uint64pow10) ∈ l) : Lay W :=
  ⟨size_of_reads (Lib.laidMet.reads h m0), pow_of_reads (Lib.laidMet.reads h m1)⟩

/-- A world for the witness: the listed variables hold what their initialisers lay. -/
noncomputable def laidWorld (os : Os) : World :=
  let w0 := World.holding Tryd.prog os ⟨#[], #[], []⟩
  let put (h : Array Obj) (g : Nat) (cs : Array Value) : Array Obj := h.modify g fun
    | .cells _ t frozen => .cells cs t frozen
    | o => o
  let nums (k : IntKind) (d : DataW Unit) : Array Value := match d with
    | .agg ds => (ds.map fun | .lit (.int _ z) => Value.int k z | _ => Value.int k 0).toArray
    | _ => #[]
  let h2 := put w0.heap 0 (nums .u64 Rows.laid_internal_strconv_uint64pow10)
  let h3 := put h2 1 (nums .u8 Rows.laid_math_bits_deBruijn32tab)
  let h4 := put h3 2 (nums .u8 Rows.laid_math_bits_deBruijn64tab)
  { w0 with heap := h4 }
def three : List (String × DataW Unit) := [("math/bits.deBruijn32tab", Rows.laid_math_bits_deBruijn32tab), ("math/bits.deBruijn64tab", Rows.laid_math_bits_deBruijn64tab), ("internal/strconv.uint64pow10", Rows.laid_internal_strconv_uint64pow10)]
theorem laid_met (os : Os) (args : Array Value) : laidMet Tryd.prog three ((laidWorld os).forCall (fun _ _ => 0) ⟨#[], args, []⟩).memory :=
  laidMet_of_run' 8 (by kernel_rfl) (by kernel_rfl)
theorem laid_vars (os : Os) (args : Array Value) : ((laidWorld os).forCall (fun _ _ => 0) ⟨#[], args, []⟩).variablesRefB Tryd.prog = true := by kernel_rfl
theorem laid_heap (os : Os) (args : Array Value) : ((((laidWorld os).forCall (fun _ _ => 0) ⟨#[], args, []⟩).heap.toList.drop Tryd.prog.globals.size).take ((begin Tryd.prog (fun _ _ => 0) default).world.heap.size - Tryd.prog.globals.size)) =
      (begin Tryd.prog (fun _ _ => 0) default).world.heap.toList.drop Tryd.prog.globals.size := by kernel_rfl

theorem c22w : Tryd.prog.cellsOf 22 = 2 := by kernel_rfl
theorem c24w : Tryd.prog.cellsOf 24 = 3 := by kernel_rfl
theorem c3w : Tryd.prog.cellsOf 3 = 1 := by kernel_rfl
theorem bounds64 {n : Int} (h : (Lit.int IntKind.i64 n).wf = true) : -9223372036854775808 ≤ n ∧ n ≤ 9223372036854775807 := by
  simp [Lit.wf, IntKind.min, IntKind.max, IntKind.signed, IntKind.bits] at h
  omega
section
variable {H : Type} {enc : TypeId × Value → H}
theorem shut_any {t : TypeId} (hr : Tryd.prog.readableRec t = true) (hrow : t < Tryd.prog.types.size) {W : World} {v : Value} {d : DataW H} {p : List MemPlace} (h : DataW.Trod enc Tryd.prog W 0 (fun _ => true) true t v d p) :
    ∀ W', Below W.heap.size W W' → DataW.Trod enc Tryd.prog W' 0 (fun b => decide (b < W.heap.size)) true t v d p := by
  intro W' hb
  refine Below.trod laidOut hr hrow h hb ?_
  obtain ⟨n, hn⟩ := h
  exact DataW.trod_lt n _ _ _ hn
theorem okWide_arr2 {W : World} {base : Nat} {v : Value} (h : Value.okWide Tryd.prog W .any base 22 v) : ∃ cs, v = .agg cs ∧ cs.size = 2 := by
  simp only [Value.okWide, Tryd.underlying22] at h
  obtain ⟨cs, h1, h2, _⟩ := h
  exact ⟨cs, h1, h2.trans c22w⟩
theorem trod_arr2 {W : World} {sp : Nat → Bool} {n : Nat} {c0 c1 : Value} {y : DataW H × List MemPlace} (h : DataW.trod enc Tryd.prog W 0 sp true n 22 [c0, c1] = some y) :
    ∃ a b : Int, c0 = .int .i64 a ∧ c1 = .int .i64 b ∧ (Lit.int IntKind.i64 a).wf = true ∧ (Lit.int IntKind.i64 b).wf = true := by
  cases n with
  | zero => simp [DataW.trod] at h
  | succ n =>
    simp only [DataW.trod, Tryd.underlying22] at h
    split at h
    · obtain ⟨xs, hm, hx⟩ := Option.map_eq_some_iff.1 h
      obtain ⟨y0, _, h0⟩ := mapM_at hm 0 0 (by simp)
      obtain ⟨y1, _, h1⟩ := mapM_at hm 1 1 (by simp)
      obtain ⟨a, e0, _, w0⟩ := DataW.trod_int Tryd.underlying3 h0
      obtain ⟨b, e1, _, w1⟩ := DataW.trod_int Tryd.underlying3 h1
      rw [c3w] at e0 e1
      simp at e0 e1
      exact ⟨a, b, e0, e1, w0, w1⟩
    · cases h
theorem open_pair {W : World} {base : Nat} {v : Value} {d : DataW H} {p : List MemPlace} (hval : Value.okWide Tryd.prog W .any base 22 v) (h1 : DataW.Trod enc Tryd.prog W 0 (fun _ => true) true 22 v d p) :
    ∃ a b : Int, v = P2 a b ∧ ((-9223372036854775808 ≤ a ∧ a ≤ 9223372036854775807) ∧ -9223372036854775808 ≤ b ∧ b ≤ 9223372036854775807) ∧ ∀ W', Below W.heap.size W W' → DataW.Trod enc Tryd.prog W' 0 (fun b => decide (b < W.heap.size)) true 22 v d p := by
  have hs := shut_any (by kernel_rfl) (of_decide_eq_true (by kernel_rfl)) h1
  obtain ⟨cs, rfl, hsz⟩ := okWide_arr2 hval
  obtain ⟨c0, c1, rfl⟩ := array2 hsz
  obtain ⟨fuel, hf⟩ := h1
  obtain ⟨a, b, rfl, rfl, w0, w1⟩ := trod_arr2 (by simpa [Value.cells] using hf)
  exact ⟨a, b, rfl, ⟨bounds64 w0, bounds64 w1⟩, hs⟩
theorem open_shape {W : World} {base : Nat} {v : Value} {d : DataW H} {p : List MemPlace} (hval : Value.okWide Tryd.prog W .any base 24 v) (h1 : DataW.Trod enc Tryd.prog W 0 (fun _ => true) true 24 v d p) :
    ∃ r a b : Int, v = .agg #[.int .i64 r, .int .i64 a, .int .i64 b] ∧ ∀ W', Below W.heap.size W W' → DataW.Trod enc Tryd.prog W' 0 (fun b => decide (b < W.heap.size)) true 24 v d p := by
  have hs := shut_any (by kernel_rfl) (of_decide_eq_true (by kernel_rfl)) h1
  obtain ⟨cs, rfl, hsz⟩ := okWide_struct Tryd.underlying24 hval
  obtain ⟨c0, c1, c2, rfl⟩ := array3 (hsz.trans c24w)
  obtain ⟨fuel, hf⟩ := h1
  obtain ⟨y0, y1, n, _, _, h0, h2⟩ := trod_struct2 Tryd.underlying24 hf
  obtain ⟨r, e0, _, w0⟩ := DataW.trod_int Tryd.underlying3 h0
  rw [c3w] at e0
  simp [Value.cells] at e0
  subst e0
  obtain ⟨a, b, rfl, rfl, w1, w2⟩ := trod_arr2 (by simpa [Value.cells, c22w] using h2)
  exact ⟨r, a, b, rfl, hs⟩
theorem read_is {W : World} {n : Nat} {v : Value} {y : DataW H × List MemPlace} (hf : DataW.trod enc Tryd.prog W 0 (fun _ => true) true n 37 [v] = some y) :
    ∃ l : List Int, RdI W.heap.size W v l := by
  rcases open_ints Tryd.underlying37 Tryd.underlying3 c3w hf with ⟨hcs, hx⟩ | ⟨a, len, cap, zs, hcs, hba, hl, hm, hz, hx, hcell, hwz⟩
  · simp at hcs
    subst hcs
    exact ⟨[], Option.none, 0, rfl, Nat.le_refl _, by omega, fun h => absurd rfl h⟩
  · simp at hcs
    subst hcs
    simp only [if_true] at hz
    have hlen : (zs.take len).length = len := by simp; omega
    obtain ⟨ab, ao, spot⟩ := a
    have hspot : 0 < zs.length → spot = Option.none := fun h => by simpa [Addr.add] using World.cell?_spot (hcell 0 h)
    have hblk : 0 < zs.length → ab < W.heap.size := fun h => by
      have hc := hcell 0 h
      rw [hspot h, Addr.add_lit] at hc
      exact block_lt_of_cell hc
    refine ⟨zs.take len, some ⟨ab, ao, spot⟩, cap, by rw [hlen], by rw [hlen]; exact hl, by unfold maxLen at hm; omega, fun hne => ?_⟩
    have hpos : 0 < len := by
      rcases Nat.eq_zero_or_pos len with h | h
      · subst h; simp at hne
      · exact h
    have hs := hspot (by omega)
    subst hs
    refine ⟨ab, ao, rfl, hblk (by omega), fun j hj => ?_⟩
    rw [hlen] at hj
    have hcj := hcell j (by omega)
    rw [Addr.add_lit] at hcj
    rw [hcj]
    have e : zs[j]?.getD 0 = zs[j]'(by omega) := by simp [List.getElem?_eq_getElem (show j < zs.length by omega)]
    rw [List.getD_eq_getElem?_getD, e, List.getElem_take]
set_option maxRecDepth 100000 in
theorem open_is {W : World} {base : Nat} {v : Value} {d : DataW H} {p : List MemPlace} (hval : Value.okWide Tryd.prog W .any base 37 v) (h1 : DataW.Trod enc Tryd.prog W 0 (fun _ => true) true 37 v d p) :
    ∃ zs, RdI W.heap.size W v zs ∧ ∀ W', Below W.heap.size W W' → DataW.Trod enc Tryd.prog W' 0 (fun b => decide (b < W.heap.size)) true 37 v d p := by
  have hs := shut_any (by kernel_rfl) (of_decide_eq_true (by kernel_rfl)) h1
  obtain ⟨a1, len, cap, rfl⟩ := okWide_slice Tryd.underlying37 hval
  obtain ⟨fuel, hf⟩ := h1
  obtain ⟨zs, hn⟩ := read_is (by simpa [Value.cells] using hf)
  exact ⟨zs, hn, hs⟩
end
end Go.Proofs.YtnojidecfmpdjaaDoor
