/- From a row's listed variables to the facts 'Lay'; a world for the witness. -/
import Derived.Test.YtocmnobcccjenaaDoorCards
import Derived.Test.YtocmnobcccjenaaDoorTie
import Derived.Test.YtocmnobcccjenaaDoorLay
import Derived.WalkKit
import Derived.ProofKit
import Derived.OpenShut
import Derived.Deep.DeepHandedRow
import Derived.Deep.DeepWitnessRowRef
import Derived.Lib.LaidTab
import Derived.Lib.LaidU8
import Derived.LaidLaws
namespace Go.Proofs.YtocmnobcccjenaaDoor
open Go.ChangeShapes Go.WideShapes Go.ChangeAt Go.RowKit Go.Lib

theorem own : ownKnob Tryd.prog.godebug = Option.none := by kernel_rfl

section
variable {H : Type} {enc : TypeId × Value → H} {P : Program} {w : World} {base : Nat} {sp : Nat → Bool} {held : Bool}
/-- An array that reads at all has as many cells as its type says. -/
theorem array_len {fuel : Nat} {t e : TypeId} {n : Nat} {cs : List Value} {x : DataW H × List MemPlace} (ht : P.underlying t = some (.array n e))
    (h : DataW.trod enc P w base sp held fuel t cs = some x) : cs.length = P.cellsOf t := by
  cases fuel with
  | zero => simp [DataW.trod] at h
  | succ fuel =>
    simp only [DataW.trod, ht] at h
    split at h
    · assumption
    · cases h
end

theorem nEsc : Tryd.prog.globalNamed "invigilator/words.escapes" = some 0 := by kernel_rfl
theorem yEsc : (Tryd.prog.globals[0]?).map (·.type) = some 88 := by kernel_rfl
theorem c5w : Tryd.prog.cellsOf 5 = 1 := by kernel_rfl
theorem c112w : Tryd.prog.cellsOf 87 = 2 := by kernel_rfl
theorem c113w : Tryd.prog.cellsOf 88 = 10 := by kernel_rfl
theorem nRng : Tryd.prog.globalNamed "strconv.ErrRange" = some 2 := by kernel_rfl
theorem yRng : (Tryd.prog.globals[2]?).map (·.type) = some 47 := by kernel_rfl
theorem nPow : Tryd.prog.globalNamed "internal/strconv.uint64pow10" = some 4 := by kernel_rfl
theorem yPow : (Tryd.prog.globals[4]?).map (·.type) = some 107 := by kernel_rfl
theorem c124w : Tryd.prog.cellsOf 107 = 20 := by kernel_rfl
theorem c100w : Tryd.prog.cellsOf 81 = 1 := by kernel_rfl
theorem nBru : Tryd.prog.globalNamed "math/bits.deBruijn64tab" = some 6 := by kernel_rfl

theorem block_of_var {W : World} {n : String} {g : Nat} {cs : Array Value} (hg : Tryd.prog.globalNamed n = some g) (h : W.var? Tryd.prog n = some cs) : ∃ t z, W.heap[g]? = some (.cells cs t z) := by
  unfold World.var? at h
  rw [hg, Option.bind_some] at h
  split at h
  · rename_i c t z hh
    cases h
    exact ⟨t, z, hh⟩
  · cases h

theorem array_ext {a b : Array Value} (h : a.toList = b.toList) : a = b := by
  cases a; cases b; simp_all

set_option maxRecDepth 100000 in
theorem esc_of_reads {W : World} (h : VarReads Tryd.prog W "invigilator/words.escapes" Rows.laid_invigilator_words_escapes) : ∃ t z, W.heap[0]? = some (.cells escV t z) := by
  obtain ⟨g, t, cs, fuel, p, hg, hty, hvar, hd⟩ := h
  obtain rfl := Option.some.inj (nEsc.symm.trans hg)
  obtain rfl := Option.some.inj (yEsc.symm.trans hty)
  have hl := array_len Tryd.underlying88 hd
  rw [c113w] at hl
  have at_ : ∀ i, i < 5 → ∀ a b : Int, (∀ d, [DataW.agg [.lit (.int .u8 34), .lit (.int .u8 34)], .agg [.lit (.int .u8 92), .lit (.int .u8 92)], .agg [.lit (.int .u8 10), .lit (.int .u8 110)], .agg [.lit (.int .u8 13), .lit (.int .u8 114)], .agg [.lit (.int .u8 9), .lit (.int .u8 116)]][i]? = some d → d = (.agg ([a, b].map fun z => .lit (.int .u8 z)) : DataW Unit)) →
      (cs.toList.drop (i * 2)).take 2 = [.int .u8 a, .int .u8 b] := by
    intro i hi a b hab
    obtain ⟨fuel', d, q, hdi, he⟩ := array_elem Tryd.underlying88 hd i hi
    rw [hab d hdi, c112w] at he
    exact ints_of_struct Tryd.underlying87 (fun j f hj => by
      match j, hj with
      | 0, hj => simp at hj; subst hj; exact ⟨Tryd.underlying5, rfl, c5w⟩
      | 1, hj => simp at hj; subst hj; exact ⟨Tryd.underlying5, rfl, c5w⟩
      | j + 2, hj => simp at hj) (by rw [c112w]; rfl) he
  have e0 := at_ 0 (by decide) 34 34 (fun d h => (Option.some.inj h).symm)
  have e1 := at_ 1 (by decide) 92 92 (fun d h => (Option.some.inj h).symm)
  have e2 := at_ 2 (by decide) 10 110 (fun d h => (Option.some.inj h).symm)
  have e3 := at_ 3 (by decide) 13 114 (fun d h => (Option.some.inj h).symm)
  have e4 := at_ 4 (by decide) 9 116 (fun d h => (Option.some.inj h).symm)
  have hcs : cs = escV := by
    apply array_ext
    generalize cs.toList = l at *
    match l, hl with
    | [a0, a1, a2, a3, a4, a5, a6, a7, a8, a9], _ =>
      simp at e0 e1 e2 e3 e4
      simp [escV, e0, e1, e2, e3, e4]
  subst hcs
  exact block_of_var nEsc hvar

theorem rng_of_reads {W : World} (h : VarReads Tryd.prog W "strconv.ErrRange" Rows.laid_strconv_ErrRange) : ∃ t z te pe, W.heap[2]? = some (.cells #[.iface te pe] t z) := by
  obtain ⟨g, t, cs, fuel, p, hg, hty, hvar, hd⟩ := h
  obtain rfl := Option.some.inj (nRng.symm.trans hg)
  obtain rfl := Option.some.inj (yRng.symm.trans hty)
  obtain ⟨f1, u, v, hcs, _, _⟩ := iface_of_trod Tryd.underlying47 hd
  obtain rfl : cs = #[.iface u v] := array_ext hcs
  obtain ⟨t, z, e⟩ := block_of_var nRng hvar
  exact ⟨t, z, u, v, e⟩

theorem pow_of_reads {W : World} (h : VarReads Tryd.prog W "internal/strconv.uint64pow10" Rows.laid_internal_strconv_uint64pow10) : ∃ t z, W.heap[4]? = some (.cells (Lib.pow10Tab.map fun n => Value.int .u64 n).toArray t z) := by
  obtain ⟨g, t, cs, fuel, p, hg, hty, hvar, hd⟩ := h
  obtain rfl := Option.some.inj (nPow.symm.trans hg)
  obtain rfl := Option.some.inj (yPow.symm.trans hty)
  have hd' : DataW.trod (fun _ => ()) Tryd.prog W 0 (fun _ => true) false fuel 107 cs.toList = some (tabData .u64 Lib.pow10Tab, p) := hd
  have hcs := cells_of_tab Tryd.underlying107 Tryd.underlying81 c100w c124w hd'
  have : cs = (Lib.pow10Tab.map fun n => Value.int .u64 n).toArray := array_ext (by rw [hcs])
  subst this
  exact block_of_var nPow hvar

theorem size_of_reads {W : World} {d : DataW Unit} (h : VarReads Tryd.prog W "math/bits.deBruijn64tab" d) : 6 + 1 ≤ W.heap.size := by
  obtain ⟨g, t, cs, fuel, p, hg, hty, hvar, hd⟩ := h
  obtain ⟨t', z, e⟩ := block_of_var nBru hvar
  have := (Array.getElem?_eq_some_iff.1 e).1
  omega

theorem lay_of_laid {W : World} {l : List (String × DataW Unit)} (h : laidMet Tryd.prog l W) (d : DataW Unit)
    (m0 : ("math/bits.deBruijn64tab", d) ∈ l) (m1 : ("internal/strconv.uint64pow10", Rows.laid_internal_strconv_uint64pow10) ∈ l)
    (m2 : ("strconv.ErrRange", Rows.laid_strconv_ErrRange) ∈ l) (m3 : ("invigilator/words.escapes", Rows.laid_invigilator_words_escapes) ∈ l) : Lay W :=
  ⟨size_of_reads (Lib.laidMet.reads h m0), esc_of_reads (Lib.laidMet.reads h m3), rng_of_reads (Lib.laidMet.reads h m2), pow_of_reads (Lib.laidMet.reads h m1)⟩

/-- A world for the witness: the listed variables hold what their initialisers lay; the two errors' texts lie in two blocks behind. -/
noncomputable def laidWorld (os : Os) : World :=
  let w0 := World.holding Tryd.prog os ⟨#[], #[], []⟩
  let put (h : Array Obj) (g : Nat) (cs : Array Value) : Array Obj := h.modify g fun
    | .cells _ t frozen => .cells cs t frozen
    | o => o
  let n := w0.heap.size
  let nums (k : IntKind) (d : DataW Unit) : Array Value := match d with
    | .agg ds => (ds.map fun | .lit (.int _ z) => Value.int k z | _ => Value.int k 0).toArray
    | _ => #[]
  let str (l : List UInt8) : Obj := .cells #[.string ⟨l.toArray⟩] 104 (0, 0)
  let h1 := put w0.heap 0 escV
  let h2 := put h1 4 (nums .u64 Rows.laid_internal_strconv_uint64pow10)
  let h3 := put h2 5 (nums .u8 Rows.laid_math_bits_deBruijn32tab)
  let h4 := put h3 6 (nums .u8 Rows.laid_math_bits_deBruijn64tab)
  let h5 := put h4 2 #[.iface 102 (.pointer (some ⟨n, 0, Option.none⟩))]
  let h6 := put h5 1 #[.iface 102 (.pointer (some ⟨n + 1, 0, Option.none⟩))]
  { w0 with heap := (h6.push (str [118, 97, 108, 117, 101, 32, 111, 117, 116, 32, 111, 102, 32, 114, 97, 110, 103, 101])).push (str [105, 110, 118, 97, 108, 105, 100, 32, 115, 121, 110, 116, 97, 120]) }

def six : List (String × DataW Unit) := [("math/bits.deBruijn32tab", Rows.laid_math_bits_deBruijn32tab), ("math/bits.deBruijn64tab", Rows.laid_math_bits_deBruijn64tab), ("internal/strconv.uint64pow10", Rows.laid_internal_strconv_uint64pow10), ("strconv.ErrRange", Rows.laid_strconv_ErrRange), ("strconv.ErrSyntax", Rows.laid_strconv_ErrSyntax), ("invigilator/words.escapes", Rows.laid_invigilator_words_escapes)]
theorem laid_met (os : Os) (args : Array Value) : laidMet Tryd.prog six ((laidWorld os).forCall (fun _ _ => 0) ⟨#[], args, []⟩).memory :=
  laidMet_of_run' 8 (by kernel_rfl) (by kernel_rfl)
theorem laid_vars (os : Os) (args : Array Value) : ((laidWorld os).forCall (fun _ _ => 0) ⟨#[], args, []⟩).variablesRefB Tryd.prog = true := by kernel_rfl
theorem laid_heap (os : Os) (args : Array Value) : ((((laidWorld os).forCall (fun _ _ => 0) ⟨#[], args, []⟩).heap.toList.drop Tryd.prog.globals.size).take ((begin Tryd.prog (fun _ _ => 0) default).world.heap.size - Tryd.prog.globals.size)) =
      (begin Tryd.prog (fun _ _ => 0) default).world.heap.toList.drop Tryd.prog.globals.size := by kernel_rfl
end Go.Proofs.YtocmnobcccjenaaDoor
