/- From a row's listed variables to the facts 'Lay'; a world for the witness. -/
import Derived.Test.YtomffjaeafcpdaaDoorCards
import Derived.Test.YtomffjaeafcpdaaDoorTie
import Derived.Test.YtomffjaeafcpdaaDoorRuL
import Derived.WalkKit
import Derived.ProofKit
import Derived.OpenShut
import Derived.Deep.DeepHandedRow
import Derived.Deep.DeepWitnessRowRef
import Derived.Lib.LaidTab
import Derived.Lib.LaidU8
import Derived.LaidLaws
namespace Go.Proofs.YtomffjaeafcpdaaDoor
open Go.ChangeShapes Go.WideShapes Go.ChangeAt Go.RowKit Go.Lib

theorem own : ownKnob Tryd.prog.godebug = Option.none := by kernel_rfl

section
variable {H : Type} {enc : TypeId × Value → H} {P : Program} {w : World} {base : Nat} {sp : Nat → Bool} {held : Bool}
/-- An array that reads at all has as many cells as its type says. -/
theorem array_len {fuel : Nat} {t e : TypeId} {n : Nat} {cs : List Value} {x : DataW H × List MemPlace} (ht : P.underlying t = some (.array n e))
    (h : DataW.trod enc P w base sp held fuel t cs = some x) : cs.length = P.cellsOf t := by
  cases fuel with
  | zero => simp [DataW.trod] at h
  | succ fuel =>
    simp only [DataW.trod, ht] at h
    split at h
    · assumption
    · cases h
end

theorem nFst : Tryd.prog.globalNamed "unicode/utf8.first" = some 1 := by kernel_rfl
theorem yFst : (Tryd.prog.globals[1]?).map (·.type) = some 62 := by kernel_rfl
theorem nAcc : Tryd.prog.globalNamed "unicode/utf8.acceptRanges" = some 2 := by kernel_rfl
theorem yAcc : (Tryd.prog.globals[2]?).map (·.type) = some 65 := by kernel_rfl
theorem nMem : Tryd.prog.globalNamed "invigilator/runes.members" = some 0 := by kernel_rfl
theorem yMem : (Tryd.prog.globals[0]?).map (·.type) = some 55 := by kernel_rfl
theorem nLea : Tryd.prog.globalNamed "invigilator/runes.leads" = some 3 := by kernel_rfl
theorem yLea : (Tryd.prog.globals[3]?).map (·.type) = some 69 := by kernel_rfl
theorem c5w : Tryd.prog.cellsOf 5 = 1 := by kernel_rfl
theorem c9w : Tryd.prog.cellsOf 9 = 1 := by kernel_rfl
theorem c65w : Tryd.prog.cellsOf 62 = 256 := by kernel_rfl
theorem c67w : Tryd.prog.cellsOf 64 = 2 := by kernel_rfl
theorem c72w : Tryd.prog.cellsOf 69 = 5 := by kernel_rfl
theorem c50w : Tryd.prog.cellsOf 55 = 10 := by kernel_rfl

theorem block_of_var {W : World} {n : String} {g : Nat} {cs : Array Value} (hg : Tryd.prog.globalNamed n = some g) (h : W.var? Tryd.prog n = some cs) : ∃ t z, W.heap[g]? = some (.cells cs t z) := by
  unfold World.var? at h
  rw [hg, Option.bind_some] at h
  split at h
  · rename_i c t z hh
    cases h
    exact ⟨t, z, hh⟩
  · cases h
theorem array_ext {a b : Array Value} (h : a.toList = b.toList) : a = b := by
  cases a; cases b; simp_all

set_option maxRecDepth 100000 in
theorem first_data : Go.Pinned.utf8First = Lib.firstData := by kernel_rfl
theorem acc_data : (Rows.laid_unicode_utf8_acceptRanges : DataW Unit) = Lib.acceptData := by kernel_rfl

theorem first_of_reads {W : World} (h : VarReads Tryd.prog W "unicode/utf8.first" Rows.laid_unicode_utf8_first) : ∀ c, c < 256 → W.cell? ⟨1, c, Option.none⟩ = some (.int .u8 (Lib.firstT c)) := by
  intro c hc
  unfold Rows.laid_unicode_utf8_first at h
  rw [first_data] at h
  obtain ⟨g, t, cs, fuel, p, hg, hty, hvar, hd⟩ := h
  obtain rfl := Option.some.inj (nFst.symm.trans hg)
  obtain rfl := Option.some.inj (yFst.symm.trans hty)
  have hcs := cells_of_tab Tryd.underlying62 Tryd.underlying5 c5w c65w hd
  have := World.var?_cell hg hvar c
  rw [this, ← Array.getElem?_toList, hcs]
  simp [firstTab, hc]
theorem acc_of_reads {W : World} (h : VarReads Tryd.prog W "unicode/utf8.acceptRanges" Rows.laid_unicode_utf8_acceptRanges) : ∀ i, i < 16 → W.cell? ⟨2, 2 * i, Option.none⟩ = some (.int .u8 (Lib.accLo i)) ∧ W.cell? ⟨2, 2 * i + 1, Option.none⟩ = some (.int .u8 (Lib.accHi i)) := by
  intro i hi
  rw [acc_data] at h
  obtain ⟨g, t, cs, fuel, p, hg, hty, hvar, hd⟩ := h
  obtain rfl := Option.some.inj (nAcc.symm.trans hg)
  obtain rfl := Option.some.inj (yAcc.symm.trans hty)
  obtain ⟨fuel', d, q, hdi, he⟩ := array_elem Tryd.underlying65 hd i hi
  simp only [List.getElem?_map, List.getElem?_range hi, Option.map_some, Option.some.injEq] at hdi
  subst hdi
  rw [c67w] at he
  have hcs := ints_of_struct Tryd.underlying64 (fun j f hj => by
    match j, hj with
    | 0, hj => simp at hj; subst hj; exact ⟨Tryd.underlying5, rfl, c5w⟩
    | 1, hj => simp at hj; subst hj; exact ⟨Tryd.underlying5, rfl, c5w⟩
    | j + 2, hj => simp at hj) (by rw [c67w]; rfl) he
  have e0 := congrArg (·[0]?) hcs
  have e1 := congrArg (·[1]?) hcs
  simp only [List.getElem?_take, List.getElem?_drop] at e0 e1
  constructor
  · rw [World.var?_cell hg hvar (2 * i), ← Array.getElem?_toList]
    simpa [Nat.mul_comm] using e0
  · rw [World.var?_cell hg hvar (2 * i + 1), ← Array.getElem?_toList]
    simpa [Nat.mul_comm] using e1
theorem leads_of_reads {W : World} (h : VarReads Tryd.prog W "invigilator/runes.leads" Rows.laid_invigilator_runes_leads) : ∃ t z, W.heap[3]? = some (.cells #[.int .u8 0, .int .u8 0, .int .u8 192, .int .u8 224, .int .u8 240] t z) := by
  obtain ⟨g, t, cs, fuel, p, hg, hty, hvar, hd⟩ := h
  obtain rfl := Option.some.inj (nLea.symm.trans hg)
  obtain rfl := Option.some.inj (yLea.symm.trans hty)
  have hd' : DataW.trod (fun _ => ()) Tryd.prog W 0 (fun _ => true) false fuel 69 cs.toList = some (tabData .u8 [0, 0, 192, 224, 240], p) := hd
  have hcs := cells_of_tab Tryd.underlying69 Tryd.underlying5 c5w c72w hd'
  obtain rfl : cs = #[.int .u8 0, .int .u8 0, .int .u8 192, .int .u8 224, .int .u8 240] := array_ext hcs
  exact block_of_var nLea hvar
set_option maxRecDepth 100000 in
theorem mems_of_reads {W : World} (h : VarReads Tryd.prog W "invigilator/runes.members" Rows.laid_invigilator_runes_members) : ∃ t z, W.heap[0]? = some (.cells (memL.map fun l => .string ⟨l.toArray⟩).toArray t z) := by
  obtain ⟨g, t, cs, fuel, p, hg, hty, hvar, hd⟩ := h
  obtain rfl := Option.some.inj (nMem.symm.trans hg)
  obtain rfl := Option.some.inj (yMem.symm.trans hty)
  have hl := array_len Tryd.underlying55 hd
  rw [c50w] at hl
  have hd' : DataW.trod (fun _ => ()) Tryd.prog W 0 (fun _ => true) false fuel 55 cs.toList = some (.agg (memL.map fun l => .lit (.string l)), p) := hd
  have hcs : cs = (memL.map fun l => Value.string ⟨l.toArray⟩).toArray := by
    apply array_ext
    apply List.ext_getElem?
    intro i
    by_cases hi : i < 10
    · obtain ⟨fuel', d, q, hdi, he⟩ := array_elem Tryd.underlying55 hd' i hi
      rw [c9w, Nat.mul_one] at he
      obtain ⟨s, h1, h2, _⟩ := DataW.trod_string Tryd.underlying9 he
      have hml : i < memL.length := hi
      rw [List.getElem?_map, List.getElem?_eq_getElem hml, Option.map_some] at hdi
      have hd2 : d = .lit (.string s.data.toList) := by have := congrArg Prod.fst h2; simpa using this
      rw [hd2] at hdi
      have hs : memL[i] = s.data.toList := by injection hdi with e; injection e with e; injection e
      have h3 : cs.toList[i]? = some (.string s) := by
        have := congrArg (·[0]?) h1
        simpa [List.getElem?_take, List.getElem?_drop] using this
      rw [h3]
      simp [List.getElem?_eq_getElem hml, hs]
    · rw [List.getElem?_eq_none (by omega), List.getElem?_eq_none (by simp [memL]; omega)]
  subst hcs
  exact block_of_var nMem hvar

theorem lay_of_laid {W : World} {l : List (String × DataW Unit)} (h : laidMet Tryd.prog l W)
    (m0 : ("unicode/utf8.acceptRanges", Rows.laid_unicode_utf8_acceptRanges) ∈ l) (m1 : ("invigilator/runes.members", Rows.laid_invigilator_runes_members) ∈ l)
    (m2 : ("invigilator/runes.leads", Rows.laid_invigilator_runes_leads) ∈ l) (m3 : ("unicode/utf8.first", Rows.laid_unicode_utf8_first) ∈ l) : Lay W := by
  have hl := leads_of_reads (Lib.laidMet.reads h m2)
  refine ⟨?_, first_of_reads (Lib.laidMet.reads h m3), acc_of_reads (Lib.laidMet.reads h m0), hl, mems_of_reads (Lib.laidMet.reads h m1)⟩
  obtain ⟨t, z, e⟩ := hl
  have := (Array.getElem?_eq_some_iff.1 e).1
  omega

/-- A world for the witness: the listed variables hold what their initialisers lay. -/
noncomputable def laidWorld (os : Os) : World :=
  let w0 := World.holding Tryd.prog os ⟨#[], #[], []⟩
  let put (h : Array Obj) (g : Nat) (cs : Array Value) : Array Obj := h.modify g fun
    | .cells _ t frozen => .cells cs t frozen
    | o => o
  let h1 := put w0.heap 2 ((List.range 16).flatMap fun i => [Value.int .u8 (Lib.accLo i), Value.int .u8 (Lib.accHi i)]).toArray
  let h2 := put h1 0 (memL.map fun l => Value.string ⟨l.toArray⟩).toArray
  let h3 := put h2 3 #[.int .u8 0, .int .u8 0, .int .u8 192, .int .u8 224, .int .u8 240]
  let h4 := put h3 1 (Lib.firstTab.map fun z => Value.int .u8 z).toArray
  { w0 with heap := h4 }

def four : List (String × DataW Unit) := [("unicode/utf8.acceptRanges", Rows.laid_unicode_utf8_acceptRanges), ("invigilator/runes.members", Rows.laid_invigilator_runes_members), ("invigilator/runes.leads", Rows.laid_invigilator_runes_leads), ("unicode/utf8.first", Rows.laid_unicode_utf8_first)]
theorem laid_met (os : Os) (args : Array Value) : laidMet Tryd.prog four ((laidWorld os).forCall (fun _ _ => 0) ⟨#[], args, []⟩).memory :=
  laidMet_of_run' 8 (by kernel_rfl) (by kernel_rfl)
theorem laid_vars (os : Os) (args : Array Value) : ((laidWorld os).forCall (fun _ _ => 0) ⟨#[], args, []⟩).variablesRefB Tryd.prog = true := by kernel_rfl
theorem laid_heap (os : Os) (args : Array Value) : ((((laidWorld os).forCall (fun _ _ => 0) ⟨#[], args, []⟩).heap.toList.drop Tryd.prog.globals.size).take ((begin Tryd.prog (fun _ _ => 0) default).world.heap.size - Tryd.prog.globals.size)) =
      (begin Tryd.prog (fun _ _ => 0) default).world.heap.toList.drop Tryd.prog.globals.size := by kernel_rfl
end Go.Proofs.YtomffjaeafcpdaaDoor
