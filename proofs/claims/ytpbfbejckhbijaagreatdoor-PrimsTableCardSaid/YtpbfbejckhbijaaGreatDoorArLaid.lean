/- From a row's listed variables to the facts 'Lay'; a world for the witness; how the arguments open, and that they read again as they read. -/
import Derived.Test.YtpbfbejckhbijaaGreatDoorCards
import Derived.Test.YtpbfbejckhbijaaGreatDoorTie
import Derived.Test.YtpbfbejckhbijaaGreatDoorArY
import Derived.WalkKit
import Derived.ProofKit
import Derived.OpenShut
import Derived.ChangeSlices
import Derived.ChangeAt
import Derived.Carry
import Derived.Lib.SmallJoins
import Derived.Deep.DeepHandedRow
import Derived.Deep.DeepWitnessRowRef
import Derived.Lib.LaidTab
import Derived.Lib.LaidU8
import Derived.LaidLaws
namespace Go.Proofs.YtpbfbejckhbijaaGreatDoor
set_option maxRecDepth 100000
open Go.ChangeShapes Go.WideShapes Go.ChangeAt Go.RowKit Go.Lib Go.Joins

theorem own : ownKnob Tryz.prog.godebug = Option.none := by kernel_rfl
theorem laidOut : laidOutB Tryz.prog = true := by kernel_rfl

theorem nLea : Tryz.prog.globalNamed "invigilator/runes.leads" = some 0 := by kernel_rfl
theorem yLea : (Tryz.prog.globals[0]?).map (·.type) = some 183 := by kernel_rfl
theorem c5w : Tryz.prog.cellsOf 5 = 1 := by kernel_rfl
theorem c72w : Tryz.prog.cellsOf 183 = 5 := by kernel_rfl
theorem block_of_var {W : World} {n : String} {g : Nat} {cs : Array Value} (hg : Tryz.prog.globalNamed n = some g) (h : W.var? Tryz.prog n = some cs) : ∃ t z, W.heap[g]? = some (.cells cs t z) := by
  unfold World.var? at h
  rw [hg, Option.bind_some] at h
  split at h
  · rename_i c t z hh
    cases h
    exact ⟨t, z, hh⟩
  · cases h
theorem array_ext {a b : Array Value} (h : a.toList = b.toList) : a = b := by
  cases a; cases b; simp_all

theorem leads_of_reads {W : World} (h : VarReads Tryz.prog W "invigilator/runes.leads" Rows.laid_invigilator_runes_leads) : ∃ t z, W.heap[0]? = some (.cells #[.int .u8 0, .int .u8 0, .int .u8 192, .int .u8 224, .int .u8 240] t z) := by
  obtain ⟨g, t, cs, fuel, p, hg, hty, hvar, hd⟩ := h
  obtain rfl := Option.some.inj (nLea.symm.trans hg)
  obtain rfl := Option.some.inj (yLea.symm.trans hty)
  have hd' : DataW.trod (fun _ => ()) Tryz.prog W 0 (fun _ => true) false fuel 183 cs.toList = some (tabData .u8 [0, 0, 192, 224, 240], p) := hd
  have hcs := cells_of_tab Tryz.underlying183 Tryz.underlying5 c5w c72w hd'
  obtain rfl : cs = #[.int .u8 0, .int .u8 0, .int .u8 192, .int .u8 224, .int .u8 240] := array_ext hcs
  exact block_of_var nLea hvar

theorem lay_of_laid {W : World} {l : List (String × DataW Unit)} (h : laidMet Tryz.prog l W)
    (m2 : ("invigilator/runes.leads", Rows.laid_invigilator_runes_leads) ∈ l) : Ru.Lay W := by
  have hl := leads_of_reads (Lib.laidMet.reads h m2)
  refine ⟨?_, hl⟩
  obtain ⟨t, z, e⟩ := hl
  have := (Array.getElem?_eq_some_iff.1 e).1
  omega

/-- A world for the witness: the listed variable holds what its initialiser lays. -/
noncomputable def laidWorld (os : Os) : World :=
  let w0 := World.holding Tryz.prog os ⟨#[], #[], []⟩
  let put (h : Array Obj) (g : Nat) (cs : Array Value) : Array Obj := h.modify g fun
    | .cells _ t frozen => .cells cs t frozen
    | o => o
  let h3 := put w0.heap 0 #[.int .u8 0, .int .u8 0, .int .u8 192, .int .u8 224, .int .u8 240]
  { w0 with heap := h3 }

def one : List (String × DataW Unit) := [("invigilator/runes.leads", Rows.laid_invigilator_runes_leads)]
theorem laid_met (os : Os) (args : Array Value) : laidMet Tryz.prog one ((laidWorld os).forCall (fun _ _ => 0) ⟨#[], args, []⟩).memory :=
  laidMet_of_run' 8 (by kernel_rfl) (by kernel_rfl)
theorem laid_vars (os : Os) (args : Array Value) : ((laidWorld os).forCall (fun _ _ => 0) ⟨#[], args, []⟩).variablesRefB Tryz.prog = true := by kernel_rfl
theorem laid_heap (os : Os) (args : Array Value) : ((((laidWorld os).forCall (fun _ _ => 0) ⟨#[], args, []⟩).heap.toList.drop Tryz.prog.globals.size).take ((begin Tryz.prog (fun _ _ => 0) default).world.heap.size - Tryz.prog.globals.size)) =
      (begin Tryz.prog (fun _ _ => 0) default).world.heap.toList.drop Tryz.prog.globals.size := by kernel_rfl
theorem c22w : Tryz.prog.cellsOf 40 = 2 := by kernel_rfl
theorem c2w : Tryz.prog.cellsOf 2 = 1 := by kernel_rfl
theorem c3w : Tryz.prog.cellsOf 3 = 1 := by kernel_rfl
theorem bounds64 {n : Int} (h : (Lit.int IntKind.i64 n).wf = true) : -9223372036854775808 ≤ n ∧ n ≤ 9223372036854775807 := by
  simp [Lit.wf, IntKind.min, IntKind.max, IntKind.signed, IntKind.bits] at h
  omega
section
variable {H : Type} {enc : TypeId × Value → H}
theorem shut_any {t : TypeId} (hr : Tryz.prog.readableRec t = true) (hrow : t < Tryz.prog.types.size) {W : World} {v : Value} {d : DataW H} {p : List MemPlace} (h : DataW.Trod enc Tryz.prog W 0 (fun _ => true) true t v d p) :
    ∀ W', Below W.heap.size W W' → DataW.Trod enc Tryz.prog W' 0 (fun b => decide (b < W.heap.size)) true t v d p := by
  intro W' hb
  refine Below.trod laidOut hr hrow h hb ?_
  obtain ⟨n, hn⟩ := h
  exact DataW.trod_lt n _ _ _ hn
theorem okWide_arr2 {W : World} {base : Nat} {v : Value} (h : Value.okWide Tryz.prog W .any base 40 v) : ∃ cs, v = .agg cs ∧ cs.size = 2 := by
  simp only [Value.okWide, Tryz.underlying40] at h
  obtain ⟨cs, h1, h2, _⟩ := h
  exact ⟨cs, h1, h2.trans c22w⟩
theorem trod_arr2 {W : World} {sp : Nat → Bool} {n : Nat} {c0 c1 : Value} {y : DataW H × List MemPlace} (h : DataW.trod enc Tryz.prog W 0 sp true n 40 [c0, c1] = some y) :
    ∃ a b : Int, c0 = .int .i64 a ∧ c1 = .int .i64 b ∧ (Lit.int IntKind.i64 a).wf = true ∧ (Lit.int IntKind.i64 b).wf = true := by
  cases n with
  | zero => simp [DataW.trod] at h
  | succ n =>
    simp only [DataW.trod, Tryz.underlying40] at h
    split at h
    · obtain ⟨xs, hm, hx⟩ := Option.map_eq_some_iff.1 h
      obtain ⟨y0, _, h0⟩ := mapM_at hm 0 0 (by simp)
      obtain ⟨y1, _, h1⟩ := mapM_at hm 1 1 (by simp)
      obtain ⟨a, e0, _, w0⟩ := DataW.trod_int Tryz.underlying3 h0
      obtain ⟨b, e1, _, w1⟩ := DataW.trod_int Tryz.underlying3 h1
      rw [c3w] at e0 e1
      simp at e0 e1
      exact ⟨a, b, e0, e1, w0, w1⟩
    · cases h
theorem open_pair {W : World} {base : Nat} {v : Value} {d : DataW H} {p : List MemPlace} (hval : Value.okWide Tryz.prog W .any base 40 v) (h1 : DataW.Trod enc Tryz.prog W 0 (fun _ => true) true 40 v d p) :
    ∃ a b : Int, v = P2 a b ∧ ((-9223372036854775808 ≤ a ∧ a ≤ 9223372036854775807) ∧ -9223372036854775808 ≤ b ∧ b ≤ 9223372036854775807) ∧ ∀ W', Below W.heap.size W W' → DataW.Trod enc Tryz.prog W' 0 (fun b => decide (b < W.heap.size)) true 40 v d p := by
  have hs := shut_any (by kernel_rfl) (of_decide_eq_true (by kernel_rfl)) h1
  obtain ⟨cs, rfl, hsz⟩ := okWide_arr2 hval
  obtain ⟨c0, c1, rfl⟩ := array2 hsz
  obtain ⟨fuel, hf⟩ := h1
  obtain ⟨a, b, rfl, rfl, w0, w1⟩ := trod_arr2 (by simpa [Value.cells] using hf)
  exact ⟨a, b, rfl, ⟨bounds64 w0, bounds64 w1⟩, hs⟩
theorem read_is {W : World} {n : Nat} {v : Value} {y : DataW H × List MemPlace} (hf : DataW.trod enc Tryz.prog W 0 (fun _ => true) true n 41 [v] = some y) :
    ∃ l : List Int, RdI W.heap.size W v l ∧ Ru.NilC v := by
  rcases open_ints Tryz.underlying41 Tryz.underlying2 c2w hf with ⟨hcs, hx⟩ | ⟨a, len, cap, zs, hcs, hba, hl, hm, hz, hx, hcell, hwz⟩
  · simp at hcs
    subst hcs
    exact ⟨[], ⟨Option.none, 0, rfl, Nat.le_refl _, by omega, fun h => absurd rfl h⟩, by intro n c e; cases e; rfl⟩
  · simp at hcs
    subst hcs
    simp only [if_true] at hz
    have hlen : (zs.take len).length = len := by simp; omega
    obtain ⟨ab, ao, spot⟩ := a
    have hspot : 0 < zs.length → spot = Option.none := fun h => by simpa [Addr.add] using World.cell?_spot (hcell 0 h)
    have hblk : 0 < zs.length → ab < W.heap.size := fun h => by
      have hc := hcell 0 h
      rw [hspot h, Addr.add_lit] at hc
      exact block_lt_of_cell hc
    refine ⟨zs.take len, ⟨some ⟨ab, ao, spot⟩, cap, by rw [hlen], by rw [hlen]; exact hl, by unfold maxLen at hm; omega, fun hne => ?_⟩, by intro n c e; cases e⟩
    have hpos : 0 < len := by
      rcases Nat.eq_zero_or_pos len with h | h
      · subst h; simp at hne
      · exact h
    have hs := hspot (by omega)
    subst hs
    refine ⟨ab, ao, rfl, hblk (by omega), fun j hj => ?_⟩
    rw [hlen] at hj
    have hcj := hcell j (by omega)
    rw [Addr.add_lit] at hcj
    rw [hcj]
    have e : zs[j]?.getD 0 = zs[j]'(by omega) := by simp [List.getElem?_eq_getElem (show j < zs.length by omega)]
    rw [List.getD_eq_getElem?_getD, e, List.getElem_take]
theorem array5 {α : Type} {cs : Array α} (h : cs.size = 5) : ∃ c0 c1 c2 c3 c4, cs = #[c0, c1, c2, c3, c4] := by
  obtain ⟨l⟩ := cs
  match l, h with
  | [c0, c1, c2, c3, c4], _ => exact ⟨c0, c1, c2, c3, c4, rfl⟩
theorem c25w : Tryz.prog.cellsOf 43 = 5 := by kernel_rfl
theorem c23w : Tryz.prog.cellsOf 41 = 1 := by kernel_rfl
theorem trod_arr {W : World} {n : Nat} {c0 c1 c2 c3 c4 : Value} {x : DataW H × List MemPlace} (h : DataW.trod enc Tryz.prog W 0 (fun _ => true) true n 43 [c0, c1, c2, c3, c4] = some x) :
    ∃ k r a b : Int, c0 = .int .i64 k ∧ c1 = .int .i64 r ∧ c2 = .int .i64 a ∧ c3 = .int .i64 b ∧ ((Lit.int IntKind.i64 k).wf = true ∧ (Lit.int IntKind.i64 r).wf = true ∧ (Lit.int IntKind.i64 a).wf = true ∧ (Lit.int IntKind.i64 b).wf = true) ∧ ∃ z, RdI W.heap.size W c4 z ∧ Ru.NilC c4 := by
  obtain ⟨y0, y1, y2, y3, m, _, _, h0, h1, h2, h3⟩ := trod_struct4 Tryz.underlying43 h
  obtain ⟨k, e0, _, w0⟩ := DataW.trod_int Tryz.underlying3 h0
  obtain ⟨r, e1, _, w1⟩ := DataW.trod_int Tryz.underlying3 h1
  rw [c3w] at e0 e1
  simp at e0 e1
  obtain ⟨a, b, ea, eb, w2, w3⟩ := trod_arr2 (by simpa [c22w] using h2)
  obtain ⟨z, hz, hn⟩ := read_is (by simpa [c23w] using h3)
  exact ⟨k, r, a, b, e0, e1, ea, eb, ⟨w0, w1, w2, w3⟩, z, hz, hn⟩
/-- The bounds of an array's numbers. -/
def BdA (A : Ar) : Prop := ((-9223372036854775808 ≤ A.k ∧ A.k ≤ 9223372036854775807) ∧ (-9223372036854775808 ≤ A.r ∧ A.r ≤ 9223372036854775807)) ∧ (-9223372036854775808 ≤ A.a ∧ A.a ≤ 9223372036854775807) ∧ -9223372036854775808 ≤ A.b ∧ A.b ≤ 9223372036854775807
theorem open_arr {W : World} {base : Nat} {v : Value} {d : DataW H} {p : List MemPlace} (hval : Value.okWide Tryz.prog W .any base 43 v) (h1 : DataW.Trod enc Tryz.prog W 0 (fun _ => true) true 43 v d p) :
    ∃ (A : Ar) (u : Value), v = A5 A.k A.r A.a A.b u ∧ RdI W.heap.size W u A.z ∧ Ru.NilC u ∧ BdA A ∧ ∀ W', Below W.heap.size W W' → DataW.Trod enc Tryz.prog W' 0 (fun b => decide (b < W.heap.size)) true 43 v d p := by
  have hs := shut_any (by kernel_rfl) (of_decide_eq_true (by kernel_rfl)) h1
  obtain ⟨cs, rfl, hsz⟩ := okWide_struct Tryz.underlying43 hval
  obtain ⟨c0, c1, c2, c3, c4, rfl⟩ := array5 (hsz.trans c25w)
  obtain ⟨fuel, hf⟩ := h1
  obtain ⟨k, r, a, b, rfl, rfl, rfl, rfl, ⟨w0, w1, w2, w3⟩, z, hz, hn⟩ := trod_arr (by simpa [Value.cells] using hf)
  exact ⟨⟨k, r, a, b, z⟩, c4, rfl, hz, hn, ⟨⟨bounds64 w0, bounds64 w1⟩, bounds64 w2, bounds64 w3⟩, hs⟩
theorem open_is {W : World} {base : Nat} {v : Value} {d : DataW H} {p : List MemPlace} (hval : Value.okWide Tryz.prog W .any base 41 v) (h1 : DataW.Trod enc Tryz.prog W 0 (fun _ => true) true 41 v d p) :
    ∃ zs, RdI W.heap.size W v zs ∧ Ru.NilC v ∧ ∀ W', Below W.heap.size W W' → DataW.Trod enc Tryz.prog W' 0 (fun b => decide (b < W.heap.size)) true 41 v d p := by
  have hs := shut_any (by kernel_rfl) (of_decide_eq_true (by kernel_rfl)) h1
  obtain ⟨a1, len, cap, rfl⟩ := okWide_slice Tryz.underlying41 hval
  obtain ⟨fuel, hf⟩ := h1
  obtain ⟨zs, hz, hn⟩ := read_is (by simpa [Value.cells] using hf)
  exact ⟨zs, hz, hn, hs⟩
end
end Go.Proofs.YtpbfbejckhbijaaGreatDoor
