/- Lists of rows; slices.Grow of nothing, slices.Concat. -/
import Derived.Test.YtdbampgbbghfkaaDoorArI
import Derived.Lib.AppendZerosOnto
import Derived.Lib.SliceRun
import Derived.Lib.Walk
namespace Go.Proofs.YtdbampgbbghfkaaDoor
open Go.RowKit

/-- A slice of rows that can be read. -/
def RdM (B : Nat) (w : World) (v : Value) (l : List (List Int)) : Prop :=
  ∃ a cap, v = .slice a l.length cap ∧ (l.length ≤ cap ∧ cap ≤ 9223372036854775807) ∧ (l ≠ [] → ∃ b off, a = some ⟨b, off, none⟩ ∧ b < B ∧ ∀ j (h : j < l.length), ∃ u, w.cell? ⟨b, off + j, none⟩ = some u ∧ RdI B w u l[j] ∧ Ru.NilC u)
theorem RdM.below {B : Nat} {w w' : World} {v : Value} {l : List (List Int)} (h : RdM B w v l) (hb : Below B w w') : RdM B w' v l := by
  obtain ⟨a, cap, hv, hc, h⟩ := h
  refine ⟨a, cap, hv, hc, fun hn => ?_⟩
  obtain ⟨b, off, ha, hlt, hcell⟩ := h hn
  refine ⟨b, off, ha, hlt, fun j hj => ?_⟩
  obtain ⟨u, h1, h2, h3⟩ := hcell j hj
  exact ⟨u, (hb.cell (p := ⟨b, off + j, none⟩) hlt).trans h1, h2.below hb, h3⟩
theorem RdM.mono {B B' : Nat} {w : World} {v : Value} {l : List (List Int)} (h : RdM B w v l) (hB : B ≤ B') : RdM B' w v l := by
  obtain ⟨a, cap, hv, hc, h⟩ := h
  refine ⟨a, cap, hv, hc, fun hn => ?_⟩
  obtain ⟨b, off, ha, hlt, hcell⟩ := h hn
  refine ⟨b, off, ha, Nat.lt_of_lt_of_le hlt hB, fun j hj => ?_⟩
  obtain ⟨u, h1, h2, h3⟩ := hcell j hj
  exact ⟨u, h1, h2.mono hB, h3⟩
theorem RdM.next {w w' : World} {v : Value} {l : List (List Int)} (h : RdM w.heap.size w v l) (hb : Below w.heap.size w w') : RdM w'.heap.size w' v l := (h.below hb).mono hb.size
theorem RdM.cells {B : Nat} {w : World} {p : Option Addr} {n cap : Nat} {l : List (List Int)} (h : RdM B w (.slice p n cap) l) (hne : l ≠ []) : ∃ b off, p = some ⟨b, off, none⟩ ∧ b < B ∧ ∀ j (hj : j < l.length), ∃ u, w.cell? ⟨b, off + j, none⟩ = some u ∧ RdI B w u l[j] ∧ Ru.NilC u := by
  obtain ⟨p', cap', h1, _, h3⟩ := h
  cases h1
  exact h3 hne
theorem ins_form {B : Nat} {w : World} {v : Value} {l : List Int} (h : Ru.Ins 2 w B v l) : ∃ a c, v = .slice a l.length c := by
  obtain ⟨a, c, h1, _⟩ := (ins_new h).form
  exact ⟨a, c, h1⟩

set_option maxRecDepth 100000 in
set_option maxHeartbeats 4000000 in
theorem grow_none (n : Nat) (w : World) (hn : n ≤ 1000000) :
    Calls Tryd.prog 50 #[.slice none 0 0, .int .i64 n] w fun e w' => ∃ u, e = .returned u ∧ Ru.Ins 2 w' w.heap.size u [] ∧ Below w.heap.size w w' := by
  obtain ⟨i0, hi, hz0, hz1, hz2⟩ := info_parts info64
  have h2 : IntKind.i64.wrap ((n : Int) - 0) = (n : Int) := by rw [IntKind.wrap_i64]; omega
  have h1 : ¬ ((n : Int) < 0) := by omega
  by_cases h0 : n = 0
  · subst h0
    go_enter Tryd.func50, Tryd.ntmps50
    go_wp2
    go_ret
    exact ⟨_, rfl, World.ownsRow_nil _ _ _ _, Below.refl _ _⟩
  · have h4 : (n : Int) > 0 := by omega
    have hrz : ∀ ty, (Builtin.append_ #[22, 3] ty #[.slice none 0 0, .int .i64 (n : Int)]).run Tryd.prog w = _ := fun ty =>
      Lib.run_append_grow_zeros (P := Tryd.prog) w 22 3 ty 2 i0 (.int .i64 0) .i64 .i64 Tryd.underlying22 Tryd.underlying3 hi hz0 none 0 0 [] (by rw [hz1]; simp [Builtin.firstCells]) n (by omega) (by omega) (by omega) (by omega) (by rw [hz2]; omega) (growslice_fits (by omega) (by rw [hz2]; omega))
    go_enter Tryd.func50, Tryd.ntmps50
    go_wp2_with (at_builtin; refine Lib.wpList_append_run _ rfl _ _ _ _ rfl _ _ rfl rfl _ _ (hrz _) ?_)
    clear hrz
    have hge := grownCap_ge w n 0 2
    have hle := grownCap_le_maxLen w n 0 2 (by unfold maxLen; omega)
    generalize grownCap w n 0 2 = G at hge hle ⊢
    go_ret
    refine ⟨_, rfl, ⟨by simp, .inr ⟨w.heap.size, G, _, rfl, Nat.le_refl _, heap_alloc_last w _, Nat.zero_le _, hle, ?_, by simp⟩⟩, (bel1 w _).trans (Below.refl _ _).drew⟩
    simp [Builtin.zeroCells]
    omega
/-- The numbers of the rows, one after the other. -/
def flt (l : List (List Int)) : List Int := l.flatten
theorem flt_take {l : List (List Int)} {j : Nat} (h : j < l.length) : flt (l.take (j + 1)) = flt (l.take j) ++ l[j] := by
  unfold flt
  rw [List.take_succ_eq_append_getElem h, List.flatten_append, List.flatten_cons, List.flatten_nil, List.append_nil]
theorem flt_le (l : List (List Int)) (j : Nat) : (flt (l.take j)).length ≤ (flt l).length := by
  conv => rhs; rw [← List.take_append_drop j l]
  unfold flt
  rw [List.flatten_append, List.length_append]; omega

set_option maxRecDepth 100000 in
set_option maxHeartbeats 4000000 in
theorem concat_any (v : Value) (l : List (List Int)) (w : World) (hv : RdM w.heap.size w v l) (hl : (flt l).length ≤ 100000) (hn : l.length ≤ 1000000) :
    Calls Tryd.prog 32 #[v] w fun e w' => ∃ u, e = .returned u ∧ Ru.Ins 2 w' w.heap.size u (flt l) ∧ Below w.heap.size w w' := by
  have HV := Lib.hid hv
  obtain ⟨p, cap, rfl, ⟨hcap, hcap2⟩, hcell⟩ := hv
  clear hcell
  have HT := Lib.hid (fun j (h : j < l.length) => flt_take h)
  have HLe := Lib.hid (flt_le l)
  have HGr := Lib.hid (fun n W h => grow_none n W h)
  go_enter Tryd.func32, Tryd.ntmps32
  go_wp2
  go_loopg [3, 11] l.length (fun g m i wr => ∃ j : Nat, j + g = l.length ∧ i = .int .i64 j ∧ m = .int .i64 ((flt (l.take j)).length : Int) ∧ w = wr)
  case atStart => exact ⟨0, by omega, rfl, by simp [flt], rfl⟩
  case round =>
    obtain ⟨j, hjg, rfl, rfl, rfl⟩ := hrel
    cases gk with
    | zero =>
      have hjz : ¬ ((j : Int) < (l.length : Int)) := by omega
      have hall : l.take j = l := List.take_of_length_le (by omega)
      rw [hall]
      clear hall
      have HN := Lib.hid hl
      generalize hm : (flt l).length = m at hl ⊢
      go_wp2_with (go_at_call 50; refine (HGr.out m _ (by omega)).mono ?_; rintro e w1 ⟨u0, rfl, hu0, hb0⟩; obtain ⟨ua, uc, rfl⟩ := ins_form hu0; have HU0 := Lib.hid hu0; have HB0 := Lib.hid hb0; clear hu0 hb0)
      go_loopg [6, 27] l.length (fun g u i wr => ∃ j : Nat, j + g = l.length ∧ i = .int .i64 j ∧ Ru.Ins 2 wr w.heap.size u (flt (l.take j)) ∧ Below w.heap.size w wr)
      case atStart => exact ⟨0, by omega, rfl, by simpa [flt] using HU0.out, HB0.out⟩
      case round =>
        obtain ⟨j, hjg, rfl, hu, hb⟩ := hrel
        obtain ⟨ua, uc, rfl⟩ := ins_form hu
        have HU := Lib.hid hu
        have HB := Lib.hid hb
        clear hu hb HU0 HB0
        cases gk with
        | zero =>
          have hjz : ¬ ((j : Int) < (l.length : Int)) := by omega
          have hall : l.take j = l := List.take_of_length_le (by omega)
          have HU3 : Hid (Ru.Ins 2 wr w.heap.size (.slice ua (flt (l.take j)).length uc) (flt l)) := by
            have := HU.out
            rw [hall] at this ⊢
            exact this
          clear hall hm HU
          go_wp2
          go_ret
          exact ⟨_, rfl, HU3.out, HB.out⟩
        | succ g =>
          have hjz : (j : Int) < (l.length : Int) := by omega
          have hj : j < l.length := by omega
          obtain ⟨b, off, rfl, hbb, hc⟩ := (HV.out.below HB.out).cells (by intro e; rw [e] at hj; simp at hj)
          obtain ⟨x, hx, hxr, hxn⟩ := hc j hj
          have HX := Lib.hid hxr
          have HXn := Lib.hid hxn
          obtain ⟨xa, xc, rfl, hx1, hx2, hx3⟩ := hxr
          clear hx3 hxn hc
          have HJ := Lib.hid (HT.out j hj)
          have hle1 := HLe.out (j + 1)
          rw [HJ.out, List.length_append] at hle1
          obtain ⟨y, hy⟩ : ∃ y, l[j] = y := ⟨_, rfl⟩
          rw [hy] at hx HX HJ hx1 hle1 HXn
          clear hy
          go_wp2_with (at_builtin; refine Ru.wpList_append_is (by simp [Region.wanted]) _ _ rfl w.heap.size _ _ rfl HU.out _ y rfl _ HX.out.ru HXn.out (by omega) HB.out.size ?_; intro u2 w2 hu2 hg2; have HB2 := Lib.hid (HB.out.grown hg2 HB.out.size (fun k e => (World.ownsRow.lt HU.out k e).1)); rw [← HJ.out] at hu2; obtain ⟨va, vc, rfl⟩ := ins_form hu2; have HU2 := Lib.hid hu2; clear hu2 hg2)
          go_roundg g
          case measure => omega
          case rel => exact ⟨j + 1, by omega, by go_num, HU2.out, HB2.out⟩
    | succ g =>
      have hjz : (j : Int) < (l.length : Int) := by omega
      have hj : j < l.length := by omega
      obtain ⟨b, off, rfl, hbb, hc⟩ := HV.out.cells (by intro e; rw [e] at hj; simp at hj)
      obtain ⟨x, hx, hxr, hxn⟩ := hc j hj
      obtain ⟨xa, xc, rfl, hx1, hx2, hx3⟩ := hxr
      clear hx3 hxn hc
      have HJ := Lib.hid (HT.out j hj)
      have hle1 := HLe.out (j + 1)
      rw [HJ.out, List.length_append] at hle1
      have hw1 : IntKind.i64.wrap (((flt (l.take j)).length : Int) + (l[j].length : Int)) = ((flt (l.take j)).length : Int) + (l[j].length : Int) := by rw [IntKind.wrap_i64]; omega
      have hnn : ¬ (((flt (l.take j)).length : Int) + (l[j].length : Int) < 0) := by omega
      have HS : Hid (((flt (l.take (j + 1))).length : Int) = ((flt (l.take j)).length : Int) + (l[j].length : Int)) := by unfold Hid; rw [HJ.out, List.length_append]; omega
      go_wp2
      go_roundg g
      case measure => omega
      case rel => exact ⟨j + 1, by omega, by go_num, by rw [HS.out], rfl⟩
end Go.Proofs.YtdbampgbbghfkaaDoor
