/- slices.Min, slices.Max of numbers; copy into a row of the call's own. -/
import Derived.Test.YtbeoigmaieiigaaDoorMvJ
import Derived.Laws.CopyRow
import Derived.Laws.IdiomCopy
namespace Go.Proofs.YtbeoigmaieiigaaDoor
open Go.RowKit

def lmn (z : List Int) : Int := z.foldl min (z.getD 0 0)
def lmx (z : List Int) : Int := z.foldl max (z.getD 0 0)
theorem lmn_take {z : List Int} {j : Nat} (h : j < z.length) : (z.take (j + 1)).foldl min (z.getD 0 0) = min ((z.take j).foldl min (z.getD 0 0)) z[j] := by
  rw [List.take_succ_eq_append_getElem h, List.foldl_append]; rfl
theorem lmx_take {z : List Int} {j : Nat} (h : j < z.length) : (z.take (j + 1)).foldl max (z.getD 0 0) = max ((z.take j).foldl max (z.getD 0 0)) z[j] := by
  rw [List.take_succ_eq_append_getElem h, List.foldl_append]; rfl
theorem getD_lt {z : List Int} {j : Nat} (h : j < z.length) : z.getD j 0 = z[j] := by
  rw [List.getD_eq_getElem?_getD, List.getElem?_eq_getElem h]; rfl

set_option maxRecDepth 100000 in
set_option maxHeartbeats 8000000 in
theorem min_any (v : Value) (z : List Int) (w : World) (hv : RdI w.heap.size w v z) (hz : 0 < z.length) (hl : z.length ≤ 1000000) :
    Calls Tryd.prog 56 #[v] w fun e w' => e = .returned (.int .i64 (lmn z)) ∧ Below w.heap.size w w' := by
  have hz1 : z ≠ [] := List.length_pos_iff.1 hz
  obtain ⟨p, cap, rfl, hcap, hcap2, hcell⟩ := hv
  obtain ⟨b, off, rfl, _, hc⟩ := hcell hz1
  have HC := Lib.hid hc
  have x0 := hc 0 hz
  rw [Nat.add_zero, show vi z[0] = .int .i64 z[0] from rfl, ← getD_lt hz] at x0
  have hn1 : ¬ ((z.length : Int) < 1) := by omega
  have hn0 : (0 : Int) < (z.length : Int) := by omega
  have HS : Hid ((z.take 1).foldl min (z.getD 0 0) = z.getD 0 0) := by
    unfold Hid
    rw [lmn_take hz, ← getD_lt hz]; simp
  clear hc hcell hz1
  generalize hx : z.getD 0 0 = x at x0 HS
  have HX := Lib.hid hx
  clear hx
  go_enter Tryd.func56, Tryd.ntmps56
  go_wp2
  clear x0
  go_loopg [3, 4] (z.length - 1) (fun gk m i wr => ∃ j : Nat, j + gk = z.length ∧ 0 < j ∧ i = .int .i64 j ∧ m = .int .i64 ((z.take j).foldl min x) ∧ w = wr)
  case atStart => exact ⟨1, by omega, by omega, rfl, by rw [HS.out], rfl⟩
  case round =>
    obtain ⟨j, hjg, hj0, rfl, rfl, rfl⟩ := hrel
    cases gk with
    | zero =>
      have hjz : ¬ ((j : Int) < (z.length : Int)) := by omega
      have HF : Hid ((z.take j).foldl min x = lmn z) := by unfold Hid lmn; rw [HX.out, List.take_of_length_le (by omega)]
      clear HS
      go_wp2
      go_ret
      exact ⟨congrArg (fun q => Ending.returned (.int .i64 q)) HF.out, Below.refl _ _⟩
    | succ g2 =>
      have hjz : (j : Int) < (z.length : Int) := by omega
      have hj : j < z.length := by omega
      have x1 := HC.out j hj
      have HT := Lib.hid (lmn_take hj)
      rw [HX.out] at HT
      have hw0 : IntKind.i64.wrap ((j : Int) + 1) = (j : Int) + 1 := by rw [IntKind.wrap_i64]; omega
      generalize z[j] = c at x1 HT
      generalize (z.take j).foldl min x = m at HT ⊢
      clear hn1 hn0
      go_wp2
      go_roundg g2
      case measure => omega
      case rel => exact ⟨j + 1, by omega, by omega, by go_num, by rw [HT.out], rfl⟩

set_option maxRecDepth 100000 in
set_option maxHeartbeats 8000000 in
theorem max_any (v : Value) (z : List Int) (w : World) (hv : RdI w.heap.size w v z) (hz : 0 < z.length) (hl : z.length ≤ 1000000) :
    Calls Tryd.prog 57 #[v] w fun e w' => e = .returned (.int .i64 (lmx z)) ∧ Below w.heap.size w w' := by
  have hz1 : z ≠ [] := List.length_pos_iff.1 hz
  obtain ⟨p, cap, rfl, hcap, hcap2, hcell⟩ := hv
  obtain ⟨b, off, rfl, _, hc⟩ := hcell hz1
  have HC := Lib.hid hc
  have x0 := hc 0 hz
  rw [Nat.add_zero, show vi z[0] = .int .i64 z[0] from rfl, ← getD_lt hz] at x0
  have hn1 : ¬ ((z.length : Int) < 1) := by omega
  have hn0 : (0 : Int) < (z.length : Int) := by omega
  have HS : Hid ((z.take 1).foldl max (z.getD 0 0) = z.getD 0 0) := by
    unfold Hid
    rw [lmx_take hz, ← getD_lt hz]; simp
  clear hc hcell hz1
  generalize hx : z.getD 0 0 = x at x0 HS
  have HX := Lib.hid hx
  clear hx
  go_enter Tryd.func57, Tryd.ntmps57
  go_wp2
  clear x0
  go_loopg [3, 4] (z.length - 1) (fun gk m i wr => ∃ j : Nat, j + gk = z.length ∧ 0 < j ∧ i = .int .i64 j ∧ m = .int .i64 ((z.take j).foldl max x) ∧ w = wr)
  case atStart => exact ⟨1, by omega, by omega, rfl, by rw [HS.out], rfl⟩
  case round =>
    obtain ⟨j, hjg, hj0, rfl, rfl, rfl⟩ := hrel
    cases gk with
    | zero =>
      have hjz : ¬ ((j : Int) < (z.length : Int)) := by omega
      have HF : Hid ((z.take j).foldl max x = lmx z) := by unfold Hid lmx; rw [HX.out, List.take_of_length_le (by omega)]
      clear HS
      go_wp2
      go_ret
      exact ⟨congrArg (fun q => Ending.returned (.int .i64 q)) HF.out, Below.refl _ _⟩
    | succ g2 =>
      have hjz : (j : Int) < (z.length : Int) := by omega
      have hj : j < z.length := by omega
      have x1 := HC.out j hj
      have HT := Lib.hid (lmx_take hj)
      rw [HX.out] at HT
      have hw0 : IntKind.i64.wrap ((j : Int) + 1) = (j : Int) + 1 := by rw [IntKind.wrap_i64]; omega
      generalize z[j] = c at x1 HT
      generalize (z.take j).foldl max x = m at HT ⊢
      clear hn1 hn0
      go_wp2
      go_roundg g2
      case measure => omega
      case rel => exact ⟨j + 1, by omega, by omega, by go_num, by rw [HT.out], rfl⟩

theorem info64s : (Tryd.prog.info? 2).map (·.size) = some 1 := by kernel_rfl
theorem setRow_but (w : World) (g : Nat) (cs : Array Value) : But g w (w.setRow g cs) :=
  ⟨rfl, rfl, rfl, by simp [World.setRow], fun k hk => by simp only [World.setRow, Array.getElem?_modify]; rw [if_neg (fun e => hk e.symm)]⟩
/-- copy into a row of the call's own. -/
theorem copy_run {w : World} {g n : Nat} {f : Nat → Int} (h : rowZ w g n f) (o dl dc : Nat) {u : Value} {z : List Int} {B : Nat} (hu : RdI B w u z) (c : Nat) (hc : c = min z.length dl) (hfit : o + c ≤ n) :
    ∃ w', (∀ T, (Builtin.copy_ #[23, 23] T #[.slice (some ⟨g, o, none⟩) dl dc, u]).run Tryd.prog w = .ok (.int .i64 c) w') ∧ rowZ w' g n (fun i => if o ≤ i ∧ i < o + c then z.getD (i - o) 0 else f i) ∧ But g w w' := by
  obtain ⟨p, cap, rfl, h1, h2, h3⟩ := hu
  by_cases h0 : c = 0
  · subst h0
    exact ⟨w, fun T => run_copy_none (P := Tryd.prog) w _ _ T 2 _ _ _ _ _ _ Tryd.underlying23 info64s hc.symm, h.congr fun i _ => by rw [if_neg (by omega)], But.refl _ _⟩
  · obtain ⟨b, off, rfl, _, hcell⟩ := h3 (fun e => h0 (by rw [hc, e]; simp))
    obtain ⟨cs, hcs, hsz, hget⟩ := h
    have hlen : ((z.take c).map vi).length = c := by rw [List.length_map, List.length_take]; omega
    have hr := fun T => run_copy_row (P := Tryd.prog) w 23 23 T 2 g o dl dc ⟨b, off, none⟩ z.length cap cs 2 ((z.take c).map vi) Tryd.underlying23 info64s hcs (by rw [hlen]; exact hc)
      (fun j v hj => by
        have hjl : j < c := by
          rcases Nat.lt_or_ge j c with hj' | hj'
          · exact hj'
          · rw [List.getElem?_eq_none (by omega)] at hj; cases hj
        rw [Ru.add_off, hcell j (by omega)]
        rw [List.getElem?_map, List.getElem?_eq_getElem (by rw [List.length_take]; omega), List.getElem_take] at hj
        exact hj) (by rw [hlen, hsz]; exact hfit) (fun v hv => by obtain ⟨q, _, rfl⟩ := List.mem_map.1 hv; rfl)
    rw [hlen] at hr
    refine ⟨_, hr, ⟨_, setRow_heap w g cs _ _ _ hcs, ?_, fun i hi => ?_⟩, setRow_but _ _ _⟩
    · simp [List.length_take, hsz]; omega
    · have hi2 : i < cs.size := by omega
      have hgi := hget i hi
      simp only [List.getElem?_toArray]
      by_cases hin : o ≤ i ∧ i < o + c
      · rw [if_pos hin, List.append_assoc, List.getElem?_append_right (by simp; omega), List.getElem?_append_left (by simp [hsz]; omega)]
        simp only [List.length_take, Array.length_toList]
        rw [show i - min o cs.size = i - o by omega, List.getElem?_map, List.getElem?_eq_getElem (by rw [List.length_take]; omega), List.getElem_take, getD_lt (by omega)]
        rfl
      · rw [if_neg hin]
        by_cases hlt : i < o
        · rw [List.append_assoc, List.getElem?_append_left (by simp; omega), List.getElem?_take, if_pos hlt]
          simpa using hgi
        · rw [List.getElem?_append_right (by simp; omega), List.getElem?_drop]
          simp only [List.length_append, List.length_take, Array.length_toList, hlen]
          rw [show o + c + (i - (min o cs.size + c)) = i by omega]
          simpa using hgi
end Go.Proofs.YtbeoigmaieiigaaDoor
