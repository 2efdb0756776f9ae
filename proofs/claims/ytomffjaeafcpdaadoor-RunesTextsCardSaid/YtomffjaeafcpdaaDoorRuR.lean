/- Same, SameInts; the string of bytes of the call's own. -/
import Derived.Test.YtomffjaeafcpdaaDoorRuN
import Derived.Deep.QuietTactic
import Derived.BigQuiet
namespace Go.Proofs.YtomffjaeafcpdaaDoor
open Go.RowKit

/-- A slice of numbers that can be read. -/
def RdI (B : Nat) (w : World) (v : Value) (zs : List Int) : Prop :=
  ∃ a cap, v = .slice a zs.length cap ∧ zs.length ≤ cap ∧ (zs ≠ [] → ∃ b off, a = some ⟨b, off, none⟩ ∧ b < B ∧ ∀ j (h : j < zs.length), w.cell? ⟨b, off + j, none⟩ = some (.int .i64 zs[j]))
theorem RdI.below {B : Nat} {w w' : World} {v : Value} {zs : List Int} (h : RdI B w v zs) (hb : Below B w w') : RdI B w' v zs := by
  obtain ⟨a, cap, hv, hc, h⟩ := h
  refine ⟨a, cap, hv, hc, fun hn => ?_⟩
  obtain ⟨b, off, ha, hlt, hcell⟩ := h hn
  exact ⟨b, off, ha, hlt, fun j hj => (hb.cell (p := ⟨b, off + j, none⟩) hlt).trans (hcell j hj)⟩
theorem RdI.next {w w' : World} {v : Value} {zs : List Int} (h : RdI w.heap.size w v zs) (hb : Below w.heap.size w w') : RdI w'.heap.size w' v zs := by
  obtain ⟨a, cap, hv, hc, h⟩ := h.below hb
  refine ⟨a, cap, hv, hc, fun hn => ?_⟩
  obtain ⟨b, off, ha, hlt, hcell⟩ := h hn
  exact ⟨b, off, ha, Nat.lt_of_lt_of_le hlt hb.size, hcell⟩
theorem Ins.rd {t : TypeId} {w : World} {base : Nat} {v : Value} {l : List Int} (h : Ins t w base v l) : RdI w.heap.size w v l := by
  rcases h.2 with ⟨rfl, h0⟩ | ⟨g, cap, cur, rfl, hg, hh, r1, r2, r3, r4⟩
  · have : l = [] := List.length_eq_zero_iff.1 h0
    subst this
    exact ⟨none, 0, rfl, Nat.le_refl _, fun h => absurd rfl h⟩
  · have hlt : g < w.heap.size := (Array.getElem?_eq_some_iff.1 hh).1
    refine ⟨_, cap, rfl, r1, fun _ => ⟨g, 0, rfl, hlt, fun j hj => ?_⟩⟩
    have := World.ownsRow.cellAt h j (by omega)
    rw [Nat.zero_add, this]
    simp [List.getElem?_eq_getElem hj]
theorem Bys.rd {w : World} {base : Nat} {v : Value} {l : List UInt8} (h : Bys w base v l) : RdB w.heap.size w v l := by
  rcases h.2 with ⟨rfl, h0⟩ | ⟨g, cap, cur, rfl, hg, hh, r1, r2, r3, r4⟩
  · have : l = [] := List.length_eq_zero_iff.1 h0
    subst this
    exact ⟨none, 0, rfl, Nat.le_refl _, by omega, fun h => absurd rfl h⟩
  · have hlt : g < w.heap.size := (Array.getElem?_eq_some_iff.1 hh).1
    refine ⟨_, cap, rfl, r1, by unfold maxLen at r2; omega, fun _ => ⟨g, 0, rfl, hlt, fun j hj => ?_⟩⟩
    have := World.ownsRow.cellAt h j (by omega)
    rw [Nat.zero_add, this]
    simp [List.getElem?_eq_getElem hj]

theorem conv_bys {W : World} {base : Nat} {v : Value} {l : List UInt8} (h : Bys W base v l) :
    (convert 22 9 v).run Tryd.prog W = .ok (.string ⟨l.toArray⟩) W := by
  obtain ⟨h1, h2⟩ := h
  rcases h2 with ⟨rfl, hl⟩ | ⟨g, cap, cur, rfl, hg, hh, hc, hm, hs, ht⟩
  · have : l = [] := List.eq_nil_of_length_eq_zero hl
    subst this
    exact run_convert_bytes_nil W 22 5 Tryd.underlying22 Tryd.underlying5 0 0 9 Tryd.underlying9
  · exact run_convert_bytes_back W 22 9 5 ⟨g, 0, none⟩ cap l Tryd.underlying22 Tryd.underlying5 Tryd.underlying9 (fun j hj => by
      have e : (⟨g, 0, none⟩ : Addr).add j = ⟨g, j, none⟩ := by simp [Addr.add]; intro h; exact h.symm
      rw [e, cell_of_block hh j]
      have : (cur.toList.take (l.length * 1))[j]? = some (.int .u8 (l[j].toNat : Int)) := by rw [ht]; simp [hj]
      rw [List.getElem?_take, if_pos (by omega)] at this
      simpa using this)
/-- .. of bytes that can be read. -/
theorem conv_rd {W : World} {B : Nat} {v : Value} {l : List UInt8} (h : RdB B W v l) :
    (convert 22 9 v).run Tryd.prog W = .ok (.string ⟨l.toArray⟩) W := by
  obtain ⟨a, cap, rfl, h1, h2, h3⟩ := h
  by_cases hl : l = []
  · subst hl
    cases a with
    | none => exact run_convert_bytes_nil W 22 5 Tryd.underlying22 Tryd.underlying5 _ cap 9 Tryd.underlying9
    | some a => exact run_convert_bytes_back W 22 9 5 a cap [] Tryd.underlying22 Tryd.underlying5 Tryd.underlying9 (fun j hj => by simp at hj)
  · obtain ⟨b, off, rfl, hb, hc⟩ := h3 hl
    exact run_convert_bytes_back W 22 9 5 ⟨b, off, none⟩ cap l Tryd.underlying22 Tryd.underlying5 Tryd.underlying9 (fun j hj => by
      have e : (⟨b, off, none⟩ : Addr).add j = ⟨b, off + j, none⟩ := by simp [Addr.add]
      rw [e]; exact hc j hj)

set_option maxHeartbeats 4000000 in
theorem same_any (v u : Value) (l m : List Int) (w : World) (hv : RdI w.heap.size w v l) (hu : RdI w.heap.size w u m) (hln : l.length ≤ 1000000) :
    Calls Tryd.prog 21 #[v, u] w fun e w' => e = .returned (.bool (decide (l = m))) ∧ Below w.heap.size w w' := by
  obtain ⟨a, cap, rfl, hcap, hcell⟩ := hv
  obtain ⟨a2, cap2, rfl, hcap2, hcell2⟩ := hu
  by_cases hlen : l.length = m.length
  · have hb : ((l.length : Int) != (m.length : Int)) = false := by simp [hlen]
    go_enter Tryd.func21, Tryd.ntmps21
    have Hlen := Lib.hid hlen; clear hlen
    go_wp2
    go_loopw [5] (fun i wr => ∃ k : Nat, k ≤ l.length ∧ i = .int .i64 k ∧ Below w.heap.size w wr ∧ Hid (l.take k = m.take k)) (fun i _ => l.length - (intOf i).toNat)
    case atStart => exact ⟨0, by omega, rfl, Below.refl _ _, rfl⟩
    case round =>
      obtain ⟨k, hk, rfl, hbl, hq⟩ := hrel
      have hsz := hbl.size
      by_cases hlt : k < l.length
      · have hlt2 : k < m.length := by have := Hlen.out; omega
        obtain ⟨b, off, rfl, hbb, hc⟩ := hcell (by intro e; rw [e] at hlt; simp at hlt)
        obtain ⟨b2, off2, rfl, hbb2, hc2⟩ := hcell2 (by intro e; rw [e] at hlt2; simp at hlt2)
        have x1 := hc k hlt
        have y1 := hc2 k hlt2
        have hd1 : wr.cell? ⟨b, off + k, none⟩ = some (.int .i64 l[k]) := (hbl.cell (p := ⟨b, off + k, none⟩) hbb).trans x1
        have he1 : wr.cell? ⟨b2, off2 + k, none⟩ = some (.int .i64 m[k]) := (hbl.cell (p := ⟨b2, off2 + k, none⟩) hbb2).trans y1
        have hi1 : (k : Int) < (l.length : Int) := by omega
        have hi2 : (k : Int) < (m.length : Int) := by omega
        clear hcell hcell2 hc hc2 x1 y1
        go_wp2_with fail
        go_quiet (fail)
        go_wp2
        · have h : (l[k] != m[k]) = true := by assumption
          have hne : l ≠ m := by
            intro e; subst e; simp at h
          go_ret
          exact ⟨ret_bool (decide_eq_false hne).symm, below_drewN hbl _⟩
        · have h : (l[k] != m[k]) = false := by assumption
          have he : l[k] = m[k] := by simpa using h
          go_roundw
          case rel => exact ⟨k + 1, by omega, by go_num, below_drewN hbl _, by unfold Hid; rw [List.take_succ_eq_append_getElem hlt, List.take_succ_eq_append_getElem hlt2, hq.out, he]⟩
          case measure => simp [intOf]; try omega
      · have HL : Hid (l = m) := by
          unfold Hid; have := hq.out
          rw [List.take_of_length_le (by omega), List.take_of_length_le (by have := Hlen.out; omega)] at this; exact this
        clear hq hcell hcell2
        go_wp2
        go_ret
        exact ⟨ret_bool (decide_eq_true HL.out).symm, hbl⟩
  · have hb : ((l.length : Int) != (m.length : Int)) = true := by rw [bne_iff_ne]; omega
    have HE : Hid (decide (l = m) = false) := by unfold Hid; rw [decide_eq_false (fun e => hlen (by rw [e]))]
    clear hcell hcell2 hlen
    go_enter Tryd.func21, Tryd.ntmps21
    go_wp2
    go_ret
    exact ⟨ret_bool HE.out.symm, Below.refl _ _⟩

set_option maxHeartbeats 4000000 in
theorem sameInts_any (v u : Value) (l m : List Int) (w : World) (hv : RdI w.heap.size w v l) (hu : RdI w.heap.size w u m) (hln : l.length ≤ 1000000) :
    Calls Tryd.prog 28 #[v, u] w fun e w' => e = .returned (.bool (decide (l = m))) ∧ Below w.heap.size w w' := by
  obtain ⟨a, cap, rfl, hcap, hcell⟩ := hv
  obtain ⟨a2, cap2, rfl, hcap2, hcell2⟩ := hu
  by_cases hlen : l.length = m.length
  · have hb : ((l.length : Int) != (m.length : Int)) = false := by simp [hlen]
    go_enter Tryd.func28, Tryd.ntmps28
    have Hlen := Lib.hid hlen; clear hlen
    go_wp2
    go_loopw [5] (fun i wr => ∃ k : Nat, k ≤ l.length ∧ i = .int .i64 k ∧ Below w.heap.size w wr ∧ Hid (l.take k = m.take k)) (fun i _ => l.length - (intOf i).toNat)
    case atStart => exact ⟨0, by omega, rfl, Below.refl _ _, rfl⟩
    case round =>
      obtain ⟨k, hk, rfl, hbl, hq⟩ := hrel
      have hsz := hbl.size
      by_cases hlt : k < l.length
      · have hlt2 : k < m.length := by have := Hlen.out; omega
        obtain ⟨b, off, rfl, hbb, hc⟩ := hcell (by intro e; rw [e] at hlt; simp at hlt)
        obtain ⟨b2, off2, rfl, hbb2, hc2⟩ := hcell2 (by intro e; rw [e] at hlt2; simp at hlt2)
        have x1 := hc k hlt
        have y1 := hc2 k hlt2
        have hd1 : wr.cell? ⟨b, off + k, none⟩ = some (.int .i64 l[k]) := (hbl.cell (p := ⟨b, off + k, none⟩) hbb).trans x1
        have he1 : wr.cell? ⟨b2, off2 + k, none⟩ = some (.int .i64 m[k]) := (hbl.cell (p := ⟨b2, off2 + k, none⟩) hbb2).trans y1
        have hi1 : (k : Int) < (l.length : Int) := by omega
        have hi2 : (k : Int) < (m.length : Int) := by omega
        clear hcell hcell2 hc hc2 x1 y1
        go_wp2_with fail
        go_quiet (fail)
        go_wp2
        · have h : (l[k] != m[k]) = true := by assumption
          have hne : l ≠ m := by
            intro e; subst e; simp at h
          go_ret
          exact ⟨ret_bool (decide_eq_false hne).symm, below_drewN hbl _⟩
        · have h : (l[k] != m[k]) = false := by assumption
          have he : l[k] = m[k] := by simpa using h
          go_roundw
          case rel => exact ⟨k + 1, by omega, by go_num, below_drewN hbl _, by unfold Hid; rw [List.take_succ_eq_append_getElem hlt, List.take_succ_eq_append_getElem hlt2, hq.out, he]⟩
          case measure => simp [intOf]; try omega
      · have HL : Hid (l = m) := by
          unfold Hid; have := hq.out
          rw [List.take_of_length_le (by omega), List.take_of_length_le (by have := Hlen.out; omega)] at this; exact this
        clear hq hcell hcell2
        go_wp2
        go_ret
        exact ⟨ret_bool (decide_eq_true HL.out).symm, hbl⟩
  · have hb : ((l.length : Int) != (m.length : Int)) = true := by rw [bne_iff_ne]; omega
    have HE : Hid (decide (l = m) = false) := by unfold Hid; rw [decide_eq_false (fun e => hlen (by rw [e]))]
    clear hcell hcell2 hlen
    go_enter Tryd.func28, Tryd.ntmps28
    go_wp2
    go_ret
    exact ⟨ret_bool HE.out.symm, Below.refl _ _⟩
end Go.Proofs.YtomffjaeafcpdaaDoor
