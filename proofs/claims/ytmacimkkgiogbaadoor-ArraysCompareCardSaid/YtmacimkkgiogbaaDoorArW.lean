/- slices.Equal; Same of the code. -/
import Derived.Test.YtmacimkkgiogbaaDoorArG
namespace Go.Proofs.YtmacimkkgiogbaaDoor
open Go.RowKit

set_option maxRecDepth 100000 in
set_option maxHeartbeats 4000000 in
theorem equal_any (v u : Value) (l m : List Int) (w : World) (hv : RdI w.heap.size w v l) (hu : RdI w.heap.size w u m) (hln : l.length ≤ 1000000) :
    Calls Tryd.prog 65 #[v, u] w fun e w' => e = .returned (.bool (decide (l = m))) ∧ Below w.heap.size w w' := by
  have HV := Lib.hid hv
  have HU := Lib.hid hu
  obtain ⟨a, cap, rfl, hcap, _, hcell⟩ := hv
  obtain ⟨a2, cap2, rfl, hcap2, _, hcell2⟩ := hu
  clear hcell hcell2
  by_cases hlen : l.length = m.length
  · have hb : ((l.length : Int) != (m.length : Int)) = false := by simp [hlen]
    have Hlen := Lib.hid hlen; clear hlen
    go_enter Tryd.func65, Tryd.ntmps65
    go_wp2
    go_loopw [13] (fun i wr => ∃ k : Nat, k ≤ l.length ∧ i = .int .i64 k ∧ Below w.heap.size w wr ∧ Hid (l.take k = m.take k)) (fun i _ => l.length - (intOf i).toNat)
    case atStart => exact ⟨0, by omega, rfl, Below.refl _ _, rfl⟩
    case round =>
      obtain ⟨k, hk, rfl, hbl, hq⟩ := hrel
      by_cases hlt : k < l.length
      · have hlt2 : k < m.length := by have := Hlen.out; omega
        obtain ⟨b, off, rfl, hbb, hc⟩ := (HV.out.below hbl).cells (by intro e; rw [e] at hlt; simp at hlt)
        obtain ⟨b2, off2, rfl, hbb2, hc2⟩ := (HU.out.below hbl).cells (by intro e; rw [e] at hlt2; simp at hlt2)
        have hd1 : wr.cell? ⟨b, off + k, none⟩ = some (.int .i64 l[k]) := hc k hlt
        have he1 : wr.cell? ⟨b2, off2 + k, none⟩ = some (.int .i64 m[k]) := hc2 k hlt2
        have hi1 : (k : Int) < (l.length : Int) := by omega
        have hi2 : (k : Int) < (m.length : Int) := by omega
        clear hc hc2
        go_wp2_with fail
        go_quiet (fail)
        go_wp2
        · have h : (l[k] != m[k]) = true := by assumption
          have hne : l ≠ m := by
            intro e; subst e; simp at h
          go_ret
          exact ⟨ret_bool (decide_eq_false hne).symm, below_drewN hbl _⟩
        · have h : (l[k] != m[k]) = false := by assumption
          have he : l[k] = m[k] := by simpa using h
          go_roundw
          case rel => exact ⟨k + 1, by omega, by go_num, below_drewN hbl _, by unfold Hid; rw [List.take_succ_eq_append_getElem hlt, List.take_succ_eq_append_getElem hlt2, hq.out, he]⟩
          case measure => simp [intOf]; try omega
      · have HL : Hid (l = m) := by
          unfold Hid; have := hq.out
          rw [List.take_of_length_le (by omega), List.take_of_length_le (by have := Hlen.out; omega)] at this; exact this
        have hi1 : ¬ (k : Int) < (l.length : Int) := by omega
        clear hq
        go_wp2
        go_ret
        exact ⟨ret_bool (decide_eq_true HL.out).symm, hbl⟩
  · have hb : ((l.length : Int) != (m.length : Int)) = true := by rw [bne_iff_ne]; omega
    have HE : Hid (decide (l = m) = false) := by unfold Hid; rw [decide_eq_false (fun e => hlen (by rw [e]))]
    clear hlen
    go_enter Tryd.func65, Tryd.ntmps65
    go_wp2
    go_ret
    exact ⟨ret_bool HE.out.symm, Below.refl _ _⟩

set_option maxRecDepth 100000 in
set_option maxHeartbeats 4000000 in
theorem asame_any (A B : Ar) (v u : Value) (w : World) (hv : RdI w.heap.size w v A.z) (hu : RdI w.heap.size w u B.z) (hl : A.z.length ≤ 1000000) :
    Calls Tryd.prog 38 #[A5 A.k A.r A.a A.b v, A5 B.k B.r B.a B.b u] w fun e w' => e = .returned (.bool (smB A B)) ∧ Below w.heap.size w w' := by
  have HK := Lib.hid (KD.new (A := A) (B := B) hv hu)
  have HL := Lib.hid (fun W h1 h2 => alike_any A B v u W h1 h2)
  have HEq := Lib.hid (fun W h1 h2 => equal_any v u A.z B.z W h1 h2 hl)
  have HE : Hid (smB A B = (likeB A B && decide (A.z = B.z))) := rfl
  rw [HE.out]
  generalize likeB A B = t at HL ⊢
  generalize decide (A.z = B.z) = d at HEq ⊢
  clear HE
  obtain ⟨p, cap, rfl, hcap, hcap2, hcell⟩ := hv
  obtain ⟨q, cap', rfl, hcap', hcap2', hcell'⟩ := hu
  clear hcell hcell'
  have x0 := HK.out.b0.c0; have x1 := HK.out.b0.c1; have x2 := HK.out.b0.c2; have x3 := HK.out.b0.c3; have x4 := HK.out.b0.c4
  have y0 := HK.out.b1.c0; have y1 := HK.out.b1.c1; have y2 := HK.out.b1.c2; have y3 := HK.out.b1.c3; have y4 := HK.out.b1.c4
  cases t
  · rw [Bool.false_and]
    go_enter Tryd.func38, Tryd.ntmps38
    go_wp2_with (go_at_call 39; (with_reducible refine (HL.out _ (by with_unfolding_all exact HK.out.rd0) (by with_unfolding_all exact HK.out.rd1)).mono ?_); rintro e w' ⟨rfl, hb⟩; have HK2 := Lib.hid (HK.out.next hb); clear HK hb x0 x1 x2 x3 x4 y0 y1 y2 y3 y4; have HK := HK2; clear HK2; have x4 := HK.out.b0.c4; have y4 := HK.out.b1.c4)
    go_ret
    exact ⟨rfl, HK.out.bel⟩
  · rw [Bool.true_and]
    go_enter Tryd.func38, Tryd.ntmps38
    go_wp2_with (first
      | (go_at_call 39; (with_reducible refine (HL.out _ (by with_unfolding_all exact HK.out.rd0) (by with_unfolding_all exact HK.out.rd1)).mono ?_); rintro e w' ⟨rfl, hb⟩; have HK2 := Lib.hid (HK.out.next hb); clear HK hb x0 x1 x2 x3 x4 y0 y1 y2 y3 y4; have HK := HK2; clear HK2; have x4 := HK.out.b0.c4; have y4 := HK.out.b1.c4)
      | (go_at_call 65; (with_reducible refine (HEq.out _ (by with_unfolding_all exact HK.out.rd0) (by with_unfolding_all exact HK.out.rd1)).mono ?_); rintro e w' ⟨rfl, hb⟩; have HK2 := Lib.hid (HK.out.next hb); clear HK hb x4 y4; have HK := HK2; clear HK2))
    go_ret
    exact ⟨rfl, HK.out.bel⟩
end Go.Proofs.YtmacimkkgiogbaaDoor
