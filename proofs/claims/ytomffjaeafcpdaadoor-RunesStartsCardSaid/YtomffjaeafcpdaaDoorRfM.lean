/- The reference's Back and On. -/
import Derived.Test.YtomffjaeafcpdaaDoorRfL
namespace Go.Proofs.YtomffjaeafcpdaaDoor
open Go.RowKit

set_option maxRecDepth 100000
set_option maxHeartbeats 1000000 in
theorem rback_bad (v : Value) (s : List UInt8) (k : Int) (w : World) (hv : RdB w.heap.size w v s) (hno : chkE s ≠ 0) :
    Calls Tryd.prog 27 #[v, .int .i64 k] w fun e w' => e = .returned (.tuple #[.int .i64 ((bakV s k : Nat) : Int), .int .i64 ((bakE s k : Nat) : Int)]) ∧ Below w.heap.size w w' := by
  have HS := Lib.hid (rstarts_any v s w hv)
  have hE : bakE s k = chkE s := by unfold bakE; rw [if_neg hno]
  have hV : bakV s k = 0 := by unfold bakV; rw [hE, if_neg hno]
  rw [hE, hV]
  obtain ⟨a, cap, rfl, _, _, _⟩ := hv
  have e0 : (((chkE s : Nat) : Int) == 0) = false := by rw [beq_eq_false_iff_ne]; omega
  have e1 : (((chkE s : Nat) : Int) != 0) = true := by rw [bne_iff_ne]; omega
  generalize chkE s = ce at e0 e1 HS ⊢
  clear hno hE hV
  go_enter Tryd.func27, Tryd.ntmps27
  go_wp2_with (go_at_call 23; refine HS.out.mono ?_; rintro e w0 ⟨u, rfl, hu, hb0⟩; have HB0 := Lib.hid hb0; clear hb0)
  go_ret2
  exact ⟨rfl, HB0.out⟩
set_option maxHeartbeats 1000000 in
theorem rback_out (v : Value) (s : List UInt8) (k : Int) (w : World) (hv : RdB w.heap.size w v s) (hok : chkE s = 0) (hk : k < 0 ∨ (s.length : Int) < k) :
    Calls Tryd.prog 27 #[v, .int .i64 k] w fun e w' => e = .returned (.tuple #[.int .i64 ((bakV s k : Nat) : Int), .int .i64 ((bakE s k : Nat) : Int)]) ∧ Below w.heap.size w w' := by
  have HS := Lib.hid (rstarts_any v s w hv)
  have hE : bakE s k = 7 := by unfold bakE; rw [if_pos hok, if_pos hk]
  have hV : bakV s k = 0 := by unfold bakV; rw [hE, if_neg (by decide)]
  rw [hE, hV]
  rw [hok] at HS
  obtain ⟨a, cap, rfl, _, _, _⟩ := hv
  clear hok hE hV
  by_cases c : k < 0
  · have d0 : decide (k < 0) = true := decide_eq_true c
    clear hk c
    go_enter Tryd.func27, Tryd.ntmps27
    go_wp2_with (go_at_call 23; refine HS.out.mono ?_; rintro e w0 ⟨u, rfl, hu, hb0⟩; have HB0 := Lib.hid hb0; clear hb0)
    go_ret2
    exact ⟨rfl, HB0.out⟩
  · have d0 : decide (k < 0) = false := decide_eq_false c
    have d1 : decide ((s.length : Int) < k) = true := decide_eq_true (by omega)
    clear hk c
    go_enter Tryd.func27, Tryd.ntmps27
    go_wp2_with (go_at_call 23; refine HS.out.mono ?_; rintro e w0 ⟨u, rfl, hu, hb0⟩; have HB0 := Lib.hid hb0; clear hb0)
    go_ret2
    exact ⟨rfl, HB0.out⟩

theorem rdi_one {B : Nat} {w : World} {v : Value} {l : List Nat} (h : RdI B w v (l.map fun (z : Nat) => (z : Int))) (hne : 0 < l.length) : ∃ (ub : Addr) (uc : Nat), v = .slice (some ub) l.length uc ∧ Hid (∀ j (h : j < l.length), w.cell? (ub.add j) = some (.int .i64 ((l[j] : Nat) : Int))) := by
  obtain ⟨a, cap, rfl, _, hcell⟩ := h
  obtain ⟨ub, uo, rfl, _, hce⟩ := hcell (by intro e; have := congrArg List.length e; simp at this; rw [this] at hne; simp at hne)
  refine ⟨_, cap, by rw [List.length_map], fun j hj => ?_⟩
  rw [add_off, hce j (by simpa using hj)]
  simp
theorem take_at {l : List Nat} {j : Nat} (hj : j < l.length) : l.take (j + 1) = l.take j ++ [l[j]] := by rw [List.take_succ_eq_append_getElem hj]

set_option maxHeartbeats 4000000 in
theorem rback_ok (v : Value) (s : List UInt8) (n : Nat) (w : World) (hv : RdB w.heap.size w v s) (hok : chkE s = 0) (hn : n ≤ s.length) :
    Calls Tryd.prog 27 #[v, .int .i64 (n : Int)] w fun e w' => e = .returned (.tuple #[.int .i64 ((backV s n : Nat) : Int), .int .i64 0]) ∧ Below w.heap.size w w' := by
  have HS := Lib.hid (rstarts_any v s w hv)
  rw [hok] at HS
  have HSt : Hid (staV s = (sts s).map fun (z : Nat) => (z : Int)) := by unfold Hid staV; rw [if_pos hok]
  have HQ := Lib.hid (bkG_sts s n)
  obtain ⟨a, cap, rfl, _, _, _⟩ := hv
  have d0 : decide ((n : Int) < 0) = false := decide_eq_false (by omega)
  have d1 : decide (s.length < n) = false := decide_eq_false (by omega)
  have hlen : (sts s).length ≤ s.length + 1 := by have := rns_len s; unfold sts; simp; omega
  have hs8 := ((chkE_ok s).1 hok).1
  obtain ⟨l, hl⟩ : ∃ l, l = sts s := ⟨_, rfl⟩
  have HP : Hid (l.length ≤ 8001) := by unfold Hid; rw [hl]; omega
  have hne : 0 < l.length := by rw [hl]; unfold sts; simp
  rw [← hl] at HSt HQ
  rw [HSt.out] at HS
  clear hok hn hlen hl hs8 HSt
  go_enter Tryd.func27, Tryd.ntmps27
  go_wp2_with (go_at_call 23; refine HS.out.mono ?_; rintro e w0 ⟨u, rfl, hu, hb0⟩; have HB0 := Lib.hid hb0; obtain ⟨ub, uc, rfl, HC⟩ := rdi_one hu.rd (by simpa using hne); clear hb0 hu)
  go_loopg [8, 9] l.length (fun g o i wr => ∃ j : Nat, j + g = l.length ∧ i = .int .i64 (j : Int) ∧ o = .int .i64 ((bkG n 0 (l.take j) : Nat) : Int) ∧ w0 = wr)
  case atStart => exact ⟨0, by omega, rfl, rfl, rfl⟩
  case round =>
    obtain ⟨j, hj, rfl, rfl, rfl⟩ := hrel
    cases gk with
    | zero =>
      obtain rfl : j = l.length := by omega
      have hjl : ¬ ((l.length : Int) < (l.length : Int)) := by omega
      rw [List.take_length] 
      have HQ2 := HQ
      go_wp2_with fail
      go_ret2
      rw [HQ.out]
      exact ⟨rfl, HB0.out⟩
    | succ g =>
      have hjl : j < l.length := by omega
      have hji : (j : Int) < (l.length : Int) := by omega
      have hp8 := HP.out
      have hc : w0.cell? (ub.add j) = some (.int .i64 ((l[j] : Nat) : Int)) := HC.out j hjl
      have HT := Lib.hid (take_at hjl)
      have HK := Lib.hid (bkG_snoc n (l.take j) 0 l[j])
      obtain ⟨x, hx⟩ : ∃ x, x = l[j] := ⟨_, rfl⟩
      rw [← hx] at hc HT HK
      clear hx
      by_cases q : x ≤ n
      · rw [if_pos q] at HK
        go_wp2_with fail
        go_roundg g
        case measure => omega
        case rel => exact ⟨j + 1, by omega, by go_num, by rw [HT.out, HK.out], rfl⟩
      · rw [if_neg q] at HK
        go_wp2_with fail
        go_roundg g
        case measure => omega
        case rel => exact ⟨j + 1, by omega, by go_num, by rw [HT.out, HK.out], rfl⟩

theorem rback_any (v : Value) (s : List UInt8) (k : Int) (w : World) (hv : RdB w.heap.size w v s) :
    Calls Tryd.prog 27 #[v, .int .i64 k] w fun e w' => e = .returned (.tuple #[.int .i64 ((bakV s k : Nat) : Int), .int .i64 ((bakE s k : Nat) : Int)]) ∧ Below w.heap.size w w' := by
  by_cases hok : chkE s = 0
  · by_cases hk : k < 0 ∨ (s.length : Int) < k
    · exact rback_out v s k w hv hok hk
    · obtain ⟨n, rfl⟩ : ∃ n : Nat, k = n := ⟨k.toNat, by omega⟩
      have hE : bakE s (n : Int) = 0 := by unfold bakE; rw [if_pos hok, if_neg hk]
      have hV : bakV s (n : Int) = backV s n := by unfold bakV; rw [if_pos hE, Int.toNat_natCast]
      rw [hE, hV]
      exact rback_ok v s n w hv hok (by omega)
  · exact rback_bad v s k w hv hok
set_option maxHeartbeats 1000000 in
theorem ron_any (v : Value) (s : List UInt8) (k : Int) (w : World) (hv : RdB w.heap.size w v s) :
    Calls Tryd.prog 25 #[v, .int .i64 k] w fun e w' => e = .returned (.tuple #[.bool (onV s k), .int .i64 ((bakE s k : Nat) : Int)]) ∧ Below w.heap.size w w' := by
  have HS := Lib.hid (rback_any v s k w hv)
  by_cases h : bakE s k = 0
  · have hV : onV s k = (((bakV s k : Nat) : Int) == k) := by
      unfold onV
      by_cases q : ((bakV s k : Nat) : Int) = k
      · rw [decide_eq_true ⟨h, q⟩, beq_iff_eq.2 q]
      · rw [decide_eq_false (fun c => q c.2), beq_eq_false_iff_ne.2 q]
    rw [h, hV]
    rw [h] at HS
    generalize bakV s k = bv at HS ⊢
    clear h hV
    go_enter Tryd.func25, Tryd.ntmps25
    go_wp2_with (go_at_call 27; refine HS.out.mono ?_; rintro e w0 ⟨rfl, hb0⟩; have HB0 := Lib.hid hb0; clear hb0)
    go_ret2
    exact ⟨rfl, HB0.out⟩
  · have hV : onV s k = false := by unfold onV; exact decide_eq_false (fun c => h c.1)
    rw [hV]
    have e0 : (((bakE s k : Nat) : Int) == 0) = false := by rw [beq_eq_false_iff_ne]; omega
    generalize bakV s k = bv at HS ⊢
    generalize bakE s k = be at HS e0 ⊢
    clear h hV
    go_enter Tryd.func25, Tryd.ntmps25
    go_wp2_with (go_at_call 27; refine HS.out.mono ?_; rintro e w0 ⟨rfl, hb0⟩; have HB0 := Lib.hid hb0; clear hb0)
    go_ret2
    exact ⟨rfl, HB0.out⟩
end Go.Proofs.YtomffjaeafcpdaaDoor
