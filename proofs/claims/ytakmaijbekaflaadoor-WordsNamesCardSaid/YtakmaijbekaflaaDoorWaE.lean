/- Int of the reference. -/
import Derived.Test.YtakmaijbekaflaaDoorPlB
import Derived.Test.YtakmaijbekaflaaDoorWaD
namespace Go.Proofs.YtakmaijbekaflaaDoor
open Go.RowKit

theorem fm_step (s : ByteArray) (k : Nat) (h : k < s.size) : fm 0 ((byt s).take (k + 1)) = if s[k] = 45 then fm 0 ((byt s).take k) else fm 0 ((byt s).take k) * 10 + (s[k].toNat - 48) := by
  rw [take_snoc s k h, fm_append]; rfl
theorem fm_all (s : ByteArray) (k : Nat) (h : s.size ≤ k) : fm 0 ((byt s).take k) = fm 0 (byt s) := by
  rw [List.take_of_length_le (by rw [byt_len]; exact h)]
theorem b45_t {c : UInt8} (h : c = 45) : ((c.toNat : Int) == 45) = true := by rw [h]; rfl
theorem b45_f {c : UInt8} (h : c ≠ 45) : ((c.toNat : Int) == 45) = false := by
  rw [beq_eq_false_iff_ne]; intro e; apply h; rw [← UInt8.toNat_inj]; simp; omega
theorem step_wrap (m c : Nat) (h : 48 ≤ c) (h2 : c ≤ 57) (hb : 10 * (m : Int) + ((c : Int) - 48) ≤ 9223372036854775808) : wrap64 (wrap64 (10 * -(m : Int)) - ((c : Int) - 48)) = -((m * 10 + (c - 48) : Nat) : Int) := by
  rw [IntWalk.wrap64_in (10 * -(m : Int)) ⟨by omega, by omega⟩, IntWalk.wrap64_in _ ⟨by omega, by omega⟩]; omega

set_option maxHeartbeats 4000000 in
theorem rint_pos (s : ByteArray) (lo hi : Int) (w : World) (hs : s.size ≤ 9223372036854775807) (_hlo : -9223372036854775808 ≤ lo) (hhi : hi ≤ 9223372036854775807) (hd : decS (byt s) = true) (h0 : 0 < s.size) (hn : s[0] ≠ 45) :
    Calls Tryd.prog 12 #[.string s, .int .i64 lo, .int .i64 hi] w fun e w' => e = .returned (.tuple #[.int .i64 (intV (byt s) lo hi), .int .i64 (intE (byt s) lo hi)]) ∧ w = w' := by
  have hB : decB (byt s) = true := by rw [decB_eq]; exact hd
  have hv := valI_fm (byt s) hd
  rw [byt_cons s h0, if_neg (by simpa using hn), ← byt_cons s h0] at hv
  have Hv : Hid (valI (byt s) = (fm 0 (byt s) : Int)) := hv
  clear hv
  have hn0 := b45_f hn
  have Hin := Lib.hid (fun h1 h2 => int_in (lo := lo) (hi := hi) hd h1 h2)
  have Hout := Lib.hid (fun h => int_out (lo := lo) (hi := hi) hd h)
  have Hg := Lib.hid (dec_get (byt s) hd)
  have Hn0 := Lib.hid hn
  clear hd hn
  go_enter Tryd.func12, Tryd.ntmps12
  go_wp2_with (go_at_call 32; refine (decimal_any _ _ hs).mono ?_; rintro e w' ⟨rfl, rfl⟩)
  clear hn0 hB
  go_loop [9, 10] (fun n i => ∃ k : Nat, k ≤ s.size ∧ i = .int .i64 k ∧ ∃ m : Nat, n = .int .i64 (-(m : Int)) ∧ m ≤ 9223372036854775808 ∧ Hid (m = fm 0 ((byt s).take k))) (fun _ i => s.size - (intOf i).toNat)
  case atStart => exact ⟨0, Nat.zero_le _, rfl, 0, rfl, by omega, rfl⟩
  case round =>
    obtain ⟨k, hk, rfl, m, rfl, hm, hmf⟩ := hrel
    by_cases hlt : k < s.size
    · have Hs := Lib.hid (fm_step s k hlt)
      have Ht := Lib.hid (fm_take (byt s) (k + 1))
      rcases Hg.out k (by rw [byt_len]; exact hlt) with ⟨hc, hk0⟩ | ⟨hc, hc1, hc2⟩
      · exfalso
        rw [byt_get s k hlt] at hc
        subst hk0
        exact Hn0.out hc
      · rw [byt_get s k hlt] at hc hc1 hc2
        have hb := b45_f hc
        have Hc := Lib.hid hc; clear hc
        have hl1 : (48 : Int) ≤ (s[k].toNat : Int) := by omega
        have hl2 : (s[k].toNat : Int) ≤ 57 := by omega
        have Htd := Lib.hid (tdiv10 ((s[k].toNat : Int) - 48) (by omega) (by omega) m)
        have Hst := Lib.hid (step_wrap m s[k].toNat hc1 hc2)
        clear hc1 hc2
        go_wp2
        · have hov := Htd.out.1 (by assumption)
          have ht := Ht.out
          rw [Hs.out, if_neg Hc.out, ← hmf.out] at ht
          go_ret2
          refine ⟨ret_pair (Hout.out ?_), rfl⟩
          rw [Hv.out]; omega
        · have hov : ¬ (9223372036854775808 < 10 * (m : Int) + ((s[k].toNat : Int) - 48)) := fun h => absurd (Htd.out.2 h) (by omega)
          go_round
          case rel =>
            refine ⟨k + 1, by omega, by go_num, m * 10 + (s[k].toNat - 48), by rw [Hst.out (by omega)], by omega, ?_⟩
            unfold Hid; rw [Hs.out, if_neg Hc.out, hmf.out]
          case measure => simp [intOf]; try omega
    · have Hm : Hid (m = fm 0 (byt s)) := by unfold Hid; rw [hmf.out]; exact fm_all s k (by omega)
      clear hmf
      by_cases hm2 : m = 9223372036854775808
      · have hb : ((-(m : Int)) == -9223372036854775808) = true := by rw [beq_iff_eq]; omega
        have Hm2 := Lib.hid hm2; clear hm2
        go_wp2
        all_goals go_ret2
        all_goals
          first
            | exact ⟨ret_pair (Hout.out (by rw [Hv.out, ← Hm.out]; have := Hm2.out; omega)), rfl⟩
            | (have h := Hin.out (by rw [Hv.out, ← Hm.out]; omega) (by rw [Hv.out, ← Hm.out]; omega)
               rw [Hv.out, ← Hm.out] at h
               exact ⟨ret_pair h, rfl⟩)
      · have hb : ((-(m : Int)) == -9223372036854775808) = false := by rw [beq_eq_false_iff_ne]; omega
        have hm3 : (m : Int) ≤ 9223372036854775807 := by omega
        clear hm2
        go_wp2
        all_goals go_ret2
        all_goals
          first
            | exact ⟨ret_pair (Hout.out (by rw [Hv.out, ← Hm.out]; omega)), rfl⟩
            | (have h := Hin.out (by rw [Hv.out, ← Hm.out]; omega) (by rw [Hv.out, ← Hm.out]; omega)
               rw [Hv.out, ← Hm.out] at h
               exact ⟨ret_pair h, rfl⟩)

set_option maxHeartbeats 4000000 in
theorem rint_neg (s : ByteArray) (lo hi : Int) (w : World) (hs : s.size ≤ 9223372036854775807) (hlo : -9223372036854775808 ≤ lo) (_hhi : hi ≤ 9223372036854775807) (hd : decS (byt s) = true) (h0 : 0 < s.size) (hn : s[0] = 45) :
    Calls Tryd.prog 12 #[.string s, .int .i64 lo, .int .i64 hi] w fun e w' => e = .returned (.tuple #[.int .i64 (intV (byt s) lo hi), .int .i64 (intE (byt s) lo hi)]) ∧ w = w' := by
  have hB : decB (byt s) = true := by rw [decB_eq]; exact hd
  have hv := valI_fm (byt s) hd
  rw [byt_cons s h0, hn, if_pos (show (45 :: (byt s).tail).head? = some (45 : UInt8) from rfl), ← hn, ← byt_cons s h0] at hv
  have Hv : Hid (valI (byt s) = -(fm 0 (byt s) : Int)) := hv
  clear hv
  have hn0 := b45_t hn
  have Hin := Lib.hid (fun h1 h2 => int_in (lo := lo) (hi := hi) hd h1 h2)
  have Hout := Lib.hid (fun h => int_out (lo := lo) (hi := hi) hd h)
  have Hg := Lib.hid (dec_get (byt s) hd)
  have Hn0 := Lib.hid hn
  clear hd hn
  go_enter Tryd.func12, Tryd.ntmps12
  go_wp2_with (go_at_call 32; refine (decimal_any _ _ hs).mono ?_; rintro e w' ⟨rfl, rfl⟩)
  clear hn0 hB
  go_loop [9, 10] (fun n i => ∃ k : Nat, k ≤ s.size ∧ i = .int .i64 k ∧ ∃ m : Nat, n = .int .i64 (-(m : Int)) ∧ m ≤ 9223372036854775808 ∧ Hid (m = fm 0 ((byt s).take k))) (fun _ i => s.size - (intOf i).toNat)
  case atStart => exact ⟨0, Nat.zero_le _, rfl, 0, rfl, by omega, rfl⟩
  case round =>
    obtain ⟨k, hk, rfl, m, rfl, hm, hmf⟩ := hrel
    by_cases hlt : k < s.size
    · have Hs := Lib.hid (fm_step s k hlt)
      have Ht := Lib.hid (fm_take (byt s) (k + 1))
      rcases Hg.out k (by rw [byt_len]; exact hlt) with ⟨hc, hk0⟩ | ⟨hc, hc1, hc2⟩
      · rw [byt_get s k hlt] at hc
        have hb := b45_t hc
        have Hc := Lib.hid hc; clear hc
        clear hk0
        go_wp2
        go_round
        case rel => exact ⟨k + 1, by omega, by go_num, m, rfl, hm, by unfold Hid; rw [Hs.out, if_pos Hc.out]; exact hmf⟩
        case measure => simp [intOf]; try omega
      · rw [byt_get s k hlt] at hc hc1 hc2
        have hb := b45_f hc
        have Hc := Lib.hid hc; clear hc
        have hl1 : (48 : Int) ≤ (s[k].toNat : Int) := by omega
        have hl2 : (s[k].toNat : Int) ≤ 57 := by omega
        have Htd := Lib.hid (tdiv10 ((s[k].toNat : Int) - 48) (by omega) (by omega) m)
        have Hst := Lib.hid (step_wrap m s[k].toNat hc1 hc2)
        clear hc1 hc2
        go_wp2
        · have hov := Htd.out.1 (by assumption)
          have ht := Ht.out
          rw [Hs.out, if_neg Hc.out, ← hmf.out] at ht
          go_ret2
          refine ⟨ret_pair (Hout.out ?_), rfl⟩
          rw [Hv.out]; omega
        · have hov : ¬ (9223372036854775808 < 10 * (m : Int) + ((s[k].toNat : Int) - 48)) := fun h => absurd (Htd.out.2 h) (by omega)
          go_round
          case rel =>
            refine ⟨k + 1, by omega, by go_num, m * 10 + (s[k].toNat - 48), by rw [Hst.out (by omega)], by omega, ?_⟩
            unfold Hid; rw [Hs.out, if_neg Hc.out, hmf.out]
          case measure => simp [intOf]; try omega
    · have Hm : Hid (m = fm 0 (byt s)) := by unfold Hid; rw [hmf.out]; exact fm_all s k (by omega)
      clear hmf
      by_cases hm2 : m = 9223372036854775808
      · have hb : ((-(m : Int)) == -9223372036854775808) = true := by rw [beq_iff_eq]; omega
        have Hm2 := Lib.hid hm2; clear hm2
        go_wp2
        all_goals go_ret2
        all_goals
          first
            | exact ⟨ret_pair (Hout.out (by rw [Hv.out, ← Hm.out]; have := Hm2.out; omega)), rfl⟩
            | (have h := Hin.out (by rw [Hv.out, ← Hm.out]; omega) (by rw [Hv.out, ← Hm.out]; omega)
               rw [Hv.out, ← Hm.out] at h
               exact ⟨ret_pair h, rfl⟩)
      · have hb : ((-(m : Int)) == -9223372036854775808) = false := by rw [beq_eq_false_iff_ne]; omega
        have hm3 : (m : Int) ≤ 9223372036854775807 := by omega
        clear hm2
        go_wp2
        all_goals go_ret2
        all_goals
          first
            | exact ⟨ret_pair (Hout.out (by rw [Hv.out, ← Hm.out]; omega)), rfl⟩
            | (have h := Hin.out (by rw [Hv.out, ← Hm.out]; omega) (by rw [Hv.out, ← Hm.out]; omega)
               rw [Hv.out, ← Hm.out] at h
               exact ⟨ret_pair h, rfl⟩)

set_option maxHeartbeats 1000000 in
theorem rint_any (s : ByteArray) (lo hi : Int) (w : World) (hs : s.size ≤ 9223372036854775807) (hlo : -9223372036854775808 ≤ lo) (hhi : hi ≤ 9223372036854775807) :
    Calls Tryd.prog 12 #[.string s, .int .i64 lo, .int .i64 hi] w fun e w' => e = .returned (.tuple #[.int .i64 (intV (byt s) lo hi), .int .i64 (intE (byt s) lo hi)]) ∧ w = w' := by
  cases hd : decS (byt s)
  · have HF := Lib.hid (int_form (lo := lo) (hi := hi) hd)
    have hB : decB (byt s) = false := by rw [decB_eq]; exact hd
    go_enter Tryd.func12, Tryd.ntmps12
    go_wp2_with (go_at_call 32; refine (decimal_any _ _ hs).mono ?_; rintro e w' ⟨rfl, rfl⟩)
    go_ret2
    exact ⟨ret_pair HF.out, rfl⟩
  · have h0 : 0 < s.size := by rw [← byt_len]; exact dec_ne hd
    by_cases hn : s[0] = 45
    · exact rint_neg s lo hi w hs hlo hhi hd h0 hn
    · exact rint_pos s lo hi w hs hlo hhi hd h0 hn
end Go.Proofs.YtakmaijbekaflaaDoor
