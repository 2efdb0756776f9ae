/- bareWidth, Clone. -/
import Derived.Test.YtocmnobcccjenaaDoorWaJ
import Derived.Test.YtocmnobcccjenaaDoorWaK
namespace Go.Proofs.YtocmnobcccjenaaDoor
open Go.RowKit

/-- A byte that a bare field may have. -/
def br8 (c : UInt8) : Bool := pl8 c && c != 32
def bw (l : List UInt8) : Nat := (l.takeWhile br8).length
theorem bw_eq (l : List UInt8) (k : Nat) (hk : k ≤ l.length) (ha : (l.take k).all br8 = true) (hs : ∀ h : k < l.length, br8 l[k] = false) : bw l = k := by
  unfold bw
  conv => lhs; rw [← List.take_append_drop k l]
  rw [List.takeWhile_append_of_pos (fun x hx => (List.all_eq_true.1 ha) x hx)]
  rw [List.length_append, List.length_take, Nat.min_eq_left hk]
  by_cases h : k < l.length
  · rw [List.drop_eq_getElem_cons h, List.takeWhile_cons_of_neg (by rw [hs h]; simp)]; rfl
  · rw [List.drop_eq_nil_of_le (by omega)]; rfl
theorem bw_le (l : List UInt8) : bw l ≤ l.length := by
  unfold bw; exact (List.takeWhile_prefix _).length_le
theorem b32_t {c : UInt8} (h : c = 32) : ((c.toNat : Int) == 32) = true := by rw [h]; rfl
theorem b32_f {c : UInt8} (h : c ≠ 32) : ((c.toNat : Int) == 32) = false := by
  rw [beq_eq_false_iff_ne]; intro e; apply h; rw [← UInt8.toNat_inj]; simp; omega

set_option maxHeartbeats 2000000 in
theorem bareWidth_any (s : ByteArray) (w : World) (hs : s.size ≤ 9223372036854775807) :
    Calls Tryd.prog 17 #[.string s] w fun e w' => e = .returned (.int .i64 (bw (byt s))) ∧ w = w' := by
  have hl := byt_len s
  go_enter Tryd.func17, Tryd.ntmps17
  have Hl := Lib.hid hl; clear hl
  go_wp2
  go_loop [6] (fun i => ∃ k : Nat, k ≤ s.size ∧ i = .int .i64 k ∧ Hid (((byt s).take k).all br8 = true)) (fun i => s.size - (intOf i).toNat)
  case atStart => exact ⟨0, Nat.zero_le _, rfl, by simp [Hid]⟩
  case round =>
    obtain ⟨k, hk, rfl, hq⟩ := hrel
    by_cases hlt : k < s.size
    · have Ha := Lib.hid (all_snoc br8 s k hlt)
      have HE : Hid (br8 s[k] = false → bw (byt s) = k) := fun h => bw_eq _ k (by rw [Hl.out]; exact hk) hq.out (fun _ => h)
      by_cases hc : s[k] = 32
      · have hb := b32_t hc
        have Hb : Hid (br8 s[k] = false) := by unfold Hid br8; rw [hc]; simp
        clear hc
        go_wp2
        go_ret
        exact ⟨ret_i64' (by rw [HE.out Hb.out]), rfl⟩
      · have hb := b32_f hc
        have Hc := Lib.hid hc; clear hc
        go_wp2_with (go_at_call 32; refine (isPlain_b _ _).mono ?_; rintro e w' ⟨rfl, rfl⟩)
        · have h : (!pl8 s[k]) = true := by assumption
          go_ret
          exact ⟨ret_i64' (by rw [HE.out (by unfold br8; rw [nt h]; rfl)]), rfl⟩
        · have h : (!pl8 s[k]) = false := by assumption
          go_round
          case rel => exact ⟨k + 1, by omega, by go_num, by unfold Hid; rw [Ha.out, hq.out]; unfold br8; rw [nf h]; simpa using Hc.out⟩
          case measure => simp [intOf]; try omega
    · have HE : Hid (bw (byt s) = k) := bw_eq _ k (by rw [Hl.out]; exact hk) hq.out (fun h => absurd h (by rw [Hl.out]; exact hlt))
      obtain rfl : k = s.size := by omega
      go_wp2
      go_ret
      exact ⟨ret_i64' (by rw [HE.out]), rfl⟩

set_option maxHeartbeats 1000000 in
theorem clone_any (s : ByteArray) (w : World) (hs : s.size ≤ 281474976710656) :
    Calls Tryd.prog 19 #[.string s] w fun e w' => e = .returned (.string s) ∧ Below w.heap.size w w' := by
  go_enter Tryd.func19, Tryd.ntmps19
  go_wp2_with (go_at_call 36; refine (Tryd.stringslite_Clone _ _ hs).mono ?_; rintro e w' ⟨rfl, hb⟩)
  go_ret
  exact ⟨rfl, hb⟩
end Go.Proofs.YtocmnobcccjenaaDoor
