/- The reference's decoded: what it says of a text's first bytes. -/
import Derived.Test.YtdbampgbbghfkaaDoorArBa
import Derived.LoopN
namespace Go.Proofs.YtdbampgbbghfkaaDoor
open Go.RowKit

theorem size_i (c : Int) (r : Nat) (w : World) (h : c = r) : Calls Tryd.prog 47 #[.int .i64 c] w fun e w' => e = .returned (.int .i64 (szN r : Int)) ∧ w = w' := by
  subst h; exact size_any r w
theorem rune_i (c : Int) (b : Bool) (w : World) (h : Ru.isR c = b) : Calls Tryd.prog 46 #[.int .i64 c] w fun e w' => e = .returned (.bool b) ∧ w = w' := by
  subst h; exact rune64_any c w
theorem r2 {a b c d : Value} (h : a = c) (k : b = d) : Ending.returned (.tuple #[a, b]) = .returned (.tuple #[c, d]) := by rw [h, k]
theorem i2 {a b : Int} (h : a = b) : Value.int .i64 a = Value.int .i64 b := by rw [h]
set_option maxRecDepth 100000 in
set_option maxHeartbeats 4000000 in
theorem dc_1 (s : ByteArray) (b0 : Nat) (w : World) (hn : 1 ≤ s.size) (h0 : s[0].toNat = b0) (g : b0 < 128) :
    Calls Tryd.prog 30 #[.string s] w fun e w' => e = .returned (.tuple #[.int .i64 (b0), .int .i64 1]) ∧ w = w' := by
  have hs0 : 0 < s.size := by omega
  have hu0 : b0 < 256 := by rw [← h0]; exact UInt8.toNat_lt _
  go_enter Tryd.func30, Tryd.ntmps30
  go_wp2_with (first | fail)
  go_ret2
  exact ⟨r2 (i2 (by first | rfl | omega | (unfold wrap64; omega))) rfl, rfl⟩
set_option maxRecDepth 100000 in
set_option maxHeartbeats 4000000 in
theorem dc_a (s : ByteArray) (b0 : Nat) (w : World) (hn : 1 ≤ s.size) (h0 : s[0].toNat = b0) (g : 128 ≤ b0) (g2 : b0 < 192) :
    Calls Tryd.prog 30 #[.string s] w fun e w' => e = .returned (.tuple #[.int .i64 (0), .int .i64 0]) ∧ w = w' := by
  have hs0 : 0 < s.size := by omega
  have hu0 : b0 < 256 := by rw [← h0]; exact UInt8.toNat_lt _
  go_enter Tryd.func30, Tryd.ntmps30
  go_wp2_with (first | fail)
  go_ret2
  exact ⟨r2 (i2 (by first | rfl | omega | (unfold wrap64; omega))) rfl, rfl⟩
set_option maxRecDepth 100000 in
set_option maxHeartbeats 4000000 in
theorem dc_b (s : ByteArray) (b0 : Nat) (w : World) (hn : 1 ≤ s.size) (h0 : s[0].toNat = b0) (g : 248 ≤ b0) :
    Calls Tryd.prog 30 #[.string s] w fun e w' => e = .returned (.tuple #[.int .i64 (0), .int .i64 0]) ∧ w = w' := by
  have hs0 : 0 < s.size := by omega
  have hu0 : b0 < 256 := by rw [← h0]; exact UInt8.toNat_lt _
  go_enter Tryd.func30, Tryd.ntmps30
  go_wp2_with (first | fail)
  go_ret2
  exact ⟨r2 (i2 (by first | rfl | omega | (unfold wrap64; omega))) rfl, rfl⟩
set_option maxRecDepth 100000 in
set_option maxHeartbeats 4000000 in
theorem dc_2s (s : ByteArray) (b0 : Nat) (w : World) (hn : 1 ≤ s.size) (h0 : s[0].toNat = b0) (g : 192 ≤ b0) (g2 : b0 < 224) (gs : s.size < 2) :
    Calls Tryd.prog 30 #[.string s] w fun e w' => e = .returned (.tuple #[.int .i64 (0), .int .i64 0]) ∧ w = w' := by
  have hs0 : 0 < s.size := by omega
  have hu0 : b0 < 256 := by rw [← h0]; exact UInt8.toNat_lt _
  go_enter Tryd.func30, Tryd.ntmps30
  go_wp2_with (first | fail)
  go_ret2
  exact ⟨r2 (i2 (by first | rfl | omega | (unfold wrap64; omega))) rfl, rfl⟩
set_option maxRecDepth 100000 in
set_option maxHeartbeats 4000000 in
theorem dc_2l1 (s : ByteArray) (b0 b1 : Nat) (w : World) (hn : 2 ≤ s.size) (h0 : s[0].toNat = b0) (h1 : s[1].toNat = b1) (g : 192 ≤ b0) (g2 : b0 < 224) (k1 : b1 < 128) :
    Calls Tryd.prog 30 #[.string s] w fun e w' => e = .returned (.tuple #[.int .i64 (0), .int .i64 0]) ∧ w = w' := by
  have hs0 : 0 < s.size := by omega
  have hs1 : 1 < s.size := by omega
  have hu0 : b0 < 256 := by rw [← h0]; exact UInt8.toNat_lt _
  have hu1 : b1 < 256 := by rw [← h1]; exact UInt8.toNat_lt _
  go_enter Tryd.func30, Tryd.ntmps30
  go_wp2_with (first | fail)
  refine wp_loop_rounds 1 ?_
  rw [rounds_succ]
  go_wp2_with (first | fail)
  go_ret2
  exact ⟨r2 (i2 (by first | rfl | omega | (unfold wrap64; omega))) rfl, rfl⟩
set_option maxRecDepth 100000 in
set_option maxHeartbeats 4000000 in
theorem dc_2h1 (s : ByteArray) (b0 b1 : Nat) (w : World) (hn : 2 ≤ s.size) (h0 : s[0].toNat = b0) (h1 : s[1].toNat = b1) (g : 192 ≤ b0) (g2 : b0 < 224) (k1 : 192 ≤ b1) :
    Calls Tryd.prog 30 #[.string s] w fun e w' => e = .returned (.tuple #[.int .i64 (0), .int .i64 0]) ∧ w = w' := by
  have hs0 : 0 < s.size := by omega
  have hs1 : 1 < s.size := by omega
  have hu0 : b0 < 256 := by rw [← h0]; exact UInt8.toNat_lt _
  have hu1 : b1 < 256 := by rw [← h1]; exact UInt8.toNat_lt _
  go_enter Tryd.func30, Tryd.ntmps30
  go_wp2_with (first | fail)
  refine wp_loop_rounds 1 ?_
  rw [rounds_succ]
  go_wp2_with (first | fail)
  go_ret2
  exact ⟨r2 (i2 (by first | rfl | omega | (unfold wrap64; omega))) rfl, rfl⟩
set_option maxRecDepth 100000 in
set_option maxHeartbeats 4000000 in
theorem dc_2z (s : ByteArray) (b0 b1 : Nat) (w : World) (hn : 2 ≤ s.size) (h0 : s[0].toNat = b0) (h1 : s[1].toNat = b1) (g : 192 ≤ b0) (g2 : b0 < 224) (k1 : 128 ≤ b1) (l1 : b1 < 192) (z : 64 * (b0 - 192) + (b1 - 128) < 128) :
    Calls Tryd.prog 30 #[.string s] w fun e w' => e = .returned (.tuple #[.int .i64 (0), .int .i64 0]) ∧ w = w' := by
  have hs0 : 0 < s.size := by omega
  have hs1 : 1 < s.size := by omega
  have hu0 : b0 < 256 := by rw [← h0]; exact UInt8.toNat_lt _
  have hu1 : b1 < 256 := by rw [← h1]; exact UInt8.toNat_lt _
  go_enter Tryd.func30, Tryd.ntmps30
  go_wp2_with (first
      | (go_at_call 46; refine (rune_i _ true _ (by unfold Ru.isR; rw [decide_eq_true_iff]; first | omega | (unfold wrap64; omega))).mono ?_; rintro e w2 ⟨rfl, rfl⟩)
      | (go_at_call 47; refine (size_i _ (64 * (b0 - 192) + (b1 - 128)) _ (by first | omega | (unfold wrap64; omega))).mono ?_; rw [show szN (64 * (b0 - 192) + (b1 - 128)) = 1 by unfold szN; rw [if_pos (by omega)]]; rintro e w2 ⟨rfl, rfl⟩) | fail)
  refine wp_loop_rounds 2 ?_
  rw [rounds_succ]
  go_wp2_with (first
      | (go_at_call 46; refine (rune_i _ true _ (by unfold Ru.isR; rw [decide_eq_true_iff]; first | omega | (unfold wrap64; omega))).mono ?_; rintro e w2 ⟨rfl, rfl⟩)
      | (go_at_call 47; refine (size_i _ (64 * (b0 - 192) + (b1 - 128)) _ (by first | omega | (unfold wrap64; omega))).mono ?_; rw [show szN (64 * (b0 - 192) + (b1 - 128)) = 1 by unfold szN; rw [if_pos (by omega)]]; rintro e w2 ⟨rfl, rfl⟩) | fail)
  rw [rounds_succ]
  go_wp2_with (first
      | (go_at_call 46; refine (rune_i _ true _ (by unfold Ru.isR; rw [decide_eq_true_iff]; first | omega | (unfold wrap64; omega))).mono ?_; rintro e w2 ⟨rfl, rfl⟩)
      | (go_at_call 47; refine (size_i _ (64 * (b0 - 192) + (b1 - 128)) _ (by first | omega | (unfold wrap64; omega))).mono ?_; rw [show szN (64 * (b0 - 192) + (b1 - 128)) = 1 by unfold szN; rw [if_pos (by omega)]]; rintro e w2 ⟨rfl, rfl⟩) | fail)
  go_ret2
  exact ⟨r2 (i2 (by first | rfl | omega | (unfold wrap64; omega))) rfl, rfl⟩
set_option maxRecDepth 100000 in
set_option maxHeartbeats 4000000 in
theorem dc_2 (s : ByteArray) (b0 b1 : Nat) (w : World) (hn : 2 ≤ s.size) (h0 : s[0].toNat = b0) (h1 : s[1].toNat = b1) (g : 192 ≤ b0) (g2 : b0 < 224) (k1 : 128 ≤ b1) (l1 : b1 < 192) (z : 128 ≤ 64 * (b0 - 192) + (b1 - 128)) :
    Calls Tryd.prog 30 #[.string s] w fun e w' => e = .returned (.tuple #[.int .i64 (((64 * (b0 - 192) + (b1 - 128) : Nat) : Int)), .int .i64 2]) ∧ w = w' := by
  have hs0 : 0 < s.size := by omega
  have hs1 : 1 < s.size := by omega
  have hu0 : b0 < 256 := by rw [← h0]; exact UInt8.toNat_lt _
  have hu1 : b1 < 256 := by rw [← h1]; exact UInt8.toNat_lt _
  go_enter Tryd.func30, Tryd.ntmps30
  go_wp2_with (first
      | (go_at_call 46; refine (rune_i _ true _ (by unfold Ru.isR; rw [decide_eq_true_iff]; first | omega | (unfold wrap64; omega))).mono ?_; rintro e w2 ⟨rfl, rfl⟩)
      | (go_at_call 47; refine (size_i _ (64 * (b0 - 192) + (b1 - 128)) _ (by first | omega | (unfold wrap64; omega))).mono ?_; rw [show szN (64 * (b0 - 192) + (b1 - 128)) = 2 by unfold szN; rw [if_neg (by omega), if_pos (by omega)]]; rintro e w2 ⟨rfl, rfl⟩) | fail)
  refine wp_loop_rounds 2 ?_
  rw [rounds_succ]
  go_wp2_with (first
      | (go_at_call 46; refine (rune_i _ true _ (by unfold Ru.isR; rw [decide_eq_true_iff]; first | omega | (unfold wrap64; omega))).mono ?_; rintro e w2 ⟨rfl, rfl⟩)
      | (go_at_call 47; refine (size_i _ (64 * (b0 - 192) + (b1 - 128)) _ (by first | omega | (unfold wrap64; omega))).mono ?_; rw [show szN (64 * (b0 - 192) + (b1 - 128)) = 2 by unfold szN; rw [if_neg (by omega), if_pos (by omega)]]; rintro e w2 ⟨rfl, rfl⟩) | fail)
  rw [rounds_succ]
  go_wp2_with (first
      | (go_at_call 46; refine (rune_i _ true _ (by unfold Ru.isR; rw [decide_eq_true_iff]; first | omega | (unfold wrap64; omega))).mono ?_; rintro e w2 ⟨rfl, rfl⟩)
      | (go_at_call 47; refine (size_i _ (64 * (b0 - 192) + (b1 - 128)) _ (by first | omega | (unfold wrap64; omega))).mono ?_; rw [show szN (64 * (b0 - 192) + (b1 - 128)) = 2 by unfold szN; rw [if_neg (by omega), if_pos (by omega)]]; rintro e w2 ⟨rfl, rfl⟩) | fail)
  go_ret2
  exact ⟨r2 (i2 (by first | rfl | omega | (unfold wrap64; omega))) rfl, rfl⟩
set_option maxRecDepth 100000 in
set_option maxHeartbeats 4000000 in
theorem dc_3s (s : ByteArray) (b0 : Nat) (w : World) (hn : 1 ≤ s.size) (h0 : s[0].toNat = b0) (g : 224 ≤ b0) (g2 : b0 < 240) (gs : s.size < 3) :
    Calls Tryd.prog 30 #[.string s] w fun e w' => e = .returned (.tuple #[.int .i64 (0), .int .i64 0]) ∧ w = w' := by
  have hs0 : 0 < s.size := by omega
  have hu0 : b0 < 256 := by rw [← h0]; exact UInt8.toNat_lt _
  go_enter Tryd.func30, Tryd.ntmps30
  go_wp2_with (first | fail)
  go_ret2
  exact ⟨r2 (i2 (by first | rfl | omega | (unfold wrap64; omega))) rfl, rfl⟩
set_option maxRecDepth 100000 in
set_option maxHeartbeats 4000000 in
theorem dc_3l1 (s : ByteArray) (b0 b1 : Nat) (w : World) (hn : 2 ≤ s.size) (h0 : s[0].toNat = b0) (h1 : s[1].toNat = b1) (g : 224 ≤ b0) (g2 : b0 < 240) (gs : 3 ≤ s.size) (k1 : b1 < 128) :
    Calls Tryd.prog 30 #[.string s] w fun e w' => e = .returned (.tuple #[.int .i64 (0), .int .i64 0]) ∧ w = w' := by
  have hs0 : 0 < s.size := by omega
  have hs1 : 1 < s.size := by omega
  have hu0 : b0 < 256 := by rw [← h0]; exact UInt8.toNat_lt _
  have hu1 : b1 < 256 := by rw [← h1]; exact UInt8.toNat_lt _
  go_enter Tryd.func30, Tryd.ntmps30
  go_wp2_with (first | fail)
  refine wp_loop_rounds 1 ?_
  rw [rounds_succ]
  go_wp2_with (first | fail)
  go_ret2
  exact ⟨r2 (i2 (by first | rfl | omega | (unfold wrap64; omega))) rfl, rfl⟩
set_option maxRecDepth 100000 in
set_option maxHeartbeats 4000000 in
theorem dc_3h1 (s : ByteArray) (b0 b1 : Nat) (w : World) (hn : 2 ≤ s.size) (h0 : s[0].toNat = b0) (h1 : s[1].toNat = b1) (g : 224 ≤ b0) (g2 : b0 < 240) (gs : 3 ≤ s.size) (k1 : 192 ≤ b1) :
    Calls Tryd.prog 30 #[.string s] w fun e w' => e = .returned (.tuple #[.int .i64 (0), .int .i64 0]) ∧ w = w' := by
  have hs0 : 0 < s.size := by omega
  have hs1 : 1 < s.size := by omega
  have hu0 : b0 < 256 := by rw [← h0]; exact UInt8.toNat_lt _
  have hu1 : b1 < 256 := by rw [← h1]; exact UInt8.toNat_lt _
  go_enter Tryd.func30, Tryd.ntmps30
  go_wp2_with (first | fail)
  refine wp_loop_rounds 1 ?_
  rw [rounds_succ]
  go_wp2_with (first | fail)
  go_ret2
  exact ⟨r2 (i2 (by first | rfl | omega | (unfold wrap64; omega))) rfl, rfl⟩
set_option maxRecDepth 100000 in
set_option maxHeartbeats 4000000 in
theorem dc_3l2 (s : ByteArray) (b0 b1 b2 : Nat) (w : World) (hn : 3 ≤ s.size) (h0 : s[0].toNat = b0) (h1 : s[1].toNat = b1) (h2 : s[2].toNat = b2) (g : 224 ≤ b0) (g2 : b0 < 240) (k1 : 128 ≤ b1) (l1 : b1 < 192) (k2 : b2 < 128) :
    Calls Tryd.prog 30 #[.string s] w fun e w' => e = .returned (.tuple #[.int .i64 (0), .int .i64 0]) ∧ w = w' := by
  have hs0 : 0 < s.size := by omega
  have hs1 : 1 < s.size := by omega
  have hs2 : 2 < s.size := by omega
  have hu0 : b0 < 256 := by rw [← h0]; exact UInt8.toNat_lt _
  have hu1 : b1 < 256 := by rw [← h1]; exact UInt8.toNat_lt _
  have hu2 : b2 < 256 := by rw [← h2]; exact UInt8.toNat_lt _
  go_enter Tryd.func30, Tryd.ntmps30
  go_wp2_with (first | fail)
  refine wp_loop_rounds 2 ?_
  rw [rounds_succ]
  go_wp2_with (first | fail)
  rw [rounds_succ]
  go_wp2_with (first | fail)
  go_ret2
  exact ⟨r2 (i2 (by first | rfl | omega | (unfold wrap64; omega))) rfl, rfl⟩
set_option maxRecDepth 100000 in
set_option maxHeartbeats 4000000 in
theorem dc_3h2 (s : ByteArray) (b0 b1 b2 : Nat) (w : World) (hn : 3 ≤ s.size) (h0 : s[0].toNat = b0) (h1 : s[1].toNat = b1) (h2 : s[2].toNat = b2) (g : 224 ≤ b0) (g2 : b0 < 240) (k1 : 128 ≤ b1) (l1 : b1 < 192) (k2 : 192 ≤ b2) :
    Calls Tryd.prog 30 #[.string s] w fun e w' => e = .returned (.tuple #[.int .i64 (0), .int .i64 0]) ∧ w = w' := by
  have hs0 : 0 < s.size := by omega
  have hs1 : 1 < s.size := by omega
  have hs2 : 2 < s.size := by omega
  have hu0 : b0 < 256 := by rw [← h0]; exact UInt8.toNat_lt _
  have hu1 : b1 < 256 := by rw [← h1]; exact UInt8.toNat_lt _
  have hu2 : b2 < 256 := by rw [← h2]; exact UInt8.toNat_lt _
  go_enter Tryd.func30, Tryd.ntmps30
  go_wp2_with (first | fail)
  refine wp_loop_rounds 2 ?_
  rw [rounds_succ]
  go_wp2_with (first | fail)
  rw [rounds_succ]
  go_wp2_with (first | fail)
  go_ret2
  exact ⟨r2 (i2 (by first | rfl | omega | (unfold wrap64; omega))) rfl, rfl⟩
set_option maxRecDepth 100000 in
set_option maxHeartbeats 4000000 in
theorem dc_3y (s : ByteArray) (b0 b1 b2 : Nat) (w : World) (hn : 3 ≤ s.size) (h0 : s[0].toNat = b0) (h1 : s[1].toNat = b1) (h2 : s[2].toNat = b2) (g : 224 ≤ b0) (g2 : b0 < 240) (k1 : 128 ≤ b1) (l1 : b1 < 192) (k2 : 128 ≤ b2) (l2 : b2 < 192) (z : 64 * (64 * (b0 - 224) + (b1 - 128)) + (b2 - 128) < 128) :
    Calls Tryd.prog 30 #[.string s] w fun e w' => e = .returned (.tuple #[.int .i64 (0), .int .i64 0]) ∧ w = w' := by
  have hs0 : 0 < s.size := by omega
  have hs1 : 1 < s.size := by omega
  have hs2 : 2 < s.size := by omega
  have hu0 : b0 < 256 := by rw [← h0]; exact UInt8.toNat_lt _
  have hu1 : b1 < 256 := by rw [← h1]; exact UInt8.toNat_lt _
  have hu2 : b2 < 256 := by rw [← h2]; exact UInt8.toNat_lt _
  go_enter Tryd.func30, Tryd.ntmps30
  go_wp2_with (first
      | (go_at_call 46; refine (rune_i _ true _ (by unfold Ru.isR; rw [decide_eq_true_iff]; first | omega | (unfold wrap64; omega))).mono ?_; rintro e w2 ⟨rfl, rfl⟩)
      | (go_at_call 47; refine (size_i _ (64 * (64 * (b0 - 224) + (b1 - 128)) + (b2 - 128)) _ (by first | omega | (unfold wrap64; omega))).mono ?_; rw [show szN (64 * (64 * (b0 - 224) + (b1 - 128)) + (b2 - 128)) = 1 by unfold szN; rw [if_pos (by omega)]]; rintro e w2 ⟨rfl, rfl⟩) | fail)
  refine wp_loop_rounds 3 ?_
  rw [rounds_succ]
  go_wp2_with (first
      | (go_at_call 46; refine (rune_i _ true _ (by unfold Ru.isR; rw [decide_eq_true_iff]; first | omega | (unfold wrap64; omega))).mono ?_; rintro e w2 ⟨rfl, rfl⟩)
      | (go_at_call 47; refine (size_i _ (64 * (64 * (b0 - 224) + (b1 - 128)) + (b2 - 128)) _ (by first | omega | (unfold wrap64; omega))).mono ?_; rw [show szN (64 * (64 * (b0 - 224) + (b1 - 128)) + (b2 - 128)) = 1 by unfold szN; rw [if_pos (by omega)]]; rintro e w2 ⟨rfl, rfl⟩) | fail)
  rw [rounds_succ]
  go_wp2_with (first
      | (go_at_call 46; refine (rune_i _ true _ (by unfold Ru.isR; rw [decide_eq_true_iff]; first | omega | (unfold wrap64; omega))).mono ?_; rintro e w2 ⟨rfl, rfl⟩)
      | (go_at_call 47; refine (size_i _ (64 * (64 * (b0 - 224) + (b1 - 128)) + (b2 - 128)) _ (by first | omega | (unfold wrap64; omega))).mono ?_; rw [show szN (64 * (64 * (b0 - 224) + (b1 - 128)) + (b2 - 128)) = 1 by unfold szN; rw [if_pos (by omega)]]; rintro e w2 ⟨rfl, rfl⟩) | fail)
  rw [rounds_succ]
  go_wp2_with (first
      | (go_at_call 46; refine (rune_i _ true _ (by unfold Ru.isR; rw [decide_eq_true_iff]; first | omega | (unfold wrap64; omega))).mono ?_; rintro e w2 ⟨rfl, rfl⟩)
      | (go_at_call 47; refine (size_i _ (64 * (64 * (b0 - 224) + (b1 - 128)) + (b2 - 128)) _ (by first | omega | (unfold wrap64; omega))).mono ?_; rw [show szN (64 * (64 * (b0 - 224) + (b1 - 128)) + (b2 - 128)) = 1 by unfold szN; rw [if_pos (by omega)]]; rintro e w2 ⟨rfl, rfl⟩) | fail)
  go_ret2
  exact ⟨r2 (i2 (by first | rfl | omega | (unfold wrap64; omega))) rfl, rfl⟩
set_option maxRecDepth 100000 in
set_option maxHeartbeats 4000000 in
theorem dc_3z (s : ByteArray) (b0 b1 b2 : Nat) (w : World) (hn : 3 ≤ s.size) (h0 : s[0].toNat = b0) (h1 : s[1].toNat = b1) (h2 : s[2].toNat = b2) (g : 224 ≤ b0) (g2 : b0 < 240) (k1 : 128 ≤ b1) (l1 : b1 < 192) (k2 : 128 ≤ b2) (l2 : b2 < 192) (z : 128 ≤ 64 * (64 * (b0 - 224) + (b1 - 128)) + (b2 - 128)) (z2 : 64 * (64 * (b0 - 224) + (b1 - 128)) + (b2 - 128) < 2048) :
    Calls Tryd.prog 30 #[.string s] w fun e w' => e = .returned (.tuple #[.int .i64 (0), .int .i64 0]) ∧ w = w' := by
  have hs0 : 0 < s.size := by omega
  have hs1 : 1 < s.size := by omega
  have hs2 : 2 < s.size := by omega
  have hu0 : b0 < 256 := by rw [← h0]; exact UInt8.toNat_lt _
  have hu1 : b1 < 256 := by rw [← h1]; exact UInt8.toNat_lt _
  have hu2 : b2 < 256 := by rw [← h2]; exact UInt8.toNat_lt _
  go_enter Tryd.func30, Tryd.ntmps30
  go_wp2_with (first
      | (go_at_call 46; refine (rune_i _ true _ (by unfold Ru.isR; rw [decide_eq_true_iff]; first | omega | (unfold wrap64; omega))).mono ?_; rintro e w2 ⟨rfl, rfl⟩)
      | (go_at_call 47; refine (size_i _ (64 * (64 * (b0 - 224) + (b1 - 128)) + (b2 - 128)) _ (by first | omega | (unfold wrap64; omega))).mono ?_; rw [show szN (64 * (64 * (b0 - 224) + (b1 - 128)) + (b2 - 128)) = 2 by unfold szN; rw [if_neg (by omega), if_pos (by omega)]]; rintro e w2 ⟨rfl, rfl⟩) | fail)
  refine wp_loop_rounds 3 ?_
  rw [rounds_succ]
  go_wp2_with (first
      | (go_at_call 46; refine (rune_i _ true _ (by unfold Ru.isR; rw [decide_eq_true_iff]; first | omega | (unfold wrap64; omega))).mono ?_; rintro e w2 ⟨rfl, rfl⟩)
      | (go_at_call 47; refine (size_i _ (64 * (64 * (b0 - 224) + (b1 - 128)) + (b2 - 128)) _ (by first | omega | (unfold wrap64; omega))).mono ?_; rw [show szN (64 * (64 * (b0 - 224) + (b1 - 128)) + (b2 - 128)) = 2 by unfold szN; rw [if_neg (by omega), if_pos (by omega)]]; rintro e w2 ⟨rfl, rfl⟩) | fail)
  rw [rounds_succ]
  go_wp2_with (first
      | (go_at_call 46; refine (rune_i _ true _ (by unfold Ru.isR; rw [decide_eq_true_iff]; first | omega | (unfold wrap64; omega))).mono ?_; rintro e w2 ⟨rfl, rfl⟩)
      | (go_at_call 47; refine (size_i _ (64 * (64 * (b0 - 224) + (b1 - 128)) + (b2 - 128)) _ (by first | omega | (unfold wrap64; omega))).mono ?_; rw [show szN (64 * (64 * (b0 - 224) + (b1 - 128)) + (b2 - 128)) = 2 by unfold szN; rw [if_neg (by omega), if_pos (by omega)]]; rintro e w2 ⟨rfl, rfl⟩) | fail)
  rw [rounds_succ]
  go_wp2_with (first
      | (go_at_call 46; refine (rune_i _ true _ (by unfold Ru.isR; rw [decide_eq_true_iff]; first | omega | (unfold wrap64; omega))).mono ?_; rintro e w2 ⟨rfl, rfl⟩)
      | (go_at_call 47; refine (size_i _ (64 * (64 * (b0 - 224) + (b1 - 128)) + (b2 - 128)) _ (by first | omega | (unfold wrap64; omega))).mono ?_; rw [show szN (64 * (64 * (b0 - 224) + (b1 - 128)) + (b2 - 128)) = 2 by unfold szN; rw [if_neg (by omega), if_pos (by omega)]]; rintro e w2 ⟨rfl, rfl⟩) | fail)
  go_ret2
  exact ⟨r2 (i2 (by first | rfl | omega | (unfold wrap64; omega))) rfl, rfl⟩
set_option maxRecDepth 100000 in
set_option maxHeartbeats 4000000 in
theorem dc_3r (s : ByteArray) (b0 b1 b2 : Nat) (w : World) (hn : 3 ≤ s.size) (h0 : s[0].toNat = b0) (h1 : s[1].toNat = b1) (h2 : s[2].toNat = b2) (g : 224 ≤ b0) (g2 : b0 < 240) (k1 : 128 ≤ b1) (l1 : b1 < 192) (k2 : 128 ≤ b2) (l2 : b2 < 192) (z : 55296 ≤ 64 * (64 * (b0 - 224) + (b1 - 128)) + (b2 - 128)) (z2 : 64 * (64 * (b0 - 224) + (b1 - 128)) + (b2 - 128) < 57344) :
    Calls Tryd.prog 30 #[.string s] w fun e w' => e = .returned (.tuple #[.int .i64 (0), .int .i64 0]) ∧ w = w' := by
  have hs0 : 0 < s.size := by omega
  have hs1 : 1 < s.size := by omega
  have hs2 : 2 < s.size := by omega
  have hu0 : b0 < 256 := by rw [← h0]; exact UInt8.toNat_lt _
  have hu1 : b1 < 256 := by rw [← h1]; exact UInt8.toNat_lt _
  have hu2 : b2 < 256 := by rw [← h2]; exact UInt8.toNat_lt _
  go_enter Tryd.func30, Tryd.ntmps30
  go_wp2_with (first
      | (go_at_call 46; refine (rune_i _ false _ (by unfold Ru.isR; rw [decide_eq_false_iff_not]; first | omega | (unfold wrap64; omega))).mono ?_; rintro e w2 ⟨rfl, rfl⟩) | fail)
  refine wp_loop_rounds 3 ?_
  rw [rounds_succ]
  go_wp2_with (first
      | (go_at_call 46; refine (rune_i _ false _ (by unfold Ru.isR; rw [decide_eq_false_iff_not]; first | omega | (unfold wrap64; omega))).mono ?_; rintro e w2 ⟨rfl, rfl⟩) | fail)
  rw [rounds_succ]
  go_wp2_with (first
      | (go_at_call 46; refine (rune_i _ false _ (by unfold Ru.isR; rw [decide_eq_false_iff_not]; first | omega | (unfold wrap64; omega))).mono ?_; rintro e w2 ⟨rfl, rfl⟩) | fail)
  rw [rounds_succ]
  go_wp2_with (first
      | (go_at_call 46; refine (rune_i _ false _ (by unfold Ru.isR; rw [decide_eq_false_iff_not]; first | omega | (unfold wrap64; omega))).mono ?_; rintro e w2 ⟨rfl, rfl⟩) | fail)
  go_ret2
  exact ⟨r2 (i2 (by first | rfl | omega | (unfold wrap64; omega))) rfl, rfl⟩
set_option maxRecDepth 100000 in
set_option maxHeartbeats 4000000 in
theorem dc_3 (s : ByteArray) (b0 b1 b2 : Nat) (w : World) (hn : 3 ≤ s.size) (h0 : s[0].toNat = b0) (h1 : s[1].toNat = b1) (h2 : s[2].toNat = b2) (g : 224 ≤ b0) (g2 : b0 < 240) (k1 : 128 ≤ b1) (l1 : b1 < 192) (k2 : 128 ≤ b2) (l2 : b2 < 192) (z : 2048 ≤ 64 * (64 * (b0 - 224) + (b1 - 128)) + (b2 - 128)) (z2 : 64 * (64 * (b0 - 224) + (b1 - 128)) + (b2 - 128) < 55296 ∨ 57344 ≤ 64 * (64 * (b0 - 224) + (b1 - 128)) + (b2 - 128)) :
    Calls Tryd.prog 30 #[.string s] w fun e w' => e = .returned (.tuple #[.int .i64 (((64 * (64 * (b0 - 224) + (b1 - 128)) + (b2 - 128) : Nat) : Int)), .int .i64 3]) ∧ w = w' := by
  have hs0 : 0 < s.size := by omega
  have hs1 : 1 < s.size := by omega
  have hs2 : 2 < s.size := by omega
  have hu0 : b0 < 256 := by rw [← h0]; exact UInt8.toNat_lt _
  have hu1 : b1 < 256 := by rw [← h1]; exact UInt8.toNat_lt _
  have hu2 : b2 < 256 := by rw [← h2]; exact UInt8.toNat_lt _
  go_enter Tryd.func30, Tryd.ntmps30
  go_wp2_with (first
      | (go_at_call 46; refine (rune_i _ true _ (by unfold Ru.isR; rw [decide_eq_true_iff]; first | omega | (unfold wrap64; omega))).mono ?_; rintro e w2 ⟨rfl, rfl⟩)
      | (go_at_call 47; refine (size_i _ (64 * (64 * (b0 - 224) + (b1 - 128)) + (b2 - 128)) _ (by first | omega | (unfold wrap64; omega))).mono ?_; rw [show szN (64 * (64 * (b0 - 224) + (b1 - 128)) + (b2 - 128)) = 3 by unfold szN; rw [if_neg (by omega), if_neg (by omega), if_pos (by omega)]]; rintro e w2 ⟨rfl, rfl⟩) | fail)
  refine wp_loop_rounds 3 ?_
  rw [rounds_succ]
  go_wp2_with (first
      | (go_at_call 46; refine (rune_i _ true _ (by unfold Ru.isR; rw [decide_eq_true_iff]; first | omega | (unfold wrap64; omega))).mono ?_; rintro e w2 ⟨rfl, rfl⟩)
      | (go_at_call 47; refine (size_i _ (64 * (64 * (b0 - 224) + (b1 - 128)) + (b2 - 128)) _ (by first | omega | (unfold wrap64; omega))).mono ?_; rw [show szN (64 * (64 * (b0 - 224) + (b1 - 128)) + (b2 - 128)) = 3 by unfold szN; rw [if_neg (by omega), if_neg (by omega), if_pos (by omega)]]; rintro e w2 ⟨rfl, rfl⟩) | fail)
  rw [rounds_succ]
  go_wp2_with (first
      | (go_at_call 46; refine (rune_i _ true _ (by unfold Ru.isR; rw [decide_eq_true_iff]; first | omega | (unfold wrap64; omega))).mono ?_; rintro e w2 ⟨rfl, rfl⟩)
      | (go_at_call 47; refine (size_i _ (64 * (64 * (b0 - 224) + (b1 - 128)) + (b2 - 128)) _ (by first | omega | (unfold wrap64; omega))).mono ?_; rw [show szN (64 * (64 * (b0 - 224) + (b1 - 128)) + (b2 - 128)) = 3 by unfold szN; rw [if_neg (by omega), if_neg (by omega), if_pos (by omega)]]; rintro e w2 ⟨rfl, rfl⟩) | fail)
  rw [rounds_succ]
  go_wp2_with (first
      | (go_at_call 46; refine (rune_i _ true _ (by unfold Ru.isR; rw [decide_eq_true_iff]; first | omega | (unfold wrap64; omega))).mono ?_; rintro e w2 ⟨rfl, rfl⟩)
      | (go_at_call 47; refine (size_i _ (64 * (64 * (b0 - 224) + (b1 - 128)) + (b2 - 128)) _ (by first | omega | (unfold wrap64; omega))).mono ?_; rw [show szN (64 * (64 * (b0 - 224) + (b1 - 128)) + (b2 - 128)) = 3 by unfold szN; rw [if_neg (by omega), if_neg (by omega), if_pos (by omega)]]; rintro e w2 ⟨rfl, rfl⟩) | fail)
  go_ret2
  exact ⟨r2 (i2 (by first | rfl | omega | (unfold wrap64; omega))) rfl, rfl⟩
set_option maxRecDepth 100000 in
set_option maxHeartbeats 4000000 in
theorem dc_4s (s : ByteArray) (b0 : Nat) (w : World) (hn : 1 ≤ s.size) (h0 : s[0].toNat = b0) (g : 240 ≤ b0) (g2 : b0 < 248) (gs : s.size < 4) :
    Calls Tryd.prog 30 #[.string s] w fun e w' => e = .returned (.tuple #[.int .i64 (0), .int .i64 0]) ∧ w = w' := by
  have hs0 : 0 < s.size := by omega
  have hu0 : b0 < 256 := by rw [← h0]; exact UInt8.toNat_lt _
  go_enter Tryd.func30, Tryd.ntmps30
  go_wp2_with (first | fail)
  go_ret2
  exact ⟨r2 (i2 (by first | rfl | omega | (unfold wrap64; omega))) rfl, rfl⟩
set_option maxRecDepth 100000 in
set_option maxHeartbeats 4000000 in
theorem dc_4l1 (s : ByteArray) (b0 b1 : Nat) (w : World) (hn : 2 ≤ s.size) (h0 : s[0].toNat = b0) (h1 : s[1].toNat = b1) (g : 240 ≤ b0) (g2 : b0 < 248) (gs : 4 ≤ s.size) (k1 : b1 < 128) :
    Calls Tryd.prog 30 #[.string s] w fun e w' => e = .returned (.tuple #[.int .i64 (0), .int .i64 0]) ∧ w = w' := by
  have hs0 : 0 < s.size := by omega
  have hs1 : 1 < s.size := by omega
  have hu0 : b0 < 256 := by rw [← h0]; exact UInt8.toNat_lt _
  have hu1 : b1 < 256 := by rw [← h1]; exact UInt8.toNat_lt _
  go_enter Tryd.func30, Tryd.ntmps30
  go_wp2_with (first | fail)
  refine wp_loop_rounds 1 ?_
  rw [rounds_succ]
  go_wp2_with (first | fail)
  go_ret2
  exact ⟨r2 (i2 (by first | rfl | omega | (unfold wrap64; omega))) rfl, rfl⟩
set_option maxRecDepth 100000 in
set_option maxHeartbeats 4000000 in
theorem dc_4h1 (s : ByteArray) (b0 b1 : Nat) (w : World) (hn : 2 ≤ s.size) (h0 : s[0].toNat = b0) (h1 : s[1].toNat = b1) (g : 240 ≤ b0) (g2 : b0 < 248) (gs : 4 ≤ s.size) (k1 : 192 ≤ b1) :
    Calls Tryd.prog 30 #[.string s] w fun e w' => e = .returned (.tuple #[.int .i64 (0), .int .i64 0]) ∧ w = w' := by
  have hs0 : 0 < s.size := by omega
  have hs1 : 1 < s.size := by omega
  have hu0 : b0 < 256 := by rw [← h0]; exact UInt8.toNat_lt _
  have hu1 : b1 < 256 := by rw [← h1]; exact UInt8.toNat_lt _
  go_enter Tryd.func30, Tryd.ntmps30
  go_wp2_with (first | fail)
  refine wp_loop_rounds 1 ?_
  rw [rounds_succ]
  go_wp2_with (first | fail)
  go_ret2
  exact ⟨r2 (i2 (by first | rfl | omega | (unfold wrap64; omega))) rfl, rfl⟩
set_option maxRecDepth 100000 in
set_option maxHeartbeats 4000000 in
theorem dc_4l2 (s : ByteArray) (b0 b1 b2 : Nat) (w : World) (hn : 3 ≤ s.size) (h0 : s[0].toNat = b0) (h1 : s[1].toNat = b1) (h2 : s[2].toNat = b2) (g : 240 ≤ b0) (g2 : b0 < 248) (gs : 4 ≤ s.size) (k1 : 128 ≤ b1) (l1 : b1 < 192) (k2 : b2 < 128) :
    Calls Tryd.prog 30 #[.string s] w fun e w' => e = .returned (.tuple #[.int .i64 (0), .int .i64 0]) ∧ w = w' := by
  have hs0 : 0 < s.size := by omega
  have hs1 : 1 < s.size := by omega
  have hs2 : 2 < s.size := by omega
  have hu0 : b0 < 256 := by rw [← h0]; exact UInt8.toNat_lt _
  have hu1 : b1 < 256 := by rw [← h1]; exact UInt8.toNat_lt _
  have hu2 : b2 < 256 := by rw [← h2]; exact UInt8.toNat_lt _
  go_enter Tryd.func30, Tryd.ntmps30
  go_wp2_with (first | fail)
  refine wp_loop_rounds 2 ?_
  rw [rounds_succ]
  go_wp2_with (first | fail)
  rw [rounds_succ]
  go_wp2_with (first | fail)
  go_ret2
  exact ⟨r2 (i2 (by first | rfl | omega | (unfold wrap64; omega))) rfl, rfl⟩
set_option maxRecDepth 100000 in
set_option maxHeartbeats 4000000 in
theorem dc_4h2 (s : ByteArray) (b0 b1 b2 : Nat) (w : World) (hn : 3 ≤ s.size) (h0 : s[0].toNat = b0) (h1 : s[1].toNat = b1) (h2 : s[2].toNat = b2) (g : 240 ≤ b0) (g2 : b0 < 248) (gs : 4 ≤ s.size) (k1 : 128 ≤ b1) (l1 : b1 < 192) (k2 : 192 ≤ b2) :
    Calls Tryd.prog 30 #[.string s] w fun e w' => e = .returned (.tuple #[.int .i64 (0), .int .i64 0]) ∧ w = w' := by
  have hs0 : 0 < s.size := by omega
  have hs1 : 1 < s.size := by omega
  have hs2 : 2 < s.size := by omega
  have hu0 : b0 < 256 := by rw [← h0]; exact UInt8.toNat_lt _
  have hu1 : b1 < 256 := by rw [← h1]; exact UInt8.toNat_lt _
  have hu2 : b2 < 256 := by rw [← h2]; exact UInt8.toNat_lt _
  go_enter Tryd.func30, Tryd.ntmps30
  go_wp2_with (first | fail)
  refine wp_loop_rounds 2 ?_
  rw [rounds_succ]
  go_wp2_with (first | fail)
  rw [rounds_succ]
  go_wp2_with (first | fail)
  go_ret2
  exact ⟨r2 (i2 (by first | rfl | omega | (unfold wrap64; omega))) rfl, rfl⟩
set_option maxRecDepth 100000 in
set_option maxHeartbeats 4000000 in
theorem dc_4l3 (s : ByteArray) (b0 b1 b2 b3 : Nat) (w : World) (hn : 4 ≤ s.size) (h0 : s[0].toNat = b0) (h1 : s[1].toNat = b1) (h2 : s[2].toNat = b2) (h3 : s[3].toNat = b3) (g : 240 ≤ b0) (g2 : b0 < 248) (k1 : 128 ≤ b1) (l1 : b1 < 192) (k2 : 128 ≤ b2) (l2 : b2 < 192) (k3 : b3 < 128) :
    Calls Tryd.prog 30 #[.string s] w fun e w' => e = .returned (.tuple #[.int .i64 (0), .int .i64 0]) ∧ w = w' := by
  have hs0 : 0 < s.size := by omega
  have hs1 : 1 < s.size := by omega
  have hs2 : 2 < s.size := by omega
  have hs3 : 3 < s.size := by omega
  have hu0 : b0 < 256 := by rw [← h0]; exact UInt8.toNat_lt _
  have hu1 : b1 < 256 := by rw [← h1]; exact UInt8.toNat_lt _
  have hu2 : b2 < 256 := by rw [← h2]; exact UInt8.toNat_lt _
  have hu3 : b3 < 256 := by rw [← h3]; exact UInt8.toNat_lt _
  go_enter Tryd.func30, Tryd.ntmps30
  go_wp2_with (first | fail)
  refine wp_loop_rounds 3 ?_
  rw [rounds_succ]
  go_wp2_with (first | fail)
  rw [rounds_succ]
  go_wp2_with (first | fail)
  rw [rounds_succ]
  go_wp2_with (first | fail)
  go_ret2
  exact ⟨r2 (i2 (by first | rfl | omega | (unfold wrap64; omega))) rfl, rfl⟩
set_option maxRecDepth 100000 in
set_option maxHeartbeats 4000000 in
theorem dc_4h3 (s : ByteArray) (b0 b1 b2 b3 : Nat) (w : World) (hn : 4 ≤ s.size) (h0 : s[0].toNat = b0) (h1 : s[1].toNat = b1) (h2 : s[2].toNat = b2) (h3 : s[3].toNat = b3) (g : 240 ≤ b0) (g2 : b0 < 248) (k1 : 128 ≤ b1) (l1 : b1 < 192) (k2 : 128 ≤ b2) (l2 : b2 < 192) (k3 : 192 ≤ b3) :
    Calls Tryd.prog 30 #[.string s] w fun e w' => e = .returned (.tuple #[.int .i64 (0), .int .i64 0]) ∧ w = w' := by
  have hs0 : 0 < s.size := by omega
  have hs1 : 1 < s.size := by omega
  have hs2 : 2 < s.size := by omega
  have hs3 : 3 < s.size := by omega
  have hu0 : b0 < 256 := by rw [← h0]; exact UInt8.toNat_lt _
  have hu1 : b1 < 256 := by rw [← h1]; exact UInt8.toNat_lt _
  have hu2 : b2 < 256 := by rw [← h2]; exact UInt8.toNat_lt _
  have hu3 : b3 < 256 := by rw [← h3]; exact UInt8.toNat_lt _
  go_enter Tryd.func30, Tryd.ntmps30
  go_wp2_with (first | fail)
  refine wp_loop_rounds 3 ?_
  rw [rounds_succ]
  go_wp2_with (first | fail)
  rw [rounds_succ]
  go_wp2_with (first | fail)
  rw [rounds_succ]
  go_wp2_with (first | fail)
  go_ret2
  exact ⟨r2 (i2 (by first | rfl | omega | (unfold wrap64; omega))) rfl, rfl⟩
set_option maxRecDepth 100000 in
set_option maxHeartbeats 4000000 in
theorem dc_4x (s : ByteArray) (b0 b1 b2 b3 : Nat) (w : World) (hn : 4 ≤ s.size) (h0 : s[0].toNat = b0) (h1 : s[1].toNat = b1) (h2 : s[2].toNat = b2) (h3 : s[3].toNat = b3) (g : 240 ≤ b0) (g2 : b0 < 248) (k1 : 128 ≤ b1) (l1 : b1 < 192) (k2 : 128 ≤ b2) (l2 : b2 < 192) (k3 : 128 ≤ b3) (l3 : b3 < 192) (z : 64 * (64 * (64 * (b0 - 240) + (b1 - 128)) + (b2 - 128)) + (b3 - 128) < 128) :
    Calls Tryd.prog 30 #[.string s] w fun e w' => e = .returned (.tuple #[.int .i64 (0), .int .i64 0]) ∧ w = w' := by
  have hs0 : 0 < s.size := by omega
  have hs1 : 1 < s.size := by omega
  have hs2 : 2 < s.size := by omega
  have hs3 : 3 < s.size := by omega
  have hu0 : b0 < 256 := by rw [← h0]; exact UInt8.toNat_lt _
  have hu1 : b1 < 256 := by rw [← h1]; exact UInt8.toNat_lt _
  have hu2 : b2 < 256 := by rw [← h2]; exact UInt8.toNat_lt _
  have hu3 : b3 < 256 := by rw [← h3]; exact UInt8.toNat_lt _
  go_enter Tryd.func30, Tryd.ntmps30
  go_wp2_with (first
      | (go_at_call 46; refine (rune_i _ true _ (by unfold Ru.isR; rw [decide_eq_true_iff]; first | omega | (unfold wrap64; omega))).mono ?_; rintro e w2 ⟨rfl, rfl⟩)
      | (go_at_call 47; refine (size_i _ (64 * (64 * (64 * (b0 - 240) + (b1 - 128)) + (b2 - 128)) + (b3 - 128)) _ (by first | omega | (unfold wrap64; omega))).mono ?_; rw [show szN (64 * (64 * (64 * (b0 - 240) + (b1 - 128)) + (b2 - 128)) + (b3 - 128)) = 1 by unfold szN; rw [if_pos (by omega)]]; rintro e w2 ⟨rfl, rfl⟩) | fail)
  refine wp_loop_rounds 4 ?_
  rw [rounds_succ]
  go_wp2_with (first
      | (go_at_call 46; refine (rune_i _ true _ (by unfold Ru.isR; rw [decide_eq_true_iff]; first | omega | (unfold wrap64; omega))).mono ?_; rintro e w2 ⟨rfl, rfl⟩)
      | (go_at_call 47; refine (size_i _ (64 * (64 * (64 * (b0 - 240) + (b1 - 128)) + (b2 - 128)) + (b3 - 128)) _ (by first | omega | (unfold wrap64; omega))).mono ?_; rw [show szN (64 * (64 * (64 * (b0 - 240) + (b1 - 128)) + (b2 - 128)) + (b3 - 128)) = 1 by unfold szN; rw [if_pos (by omega)]]; rintro e w2 ⟨rfl, rfl⟩) | fail)
  rw [rounds_succ]
  go_wp2_with (first
      | (go_at_call 46; refine (rune_i _ true _ (by unfold Ru.isR; rw [decide_eq_true_iff]; first | omega | (unfold wrap64; omega))).mono ?_; rintro e w2 ⟨rfl, rfl⟩)
      | (go_at_call 47; refine (size_i _ (64 * (64 * (64 * (b0 - 240) + (b1 - 128)) + (b2 - 128)) + (b3 - 128)) _ (by first | omega | (unfold wrap64; omega))).mono ?_; rw [show szN (64 * (64 * (64 * (b0 - 240) + (b1 - 128)) + (b2 - 128)) + (b3 - 128)) = 1 by unfold szN; rw [if_pos (by omega)]]; rintro e w2 ⟨rfl, rfl⟩) | fail)
  rw [rounds_succ]
  go_wp2_with (first
      | (go_at_call 46; refine (rune_i _ true _ (by unfold Ru.isR; rw [decide_eq_true_iff]; first | omega | (unfold wrap64; omega))).mono ?_; rintro e w2 ⟨rfl, rfl⟩)
      | (go_at_call 47; refine (size_i _ (64 * (64 * (64 * (b0 - 240) + (b1 - 128)) + (b2 - 128)) + (b3 - 128)) _ (by first | omega | (unfold wrap64; omega))).mono ?_; rw [show szN (64 * (64 * (64 * (b0 - 240) + (b1 - 128)) + (b2 - 128)) + (b3 - 128)) = 1 by unfold szN; rw [if_pos (by omega)]]; rintro e w2 ⟨rfl, rfl⟩) | fail)
  rw [rounds_succ]
  go_wp2_with (first
      | (go_at_call 46; refine (rune_i _ true _ (by unfold Ru.isR; rw [decide_eq_true_iff]; first | omega | (unfold wrap64; omega))).mono ?_; rintro e w2 ⟨rfl, rfl⟩)
      | (go_at_call 47; refine (size_i _ (64 * (64 * (64 * (b0 - 240) + (b1 - 128)) + (b2 - 128)) + (b3 - 128)) _ (by first | omega | (unfold wrap64; omega))).mono ?_; rw [show szN (64 * (64 * (64 * (b0 - 240) + (b1 - 128)) + (b2 - 128)) + (b3 - 128)) = 1 by unfold szN; rw [if_pos (by omega)]]; rintro e w2 ⟨rfl, rfl⟩) | fail)
  go_ret2
  exact ⟨r2 (i2 (by first | rfl | omega | (unfold wrap64; omega))) rfl, rfl⟩
set_option maxRecDepth 100000 in
set_option maxHeartbeats 4000000 in
theorem dc_4y (s : ByteArray) (b0 b1 b2 b3 : Nat) (w : World) (hn : 4 ≤ s.size) (h0 : s[0].toNat = b0) (h1 : s[1].toNat = b1) (h2 : s[2].toNat = b2) (h3 : s[3].toNat = b3) (g : 240 ≤ b0) (g2 : b0 < 248) (k1 : 128 ≤ b1) (l1 : b1 < 192) (k2 : 128 ≤ b2) (l2 : b2 < 192) (k3 : 128 ≤ b3) (l3 : b3 < 192) (z : 128 ≤ 64 * (64 * (64 * (b0 - 240) + (b1 - 128)) + (b2 - 128)) + (b3 - 128)) (z2 : 64 * (64 * (64 * (b0 - 240) + (b1 - 128)) + (b2 - 128)) + (b3 - 128) < 2048) :
    Calls Tryd.prog 30 #[.string s] w fun e w' => e = .returned (.tuple #[.int .i64 (0), .int .i64 0]) ∧ w = w' := by
  have hs0 : 0 < s.size := by omega
  have hs1 : 1 < s.size := by omega
  have hs2 : 2 < s.size := by omega
  have hs3 : 3 < s.size := by omega
  have hu0 : b0 < 256 := by rw [← h0]; exact UInt8.toNat_lt _
  have hu1 : b1 < 256 := by rw [← h1]; exact UInt8.toNat_lt _
  have hu2 : b2 < 256 := by rw [← h2]; exact UInt8.toNat_lt _
  have hu3 : b3 < 256 := by rw [← h3]; exact UInt8.toNat_lt _
  go_enter Tryd.func30, Tryd.ntmps30
  go_wp2_with (first
      | (go_at_call 46; refine (rune_i _ true _ (by unfold Ru.isR; rw [decide_eq_true_iff]; first | omega | (unfold wrap64; omega))).mono ?_; rintro e w2 ⟨rfl, rfl⟩)
      | (go_at_call 47; refine (size_i _ (64 * (64 * (64 * (b0 - 240) + (b1 - 128)) + (b2 - 128)) + (b3 - 128)) _ (by first | omega | (unfold wrap64; omega))).mono ?_; rw [show szN (64 * (64 * (64 * (b0 - 240) + (b1 - 128)) + (b2 - 128)) + (b3 - 128)) = 2 by unfold szN; rw [if_neg (by omega), if_pos (by omega)]]; rintro e w2 ⟨rfl, rfl⟩) | fail)
  refine wp_loop_rounds 4 ?_
  rw [rounds_succ]
  go_wp2_with (first
      | (go_at_call 46; refine (rune_i _ true _ (by unfold Ru.isR; rw [decide_eq_true_iff]; first | omega | (unfold wrap64; omega))).mono ?_; rintro e w2 ⟨rfl, rfl⟩)
      | (go_at_call 47; refine (size_i _ (64 * (64 * (64 * (b0 - 240) + (b1 - 128)) + (b2 - 128)) + (b3 - 128)) _ (by first | omega | (unfold wrap64; omega))).mono ?_; rw [show szN (64 * (64 * (64 * (b0 - 240) + (b1 - 128)) + (b2 - 128)) + (b3 - 128)) = 2 by unfold szN; rw [if_neg (by omega), if_pos (by omega)]]; rintro e w2 ⟨rfl, rfl⟩) | fail)
  rw [rounds_succ]
  go_wp2_with (first
      | (go_at_call 46; refine (rune_i _ true _ (by unfold Ru.isR; rw [decide_eq_true_iff]; first | omega | (unfold wrap64; omega))).mono ?_; rintro e w2 ⟨rfl, rfl⟩)
      | (go_at_call 47; refine (size_i _ (64 * (64 * (64 * (b0 - 240) + (b1 - 128)) + (b2 - 128)) + (b3 - 128)) _ (by first | omega | (unfold wrap64; omega))).mono ?_; rw [show szN (64 * (64 * (64 * (b0 - 240) + (b1 - 128)) + (b2 - 128)) + (b3 - 128)) = 2 by unfold szN; rw [if_neg (by omega), if_pos (by omega)]]; rintro e w2 ⟨rfl, rfl⟩) | fail)
  rw [rounds_succ]
  go_wp2_with (first
      | (go_at_call 46; refine (rune_i _ true _ (by unfold Ru.isR; rw [decide_eq_true_iff]; first | omega | (unfold wrap64; omega))).mono ?_; rintro e w2 ⟨rfl, rfl⟩)
      | (go_at_call 47; refine (size_i _ (64 * (64 * (64 * (b0 - 240) + (b1 - 128)) + (b2 - 128)) + (b3 - 128)) _ (by first | omega | (unfold wrap64; omega))).mono ?_; rw [show szN (64 * (64 * (64 * (b0 - 240) + (b1 - 128)) + (b2 - 128)) + (b3 - 128)) = 2 by unfold szN; rw [if_neg (by omega), if_pos (by omega)]]; rintro e w2 ⟨rfl, rfl⟩) | fail)
  rw [rounds_succ]
  go_wp2_with (first
      | (go_at_call 46; refine (rune_i _ true _ (by unfold Ru.isR; rw [decide_eq_true_iff]; first | omega | (unfold wrap64; omega))).mono ?_; rintro e w2 ⟨rfl, rfl⟩)
      | (go_at_call 47; refine (size_i _ (64 * (64 * (64 * (b0 - 240) + (b1 - 128)) + (b2 - 128)) + (b3 - 128)) _ (by first | omega | (unfold wrap64; omega))).mono ?_; rw [show szN (64 * (64 * (64 * (b0 - 240) + (b1 - 128)) + (b2 - 128)) + (b3 - 128)) = 2 by unfold szN; rw [if_neg (by omega), if_pos (by omega)]]; rintro e w2 ⟨rfl, rfl⟩) | fail)
  go_ret2
  exact ⟨r2 (i2 (by first | rfl | omega | (unfold wrap64; omega))) rfl, rfl⟩
set_option maxRecDepth 100000 in
set_option maxHeartbeats 4000000 in
theorem dc_4z (s : ByteArray) (b0 b1 b2 b3 : Nat) (w : World) (hn : 4 ≤ s.size) (h0 : s[0].toNat = b0) (h1 : s[1].toNat = b1) (h2 : s[2].toNat = b2) (h3 : s[3].toNat = b3) (g : 240 ≤ b0) (g2 : b0 < 248) (k1 : 128 ≤ b1) (l1 : b1 < 192) (k2 : 128 ≤ b2) (l2 : b2 < 192) (k3 : 128 ≤ b3) (l3 : b3 < 192) (z : 2048 ≤ 64 * (64 * (64 * (b0 - 240) + (b1 - 128)) + (b2 - 128)) + (b3 - 128)) (z2 : 64 * (64 * (64 * (b0 - 240) + (b1 - 128)) + (b2 - 128)) + (b3 - 128) < 65536) (z3 : 64 * (64 * (64 * (b0 - 240) + (b1 - 128)) + (b2 - 128)) + (b3 - 128) < 55296 ∨ 57344 ≤ 64 * (64 * (64 * (b0 - 240) + (b1 - 128)) + (b2 - 128)) + (b3 - 128)) :
    Calls Tryd.prog 30 #[.string s] w fun e w' => e = .returned (.tuple #[.int .i64 (0), .int .i64 0]) ∧ w = w' := by
  have hs0 : 0 < s.size := by omega
  have hs1 : 1 < s.size := by omega
  have hs2 : 2 < s.size := by omega
  have hs3 : 3 < s.size := by omega
  have hu0 : b0 < 256 := by rw [← h0]; exact UInt8.toNat_lt _
  have hu1 : b1 < 256 := by rw [← h1]; exact UInt8.toNat_lt _
  have hu2 : b2 < 256 := by rw [← h2]; exact UInt8.toNat_lt _
  have hu3 : b3 < 256 := by rw [← h3]; exact UInt8.toNat_lt _
  go_enter Tryd.func30, Tryd.ntmps30
  go_wp2_with (first
      | (go_at_call 46; refine (rune_i _ true _ (by unfold Ru.isR; rw [decide_eq_true_iff]; first | omega | (unfold wrap64; omega))).mono ?_; rintro e w2 ⟨rfl, rfl⟩)
      | (go_at_call 47; refine (size_i _ (64 * (64 * (64 * (b0 - 240) + (b1 - 128)) + (b2 - 128)) + (b3 - 128)) _ (by first | omega | (unfold wrap64; omega))).mono ?_; rw [show szN (64 * (64 * (64 * (b0 - 240) + (b1 - 128)) + (b2 - 128)) + (b3 - 128)) = 3 by unfold szN; rw [if_neg (by omega), if_neg (by omega), if_pos (by omega)]]; rintro e w2 ⟨rfl, rfl⟩) | fail)
  refine wp_loop_rounds 4 ?_
  rw [rounds_succ]
  go_wp2_with (first
      | (go_at_call 46; refine (rune_i _ true _ (by unfold Ru.isR; rw [decide_eq_true_iff]; first | omega | (unfold wrap64; omega))).mono ?_; rintro e w2 ⟨rfl, rfl⟩)
      | (go_at_call 47; refine (size_i _ (64 * (64 * (64 * (b0 - 240) + (b1 - 128)) + (b2 - 128)) + (b3 - 128)) _ (by first | omega | (unfold wrap64; omega))).mono ?_; rw [show szN (64 * (64 * (64 * (b0 - 240) + (b1 - 128)) + (b2 - 128)) + (b3 - 128)) = 3 by unfold szN; rw [if_neg (by omega), if_neg (by omega), if_pos (by omega)]]; rintro e w2 ⟨rfl, rfl⟩) | fail)
  rw [rounds_succ]
  go_wp2_with (first
      | (go_at_call 46; refine (rune_i _ true _ (by unfold Ru.isR; rw [decide_eq_true_iff]; first | omega | (unfold wrap64; omega))).mono ?_; rintro e w2 ⟨rfl, rfl⟩)
      | (go_at_call 47; refine (size_i _ (64 * (64 * (64 * (b0 - 240) + (b1 - 128)) + (b2 - 128)) + (b3 - 128)) _ (by first | omega | (unfold wrap64; omega))).mono ?_; rw [show szN (64 * (64 * (64 * (b0 - 240) + (b1 - 128)) + (b2 - 128)) + (b3 - 128)) = 3 by unfold szN; rw [if_neg (by omega), if_neg (by omega), if_pos (by omega)]]; rintro e w2 ⟨rfl, rfl⟩) | fail)
  rw [rounds_succ]
  go_wp2_with (first
      | (go_at_call 46; refine (rune_i _ true _ (by unfold Ru.isR; rw [decide_eq_true_iff]; first | omega | (unfold wrap64; omega))).mono ?_; rintro e w2 ⟨rfl, rfl⟩)
      | (go_at_call 47; refine (size_i _ (64 * (64 * (64 * (b0 - 240) + (b1 - 128)) + (b2 - 128)) + (b3 - 128)) _ (by first | omega | (unfold wrap64; omega))).mono ?_; rw [show szN (64 * (64 * (64 * (b0 - 240) + (b1 - 128)) + (b2 - 128)) + (b3 - 128)) = 3 by unfold szN; rw [if_neg (by omega), if_neg (by omega), if_pos (by omega)]]; rintro e w2 ⟨rfl, rfl⟩) | fail)
  rw [rounds_succ]
  go_wp2_with (first
      | (go_at_call 46; refine (rune_i _ true _ (by unfold Ru.isR; rw [decide_eq_true_iff]; first | omega | (unfold wrap64; omega))).mono ?_; rintro e w2 ⟨rfl, rfl⟩)
      | (go_at_call 47; refine (size_i _ (64 * (64 * (64 * (b0 - 240) + (b1 - 128)) + (b2 - 128)) + (b3 - 128)) _ (by first | omega | (unfold wrap64; omega))).mono ?_; rw [show szN (64 * (64 * (64 * (b0 - 240) + (b1 - 128)) + (b2 - 128)) + (b3 - 128)) = 3 by unfold szN; rw [if_neg (by omega), if_neg (by omega), if_pos (by omega)]]; rintro e w2 ⟨rfl, rfl⟩) | fail)
  go_ret2
  exact ⟨r2 (i2 (by first | rfl | omega | (unfold wrap64; omega))) rfl, rfl⟩
set_option maxRecDepth 100000 in
set_option maxHeartbeats 4000000 in
theorem dc_4q (s : ByteArray) (b0 b1 b2 b3 : Nat) (w : World) (hn : 4 ≤ s.size) (h0 : s[0].toNat = b0) (h1 : s[1].toNat = b1) (h2 : s[2].toNat = b2) (h3 : s[3].toNat = b3) (g : 240 ≤ b0) (g2 : b0 < 248) (k1 : 128 ≤ b1) (l1 : b1 < 192) (k2 : 128 ≤ b2) (l2 : b2 < 192) (k3 : 128 ≤ b3) (l3 : b3 < 192) (z : 55296 ≤ 64 * (64 * (64 * (b0 - 240) + (b1 - 128)) + (b2 - 128)) + (b3 - 128)) (z2 : 64 * (64 * (64 * (b0 - 240) + (b1 - 128)) + (b2 - 128)) + (b3 - 128) < 57344) :
    Calls Tryd.prog 30 #[.string s] w fun e w' => e = .returned (.tuple #[.int .i64 (0), .int .i64 0]) ∧ w = w' := by
  have hs0 : 0 < s.size := by omega
  have hs1 : 1 < s.size := by omega
  have hs2 : 2 < s.size := by omega
  have hs3 : 3 < s.size := by omega
  have hu0 : b0 < 256 := by rw [← h0]; exact UInt8.toNat_lt _
  have hu1 : b1 < 256 := by rw [← h1]; exact UInt8.toNat_lt _
  have hu2 : b2 < 256 := by rw [← h2]; exact UInt8.toNat_lt _
  have hu3 : b3 < 256 := by rw [← h3]; exact UInt8.toNat_lt _
  go_enter Tryd.func30, Tryd.ntmps30
  go_wp2_with (first
      | (go_at_call 46; refine (rune_i _ false _ (by unfold Ru.isR; rw [decide_eq_false_iff_not]; first | omega | (unfold wrap64; omega))).mono ?_; rintro e w2 ⟨rfl, rfl⟩) | fail)
  refine wp_loop_rounds 4 ?_
  rw [rounds_succ]
  go_wp2_with (first
      | (go_at_call 46; refine (rune_i _ false _ (by unfold Ru.isR; rw [decide_eq_false_iff_not]; first | omega | (unfold wrap64; omega))).mono ?_; rintro e w2 ⟨rfl, rfl⟩) | fail)
  rw [rounds_succ]
  go_wp2_with (first
      | (go_at_call 46; refine (rune_i _ false _ (by unfold Ru.isR; rw [decide_eq_false_iff_not]; first | omega | (unfold wrap64; omega))).mono ?_; rintro e w2 ⟨rfl, rfl⟩) | fail)
  rw [rounds_succ]
  go_wp2_with (first
      | (go_at_call 46; refine (rune_i _ false _ (by unfold Ru.isR; rw [decide_eq_false_iff_not]; first | omega | (unfold wrap64; omega))).mono ?_; rintro e w2 ⟨rfl, rfl⟩) | fail)
  rw [rounds_succ]
  go_wp2_with (first
      | (go_at_call 46; refine (rune_i _ false _ (by unfold Ru.isR; rw [decide_eq_false_iff_not]; first | omega | (unfold wrap64; omega))).mono ?_; rintro e w2 ⟨rfl, rfl⟩) | fail)
  go_ret2
  exact ⟨r2 (i2 (by first | rfl | omega | (unfold wrap64; omega))) rfl, rfl⟩
set_option maxRecDepth 100000 in
set_option maxHeartbeats 4000000 in
theorem dc_4r (s : ByteArray) (b0 b1 b2 b3 : Nat) (w : World) (hn : 4 ≤ s.size) (h0 : s[0].toNat = b0) (h1 : s[1].toNat = b1) (h2 : s[2].toNat = b2) (h3 : s[3].toNat = b3) (g : 240 ≤ b0) (g2 : b0 < 248) (k1 : 128 ≤ b1) (l1 : b1 < 192) (k2 : 128 ≤ b2) (l2 : b2 < 192) (k3 : 128 ≤ b3) (l3 : b3 < 192) (z : 1114112 ≤ 64 * (64 * (64 * (b0 - 240) + (b1 - 128)) + (b2 - 128)) + (b3 - 128)) :
    Calls Tryd.prog 30 #[.string s] w fun e w' => e = .returned (.tuple #[.int .i64 (0), .int .i64 0]) ∧ w = w' := by
  have hs0 : 0 < s.size := by omega
  have hs1 : 1 < s.size := by omega
  have hs2 : 2 < s.size := by omega
  have hs3 : 3 < s.size := by omega
  have hu0 : b0 < 256 := by rw [← h0]; exact UInt8.toNat_lt _
  have hu1 : b1 < 256 := by rw [← h1]; exact UInt8.toNat_lt _
  have hu2 : b2 < 256 := by rw [← h2]; exact UInt8.toNat_lt _
  have hu3 : b3 < 256 := by rw [← h3]; exact UInt8.toNat_lt _
  go_enter Tryd.func30, Tryd.ntmps30
  go_wp2_with (first
      | (go_at_call 46; refine (rune_i _ false _ (by unfold Ru.isR; rw [decide_eq_false_iff_not]; first | omega | (unfold wrap64; omega))).mono ?_; rintro e w2 ⟨rfl, rfl⟩) | fail)
  refine wp_loop_rounds 4 ?_
  rw [rounds_succ]
  go_wp2_with (first
      | (go_at_call 46; refine (rune_i _ false _ (by unfold Ru.isR; rw [decide_eq_false_iff_not]; first | omega | (unfold wrap64; omega))).mono ?_; rintro e w2 ⟨rfl, rfl⟩) | fail)
  rw [rounds_succ]
  go_wp2_with (first
      | (go_at_call 46; refine (rune_i _ false _ (by unfold Ru.isR; rw [decide_eq_false_iff_not]; first | omega | (unfold wrap64; omega))).mono ?_; rintro e w2 ⟨rfl, rfl⟩) | fail)
  rw [rounds_succ]
  go_wp2_with (first
      | (go_at_call 46; refine (rune_i _ false _ (by unfold Ru.isR; rw [decide_eq_false_iff_not]; first | omega | (unfold wrap64; omega))).mono ?_; rintro e w2 ⟨rfl, rfl⟩) | fail)
  rw [rounds_succ]
  go_wp2_with (first
      | (go_at_call 46; refine (rune_i _ false _ (by unfold Ru.isR; rw [decide_eq_false_iff_not]; first | omega | (unfold wrap64; omega))).mono ?_; rintro e w2 ⟨rfl, rfl⟩) | fail)
  go_ret2
  exact ⟨r2 (i2 (by first | rfl | omega | (unfold wrap64; omega))) rfl, rfl⟩
set_option maxRecDepth 100000 in
set_option maxHeartbeats 4000000 in
theorem dc_4 (s : ByteArray) (b0 b1 b2 b3 : Nat) (w : World) (hn : 4 ≤ s.size) (h0 : s[0].toNat = b0) (h1 : s[1].toNat = b1) (h2 : s[2].toNat = b2) (h3 : s[3].toNat = b3) (g : 240 ≤ b0) (g2 : b0 < 248) (k1 : 128 ≤ b1) (l1 : b1 < 192) (k2 : 128 ≤ b2) (l2 : b2 < 192) (k3 : 128 ≤ b3) (l3 : b3 < 192) (z : 65536 ≤ 64 * (64 * (64 * (b0 - 240) + (b1 - 128)) + (b2 - 128)) + (b3 - 128)) (z2 : 64 * (64 * (64 * (b0 - 240) + (b1 - 128)) + (b2 - 128)) + (b3 - 128) < 1114112) :
    Calls Tryd.prog 30 #[.string s] w fun e w' => e = .returned (.tuple #[.int .i64 (((64 * (64 * (64 * (b0 - 240) + (b1 - 128)) + (b2 - 128)) + (b3 - 128) : Nat) : Int)), .int .i64 4]) ∧ w = w' := by
  have hs0 : 0 < s.size := by omega
  have hs1 : 1 < s.size := by omega
  have hs2 : 2 < s.size := by omega
  have hs3 : 3 < s.size := by omega
  have hu0 : b0 < 256 := by rw [← h0]; exact UInt8.toNat_lt _
  have hu1 : b1 < 256 := by rw [← h1]; exact UInt8.toNat_lt _
  have hu2 : b2 < 256 := by rw [← h2]; exact UInt8.toNat_lt _
  have hu3 : b3 < 256 := by rw [← h3]; exact UInt8.toNat_lt _
  go_enter Tryd.func30, Tryd.ntmps30
  go_wp2_with (first
      | (go_at_call 46; refine (rune_i _ true _ (by unfold Ru.isR; rw [decide_eq_true_iff]; first | omega | (unfold wrap64; omega))).mono ?_; rintro e w2 ⟨rfl, rfl⟩)
      | (go_at_call 47; refine (size_i _ (64 * (64 * (64 * (b0 - 240) + (b1 - 128)) + (b2 - 128)) + (b3 - 128)) _ (by first | omega | (unfold wrap64; omega))).mono ?_; rw [show szN (64 * (64 * (64 * (b0 - 240) + (b1 - 128)) + (b2 - 128)) + (b3 - 128)) = 4 by unfold szN; rw [if_neg (by omega), if_neg (by omega), if_neg (by omega)]]; rintro e w2 ⟨rfl, rfl⟩) | fail)
  refine wp_loop_rounds 4 ?_
  rw [rounds_succ]
  go_wp2_with (first
      | (go_at_call 46; refine (rune_i _ true _ (by unfold Ru.isR; rw [decide_eq_true_iff]; first | omega | (unfold wrap64; omega))).mono ?_; rintro e w2 ⟨rfl, rfl⟩)
      | (go_at_call 47; refine (size_i _ (64 * (64 * (64 * (b0 - 240) + (b1 - 128)) + (b2 - 128)) + (b3 - 128)) _ (by first | omega | (unfold wrap64; omega))).mono ?_; rw [show szN (64 * (64 * (64 * (b0 - 240) + (b1 - 128)) + (b2 - 128)) + (b3 - 128)) = 4 by unfold szN; rw [if_neg (by omega), if_neg (by omega), if_neg (by omega)]]; rintro e w2 ⟨rfl, rfl⟩) | fail)
  rw [rounds_succ]
  go_wp2_with (first
      | (go_at_call 46; refine (rune_i _ true _ (by unfold Ru.isR; rw [decide_eq_true_iff]; first | omega | (unfold wrap64; omega))).mono ?_; rintro e w2 ⟨rfl, rfl⟩)
      | (go_at_call 47; refine (size_i _ (64 * (64 * (64 * (b0 - 240) + (b1 - 128)) + (b2 - 128)) + (b3 - 128)) _ (by first | omega | (unfold wrap64; omega))).mono ?_; rw [show szN (64 * (64 * (64 * (b0 - 240) + (b1 - 128)) + (b2 - 128)) + (b3 - 128)) = 4 by unfold szN; rw [if_neg (by omega), if_neg (by omega), if_neg (by omega)]]; rintro e w2 ⟨rfl, rfl⟩) | fail)
  rw [rounds_succ]
  go_wp2_with (first
      | (go_at_call 46; refine (rune_i _ true _ (by unfold Ru.isR; rw [decide_eq_true_iff]; first | omega | (unfold wrap64; omega))).mono ?_; rintro e w2 ⟨rfl, rfl⟩)
      | (go_at_call 47; refine (size_i _ (64 * (64 * (64 * (b0 - 240) + (b1 - 128)) + (b2 - 128)) + (b3 - 128)) _ (by first | omega | (unfold wrap64; omega))).mono ?_; rw [show szN (64 * (64 * (64 * (b0 - 240) + (b1 - 128)) + (b2 - 128)) + (b3 - 128)) = 4 by unfold szN; rw [if_neg (by omega), if_neg (by omega), if_neg (by omega)]]; rintro e w2 ⟨rfl, rfl⟩) | fail)
  rw [rounds_succ]
  go_wp2_with (first
      | (go_at_call 46; refine (rune_i _ true _ (by unfold Ru.isR; rw [decide_eq_true_iff]; first | omega | (unfold wrap64; omega))).mono ?_; rintro e w2 ⟨rfl, rfl⟩)
      | (go_at_call 47; refine (size_i _ (64 * (64 * (64 * (b0 - 240) + (b1 - 128)) + (b2 - 128)) + (b3 - 128)) _ (by first | omega | (unfold wrap64; omega))).mono ?_; rw [show szN (64 * (64 * (64 * (b0 - 240) + (b1 - 128)) + (b2 - 128)) + (b3 - 128)) = 4 by unfold szN; rw [if_neg (by omega), if_neg (by omega), if_neg (by omega)]]; rintro e w2 ⟨rfl, rfl⟩) | fail)
  go_ret2
  exact ⟨r2 (i2 (by first | rfl | omega | (unfold wrap64; omega))) rfl, rfl⟩
/-- What decoded hands back, of what dec says. -/
def dcR (l : List UInt8) : Int := ((if (Ru.dec l).2.2 = 0 then (Ru.dec l).1 else 0 : Nat) : Int)
def dcN (l : List UInt8) : Int := ((if (Ru.dec l).2.2 = 0 then (Ru.dec l).2.1 else 0 : Nat) : Int)
theorem gb_at (s : ByteArray) (i : Nat) (h : i < s.size) : s[i].toNat = Ru.gb (byt s) i := by
  have e : (byt s)[i]? = some s[i] := by rw [List.getElem?_eq_getElem (by rw [byt_len]; exact h)]; rfl
  unfold Ru.gb
  rw [List.getD_eq_getElem?_getD, e]
  rfl
theorem dc_yes {l : List UInt8} {n b0 b1 b2 b3 V N : Nat} (hd : Ru.dec l = Ru.decT n b0 b1 b2 b3) (hT : Ru.decT n b0 b1 b2 b3 = (V, N, 0)) : dcR l = V ∧ dcN l = N := by
  unfold dcR dcN; rw [hd, hT]; exact ⟨rfl, rfl⟩
theorem dc_no {l : List UInt8} {n b0 b1 b2 b3 : Nat} (hd : Ru.dec l = Ru.decT n b0 b1 b2 b3) (hT : (Ru.decT n b0 b1 b2 b3).2.2 ≠ 0) : dcR l = 0 ∧ dcN l = 0 := by
  unfold dcR dcN; rw [hd, if_neg hT, if_neg hT]; exact ⟨rfl, rfl⟩
theorem decoded_any (s : ByteArray) (w : World) (hs : 0 < s.size) :
    Calls Tryd.prog 30 #[.string s] w fun e w' => e = .returned (.tuple #[.int .i64 (dcR (byt s)), .int .i64 (dcN (byt s))]) ∧ w = w' := by
  have hd : Ru.dec (byt s) = Ru.decT s.size (Ru.gb (byt s) 0) (Ru.gb (byt s) 1) (Ru.gb (byt s) 2) (Ru.gb (byt s) 3) := by
    unfold Ru.dec
    rw [if_neg (by intro e; have : s.size = 0 := by rw [← byt_len, e]; rfl
                   omega), byt_len]
  have q0 := gb_at s 0 hs
  have q1 := fun h => gb_at s 1 h
  have q2 := fun h => gb_at s 2 h
  have q3 := fun h => gb_at s 3 h
  have u0 := Ru.gb_lt (byt s) 0
  generalize Ru.gb (byt s) 0 = b0 at hd q0 u0
  generalize Ru.gb (byt s) 1 = b1 at hd q1
  generalize Ru.gb (byt s) 2 = b2 at hd q2
  generalize Ru.gb (byt s) 3 = b3 at hd q3
  by_cases g1 : b0 < 128
  · skip
    obtain ⟨e1, e2⟩ := dc_yes (V := b0) (N := 1) hd (by unfold Ru.decT; rw [if_pos g1])
    rw [e1, e2]
    exact dc_1 s b0 w (by omega) q0 g1
  by_cases g2 : b0 < 192
  · skip
    obtain ⟨e1, e2⟩ := dc_no hd (by intro h; rcases Ru.decT_ok _ _ _ _ _ h with ⟨a, _⟩ | ⟨a1, a2, a3, a4, _⟩ | ⟨a1, a2, a3, a4, a5, a6, a7, _⟩ | ⟨a1, a2, a3, a4, a5, a6, a7, a8, _⟩ <;> omega)
    rw [e1, e2]
    exact dc_a s b0 w (by omega) q0 (by omega) g2
  by_cases g3 : 248 ≤ b0
  · skip
    obtain ⟨e1, e2⟩ := dc_no hd (by intro h; rcases Ru.decT_ok _ _ _ _ _ h with ⟨a, _⟩ | ⟨a1, a2, a3, a4, _⟩ | ⟨a1, a2, a3, a4, a5, a6, a7, _⟩ | ⟨a1, a2, a3, a4, a5, a6, a7, a8, _⟩ <;> omega)
    rw [e1, e2]
    exact dc_b s b0 w (by omega) q0 g3
  by_cases g4 : b0 < 224
  · skip
    by_cases gs : s.size < 2
    · skip
      obtain ⟨e1, e2⟩ := dc_no hd (by intro h; rcases Ru.decT_ok _ _ _ _ _ h with ⟨a, _⟩ | ⟨a1, a2, a3, a4, _⟩ | ⟨a1, a2, a3, a4, a5, a6, a7, _⟩ | ⟨a1, a2, a3, a4, a5, a6, a7, a8, _⟩ <;> omega)
      rw [e1, e2]
      exact dc_2s s b0 w (by omega) q0 (by omega) (by omega) gs
    by_cases k1 : b1 < 128
    · skip
      obtain ⟨e1, e2⟩ := dc_no hd (by intro h; rcases Ru.decT_ok _ _ _ _ _ h with ⟨a, _⟩ | ⟨a1, a2, a3, a4, _⟩ | ⟨a1, a2, a3, a4, a5, a6, a7, _⟩ | ⟨a1, a2, a3, a4, a5, a6, a7, a8, _⟩ <;> omega)
      rw [e1, e2]
      exact dc_2l1 s b0 b1 w (by omega) q0 (q1 (by omega)) (by omega) (by omega) k1
    by_cases l1 : 192 ≤ b1
    · skip
      obtain ⟨e1, e2⟩ := dc_no hd (by intro h; rcases Ru.decT_ok _ _ _ _ _ h with ⟨a, _⟩ | ⟨a1, a2, a3, a4, _⟩ | ⟨a1, a2, a3, a4, a5, a6, a7, _⟩ | ⟨a1, a2, a3, a4, a5, a6, a7, a8, _⟩ <;> omega)
      rw [e1, e2]
      exact dc_2h1 s b0 b1 w (by omega) q0 (q1 (by omega)) (by omega) (by omega) l1
    by_cases z : 64 * (b0 - 192) + (b1 - 128) < 128
    · skip
      obtain ⟨e1, e2⟩ := dc_no hd (by intro h; rcases Ru.decT_ok _ _ _ _ _ h with ⟨a, _⟩ | ⟨a1, a2, a3, a4, _⟩ | ⟨a1, a2, a3, a4, a5, a6, a7, _⟩ | ⟨a1, a2, a3, a4, a5, a6, a7, a8, _⟩ <;> omega)
      rw [e1, e2]
      exact dc_2z s b0 b1 w (by omega) q0 (q1 (by omega)) (by omega) (by omega) (by omega) (by omega) z
    obtain ⟨e1, e2⟩ := dc_yes (V := 64 * (b0 - 192) + (b1 - 128)) (N := 2) hd (by unfold Ru.decT; rw [if_neg (by omega), if_neg (by omega), if_pos (by omega), if_neg (by omega), if_pos (by omega)]; exact Prod.ext (show _ = _ by simp only []; omega) rfl)
    rw [e1, e2]
    exact dc_2 s b0 b1 w (by omega) q0 (q1 (by omega)) (by omega) (by omega) (by omega) (by omega) (by omega)
  by_cases g5 : b0 < 240
  · skip
    by_cases gs : s.size < 3
    · skip
      obtain ⟨e1, e2⟩ := dc_no hd (by intro h; rcases Ru.decT_ok _ _ _ _ _ h with ⟨a, _⟩ | ⟨a1, a2, a3, a4, _⟩ | ⟨a1, a2, a3, a4, a5, a6, a7, _⟩ | ⟨a1, a2, a3, a4, a5, a6, a7, a8, _⟩ <;> omega)
      rw [e1, e2]
      exact dc_3s s b0 w (by omega) q0 (by omega) (by omega) gs
    by_cases k1 : b1 < 128
    · skip
      obtain ⟨e1, e2⟩ := dc_no hd (by intro h; rcases Ru.decT_ok _ _ _ _ _ h with ⟨a, _⟩ | ⟨a1, a2, a3, a4, _⟩ | ⟨a1, a2, a3, a4, a5, a6, a7, _⟩ | ⟨a1, a2, a3, a4, a5, a6, a7, a8, _⟩ <;> omega)
      rw [e1, e2]
      exact dc_3l1 s b0 b1 w (by omega) q0 (q1 (by omega)) (by omega) (by omega) (by omega) k1
    by_cases l1 : 192 ≤ b1
    · skip
      obtain ⟨e1, e2⟩ := dc_no hd (by intro h; rcases Ru.decT_ok _ _ _ _ _ h with ⟨a, _⟩ | ⟨a1, a2, a3, a4, _⟩ | ⟨a1, a2, a3, a4, a5, a6, a7, _⟩ | ⟨a1, a2, a3, a4, a5, a6, a7, a8, _⟩ <;> omega)
      rw [e1, e2]
      exact dc_3h1 s b0 b1 w (by omega) q0 (q1 (by omega)) (by omega) (by omega) (by omega) l1
    by_cases k2 : b2 < 128
    · skip
      obtain ⟨e1, e2⟩ := dc_no hd (by intro h; rcases Ru.decT_ok _ _ _ _ _ h with ⟨a, _⟩ | ⟨a1, a2, a3, a4, _⟩ | ⟨a1, a2, a3, a4, a5, a6, a7, _⟩ | ⟨a1, a2, a3, a4, a5, a6, a7, a8, _⟩ <;> omega)
      rw [e1, e2]
      exact dc_3l2 s b0 b1 b2 w (by omega) q0 (q1 (by omega)) (q2 (by omega)) (by omega) (by omega) (by omega) (by omega) k2
    by_cases l2 : 192 ≤ b2
    · skip
      obtain ⟨e1, e2⟩ := dc_no hd (by intro h; rcases Ru.decT_ok _ _ _ _ _ h with ⟨a, _⟩ | ⟨a1, a2, a3, a4, _⟩ | ⟨a1, a2, a3, a4, a5, a6, a7, _⟩ | ⟨a1, a2, a3, a4, a5, a6, a7, a8, _⟩ <;> omega)
      rw [e1, e2]
      exact dc_3h2 s b0 b1 b2 w (by omega) q0 (q1 (by omega)) (q2 (by omega)) (by omega) (by omega) (by omega) (by omega) l2
    by_cases z : 64 * (64 * (b0 - 224) + (b1 - 128)) + (b2 - 128) < 128
    · skip
      obtain ⟨e1, e2⟩ := dc_no hd (by intro h; rcases Ru.decT_ok _ _ _ _ _ h with ⟨a, _⟩ | ⟨a1, a2, a3, a4, _⟩ | ⟨a1, a2, a3, a4, a5, a6, a7, _⟩ | ⟨a1, a2, a3, a4, a5, a6, a7, a8, _⟩ <;> omega)
      rw [e1, e2]
      exact dc_3y s b0 b1 b2 w (by omega) q0 (q1 (by omega)) (q2 (by omega)) (by omega) (by omega) (by omega) (by omega) (by omega) (by omega) z
    by_cases z2 : 64 * (64 * (b0 - 224) + (b1 - 128)) + (b2 - 128) < 2048
    · skip
      obtain ⟨e1, e2⟩ := dc_no hd (by intro h; rcases Ru.decT_ok _ _ _ _ _ h with ⟨a, _⟩ | ⟨a1, a2, a3, a4, _⟩ | ⟨a1, a2, a3, a4, a5, a6, a7, _⟩ | ⟨a1, a2, a3, a4, a5, a6, a7, a8, _⟩ <;> omega)
      rw [e1, e2]
      exact dc_3z s b0 b1 b2 w (by omega) q0 (q1 (by omega)) (q2 (by omega)) (by omega) (by omega) (by omega) (by omega) (by omega) (by omega) (by omega) z2
    by_cases z3 : 55296 ≤ 64 * (64 * (b0 - 224) + (b1 - 128)) + (b2 - 128) ∧ 64 * (64 * (b0 - 224) + (b1 - 128)) + (b2 - 128) < 57344
    · skip
      obtain ⟨e1, e2⟩ := dc_no hd (by intro h; rcases Ru.decT_ok _ _ _ _ _ h with ⟨a, _⟩ | ⟨a1, a2, a3, a4, _⟩ | ⟨a1, a2, a3, a4, a5, a6, a7, _⟩ | ⟨a1, a2, a3, a4, a5, a6, a7, a8, _⟩ <;> omega)
      rw [e1, e2]
      exact dc_3r s b0 b1 b2 w (by omega) q0 (q1 (by omega)) (q2 (by omega)) (by omega) (by omega) (by omega) (by omega) (by omega) (by omega) z3.1 z3.2
    obtain ⟨e1, e2⟩ := dc_yes (V := 64 * (64 * (b0 - 224) + (b1 - 128)) + (b2 - 128)) (N := 3) hd (by unfold Ru.decT; rw [if_neg (by omega), if_neg (by omega), if_neg (by omega), if_pos (by omega), if_neg (by omega), if_neg (by omega), if_neg (by omega), if_pos (by omega)]; exact Prod.ext (show _ = _ by simp only []; omega) rfl)
    rw [e1, e2]
    exact dc_3 s b0 b1 b2 w (by omega) q0 (q1 (by omega)) (q2 (by omega)) (by omega) (by omega) (by omega) (by omega) (by omega) (by omega) (by omega) (by omega)
  by_cases gs : s.size < 4
  · skip
    obtain ⟨e1, e2⟩ := dc_no hd (by intro h; rcases Ru.decT_ok _ _ _ _ _ h with ⟨a, _⟩ | ⟨a1, a2, a3, a4, _⟩ | ⟨a1, a2, a3, a4, a5, a6, a7, _⟩ | ⟨a1, a2, a3, a4, a5, a6, a7, a8, _⟩ <;> omega)
    rw [e1, e2]
    exact dc_4s s b0 w (by omega) q0 (by omega) (by omega) gs
  by_cases k1 : b1 < 128
  · skip
    obtain ⟨e1, e2⟩ := dc_no hd (by intro h; rcases Ru.decT_ok _ _ _ _ _ h with ⟨a, _⟩ | ⟨a1, a2, a3, a4, _⟩ | ⟨a1, a2, a3, a4, a5, a6, a7, _⟩ | ⟨a1, a2, a3, a4, a5, a6, a7, a8, _⟩ <;> omega)
    rw [e1, e2]
    exact dc_4l1 s b0 b1 w (by omega) q0 (q1 (by omega)) (by omega) (by omega) (by omega) k1
  by_cases l1 : 192 ≤ b1
  · skip
    obtain ⟨e1, e2⟩ := dc_no hd (by intro h; rcases Ru.decT_ok _ _ _ _ _ h with ⟨a, _⟩ | ⟨a1, a2, a3, a4, _⟩ | ⟨a1, a2, a3, a4, a5, a6, a7, _⟩ | ⟨a1, a2, a3, a4, a5, a6, a7, a8, _⟩ <;> omega)
    rw [e1, e2]
    exact dc_4h1 s b0 b1 w (by omega) q0 (q1 (by omega)) (by omega) (by omega) (by omega) l1
  by_cases k2 : b2 < 128
  · skip
    obtain ⟨e1, e2⟩ := dc_no hd (by intro h; rcases Ru.decT_ok _ _ _ _ _ h with ⟨a, _⟩ | ⟨a1, a2, a3, a4, _⟩ | ⟨a1, a2, a3, a4, a5, a6, a7, _⟩ | ⟨a1, a2, a3, a4, a5, a6, a7, a8, _⟩ <;> omega)
    rw [e1, e2]
    exact dc_4l2 s b0 b1 b2 w (by omega) q0 (q1 (by omega)) (q2 (by omega)) (by omega) (by omega) (by omega) (by omega) (by omega) k2
  by_cases l2 : 192 ≤ b2
  · skip
    obtain ⟨e1, e2⟩ := dc_no hd (by intro h; rcases Ru.decT_ok _ _ _ _ _ h with ⟨a, _⟩ | ⟨a1, a2, a3, a4, _⟩ | ⟨a1, a2, a3, a4, a5, a6, a7, _⟩ | ⟨a1, a2, a3, a4, a5, a6, a7, a8, _⟩ <;> omega)
    rw [e1, e2]
    exact dc_4h2 s b0 b1 b2 w (by omega) q0 (q1 (by omega)) (q2 (by omega)) (by omega) (by omega) (by omega) (by omega) (by omega) l2
  by_cases k3 : b3 < 128
  · skip
    obtain ⟨e1, e2⟩ := dc_no hd (by intro h; rcases Ru.decT_ok _ _ _ _ _ h with ⟨a, _⟩ | ⟨a1, a2, a3, a4, _⟩ | ⟨a1, a2, a3, a4, a5, a6, a7, _⟩ | ⟨a1, a2, a3, a4, a5, a6, a7, a8, _⟩ <;> omega)
    rw [e1, e2]
    exact dc_4l3 s b0 b1 b2 b3 w (by omega) q0 (q1 (by omega)) (q2 (by omega)) (q3 (by omega)) (by omega) (by omega) (by omega) (by omega) (by omega) (by omega) k3
  by_cases l3 : 192 ≤ b3
  · skip
    obtain ⟨e1, e2⟩ := dc_no hd (by intro h; rcases Ru.decT_ok _ _ _ _ _ h with ⟨a, _⟩ | ⟨a1, a2, a3, a4, _⟩ | ⟨a1, a2, a3, a4, a5, a6, a7, _⟩ | ⟨a1, a2, a3, a4, a5, a6, a7, a8, _⟩ <;> omega)
    rw [e1, e2]
    exact dc_4h3 s b0 b1 b2 b3 w (by omega) q0 (q1 (by omega)) (q2 (by omega)) (q3 (by omega)) (by omega) (by omega) (by omega) (by omega) (by omega) (by omega) l3
  by_cases z : 64 * (64 * (64 * (b0 - 240) + (b1 - 128)) + (b2 - 128)) + (b3 - 128) < 128
  · skip
    obtain ⟨e1, e2⟩ := dc_no hd (by intro h; rcases Ru.decT_ok _ _ _ _ _ h with ⟨a, _⟩ | ⟨a1, a2, a3, a4, _⟩ | ⟨a1, a2, a3, a4, a5, a6, a7, _⟩ | ⟨a1, a2, a3, a4, a5, a6, a7, a8, _⟩ <;> omega)
    rw [e1, e2]
    exact dc_4x s b0 b1 b2 b3 w (by omega) q0 (q1 (by omega)) (q2 (by omega)) (q3 (by omega)) (by omega) (by omega) (by omega) (by omega) (by omega) (by omega) (by omega) (by omega) z
  by_cases z2 : 64 * (64 * (64 * (b0 - 240) + (b1 - 128)) + (b2 - 128)) + (b3 - 128) < 2048
  · skip
    obtain ⟨e1, e2⟩ := dc_no hd (by intro h; rcases Ru.decT_ok _ _ _ _ _ h with ⟨a, _⟩ | ⟨a1, a2, a3, a4, _⟩ | ⟨a1, a2, a3, a4, a5, a6, a7, _⟩ | ⟨a1, a2, a3, a4, a5, a6, a7, a8, _⟩ <;> omega)
    rw [e1, e2]
    exact dc_4y s b0 b1 b2 b3 w (by omega) q0 (q1 (by omega)) (q2 (by omega)) (q3 (by omega)) (by omega) (by omega) (by omega) (by omega) (by omega) (by omega) (by omega) (by omega) (by omega) z2
  by_cases z3 : 55296 ≤ 64 * (64 * (64 * (b0 - 240) + (b1 - 128)) + (b2 - 128)) + (b3 - 128) ∧ 64 * (64 * (64 * (b0 - 240) + (b1 - 128)) + (b2 - 128)) + (b3 - 128) < 57344
  · skip
    obtain ⟨e1, e2⟩ := dc_no hd (by intro h; rcases Ru.decT_ok _ _ _ _ _ h with ⟨a, _⟩ | ⟨a1, a2, a3, a4, _⟩ | ⟨a1, a2, a3, a4, a5, a6, a7, _⟩ | ⟨a1, a2, a3, a4, a5, a6, a7, a8, _⟩ <;> omega)
    rw [e1, e2]
    exact dc_4q s b0 b1 b2 b3 w (by omega) q0 (q1 (by omega)) (q2 (by omega)) (q3 (by omega)) (by omega) (by omega) (by omega) (by omega) (by omega) (by omega) (by omega) (by omega) z3.1 z3.2
  by_cases z4 : 64 * (64 * (64 * (b0 - 240) + (b1 - 128)) + (b2 - 128)) + (b3 - 128) < 65536
  · skip
    obtain ⟨e1, e2⟩ := dc_no hd (by intro h; rcases Ru.decT_ok _ _ _ _ _ h with ⟨a, _⟩ | ⟨a1, a2, a3, a4, _⟩ | ⟨a1, a2, a3, a4, a5, a6, a7, _⟩ | ⟨a1, a2, a3, a4, a5, a6, a7, a8, _⟩ <;> omega)
    rw [e1, e2]
    exact dc_4z s b0 b1 b2 b3 w (by omega) q0 (q1 (by omega)) (q2 (by omega)) (q3 (by omega)) (by omega) (by omega) (by omega) (by omega) (by omega) (by omega) (by omega) (by omega) (by omega) z4 (by omega)
  by_cases z5 : 1114112 ≤ 64 * (64 * (64 * (b0 - 240) + (b1 - 128)) + (b2 - 128)) + (b3 - 128)
  · skip
    obtain ⟨e1, e2⟩ := dc_no hd (by intro h; rcases Ru.decT_ok _ _ _ _ _ h with ⟨a, _⟩ | ⟨a1, a2, a3, a4, _⟩ | ⟨a1, a2, a3, a4, a5, a6, a7, _⟩ | ⟨a1, a2, a3, a4, a5, a6, a7, a8, _⟩ <;> omega)
    rw [e1, e2]
    exact dc_4r s b0 b1 b2 b3 w (by omega) q0 (q1 (by omega)) (q2 (by omega)) (q3 (by omega)) (by omega) (by omega) (by omega) (by omega) (by omega) (by omega) (by omega) (by omega) z5
  obtain ⟨e1, e2⟩ := dc_yes (V := 64 * (64 * (64 * (b0 - 240) + (b1 - 128)) + (b2 - 128)) + (b3 - 128)) (N := 4) hd (by unfold Ru.decT; rw [if_neg (by omega), if_neg (by omega), if_neg (by omega), if_neg (by omega), if_pos (by omega), if_neg (by omega), if_neg (by omega), if_neg (by omega), if_neg (by omega), if_neg (by omega), if_pos (by omega)]; exact Prod.ext (show _ = _ by simp only []; omega) rfl)
  rw [e1, e2]
  exact dc_4 s b0 b1 b2 b3 w (by omega) q0 (q1 (by omega)) (q2 (by omega)) (q3 (by omega)) (by omega) (by omega) (by omega) (by omega) (by omega) (by omega) (by omega) (by omega) (by omega) (by omega)
end Go.Proofs.YtdbampgbbghfkaaDoor
