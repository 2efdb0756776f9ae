/- isRune, widthOf, tailByte. -/
import Derived.Test.YtdbampgbbghfkaaDoorRuL
import Derived.Laws.BitsLemmas
namespace Go.Proofs.YtdbampgbbghfkaaDoor.Ru
open Go.RowKit

set_option maxHeartbeats 400000 in
theorem isRune_any (r : Int) (w : World) :
    Calls Tryd.prog 53 #[.int .i64 r] w fun e w' => e = .returned (.bool (isR r)) ∧ w = w' := by
  go_enter Tryd.func53, Tryd.ntmps53
  go_wp2
  all_goals (go_ret; exact ⟨ret_bool (by rw [Bool.eq_iff_iff]; simp [isR]; try omega), rfl⟩)

set_option maxHeartbeats 400000 in
theorem width_1 (r : Int) (w : World) (h : r < 128) :
    Calls Tryd.prog 63 #[.int .i64 r] w fun e w' => e = .returned (.int .i64 1) ∧ w = w' := by
  go_enter Tryd.func63, Tryd.ntmps63
  go_wp2
  all_goals (go_ret; exact ⟨rfl, rfl⟩)
set_option maxHeartbeats 400000 in
theorem width_2 (r : Int) (w : World) (h0 : ¬ r < 128) (h : r < 2048) :
    Calls Tryd.prog 63 #[.int .i64 r] w fun e w' => e = .returned (.int .i64 2) ∧ w = w' := by
  go_enter Tryd.func63, Tryd.ntmps63
  go_wp2
  all_goals (go_ret; exact ⟨rfl, rfl⟩)
set_option maxHeartbeats 400000 in
theorem width_3 (r : Int) (w : World) (h0 : ¬ r < 2048) (h : r < 65536) :
    Calls Tryd.prog 63 #[.int .i64 r] w fun e w' => e = .returned (.int .i64 3) ∧ w = w' := by
  have h1 : ¬ r < 128 := by omega
  go_enter Tryd.func63, Tryd.ntmps63
  go_wp2
  all_goals (go_ret; exact ⟨rfl, rfl⟩)
set_option maxHeartbeats 400000 in
theorem width_4 (r : Int) (w : World) (h0 : ¬ r < 65536) :
    Calls Tryd.prog 63 #[.int .i64 r] w fun e w' => e = .returned (.int .i64 4) ∧ w = w' := by
  have h1 : ¬ r < 128 := by omega
  have h2 : ¬ r < 2048 := by omega
  go_enter Tryd.func63, Tryd.ntmps63
  go_wp2
  all_goals (go_ret; exact ⟨rfl, rfl⟩)

set_option maxHeartbeats 400000 in
theorem tailByte_any (n : Int) (w : World) (h0 : 0 ≤ n) (h1 : n ≤ 1114111) :
    Calls Tryd.prog 64 #[.int .i64 n] w fun e w' => e = .returned (.int .u8 (128 + n % 64)) ∧ w = w' := by
  have ha : bits BinOp.and IntKind.i64 n 63 = n % 64 := bits_mask .i64 32 (by decide) (fun n h0 h1 => by rw [IntKind.wrap_i64]; omega) 6 (by decide) n h0 (by omega)
  go_enter Tryd.func64, Tryd.ntmps64
  go_wp2
  go_ret
  exact ⟨rfl, rfl⟩
end Go.Proofs.YtdbampgbbghfkaaDoor.Ru
