/- Quote. -/
import Derived.Test.YtocmnobcccjenaaDoorQuA
namespace Go.Proofs.YtocmnobcccjenaaDoor
open Go.RowKit

set_option maxRecDepth 100000

theorem flat_len (l : List UInt8) : (l.flatMap escF).length ≤ 4 * l.length := by
  induction l with
  | nil => simp
  | cons c r ih => rw [List.flatMap_cons, List.length_append, List.length_cons]; have := escF_len c; omega
theorem take_succ_byt (s : ByteArray) (k : Nat) (h : k < s.size) : (byt s).take (k + 1) = (byt s).take k ++ [s[k]] := by
  rw [List.take_add_one, byt_at s k h]; rfl
def quoD (s : ByteArray) (k : Nat) : List UInt8 := 34 :: ((byt s).take k).flatMap escF
theorem quoD_succ (s : ByteArray) (k : Nat) (h : k < s.size) : quoD s (k + 1) = quoD s k ++ escF s[k] := by
  unfold quoD; rw [take_succ_byt s k h, List.flatMap_append]; simp
theorem quoD_len (s : ByteArray) (k : Nat) : (quoD s k).length ≤ 1 + 4 * k := by
  unfold quoD; have := flat_len ((byt s).take k); simp at this ⊢; omega
theorem quoD_all (s : ByteArray) : quoD s s.size ++ [34] = quoF (byt s) := by
  unfold quoD quoF; rw [List.take_of_length_le (by rw [byt_len]; exact Nat.le_refl _)]; rfl

set_option maxHeartbeats 4000000 in
theorem quote_any (s : ByteArray) (w : World) (hw : Lay w) (hs : s.size ≤ 1099511627776) :
    Calls Tryd.prog 16 #[.string s] w fun e w' => e = .returned (.string ⟨(quoF (byt s)).toArray⟩) ∧ Below w.heap.size w w' := by
  obtain ⟨i0, hi, hz0, hz1, hz2⟩ := info_parts info5
  go_enter Tryd.func16, Tryd.ntmps16
  go_wp2_with (first
    | (at_make; refine wpList_make_own _ rfl _ _ 56 rfl w.heap.size 5 i0 (.int .u8 0) 1 Tryd.underlying56 hi hz0 hz1 .i64 .i64 _ (s.size + 2) rfl rfl (by omega) (by rw [hz2]; omega) (by unfold maxLen; omega) (Nat.le_refl _) ?_; intro w0 hown0 hgrow0; have hb0 := (Below.refl w.heap.size w).grown hgrow0 (Nat.le_refl _) (fun j e => by cases e); have hsz0 := hb0.size)
    | (at_builtin; refine wpList_append_own _ rfl _ _ 56 rfl w.heap.size 5 i0 (.int .u8 0) 1 1 Tryd.underlying56 hi hz0 hz1 hz2 rfl (by decide) _ _ _ rfl (hown0.alloc _) ⟨w0.heap.size, 0, none⟩ 1 1 [.int .u8 34] rfl rfl ?c1 ?c2 ?c3 ?c4 ?c5 ?_; rotate_left 5; intro v1 w1 hown1 hgrow1 _))
  case c1 => exact cell_one_new _ _ _
  case c2 => simp [Value.oneCell']
  case c3 => decide
  case c4 => omega
  case c5 => simp; omega
  have hB1 : Below w.heap.size w w1 := (hb0.alloc (by omega) _).grown hgrow1 (by simp; omega) (fun j e => (hown0.lt j e).1)
  have hO1 : Bys w1 w.heap.size v1 (quoD s 0) := hown1
  clear hown1 hgrow1 hown0 hgrow0 hb0
  go_loopw [3, 14] (fun v i wr => ∃ k : Nat, k ≤ s.size ∧ i = .int .i64 k ∧ Bys wr w.heap.size v (quoD s k) ∧ Below w.heap.size w wr) (fun _ i _ => s.size - (intOf i).toNat)
  case atStart => exact ⟨0, by omega, rfl, hO1, hB1⟩
  case round =>
    obtain ⟨k, hk, rfl, hown, hbl⟩ := hrel
    have hql := quoD_len s k
    have hLw := hw.next hbl
    by_cases hlt : k < s.size
    · go_wp2_with (go_at_call 31; refine (appendByte_own w.heap.size s[k] _ _ _ hLw hbl.size hown (by omega)).mono ?_; rintro e w3 ⟨v3, rfl, hown3, hb3⟩)
      go_roundw
      case rel => exact ⟨k + 1, by omega, by go_num, by rw [quoD_succ s k hlt]; exact hown3, hbl.trans hb3⟩
      case measure => simp [intOf]; omega
    · have hke : k = s.size := by omega
      subst hke
      have hsz := hbl.size
      go_wp2_with (at_builtin; refine wpList_append_own _ rfl _ _ 56 rfl w.heap.size 5 i0 (.int .u8 0) 1 1 Tryd.underlying56 hi hz0 hz1 hz2 rfl (by decide) _ _ _ rfl (World.ownsRow.alloc hown _) ⟨_, 0, none⟩ 1 1 [.int .u8 34] rfl rfl (cell_one_new _ _ _) (by simp [Value.oneCell']) (by unfold maxLen; omega) (by omega) (by simp; omega) ?_; intro v4 w4 hown4 hgrow4 _; have hcv := conv_bys (l := quoD s s.size ++ [34]) (by unfold Bys; rw [List.length_append, List.map_append]; exact hown4))
      go_ret
      exact ⟨by rw [quoD_all]; rfl, (hbl.alloc hsz _).grown hgrow4 (by simp; omega) (fun j e => (World.ownsRow.lt hown j e).1)⟩
end Go.Proofs.YtocmnobcccjenaaDoor
