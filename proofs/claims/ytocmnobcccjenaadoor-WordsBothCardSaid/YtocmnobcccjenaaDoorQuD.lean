/- The reference's Quote. -/
import Derived.Test.YtocmnobcccjenaaDoorQuC
import Derived.Laws.OwnMore
namespace Go.Proofs.YtocmnobcccjenaaDoor
open Go.RowKit

set_option maxRecDepth 100000

theorem strCells_mk (l : List UInt8) : Lib.strCells ⟨l.toArray⟩ = l.map fun c => Value.int .u8 (c.toNat : Int) := rfl
theorem size_mkQ (l : List UInt8) : (⟨l.toArray⟩ : ByteArray).size = l.length := rfl

set_option maxHeartbeats 4000000 in
theorem rquote_any (s : ByteArray) (w : World) (hs : s.size ≤ 1099511627776) :
    Calls Tryd.prog 21 #[.string s] w fun e w' => e = .returned (.string ⟨(quoF (byt s)).toArray⟩) ∧ Below w.heap.size w w' := by
  obtain ⟨i0, hi, hz0, hz1, hz2⟩ := info_parts info5
  go_enter Tryd.func21, Tryd.ntmps21
  go_wp2_with fail
  have hO0 : Bys (w.alloc (.cells #[.int .u8 34] 5)) w.heap.size (.slice (some ⟨w.heap.size, 0, none⟩) 1 1) (quoD s 0) :=
    World.ownsRow_lit w #[.int .u8 34] 1 (Nat.le_refl _) (by unfold maxLen; omega) rfl
  have hB0 : Below w.heap.size w (w.alloc (.cells #[.int .u8 34] 5)) := (Below.refl _ _).alloc (Nat.le_refl _) _
  go_loopw [3, 4] (fun v i wr => ∃ k : Nat, k ≤ s.size ∧ i = .int .i64 k ∧ Bys wr w.heap.size v (quoD s k) ∧ Below w.heap.size w wr) (fun _ i _ => s.size - (intOf i).toNat)
  case atStart => exact ⟨0, by omega, rfl, hO0, hB0⟩
  case round =>
    obtain ⟨k, hk, rfl, hown, hbl⟩ := hrel
    have hql := quoD_len s k
    have hsz := hbl.size
    by_cases hlt : k < s.size
    · have hel := escF_len s[k]
      go_wp2_with (first
        | (go_at_call 38; refine (escaped_any s[k] _).mono ?_; rintro e w3 ⟨rfl, hb3⟩; have hown3 := own_below hown hb3; have hsz3 := hb3.size)
        | (at_builtin; refine Lib.wpList_append_own_string _ rfl _ _ 56 9 rfl w.heap.size 5 i0 Tryd.underlying56 Tryd.underlying9 hi hz0 hz1 hz2 _ _ _ rfl hown3 ⟨(escF s[k]).toArray⟩ rfl (by rw [size_mkQ]; unfold maxLen; omega) (by rw [size_mkQ]; omega) (by omega) ?_; intro v4 w4 hown4 hgrow4 _))
      go_roundw
      case rel => exact ⟨k + 1, by omega, by go_num, by rw [quoD_succ s k hlt]; unfold Bys; rw [List.length_append, List.map_append]; exact hown4, (hbl.trans (hb3.mono hsz)).grown hgrow4 (by omega) (fun j e => (World.ownsRow.lt hown3 j e).1)⟩
      case measure => simp [intOf]; omega
    · have hke : k = s.size := by omega
      subst hke
      go_wp2_with (at_builtin; refine wpList_append_own _ rfl _ _ 56 rfl w.heap.size 5 i0 (.int .u8 0) 1 1 Tryd.underlying56 hi hz0 hz1 hz2 rfl (by decide) _ _ _ rfl (World.ownsRow.alloc hown _) ⟨_, 0, none⟩ 1 1 [.int .u8 34] rfl rfl (cell_one_new _ _ _) (by simp [Value.oneCell']) (by unfold maxLen; omega) (by omega) (by simp; omega) ?_; intro v4 w4 hown4 hgrow4 _; have hcv := conv_bys (l := quoD s s.size ++ [34]) (by unfold Bys; rw [List.length_append, List.map_append]; exact hown4))
      go_ret
      exact ⟨by rw [quoD_all]; rfl, (hbl.alloc hsz _).grown hgrow4 (by simp; omega) (fun j e => (World.ownsRow.lt hown j e).1)⟩
end Go.Proofs.YtocmnobcccjenaaDoor
