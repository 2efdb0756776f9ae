/- Encode. -/
import Derived.Test.YtomffjaeafcpdaaDoorRuE
namespace Go.Proofs.YtomffjaeafcpdaaDoor
open Go.RowKit

theorem append_any (B : Nat) (r : Nat) (v : Value) (l : List UInt8) (w : World) (hw : Lay w) (hB : B ≤ w.heap.size) (hown : Bys w B v l) (hl : l.length ≤ 70368744177664) (hr : isR (r : Int) = true) :
    Calls Tryd.prog 34 #[v, .int .i64 r] w fun e w' => ∃ v', e = .returned v' ∧ Bys w' B v' (l ++ enc r) ∧ Below B w w' := by
  have hb : (r : Int) ≤ 1114111 := by simp [isR] at hr; omega
  by_cases h1 : (r : Int) < 128
  · exact append_1 B r v l w hw hB hown hl h1
  by_cases h2 : (r : Int) < 2048
  · exact append_2 B r v l w hw hB hown hl h1 h2
  by_cases h3 : (r : Int) < 65536
  · exact append_3 B r v l w hw hB hown hl h2 h3
  · exact append_4 B r v l w hw hB hown hl h3 hb

set_option maxHeartbeats 400000 in
theorem encode_ok (r : Nat) (w : World) (hw : Lay w) (hr : isR (r : Int) = true) :
    Calls Tryd.prog 9 #[.int .i64 r] w fun e w' => ∃ v, e = .returned (.tuple #[v, .int .i64 0]) ∧ Bys w' w.heap.size v (enc r) ∧ Below w.heap.size w w' := by
  have H := Lib.hid (append_any w.heap.size r (.slice none 0 0) [] w hw (Nat.le_refl _) (World.ownsRow_nil _ _ _ _) (by decide) hr)
  go_enter Tryd.func9, Tryd.ntmps9
  go_wp2_with (first
    | (go_at_call 33; refine (isRune_any _ _).mono ?_; rintro e w' ⟨rfl, rfl⟩)
    | (go_at_call 34; refine H.out.mono ?_; rintro e w' ⟨v, rfl, hv, hb⟩))
  go_ret2
  exact ⟨_, rfl, hv, hb⟩
set_option maxHeartbeats 400000 in
theorem encode_bad (r : Int) (w : World) (hr : isR r = false) :
    Calls Tryd.prog 9 #[.int .i64 r] w fun e w' => e = .returned (.tuple #[.slice none 0 0, .int .i64 7]) ∧ w = w' := by
  go_enter Tryd.func9, Tryd.ntmps9
  go_wp2_with (go_at_call 33; refine (isRune_any _ _).mono ?_; rintro e w' ⟨rfl, rfl⟩)
  go_ret2
  exact ⟨rfl, rfl⟩
end Go.Proofs.YtomffjaeafcpdaaDoor
