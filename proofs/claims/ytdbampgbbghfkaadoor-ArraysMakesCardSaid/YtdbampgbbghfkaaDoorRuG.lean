/- Encode. -/
import Derived.Test.YtdbampgbbghfkaaDoorRuE
namespace Go.Proofs.YtdbampgbbghfkaaDoor.Ru
open Go.RowKit

theorem append_any (B : Nat) (r : Nat) (v : Value) (l : List UInt8) (w : World) (hw : Lay w) (hB : B ≤ w.heap.size) (hown : Bys w B v l) (hl : l.length ≤ 70368744177664) (hr : isR (r : Int) = true) :
    Calls Tryd.prog 54 #[v, .int .i64 r] w fun e w' => ∃ v', e = .returned v' ∧ Bys w' B v' (l ++ enc r) ∧ Below B w w' := by
  have hb : (r : Int) ≤ 1114111 := by simp [isR] at hr; omega
  by_cases h1 : (r : Int) < 128
  · exact append_1 B r v l w hw hB hown hl h1
  by_cases h2 : (r : Int) < 2048
  · exact append_2 B r v l w hw hB hown hl h1 h2
  by_cases h3 : (r : Int) < 65536
  · exact append_3 B r v l w hw hB hown hl h2 h3
  · exact append_4 B r v l w hw hB hown hl h3 hb

end Go.Proofs.YtdbampgbbghfkaaDoor.Ru
