/- The law WordsSplits. -/
import Derived.Test.YtakmaijbekaflaaDoorSpB
import Derived.Test.YtakmaijbekaflaaDoorWaU
namespace Go.Proofs.YtakmaijbekaflaaDoor
open Go.RowKit

set_option maxRecDepth 100000

theorem splV_len (s : ByteArray) : (splV (byt s)).length ≤ s.size + 1 := by
  unfold splV
  split
  · unfold splF; rw [List.length_map]; have := ys_len (byt s); rw [byt_len] at this; exact this
  · simp

set_option maxHeartbeats 4000000 in
theorem lawSplits_any (s : ByteArray) (w : World) (hw : Lay w) :
    Calls Tryd.prog 5 #[.string s] w fun e w' => e = .returned (.bool true) ∧ Below w.heap.size w w' := by
  have short : (s.size ≤ 3000 ∨ (8192 < s.size ∧ s.size ≤ 9000)) → Calls Tryd.prog 5 #[.string s] w fun e w' => e = .returned (.bool true) ∧ Below w.heap.size w w' := by
    intro go
    have h9 : s.size ≤ 9000 := by omega
    have hvl := splV_len s
    rcases go with h1 | ⟨h1, h2⟩
    all_goals
      go_enter Tryd.func5, Tryd.ntmps5
      go_wp2_with fail
      refine (split_any s w hw (by omega)).mono ?_
      rintro e w1 ⟨v, rfl, hF, hb1⟩
      have hL1 := hw.next hb1
      obtain ⟨va, vn, vc, rfl⟩ := own_slice hF
      go_wp2_with fail
      refine (rsplit_any s w1 h9).mono ?_
      rintro e w2 ⟨u, rfl, hG, hb2⟩
      have hL2 := hL1.next hb2
      obtain ⟨ua, un, uc, rfl⟩ := own_slice hG
      have hF2 := own_below hF hb2
      go_wp2_with fail
      refine (same_any _ _ (splV (byt s)) (splV (byt s)) _ (Fls.fld hF2) (Fls.fld hG) (by omega) (by omega)).mono ?_
      rintro e w3 ⟨rfl, hb3⟩
      have hL3 := hL2.next hb3
      have HB : Hid (Below w.heap.size w w3) := by
        have h1 := hb1.size
        have h2 := hb2.size
        exact (hb1.trans (hb2.mono h1)).trans (hb3.mono (by omega))
      have hs3 := HB.out.size
      clear hb1 hb2 hb3 hL1 hL2 hF hF2 hG
      go_wp2_with fail
      refine (shown_any _ hL3).mono ?_
      rintro e w6 ⟨rfl, hb6⟩
      go_wp2_with fail
      go_ret
      exact ⟨rfl, HB.out.trans (hb6.mono hs3)⟩
  by_cases h1 : s.size ≤ 3000
  · exact short (.inl h1)
  · by_cases h2 : 8192 < s.size
    · by_cases h3 : s.size ≤ 9000
      · exact short (.inr ⟨h2, h3⟩)
      · go_enter Tryd.func5, Tryd.ntmps5
        go_wp2_with fail
        refine (shown_any _ hw).mono ?_
        rintro e w6 ⟨rfl, hb6⟩
        go_wp2_with fail
        go_ret
        exact ⟨rfl, hb6⟩
    · go_enter Tryd.func5, Tryd.ntmps5
      go_wp2_with fail
      refine (shown_any _ hw).mono ?_
      rintro e w6 ⟨rfl, hb6⟩
      go_wp2_with fail
      go_ret
      exact ⟨rfl, hb6⟩
end Go.Proofs.YtakmaijbekaflaaDoor
