/- The law WordsNames as a walk. -/
import Derived.Test.YtakmaijbekaflaaDoorWaU
import Derived.Test.YtakmaijbekaflaaDoorWaE
namespace Go.Proofs.YtakmaijbekaflaaDoor
open Go.RowKit

set_option maxRecDepth 100000 in
set_option maxHeartbeats 4000000 in
theorem lawNames_any (s : ByteArray) (lo hi : Int) (w : World) (hw : Lay w) (hlo : -9223372036854775808 ≤ lo) (hlo2 : lo ≤ 9223372036854775807) (hhi0 : -9223372036854775808 ≤ hi) (hhi : hi ≤ 9223372036854775807) :
    Calls Tryd.prog 3 #[.string s, .int .i64 lo, .int .i64 hi] w fun e w' => e = .returned (.bool true) ∧ Below w.heap.size w w' := by
  by_cases hl : s.size ≤ 1000
  · have hs2 : s.size ≤ 9223372036854775807 := by omega
    go_enter Tryd.func3, Tryd.ntmps3
    go_wp2_with fail
    refine (int_any s lo hi w hw (by omega) hlo hhi).mono ?_
    rintro e w1 ⟨rfl, hb1⟩
    have hL1 := hw.next hb1
    go_wp2_with fail
    refine (rint_any s lo hi _ hs2 hlo hhi).mono ?_
    rintro e _ ⟨rfl, rfl⟩
    go_wp2_with fail
    refine (name_any s _ hs2).mono ?_
    rintro e _ ⟨rfl, rfl⟩
    go_wp2_with fail
    refine (rname_any s _ hs2).mono ?_
    rintro e _ ⟨rfl, rfl⟩
    go_wp2_with fail
    refine (digits_any lo _ hL1 hlo hlo2).mono ?_
    rintro e w2 ⟨rfl, hb2⟩
    have hL2 := hL1.next hb2
    go_wp2_with fail
    refine (rdigits_any lo _ hlo hlo2).mono ?_
    rintro e w3 ⟨rfl, hb3⟩
    have hL3 := hL2.next hb3
    go_wp2_with fail
    refine (digits_any hi _ hL3 hhi0 hhi).mono ?_
    rintro e w4 ⟨rfl, hb4⟩
    have hL4 := hL3.next hb4
    go_wp2_with fail
    refine (rdigits_any hi _ hhi0 hhi).mono ?_
    rintro e w5 ⟨rfl, hb5⟩
    have hL5 := hL4.next hb5
    have HB : Hid (Below w.heap.size w w5) := by
      have h2 := hb1.size
      have h3 := hb2.size
      have h4 := hb3.size
      have h5 := hb4.size
      exact (((hb1.trans (hb2.mono h2)).trans (hb3.mono (by omega))).trans (hb4.mono (by omega))).trans (hb5.mono (by omega))
    have hs5 := HB.out.size
    clear hb1 hb2 hb3 hb4 hb5 hL1 hL2 hL3 hL4
    go_wp2_with fail
    refine (shown_any _ hL5).mono ?_
    rintro e w6 ⟨rfl, hb6⟩
    go_wp2_with fail
    go_ret
    exact ⟨rfl, HB.out.trans (hb6.mono hs5)⟩
  · go_enter Tryd.func3, Tryd.ntmps3
    go_wp2_with fail
    refine (shown_any _ hw).mono ?_
    rintro e w6 ⟨rfl, hb6⟩
    go_wp2_with fail
    go_ret
    exact ⟨rfl, hb6⟩
end Go.Proofs.YtakmaijbekaflaaDoor
