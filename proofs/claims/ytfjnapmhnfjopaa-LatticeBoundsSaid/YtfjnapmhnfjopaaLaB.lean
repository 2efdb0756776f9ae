/- The law LatticeBounds as a walk. -/
import Derived.Test.YtfjnapmhnfjopaaLtP
namespace Go.Proofs.Ytfjnapmhnfjopaa
open Go.RowKit

set_option maxRecDepth 100000 in
set_option maxHeartbeats 8000000 in
theorem lawBounds_any (v : Value) (ns : List ByteArray) (up : List UInt8) (w : World) (hv : RdL w.heap.size w v ns up) :
    Calls Try.prog 7 #[v] w fun e w' => e = .returned (.bool true) ∧ Below w.heap.size w w' := by
  have HL := Lib.hid hv
  obtain ⟨⟨vn, vu, rfl, hS, hB⟩, hsz⟩ := hv
  obtain ⟨p, cap, rfl, hc, hc2, h⟩ := hS
  obtain ⟨q, cap', rfl, hc', hc2', h'⟩ := hB
  clear h h' hsz
  have HI := Lib.hid (Bx.new HL.out)
  cases e0 : farB ns up with
  | true =>
    go_enter Try.func7, Try.ntmps7
    go_wp2_with (first
    | (go_at_call 11; refine (far_any _ ns up _ HI.out.rd).mono ?_; rintro e w' ⟨rfl, hbn⟩; have HI2 := Lib.hid (HI.out.next hbn); clear HI hbn; have HI := HI2; clear HI2; have hx0 := HI.out.x0; have hx1 := HI.out.x1)
    | (go_at_call 13; refine (awake_any _).mono ?_; rintro e w' ⟨rfl, hbn⟩; clear hx0 hx1; have HI2 := Lib.hid (HI.out.next hbn); clear HI hbn; have HI := HI2; clear HI2; have hx0 := HI.out.x0; have hx1 := HI.out.x1))
    go_ret
    exact ⟨rfl, HI.out.bel⟩
  | false =>
    cases e1 : ((ck ns up).2 != 0) with
    | true =>
      go_enter Try.func7, Try.ntmps7
      go_wp2_with (first
    | (go_at_call 11; refine (far_any _ ns up _ HI.out.rd).mono ?_; rintro e w' ⟨rfl, hbn⟩; have HI2 := Lib.hid (HI.out.next hbn); clear HI hbn; have HI := HI2; clear HI2; have hx0 := HI.out.x0; have hx1 := HI.out.x1)
    | (go_at_call 14; refine (check_any _ ns up _ HI.out.rd).mono ?_; rintro e w' ⟨rfl, hbn⟩; clear hx0 hx1; have HI2 := Lib.hid (HI.out.next hbn); clear HI hbn; have HI := HI2; clear HI2; have hx0 := HI.out.x0; have hx1 := HI.out.x1)
    | (go_at_call 13; refine (awake_any _).mono ?_; rintro e w' ⟨rfl, hbn⟩; clear hx0 hx1; have HI2 := Lib.hid (HI.out.next hbn); clear HI hbn; have HI := HI2; clear HI2; have hx0 := HI.out.x0; have hx1 := HI.out.x1))
      go_ret
      exact ⟨rfl, HI.out.bel⟩
    | false =>
      have hg : Good ns up := good_of (by simpa using e1)
      have HG := Lib.hid hg
      have HO := Lib.hid hg.ords
      have hln := hg.len
      have hn0 : 0 < up.length := by have := hg.pos; omega
      have hn8 : up.length ≤ 8 := by have := hg.most; omega
      have hle1 : ns.length ≤ up.length := by omega
      have hle2 : up.length ≤ ns.length := by omega
      clear hg hln
      obtain ⟨bt, hbt⟩ : ∃ bt, bt = endF (ge up) up.length up.length := ⟨_, rfl⟩
      obtain ⟨tp, htp⟩ : ∃ tp, tp = endF (le up) up.length up.length := ⟨_, rfl⟩
      have hbl : bt < up.length := by rw [hbt]; exact HO.out.2.end_lt _ (Nat.le_refl _) hn0
      have htl : tp < up.length := by rw [htp]; exact HO.out.1.end_lt _ (Nat.le_refl _) hn0
      have HBt : Hid (∀ a, a < up.length → le up bt a = true) := by unfold Hid; rw [hbt]; exact HO.out.2.end_top _ (Nat.le_refl _) hn0
      have HTp : Hid (∀ a, a < up.length → le up a tp = true) := by unfold Hid; rw [htp]; exact HO.out.1.end_top _ (Nat.le_refl _) hn0
      have HBo : Hid (∀ W, RdL W.heap.size W (.agg #[.slice p ns.length cap, .slice q up.length cap']) ns up → Calls Try.prog 25 #[.agg #[.slice p ns.length cap, .slice q up.length cap']] W fun e w' => e = .returned (.tuple #[.int .i64 bt, .int .i64 0]) ∧ Below W.heap.size W w') := fun W hv => by rw [hbt]; exact bottom_ok _ ns up W hv HG.out
      have HTo : Hid (∀ W, RdL W.heap.size W (.agg #[.slice p ns.length cap, .slice q up.length cap']) ns up → Calls Try.prog 27 #[.agg #[.slice p ns.length cap, .slice q up.length cap']] W fun e w' => e = .returned (.tuple #[.int .i64 tp, .int .i64 0]) ∧ Below W.heap.size W w') := fun W hv => by rw [htp]; exact top_ok _ ns up W hv HG.out
      clear hbt htp
      have HCK := Lib.hid HG.out.ck
      go_enter Try.func7, Try.ntmps7
      go_wp2_with (first
    | (go_at_call 11; refine (far_any _ ns up _ HI.out.rd).mono ?_; rintro e w' ⟨rfl, hbn⟩; have HI2 := Lib.hid (HI.out.next hbn); clear HI hbn; have HI := HI2; clear HI2; have hx0 := HI.out.x0; have hx1 := HI.out.x1)
    | (go_at_call 14; refine (check_any _ ns up _ HI.out.rd).mono ?_; rintro e w' ⟨rfl, hbn⟩; clear hx0 hx1; have HI2 := Lib.hid (HI.out.next hbn); clear HI hbn; have HI := HI2; clear HI2; have hx0 := HI.out.x0; have hx1 := HI.out.x1)
    | (go_at_call 25; refine (HBo.out _ HI.out.rd).mono ?_; rintro e w' ⟨rfl, hbn⟩; clear hx0 hx1; have HI2 := Lib.hid (HI.out.next hbn); clear HI hbn; have HI := HI2; clear HI2; have hx0 := HI.out.x0; have hx1 := HI.out.x1)
    | (go_at_call 27; refine (HTo.out _ HI.out.rd).mono ?_; rintro e w' ⟨rfl, hbn⟩; clear hx0 hx1; have HI2 := Lib.hid (HI.out.next hbn); clear HI hbn; have HI := HI2; clear HI2; have hx0 := HI.out.x0; have hx1 := HI.out.x1))
      clear hx0 hx1 e0 e1
      go_loopg [10] ns.length (fun g i wr => ∃ a : Nat, a + g = ns.length ∧ i = .int .i64 a ∧ Bx w (.slice p ns.length cap) (.slice q up.length cap') ns up wr)
      case atStart => exact ⟨0, by omega, rfl, HI.out⟩
      case round =>
        clear HI
        obtain ⟨a, hag, rfl, hix⟩ := hrel
        have HI := Lib.hid hix
        have hx0 := hix.x0
        have hx1 := hix.x1
        clear hix
        cases gk with
        | zero =>
          have haz : ¬ ((a : Int) < (ns.length : Int)) := by omega
          go_wp2_with (first
    | (go_at_call 13; refine (awake_any _).mono ?_; rintro e w' ⟨rfl, hbn⟩; clear hx0 hx1; have HI2 := Lib.hid (HI.out.next hbn); clear HI hbn; have HI := HI2; clear HI2; have hx0 := HI.out.x0; have hx1 := HI.out.x1))
          go_ret
          exact ⟨rfl, HI.out.bel⟩
        | succ g =>
          have halt : (a : Int) < (ns.length : Int) := by omega
          have l1 := HBt.out a (by omega)
          have l2 := HTp.out a (by omega)
          go_wp2_with (first
    | (go_at_call 40; refine (below_ok _ ns up _ _ _ HI.out.rd HG.out (by omega) (by omega)).mono ?_; rintro e w' ⟨rfl, hbn⟩; clear hx0 hx1; have HI2 := Lib.hid (HI.out.next hbn); clear HI hbn; have HI := HI2; clear HI2; have hx0 := HI.out.x0; have hx1 := HI.out.x1))
          clear hx0 hx1 l1 l2
          go_loopg [11] ns.length (fun g i wr => ∃ b : Nat, b + g = ns.length ∧ i = .int .i64 b ∧ Bx w (.slice p ns.length cap) (.slice q up.length cap') ns up wr)
          case atStart => exact ⟨0, by omega, rfl, HI.out⟩
          case round =>
            clear HI
            obtain ⟨b, hbg, rfl, hix⟩ := hrel
            have HI := Lib.hid hix
            have hx0 := hix.x0
            have hx1 := hix.x1
            clear hix
            cases gk with
            | zero =>
              have hbz : ¬ ((b : Int) < (ns.length : Int)) := by omega
              go_wp2
              go_roundg g
              case measure => omega
              case rel => exact ⟨a + 1, by omega, by go_num, HI.out⟩
            | succ g2 =>
              have hblt : (b : Int) < (ns.length : Int) := by omega
              obtain ⟨j, hj⟩ : ∃ j, j = J (le up) up.length a b := ⟨_, rfl⟩
              obtain ⟨m, hm⟩ : ∃ m, m = J (ge up) up.length a b := ⟨_, rfl⟩
              have hjl : j < up.length := by rw [hj]; exact HO.out.1.J_lt (by omega) (by omega)
              have hml : m < up.length := by rw [hm]; exact HO.out.2.J_lt (by omega) (by omega)
              have l1 : le up a j = true := by rw [hj]; exact HO.out.1.J_l (by omega) (by omega)
              have l2 : le up b j = true := by rw [hj]; exact HO.out.1.J_r (by omega) (by omega)
              have l3 : le up m a = true := by rw [hm]; exact HO.out.2.J_l (by omega) (by omega)
              have l4 : le up m b = true := by rw [hm]; exact HO.out.2.J_r (by omega) (by omega)
              have HLj : Hid (∀ c, c < up.length → le up a c = true → le up b c = true → le up j c = true) := fun c hc h1 h2 => by rw [hj]; exact HO.out.1.J_min (by omega) (by omega) hc h1 h2
              have HLm : Hid (∀ c, c < up.length → le up c a = true → le up c b = true → le up c m = true) := fun c hc h1 h2 => by rw [hm]; exact HO.out.2.J_min (by omega) (by omega) hc h1 h2
              have HJo : Hid (∀ W, RdL W.heap.size W (.agg #[.slice p ns.length cap, .slice q up.length cap']) ns up → Calls Try.prog 21 #[.agg #[.slice p ns.length cap, .slice q up.length cap'], .int .i64 a, .int .i64 b] W fun e w' => e = .returned (.tuple #[.int .i64 j, .int .i64 0]) ∧ Below W.heap.size W w') := fun W hv => by rw [hj]; exact join_ok _ ns up a b W hv HG.out (by omega) (by omega)
              have HMe : Hid (∀ W, RdL W.heap.size W (.agg #[.slice p ns.length cap, .slice q up.length cap']) ns up → Calls Try.prog 23 #[.agg #[.slice p ns.length cap, .slice q up.length cap'], .int .i64 a, .int .i64 b] W fun e w' => e = .returned (.tuple #[.int .i64 m, .int .i64 0]) ∧ Below W.heap.size W w') := fun W hv => by rw [hm]; exact meet_ok _ ns up a b W hv HG.out (by omega) (by omega)
              clear hj hm
              go_wp2_with (first
    | (go_at_call 21; refine (HJo.out _ HI.out.rd).mono ?_; rintro e w' ⟨rfl, hbn⟩; clear hx0 hx1; have HI2 := Lib.hid (HI.out.next hbn); clear HI hbn; have HI := HI2; clear HI2; have hx0 := HI.out.x0; have hx1 := HI.out.x1)
    | (go_at_call 23; refine (HMe.out _ HI.out.rd).mono ?_; rintro e w' ⟨rfl, hbn⟩; clear hx0 hx1; have HI2 := Lib.hid (HI.out.next hbn); clear HI hbn; have HI := HI2; clear HI2; have hx0 := HI.out.x0; have hx1 := HI.out.x1)
    | (go_at_call 40; refine (below_ok _ ns up _ _ _ HI.out.rd HG.out (by omega) (by omega)).mono ?_; rintro e w' ⟨rfl, hbn⟩; clear hx0 hx1; have HI2 := Lib.hid (HI.out.next hbn); clear HI hbn; have HI := HI2; clear HI2; have hx0 := HI.out.x0; have hx1 := HI.out.x1))
              clear hx0 hx1 l1 l2 l3 l4 HJo HMe
              go_loopg [16] ns.length (fun g i wr => ∃ c : Nat, c + g = ns.length ∧ i = .int .i64 c ∧ Bx w (.slice p ns.length cap) (.slice q up.length cap') ns up wr)
              case atStart => exact ⟨0, by omega, rfl, HI.out⟩
              case round =>
                clear HI
                obtain ⟨c, hcg, rfl, hix⟩ := hrel
                have HI := Lib.hid hix
                have hx0 := hix.x0
                have hx1 := hix.x1
                clear hix
                cases gk with
                | zero =>
                  have hcz : ¬ ((c : Int) < (ns.length : Int)) := by omega
                  go_wp2
                  go_roundg g2
                  case measure => omega
                  case rel => exact ⟨b + 1, by omega, by go_num, HI.out⟩
                | succ g3 =>
                  have hclt : (c : Int) < (ns.length : Int) := by omega
                  have HJc := Lib.hid (HLj.out c (by omega))
                  have HMc := Lib.hid (HLm.out c (by omega))
                  cases c1 : le up a c with
                  | false =>
                    cases c3 : le up c a with
                    | false =>
                      go_wp2_with (go_at_call 40; refine (below_ok _ ns up _ _ _ HI.out.rd HG.out (by omega) (by omega)).mono ?_; rintro e w' ⟨rfl, hbn⟩; clear hx0 hx1; have HI2 := Lib.hid (HI.out.next hbn); clear HI hbn; have HI := HI2; clear HI2; have hx0 := HI.out.x0; have hx1 := HI.out.x1)
                      go_roundg g3
                      case measure => omega
                      case rel => exact ⟨c + 1, by omega, by go_num, HI.out⟩
                    | true =>
                      cases c4 : le up c b with
                      | false =>
                        go_wp2_with (go_at_call 40; refine (below_ok _ ns up _ _ _ HI.out.rd HG.out (by omega) (by omega)).mono ?_; rintro e w' ⟨rfl, hbn⟩; clear hx0 hx1; have HI2 := Lib.hid (HI.out.next hbn); clear HI hbn; have HI := HI2; clear HI2; have hx0 := HI.out.x0; have hx1 := HI.out.x1)
                        go_roundg g3
                        case measure => omega
                        case rel => exact ⟨c + 1, by omega, by go_num, HI.out⟩
                      | true =>
                        have c6 := HMc.out c3 c4
                        go_wp2_with (go_at_call 40; refine (below_ok _ ns up _ _ _ HI.out.rd HG.out (by omega) (by omega)).mono ?_; rintro e w' ⟨rfl, hbn⟩; clear hx0 hx1; have HI2 := Lib.hid (HI.out.next hbn); clear HI hbn; have HI := HI2; clear HI2; have hx0 := HI.out.x0; have hx1 := HI.out.x1)
                        go_roundg g3
                        case measure => omega
                        case rel => exact ⟨c + 1, by omega, by go_num, HI.out⟩
                  | true =>
                    cases c2 : le up b c with
                    | false =>
                      cases c3 : le up c a with
                      | false =>
                        go_wp2_with (go_at_call 40; refine (below_ok _ ns up _ _ _ HI.out.rd HG.out (by omega) (by omega)).mono ?_; rintro e w' ⟨rfl, hbn⟩; clear hx0 hx1; have HI2 := Lib.hid (HI.out.next hbn); clear HI hbn; have HI := HI2; clear HI2; have hx0 := HI.out.x0; have hx1 := HI.out.x1)
                        go_roundg g3
                        case measure => omega
                        case rel => exact ⟨c + 1, by omega, by go_num, HI.out⟩
                      | true =>
                        cases c4 : le up c b with
                        | false =>
                          go_wp2_with (go_at_call 40; refine (below_ok _ ns up _ _ _ HI.out.rd HG.out (by omega) (by omega)).mono ?_; rintro e w' ⟨rfl, hbn⟩; clear hx0 hx1; have HI2 := Lib.hid (HI.out.next hbn); clear HI hbn; have HI := HI2; clear HI2; have hx0 := HI.out.x0; have hx1 := HI.out.x1)
                          go_roundg g3
                          case measure => omega
                          case rel => exact ⟨c + 1, by omega, by go_num, HI.out⟩
                        | true =>
                          have c6 := HMc.out c3 c4
                          go_wp2_with (go_at_call 40; refine (below_ok _ ns up _ _ _ HI.out.rd HG.out (by omega) (by omega)).mono ?_; rintro e w' ⟨rfl, hbn⟩; clear hx0 hx1; have HI2 := Lib.hid (HI.out.next hbn); clear HI hbn; have HI := HI2; clear HI2; have hx0 := HI.out.x0; have hx1 := HI.out.x1)
                          go_roundg g3
                          case measure => omega
                          case rel => exact ⟨c + 1, by omega, by go_num, HI.out⟩
                    | true =>
                      have c5 := HJc.out c1 c2
                      cases c3 : le up c a with
                      | false =>
                        go_wp2_with (go_at_call 40; refine (below_ok _ ns up _ _ _ HI.out.rd HG.out (by omega) (by omega)).mono ?_; rintro e w' ⟨rfl, hbn⟩; clear hx0 hx1; have HI2 := Lib.hid (HI.out.next hbn); clear HI hbn; have HI := HI2; clear HI2; have hx0 := HI.out.x0; have hx1 := HI.out.x1)
                        go_roundg g3
                        case measure => omega
                        case rel => exact ⟨c + 1, by omega, by go_num, HI.out⟩
                      | true =>
                        cases c4 : le up c b with
                        | false =>
                          go_wp2_with (go_at_call 40; refine (below_ok _ ns up _ _ _ HI.out.rd HG.out (by omega) (by omega)).mono ?_; rintro e w' ⟨rfl, hbn⟩; clear hx0 hx1; have HI2 := Lib.hid (HI.out.next hbn); clear HI hbn; have HI := HI2; clear HI2; have hx0 := HI.out.x0; have hx1 := HI.out.x1)
                          go_roundg g3
                          case measure => omega
                          case rel => exact ⟨c + 1, by omega, by go_num, HI.out⟩
                        | true =>
                          have c6 := HMc.out c3 c4
                          go_wp2_with (go_at_call 40; refine (below_ok _ ns up _ _ _ HI.out.rd HG.out (by omega) (by omega)).mono ?_; rintro e w' ⟨rfl, hbn⟩; clear hx0 hx1; have HI2 := Lib.hid (HI.out.next hbn); clear HI hbn; have HI := HI2; clear HI2; have hx0 := HI.out.x0; have hx1 := HI.out.x1)
                          go_roundg g3
                          case measure => omega
                          case rel => exact ⟨c + 1, by omega, by go_num, HI.out⟩
end Go.Proofs.Ytfjnapmhnfjopaa
