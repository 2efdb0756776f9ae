/- Covers of the reference. -/
import Derived.Test.YtfjnapmhnfjopaaLtFi
namespace Go.Proofs.Ytfjnapmhnfjopaa
open Go.RowKit

theorem bx_up {w wr w' : World} {vn vu : Value} {ns : List ByteArray} {up : List UInt8} (h : Bx w vn vu ns up wr) (hb : Below (w.heap.size + 1) wr w') (hr : RdL w.heap.size w (.agg #[vn, vu]) ns up) : Bx w vn vu ns up w' := by
  have hb' : Below w.heap.size w w' := h.bel.trans (hb.mono (Nat.le_succ _))
  exact ⟨hb', Nat.lt_of_lt_of_le h.lt hb.size, (hb.cell (p := ⟨w.heap.size, 0, none⟩) (Nat.lt_succ_self _)).trans h.x0, (hb.cell (p := ⟨w.heap.size, 1, none⟩) (Nat.lt_succ_self _)).trans h.x1, hr.next hb'⟩

theorem fl_no {f : Bool} {c : Nat} {p : Nat → Bool} (h : f = !(List.range c).any p) (h2 : p c = false) : f = !(List.range (c + 1)).any p := by
  rw [List.range_succ, List.any_append, h]; simp [h2]
theorem fl_yes {c : Nat} {p : Nat → Bool} (h2 : p c = true) : false = !(List.range (c + 1)).any p := by
  rw [List.range_succ, List.any_append]; simp [h2]

set_option maxRecDepth 100000 in
set_option maxHeartbeats 8000000 in
theorem rcovers_ok (v : Value) (ns : List ByteArray) (up : List UInt8) (w : World) (hv : RdL w.heap.size w v ns up) (hg : Good ns up) :
    Calls Try.prog 32 #[v] w fun e w' => ∃ u, e = .returned (.tuple #[u, .int .i64 0]) ∧ RdP w'.heap.size w' u (cov up up.length) ∧ Below w.heap.size w w' := by
  have HL := Lib.hid hv
  obtain ⟨⟨vn, vu, rfl, hS, hB⟩, hsz⟩ := hv
  obtain ⟨p, cap, rfl, hc, hc2, h⟩ := hS
  obtain ⟨q, cap', rfl, hc', hc2', h'⟩ := hB
  clear h h' hsz
  have HI := Lib.hid (Bx.new HL.out)
  have hu8 : up.length ≤ 8 := hg.n8
  have hle1 : ns.length ≤ up.length := by have := hg.len; omega
  have hle2 : up.length ≤ ns.length := by have := hg.len; omega
  have H0 := Lib.hid hg.ck
  clear hg
  obtain ⟨i0, hi, hz0, hz1, hz2⟩ := info_parts info55
  go_enter Try.func32, Try.ntmps32
  go_wp2_with (go_at_call 15; refine (rcheck_any _ ns up _ HI.out.rd).mono ?_; rw [H0.out]; rintro e w' ⟨rfl, hbn⟩; have HI2 := Lib.hid (HI.out.next hbn); clear HI; have HI := HI2; clear HI2; have hx0 := HI.out.x0; have hx1 := HI.out.x1; clear hbn)
  clear hx0 hx1
  go_loopg [7, 8] ns.length (fun g v i wr => ∃ a : Nat, a + g = ns.length ∧ i = .int .i64 a ∧ Bx w (.slice p ns.length cap) (.slice q up.length cap') ns up wr ∧ Prs wr (w.heap.size + 1) v (cov up a))
  case atStart => exact ⟨0, by omega, rfl, HI.out, World.ownsRow_nil _ _ _ _⟩
  case round =>
    clear HI
    obtain ⟨a, hag, rfl, hix, hrow⟩ := hrel
    have HI := Lib.hid hix
    have hx0 := hix.x0
    have hx1 := hix.x1
    clear hix
    cases gk with
    | zero =>
      have haz : ¬ ((a : Int) < (ns.length : Int)) := by omega
      have HA : Hid (a = up.length) := by unfold Hid; omega
      go_wp2_with fail
      go_ret2
      exact ⟨_, rfl, by rw [← HA.out]; exact hrow.rd, HI.out.bel⟩
    | succ g =>
      have halt : (a : Int) < (ns.length : Int) := by omega
      have hcl := cov_len up a
      have hcm : a * up.length ≤ 64 := Nat.le_trans (Nat.mul_le_mul (by omega : a ≤ 8) hu8) (by decide)
      have hck : (cov up a).length ≤ 64 := by omega
      clear hcl hcm
      go_wp2_with fail
      clear hx0 hx1
      go_loopg [7, 9] ns.length (fun g v i wr => ∃ (b : Nat) (V : Value), b + g = ns.length ∧ i = .int .i64 b ∧ V = v ∧ Bx w (.slice p ns.length cap) (.slice q up.length cap') ns up wr ∧ Prs wr (w.heap.size + 1) V (cov up a ++ covR up a b))
      case atStart => exact ⟨0, _, by omega, rfl, rfl, HI.out, by simpa [covR] using hrow⟩
      case round =>
        clear HI hrow
        obtain ⟨b, V, hbg, rfl, rfl, hix, hrow⟩ := hrel
        have HI := Lib.hid hix
        have hx0 := hix.x0
        have hx1 := hix.x1
        have HP := Lib.hid hrow
        clear hix hrow
        cases gk with
        | zero =>
          have hbz : ¬ ((b : Int) < (ns.length : Int)) := by omega
          have HB : Hid (b = up.length) := by unfold Hid; omega
          go_wp2_with fail
          go_roundg g
          case measure => omega
          case rel => exact ⟨a + 1, by omega, by go_num, HI.out, by rw [cov_succ, ← HB.out]; exact HP.out⟩
        | succ g3 =>
          have hblt : (b : Int) < (ns.length : Int) := by omega
          cases e0 : ((a : Int) == (b : Int)) with
          | true =>
            have HS : Hid (covR up a (b + 1) = covR up a b) := covR_no (by unfold st; rw [e0]; rfl)
            go_wp2_with (go_at_call 55; refine (rbel_any _ ns up _ _ _ HI.out.rd (by omega) (by omega)).mono ?_; rintro e w' ⟨rfl, hbn⟩; clear hx0 hx1; have HP2 := Lib.hid (own_below HP.out hbn); clear HP; have HP := HP2; clear HP2; have HI2 := Lib.hid (HI.out.next hbn); clear HI; have HI := HI2; clear HI2; have hx0 := HI.out.x0; have hx1 := HI.out.x1; clear hbn)
            go_roundg g3
            case measure => omega
            case rel => exact ⟨b + 1, _, by omega, by go_num, rfl, HI.out, by rw [HS.out]; exact HP.out⟩
          | false =>
            cases e1 : le up a b with
            | false =>
              have HS : Hid (covR up a (b + 1) = covR up a b) := covR_no (by unfold st; rw [e0, e1]; rfl)
              go_wp2_with (go_at_call 55; refine (rbel_any _ ns up _ _ _ HI.out.rd (by omega) (by omega)).mono ?_; rintro e w' ⟨rfl, hbn⟩; clear hx0 hx1; have HP2 := Lib.hid (own_below HP.out hbn); clear HP; have HP := HP2; clear HP2; have HI2 := Lib.hid (HI.out.next hbn); clear HI; have HI := HI2; clear HI2; have hx0 := HI.out.x0; have hx1 := HI.out.x1; clear hbn)
              go_roundg g3
              case measure => omega
              case rel => exact ⟨b + 1, _, by omega, by go_num, rfl, HI.out, by rw [HS.out]; exact HP.out⟩
            | true =>
              have HSt : Hid (st up a b = !(List.range up.length).any (st1 up a b)) := by unfold Hid st; rw [e0, e1]; rfl
              go_wp2_with (go_at_call 55; refine (rbel_any _ ns up _ _ _ HI.out.rd (by omega) (by omega)).mono ?_; rintro e w' ⟨rfl, hbn⟩; clear hx0 hx1; have HP2 := Lib.hid (own_below HP.out hbn); clear HP; have HP := HP2; clear HP2; have HI2 := Lib.hid (HI.out.next hbn); clear HI; have HI := HI2; clear HI2; have hx0 := HI.out.x0; have hx1 := HI.out.x1; clear hbn)
              clear hx0 hx1 e0 e1
              go_loopg [10, 11] ns.length (fun g fl i wr => ∃ (c : Nat) (f : Bool), c + g = ns.length ∧ i = .int .i64 c ∧ fl = .bool f ∧ Bx w (.slice p ns.length cap) (.slice q up.length cap') ns up wr ∧ Prs wr (w.heap.size + 1) V (cov up a ++ covR up a b) ∧ Hid (f = !(List.range c).any (st1 up a b)))
              case atStart => exact ⟨0, true, by omega, rfl, rfl, HI.out, HP.out, rfl⟩
              case round =>
                clear HI HP
                obtain ⟨c, f, hcg, rfl, rfl, hix, hrow, hf⟩ := hrel
                have HI := Lib.hid hix
                have hx0 := hix.x0
                have hx1 := hix.x1
                have HP := Lib.hid hrow
                clear hix
                cases gk with
                | zero =>
                  have hcz : ¬ ((c : Int) < (ns.length : Int)) := by omega
                  have HF : Hid (f = st up a b) := by
                    have := hf.out
                    rw [show c = up.length by omega] at this
                    unfold Hid; rw [this, HSt.out]
                  clear hf
                  cases f with
                  | false =>
                    have HS : Hid (covR up a (b + 1) = covR up a b) := covR_no HF.out.symm
                    clear hrow
                    go_wp2_with fail
                    go_roundg g3
                    case measure => omega
                    case rel => exact ⟨b + 1, _, by omega, by go_num, rfl, HI.out, by rw [HS.out]; exact HP.out⟩
                  | true =>
                    have HS : Hid (covR up a (b + 1) = covR up a b ++ [(a, b)]) := covR_yes HF.out.symm
                    have hlj := covR_len up a b
                    have hln : (cov up a ++ covR up a b).length ≤ 72 := by rw [List.length_append]; omega
                    clear HP
                    generalize hL : cov up a ++ covR up a b = L at hrow hln
                    have HLL := Lib.hid hL; clear hL hlj
                    have hwr := HI.out.lt
                    go_wp2_with (at_builtin; refine wpList_append_own _ rfl _ _ 41 rfl (w.heap.size + 1) 55 i0 (.agg #[.int .i64 0, .int .i64 0]) 2 16 Try.underlying41 hi hz0 hz1 hz2 rfl (by decide) _ _ _ rfl (World.ownsRow.alloc hrow _) ⟨wr.heap.size, 0, none⟩ 1 1 [.int .i64 a, .int .i64 b] rfl rfl (cells_new wr #[.int .i64 a, .int .i64 b] _ _) (by simp [Value.oneCell']) (by unfold maxLen; omega) (by omega) (by simp; omega) ?_; intro v4 w4 hown4 hgrow4 _)
                    go_roundg g3
                    case measure => omega
                    case rel => exact ⟨b + 1, _, by omega, by go_num, rfl, bx_up HI.out (((Below.refl (w.heap.size + 1) wr).alloc (by omega) _).grown hgrow4 (by simp; omega) (fun j e => (World.ownsRow.lt hrow j e).1)) HL.out, by rw [HS.out, ← List.append_assoc, HLL.out]; exact prs_snoc hown4⟩
                | succ g4 =>
                  have hclt : (c : Int) < (ns.length : Int) := by omega
                  clear hrow
                  cases c1 : ((c : Int) != (a : Int)) with
                  | false =>
                    have HQ : Hid (f = !(List.range (c + 1)).any (st1 up a b)) := fl_no hf.out (st1_f (.inl c1))
                    go_wp2_with (go_at_call 55; refine (rbel_any _ ns up _ _ _ HI.out.rd (by omega) (by omega)).mono ?_; rintro e w' ⟨rfl, hbn⟩; clear hx0 hx1; have HP2 := Lib.hid (own_below HP.out hbn); clear HP; have HP := HP2; clear HP2; have HI2 := Lib.hid (HI.out.next hbn); clear HI; have HI := HI2; clear HI2; have hx0 := HI.out.x0; have hx1 := HI.out.x1; clear hbn)
                    go_roundg g4
                    case measure => omega
                    case rel => exact ⟨c + 1, f, by omega, by go_num, rfl, HI.out, HP.out, HQ⟩
                  | true =>
                    cases c2 : ((c : Int) != (b : Int)) with
                    | false =>
                      have HQ : Hid (f = !(List.range (c + 1)).any (st1 up a b)) := fl_no hf.out (st1_f (.inr (.inl c2)))
                      go_wp2_with (go_at_call 55; refine (rbel_any _ ns up _ _ _ HI.out.rd (by omega) (by omega)).mono ?_; rintro e w' ⟨rfl, hbn⟩; clear hx0 hx1; have HP2 := Lib.hid (own_below HP.out hbn); clear HP; have HP := HP2; clear HP2; have HI2 := Lib.hid (HI.out.next hbn); clear HI; have HI := HI2; clear HI2; have hx0 := HI.out.x0; have hx1 := HI.out.x1; clear hbn)
                      go_roundg g4
                      case measure => omega
                      case rel => exact ⟨c + 1, f, by omega, by go_num, rfl, HI.out, HP.out, HQ⟩
                    | true =>
                      cases c3 : le up a c with
                      | false =>
                        have HQ : Hid (f = !(List.range (c + 1)).any (st1 up a b)) := fl_no hf.out (st1_f (.inr (.inr (.inl c3))))
                        go_wp2_with (go_at_call 55; refine (rbel_any _ ns up _ _ _ HI.out.rd (by omega) (by omega)).mono ?_; rintro e w' ⟨rfl, hbn⟩; clear hx0 hx1; have HP2 := Lib.hid (own_below HP.out hbn); clear HP; have HP := HP2; clear HP2; have HI2 := Lib.hid (HI.out.next hbn); clear HI; have HI := HI2; clear HI2; have hx0 := HI.out.x0; have hx1 := HI.out.x1; clear hbn)
                        go_roundg g4
                        case measure => omega
                        case rel => exact ⟨c + 1, f, by omega, by go_num, rfl, HI.out, HP.out, HQ⟩
                      | true =>
                        cases c4 : le up c b with
                        | false =>
                          have HQ : Hid (f = !(List.range (c + 1)).any (st1 up a b)) := fl_no hf.out (st1_f (.inr (.inr (.inr c4))))
                          go_wp2_with (go_at_call 55; refine (rbel_any _ ns up _ _ _ HI.out.rd (by omega) (by omega)).mono ?_; rintro e w' ⟨rfl, hbn⟩; clear hx0 hx1; have HP2 := Lib.hid (own_below HP.out hbn); clear HP; have HP := HP2; clear HP2; have HI2 := Lib.hid (HI.out.next hbn); clear HI; have HI := HI2; clear HI2; have hx0 := HI.out.x0; have hx1 := HI.out.x1; clear hbn)
                          go_roundg g4
                          case measure => omega
                          case rel => exact ⟨c + 1, f, by omega, by go_num, rfl, HI.out, HP.out, HQ⟩
                        | true =>
                          have HQ : Hid (false = !(List.range (c + 1)).any (st1 up a b)) := fl_yes (st1_t c1 c2 c3 c4)
                          go_wp2_with (go_at_call 55; refine (rbel_any _ ns up _ _ _ HI.out.rd (by omega) (by omega)).mono ?_; rintro e w' ⟨rfl, hbn⟩; clear hx0 hx1; have HP2 := Lib.hid (own_below HP.out hbn); clear HP; have HP := HP2; clear HP2; have HI2 := Lib.hid (HI.out.next hbn); clear HI; have HI := HI2; clear HI2; have hx0 := HI.out.x0; have hx1 := HI.out.x1; clear hbn)
                          go_roundg g4
                          case measure => omega
                          case rel => exact ⟨c + 1, false, by omega, by go_num, rfl, HI.out, HP.out, HQ⟩
end Go.Proofs.Ytfjnapmhnfjopaa
