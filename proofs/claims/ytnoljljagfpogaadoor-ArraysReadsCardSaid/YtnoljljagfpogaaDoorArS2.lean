/- encoded of the reference. -/
import Derived.Test.YtnoljljagfpogaaDoorArS1
namespace Go.Proofs.YtnoljljagfpogaaDoor
open Go.RowKit

/-- The last j bytes of a rune. -/
def tl (r : Nat) : Nat → List UInt8
  | 0 => []
  | j + 1 => UInt8.ofNat (128 + r / 64 ^ j % 64) :: tl r j
def ldN (n : Nat) : Nat := if n = 3 then 224 else if n = 4 then 240 else 192
theorem enc_tl (r : Nat) (h0 : ¬ r < 128) : Ru.enc r = UInt8.ofNat (ldN (szN r) + r / 64 ^ (szN r - 1)) :: tl r (szN r - 1) := by
  unfold Ru.enc Ru.encN szN
  rw [if_neg h0, if_neg h0]
  by_cases h1 : r < 2048
  · rw [if_pos h1, if_pos h1]
    simp [tl, ldN]
  · rw [if_neg h1, if_neg h1]
    by_cases h2 : r < 65536
    · rw [if_pos h2, if_pos h2]
      simp [tl, ldN]
    · rw [if_neg h2, if_neg h2]
      simp [tl, ldN]
theorem tl_len (r j : Nat) : (tl r j).length = j := by
  induction j with
  | zero => rfl
  | succ j ih => simp [tl, ih]
theorem bys_lit (W : World) {c : UInt8} {x : Int} (h : (c.toNat : Int) = x) : Ru.Bys (W.alloc (.cells #[.int .u8 x] 5)) W.heap.size (.slice (some ⟨W.heap.size, 0, none⟩) 1 1) [c] := by
  subst h
  exact World.ownsRow_lit W #[.int .u8 (c.toNat : Int)] 1 (Nat.le_refl _) (by decide) rfl

set_option maxRecDepth 100000 in
set_option maxHeartbeats 4000000 in
theorem encoded_any (r : Nat) (w : World) (hr : r ≤ 1114111) :
    Calls Tryd.prog 71 #[.int .i64 (r : Int)] w fun e w' => e = .returned (.string ⟨(Ru.enc r).toArray⟩) ∧ Below w.heap.size w w' := by
  have HSz := Lib.hid (fun W => size_any r W)
  by_cases h0 : r < 128
  · have e1 : szN r = 1 := if_pos h0
    have e2 : Ru.enc r = [UInt8.ofNat r] := by unfold Ru.enc Ru.encN; rw [if_pos h0]; rfl
    rw [e1] at HSz
    rw [e2]
    have hwr : IntKind.u8.wrap (r : Int) = (r : Int) := by rw [IntKind.wrap_u8]; omega
    have hcv := Ru.conv_bys (bys_lit w (c := UInt8.ofNat r) (x := (r : Int)) (Ru.on8 r (by omega) rfl))
    clear h0 e1 e2
    go_enter Tryd.func71, Tryd.ntmps71
    go_wp2_with (go_at_call 98; (with_reducible refine (HSz.out _).mono ?_); rintro e w' ⟨rfl, rfl⟩)
    go_ret
    exact ⟨rfl, bel1 _ _⟩
  · rw [enc_tl r h0]
    have hn : 2 ≤ szN r ∧ szN r ≤ 4 := by unfold szN; rw [if_neg h0]; split; (· omega); split <;> omega
    have hq : r / 64 ^ (szN r - 1) < 32 ∧ (szN r = 3 → r / 64 ^ (szN r - 1) < 16) ∧ (szN r = 4 → r / 64 ^ (szN r - 1) < 8) := by
      unfold szN
      rw [if_neg h0]
      by_cases h1 : r < 2048
      · rw [if_pos h1]; omega
      · rw [if_neg h1]
        by_cases h2 : r < 65536
        · rw [if_pos h2]; omega
        · rw [if_neg h2]; omega
    generalize szN r = n at HSz hn hq ⊢
    have HQ := Lib.hid hq
    clear h0 hq
    obtain ⟨k, rfl⟩ : ∃ k, n = k + 1 := ⟨n - 1, by omega⟩
    rw [Nat.add_sub_cancel] at HQ ⊢
    have hk1 : ((((k + 1 : Nat) : Int)) == 1) = false := by rw [beq_eq_false_iff_ne]; omega
    have hk2 : ((k : Int) + 1 == 1) = false := by rw [beq_eq_false_iff_ne]; omega
    go_enter Tryd.func71, Tryd.ntmps71
    go_wp2_with (go_at_call 98; (with_reducible refine (HSz.out _).mono ?_); rintro e w' ⟨rfl, rfl⟩)
    go_loopg [0, 4, 5] k (fun g c u i wr => ∃ j : Nat, j + g = k ∧ i = .int .i64 (j + 1 : Nat) ∧ c = .int .i64 ((r / 64 ^ j : Nat) : Int) ∧ Ru.Bys wr w.heap.size u (tl r j) ∧ Below w.heap.size w wr)
    case atStart => exact ⟨0, by omega, rfl, by simp, World.ownsRow_nil _ _ _ _, Below.refl _ _⟩
    case round =>
      obtain ⟨j, hjg, rfl, rfl, hu, hb⟩ := hrel
      have HU := Lib.hid hu
      have HB := Lib.hid hb
      obtain ⟨ua, uc, rfl⟩ := Ru.bys_len hu
      clear hu hb
      have HNl := Lib.hid (Ru.NilC.own HU.out)
      have hrq : r / 64 ^ (j + 1) = r / 64 ^ j / 64 := by rw [Nat.pow_succ, Nat.div_div_eq_div_mul]
      have htl : (tl r j).length ≤ 100 := by rw [tl_len]; omega
      cases gk with
      | zero =>
        obtain rfl : j = k := by omega
        generalize hqq : r / 64 ^ j = q at HQ
        have HQ2 := Lib.hid hqq
        obtain ⟨hq, hq3, hq4⟩ := HQ.out
        clear hrq hqq
        rcases (show j = 1 ∨ j = 2 ∨ j = 3 by omega) with rfl | rfl | rfl
        · have HO : Hid (Ru.Bys (wr.alloc (.cells #[.int .u8 (192 + (q : Int))] 5)) w.heap.size (.slice (some ⟨wr.heap.size, 0, none⟩) 1 1) [UInt8.ofNat (192 + q)]) := Ru.own_mono (bys_lit wr (Ru.on8 _ (by omega) (by omega))) HB.out.size
          go_wp2_with (at_builtin; refine Ru.wpList_append_bs (by simp [Region.wanted]) _ _ rfl w.heap.size _ _ rfl HO.out _ _ rfl _ (HU.out.rd.next (bel1 wr _)) HNl.out (by simp; omega) (by have := HB.out.size; simp; omega) ?_; intro u2 w2 hu2 hg2; have hgb := (HB.out.alloc HB.out.size _).grown hg2 (by have := HB.out.size; simp; omega) (fun k e => (World.ownsRow.lt HO.out k e).1); obtain ⟨va, vc, rfl⟩ := Ru.bys_len hu2; have hu3 : Ru.Bys w2 w.heap.size (.slice va ((tl r 1).length + 1) vc) (UInt8.ofNat (192 + q) :: tl r 1) := hu2; have hcv := Ru.conv_bys hu3; clear hu2 hu3)
          go_ret
          refine ⟨?_, hgb⟩
          rw [HQ2.out]
          rfl
        · have HO : Hid (Ru.Bys (wr.alloc (.cells #[.int .u8 (224 + (q : Int))] 5)) w.heap.size (.slice (some ⟨wr.heap.size, 0, none⟩) 1 1) [UInt8.ofNat (224 + q)]) := Ru.own_mono (bys_lit wr (Ru.on8 _ (by omega) (by omega))) HB.out.size
          go_wp2_with (at_builtin; refine Ru.wpList_append_bs (by simp [Region.wanted]) _ _ rfl w.heap.size _ _ rfl HO.out _ _ rfl _ (HU.out.rd.next (bel1 wr _)) HNl.out (by simp; omega) (by have := HB.out.size; simp; omega) ?_; intro u2 w2 hu2 hg2; have hgb := (HB.out.alloc HB.out.size _).grown hg2 (by have := HB.out.size; simp; omega) (fun k e => (World.ownsRow.lt HO.out k e).1); obtain ⟨va, vc, rfl⟩ := Ru.bys_len hu2; have hu3 : Ru.Bys w2 w.heap.size (.slice va ((tl r 2).length + 1) vc) (UInt8.ofNat (224 + q) :: tl r 2) := hu2; have hcv := Ru.conv_bys hu3; clear hu2 hu3)
          go_ret
          refine ⟨?_, hgb⟩
          rw [HQ2.out]
          rfl
        · have HO : Hid (Ru.Bys (wr.alloc (.cells #[.int .u8 (240 + (q : Int))] 5)) w.heap.size (.slice (some ⟨wr.heap.size, 0, none⟩) 1 1) [UInt8.ofNat (240 + q)]) := Ru.own_mono (bys_lit wr (Ru.on8 _ (by omega) (by omega))) HB.out.size
          go_wp2_with (at_builtin; refine Ru.wpList_append_bs (by simp [Region.wanted]) _ _ rfl w.heap.size _ _ rfl HO.out _ _ rfl _ (HU.out.rd.next (bel1 wr _)) HNl.out (by simp; omega) (by have := HB.out.size; simp; omega) ?_; intro u2 w2 hu2 hg2; have hgb := (HB.out.alloc HB.out.size _).grown hg2 (by have := HB.out.size; simp; omega) (fun k e => (World.ownsRow.lt HO.out k e).1); obtain ⟨va, vc, rfl⟩ := Ru.bys_len hu2; have hu3 : Ru.Bys w2 w.heap.size (.slice va ((tl r 3).length + 1) vc) (UInt8.ofNat (240 + q) :: tl r 3) := hu2; have hcv := Ru.conv_bys hu3; clear hu2 hu3)
          go_ret
          refine ⟨?_, hgb⟩
          rw [HQ2.out]
          rfl
      | succ g =>
        have hjz : ((j + 1 : Nat) : Int) < ((k + 1 : Nat) : Int) := by omega
        have HRq := Lib.hid hrq
        generalize hqq : r / 64 ^ j = q at HRq
        have HQ2 := Lib.hid hqq
        have hqb : q ≤ 1114111 := by have := Nat.div_le_self r (64 ^ j); omega
        have hwq : wrap64 ((q : Int) / 64) = (q : Int) / 64 := by unfold wrap64; omega
        clear hrq hqq
        have HO : Hid (Ru.Bys (wr.alloc (.cells #[.int .u8 (128 + (q : Int) % 64)] 5)) w.heap.size (.slice (some ⟨wr.heap.size, 0, none⟩) 1 1) [UInt8.ofNat (128 + q % 64)]) := Ru.own_mono (bys_lit wr (Ru.on8 _ (by omega) (by omega))) HB.out.size
        go_wp2_with (at_builtin; refine Ru.wpList_append_bs (by simp [Region.wanted]) _ _ rfl w.heap.size _ _ rfl HO.out _ _ rfl _ (HU.out.rd.next (bel1 wr _)) HNl.out (by simp; omega) (by have := HB.out.size; simp; omega) ?_; intro u2 w2 hu2 hg2; have HB2 := Lib.hid ((HB.out.alloc HB.out.size _).grown hg2 (by have := HB.out.size; simp; omega) (fun k e => (World.ownsRow.lt HO.out k e).1)); have HU2 : Hid (Ru.Bys w2 w.heap.size u2 (tl r (j + 1))) := (by unfold Hid tl; rw [HQ2.out]; exact hu2); obtain ⟨va, vc, rfl⟩ := Ru.bys_len hu2; clear hu2 hg2)
        go_roundg g
        case measure => omega
        case rel => exact ⟨j + 1, by omega, by go_num, by rw [HRq.out]; rfl, HU2.out, HB2.out⟩
end Go.Proofs.YtnoljljagfpogaaDoor
