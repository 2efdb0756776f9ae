/- The reference's lengths and Grid. -/
import Derived.Test.YthfpmpmhoegicaaDoorMvX
namespace Go.Proofs.YthfpmpmhoegicaaDoor
open Go.RowKit

/-- The error of the lengths of a grid. -/
def leE (l : List Int) : Int := if l.length = 2 then (if l.getD 0 0 < 0 ∨ l.getD 1 0 < 0 then 13 else if 400 < l.getD 0 0 ∨ 400 < l.getD 1 0 ∨ 400 < l.getD 0 0 * l.getD 1 0 then 15 else 0) else 11
theorem le_no {L V : Ar} (h : twoE L V 1 V.k 1 1 1 1 = 0) (hl : leE L.z ≠ 0) : gdE L V = leE L.z := by
  unfold gdE
  rw [if_pos h]
  unfold leE at hl ⊢
  by_cases h2 : L.z.length = 2
  · rw [if_pos h2] at hl ⊢
    rw [if_pos h2]
    by_cases h3 : L.z.getD 0 0 < 0 ∨ L.z.getD 1 0 < 0
    · rw [if_pos h3, if_pos h3]
    · rw [if_neg h3] at hl ⊢
      rw [if_neg h3]
      by_cases h4 : 400 < L.z.getD 0 0 ∨ 400 < L.z.getD 1 0 ∨ 400 < L.z.getD 0 0 * L.z.getD 1 0
      · rw [if_pos h4, if_pos h4]
      · rw [if_neg h4] at hl; exact absurd rfl hl
  · rw [if_neg h2, if_neg h2]
theorem le_ok {L V : Ar} (h : twoE L V 1 V.k 1 1 1 1 = 0) (hl : leE L.z = 0) : L.z.length = 2 ∧ (0 ≤ L.z.getD 0 0 ∧ L.z.getD 0 0 ≤ 400) ∧ (0 ≤ L.z.getD 1 0 ∧ L.z.getD 1 0 ≤ 400) ∧ L.z.getD 0 0 * L.z.getD 1 0 ≤ 400 ∧
    gdE L V = (if V.z.length = 0 ∧ 0 < L.z.getD 0 0 * L.z.getD 1 0 then 13 else 0) := by
  unfold leE at hl
  by_cases h2 : L.z.length = 2
  · rw [if_pos h2] at hl
    by_cases h3 : L.z.getD 0 0 < 0 ∨ L.z.getD 1 0 < 0
    · rw [if_pos h3] at hl; cases hl
    · rw [if_neg h3] at hl
      by_cases h4 : 400 < L.z.getD 0 0 ∨ 400 < L.z.getD 1 0 ∨ 400 < L.z.getD 0 0 * L.z.getD 1 0
      · rw [if_pos h4] at hl; cases hl
      · refine ⟨h2, ⟨by omega, by omega⟩, ⟨by omega, by omega⟩, by omega, ?_⟩
        unfold gdE
        rw [if_pos h, if_pos h2, if_neg h3, if_neg h4]
  · rw [if_neg h2] at hl; cases hl
theorem rd_two {B : Nat} {w : World} {p : Option Addr} {n cap : Nat} {l : List Int} (h : RdI B w (.slice p n cap) l) (hl : l.length = 2) : ∃ b off, p = some ⟨b, off, none⟩ ∧ w.cell? ⟨b, off, none⟩ = some (.int .i64 (l.getD 0 0)) ∧ w.cell? ⟨b, off + 1, none⟩ = some (.int .i64 (l.getD 1 0)) := by
  obtain ⟨p', cap', e, h1, h2, h3⟩ := h
  cases e
  obtain ⟨b, off, e, hb, hc⟩ := h3 (List.length_pos_iff.1 (by omega))
  have c0 := hc 0 (by omega)
  have c1 := hc 1 (by omega)
  rw [Nat.add_zero] at c0
  refine ⟨b, off, e, ?_, ?_⟩
  · rw [c0, List.getD_eq_getElem?_getD, List.getElem?_eq_getElem (by omega)]; rfl
  · rw [c1, List.getD_eq_getElem?_getD, List.getElem?_eq_getElem (by omega)]; rfl

set_option maxRecDepth 100000 in
set_option maxHeartbeats 8000000 in
theorem rlengths7_any (l : List Int) (v : Value) (w : World) (hv : RdI w.heap.size w v l) (_ : l.length ≤ 1000000) :
    Calls Tryd.prog 66 #[v] w fun e w' => e = .returned (.int .i64 (leE l)) ∧ Below w.heap.size w w' := by
  unfold leE
  by_cases h2 : l.length = 2
  · rw [if_pos h2]
    obtain ⟨p, cap, rfl, hc1, hc2, hc3⟩ := hv
    obtain ⟨b, o, rfl, c0, c1⟩ := rd_two (B := w.heap.size) (w := w) (p := p) (n := l.length) (cap := cap) ⟨p, cap, rfl, hc1, hc2, hc3⟩ h2
    rw [h2]
    clear hc3 hc1
    generalize l.getD 0 0 = x at c0 ⊢
    generalize l.getD 1 0 = y at c1 ⊢
    clear h2
    by_cases h3 : x < 0
    · rw [if_pos (.inl h3)]
      have k1 : decide (x < 0) = true := decide_eq_true (by omega)
      clear h3
      go_enter Tryd.func66, Tryd.ntmps66
      go_wp2_with fail
      go_ret
      exact ⟨rfl, Below.refl _ _⟩
    · by_cases h4 : y < 0
      · rw [if_pos (.inr h4)]
        have k1 : decide (x < 0) = false := decide_eq_false (by omega)
        have k2 : decide (y < 0) = true := decide_eq_true (by omega)
        clear h3 h4
        go_enter Tryd.func66, Tryd.ntmps66
        go_wp2_with fail
        go_ret
        exact ⟨rfl, Below.refl _ _⟩
      · rw [if_neg (by omega)]
        by_cases h5 : 400 < x
        · rw [if_pos (.inl h5)]
          have k1 : decide (x < 0) = false := decide_eq_false (by omega)
          have k2 : decide (y < 0) = false := decide_eq_false (by omega)
          have k3 : decide (400 < x) = true := decide_eq_true (by omega)
          clear h3 h4 h5
          go_enter Tryd.func66, Tryd.ntmps66
          go_wp2_with fail
          go_quiet (fail)
          go_wp2
          go_ret
          exact ⟨rfl, drewN_below _ nq⟩
        · by_cases h6 : 400 < y
          · rw [if_pos (.inr (.inl h6))]
            have k1 : decide (x < 0) = false := decide_eq_false (by omega)
            have k2 : decide (y < 0) = false := decide_eq_false (by omega)
            have k3 : decide (400 < x) = false := decide_eq_false (by omega)
            have k4 : decide (400 < y) = true := decide_eq_true (by omega)
            clear h3 h4 h5 h6
            go_enter Tryd.func66, Tryd.ntmps66
            go_wp2_with fail
            go_quiet (fail)
            go_wp2
            go_ret
            exact ⟨rfl, drewN_below _ nq⟩
          · have hb1 : x * y ≤ 400 * 400 := Int.mul_le_mul (by omega) (by omega) (by omega) (by omega)
            have hb0 : 0 ≤ x * y := Int.mul_nonneg (by omega) (by omega)
            have hwr : IntKind.i64.wrap (x * y) = x * y := by rw [IntKind.wrap_i64]; omega
            by_cases h7 : 400 < x * y
            · rw [if_pos (.inr (.inr h7))]
              have k1 : decide (x < 0) = false := decide_eq_false (by omega)
              have k2 : decide (y < 0) = false := decide_eq_false (by omega)
              have k3 : decide (400 < x) = false := decide_eq_false (by omega)
              have k4 : decide (400 < y) = false := decide_eq_false (by omega)
              have k5 : decide (400 < x * y) = true := decide_eq_true (by omega)
              clear h3 h4 h5 h6 h7 hb1 hb0
              go_enter Tryd.func66, Tryd.ntmps66
              go_wp2_with fail
              go_quiet (fail)
              go_wp2
              go_ret
              exact ⟨rfl, drewN_below _ nq⟩
            · rw [if_neg (by rintro (h | h | h) <;> omega)]
              have k1 : decide (x < 0) = false := decide_eq_false (by omega)
              have k2 : decide (y < 0) = false := decide_eq_false (by omega)
              have k3 : decide (400 < x) = false := decide_eq_false (by omega)
              have k4 : decide (400 < y) = false := decide_eq_false (by omega)
              have k5 : decide (400 < x * y) = false := decide_eq_false (by omega)
              clear h3 h4 h5 h6 h7 hb1 hb0
              go_enter Tryd.func66, Tryd.ntmps66
              go_wp2_with fail
              go_quiet (fail)
              go_wp2
              go_ret
              exact ⟨rfl, drewN_below _ nq⟩
  · rw [if_neg h2]
    obtain ⟨p, cap, rfl, hc1, hc2, hc3⟩ := hv
    have k1 : ((l.length : Int) != 2) = true := by simp; omega
    clear hc3 h2
    go_enter Tryd.func66, Tryd.ntmps66
    go_wp2_with fail
    go_ret
    exact ⟨rfl, Below.refl _ _⟩
theorem agn_snoc {t j : Nat} {z : List Int} (hj : j < t) : (agn t z).take j ++ [z.getD (j % z.length) 0] = (agn t z).take (j + 1) := by
  rw [← takeI_snoc (by rw [agn_len]; exact hj), agn_getD hj]

set_option maxRecDepth 100000 in
set_option maxHeartbeats 16000000 in
theorem rgrid7_any (N V : Ar) (u v : Value) (w : World) (hw : Ru.Lay w) (hu : RdI w.heap.size w u N.z) (hv : RdI w.heap.size w v V.z) (hlN : N.z.length ≤ 100000) (hlV : V.z.length ≤ 100000) :
    Calls Tryd.prog 41 #[A5 N.k N.r N.a N.b u, A5 V.k V.r V.a V.b v] w (RetE (gdV N V) (gdE N V) w) := by
  have HTw : Hid (∀ W, Ru.Lay W → RdI W.heap.size W u N.z → RdI W.heap.size W v V.z → Calls Tryd.prog 58 #[A5 N.k N.r N.a N.b u, A5 V.k V.r V.a V.b v, .int .i64 1, .int .i64 1] W fun e w' => e = .returned (.int .i64 (twoE N V 1 V.k 1 1 1 1)) ∧ Below W.heap.size W w') := fun W h1 h2 h3 => two_any N V 1 1 u v W h1 h2 h3 (by omega) (by omega)
  have HLe := Lib.hid (fun W h => rlengths7_any N.z u W h (by omega))
  have HK := Lib.hid (MK2.new (A := N) (B := V) hw hu hv)
  have HW3 := Lib.hid hw.size
  have x0 := HK.out.c.boxA.c0; have x1 := HK.out.c.boxA.c1; have x2 := HK.out.c.boxA.c2; have x3 := HK.out.c.boxA.c3; have x4 := HK.out.c.boxA.c4; have y0 := HK.out.c.boxB.c0; have y1 := HK.out.c.boxB.c1; have y2 := HK.out.c.boxB.c2; have y3 := HK.out.c.boxB.c3; have y4 := HK.out.c.boxB.c4
  obtain ⟨pu, cu, rfl, _, _, _⟩ := hu
  obtain ⟨p, cap, rfl, _, _, _⟩ := hv
  clear hw
  by_cases h1 : twoE N V 1 V.k 1 1 1 1 = 0
  · rw [h1] at HTw
    by_cases h2 : leE N.z = 0
    · obtain ⟨hz2, hx, hy, hxy, hE⟩ := le_ok h1 h2
      have hgv : gdV N V = orNo (gdE N V) ⟨V.k, 2, N.z.getD 0 0, N.z.getD 1 0, agn (N.z.getD 0 0 * N.z.getD 1 0).toNat V.z⟩ := rfl
      rw [hgv, hE]
      rw [h2] at HLe
      have HZ2 := Lib.hid hz2
      have hN1 : (0 : Int) < (N.z.length : Int) := by omega
      have hN2 : (1 : Int) < (N.z.length : Int) := by omega
      have HTwo := Lib.hid (fun (W : World) (h : RdI W.heap.size W (.slice pu N.z.length cu) N.z) => rd_two h hz2)
      clear hgv hE hz2 h1 h2
      obtain ⟨m, hm⟩ : ∃ m : Nat, N.z.getD 0 0 = (m : Int) := ⟨(N.z.getD 0 0).toNat, by omega⟩
      obtain ⟨n, hn⟩ : ∃ n : Nat, N.z.getD 1 0 = (n : Int) := ⟨(N.z.getD 1 0).toNat, by omega⟩
      rw [hm, hn] at hxy ⊢
      rw [hm] at hx
      rw [hn] at hy
      have HM := Lib.hid hm
      have HN := Lib.hid hn
      obtain ⟨t, ht⟩ : ∃ t : Nat, m * n = t := ⟨_, rfl⟩
      have hmt : (m : Int) * (n : Int) = (t : Int) := by rw [← Int.natCast_mul, ht]
      rw [hmt] at hxy ⊢
      rw [Int.toNat_natCast]
      have hwt : IntKind.i64.wrap ((m : Int) * (n : Int)) = (t : Int) := by rw [hmt, IntKind.wrap_i64]; omega
      clear hm hn hmt
      by_cases h3 : V.z.length = 0 ∧ 0 < (t : Int)
      · rw [if_pos h3, orNo_no (by decide)]
        have h0 : V.z.length = 0 := h3.1
        have k2 : decide (0 < t) = true := decide_eq_true (by omega)
        have ht0 : 0 < t := by omega
        rw [h0] at HTw HK y4 ⊢
        clear h3 ht hx hy hxy h0
        go_enter Tryd.func41, Tryd.ntmps41
        go_wp2_with (first
          | (go_at_call 58; (with_reducible refine (HTw.out _ HK.out.c.lay HK.out.c.rdnA HK.out.c.rdnB).mono ?_); rintro e w1 ⟨rfl, hb⟩; have HK2 := Lib.hid (HK.out.next hb); clear HK x0 x1 x2 x3 x4 y0 y1 y2 y3 y4; have HK := HK2; clear HK2; have x0 := HK.out.c.boxA.c0; have x1 := HK.out.c.boxA.c1; have x2 := HK.out.c.boxA.c2; have x3 := HK.out.c.boxA.c3; have x4 := HK.out.c.boxA.c4; have y0 := HK.out.c.boxB.c0; have y1 := HK.out.c.boxB.c1; have y2 := HK.out.c.boxB.c2; have y3 := HK.out.c.boxB.c3; have y4 := HK.out.c.boxB.c4; clear hb)
          | (go_at_call 66; (with_reducible refine (HLe.out _ HK.out.c.rdnA).mono ?_); rintro e w2 ⟨rfl, hb⟩; have HK2 := Lib.hid (HK.out.next hb); clear HK x0 x1 x2 x3 x4 y0 y1 y2 y3 y4; have HK := HK2; clear HK2; have x0 := HK.out.c.boxA.c0; have x1 := HK.out.c.boxA.c1; have x2 := HK.out.c.boxA.c2; have x3 := HK.out.c.boxA.c3; have x4 := HK.out.c.boxA.c4; have y0 := HK.out.c.boxB.c0; have y1 := HK.out.c.boxB.c1; have y2 := HK.out.c.boxB.c2; have y3 := HK.out.c.boxB.c3; have y4 := HK.out.c.boxB.c4; clear hb; obtain ⟨b1, o1, hbe, hc0, hc1⟩ := HTwo.out _ HK.out.c.rdnA; cases hbe; rw [HM.out] at hc0; rw [HN.out] at hc1))
        go_quiet (fail)
        have HK2 := Lib.hid (HK.out.next (drewN_below _ nq))
        generalize World.drewN w2 nq = W3 at HK2 ⊢
        clear HK hc0 hc1 x0 x1 x2 x3 x4 y0 y1 y2 y3 y4
        have HK := HK2
        clear HK2
        have y0 := HK.out.res.c0; have y1 := HK.out.res.c1; have y2 := HK.out.res.c2; have y3 := HK.out.res.c3; have y4 := HK.out.res.c4; have f0 := HK.out.res.fr 0; have f1 := HK.out.res.fr 1; have f2 := HK.out.res.fr 2; have f3 := HK.out.res.fr 3; have f4 := HK.out.res.fr 4; have HS := Lib.hid (HK.out.res.set 0 0 0 0 (.slice none 0 0)); have z0 := HS.out.c0; have z1 := HS.out.c1; have z2 := HS.out.c2; have z3 := HS.out.c3; have z4 := HS.out.c4
        go_wp2
        exact bodyPost_ret (v := .tuple #[A5 0 0 0 0 (.slice none 0 0), .int .i64 13]) (by simp [results, Tryd.results41, go_sem, z0, z1, z2, z3, z4]) rfl (retE_no _ (st5_below _ _ _ _ _ (by omega) HK.out.c.bel))
      · rw [if_neg h3, orNo_yes rfl]
        have HPos : Hid (0 < t → 0 < V.z.length) := fun h => by omega
        have hV0 : ((V.z.length : Int) == 0) = false ∨ (((V.z.length : Int) == 0) = true ∧ decide (0 < (t : Int)) = false) := by
          by_cases h4 : V.z.length = 0
          · exact .inr ⟨by rw [beq_iff_eq]; omega, decide_eq_false (by omega)⟩
          · exact .inl (by rw [beq_eq_false_iff_ne]; omega)
        clear h3 ht
        have hcut : True := trivial
        clear hx hy
        rcases hV0 with hV0 | ⟨hV0, k2⟩
        · clear hcut
          go_enter Tryd.func41, Tryd.ntmps41
          go_wp2_with (first
            | (go_at_call 58; (with_reducible refine (HTw.out _ HK.out.c.lay HK.out.c.rdnA HK.out.c.rdnB).mono ?_); rintro e w1 ⟨rfl, hb⟩; have HK2 := Lib.hid (HK.out.next hb); clear HK x0 x1 x2 x3 x4 y0 y1 y2 y3 y4; have HK := HK2; clear HK2; have x0 := HK.out.c.boxA.c0; have x1 := HK.out.c.boxA.c1; have x2 := HK.out.c.boxA.c2; have x3 := HK.out.c.boxA.c3; have x4 := HK.out.c.boxA.c4; have y0 := HK.out.c.boxB.c0; have y1 := HK.out.c.boxB.c1; have y2 := HK.out.c.boxB.c2; have y3 := HK.out.c.boxB.c3; have y4 := HK.out.c.boxB.c4; clear hb)
            | (go_at_call 66; (with_reducible refine (HLe.out _ HK.out.c.rdnA).mono ?_); rintro e w2 ⟨rfl, hb⟩; have HK2 := Lib.hid (HK.out.next hb); clear HK x0 x1 x2 x3 x4 y0 y1 y2 y3 y4; have HK := HK2; clear HK2; have x0 := HK.out.c.boxA.c0; have x1 := HK.out.c.boxA.c1; have x2 := HK.out.c.boxA.c2; have x3 := HK.out.c.boxA.c3; have x4 := HK.out.c.boxA.c4; have y0 := HK.out.c.boxB.c0; have y1 := HK.out.c.boxB.c1; have y2 := HK.out.c.boxB.c2; have y3 := HK.out.c.boxB.c3; have y4 := HK.out.c.boxB.c4; clear hb; obtain ⟨b1, o1, hbe, hc0, hc1⟩ := HTwo.out _ HK.out.c.rdnA; cases hbe; rw [HM.out] at hc0; rw [HN.out] at hc1))
          go_quiet (fail)
          have HK2 := Lib.hid (HK.out.next (drewN_below _ nq))
          generalize World.drewN w2 nq = W3 at HK2 ⊢
          clear HK hc0 hc1 x0 x1 x2 x3 x4 y0 y1 y2 y3 y4
          have HK := HK2
          clear HK2
          obtain ⟨b1', o1', hbe, hc0, hc1⟩ := HTwo.out _ HK.out.c.rdnA
          cases hbe
          rw [HM.out] at hc0
          rw [HN.out] at hc1
          have x0 := HK.out.c.boxA.c0; have x1 := HK.out.c.boxA.c1; have x2 := HK.out.c.boxA.c2; have x3 := HK.out.c.boxA.c3; have x4 := HK.out.c.boxA.c4; have y0 := HK.out.c.boxB.c0; have y1 := HK.out.c.boxB.c1; have y2 := HK.out.c.boxB.c2; have y3 := HK.out.c.boxB.c3; have y4 := HK.out.c.boxB.c4
          go_wp2_with fail
          go_quiet (fail)
          have HK2 := Lib.hid (HK.out.next (drewN_below _ nq))
          generalize World.drewN W3 nq = W4 at HK2 ⊢
          clear HK hc0 hc1 x0 x1 x2 x3 x4 y0 y1 y2 y3 y4
          have HK0 : Hid (K27 w N (.slice (some ⟨b1, o1, none⟩) N.z.length cu) V (.slice p V.z.length cap) (.slice none 0 0) [] W4) := ⟨HK2.out, ins_nil _ _⟩
          clear HK2 HTw HLe
          have HAl := Lib.hid (agn_len t V.z)
          go_wp2_with fail
          go_loopg [7, 10] t (fun gk s q wr => ∃ (j : Nat) (U : Value), j + gk = t ∧ s = U ∧ q = .int .i64 j ∧ K27 w N (.slice (some ⟨b1, o1, none⟩) N.z.length cu) V (.slice p V.z.length cap) U ((agn t V.z).take j) wr)
          case atStart => exact ⟨0, _, by omega, rfl, rfl, HK0.out⟩
          case round =>
            obtain ⟨j, s0, hjg, rfl, rfl, hk⟩ := hrel
            have HV := Lib.hid hk
            clear hk HK0
            have y0 := HV.out.m.c.boxB.c0; have y4 := HV.out.m.c.boxB.c4
            cases gk with
            | zero =>
              have hjz : ¬ ((j : Int) < (t : Int)) := by omega
              obtain ⟨Z, hZ⟩ : ∃ Z, agn t V.z = Z := ⟨_, rfl⟩
              have hZl : Z.length = t := by rw [← hZ]; exact HAl.out
              have HO : Hid (RdI wr.heap.size wr u7 Z) := by
                have h := (ins_new HV.out.own).rd
                have e : j = t := by omega
                rw [e, hZ, List.take_of_length_le (by omega)] at h
                exact h
              have HZe : Hid ((⟨V.k, 2, (m : Int), (n : Int), agn t V.z⟩ : Ar) = ⟨V.k, 2, (m : Int), (n : Int), Z⟩) := by unfold Hid; rw [hZ]
              have HNl := Lib.hid (ins_nilC HV.out.own)
              have HMt := Lib.hid (mat_lit7 (k := V.k) (m := (m : Int)) (n := (n : Int)) HO.out HNl.out (by omega))
              have HK := Lib.hid HV.out.m
              clear HV HO HNl hZ hZl HAl
              go_wp2_with (go_at_call 42; (with_reducible refine HMt.out.mono ?_); rintro e w3 ⟨q, qc, rfl, hu, hb⟩; have HU := Lib.hid hu; have hlt := HK.out.sz; have HK2 := Lib.hid (HK.out.next hb); clear hu hb HK; have y0 := HK2.out.res.c0; have y1 := HK2.out.res.c1; have y2 := HK2.out.res.c2; have y3 := HK2.out.res.c3; have y4 := HK2.out.res.c4; have f0 := HK2.out.res.fr 0; have f1 := HK2.out.res.fr 1; have f2 := HK2.out.res.fr 2; have f3 := HK2.out.res.fr 3; have f4 := HK2.out.res.fr 4; have HS := Lib.hid (HK2.out.res.set V.k 2 (m : Int) (n : Int) (.slice q Z.length qc)); have z0 := HS.out.c0; have z1 := HS.out.c1; have z2 := HS.out.c2; have z3 := HS.out.c3; have z4 := HS.out.c4)
              rw [HZe.out]
              refine bodyPost_ret (v := .tuple #[A5 V.k 2 (m : Int) (n : Int) (.slice q Z.length qc), .int .i64 0]) (by simp [results, Tryd.results41, go_sem, z0, z1, z2, z3, z4]) rfl ?_
              exact ⟨_, rfl, (HU.out.st5 (by omega) _ _ _ _ _).mono (by omega), st5_below _ _ _ _ _ (by omega) HK2.out.c.bel⟩
            | succ g2 =>
              have hjz : (j : Int) < (t : Int) := by omega
              have hwi : IntKind.i64.wrap ((j : Int) + 1) = (j : Int) + 1 := by rw [IntKind.wrap_i64]; omega
              have hpos := HPos.out (by omega)
              obtain ⟨s, hs⟩ : ∃ s, j % V.z.length = s := ⟨_, rfl⟩
              have hsl : s < V.z.length := by rw [← hs]; exact Nat.mod_lt _ hpos
              obtain ⟨b2, o2, hbe, _, hcc⟩ := HV.out.m.c.rdnB.cells (List.length_pos_iff.1 hpos)
              cases hbe
              have x1 := hcc s hsl
              have hval : (V.z)[s] = V.z.getD (j % V.z.length) 0 := by rw [hs, List.getD_eq_getElem?_getD, List.getElem?_eq_getElem hsl]; rfl
              have HSq : Hid ((agn t V.z).take j ++ [(V.z)[s]] = (agn t V.z).take (j + 1)) := by rw [hval]; exact agn_snoc (by omega)
              clear hval hcc
              have HSl := Lib.hid hsl
              generalize hcv : (V.z)[s] = c at x1 HSq
              have HCv := Lib.hid hcv
              clear hcv
              have hlen : ((agn t V.z).take j).length + 1 ≤ 1000000 := by rw [List.length_take, HAl.out]; omega
              have hsz : w.heap.size + 3 ≤ wr.heap.size := HV.out.m.sz
              have hs1 : (s : Int) < (V.z.length : Int) := by omega
              have hmod : (j : Int) % (V.z.length : Int) = (s : Int) := by rw [← Int.natCast_emod, hs]
              have htm : Int.tmod (j : Int) (V.z.length : Int) = (s : Int) := by rw [Int.tmod_eq_emod_of_nonneg (by omega), hmod]
              have hws : IntKind.i64.wrap (s : Int) = (s : Int) := by rw [IntKind.wrap_i64]; omega
              have hne : ((V.z.length : Int) == 0) = false := by rw [beq_eq_false_iff_ne]; omega
              have hne2 : ¬ (V.z = []) := List.length_pos_iff.1 hpos
              have hmn : j % V.z.length = s := hs
              generalize hT : (agn t V.z).take j = T at HV HSq hlen
              clear hT hpos hs hsl
              go_wp2_with fail
              have HAll : Hid (∀ W, MK2 w N (.slice (some ⟨b1, o1, none⟩) N.z.length cu) V (.slice (some ⟨b2, o2, none⟩) V.z.length cap) W → (fun W => MK2 w N (.slice (some ⟨b1, o1, none⟩) N.z.length cu) V (.slice (some ⟨b2, o2, none⟩) V.z.length cap) W ∧ W.cell? ⟨w.heap.size + 1, 4, none⟩ = some (.slice (some ⟨b2, o2, none⟩) V.z.length cap) ∧ W.cell? ⟨b2, o2 + s, none⟩ = some (vi c)) W) := fun W h => by
                obtain ⟨b3, o3, e, _, hc3⟩ := h.c.rdB.cells hne2
                cases e
                have h9 := hc3 s HSl.out
                exact ⟨h, h.c.boxB.c4, h9.trans (congrArg (fun q => some (vi q)) HCv.out)⟩
              refine wp_region_held_drew (S := (fun W => MK2 w N (.slice (some ⟨b1, o1, none⟩) N.z.length cu) V (.slice (some ⟨b2, o2, none⟩) V.z.length cap) W ∧ W.cell? ⟨w.heap.size + 1, 4, none⟩ = some (.slice (some ⟨b2, o2, none⟩) V.z.length cap) ∧ W.cell? ⟨b2, o2 + s, none⟩ = some (vi c))) (by kernel_rfl) ?_ (fun hHeld => ?_)
              · exact HAll.out _ (HV.out.m.next (Below.refl _ _).drew)
              have HO : Hid (Ru.Ins 2 (World.drew wr) (w.heap.size + 3) u7 T) := World.ownsRow.drew HV.out.own
              generalize World.drew wr = wd at hHeld HO ⊢
              clear HV x1 y4 y0 hsz
              refine wpAnyH_take (i := 0) (v := ?_) rfl (by kernel_rfl) (by kernel_rfl) (by kernel_rfl) (fun _ _ _ h => h) (Or.inl ⟨by rfl, ?_⟩) (by assumption) ?_
              rotate_left
              · ((intro w0 hSw); (try dsimp only at hSw); go_simp; (try with_reducible rfl))
              change wpAnyH _ _ _ _ _ _ _ (Act.put _ (some 58) _) _
              try simp only [Act.put, List.setIfInBounds_toArray, List.set_cons_zero, List.set_cons_succ]
              refine wpAnyH_take (i := 1) (v := ?_) rfl (by kernel_rfl) (by kernel_rfl) (by kernel_rfl) (fun _ _ _ h => h) (Or.inl ⟨by rfl, ?_⟩) (by assumption) ?_
              rotate_left
              · ((intro w0 hSw); (try dsimp only at hSw); go_simp; (try with_reducible rfl))
              change wpAnyH _ _ _ _ _ _ _ (Act.put _ (some 59) _) _
              try simp only [Act.put, List.setIfInBounds_toArray, List.set_cons_zero, List.set_cons_succ]
              refine wpAnyH_take (i := 2) (v := ?_) rfl (by kernel_rfl) (by kernel_rfl) (by kernel_rfl) (fun _ _ _ h => h) (Or.inl ⟨by rfl, ?_⟩) (by assumption) ?_
              rotate_left
              · ((intro w0 hSw); (try dsimp only at hSw); go_simp; (try with_reducible rfl))
              change wpAnyH _ _ _ _ _ _ _ (Act.put _ (some 60) _) _
              try simp only [Act.put, List.setIfInBounds_toArray, List.set_cons_zero, List.set_cons_succ]
              refine wpAnyH_take (i := 3) (v := ?_) rfl (by kernel_rfl) (by kernel_rfl) (by kernel_rfl) (fun _ _ _ h => h) (Or.inl ⟨by rfl, ?_⟩) (by assumption) ?_
              rotate_left
              · ((intro w0 hSw); (try dsimp only at hSw); go_simp; (try with_reducible rfl))
              change wpAnyH _ _ _ _ _ _ _ (Act.put _ (some 61) _) _
              try simp only [Act.put, List.setIfInBounds_toArray, List.set_cons_zero, List.set_cons_succ]
              refine wpAnyH_take (i := 4) (v := ?_) rfl (by kernel_rfl) (by kernel_rfl) (by kernel_rfl) (fun _ _ _ h => h) (Or.inl ⟨by rfl, ?_⟩) (by assumption) ?_
              rotate_left
              · ((intro w0 hSw); (try dsimp only at hSw); go_simp; (try with_reducible rfl))
              change wpAnyH _ _ _ _ _ _ _ (Act.put _ (some 62) _) _
              try simp only [Act.put, List.setIfInBounds_toArray, List.set_cons_zero, List.set_cons_succ]
              refine wpAnyH_take (i := 5) (v := ?_) rfl (by kernel_rfl) (by kernel_rfl) (by kernel_rfl) (fun _ _ _ h => h) (Or.inl ⟨by rfl, ?_⟩) (by assumption) ?_
              rotate_left
              · ((intro w0 hSw); (try dsimp only at hSw); go_simp; (try with_reducible rfl))
              change wpAnyH _ _ _ _ _ _ _ (Act.put _ (some 63) _) _
              try simp only [Act.put, List.setIfInBounds_toArray, List.set_cons_zero, List.set_cons_succ]
              refine wpAnyH_take (i := 6) (v := ?_) rfl (by kernel_rfl) (by kernel_rfl) (by kernel_rfl) (fun _ _ _ h => h) (Or.inl ⟨by rfl, ?_⟩) (by assumption) ?_
              rotate_left
              · ((intro w0 hSw); (try dsimp only at hSw); go_simp; (try with_reducible rfl))
              change wpAnyH _ _ _ _ _ _ _ (Act.put _ (some 64) _) _
              try simp only [Act.put, List.setIfInBounds_toArray, List.set_cons_zero, List.set_cons_succ]
              refine wpAnyH_take (i := 7) (v := ?_) rfl (by kernel_rfl) (by kernel_rfl) (by kernel_rfl) (fun _ _ _ h => h) (Or.inl ⟨by rfl, ?_⟩) (by assumption) ?_
              rotate_left
              · ((intro w0 hSw); (try dsimp only at hSw); go_simp; (try with_reducible rfl))
              change wpAnyH _ _ _ _ _ _ _ (Act.put _ (some 65) _) _
              try simp only [Act.put, List.setIfInBounds_toArray, List.set_cons_zero, List.set_cons_succ]
              refine wpAnyH_take (i := 8) (v := ?_) rfl (by kernel_rfl) (by kernel_rfl) (by kernel_rfl) (fun _ _ _ h => h) (Or.inl ⟨by rfl, ?_⟩) (by assumption) ?_
              rotate_left
              · ((intro w0 hSw); (try dsimp only at hSw); go_simp; (try with_reducible rfl))
              change wpAnyH _ _ _ _ _ _ _ (Act.put _ (some 66) _) _
              try simp only [Act.put, List.setIfInBounds_toArray, List.set_cons_zero, List.set_cons_succ]
              refine wpAnyH_take (i := 9) (v := ?_) rfl (by kernel_rfl) (by kernel_rfl) (by kernel_rfl) (fun _ _ _ h => h) (Or.inl ⟨by rfl, ?_⟩) (by assumption) ?_
              rotate_left
              · ((intro w0 hSw); (try dsimp only at hSw); go_simp; (try with_reducible rfl))
              change wpAnyH _ _ _ _ _ _ _ (Act.put _ (some 67) _) _
              try simp only [Act.put, List.setIfInBounds_toArray, List.set_cons_zero, List.set_cons_succ]
              refine wpAnyH_ready (rs := [10]) (by kernel_rfl) (by simp) ?_
              refine AllReadyH.cons rfl (fun K hK => ?_) (AllReadyH.nil)
              go_simp
              refine hK.out _ _ ?_ (fun hHeld2 => ?_)
              · exact HAll.out _ (hHeld.1.next (bel1 wd _))
              clear hK K hHeld
              have hHeld := hHeld2; clear hHeld2
              try change wpAnyH _ _ _ _ _ _ _ (Act.put _ (some 68) _) _
              try simp only [Act.put, List.setIfInBounds_toArray, List.set_cons_zero, List.set_cons_succ]
              have HX : Hid (RdI (wd.alloc (.cells #[vi c] 2)).heap.size (wd.alloc (.cells #[vi c] 2)) (.slice (some ⟨wd.heap.size, 0, none⟩) 1 1) [c]) := blk_rd (l := [c]) rfl (by decide) (heap_alloc_last wd _)
              have HO2 : Hid (Ru.Ins 2 (wd.alloc (.cells #[vi c] 2)) (w.heap.size + 3) u7 T) := World.ownsRow.alloc HO.out _
              have hszd : w.heap.size + 3 ≤ (wd.alloc (.cells #[vi c] 2)).heap.size := hHeld.1.sz
              refine wpAnyH_ready (rs := [11]) (by kernel_rfl) (by simp) ?_
              refine AllReadyH.cons rfl (fun K hK => ?_) (AllReadyH.nil)
              refine wp_append_is (.tmp 58) (.tmp 68) rfl (w.heap.size + 3) _ T (by rfl) HO2.out _ [c] (by rfl) _ HX.out (nil_some _ _ _) (by simpa using hlen) hszd ?_
              intro u2 w2 hu2 hg2
              have hb2 := ins_grown HO2.out hszd hg2
              refine hK.out _ _ ?_ (fun hHeld2 => ?_)
              · exact HAll.out _ (hHeld.1.far hb2 (hHeld.1.c.lay.below (by have := HW3.out; omega) hb2))
              clear hK K hHeld
              have hHeld := hHeld2; clear hHeld2
              try change wpAnyH _ _ _ _ _ _ _ (Act.put _ (some 69) _) _
              try simp only [Act.put, List.setIfInBounds_toArray, List.set_cons_zero, List.set_cons_succ]
              have HV2 : Hid (K27 w N (.slice (some ⟨b1, o1, none⟩) N.z.length cu) V (.slice (some ⟨b2, o2, none⟩) V.z.length cap) u2 (T ++ [c]) w2) := ⟨hHeld.1, hu2⟩
              clear hu2 hg2 hb2 HX HO HO2 HAll
              rw [HSq.out] at HV2
              refine wpAnyH_take (i := 12) (v := ?_) rfl (by kernel_rfl) (by kernel_rfl) (by kernel_rfl) (fun _ _ _ h => h) (Or.inl ⟨by rfl, ?_⟩) (by assumption) ?_
              rotate_left
              · ((intro w0 hSw); (try dsimp only at hSw); go_simp; (try with_reducible rfl))
              change wpAnyH _ _ _ _ _ _ _ (Act.put _ (some 7) _) _
              try simp only [Act.put, List.setIfInBounds_toArray, List.set_cons_zero, List.set_cons_succ]
              refine wpAnyH_done (by kernel_rfl) ?_ _
              go_wp2_with fail
              go_roundg g2
              case measure => omega
              case rel => exact ⟨j + 1, _, by omega, rfl, by go_num, HV2.out⟩
        · clear hcut
          have h0 : V.z.length = 0 := by simpa using hV0
          have ht0 : t = 0 := by have := of_decide_eq_false k2; omega
          subst ht0
          rw [h0] at HTw HK y4 ⊢
          clear hV0 k2 h0
          go_enter Tryd.func41, Tryd.ntmps41
          go_wp2_with (first
            | (go_at_call 58; (with_reducible refine (HTw.out _ HK.out.c.lay HK.out.c.rdnA HK.out.c.rdnB).mono ?_); rintro e w1 ⟨rfl, hb⟩; have HK2 := Lib.hid (HK.out.next hb); clear HK x0 x1 x2 x3 x4 y0 y1 y2 y3 y4; have HK := HK2; clear HK2; have x0 := HK.out.c.boxA.c0; have x1 := HK.out.c.boxA.c1; have x2 := HK.out.c.boxA.c2; have x3 := HK.out.c.boxA.c3; have x4 := HK.out.c.boxA.c4; have y0 := HK.out.c.boxB.c0; have y1 := HK.out.c.boxB.c1; have y2 := HK.out.c.boxB.c2; have y3 := HK.out.c.boxB.c3; have y4 := HK.out.c.boxB.c4; clear hb)
            | (go_at_call 66; (with_reducible refine (HLe.out _ HK.out.c.rdnA).mono ?_); rintro e w2 ⟨rfl, hb⟩; have HK2 := Lib.hid (HK.out.next hb); clear HK x0 x1 x2 x3 x4 y0 y1 y2 y3 y4; have HK := HK2; clear HK2; have x0 := HK.out.c.boxA.c0; have x1 := HK.out.c.boxA.c1; have x2 := HK.out.c.boxA.c2; have x3 := HK.out.c.boxA.c3; have x4 := HK.out.c.boxA.c4; have y0 := HK.out.c.boxB.c0; have y1 := HK.out.c.boxB.c1; have y2 := HK.out.c.boxB.c2; have y3 := HK.out.c.boxB.c3; have y4 := HK.out.c.boxB.c4; clear hb; obtain ⟨b1, o1, hbe, hc0, hc1⟩ := HTwo.out _ HK.out.c.rdnA; cases hbe; rw [HM.out] at hc0; rw [HN.out] at hc1))
          go_quiet (fail)
          have HK2 := Lib.hid (HK.out.next (drewN_below _ nq))
          generalize World.drewN w2 nq = W3 at HK2 ⊢
          clear HK hc0 hc1 x0 x1 x2 x3 x4 y0 y1 y2 y3 y4
          have HK := HK2
          clear HK2
          obtain ⟨b1', o1', hbe, hc0, hc1⟩ := HTwo.out _ HK.out.c.rdnA
          cases hbe
          rw [HM.out] at hc0
          rw [HN.out] at hc1
          have x0 := HK.out.c.boxA.c0; have x1 := HK.out.c.boxA.c1; have x2 := HK.out.c.boxA.c2; have x3 := HK.out.c.boxA.c3; have x4 := HK.out.c.boxA.c4; have y0 := HK.out.c.boxB.c0; have y1 := HK.out.c.boxB.c1; have y2 := HK.out.c.boxB.c2; have y3 := HK.out.c.boxB.c3; have y4 := HK.out.c.boxB.c4
          go_wp2_with fail
          go_quiet (fail)
          have HK2 := Lib.hid (HK.out.next (drewN_below _ nq))
          generalize World.drewN W3 nq = W4 at HK2 ⊢
          clear HK hc0 hc1 x0 x1 x2 x3 x4 y0 y1 y2 y3 y4
          have HK0 : Hid (K27 w N (.slice (some ⟨b1, o1, none⟩) N.z.length cu) V (.slice p 0 cap) (.slice none 0 0) [] W4) := ⟨HK2.out, ins_nil _ _⟩
          clear HK2 HTw HLe
          have HAl := Lib.hid (agn_len 0 V.z)
          go_wp2_with fail
          go_loopg [7, 10] 0 (fun gk s q wr => ∃ (j : Nat) (U : Value), j + gk = 0 ∧ s = U ∧ q = .int .i64 j ∧ K27 w N (.slice (some ⟨b1, o1, none⟩) N.z.length cu) V (.slice p 0 cap) U ((agn 0 V.z).take j) wr)
          case atStart => exact ⟨0, _, by omega, rfl, rfl, HK0.out⟩
          case round =>
            obtain ⟨j, s0, hjg, rfl, rfl, hk⟩ := hrel
            have HV := Lib.hid hk
            clear hk HK0
            have y0 := HV.out.m.c.boxB.c0; have y4 := HV.out.m.c.boxB.c4
            cases gk with
            | zero =>
              obtain rfl : j = 0 := by omega
              obtain ⟨Z, hZ⟩ : ∃ Z, agn 0 V.z = Z := ⟨_, rfl⟩
              have hZl : Z.length = 0 := by rw [← hZ]; exact HAl.out
              have HO : Hid (RdI wr.heap.size wr u7 Z) := by
                have h := (ins_new HV.out.own).rd
                skip
                rw [hZ, List.take_of_length_le (by omega)] at h
                exact h
              have HZe : Hid ((⟨V.k, 2, (m : Int), (n : Int), agn 0 V.z⟩ : Ar) = ⟨V.k, 2, (m : Int), (n : Int), Z⟩) := by unfold Hid; rw [hZ]
              have HNl := Lib.hid (ins_nilC HV.out.own)
              have HMt := Lib.hid (mat_lit7 (k := V.k) (m := (m : Int)) (n := (n : Int)) HO.out HNl.out (by omega))
              have HK := Lib.hid HV.out.m
              clear HV HO HNl hZ hZl HAl
              go_wp2_with (go_at_call 42; (with_reducible refine HMt.out.mono ?_); rintro e w3 ⟨q, qc, rfl, hu, hb⟩; have HU := Lib.hid hu; have hlt := HK.out.sz; have HK2 := Lib.hid (HK.out.next hb); clear hu hb HK; have y0 := HK2.out.res.c0; have y1 := HK2.out.res.c1; have y2 := HK2.out.res.c2; have y3 := HK2.out.res.c3; have y4 := HK2.out.res.c4; have f0 := HK2.out.res.fr 0; have f1 := HK2.out.res.fr 1; have f2 := HK2.out.res.fr 2; have f3 := HK2.out.res.fr 3; have f4 := HK2.out.res.fr 4; have HS := Lib.hid (HK2.out.res.set V.k 2 (m : Int) (n : Int) (.slice q Z.length qc)); have z0 := HS.out.c0; have z1 := HS.out.c1; have z2 := HS.out.c2; have z3 := HS.out.c3; have z4 := HS.out.c4)
              rw [HZe.out]
              refine bodyPost_ret (v := .tuple #[A5 V.k 2 (m : Int) (n : Int) (.slice q Z.length qc), .int .i64 0]) (by simp [results, Tryd.results41, go_sem, z0, z1, z2, z3, z4]) rfl ?_
              exact ⟨_, rfl, (HU.out.st5 (by omega) _ _ _ _ _).mono (by omega), st5_below _ _ _ _ _ (by omega) HK2.out.c.bel⟩
            | succ g2 => exact absurd hjg (by omega)
    · have hE : gdE N V = leE N.z := le_no h1 h2
      rw [show gdV N V = Ar.no from orNo_no (by rw [hE]; exact h2), hE]
      clear hE h1
      generalize leE N.z = E at h2 HLe ⊢
      have k1 : (E != 0) = true := by simpa using h2
      have k2 : (E == 0) = false := by simpa using h2
      clear h2
      go_enter Tryd.func41, Tryd.ntmps41
      go_wp2_with (first
        | (go_at_call 58; (with_reducible refine (HTw.out _ HK.out.c.lay HK.out.c.rdnA HK.out.c.rdnB).mono ?_); rintro e w1 ⟨rfl, hb⟩; have HK2 := Lib.hid (HK.out.next hb); clear HK x0 x1 x2 x3 x4 y0 y1 y2 y3 y4; have HK := HK2; clear HK2; have x0 := HK.out.c.boxA.c0; have x1 := HK.out.c.boxA.c1; have x2 := HK.out.c.boxA.c2; have x3 := HK.out.c.boxA.c3; have x4 := HK.out.c.boxA.c4; have y0 := HK.out.c.boxB.c0; have y1 := HK.out.c.boxB.c1; have y2 := HK.out.c.boxB.c2; have y3 := HK.out.c.boxB.c3; have y4 := HK.out.c.boxB.c4; clear hb)
        | (go_at_call 66; (with_reducible refine (HLe.out _ HK.out.c.rdnA).mono ?_); rintro e w2 ⟨rfl, hb⟩; have HK2 := Lib.hid (HK.out.next hb); clear HK x0 x1 x2 x3 x4 y0 y1 y2 y3 y4; have HK := HK2; clear HK2; have x0 := HK.out.c.boxA.c0; have x1 := HK.out.c.boxA.c1; have x2 := HK.out.c.boxA.c2; have x3 := HK.out.c.boxA.c3; have x4 := HK.out.c.boxA.c4; have y0 := HK.out.c.boxB.c0; have y1 := HK.out.c.boxB.c1; have y2 := HK.out.c.boxB.c2; have y3 := HK.out.c.boxB.c3; have y4 := HK.out.c.boxB.c4; clear hb))
      go_quiet (fail)
      have HK2 := Lib.hid (HK.out.next (drewN_below _ nq))
      generalize World.drewN w2 nq = W3 at HK2 ⊢
      clear HK x0 x1 x2 x3 x4 y0 y1 y2 y3 y4
      have HK := HK2
      clear HK2
      have y0 := HK.out.res.c0; have y1 := HK.out.res.c1; have y2 := HK.out.res.c2; have y3 := HK.out.res.c3; have y4 := HK.out.res.c4; have f0 := HK.out.res.fr 0; have f1 := HK.out.res.fr 1; have f2 := HK.out.res.fr 2; have f3 := HK.out.res.fr 3; have f4 := HK.out.res.fr 4; have HS := Lib.hid (HK.out.res.set 0 0 0 0 (.slice none 0 0)); have z0 := HS.out.c0; have z1 := HS.out.c1; have z2 := HS.out.c2; have z3 := HS.out.c3; have z4 := HS.out.c4
      go_wp2
      exact bodyPost_ret (v := .tuple #[A5 0 0 0 0 (.slice none 0 0), .int .i64 E]) (by simp [results, Tryd.results41, go_sem, z0, z1, z2, z3, z4]) rfl (retE_no _ (st5_below _ _ _ _ _ (by omega) HK.out.c.bel))
  · have hE : gdE N V = twoE N V 1 V.k 1 1 1 1 := if_neg h1
    rw [show gdV N V = Ar.no from orNo_no (by rw [hE]; exact h1), hE]
    clear hE
    generalize twoE N V 1 V.k 1 1 1 1 = E at h1 HTw ⊢
    have k1 : (E != 0) = true := by simpa using h1
    have k2 : (E == 0) = false := by simpa using h1
    clear h1
    go_enter Tryd.func41, Tryd.ntmps41
    go_wp2_with (go_at_call 58; (with_reducible refine (HTw.out _ HK.out.c.lay HK.out.c.rdnA HK.out.c.rdnB).mono ?_); rintro e w1 ⟨rfl, hb⟩; have HK2 := Lib.hid (HK.out.next hb); clear HK x0 x1 x2 x3 x4 y0 y1 y2 y3 y4; have HK := HK2; clear HK2; have x0 := HK.out.c.boxA.c0; have x1 := HK.out.c.boxA.c1; have x2 := HK.out.c.boxA.c2; have x3 := HK.out.c.boxA.c3; have x4 := HK.out.c.boxA.c4; have y0 := HK.out.c.boxB.c0; have y1 := HK.out.c.boxB.c1; have y2 := HK.out.c.boxB.c2; have y3 := HK.out.c.boxB.c3; have y4 := HK.out.c.boxB.c4; clear hb)
    go_quiet (fail)
    have HK2 := Lib.hid (HK.out.next (drewN_below _ nq))
    generalize World.drewN w1 nq = W3 at HK2 ⊢
    clear HK x0 x1 x2 x3 x4 y0 y1 y2 y3 y4
    have HK := HK2
    clear HK2
    have y0 := HK.out.res.c0; have y1 := HK.out.res.c1; have y2 := HK.out.res.c2; have y3 := HK.out.res.c3; have y4 := HK.out.res.c4; have f0 := HK.out.res.fr 0; have f1 := HK.out.res.fr 1; have f2 := HK.out.res.fr 2; have f3 := HK.out.res.fr 3; have f4 := HK.out.res.fr 4; have HS := Lib.hid (HK.out.res.set 0 0 0 0 (.slice none 0 0)); have z0 := HS.out.c0; have z1 := HS.out.c1; have z2 := HS.out.c2; have z3 := HS.out.c3; have z4 := HS.out.c4
    go_wp2
    exact bodyPost_ret (v := .tuple #[A5 0 0 0 0 (.slice none 0 0), .int .i64 E]) (by simp [results, Tryd.results41, go_sem, z0, z1, z2, z3, z4]) rfl (retE_no _ (st5_below _ _ _ _ _ (by omega) HK.out.c.bel))
end Go.Proofs.YthfpmpmhoegicaaDoor
