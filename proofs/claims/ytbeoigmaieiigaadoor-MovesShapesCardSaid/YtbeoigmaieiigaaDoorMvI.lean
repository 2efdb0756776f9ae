/- Flip of the code. -/
import Derived.Test.YtbeoigmaieiigaaDoorMvH
namespace Go.Proofs.YtbeoigmaieiigaaDoor
open Go.RowKit

/-- Cells of the flipped matrix, as far as they have been written. -/
def flF (A : Ar) (i j x : Nat) : Int := if x % rwN A < i ∨ (x % rwN A = i ∧ x / rwN A < j) then (fpZ A).getD x 0 else 0
theorem flF_zero (A : Ar) (x : Nat) : flF A 0 0 x = 0 := by unfold flF; rw [if_neg (by rintro (h | ⟨_, h⟩) <;> exact absurd h (Nat.not_lt_zero _))]
theorem flF_all {A : Ar} {i x : Nat} (hx : x < rwM A * rwN A) (hi : rwN A ≤ i) : flF A i 0 x = (fpZ A).getD x 0 := by
  obtain ⟨h1, h2, _⟩ := split_lt hx
  unfold flF
  rw [if_pos (.inl (by omega))]
theorem flF_outer {A : Ar} {i j x : Nat} (hx : x < rwM A * rwN A) (hj : rwM A ≤ j) : flF A i j x = flF A (i + 1) 0 x := by
  obtain ⟨h1, h2, _⟩ := split_lt hx
  unfold flF
  generalize x % rwN A = r at h2 ⊢
  generalize x / rwN A = q at h1 ⊢
  by_cases h : r < i + 1
  · rw [if_pos (by omega), if_pos (.inl h)]
  · rw [if_neg (by omega), if_neg (by omega)]
theorem flF_inner {A : Ar} {i j x : Nat} (hi : i < rwN A) (hj : j < rwM A) : (if x = j * rwN A + i then A.z.getD (i * rwM A + j) 0 else flF A i j x) = flF A i (j + 1) x := by
  by_cases h : x = j * rwN A + i
  · subst h
    rw [if_pos rfl]
    unfold flF
    rw [div_at hi, mod_at hi, if_pos (by omega)]
    unfold fpZ
    rw [gl_at hj hi]
  · rw [if_neg h]
    unfold flF
    have hne : ¬ (x % rwN A = i ∧ x / rwN A = j) := by
      rintro ⟨e1, e2⟩
      have := Nat.div_add_mod x (rwN A)
      rw [e1, e2, Nat.mul_comm] at this
      exact h this.symm
    by_cases h2 : x % rwN A < i ∨ (x % rwN A = i ∧ x / rwN A < j)
    · rw [if_pos h2, if_pos (by omega)]
    · rw [if_neg h2, if_neg (by omega)]
/-- What the loops of Flip keep. -/
structure Kf (w : World) (A : Ar) (v : Value) (g gb h1 h2 : Nat) (p : Option Addr) (i j : Nat) (W : World) : Prop where
  bel : Below w.heap.size w W
  res : R5 W (w.heap.size + 1) 0 0 0 0 (.slice none 0 0)
  bx : R5 W gb A.k 2 A.b A.a (.slice (some ⟨g, 0, none⟩) A.z.length A.z.length)
  l1 : W.rowIs h1 23 (rwM A) (rp (some ⟨g, 0, none⟩) (rwN A))
  l2 : W.rowIs h2 23 (rwN A) (rp p (rwM A))
  rd : RdI w.heap.size W v A.z
  row : rowZ W g A.z.length (flF A i j)
theorem Kf.inner {w W : World} {A : Ar} {v : Value} {g gb h1 h2 : Nat} {p : Option Addr} {i j : Nat} (k : Kf w A v g gb h1 h2 p i j W) (q1 : w.heap.size + 1 < g) (q2 : gb ≠ g) (q3 : h1 ≠ g) (q4 : h2 ≠ g) (hi : i < rwN A) (hj : j < rwM A) :
    Kf w A v g gb h1 h2 p i (j + 1) (W.setCell ⟨g, j * rwN A + i, none⟩ (.int .i64 (A.z.getD (i * rwM A + j) 0))) := by
  have hb : But g W (W.setCell ⟨g, j * rwN A + i, none⟩ (.int .i64 (A.z.getD (i * rwM A + j) 0))) := (But.refl _ _).setCell _ _
  exact ⟨k.bel.trans (hb.below (by omega)), (hb.block _ (by omega)).trans k.res, (hb.block _ q2).trans k.bx, k.l1.of_block (hb.block _ q3), k.l2.of_block (hb.block _ q4), k.rd.below (hb.below (by omega)), (k.row.put _ _).congr fun x _ => flF_inner hi hj⟩
theorem Kf.outer {w W : World} {A : Ar} {v : Value} {g gb h1 h2 : Nat} {p : Option Addr} {i j : Nat} (k : Kf w A v g gb h1 h2 p i j W) (hj : rwM A ≤ j) (_ : i < rwN A) (hA : A.z.length = rwN A * rwM A) : Kf w A v g gb h1 h2 p (i + 1) 0 W :=
  ⟨k.bel, k.res, k.bx, k.l1, k.l2, k.rd, k.row.congr fun x hx => flF_outer (by rw [Nat.mul_comm, ← hA]; exact hx) hj⟩
theorem fp_ok {A : Ar} (h : fpEE A = 0) : Good A ∧ A.r = 2 := by
  obtain ⟨h1, h2, h3⟩ := one_ok h
  exact ⟨h1, by omega⟩
theorem fp_blank {A : Ar} (h : Good A) (hr : A.r = 2) : ck ⟨A.k, 2, A.b, A.a, List.replicate A.z.length 0⟩ = 0 ∧ (if (2 : Int) = 2 then A.b * A.a else A.b) = (A.z.length : Int) := by
  obtain ⟨k, r, a, b, z⟩ := A
  simp only at hr
  subst hr
  have hs := h.sh
  have hl := h.len
  simp only at hs hl
  have e : (z.length : Int) = b * a := by rw [hl, Int.mul_comm]; simp [cn]
  cases hs with
  | s2 _ _ h0 h1 h2 h3 h4 =>
    refine ⟨ck_mat h.kind (Sh.s2 b a h2 h3 h0 h1 (by rw [Int.mul_comm]; exact h4)) (by rw [List.length_replicate]; exact e) (fun _ => zeros_all _), ?_⟩
    rw [if_pos rfl]; exact e.symm

set_option maxRecDepth 100000 in
set_option maxHeartbeats 16000000 in
theorem mflip_any (A : Ar) (v : Value) (w : World) (hw : Ru.Lay w) (hv : RdI w.heap.size w v A.z) (hn : Ru.NilC v) (hl : A.z.length ≤ 1000000) :
    Calls Tryd.prog 18 #[A5 A.k A.r A.a A.b v] w (RetE (fpV A) (fpEE A) w) := by
  have HFa : Hid (∀ W g, W.heap.size = g → Ru.Lay W → RdI W.heap.size W v A.z → Calls Tryd.prog 39 #[.slice (some ⟨g, 0, none⟩) 1 1] (W.alloc (.cells #[.int .i64 A.k, .int .i64 A.r, .int .i64 A.a, .int .i64 A.b, v, .int .i64 A.k, .int .i64 2, .int .i64 2] 48)) fun e w' => e = .returned (.int .i64 (fpEE A)) ∧ Below W.heap.size W w') := fun W g hg h1 h2 => fault1_any A v 2 2 W g hg h1 h2 hl
  have HK := Lib.hid (MK1.new (A := A) hw hv)
  have x0 := HK.out.box.c0; have x1 := HK.out.box.c1; have x2 := HK.out.box.c2; have x3 := HK.out.box.c3; have x4 := HK.out.box.c4
  unfold fpV
  by_cases h1 : fpEE A = 0
  · obtain ⟨hA, hr⟩ := fp_ok h1
    obtain ⟨hb1, hb2⟩ := fp_blank hA hr
    obtain ⟨a1, a2, r2, r3, r4⟩ := rw_mat hA hr
    obtain ⟨p, cap, rfl, hRa⟩ := mrows_any A v w hA (.inr hr) hv hn
    have HRa := Lib.hid hRa
    have HBl := Lib.hid (fun W hw => blank_ok hb1 W hw hb2 hl)
    have HRb : Hid (∀ g W, Calls Tryd.prog 42 #[A5 A.k 2 A.b A.a (.slice (some ⟨g, 0, none⟩) A.z.length A.z.length)] W fun e w' => ∃ h, e = .returned (.slice (some ⟨h, 0, none⟩) (rwM A) (rwM A)) ∧ W.heap.size ≤ h ∧ w'.rowIs h 23 (rwM A) (rp (some ⟨g, 0, none⟩) (rwN A)) ∧ Below W.heap.size W w') := fun g W => by
      rw [a1, a2]
      exact mrows2_any A.k (rwM A) (rwN A) A.z.length _ _ W (by rw [Nat.mul_comm]; exact r2.symm) r4 r3 (Nat.le_refl _) (by omega) (fun _ => ⟨g, 0, rfl⟩) (fun e => by cases e)
    have HLen := Lib.hid (fpZ_len hA)
    have r2' := r2.symm
    clear r2
    have r2 := r2'
    clear r2'
    rw [orNo_yes h1, h1]
    rw [h1] at HFa
    clear h1 hA hr hRa hb1 hb2 a1 a2 hn
    have hcap : A.z.length ≤ cap ∧ cap ≤ 9223372036854775807 := by obtain ⟨_, _, e, h1, h2, _⟩ := hv; cases e; exact ⟨h1, h2⟩
    obtain ⟨hcap1, hcap2⟩ := hcap
    rcases p with _ | ⟨b0, off, sp⟩
    · have hz0 : Hid (A.z.length = 0) := by
        obtain ⟨_, _, e, _, _, h3⟩ := hv
        cases e
        rcases Nat.eq_zero_or_pos A.z.length with h | h
        · exact h
        · obtain ⟨_, _, e, _⟩ := h3 (List.length_pos_iff.1 h)
          cases e
      clear hv hw
      go_enter Tryd.func18, Tryd.ntmps18
      go_wp2_with (first
        | (go_at_call 39; (with_reducible refine (HFa.out _ _ (by first | rfl | simp) HK.out.lay HK.out.rdn).mono ?_); rintro e w1 ⟨rfl, hb⟩; have HK2 := Lib.hid (HK.out.next hb); clear HK x0 x1 x2 x3 x4; have HK := HK2; clear HK2; have x0 := HK.out.box.c0; have x1 := HK.out.box.c1; have x2 := HK.out.box.c2; have x3 := HK.out.box.c3; have x4 := HK.out.box.c4; clear hb)
        | (go_at_call 45; (with_reducible refine (HBl.out _ HK.out.lay).mono ?_); rintro e w2 ⟨g, rfl, hg1, hg2, hrow, hb⟩; have hgs : w.heap.size + 1 < g := (by have := HK.out.sz; omega); have HRow := Lib.hid (hrow.alloc (.cells #[.int .i64 A.k, .int .i64 2, .int .i64 A.b, .int .i64 A.a, .slice (some ⟨g, 0, none⟩) A.z.length A.z.length] 25)); have HBx := Lib.hid (R5.new w2 A.k 2 A.b A.a (.slice (some ⟨g, 0, none⟩) A.z.length A.z.length)); have HK2 := Lib.hid ((HK.out.next hb).next (bel1 w2 (.cells #[.int .i64 A.k, .int .i64 2, .int .i64 A.b, .int .i64 A.a, .slice (some ⟨g, 0, none⟩) A.z.length A.z.length] 25))); clear HK x0 x1 x2 x3 x4; have HK := HK2; clear HK2; clear hb hrow hg1; have x0 := HK.out.box.c0; have x1 := HK.out.box.c1; have x2 := HK.out.box.c2; have x3 := HK.out.box.c3; have x4 := HK.out.box.c4; have b0 := HBx.out.c0; have b1 := HBx.out.c1; have b2 := HBx.out.c2; have b3 := HBx.out.c3; have b4 := HBx.out.c4)
        | (go_at_call 42; (with_reducible refine (HRb.out _ _).mono ?_); rintro e w3 ⟨h1, rfl, hh, hlist, hb⟩; have HRow3 := Lib.hid (HRow.out.of_block (hb.block g (by simp; omega))); have hh1 : h1 ≠ g := (by simp at hh; omega); have hlt1 : h1 < w3.heap.size := hlist.lt; have HBx3 := Lib.hid (HBx.out.next hb); have HL1 := Lib.hid hlist; have hs3 := hb.size; have HK2 := Lib.hid (HK.out.next hb); clear HK x0 x1 x2 x3 x4; have HK := HK2; clear HK2; have x0 := HK.out.box.c0; have x1 := HK.out.box.c1; have x2 := HK.out.box.c2; have x3 := HK.out.box.c3; have x4 := HK.out.box.c4; clear hb hlist hh b0 b1 b2 b3 b4 HRow HBx)
        | (go_at_call 42; (with_reducible refine (HRa.out _).mono ?_); rintro e w4 ⟨h2, rfl, hh, hlist, hb⟩; have HRow4 := Lib.hid (HRow3.out.of_block (hb.block g (by simp at hs3; omega))); have hh2 : h2 ≠ g := (by simp at hs3; omega); have HBx4 := Lib.hid (HBx3.out.next hb); have HL1b := Lib.hid (HL1.out.of_block (hb.block h1 hlt1)); have HL2 := Lib.hid hlist; have HK2 := Lib.hid (HK.out.next hb); clear HK x0 x1 x2 x3 x4; have HK := HK2; clear HK2; have x0 := HK.out.box.c0; have x1 := HK.out.box.c1; have x2 := HK.out.box.c2; have x3 := HK.out.box.c3; have x4 := HK.out.box.c4; clear hb hlist hh HRow3 HBx3 HL1))
      have HKf : Hid (Kf w A (.slice none A.z.length cap) g w2.heap.size h1 h2 none 0 0 w4) := ⟨HK.out.bel, HK.out.res, HBx4.out, HL1b.out, HL2.out, HK.out.rd, HRow4.out.congr fun x _ => by rw [flF_zero]⟩
      have hgb : w2.heap.size ≠ g := by omega
      clear HK HRow4 HBx4 HL1b HL2 x0 x1 x2 x3 x4
      obtain ⟨n, hn⟩ : ∃ n, rwN A = n := ⟨_, rfl⟩
      obtain ⟨m, hm⟩ : ∃ m, rwM A = m := ⟨_, rfl⟩
      have HN := Lib.hid hn
      have HM := Lib.hid hm
      rw [hn] at r2 r3 ⊢
      rw [hm] at r2 r4 ⊢
      clear hn hm
      go_loopg [40] n (fun gk q wr => ∃ i : Nat, i + gk = n ∧ q = .int .i64 i ∧ Kf w A (.slice none A.z.length cap) g w2.heap.size h1 h2 none i 0 wr)
      case atStart => exact ⟨0, by omega, rfl, HKf.out⟩
      case round =>
        obtain ⟨i, hig, rfl, hk⟩ := hrel
        have HV := Lib.hid hk
        clear hk HKf
        cases gk with
        | zero =>
          have hiz : ¬ ((i : Int) < (n : Int)) := by omega
          have HF : Hid (rowZ wr g A.z.length (fun x => (fpZ A).getD x 0)) := HV.out.row.congr fun x hx => flF_all (by rw [HN.out, HM.out, Nat.mul_comm, r2]; exact hx) (by rw [HN.out]; omega)
          have b0 := HV.out.bx.c0; have b1 := HV.out.bx.c1; have b2 := HV.out.bx.c2; have b3 := HV.out.bx.c3; have b4 := HV.out.bx.c4
          have y0 := HV.out.res.c0; have y1 := HV.out.res.c1; have y2 := HV.out.res.c2; have y3 := HV.out.res.c3; have y4 := HV.out.res.c4; have f0 := HV.out.res.fr 0; have f1 := HV.out.res.fr 1; have f2 := HV.out.res.fr 2; have f3 := HV.out.res.fr 3; have f4 := HV.out.res.fr 4; have HS := Lib.hid (HV.out.res.set A.k 2 A.b A.a (.slice (some ⟨g, 0, none⟩) A.z.length A.z.length)); have z0 := HS.out.c0; have z1 := HS.out.c1; have z2 := HS.out.c2; have z3 := HS.out.c3; have z4 := HS.out.c4
          go_wp2
          refine bodyPost_ret (v := .tuple #[A5 A.k 2 A.b A.a (.slice (some ⟨g, 0, none⟩) A.z.length A.z.length), .int .i64 0]) (by simp [results, Tryd.results18, go_sem, z0, z1, z2, z3, z4]) rfl ?_
          exact ⟨_, rfl, zf_new HLen.out (World.rowIs.of_block HF.out.zf (st5_other _ _ _ _ _ (by omega))) hl (by omega), st5_below _ _ _ _ _ (by omega) HV.out.bel⟩
        | succ g2 =>
          have hiz : (i : Int) < (n : Int) := by omega
          have hi : i < n := by omega
          have hwi : IntKind.i64.wrap ((i : Int) + 1) = (i : Int) + 1 := by rw [IntKind.wrap_i64]; omega
          have x0 : wr.cell? ⟨h2, i, none⟩ = some (.slice none 0 0) := by rw [HV.out.l2.cell (by rw [HN.out]; exact hi)]; rfl
          have hm0 : m = 0 := by rcases Nat.eq_zero_or_pos m with e | e; (exact e); (exfalso; have := Nat.mul_pos (show 0 < n by omega) e; have := hz0.out; omega)
          go_wp2
          refine wp_loop_rounds 4 ?_
          rw [rounds_succ]
          have HVn : Hid (Kf w A (.slice none A.z.length cap) g w2.heap.size h1 h2 none (i + 1) 0 wr) := HV.out.outer (by rw [HM.out, hm0]; exact Nat.le_refl _) (by rw [HN.out]; exact hi) (by rw [HN.out, HM.out]; exact r2.symm)
          go_wp2
          go_roundg g2
          case measure => omega
          case rel => exact ⟨i + 1, by omega, by go_num, HVn.out⟩
    · clear hv hw
      go_enter Tryd.func18, Tryd.ntmps18
      go_wp2_with (first
        | (go_at_call 39; (with_reducible refine (HFa.out _ _ (by first | rfl | simp) HK.out.lay HK.out.rdn).mono ?_); rintro e w1 ⟨rfl, hb⟩; have HK2 := Lib.hid (HK.out.next hb); clear HK x0 x1 x2 x3 x4; have HK := HK2; clear HK2; have x0 := HK.out.box.c0; have x1 := HK.out.box.c1; have x2 := HK.out.box.c2; have x3 := HK.out.box.c3; have x4 := HK.out.box.c4; clear hb)
        | (go_at_call 45; (with_reducible refine (HBl.out _ HK.out.lay).mono ?_); rintro e w2 ⟨g, rfl, hg1, hg2, hrow, hb⟩; have hgs : w.heap.size + 1 < g := (by have := HK.out.sz; omega); have HRow := Lib.hid (hrow.alloc (.cells #[.int .i64 A.k, .int .i64 2, .int .i64 A.b, .int .i64 A.a, .slice (some ⟨g, 0, none⟩) A.z.length A.z.length] 25)); have HBx := Lib.hid (R5.new w2 A.k 2 A.b A.a (.slice (some ⟨g, 0, none⟩) A.z.length A.z.length)); have HK2 := Lib.hid ((HK.out.next hb).next (bel1 w2 (.cells #[.int .i64 A.k, .int .i64 2, .int .i64 A.b, .int .i64 A.a, .slice (some ⟨g, 0, none⟩) A.z.length A.z.length] 25))); clear HK x0 x1 x2 x3 x4; have HK := HK2; clear HK2; clear hb hrow hg1; have x0 := HK.out.box.c0; have x1 := HK.out.box.c1; have x2 := HK.out.box.c2; have x3 := HK.out.box.c3; have x4 := HK.out.box.c4; have b0 := HBx.out.c0; have b1 := HBx.out.c1; have b2 := HBx.out.c2; have b3 := HBx.out.c3; have b4 := HBx.out.c4)
        | (go_at_call 42; (with_reducible refine (HRb.out _ _).mono ?_); rintro e w3 ⟨h1, rfl, hh, hlist, hb⟩; have HRow3 := Lib.hid (HRow.out.of_block (hb.block g (by simp; omega))); have hh1 : h1 ≠ g := (by simp at hh; omega); have hlt1 : h1 < w3.heap.size := hlist.lt; have HBx3 := Lib.hid (HBx.out.next hb); have HL1 := Lib.hid hlist; have hs3 := hb.size; have HK2 := Lib.hid (HK.out.next hb); clear HK x0 x1 x2 x3 x4; have HK := HK2; clear HK2; have x0 := HK.out.box.c0; have x1 := HK.out.box.c1; have x2 := HK.out.box.c2; have x3 := HK.out.box.c3; have x4 := HK.out.box.c4; clear hb hlist hh b0 b1 b2 b3 b4 HRow HBx)
        | (go_at_call 42; (with_reducible refine (HRa.out _).mono ?_); rintro e w4 ⟨h2, rfl, hh, hlist, hb⟩; have HRow4 := Lib.hid (HRow3.out.of_block (hb.block g (by simp at hs3; omega))); have hh2 : h2 ≠ g := (by simp at hs3; omega); have HBx4 := Lib.hid (HBx3.out.next hb); have HL1b := Lib.hid (HL1.out.of_block (hb.block h1 hlt1)); have HL2 := Lib.hid hlist; have HK2 := Lib.hid (HK.out.next hb); clear HK x0 x1 x2 x3 x4; have HK := HK2; clear HK2; have x0 := HK.out.box.c0; have x1 := HK.out.box.c1; have x2 := HK.out.box.c2; have x3 := HK.out.box.c3; have x4 := HK.out.box.c4; clear hb hlist hh HRow3 HBx3 HL1))
      have HKf : Hid (Kf w A (.slice (some ⟨b0, off, sp⟩) A.z.length cap) g w2.heap.size h1 h2 (some ⟨b0, off, sp⟩) 0 0 w4) := ⟨HK.out.bel, HK.out.res, HBx4.out, HL1b.out, HL2.out, HK.out.rd, HRow4.out.congr fun x _ => by rw [flF_zero]⟩
      have hgb : w2.heap.size ≠ g := by omega
      clear HK HRow4 HBx4 HL1b HL2 x0 x1 x2 x3 x4
      obtain ⟨n, hn⟩ : ∃ n, rwN A = n := ⟨_, rfl⟩
      obtain ⟨m, hm⟩ : ∃ m, rwM A = m := ⟨_, rfl⟩
      have HN := Lib.hid hn
      have HM := Lib.hid hm
      rw [hn] at r2 r3 ⊢
      rw [hm] at r2 r4 ⊢
      clear hn hm
      go_loopg [40] n (fun gk q wr => ∃ i : Nat, i + gk = n ∧ q = .int .i64 i ∧ Kf w A (.slice (some ⟨b0, off, sp⟩) A.z.length cap) g w2.heap.size h1 h2 (some ⟨b0, off, sp⟩) i 0 wr)
      case atStart => exact ⟨0, by omega, rfl, HKf.out⟩
      case round =>
        obtain ⟨i, hig, rfl, hk⟩ := hrel
        have HV := Lib.hid hk
        clear hk HKf
        cases gk with
        | zero =>
          have hiz : ¬ ((i : Int) < (n : Int)) := by omega
          have HF : Hid (rowZ wr g A.z.length (fun x => (fpZ A).getD x 0)) := HV.out.row.congr fun x hx => flF_all (by rw [HN.out, HM.out, Nat.mul_comm, r2]; exact hx) (by rw [HN.out]; omega)
          have b0 := HV.out.bx.c0; have b1 := HV.out.bx.c1; have b2 := HV.out.bx.c2; have b3 := HV.out.bx.c3; have b4 := HV.out.bx.c4
          have y0 := HV.out.res.c0; have y1 := HV.out.res.c1; have y2 := HV.out.res.c2; have y3 := HV.out.res.c3; have y4 := HV.out.res.c4; have f0 := HV.out.res.fr 0; have f1 := HV.out.res.fr 1; have f2 := HV.out.res.fr 2; have f3 := HV.out.res.fr 3; have f4 := HV.out.res.fr 4; have HS := Lib.hid (HV.out.res.set A.k 2 A.b A.a (.slice (some ⟨g, 0, none⟩) A.z.length A.z.length)); have z0 := HS.out.c0; have z1 := HS.out.c1; have z2 := HS.out.c2; have z3 := HS.out.c3; have z4 := HS.out.c4
          go_wp2
          refine bodyPost_ret (v := .tuple #[A5 A.k 2 A.b A.a (.slice (some ⟨g, 0, none⟩) A.z.length A.z.length), .int .i64 0]) (by simp [results, Tryd.results18, go_sem, z0, z1, z2, z3, z4]) rfl ?_
          exact ⟨_, rfl, zf_new HLen.out (World.rowIs.of_block HF.out.zf (st5_other _ _ _ _ _ (by omega))) hl (by omega), st5_below _ _ _ _ _ (by omega) HV.out.bel⟩
        | succ g2 =>
          have hiz : (i : Int) < (n : Int) := by omega
          have hi : i < n := by omega
          have hwi : IntKind.i64.wrap ((i : Int) + 1) = (i : Int) + 1 := by rw [IntKind.wrap_i64]; omega
          have x0 : wr.cell? ⟨h2, i, none⟩ = some (.slice (some ⟨b0, off + i * m, sp⟩) m m) := by rw [HV.out.l2.cell (by rw [HN.out]; exact hi), HM.out]; rfl
          have hle := Nat.mul_le_mul_right m (show i + 1 ≤ n by omega)
          rw [Nat.add_mul, Nat.one_mul] at hle
          go_wp2
          clear x0
          go_loopg [47] m (fun gk q wr => ∃ j : Nat, j + gk = m ∧ q = .int .i64 j ∧ Kf w A (.slice (some ⟨b0, off, sp⟩) A.z.length cap) g w2.heap.size h1 h2 (some ⟨b0, off, sp⟩) i j wr)
          case atStart => exact ⟨0, by omega, rfl, HV.out⟩
          case round =>
            obtain ⟨j, hjg, rfl, hk⟩ := hrel
            have HI := Lib.hid hk
            clear hk HV
            cases gk with
            | zero =>
              have hjz : ¬ ((j : Int) < (m : Int)) := by omega
              have HVn := Lib.hid (HI.out.outer (by rw [HM.out]; omega) (by rw [HN.out]; exact hi) (by rw [HN.out, HM.out]; exact r2.symm))
              go_wp2
              go_roundg g2
              case measure => omega
              case rel => exact ⟨i + 1, by omega, by go_num, HVn.out⟩
            | succ g3 =>
              have hjz : (j : Int) < (m : Int) := by omega
              have hj : j < m := by omega
              have hlt : i * m + j < A.z.length := by omega
              obtain ⟨b1, o1, he, hb1, hc⟩ := HI.out.rd.cells (by intro e; rw [e] at hlt; simp at hlt)
              cases he
              have x1 := hc (i * m + j) hlt
              have HVal : Hid ((A.z)[i * m + j] = A.z.getD (i * m + j) 0) := by unfold Hid; rw [List.getD_eq_getElem?_getD, List.getElem?_eq_getElem hlt]; rfl
              generalize (A.z)[i * m + j] = c at x1 HVal
              rw [← Nat.add_assoc] at x1
              clear hc
              have x2 : wr.cell? ⟨h1, j, none⟩ = some (.slice (some ⟨g, j * n, none⟩) n n) := by rw [HI.out.l1.cell (by rw [HM.out]; exact hj), HN.out, rp_some, Nat.zero_add]
              have hji := lt_at (m := n) hj hi
              have hmn : m * n = A.z.length := by rw [Nat.mul_comm]; exact r2
              have x3 : wr.cell? ⟨g, j * n + i, none⟩ = some (.int .i64 (flF A i j (j * n + i))) := HI.out.row.cell (by omega)
              have f3 : wr.frozen? ⟨g, j * n + i, none⟩ = false := HI.out.row.frozen _
              have HNx : Hid (Kf w A (.slice (some ⟨b0, off, none⟩) A.z.length cap) g w2.heap.size h1 h2 (some ⟨b0, off, none⟩) i (j + 1) (wr.setCell ⟨g, j * n + i, none⟩ (.int .i64 c))) := by rw [HVal.out, ← HN.out, ← HM.out]; exact HI.out.inner hgs hgb hh1 hh2 (by rw [HN.out]; exact hi) (by rw [HM.out]; exact hj)
              have hjm : (j : Int) < (m : Int) := by omega
              have hin : (i : Int) < (n : Int) := by omega
              have hw0 : IntKind.i64.wrap ((j : Int) + 1) = (j : Int) + 1 := by rw [IntKind.wrap_i64]; omega
              clear hji hmn hlt hle HVal
              go_wp2
              go_roundg g3
              case measure => omega
              case rel => exact ⟨j + 1, by omega, by go_num, HNx.out⟩
  · obtain ⟨p, cap, rfl, hcap, hcap2, hcell⟩ := hv
    clear hcell hw hn
    rw [orNo_no h1]
    generalize fpEE A = E at h1 HFa ⊢
    have k1 : (E != 0) = true := by simpa using h1
    clear h1
    go_enter Tryd.func18, Tryd.ntmps18
    go_wp2_with (go_at_call 39; (with_reducible refine (HFa.out _ _ (by first | rfl | simp) HK.out.lay HK.out.rdn).mono ?_); rintro e w1 ⟨rfl, hb⟩; have HK2 := Lib.hid (HK.out.next hb); clear HK x0 x1 x2 x3 x4; have HK := HK2; clear HK2; have x0 := HK.out.box.c0; have x1 := HK.out.box.c1; have x2 := HK.out.box.c2; have x3 := HK.out.box.c3; have x4 := HK.out.box.c4; clear hb; have y0 := HK.out.res.c0; have y1 := HK.out.res.c1; have y2 := HK.out.res.c2; have y3 := HK.out.res.c3; have y4 := HK.out.res.c4; have f0 := HK.out.res.fr 0; have f1 := HK.out.res.fr 1; have f2 := HK.out.res.fr 2; have f3 := HK.out.res.fr 3; have f4 := HK.out.res.fr 4; have HS := Lib.hid (HK.out.res.set 0 0 0 0 (.slice none 0 0)); have z0 := HS.out.c0; have z1 := HS.out.c1; have z2 := HS.out.c2; have z3 := HS.out.c3; have z4 := HS.out.c4)
    exact bodyPost_ret (v := .tuple #[A5 0 0 0 0 (.slice none 0 0), .int .i64 E]) (by simp [results, Tryd.results18, go_sem, z0, z1, z2, z3, z4]) rfl (retE_no _ (st5_below _ _ _ _ _ (by omega) HK.out.bel))
end Go.Proofs.YtbeoigmaieiigaaDoor
