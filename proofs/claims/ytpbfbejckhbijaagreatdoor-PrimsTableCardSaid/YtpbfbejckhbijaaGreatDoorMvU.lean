/- The reference's rows, Ravel and Reverse. -/
import Derived.Test.YtpbfbejckhbijaaGreatDoorMvS
namespace Go.Proofs.YtpbfbejckhbijaaGreatDoor
open Go.RowKit

set_option maxRecDepth 100000 in
set_option maxHeartbeats 4000000 in
theorem rows7_any (A : Ar) (v : Value) (w : World) (hA : Good A) (hr : A.r = 1 ∨ A.r = 2) (hv : RdI w.heap.size w v A.z) :
    Calls Tryz.prog 129 #[A5 A.k A.r A.a A.b v] w fun e w' => e = .returned (.tuple #[.int .i64 (rwN A), .int .i64 (rwM A)]) ∧ Below w.heap.size w w' := by
  rcases hr with hr | hr
  · obtain ⟨q1, q2, q3, q4⟩ := rw_vec hA hr
    rw [q1, q2, hr]
    have HB := Lib.hid (bel1 w (.cells #[.int .i64 A.k, .int .i64 1, .int .i64 A.a, .int .i64 A.b, v] 43))
    have HR := Lib.hid (R5.new w A.k 1 A.a A.b v)
    have x0 := HR.out.c0; have x1 := HR.out.c1; have x2 := HR.out.c2; have x3 := HR.out.c3; have x4 := HR.out.c4
    obtain ⟨p, cap, rfl, _, _, _⟩ := hv
    clear hr q1 q2 q3 q4 hA
    go_enter Tryz.func129, Tryz.ntmps129
    go_wp2_with fail
    go_quiet (fail)
    go_wp2
    go_ret2
    exact ⟨rfl, HB.out.trans ((drewN_below _ nq).mono HB.out.size)⟩
  · obtain ⟨q1, q2, q3, q4, q5⟩ := rw_mat hA hr
    rw [← q1, ← q2, hr]
    have HB := Lib.hid (bel1 w (.cells #[.int .i64 A.k, .int .i64 2, .int .i64 A.a, .int .i64 A.b, v] 43))
    have HR := Lib.hid (R5.new w A.k 2 A.a A.b v)
    have x0 := HR.out.c0; have x1 := HR.out.c1; have x2 := HR.out.c2; have x3 := HR.out.c3; have x4 := HR.out.c4
    clear hv hr q1 q2 q3 q4 q5 hA
    go_enter Tryz.func129, Tryz.ntmps129
    go_wp2_with fail
    go_quiet (fail)
    go_wp2
    go_ret2
    exact ⟨rfl, HB.out.trans ((drewN_below _ nq).mono HB.out.size)⟩

set_option maxRecDepth 100000 in
set_option maxHeartbeats 8000000 in
theorem rravel7_any (A : Ar) (v : Value) (w : World) (hw : Ru.Lay w) (hv : RdI w.heap.size w v A.z) (hn : Ru.NilC v) (hl : A.z.length ≤ 100000) :
    Calls Tryz.prog 81 #[A5 A.k A.r A.a A.b v] w (RetE (raV A) (ck A) w) := by
  have HCh := Lib.hid (fun W h => archeck_any A v W h (by omega))
  have HK := Lib.hid (MK1.new (A := A) hw hv)
  have x0 := HK.out.box.c0; have x1 := HK.out.box.c1; have x2 := HK.out.box.c2; have x3 := HK.out.box.c3; have x4 := HK.out.box.c4
  obtain ⟨p, cap, rfl, hcap, hcap2, hcell⟩ := hv
  clear hcell hw
  unfold raV
  by_cases h1 : ck A = 0
  · have HVe := Lib.hid (fun W (h : RdI W.heap.size W (.slice p A.z.length cap) A.z) => vec_lit (k := A.k) h hn hl)
    rw [orNo_yes h1, h1]
    rw [h1] at HCh
    clear h1 hn
    go_enter Tryz.func81, Tryz.ntmps81
    go_wp2_with (first
      | (go_at_call 27; (with_reducible refine (HCh.out _ HK.out.rdn).mono ?_); rintro e w1 ⟨rfl, hb⟩; have HK2 := Lib.hid (HK.out.next hb); clear HK x0 x1 x2 x3 x4; have HK := HK2; clear HK2; have x0 := HK.out.box.c0; have x1 := HK.out.box.c1; have x2 := HK.out.box.c2; have x3 := HK.out.box.c3; have x4 := HK.out.box.c4; clear hb)
      | (go_at_call 48; (with_reducible refine (HVe.out _ HK.out.rdn).mono ?_); rintro e w2 ⟨q, qc, rfl, hu, hb⟩; have HU := Lib.hid hu; have hlt := HK.out.sz; have HK2 := Lib.hid (HK.out.next hb); clear HK x0 x1 x2 x3 x4; have HK := HK2; clear HK2; have x0 := HK.out.box.c0; have x1 := HK.out.box.c1; have x2 := HK.out.box.c2; have x3 := HK.out.box.c3; have x4 := HK.out.box.c4; clear hu hb; have y0 := HK.out.res.c0; have y1 := HK.out.res.c1; have y2 := HK.out.res.c2; have y3 := HK.out.res.c3; have y4 := HK.out.res.c4; have f0 := HK.out.res.fr 0; have f1 := HK.out.res.fr 1; have f2 := HK.out.res.fr 2; have f3 := HK.out.res.fr 3; have f4 := HK.out.res.fr 4; have HS := Lib.hid (HK.out.res.set A.k 1 A.z.length 0 (.slice q A.z.length qc)); have z0 := HS.out.c0; have z1 := HS.out.c1; have z2 := HS.out.c2; have z3 := HS.out.c3; have z4 := HS.out.c4))
    refine bodyPost_ret (v := .tuple #[A5 A.k 1 A.z.length 0 (.slice q A.z.length qc), .int .i64 0]) (by simp [results, Tryz.results81, go_sem, z0, z1, z2, z3, z4]) rfl ?_
    exact ⟨_, rfl, (HU.out.st5 (by omega) _ _ _ _ _).mono (by omega), st5_below _ _ _ _ _ (by omega) HK.out.bel⟩
  · rw [orNo_no h1]
    obtain ⟨E, hE⟩ : ∃ E, ck A = E := ⟨_, rfl⟩
    rw [hE] at h1 HCh ⊢
    have k1 : (E != 0) = true := by simpa using h1
    clear h1 hE hn
    go_enter Tryz.func81, Tryz.ntmps81
    go_wp2_with (go_at_call 27; (with_reducible refine (HCh.out _ HK.out.rdn).mono ?_); rintro e w1 ⟨rfl, hb⟩; have HK2 := Lib.hid (HK.out.next hb); clear HK x0 x1 x2 x3 x4; have HK := HK2; clear HK2; have x0 := HK.out.box.c0; have x1 := HK.out.box.c1; have x2 := HK.out.box.c2; have x3 := HK.out.box.c3; have x4 := HK.out.box.c4; clear hb; have y0 := HK.out.res.c0; have y1 := HK.out.res.c1; have y2 := HK.out.res.c2; have y3 := HK.out.res.c3; have y4 := HK.out.res.c4; have f0 := HK.out.res.fr 0; have f1 := HK.out.res.fr 1; have f2 := HK.out.res.fr 2; have f3 := HK.out.res.fr 3; have f4 := HK.out.res.fr 4; have HS := Lib.hid (HK.out.res.set 0 0 0 0 (.slice none 0 0)); have z0 := HS.out.c0; have z1 := HS.out.c1; have z2 := HS.out.c2; have z3 := HS.out.c3; have z4 := HS.out.c4)
    exact bodyPost_ret (v := .tuple #[A5 0 0 0 0 (.slice none 0 0), .int .i64 E]) (by simp [results, Tryz.results81, go_sem, z0, z1, z2, z3, z4]) rfl (retE_no _ (st5_below _ _ _ _ _ (by omega) HK.out.bel))

/-- Cells of the reversed array, of which the first o have been written. -/
def rvP (A : Ar) (o t : Nat) : Int := if t < o then (rvZ A).getD t 0 else 0
theorem rvP_zero (A : Ar) (t : Nat) : rvP A 0 t = 0 := if_neg (Nat.not_lt_zero _)
theorem rvP_next {A : Ar} {i k : Nat} (hi : i < rwN A) (hk : k < rwM A) (t : Nat) : (if t = i * rwM A + k then A.z.getD (i * rwM A + (rwM A - 1 - k)) 0 else rvP A (i * rwM A + k) t) = rvP A (i * rwM A + k + 1) t := by
  unfold rvP
  by_cases h : t = i * rwM A + k
  · subst h
    rw [if_pos rfl, if_pos (Nat.lt_succ_self _)]
    unfold rvZ
    rw [gl_at hi hk]
  · rw [if_neg h]
    by_cases h2 : t < i * rwM A + k
    · rw [if_pos h2, if_pos (by omega)]
    · rw [if_neg h2, if_neg (by omega)]
theorem R5.put4 {w : World} {g : Nat} {k r a b : Int} {v : Value} (h : R5 w g k r a b v) (u : Value) : R5 (w.setCell ⟨g, 4, none⟩ u) g k r a b u := by
  unfold R5 at h ⊢
  simp [World.setCell, Array.getElem?_modify, h]
/-- What the loops of Reverse keep. -/
structure Kr7 (w : World) (A : Ar) (v : Value) (g gb o : Nat) (W : World) : Prop where
  m : MK1 w A v W
  bx : R5 W gb A.k A.r A.a A.b (.slice (some ⟨g, 0, none⟩) A.z.length A.z.length)
  row : rowZ W g A.z.length (rvP A o)
theorem Kr7.drew {w W : World} {A : Ar} {v : Value} {g gb o : Nat} (k : Kr7 w A v g gb o W) : Kr7 w A v g gb o W.drew :=
  have hb : Below W.heap.size W W.drew := (Below.refl _ _).drew
  ⟨k.m.next hb, k.bx.next hb, k.row.of_block (hb.block _ k.row.lt)⟩
theorem Kr7.put {w W : World} {A : Ar} {v : Value} {g gb i j : Nat} (k : Kr7 w A v g gb (i * rwM A + j) W) (q1 : w.heap.size + 1 < g) (q2 : gb ≠ g) (h3 : 0 + 1 ≤ w.heap.size) (hi : i < rwN A) (hj : j < rwM A) :
    Kr7 w A v g gb (i * rwM A + j + 1) (W.setCell ⟨g, i * rwM A + j, none⟩ (.int .i64 (A.z.getD (i * rwM A + (rwM A - 1 - j)) 0))) := by
  have hb : But g W (W.setCell ⟨g, i * rwM A + j, none⟩ (.int .i64 (A.z.getD (i * rwM A + (rwM A - 1 - j)) 0))) := (But.refl _ _).setCell _ _
  have hbl := hb.below (B := w.heap.size + 2) (by omega)
  exact ⟨k.m.far hbl (k.m.lay.below (by omega) hbl), (hb.block _ q2).trans k.bx, (k.row.put _ _).congr fun x _ => rvP_next hi hj x⟩

set_option maxRecDepth 100000 in
set_option maxHeartbeats 16000000 in
theorem rreverse7_any (A : Ar) (v : Value) (w : World) (hw : Ru.Lay w) (hv : RdI w.heap.size w v A.z) (hl : A.z.length ≤ 100000) :
    Calls Tryz.prog 82 #[A5 A.k A.r A.a A.b v] w (RetE (rvV A) (rvE A) w) := by
  have HCh := Lib.hid (fun W h => archeck_any A v W h (by omega))
  have HK := Lib.hid (MK1.new (A := A) hw hv)
  have HW3 := Lib.hid hw.size
  have x0 := HK.out.box.c0; have x1 := HK.out.box.c1; have x2 := HK.out.box.c2; have x3 := HK.out.box.c3; have x4 := HK.out.box.c4
  unfold rvV rvE oneE
  by_cases h1 : ck A = 0
  · rw [if_pos h1]
    rw [h1] at HCh
    have hA := ck_good h1
    by_cases hr : A.r = 0
    · rw [if_pos (by omega), orNo_no (by decide)]
      rw [hr] at x1
      obtain ⟨p, cap, rfl, hcap, hcap2, hcell⟩ := hv
      clear hcell hw h1 hA
      have HR0 := Lib.hid hr
      clear hr
      go_enter Tryz.func82, Tryz.ntmps82
      go_wp2_with (go_at_call 27; (with_reducible refine (HCh.out _ HK.out.rdn).mono ?_); rintro e w1 ⟨rfl, hb⟩; have HK2 := Lib.hid (HK.out.next hb); clear HK x0 x1 x2 x3 x4; have HK := HK2; clear HK2; have x0 := HK.out.box.c0; have x1 := HK.out.box.c1; have x2 := HK.out.box.c2; have x3 := HK.out.box.c3; have x4 := HK.out.box.c4; clear hb; rw [HR0.out] at x1; have y0 := HK.out.res.c0; have y1 := HK.out.res.c1; have y2 := HK.out.res.c2; have y3 := HK.out.res.c3; have y4 := HK.out.res.c4; have f0 := HK.out.res.fr 0; have f1 := HK.out.res.fr 1; have f2 := HK.out.res.fr 2; have f3 := HK.out.res.fr 3; have f4 := HK.out.res.fr 4; have HS := Lib.hid (HK.out.res.set 0 0 0 0 (.slice none 0 0)); have z0 := HS.out.c0; have z1 := HS.out.c1; have z2 := HS.out.c2; have z3 := HS.out.c3; have z4 := HS.out.c4)
      exact bodyPost_ret (v := .tuple #[A5 0 0 0 0 (.slice none 0 0), .int .i64 22]) (by simp [results, Tryz.results82, go_sem, z0, z1, z2, z3, z4]) rfl (retE_no _ (st5_below _ _ _ _ _ (by omega) HK.out.bel))
    · have hr2 : A.r = 1 ∨ A.r = 2 := by
        have := hA.sh
        obtain ⟨k, r, a, b, z⟩ := A
        simp only at this hr ⊢
        cases this <;> omega
      rw [if_neg (by omega), orNo_yes rfl]
      have k0 : (A.r == 0) = false := by simpa using hr
      have HRo := Lib.hid (fun W h => rows7_any A v W hA hr2 h)
      obtain ⟨_, _, r2, r3, r4⟩ := rw_good hA
      have HLen := Lib.hid (rvZ_len hA)
      obtain ⟨i0, hi, hz0, hz1, hz2⟩ := info_parts info64
      have hl4 := hA.len4
      have hmk := fun W : World => run_make (P := Tryz.prog) W 41 2 i0 (.int .i64 0) Tryz.underlying41 hi hz0 .i64 .i64 A.z.length A.z.length (by omega) (by omega) (by rw [hz2]; omega) (by omega)
      rw [Int.toNat_natCast, hz1, Nat.mul_one] at hmk
      have HMk := Lib.hid hmk
      have HRd0 := Lib.hid hv
      obtain ⟨p, cap, rfl, hcap, hcap2, hcell⟩ := hv
      clear hcell hw h1 hA hr hr2 hmk hi hz0 hz1 hz2
      go_enter Tryz.func82, Tryz.ntmps82
      go_wp2_with (first
        | (go_at_call 27; (with_reducible refine (HCh.out _ HK.out.rdn).mono ?_); rintro e w1 ⟨rfl, hb⟩; have HK2 := Lib.hid (HK.out.next hb); clear HK x0 x1 x2 x3 x4; have HK := HK2; clear HK2; have x0 := HK.out.box.c0; have x1 := HK.out.box.c1; have x2 := HK.out.box.c2; have x3 := HK.out.box.c3; have x4 := HK.out.box.c4; clear hb)
        | (go_at_call 129; (with_reducible refine (HRo.out _ HK.out.rdn).mono ?_); rintro e w2 ⟨rfl, hb⟩; have HK2 := Lib.hid (HK.out.next hb); clear HK x0 x1 x2 x3 x4; have HK := HK2; clear HK2; have x0 := HK.out.box.c0; have x1 := HK.out.box.c1; have x2 := HK.out.box.c2; have x3 := HK.out.box.c3; have x4 := HK.out.box.c4; clear hb; have HB1 := Lib.hid (bel1 w2 (.cells #[.int .i64 A.k, .int .i64 A.r, .int .i64 A.a, .int .i64 A.b, .slice p A.z.length cap] 43)); have e1 : (w2.alloc (.cells #[.int .i64 A.k, .int .i64 A.r, .int .i64 A.a, .int .i64 A.b, .slice p A.z.length cap] 43)).heap.size = w2.heap.size + 1 := (by simp); have hmk1 := HMk.out (w2.alloc (.cells #[.int .i64 A.k, .int .i64 A.r, .int .i64 A.a, .int .i64 A.b, .slice p A.z.length cap] 43)); rw [e1] at hmk1; have HB2 := Lib.hid (HB1.out.trans ((bel1 (w2.alloc (.cells #[.int .i64 A.k, .int .i64 A.r, .int .i64 A.a, .int .i64 A.b, .slice p A.z.length cap] 43)) (.cells (madeCells (Value.int .i64 0).cells A.z.length) 2)).mono HB1.out.size)); have HK3 := Lib.hid (HK.out.next HB1.out); have q4 := HK3.out.box.c4; have HG := Lib.hid ((R5.new w2 A.k A.r A.a A.b (.slice p A.z.length cap)).next (bel1 (w2.alloc (.cells #[.int .i64 A.k, .int .i64 A.r, .int .i64 A.a, .int .i64 A.b, .slice p A.z.length cap] 43)) (.cells (madeCells (Value.int .i64 0).cells A.z.length) 2))); have g4 := HG.out.c4; have gf := HG.out.fr 4; have HRow := Lib.hid (made_row A.z.length (w2.alloc (.cells #[.int .i64 A.k, .int .i64 A.r, .int .i64 A.a, .int .i64 A.b, .slice p A.z.length cap] 43))); clear e1)
        | fail)
      have hs2 : w.heap.size + 2 ≤ w2.heap.size := HK.out.sz
      have HK5 : Hid (Kr7 w A (.slice p A.z.length cap) (w2.heap.size + 1) w2.heap.size 0 ((w2.alloc (.cells #[.int .i64 A.k, .int .i64 A.r, .int .i64 A.a, .int .i64 A.b, (.slice (some ⟨w2.heap.size + 1, 0, none⟩) A.z.length A.z.length)] 43)).alloc (.cells (madeCells (Value.int .i64 0).cells A.z.length) 2))) := by
        have hbl : Below w2.heap.size w2 ((w2.alloc (.cells #[.int .i64 A.k, .int .i64 A.r, .int .i64 A.a, .int .i64 A.b, (.slice (some ⟨w2.heap.size + 1, 0, none⟩) A.z.length A.z.length)] 43)).alloc (.cells (madeCells (Value.int .i64 0).cells A.z.length) 2)) := (bel1 w2 _).trans ((bel1 _ _).mono (bel1 w2 _).size)
        refine ⟨HK.out.next hbl, (R5.new w2 A.k A.r A.a A.b (.slice (some ⟨w2.heap.size + 1, 0, none⟩) A.z.length A.z.length)).next (bel1 _ _), ?_⟩
        have e1 : (w2.alloc (.cells #[.int .i64 A.k, .int .i64 A.r, .int .i64 A.a, .int .i64 A.b, (.slice (some ⟨w2.heap.size + 1, 0, none⟩) A.z.length A.z.length)] 43)).heap.size = w2.heap.size + 1 := by simp
        have h := made_row A.z.length (w2.alloc (.cells #[.int .i64 A.k, .int .i64 A.r, .int .i64 A.a, .int .i64 A.b, (.slice (some ⟨w2.heap.size + 1, 0, none⟩) A.z.length A.z.length)] 43))
        rw [e1] at h
        exact World.rowIs.congr h fun i hi => by rw [rvP_zero]
      clear HK HB1 HB2 HK3 HG HRow q4 g4 gf hmk1 HMk HCh HRo x0 x1 x2 x3 x4
      generalize hW5 : (w2.alloc (.cells #[.int .i64 A.k, .int .i64 A.r, .int .i64 A.a, .int .i64 A.b, (.slice (some ⟨w2.heap.size + 1, 0, none⟩) A.z.length A.z.length)] 43)).alloc (.cells (madeCells (Value.int .i64 0).cells A.z.length) 2) = W5 at HK5
      simp only [Value.cells] at hW5 ⊢
      rw [hW5]
      clear hW5
      generalize hg : w2.heap.size + 1 = g at HK5 ⊢
      have hgs : w.heap.size + 1 < g := by omega
      have hgb : w2.heap.size ≠ g := by omega
      obtain ⟨n, hn⟩ : ∃ n, rwN A = n := ⟨_, rfl⟩
      obtain ⟨m, hm⟩ : ∃ m, rwM A = m := ⟨_, rfl⟩
      have HN := Lib.hid hn
      have HM := Lib.hid hm
      rw [hn] at r2 r3 ⊢
      rw [hm] at r2 r4 ⊢
      clear hn hm hg
      go_loopg [8] n (fun gk q wr => ∃ i : Nat, i + gk = n ∧ q = .int .i64 i ∧ Kr7 w A (.slice p A.z.length cap) g w2.heap.size (i * m) wr)
      case atStart => exact ⟨0, by omega, rfl, by rw [Nat.zero_mul]; exact HK5.out⟩
      case round =>
        obtain ⟨i, hig, rfl, hk⟩ := hrel
        have HV := Lib.hid hk
        clear hk HK5
        cases gk with
        | zero =>
          have hiz : ¬ ((i : Int) < (n : Int)) := by omega
          have HF : Hid (rowZ wr g A.z.length (fun x => (rvZ A).getD x 0)) := HV.out.row.congr fun x hx => by unfold rvP; rw [if_pos (by rw [show i = n by omega, r2]; exact hx)]
          have b0 := HV.out.bx.c0; have b1 := HV.out.bx.c1; have b2 := HV.out.bx.c2; have b3 := HV.out.bx.c3; have b4 := HV.out.bx.c4
          have y0 := HV.out.m.res.c0; have y1 := HV.out.m.res.c1; have y2 := HV.out.m.res.c2; have y3 := HV.out.m.res.c3; have y4 := HV.out.m.res.c4; have f0 := HV.out.m.res.fr 0; have f1 := HV.out.m.res.fr 1; have f2 := HV.out.m.res.fr 2; have f3 := HV.out.m.res.fr 3; have f4 := HV.out.m.res.fr 4; have HS := Lib.hid (HV.out.m.res.set A.k A.r A.a A.b (.slice (some ⟨g, 0, none⟩) A.z.length A.z.length)); have z0 := HS.out.c0; have z1 := HS.out.c1; have z2 := HS.out.c2; have z3 := HS.out.c3; have z4 := HS.out.c4
          go_wp2
          refine bodyPost_ret (v := .tuple #[A5 A.k A.r A.a A.b (.slice (some ⟨g, 0, none⟩) A.z.length A.z.length), .int .i64 0]) (by simp [results, Tryz.results82, go_sem, z0, z1, z2, z3, z4]) rfl ?_
          exact ⟨_, rfl, zf_new HLen.out (World.rowIs.of_block HF.out.zf (st5_other _ _ _ _ _ (by omega))) (by omega) (by omega), st5_below _ _ _ _ _ (by omega) HV.out.m.bel⟩
        | succ g2 =>
          have hiz : (i : Int) < (n : Int) := by omega
          have hi : i < n := by omega
          have hwi : IntKind.i64.wrap ((i : Int) + 1) = (i : Int) + 1 := by rw [IntKind.wrap_i64]; omega
          have hle := Nat.mul_le_mul_right m (show i + 1 ≤ n by omega)
          have him : (i + 1) * m = i * m + m := by rw [Nat.add_mul, Nat.one_mul]
          rw [him] at hle
          have HIm := Lib.hid him
          clear him
          go_wp2
          go_loopg [9] m (fun gk q wr => ∃ j : Nat, j + gk = m ∧ q = .int .i64 j ∧ Kr7 w A (.slice p A.z.length cap) g w2.heap.size (i * m + j) wr)
          case atStart => exact ⟨0, by omega, rfl, HV.out⟩
          case round =>
            obtain ⟨j, hjg, rfl, hk⟩ := hrel
            have HI := Lib.hid hk
            clear hk HV
            cases gk with
            | zero =>
              have hjz : ¬ ((j : Int) < (m : Int)) := by omega
              have HVn : Hid (Kr7 w A (.slice p A.z.length cap) g w2.heap.size ((i + 1) * m) wr) := by
                have e : j = m := by omega
                have h := HI.out
                rw [e] at h
                rw [HIm.out]
                exact h
              go_wp2
              go_roundg g2
              case measure => omega
              case rel => exact ⟨i + 1, by omega, by go_num, HVn.out⟩
            | succ g3 =>
              have hjz : (j : Int) < (m : Int) := by omega
              have hj : j < m := by omega
              have hlt : i * m + (m - 1 - j) < A.z.length := by omega
              obtain ⟨b1, o1, he, hb1, hc⟩ := HI.out.m.rd.cells (by intro e; rw [e] at hlt; simp at hlt)
              cases he
              have HD := Lib.hid HI.out.drew
              have x1 := hc (i * m + (m - 1 - j)) hlt
              have HVal : Hid ((A.z)[i * m + (m - 1 - j)] = A.z.getD (i * m + (m - 1 - j)) 0) := by unfold Hid; rw [List.getD_eq_getElem?_getD, List.getElem?_eq_getElem hlt]; rfl
              generalize (A.z)[i * m + (m - 1 - j)] = c at x1 HVal
              clear hc
              have x4 := HI.out.m.box.c4; have b4 := HI.out.bx.c4
              have x3 : wr.cell? ⟨g, i * m + j, none⟩ = some (.int .i64 (rvP A (i * m + j) (i * m + j))) := HI.out.row.cell (by omega)
              have hd4 : i * m + j < A.z.length := by omega
              have hput : ∀ W, Kr7 w A (.slice (some ⟨b1, o1, none⟩) A.z.length cap) g w2.heap.size (i * m + j) W → Kr7 w A (.slice (some ⟨b1, o1, none⟩) A.z.length cap) g w2.heap.size (i * m + (j + 1)) (W.setCell ⟨g, i * m + j, none⟩ (.int .i64 c)) := fun W h => by
                have h2 : Kr7 w A (.slice (some ⟨b1, o1, none⟩) A.z.length cap) g w2.heap.size (i * rwM A + j) W := by rw [HM.out]; exact h
                have h3 := h2.put hgs hgb HW3.out (by rw [HN.out]; exact hi) (by rw [HM.out]; exact hj)
                rw [HM.out, ← HVal.out] at h3
                exact h3
              have HPut := Lib.hid hput
              have hx3 : ∀ W, Kr7 w A (.slice (some ⟨b1, o1, none⟩) A.z.length cap) g w2.heap.size (i * m + j) W → W.cell? ⟨g, i * m + j, none⟩ = some (.int .i64 (rvP A (i * m + j) (i * m + j))) := fun W h => h.row.cell hd4
              have HX3 := Lib.hid hx3
              clear hput hx3 x3 HVal
              obtain ⟨s, hs⟩ : ∃ s, i * m + (m - 1 - j) = s := ⟨_, rfl⟩
              obtain ⟨d, hd⟩ : ∃ d, i * m + j = d := ⟨_, rfl⟩
              obtain ⟨o, ho⟩ : ∃ o, i * m = o := ⟨_, rfl⟩
              have hw1 : IntKind.i64.wrap ((i : Int) * (m : Int)) = (o : Int) := by rw [← Int.natCast_mul, IntKind.wrap_i64, ho]; omega
              have hw2 : IntKind.i64.wrap ((o : Int) + (j : Int)) = (d : Int) := by rw [IntKind.wrap_i64]; omega
              have hw3 : IntKind.i64.wrap ((o : Int) + (m : Int)) = ((o + m : Nat) : Int) := by rw [IntKind.wrap_i64]; omega
              obtain ⟨e, he⟩ : ∃ e, o + m = e := ⟨_, rfl⟩
              rw [he] at hw3
              have hw4 : IntKind.i64.wrap ((e : Int) - 1) = ((e - 1 : Nat) : Int) := by rw [IntKind.wrap_i64]; omega
              obtain ⟨f, hf⟩ : ∃ f, e - 1 = f := ⟨_, rfl⟩
              rw [hf] at hw4
              have hw5 : IntKind.i64.wrap ((f : Int) - (j : Int)) = (s : Int) := by rw [IntKind.wrap_i64]; omega
              have hs1 : (s : Int) < (A.z.length : Int) := by omega
              have hd1 : (d : Int) < (A.z.length : Int) := by omega
              rw [hs] at x1
              rw [hd] at HI HX3 HPut
              have HPut2 : Hid (∀ W, Kr7 w A (.slice (some ⟨b1, o1, none⟩) A.z.length cap) g w2.heap.size d W → Kr7 w A (.slice (some ⟨b1, o1, none⟩) A.z.length cap) g w2.heap.size (d + 1) (W.setCell ⟨g, d, none⟩ (.int .i64 c))) := fun W h => by have := HPut.out W h; rw [← Nat.add_assoc, hd] at this; exact this
              have HDo := Lib.hid (And.intro hd ho)
              have hwj : IntKind.i64.wrap ((j : Int) + 1) = (j : Int) + 1 := by rw [IntKind.wrap_i64]; omega
              clear HPut hd ho hs he hf hlt hle hd4 HD
              go_wp2_with fail
              go_still_tail 20, (by kernel_rfl)
              change wpList _ _ _ _ _ wr.drew
              have HId := Lib.hid HI.out.drew
              generalize wr.drew = Wd at HId ⊢
              have x3 := HX3.out Wd HId.out
              have f3 : Wd.frozen? ⟨g, d, none⟩ = false := HId.out.row.frozen _
              have HNx := Lib.hid (HPut2.out Wd HId.out)
              clear HI HId x1 x4 b4
              go_wp2
              go_roundg g3
              case measure => omega
              case rel => exact ⟨j + 1, by omega, by go_num, by rw [HDo.out.2, ← Nat.add_assoc, ← HDo.out.2, HDo.out.1]; exact HNx.out⟩
  · rw [if_neg h1, orNo_no h1]
    obtain ⟨E, hE⟩ : ∃ E, ck A = E := ⟨_, rfl⟩
    rw [hE] at h1 HCh ⊢
    have k1 : (E != 0) = true := by simpa using h1
    have k2 : (E == 0) = false := by simpa using h1
    obtain ⟨p, cap, rfl, hcap, hcap2, hcell⟩ := hv
    clear h1 hE hcell hw
    go_enter Tryz.func82, Tryz.ntmps82
    go_wp2_with (go_at_call 27; (with_reducible refine (HCh.out _ HK.out.rdn).mono ?_); rintro e w1 ⟨rfl, hb⟩; have HK2 := Lib.hid (HK.out.next hb); clear HK x0 x1 x2 x3 x4; have HK := HK2; clear HK2; have x0 := HK.out.box.c0; have x1 := HK.out.box.c1; have x2 := HK.out.box.c2; have x3 := HK.out.box.c3; have x4 := HK.out.box.c4; clear hb; have y0 := HK.out.res.c0; have y1 := HK.out.res.c1; have y2 := HK.out.res.c2; have y3 := HK.out.res.c3; have y4 := HK.out.res.c4; have f0 := HK.out.res.fr 0; have f1 := HK.out.res.fr 1; have f2 := HK.out.res.fr 2; have f3 := HK.out.res.fr 3; have f4 := HK.out.res.fr 4; have HS := Lib.hid (HK.out.res.set 0 0 0 0 (.slice none 0 0)); have z0 := HS.out.c0; have z1 := HS.out.c1; have z2 := HS.out.c2; have z3 := HS.out.c3; have z4 := HS.out.c4)
    exact bodyPost_ret (v := .tuple #[A5 0 0 0 0 (.slice none 0 0), .int .i64 E]) (by simp [results, Tryz.results82, go_sem, z0, z1, z2, z3, z4]) rfl (retE_no _ (st5_below _ _ _ _ _ (by omega) HK.out.bel))
end Go.Proofs.YtpbfbejckhbijaaGreatDoor
