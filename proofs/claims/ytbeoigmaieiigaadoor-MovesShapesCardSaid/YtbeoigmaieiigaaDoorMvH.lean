/- Reverse of the code. -/
import Derived.Test.YtbeoigmaieiigaaDoorMvG
namespace Go.Proofs.YtbeoigmaieiigaaDoor
open Go.RowKit

theorem mrows_ok {A : Ar} (hA : Good A) (hr : A.r = 1 ∨ A.r = 2) (b off cap : Nat) (W : World) (hcap : A.z.length ≤ cap) (hcap2 : cap ≤ 9223372036854775807) :
    Calls Tryd.prog 42 #[A5 A.k A.r A.a A.b (.slice (some ⟨b, off, none⟩) A.z.length cap)] W fun e w' => ∃ h, e = .returned (.slice (some ⟨h, 0, none⟩) (rwN A) (rwN A)) ∧ W.heap.size ≤ h ∧ w'.rowIs h 23 (rwN A) (rp (some ⟨b, off, none⟩) (rwM A)) ∧ Below W.heap.size W w' := by
  have hp : 0 < A.z.length → ∃ b' off', (some ⟨b, off, none⟩ : Option Addr) = some ⟨b', off', none⟩ := fun _ => ⟨b, off, rfl⟩
  have hp0 : (some ⟨b, off, none⟩ : Option Addr) = none → cap = 0 := fun e => by cases e
  rcases hr with hr | hr
  · obtain ⟨q1, q2, q3, q4⟩ := rw_vec hA hr
    rw [q1, q2, hr, q3]
    exact mrows1_any A.k A.z.length A.b _ cap W (by have := hA.len4; omega) hcap hcap2 hp hp0
  · obtain ⟨q1, q2, q3, q4, q5⟩ := rw_mat hA hr
    rw [hr, q1, q2]
    exact mrows2_any A.k (rwN A) (rwM A) A.z.length _ cap W q3.symm q4 q5 hcap hcap2 hp hp0
theorem zf_rowZ {w : World} {g n : Nat} {z : List Int} (h : w.rowIs g 2 n (zf z n)) : rowZ w g n (fun i => z.getD i 0) := World.rowIs.congr h fun i hi => by unfold zf; rw [if_pos hi]
theorem rowZ.zf {w : World} {g n : Nat} {z : List Int} (h : rowZ w g n (fun i => z.getD i 0)) : w.rowIs g 2 n (zf z n) := World.rowIs.congr h fun i hi => by unfold Go.Proofs.YtbeoigmaieiigaaDoor.zf; rw [if_pos hi]
/-- Make of an array that is one: spelled out. -/
theorem make_ok {A : Ar} (h : ck A = 0) (v : Value) (w : World) (hw : Ru.Lay w) (hv : RdI w.heap.size w v A.z) (hl : A.z.length ≤ 1000000) :
    Calls Tryd.prog 41 #[.int .i64 A.k, .int .i64 A.r, P2 A.a A.b, v] w fun e w' => ∃ g, e = .returned (.tuple #[A5 A.k A.r A.a A.b (.slice (some ⟨g, 0, none⟩) A.z.length A.z.length), .int .i64 0]) ∧ w.heap.size ≤ g ∧ g < w'.heap.size ∧ rowZ w' g A.z.length (fun i => A.z.getD i 0) ∧ Below w.heap.size w w' := by
  refine (makeW_any A.k A.r A.a A.b A.z v w hw hv hl).mono ?_
  have h' : ck ⟨A.k, A.r, A.a, A.b, A.z⟩ = 0 := h
  rw [mk_yes h', h']
  rintro e w' ⟨u, h1, h2, h3⟩
  rcases h2 with ⟨hn, _⟩ | ⟨g, rfl, hg, hrow⟩
  · exact absurd rfl hn
  · exact ⟨g, h1, hg, hrow.lt, zf_rowZ hrow, h3⟩
/-- blank that is an array: spelled out. -/
theorem blank_ok {k r a b : Int} {n : Nat} (h : ck ⟨k, r, a, b, List.replicate n 0⟩ = 0) (w : World) (hw : Ru.Lay w) (hn : (if r = 2 then a * b else a) = (n : Int)) (hl : n ≤ 1000000) :
    Calls Tryd.prog 45 #[.int .i64 k, .int .i64 r, P2 a b] w fun e w' => ∃ g, e = .returned (.tuple #[A5 k r a b (.slice (some ⟨g, 0, none⟩) n n), .int .i64 0]) ∧ w.heap.size ≤ g ∧ g < w'.heap.size ∧ rowZ w' g n (fun _ => 0) ∧ Below w.heap.size w w' := by
  refine (blank_any k r a b n w hw hn hl).mono ?_
  rw [mk_yes h, h]
  rintro e w' ⟨u, h1, h2, h3⟩
  rcases h2 with ⟨hn, _⟩ | ⟨g, rfl, hg, hrow⟩
  · exact absurd rfl hn
  · simp only [List.length_replicate] at h1 hrow
    exact ⟨g, h1, hg, hrow.lt, World.rowIs.congr hrow fun i hi => by unfold zf; rw [if_pos hi, List.getD_eq_getElem?_getD, List.getElem?_replicate]; simp [hi], h3⟩
/-- Cells, of which the first rows are reversed. -/
def rvR (A : Ar) (j i : Nat) : Int := if i < j * rwM A then (rvZ A).getD i 0 else A.z.getD i 0
theorem rvR_next {A : Ar} {j : Nat} (hj : j < rwN A) (i : Nat) : (if j * rwM A ≤ i ∧ i < j * rwM A + rwM A then rvR A j (j * rwM A + (rwM A - 1 - (i - j * rwM A))) else rvR A j i) = rvR A (j + 1) i := by
  have e : (j + 1) * rwM A = j * rwM A + rwM A := by rw [Nat.add_mul, Nat.one_mul]
  unfold rvR
  rw [e]
  by_cases h1 : j * rwM A ≤ i ∧ i < j * rwM A + rwM A
  · rw [if_pos h1, if_neg (by omega), if_pos h1.2]
    obtain ⟨k, rfl⟩ : ∃ k, i = j * rwM A + k := ⟨i - j * rwM A, by omega⟩
    rw [show j * rwM A + k - j * rwM A = k by omega]
    unfold rvZ
    rw [gl_at hj (by omega)]
  · rw [if_neg h1]
    by_cases h2 : i < j * rwM A
    · rw [if_pos h2, if_pos (by omega)]
    · rw [if_neg h2, if_neg (by omega)]
/-- What the loop of Reverse keeps. -/
structure Kv (w : World) (A : Ar) (g gb h j : Nat) (W : World) : Prop where
  bel : Below w.heap.size w W
  res : R5 W (w.heap.size + 1) 0 0 0 0 (.slice none 0 0)
  bx : R5 W gb A.k A.r A.a A.b (.slice (some ⟨g, 0, none⟩) A.z.length A.z.length)
  list : W.rowIs h 23 (rwN A) (rp (some ⟨g, 0, none⟩) (rwM A))
  row : rowZ W g A.z.length (rvR A j)
theorem Kv.next {w W W' : World} {A : Ar} {g gb h j : Nat} (k : Kv w A g gb h j W) (h1 : w.heap.size + 1 < g) (h2 : gb ≠ g) (h3 : h ≠ g) (hj : j < rwN A) (hb : But g W W')
    (hr : rowZ W' g A.z.length (fun i => if j * rwM A ≤ i ∧ i < j * rwM A + rwM A then rvR A j (j * rwM A + (rwM A - 1 - (i - j * rwM A))) else rvR A j i)) : Kv w A g gb h (j + 1) W' :=
  ⟨k.bel.trans (hb.below (by omega)), (hb.block _ (by omega)).trans k.res, (hb.block _ h2).trans k.bx, k.list.of_block (hb.block _ h3), hr.congr fun i _ => rvR_next hj i⟩
theorem rv_ok {A : Ar} (h : rvE A = 0) : Good A ∧ (A.r = 1 ∨ A.r = 2) := by
  obtain ⟨h1, h2, h3⟩ := one_ok h
  exact ⟨h1, by omega⟩

set_option maxRecDepth 100000 in
set_option maxHeartbeats 8000000 in
theorem mreverse_any (A : Ar) (v : Value) (w : World) (hw : Ru.Lay w) (hv : RdI w.heap.size w v A.z) (hl : A.z.length ≤ 1000000) :
    Calls Tryd.prog 16 #[A5 A.k A.r A.a A.b v] w (RetE (rvV A) (rvE A) w) := by
  have HFa := Lib.hid (fun W g hg h1 h2 => fault1_any A v 1 2 W g hg h1 h2 hl)
  have HK := Lib.hid (MK1.new (A := A) hw hv)
  have x0 := HK.out.box.c0; have x1 := HK.out.box.c1; have x2 := HK.out.box.c2; have x3 := HK.out.box.c3; have x4 := HK.out.box.c4
  obtain ⟨p, cap, rfl, hcap, hcap2, hcell⟩ := hv
  clear hcell hw
  have HFa2 : Hid (∀ W g, W.heap.size = g → Ru.Lay W → RdI W.heap.size W (.slice p A.z.length cap) A.z → Calls Tryd.prog 39 #[.slice (some ⟨g, 0, none⟩) 1 1] (W.alloc (.cells #[.int .i64 A.k, .int .i64 A.r, .int .i64 A.a, .int .i64 A.b, .slice p A.z.length cap, .int .i64 A.k, .int .i64 1, .int .i64 2] 48)) fun e w' => e = .returned (.int .i64 (rvE A)) ∧ Below W.heap.size W w') := HFa.out
  clear HFa
  have HFa := HFa2
  clear HFa2
  unfold rvV
  by_cases h1 : rvE A = 0
  · obtain ⟨hA, hr⟩ := rv_ok h1
    have HMk := Lib.hid (fun W h1 h2 => make_ok (good_ck hA) (.slice p A.z.length cap) W h1 h2 hl)
    have HRw := Lib.hid (fun g W => mrows_ok hA hr g 0 A.z.length W (Nat.le_refl _) (by omega))
    obtain ⟨_, _, r2, r3, r4⟩ := rw_good hA
    have HLen := Lib.hid (rvZ_len hA)
    rw [orNo_yes h1, h1]
    rw [h1] at HFa
    clear h1 hA hr
    go_enter Tryd.func16, Tryd.ntmps16
    go_wp2_with (first
      | (go_at_call 39; (with_reducible refine (HFa.out _ _ (by first | rfl | simp) HK.out.lay HK.out.rdn).mono ?_); rintro e w1 ⟨rfl, hb⟩; have HK2 := Lib.hid (HK.out.next hb); clear HK x0 x1 x2 x3 x4; have HK := HK2; clear HK2; have x0 := HK.out.box.c0; have x1 := HK.out.box.c1; have x2 := HK.out.box.c2; have x3 := HK.out.box.c3; have x4 := HK.out.box.c4; clear hb)
      | (go_at_call 41; (with_reducible refine (HMk.out _ HK.out.lay HK.out.rdn).mono ?_); rintro e w2 ⟨g, rfl, hg1, hg2, hrow, hb⟩; have hgs : w.heap.size + 1 < g := (by have := HK.out.sz; omega); have HRow := Lib.hid (hrow.alloc (.cells #[.int .i64 A.k, .int .i64 A.r, .int .i64 A.a, .int .i64 A.b, .slice (some ⟨g, 0, none⟩) A.z.length A.z.length] 25)); have HBx := Lib.hid (R5.new w2 A.k A.r A.a A.b (.slice (some ⟨g, 0, none⟩) A.z.length A.z.length)); have HK2 := Lib.hid ((HK.out.next hb).next (bel1 w2 (.cells #[.int .i64 A.k, .int .i64 A.r, .int .i64 A.a, .int .i64 A.b, .slice (some ⟨g, 0, none⟩) A.z.length A.z.length] 25))); clear HK x0 x1 x2 x3 x4; have HK := HK2; clear HK2; clear hb hrow hg1; have x0 := HK.out.box.c0; have x1 := HK.out.box.c1; have x2 := HK.out.box.c2; have x3 := HK.out.box.c3; have x4 := HK.out.box.c4; have b0 := HBx.out.c0; have b1 := HBx.out.c1; have b2 := HBx.out.c2; have b3 := HBx.out.c3; have b4 := HBx.out.c4)
      | (go_at_call 42; (with_reducible refine (HRw.out _ _).mono ?_); rintro e w3 ⟨h, rfl, hh, hlist, hb⟩; have HRow3 := Lib.hid (HRow.out.of_block (hb.block g (by simp; omega))); have hhg : h ≠ g := (by simp at hh; omega); have HBx3 := Lib.hid (HBx.out.next hb); have HLs := Lib.hid hlist; have HK2 := Lib.hid (HK.out.next hb); clear HK x0 x1 x2 x3 x4; have HK := HK2; clear HK2; have x0 := HK.out.box.c0; have x1 := HK.out.box.c1; have x2 := HK.out.box.c2; have x3 := HK.out.box.c3; have x4 := HK.out.box.c4; clear hb hlist hh b0 b1 b2 b3 b4 HRow HBx))
    have HKv : Hid (Kv w A g w2.heap.size h 0 w3) := ⟨HK.out.bel, HK.out.res, HBx3.out, HLs.out, HRow3.out.congr fun i _ => by unfold rvR; rw [Nat.zero_mul, if_neg (by omega)]⟩
    have hgb : w2.heap.size ≠ g := by omega
    clear HK HRow3 HBx3 HLs x0 x1 x2 x3 x4
    obtain ⟨n, hn⟩ : ∃ n, rwN A = n := ⟨_, rfl⟩
    have HN := Lib.hid hn
    rw [hn] at r2 r3 ⊢
    clear hn
    go_loopg [34] n (fun gk i wr => ∃ j : Nat, j + gk = n ∧ i = .int .i64 j ∧ Kv w A g w2.heap.size h j wr)
    case atStart => exact ⟨0, by omega, rfl, HKv.out⟩
    case round =>
      obtain ⟨j, hjg, rfl, hk⟩ := hrel
      have HV := Lib.hid hk
      clear hk HKv
      cases gk with
      | zero =>
        have hjz : ¬ ((j : Int) < (n : Int)) := by omega
        have HF : Hid (rowZ wr g A.z.length (fun i => (rvZ A).getD i 0)) := HV.out.row.congr fun i hi => by unfold rvR; rw [if_pos (by rw [show j = n by omega, r2]; exact hi)]
        have b0 := HV.out.bx.c0; have b1 := HV.out.bx.c1; have b2 := HV.out.bx.c2; have b3 := HV.out.bx.c3; have b4 := HV.out.bx.c4
        have y0 := HV.out.res.c0; have y1 := HV.out.res.c1; have y2 := HV.out.res.c2; have y3 := HV.out.res.c3; have y4 := HV.out.res.c4; have f0 := HV.out.res.fr 0; have f1 := HV.out.res.fr 1; have f2 := HV.out.res.fr 2; have f3 := HV.out.res.fr 3; have f4 := HV.out.res.fr 4; have HS := Lib.hid (HV.out.res.set A.k A.r A.a A.b (.slice (some ⟨g, 0, none⟩) A.z.length A.z.length)); have z0 := HS.out.c0; have z1 := HS.out.c1; have z2 := HS.out.c2; have z3 := HS.out.c3; have z4 := HS.out.c4
        go_wp2
        refine bodyPost_ret (v := .tuple #[A5 A.k A.r A.a A.b (.slice (some ⟨g, 0, none⟩) A.z.length A.z.length), .int .i64 0]) (by simp [results, Tryd.results16, go_sem, z0, z1, z2, z3, z4]) rfl ?_
        exact ⟨_, rfl, zf_new HLen.out (World.rowIs.of_block HF.out.zf (st5_other _ _ _ _ _ (by omega))) hl (by omega), st5_below _ _ _ _ _ (by omega) HV.out.bel⟩
      | succ g2 =>
        have hjz : (j : Int) < (n : Int) := by omega
        have hj : j < n := by omega
        have hle := Nat.mul_le_mul_right (rwM A) (show j + 1 ≤ n by omega)
        rw [Nat.add_mul, Nat.one_mul] at hle
        have x0 : wr.cell? ⟨h, j, none⟩ = some (.slice (some ⟨g, 0 + j * rwM A, none⟩) (rwM A) (rwM A)) := by rw [HV.out.list.cell (by rw [HN.out]; exact hj), rp_some]
        rw [Nat.zero_add] at x0
        have HRv := Lib.hid (reverse_any g (j * rwM A) (rwM A) A.z.length (rvR A j) wr HV.out.row (by omega) hl)
        have hw0 : IntKind.i64.wrap ((j : Int) + 1) = (j : Int) + 1 := by rw [IntKind.wrap_i64]; omega
        go_wp2_with (go_at_call 43; (with_reducible refine HRv.out.mono ?_); rintro e w4 ⟨rfl, hrow, hbut⟩; have HV4 := Lib.hid (HV.out.next hgs hgb hhg (by rw [HN.out]; exact hj) hbut hrow); clear hrow hbut)
        go_roundg g2
        case measure => omega
        case rel => exact ⟨j + 1, by omega, by go_num, HV4.out⟩
  · rw [orNo_no h1]
    generalize rvE A = E at h1 HFa ⊢
    have k1 : (E != 0) = true := by simpa using h1
    clear h1
    go_enter Tryd.func16, Tryd.ntmps16
    go_wp2_with (go_at_call 39; (with_reducible refine (HFa.out _ _ (by first | rfl | simp) HK.out.lay HK.out.rdn).mono ?_); rintro e w1 ⟨rfl, hb⟩; have HK2 := Lib.hid (HK.out.next hb); clear HK x0 x1 x2 x3 x4; have HK := HK2; clear HK2; have x0 := HK.out.box.c0; have x1 := HK.out.box.c1; have x2 := HK.out.box.c2; have x3 := HK.out.box.c3; have x4 := HK.out.box.c4; clear hb; have y0 := HK.out.res.c0; have y1 := HK.out.res.c1; have y2 := HK.out.res.c2; have y3 := HK.out.res.c3; have y4 := HK.out.res.c4; have f0 := HK.out.res.fr 0; have f1 := HK.out.res.fr 1; have f2 := HK.out.res.fr 2; have f3 := HK.out.res.fr 3; have f4 := HK.out.res.fr 4; have HS := Lib.hid (HK.out.res.set 0 0 0 0 (.slice none 0 0)); have z0 := HS.out.c0; have z1 := HS.out.c1; have z2 := HS.out.c2; have z3 := HS.out.c3; have z4 := HS.out.c4)
    exact bodyPost_ret (v := .tuple #[A5 0 0 0 0 (.slice none 0 0), .int .i64 E]) (by simp [results, Tryd.results16, go_sem, z0, z1, z2, z3, z4]) rfl (retE_no _ (st5_below _ _ _ _ _ (by omega) HK.out.bel))
end Go.Proofs.YtbeoigmaieiigaaDoor
