/- The functions that carry numbers along a row; fold of numbers. -/
import Derived.Test.YtokmdgiialcokaaDoorFoB
import Derived.Test.YtokmdgiialcokaaDoorMvV
namespace Go.Proofs.YtokmdgiialcokaaDoor
open Go.RowKit

set_option maxRecDepth 100000 in
set_option maxHeartbeats 4000000 in
theorem prim1_any (p x c : Int) (gp : Nat) (w : World) (hp : w.cell? ⟨gp, 0, none⟩ = some (.int .i64 p)) (hx : Sc.inr x = true) (hc : Sc.inr c = true) :
    Calls Tryd.prog 85 #[.int .i64 x, .int .i64 c, .pointer (some ⟨gp, 0, none⟩)] w fun e w' => e = .returned (.tuple #[.int .i64 (Sc.twoV p x c).1, .int .i64 (Sc.twoV p x c).2]) ∧ Below w.heap.size w w' := by
  have HC : Hid (∀ W, Calls Tryd.prog 54 #[.int .i64 p, .int .i64 x, .int .i64 c] W fun e w' => e = .returned (.tuple #[.int .i64 (Sc.twoV p x c).1, .int .i64 (Sc.twoV p x c).2]) ∧ Below W.heap.size W w') := fun W => Sc.stwo_any p x c W (inr_lo hx) (inr_hi hx) (inr_lo hc) (inr_hi hc)
  generalize (Sc.twoV p x c).1 = a at HC ⊢
  generalize (Sc.twoV p x c).2 = b at HC ⊢
  clear hx hc
  go_enter Tryd.func85, Tryd.ntmps85
  go_wp2_with (go_at_call 54; (with_reducible refine (HC.out _).mono ?_); rintro e w' ⟨rfl, hb⟩)
  go_ret2
  exact ⟨rfl, hb⟩
set_option maxRecDepth 100000 in
set_option maxHeartbeats 4000000 in
theorem cnt1_any (x c : Int) (w : World) (h0 : 0 ≤ x) (h1 : x ≤ 1000000) :
    Calls Tryd.prog 74 #[.int .i64 x, .int .i64 c] w fun e w' => e = .returned (.tuple #[.int .i64 (x + 1), .int .i64 0]) ∧ Below w.heap.size w w' := by
  have hw : IntKind.i64.wrap (x + 1) = x + 1 := by rw [IntKind.wrap_i64]; omega
  go_enter Tryd.func74, Tryd.ntmps74
  go_wp2
  go_ret2
  exact ⟨rfl, Below.refl _ _⟩
/-- What fold returns. -/
def FdE (B : Nat) (cs : List (Int × Int)) (e : Ending) (w' : World) : Prop := ∃ u, e = .returned (.tuple #[u, .int .i64 (feL cs)]) ∧ (feL cs = 0 → RdN B w' u (vsL cs))

theorem ins_next7 {w w' : World} {B : Nat} {x : Value} {m : List Int} (h : Ru.Ins 2 w B x m) (hb : Below w.heap.size w w') : Ru.Ins 2 w' B x m := by
  obtain ⟨h1, h2⟩ := h
  refine ⟨h1, ?_⟩
  rcases h2 with h2 | ⟨g, cap, cur, hv, hg, hh, r⟩
  · exact .inl h2
  · exact .inr ⟨g, cap, cur, hv, hg, (hb.block g (Array.getElem?_eq_some_iff.1 hh).1).trans hh, r⟩
set_option maxRecDepth 100000 in
set_option maxHeartbeats 8000000 in
theorem foldp_any (p b : Int) (gp : Nat) (A : Ar) (v : Value) (w : World) (hA : ck A = 0) (hr : A.r = 1 ∨ A.r = 2) (hv : RdI w.heap.size w v A.z) (hn : Ru.NilC v) (h64 : in64 A.z) (hb : Sc.inr b = true) (hp : w.cell? ⟨gp, 0, none⟩ = some (.int .i64 p)) (hst : ∀ x c, Sc.inr x = true → Sc.inr c = true → Sc.inr (Sc.twoV p x c).1 = true) :
    Calls Tryd.prog 73 #[A5 A.k A.r A.a A.b v, .int .i64 b, .func (.func 85) #[] #[.pointer (some ⟨gp, 0, none⟩)]] w fun e w' => FdE w.heap.size (csF (Sc.twoV p) b A) e w' ∧ Below w.heap.size w w' := by
  obtain ⟨_, _, r2, r3, r4⟩ := rw_good (ck_good hA)
  obtain ⟨p0, cap, rfl, hrw⟩ := frows_any A v w (ck_good hA) hr hv hn
  have HRw := Lib.hid hrw
  have HV := Lib.hid hv
  have HLen : Hid ((csF (Sc.twoV p) b A).length = rwN A) := csF_len hA
  have HAt : Hid (∀ i, i < rwN A → (csF (Sc.twoV p) b A)[i]? = some (fdL (Sc.twoV p) b (rwI A i))) := fun i hi => csF_at hA hi
  have HRp : Hid (∀ (w' : World) (j : Nat), RdI w.heap.size w' (.slice p0 A.z.length cap) A.z → j < rwN A → ∃ q, rp p0 (rwM A) j = .slice q (rwM A) (rwM A) ∧ ∀ t, t < rwM A → ∃ bk off, q = some ⟨bk, off, none⟩ ∧ bk < w.heap.size ∧ w'.cell? ⟨bk, off + t, none⟩ = some (.int .i64 ((rwI A j).getD t 0))) := fun w' j h hj => frp_rd hA h hj
  have HIl : Hid (∀ j, j < rwN A → (rwI A j).length = rwM A) := fun j hj => rwI_len (ck_good hA) hj
  have HK := Lib.hid (KE.new w A (.slice p0 A.z.length cap))
  have x0 := HK.out.blk.c0; have x1 := HK.out.blk.c1; have x2 := HK.out.blk.c2; have x3 := HK.out.blk.c3; have x4 := HK.out.blk.c4
  clear hrw hv hn hA hr r2
  have HGp : Hid (gp < w.heap.size) := World.block_lt_of_cell? w _ hp
  have HP := Lib.hid hp
  have HSt := Lib.hid hst
  have HI64r : Hid (∀ j, in64 (rwI A j)) := fun j => h64.row j
  have HIb := Lib.hid hb
  clear h64 hp hst hb
  obtain ⟨n, hn⟩ : ∃ n, rwN A = n := ⟨_, rfl⟩
  obtain ⟨m, hm⟩ : ∃ m, rwM A = m := ⟨_, rfl⟩
  rw [hn] at r3 HRw HLen HAt HRp HIl
  rw [hm] at r4 HRw HRp HIl
  clear hn hm
  generalize hcs : csF (Sc.twoV p) b A = cs at HLen HAt ⊢
  clear hcs
  go_enter Tryd.func73, Tryd.ntmps73
  go_wp2_with (first | (go_at_call 86; (with_reducible refine (HRw.out _).mono ?_); rintro e w1 ⟨h, rfl, hh, hrow, hb⟩; have HB1 := Lib.hid (HK.out.bel.trans (hb.mono HK.out.bel.size)); have HRow := Lib.hid hrow; have HV1 := Lib.hid (HV.out.below HB1.out); have hh1 : h < w1.heap.size := hrow.lt; clear hrow hb hh HK HV HRw x0 x1 x2 x3 x4) | fail)
  go_loopg [8, 18] n (fun gk u i wr => ∃ (j : Nat) (U : Value), j + gk = n ∧ U = u ∧ i = .int .i64 j ∧ okT cs j ∧ Ru.Ins 2 wr w1.heap.size U ((vsL cs).take j) ∧ Below w1.heap.size w1 wr)
  case atStart => exact ⟨0, _, by omega, rfl, rfl, okT_zero _, ins_nil _ _, Below.refl _ _⟩
  case round =>
    obtain ⟨j, u0, hjg, rfl, rfl, hok, hins, hbl⟩ := hrel
    obtain ⟨wo, rfl⟩ : ∃ wo, wo = wr := ⟨_, rfl⟩
    have HOk := Lib.hid hok
    have HIn := Lib.hid hins
    have HB := Lib.hid hbl
    clear hok hins hbl
    cases gk with
    | zero =>
      have hjz : ¬ ((j : Int) < (n : Int)) := by omega
      have hjn : j = n := by omega
      have HF : Hid (feL cs = 0) := by
        have h := HOk.out
        rw [hjn] at h
        exact okT_all h HLen.out
      have HR : Hid (RdN w.heap.size wo u0 (vsL cs)) := by
        have h := HIn.out
        rw [hjn, List.take_of_length_le (by rw [vsL_len, HLen.out]; exact Nat.le_refl _)] at h
        exact (ins_new h).mono HB1.out.size
      have HE := Lib.hid (HB1.out.trans (HB.out.mono HB1.out.size))
      clear HAt HRp HIl HRow HV1 HOk HIn hjn
      go_wp2
      go_ret2
      exact ⟨⟨_, by rw [HF.out]; rfl, fun _ => HR.out⟩, HE.out⟩
    | succ g2 =>
      have hjz : (j : Int) < (n : Int) := by omega
      have hj : j < n := by omega
      have hBs := HB.out.size
      have HBa : Hid (Below w.heap.size w wo) := HB1.out.trans (HB.out.mono HB1.out.size)
      have HVr : Hid (RdI w.heap.size wo (.slice p0 A.z.length cap) A.z) := HV1.out.below (HB.out.mono HB1.out.size)
      obtain ⟨q, hq, hcell⟩ := HRp.out wo j HVr.out hj
      have HCell := Lib.hid hcell
      have x0 : wo.cell? ⟨h, j, none⟩ = some (.slice q m m) := by rw [(HRow.out.of_block (HB.out.block h hh1)).cell hj, hq]
      have HAj := Lib.hid (HAt.out j hj)
      have hIl := HIl.out j hj
      have HI6 := Lib.hid (HI64r.out j)
      generalize rwI A j = row at HCell HAj hIl HI6
      have HIlr := Lib.hid hIl
      clear HRp HIl HVr hq hcell HAt hIl
      have hw0 : IntKind.i64.wrap ((j : Int) + 1) = (j : Int) + 1 := by rw [IntKind.wrap_i64]; omega
      go_wp2_with fail
      clear x0
      generalize hrs : fdL (Sc.twoV p) b row = rs at HAj
      have HRs := Lib.hid hrs
      clear hrs
      go_loopg [11, 25] m (fun gk c i wt => ∃ (t : Nat) (x : Int), t + gk = m ∧ c = .int .i64 x ∧ i = .int .i64 t ∧ Sc.inr x = true ∧ fdL (Sc.twoV p) x (row.drop t) = rs ∧ Below wo.heap.size wo wt)
      case atStart => exact ⟨0, _, by omega, rfl, rfl, HIb.out, HRs.out, Below.refl _ _⟩
      case round =>
        obtain ⟨t, x, htg, rfl, rfl, hinv, hfd, hbt⟩ := hrel
        have HFd := Lib.hid hfd
        have HBt := Lib.hid hbt
        have HIv := Lib.hid hinv
        clear hfd hbt hinv
        cases gk with
        | zero =>
          have htz : ¬ ((t : Int) < (m : Int)) := by omega
          have HRx : Hid (cs[j]? = some (x, 0)) := by
            have h := HFd.out
            rw [fdL_end (by rw [HIlr.out]; omega)] at h
            rw [h]; exact HAj.out
          have HOk2 : Hid (okT cs (j + 1)) := okT_next HOk.out HRx.out
          have HSn : Hid ((vsL cs).take j ++ [x] = (vsL cs).take (j + 1)) := by
            unfold Hid
            rw [← takeI_snoc (by rw [vsL_len, HLen.out]; exact hj), vsL_at HRx.out]
          have hlt : ((vsL cs).take j).length ≤ 400 := by rw [List.length_take]; omega
          have HIn2 := Lib.hid (ins_next7 HIn.out HBt.out)
          have HB2 := Lib.hid (HB.out.trans (HBt.out.mono HB.out.size))
          clear HRs HAj HFd HIv HCell HIlr HOk HIn HRx HRow HV1 HBa
          go_wp2_with (at_builtin; refine wpList_app1 (by simp [Region.wanted]) _ _ rfl w1.heap.size _ _ rfl HIn2.out x rfl (by omega) (by have := HB2.out.size; omega) ?_; intro u2 w2 hu2 hb2; rw [HSn.out] at hu2; have HU2 := Lib.hid hu2; have HB3 := Lib.hid (HB2.out.trans hb2); clear hu2 hb2)
          go_roundg g2
          case measure => omega
          case rel => exact ⟨j + 1, _, by omega, rfl, by go_num, HOk2.out, HU2.out, HB3.out⟩
        | succ g3 =>
          have htz : (t : Int) < (m : Int) := by omega
          have ht : t < m := by omega
          obtain ⟨bk, off, rfl, hbk, hc0⟩ := HCell.out t ht
          have hc : wr.cell? ⟨bk, off + t, none⟩ = some (.int .i64 (row.getD t 0)) := (HBt.out.cell (p := ⟨bk, off + t, none⟩) (by have := HBa.out.size; show bk < _; omega)).trans hc0
          clear hc0
          have hst := HFd.out
          rw [fdL_at (by rw [HIlr.out]; exact ht)] at hst
          have hic : Sc.inr (row.getD t 0) = true := HI6.out.get t
          generalize row.getD t 0 = c at hc hst hic
          have hw1 : IntKind.i64.wrap ((t : Int) + 1) = (t : Int) + 1 := by rw [IntKind.wrap_i64]; omega
          have HCl : Hid (Calls Tryd.prog 85 #[.int .i64 x, .int .i64 c, .pointer (some ⟨gp, 0, none⟩)] wr fun e w' => e = .returned (.tuple #[.int .i64 (Sc.twoV p x c).1, .int .i64 (Sc.twoV p x c).2]) ∧ Below wr.heap.size wr w') := prim1_any p x c gp wr (by rw [(HBt.out.cell (p := ⟨gp, 0, none⟩) (by have := HBa.out.size; have := HGp.out; show gp < _; omega)), (HBa.out.cell (p := ⟨gp, 0, none⟩) (by have := HGp.out; show gp < _; omega))]; exact HP.out) HIv.out hic
          have HIx : Hid (Sc.inr (Sc.twoV p x c).1 = true) := HSt.out x c HIv.out hic
          clear hic HIv
          obtain ⟨⟨d, E⟩, hd⟩ : ∃ d, Sc.twoV p x c = d := ⟨_, rfl⟩
          rw [hd] at HCl HIx hst
          simp only at HCl HIx hst
          clear hd
          by_cases hE : E = 0
          · subst hE
            rw [if_pos rfl] at hst
            have HSt2 := Lib.hid hst
            clear hst HFd HAj HRs
            go_wp2_with (first | (go_at_call 85; (with_reducible refine HCl.out.mono ?_); rintro e w2 ⟨rfl, hb⟩; have HB2 := Lib.hid (HBt.out.trans (hb.mono HBt.out.size)); clear hb HCl hc) | fail)
            go_roundg g3
            case measure => omega
            case rel => exact ⟨t + 1, d, by omega, rfl, by go_num, HIx.out, HSt2.out, HB2.out⟩
          · rw [if_neg hE] at hst
            have HBad : Hid (feL cs = E) := okT_bad HOk.out (by rw [hst]; exact HAj.out) hE
            have k1 : (E != 0) = true := by simpa using hE
            have HNz := Lib.hid hE
            clear hst HFd HAj HRs hE HOk
            go_wp2_with (first | (go_at_call 85; (with_reducible refine HCl.out.mono ?_); rintro e w2 ⟨rfl, hb⟩; have HB2 := Lib.hid (HBa.out.trans ((HBt.out.trans (hb.mono HBt.out.size)).mono HBa.out.size)); clear hb HCl hc) | fail)
            go_ret2
            exact ⟨⟨_, by rw [HBad.out]; rfl, fun h => absurd (HBad.out.symm.trans h) HNz.out⟩, HB2.out⟩


set_option maxRecDepth 100000 in
set_option maxHeartbeats 8000000 in
theorem foldc_any (A : Ar) (v : Value) (w : World) (hA : ck A = 0) (hr : A.r = 1 ∨ A.r = 2) (hv : RdI w.heap.size w v A.z) (hn : Ru.NilC v) :
    Calls Tryd.prog 73 #[A5 A.k A.r A.a A.b v, .int .i64 0, .func (.func 74) #[] #[]] w fun e w' => FdE w.heap.size (csF cntf 0 A) e w' ∧ Below w.heap.size w w' := by
  obtain ⟨_, _, r2, r3, r4⟩ := rw_good (ck_good hA)
  obtain ⟨p0, cap, rfl, hrw⟩ := frows_any A v w (ck_good hA) hr hv hn
  have HRw := Lib.hid hrw
  have HV := Lib.hid hv
  have HLen : Hid ((csF cntf 0 A).length = rwN A) := csF_len hA
  have HAt : Hid (∀ i, i < rwN A → (csF cntf 0 A)[i]? = some (fdL cntf 0 (rwI A i))) := fun i hi => csF_at hA hi
  have HRp : Hid (∀ (w' : World) (j : Nat), RdI w.heap.size w' (.slice p0 A.z.length cap) A.z → j < rwN A → ∃ q, rp p0 (rwM A) j = .slice q (rwM A) (rwM A) ∧ ∀ t, t < rwM A → ∃ bk off, q = some ⟨bk, off, none⟩ ∧ bk < w.heap.size ∧ w'.cell? ⟨bk, off + t, none⟩ = some (.int .i64 ((rwI A j).getD t 0))) := fun w' j h hj => frp_rd hA h hj
  have HIl : Hid (∀ j, j < rwN A → (rwI A j).length = rwM A) := fun j hj => rwI_len (ck_good hA) hj
  have HK := Lib.hid (KE.new w A (.slice p0 A.z.length cap))
  have x0 := HK.out.blk.c0; have x1 := HK.out.blk.c1; have x2 := HK.out.blk.c2; have x3 := HK.out.blk.c3; have x4 := HK.out.blk.c4
  clear hrw hv hn hA hr r2
  obtain ⟨n, hn⟩ : ∃ n, rwN A = n := ⟨_, rfl⟩
  obtain ⟨m, hm⟩ : ∃ m, rwM A = m := ⟨_, rfl⟩
  rw [hn] at r3 HRw HLen HAt HRp HIl
  rw [hm] at r4 HRw HRp HIl
  clear hn hm
  generalize hcs : csF cntf 0 A = cs at HLen HAt ⊢
  clear hcs
  go_enter Tryd.func73, Tryd.ntmps73
  go_wp2_with (first | (go_at_call 86; (with_reducible refine (HRw.out _).mono ?_); rintro e w1 ⟨h, rfl, hh, hrow, hb⟩; have HB1 := Lib.hid (HK.out.bel.trans (hb.mono HK.out.bel.size)); have HRow := Lib.hid hrow; have HV1 := Lib.hid (HV.out.below HB1.out); have hh1 : h < w1.heap.size := hrow.lt; clear hrow hb hh HK HV HRw x0 x1 x2 x3 x4) | fail)
  go_loopg [8, 18] n (fun gk u i wr => ∃ (j : Nat) (U : Value), j + gk = n ∧ U = u ∧ i = .int .i64 j ∧ okT cs j ∧ Ru.Ins 2 wr w1.heap.size U ((vsL cs).take j) ∧ Below w1.heap.size w1 wr)
  case atStart => exact ⟨0, _, by omega, rfl, rfl, okT_zero _, ins_nil _ _, Below.refl _ _⟩
  case round =>
    obtain ⟨j, u0, hjg, rfl, rfl, hok, hins, hbl⟩ := hrel
    obtain ⟨wo, rfl⟩ : ∃ wo, wo = wr := ⟨_, rfl⟩
    have HOk := Lib.hid hok
    have HIn := Lib.hid hins
    have HB := Lib.hid hbl
    clear hok hins hbl
    cases gk with
    | zero =>
      have hjz : ¬ ((j : Int) < (n : Int)) := by omega
      have hjn : j = n := by omega
      have HF : Hid (feL cs = 0) := by
        have h := HOk.out
        rw [hjn] at h
        exact okT_all h HLen.out
      have HR : Hid (RdN w.heap.size wo u0 (vsL cs)) := by
        have h := HIn.out
        rw [hjn, List.take_of_length_le (by rw [vsL_len, HLen.out]; exact Nat.le_refl _)] at h
        exact (ins_new h).mono HB1.out.size
      have HE := Lib.hid (HB1.out.trans (HB.out.mono HB1.out.size))
      clear HAt HRp HIl HRow HV1 HOk HIn hjn
      go_wp2
      go_ret2
      exact ⟨⟨_, by rw [HF.out]; rfl, fun _ => HR.out⟩, HE.out⟩
    | succ g2 =>
      have hjz : (j : Int) < (n : Int) := by omega
      have hj : j < n := by omega
      have hBs := HB.out.size
      have HBa : Hid (Below w.heap.size w wo) := HB1.out.trans (HB.out.mono HB1.out.size)
      have HVr : Hid (RdI w.heap.size wo (.slice p0 A.z.length cap) A.z) := HV1.out.below (HB.out.mono HB1.out.size)
      obtain ⟨q, hq, hcell⟩ := HRp.out wo j HVr.out hj
      have HCell := Lib.hid hcell
      have x0 : wo.cell? ⟨h, j, none⟩ = some (.slice q m m) := by rw [(HRow.out.of_block (HB.out.block h hh1)).cell hj, hq]
      have HAj := Lib.hid (HAt.out j hj)
      have hIl := HIl.out j hj
      generalize rwI A j = row at HCell HAj hIl
      have HIlr := Lib.hid hIl
      clear HRp HIl HVr hq hcell HAt hIl
      have hw0 : IntKind.i64.wrap ((j : Int) + 1) = (j : Int) + 1 := by rw [IntKind.wrap_i64]; omega
      go_wp2_with fail
      clear x0
      generalize hrs : fdL cntf 0 row = rs at HAj
      have HRs := Lib.hid hrs
      clear hrs
      go_loopg [11, 25] m (fun gk c i wt => ∃ (t : Nat) (x : Int), t + gk = m ∧ c = .int .i64 x ∧ i = .int .i64 t ∧ x = (t : Int) ∧ fdL cntf x (row.drop t) = rs ∧ Below wo.heap.size wo wt)
      case atStart => exact ⟨0, _, by omega, rfl, rfl, rfl, HRs.out, Below.refl _ _⟩
      case round =>
        obtain ⟨t, x, htg, rfl, rfl, hinv, hfd, hbt⟩ := hrel
        have HFd := Lib.hid hfd
        have HBt := Lib.hid hbt
        have HIv := Lib.hid hinv
        clear hfd hbt hinv
        cases gk with
        | zero =>
          have htz : ¬ ((t : Int) < (m : Int)) := by omega
          have HRx : Hid (cs[j]? = some (x, 0)) := by
            have h := HFd.out
            rw [fdL_end (by rw [HIlr.out]; omega)] at h
            rw [h]; exact HAj.out
          have HOk2 : Hid (okT cs (j + 1)) := okT_next HOk.out HRx.out
          have HSn : Hid ((vsL cs).take j ++ [x] = (vsL cs).take (j + 1)) := by
            unfold Hid
            rw [← takeI_snoc (by rw [vsL_len, HLen.out]; exact hj), vsL_at HRx.out]
          have hlt : ((vsL cs).take j).length ≤ 400 := by rw [List.length_take]; omega
          have HIn2 := Lib.hid (ins_next7 HIn.out HBt.out)
          have HB2 := Lib.hid (HB.out.trans (HBt.out.mono HB.out.size))
          clear HRs HAj HFd HIv HCell HIlr HOk HIn HRx HRow HV1 HBa
          go_wp2_with (at_builtin; refine wpList_app1 (by simp [Region.wanted]) _ _ rfl w1.heap.size _ _ rfl HIn2.out x rfl (by omega) (by have := HB2.out.size; omega) ?_; intro u2 w2 hu2 hb2; rw [HSn.out] at hu2; have HU2 := Lib.hid hu2; have HB3 := Lib.hid (HB2.out.trans hb2); clear hu2 hb2)
          go_roundg g2
          case measure => omega
          case rel => exact ⟨j + 1, _, by omega, rfl, by go_num, HOk2.out, HU2.out, HB3.out⟩
        | succ g3 =>
          have htz : (t : Int) < (m : Int) := by omega
          have ht : t < m := by omega
          obtain ⟨bk, off, rfl, hbk, hc0⟩ := HCell.out t ht
          have hc : wr.cell? ⟨bk, off + t, none⟩ = some (.int .i64 (row.getD t 0)) := (HBt.out.cell (p := ⟨bk, off + t, none⟩) (by have := HBa.out.size; show bk < _; omega)).trans hc0
          clear hc0
          have hst := HFd.out
          rw [fdL_at (by rw [HIlr.out]; exact ht)] at hst
          generalize row.getD t 0 = c at hc hst
          have hw1 : IntKind.i64.wrap ((t : Int) + 1) = (t : Int) + 1 := by rw [IntKind.wrap_i64]; omega
          have HCl : Hid (Calls Tryd.prog 74 #[.int .i64 x, .int .i64 c] wr fun e w' => e = .returned (.tuple #[.int .i64 (x + 1), .int .i64 0]) ∧ Below wr.heap.size wr w') := cnt1_any x c wr (by have := HIv.out; omega) (by have := HIv.out; omega)
          have HIx : Hid (x + 1 = ((t + 1 : Nat) : Int)) := by have := HIv.out; unfold Hid; omega
          have HSt2 : Hid (fdL cntf (x + 1) (row.drop (t + 1)) = rs) := hst
          clear hst HFd HAj HRs HIv
          go_wp2_with (first | (go_at_call 74; (with_reducible refine HCl.out.mono ?_); rintro e w2 ⟨rfl, hb⟩; have HB2 := Lib.hid (HBt.out.trans (hb.mono HBt.out.size)); clear hb HCl hc) | fail)
          go_roundg g3
          case measure => omega
          case rel => exact ⟨t + 1, x + 1, by omega, rfl, by go_num, HIx.out, HSt2.out, HB2.out⟩

end Go.Proofs.YtokmdgiialcokaaDoor
