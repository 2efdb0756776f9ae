/- What finds and its reference say of operands: fault, one; places. -/
import Derived.Test.YtpbfbejckhbijaaDoorFiA
import Derived.Test.YtpbfbejckhbijaaDoorExB
namespace Go.Proofs.YtpbfbejckhbijaaDoor
open Go.RowKit

set_option maxRecDepth 100000 in
set_option maxHeartbeats 4000000 in
theorem ifault_any (kd rk : Bool) (L : List (Ar × Value)) (g : Nat) (w : World) (hw : Ru.Lay w) (hL : L.length ≤ 10) (hg : g < w.heap.size)
    (hc : ∀ j (hj : j < L.length), ArAt w g (j * 5) L[j].1 L[j].2) (hr : ∀ j (hj : j < L.length), RdI w.heap.size w L[j].2 L[j].1.z ∧ L[j].1.z.length ≤ 1000000) :
    Calls Tryd.prog 20 #[.bool kd, .bool rk, .slice (some ⟨g, 0, none⟩) L.length L.length] w fun e w' => e = .returned (.int .i64 (fkV kd rk (feL (ckL L)))) ∧ Below w.heap.size w w' := by
  have HC := Lib.hid hc
  have HR := Lib.hid hr
  have HW := Lib.hid hw
  have HCh := Lib.hid (fun A v W h1 h2 h3 => acheck_any A v W h1 h2 h3)
  have HLn : Hid ((ckL L).length = L.length) := by unfold Hid; simp [ckL]
  have HAt : Hid (∀ j (hj : j < L.length), (ckL L)[j]? = some (0, ck L[j].1)) := fun j hj => by simp [ckL, hj]
  clear hc hr hw
  generalize ckL L = cs at HLn HAt ⊢
  generalize hF : feL cs = F
  have HF := Lib.hid hF
  clear hF
  cases kd <;> cases rk
  all_goals
    go_enter Tryd.func20, Tryd.ntmps20
    go_wp2
    go_loopg [12] L.length (fun gk i wr => ∃ j : Nat, j + gk = L.length ∧ i = .int .i64 j ∧ okT cs j ∧ Below w.heap.size w wr)
    case atStart => exact ⟨0, by omega, rfl, okT_zero _, Below.refl _ _⟩
    case round =>
      obtain ⟨j, hjg, rfl, hck, hbl⟩ := hrel
      have HCk := Lib.hid hck
      have HB := Lib.hid hbl
      clear hck hbl
      cases gk with
      | zero =>
        have hjz : ¬ ((j : Int) < (L.length : Int)) := by omega
        have HZ : Hid (F = 0) := by
          have h := HCk.out
          rw [show j = L.length by omega] at h
          exact HF.out.symm.trans (okT_all h HLn.out)
        clear HCk
        go_wp2
        go_ret
        exact ⟨by rw [HZ.out]; rfl, HB.out⟩
      | succ g2 =>
        have hjz : (j : Int) < (L.length : Int) := by omega
        have hj : j < L.length := by omega
        have HO := Lib.hid ((HC.out j hj).below hg HB.out)
        have HV := Lib.hid (((HR.out j hj).1.below HB.out).mono HB.out.size)
        have hz := (HR.out j hj).2
        have HEx : Hid (∀ (E : Int), ck L[j].1 = E → E ≠ 0 → F = E) := fun E e n => HF.out.symm.trans (okT_bad HCk.out (by rw [HAt.out j hj, e]) n)
        have HNx : Hid (ck L[j].1 = 0 → okT cs (j + 1)) := fun e => okT_next HCk.out (by rw [HAt.out j hj, e])
        generalize L[j] = x at HO HV hz HEx HNx
        obtain ⟨⟨k, r, a, b, z⟩, v⟩ := x
        simp only at HV hz HEx HNx
        have x0 := HO.out.c0; have x1 := HO.out.c1; have x2 := HO.out.c2; have x3 := HO.out.c3; have x4 := HO.out.c4
        simp only at x0 x1 x2 x3 x4
        have HV2 := Lib.hid HV.out
        obtain ⟨p, cap, rfl, hcap, hcap2, hcell⟩ := HV.out
        clear hcell HV
        have HA1 : Hid (Below wr.heap.size wr (wr.alloc (.cells #[.int .i64 k, .int .i64 r, .int .i64 a, .int .i64 b, .slice p z.length cap] 25))) := bel1 _ _
        have HB2 := Lib.hid (HB.out.trans (HA1.out.mono HB.out.size))
        have HLA := Lib.hid (HW.out.next HB2.out)
        have HRA := Lib.hid (HV2.out.next HA1.out)
        have HC1 := Lib.hid (fun W h1 h2 => HCh.out ⟨k, r, a, b, z⟩ (.slice p z.length cap) W h1 h2 hz)
        obtain ⟨E, hE⟩ : ∃ E, ck ⟨k, r, a, b, z⟩ = E := ⟨_, rfl⟩
        rw [hE] at HC1 HNx HEx
        clear hE hz
        by_cases h0 : E = 0
        · have HN2 := Lib.hid (HNx.out h0)
          subst h0
          go_wp2_with (go_at_call 33; (with_reducible refine (HC1.out _ HLA.out HRA.out).mono ?_); rintro e w' ⟨rfl, hb⟩; have HB3 := Lib.hid (HB2.out.trans (hb.mono HB2.out.size)); clear hb)
          go_roundg g2
          case measure => omega
          case rel => exact ⟨j + 1, by omega, by go_num, HN2.out, HB3.out⟩
        · have HFE := Lib.hid (HEx.out E rfl h0)
          have HNz := Lib.hid h0
          have k1 : (E != 0) = true := by simpa using h0
          clear h0
          go_wp2_with (go_at_call 33; (with_reducible refine (HC1.out _ HLA.out HRA.out).mono ?_); rintro e w' ⟨rfl, hb⟩; have HB3 := Lib.hid (HB2.out.trans (hb.mono HB2.out.size)); clear hb)
          go_ret
          exact ⟨ret_int7 (by rw [HFE.out]; unfold fkV; rw [if_pos HNz.out]), HB3.out⟩
theorem ifault1_any (kd rk : Bool) (A : Ar) (v : Value) (W : World) (g : Nat) (hg : W.heap.size = g) (hw : Ru.Lay W) (hv : RdI W.heap.size W v A.z) (hl : A.z.length ≤ 1000000) :
    Calls Tryd.prog 20 #[.bool kd, .bool rk, .slice (some ⟨g, 0, none⟩) 1 1] (W.alloc (.cells #[.int .i64 A.k, .int .i64 A.r, .int .i64 A.a, .int .i64 A.b, v] 25)) fun e w' => e = .returned (.int .i64 (fkV kd rk (ck A))) ∧ Below W.heap.size W w' := by
  subst hg
  have hb := bel1 W (.cells #[.int .i64 A.k, .int .i64 A.r, .int .i64 A.a, .int .i64 A.b, v] 25)
  refine (ifault_any kd rk [(A, v)] W.heap.size _ (hw.next hb) (by simp) (by simp) (fun j hj => ?_) (fun j hj => ?_)).mono fun e w' ⟨h1, h3⟩ => ⟨by rw [h1]; simp only [ckL, List.map_cons, List.map_nil, feL]; rw [show (if ck A = 0 then (0 : Int) else ck A) = ck A by split <;> simp_all], hb.trans (h3.mono hb.size)⟩
  all_goals
    obtain rfl : j = 0 := by simp at hj; omega
  · constructor <;> (unfold World.cell?; rw [heap_alloc_last]; rfl)
  · exact ⟨hv.next hb, hl⟩
theorem ifault2_any (kd rk : Bool) (A B : Ar) (v u : Value) (W : World) (g : Nat) (hg : W.heap.size = g) (hw : Ru.Lay W) (hv : RdI W.heap.size W v A.z) (hu : RdI W.heap.size W u B.z) (hl : A.z.length ≤ 1000000) (hl' : B.z.length ≤ 1000000) :
    Calls Tryd.prog 20 #[.bool kd, .bool rk, .slice (some ⟨g, 0, none⟩) 2 2] (W.alloc (.cells #[.int .i64 A.k, .int .i64 A.r, .int .i64 A.a, .int .i64 A.b, v, .int .i64 B.k, .int .i64 B.r, .int .i64 B.a, .int .i64 B.b, u] 25)) fun e w' => e = .returned (.int .i64 (fkV kd rk (if ck A ≠ 0 then ck A else ck B))) ∧ Below W.heap.size W w' := by
  subst hg
  have hb := bel1 W (.cells #[.int .i64 A.k, .int .i64 A.r, .int .i64 A.a, .int .i64 A.b, v, .int .i64 B.k, .int .i64 B.r, .int .i64 B.a, .int .i64 B.b, u] 25)
  obtain ⟨ha, hb2⟩ := at2_new A B v u W
  refine (ifault_any kd rk [(A, v), (B, u)] W.heap.size _ (hw.next hb) (by simp) (by simp) (fun j hj => ?_) (fun j hj => ?_)).mono fun e w' ⟨h1, h3⟩ => ⟨by rw [h1]; simp only [ckL, List.map_cons, List.map_nil, feL]; rw [show (if ck A = 0 then (if ck B = 0 then (0 : Int) else ck B) else ck A) = (if ck A ≠ 0 then ck A else ck B) by split <;> simp_all], hb.trans (h3.mono hb.size)⟩
  · have : j = 0 ∨ j = 1 := by simp at hj; omega
    rcases this with rfl | rfl
    · exact ha
    · exact hb2
  · have : j = 0 ∨ j = 1 := by simp at hj; omega
    rcases this with rfl | rfl
    · exact ⟨hv.next hb, hl⟩
    · exact ⟨hu.next hb, hl'⟩
set_option maxRecDepth 100000 in
set_option maxHeartbeats 4000000 in
theorem places_any (n : Nat) (w : World) (hl : n ≤ 1000) :
    Calls Tryd.prog 24 #[.int .i64 n] w fun e w' => e = .returned (.slice (some ⟨w.heap.size, 0, none⟩) n n) ∧ w'.rowIs w.heap.size 2 n (zf (upZ n) n) ∧ Below w.heap.size w w' := by
  obtain ⟨i0, hi, hz0, hz1, hz2⟩ := info_parts info64
  have hmk := run_make (P := Tryd.prog) w 23 2 i0 (.int .i64 0) Tryd.underlying23 hi hz0 .i64 .i64 n n (by omega) (by omega) (by rw [hz2]; omega) (by omega)
  rw [Int.toNat_natCast, hz1, Nat.mul_one] at hmk
  have HR0 : Hid ((w.alloc (.cells (madeCells (Value.int .i64 0).cells n) 2)).rowIs w.heap.size 2 n (zf (upZ n) 0)) := (World.rowIs_made w (.int .i64 0) n 2).congr fun i _ => by unfold zf; rw [if_neg (by omega)]
  have HB0 : Hid (Below w.heap.size w (w.alloc (.cells (madeCells (Value.int .i64 0).cells n) 2))) := bel1 w _
  generalize hW1 : w.alloc (.cells (madeCells (Value.int .i64 0).cells n) 2) = W1 at hmk HB0 HR0
  clear hW1
  go_enter Tryd.func24, Tryd.ntmps24
  go_wp2
  clear hmk
  go_loopg [4, 9] n (fun g s i wr => ∃ j : Nat, j + g = n ∧ i = .int .i64 j ∧ Below w.heap.size w wr ∧ wr.rowIs w.heap.size 2 n (zf (upZ n) j))
  case atStart => exact ⟨0, by omega, rfl, HB0.out, HR0.out⟩
  case round =>
    obtain ⟨j, hjg, rfl, hbl, hrow⟩ := hrel
    have HRo := Lib.hid hrow
    have HBl := Lib.hid hbl
    clear hrow hbl
    cases gk with
    | zero =>
      have hjz : ¬ ((j : Int) < (n : Int)) := by omega
      have HJ : Hid (j = n) := by unfold Hid; omega
      go_wp2
      go_ret
      refine ⟨rfl, ?_, HBl.out⟩
      have := HRo.out
      rwa [HJ.out] at this
    | succ g =>
      have hjz : (j : Int) < (n : Int) := by omega
      have hj : j < n := by omega
      have hy : wr.cell? ⟨w.heap.size, j, none⟩ = some (.int .i64 0) := by
        rw [HRo.out.cell hj]; unfold zf; rw [if_neg (by omega)]
      have hyf : wr.frozen? ⟨w.heap.size, j, none⟩ = false := HRo.out.frozen j
      go_wp2
      go_roundg g
      case measure => omega
      case rel => exact ⟨j + 1, by omega, by go_num, HBl.out.setCell (p := ⟨w.heap.size, j, none⟩) (Nat.le_refl _) _, zf_next HRo.out (upZ_at hj)⟩
set_option maxRecDepth 100000 in
set_option maxHeartbeats 4000000 in
theorem rone_any8 (A : Ar) (r : Int) (v : Value) (w : World) (hv : RdI w.heap.size w v A.z) (hl : A.z.length ≤ 1000000) :
    Calls Tryd.prog 29 #[A5 A.k A.r A.a A.b v, .int .i64 r] w fun e w' => e = .returned (.int .i64 (oneF A 1 r)) ∧ Below w.heap.size w w' := by
  have HC := Lib.hid (fun W h => archeck_any A v W h hl)
  have HK := Lib.hid (KR.new A.k A.r A.a A.b hv)
  have x0 := HK.out.blk.c0; have x1 := HK.out.blk.c1; have x2 := HK.out.blk.c2; have x3 := HK.out.blk.c3; have x4 := HK.out.blk.c4
  obtain ⟨p, cap, rfl, hcap, hcap2, hcell⟩ := hv
  clear hcell
  unfold oneF
  obtain ⟨E, hE⟩ : ∃ E, ck A = E := ⟨_, rfl⟩
  rw [hE] at HC ⊢
  clear hE
  by_cases h0 : E = 0
  · subst h0
    rw [if_pos rfl]
    by_cases h1 : A.k = 1
    · have k1 : (A.k != 1) = false := by simpa using h1
      rw [if_pos h1]
      clear h1
      by_cases h2 : A.r = r
      · have k2 : (A.r != r) = false := by simpa using h2
        rw [if_pos h2]
        clear h2
        go_enter Tryd.func29, Tryd.ntmps29
        go_wp2_with (go_at_call 31; (with_reducible refine (HC.out _ HK.out.rd).mono ?_); rintro e w' ⟨rfl, hb⟩; have HK2 := Lib.hid (HK.out.next hb); clear hb HK x0 x1 x2 x3 x4; have HK := HK2; clear HK2; have x0 := HK.out.blk.c0; have x1 := HK.out.blk.c1; have x2 := HK.out.blk.c2; have x3 := HK.out.blk.c3; have x4 := HK.out.blk.c4)
        go_ret
        exact ⟨rfl, HK.out.bel⟩
      · have k2 : (A.r != r) = true := by simpa using h2
        rw [if_neg h2]
        clear h2
        go_enter Tryd.func29, Tryd.ntmps29
        go_wp2_with (go_at_call 31; (with_reducible refine (HC.out _ HK.out.rd).mono ?_); rintro e w' ⟨rfl, hb⟩; have HK2 := Lib.hid (HK.out.next hb); clear hb HK x0 x1 x2 x3 x4; have HK := HK2; clear HK2; have x0 := HK.out.blk.c0; have x1 := HK.out.blk.c1; have x2 := HK.out.blk.c2; have x3 := HK.out.blk.c3; have x4 := HK.out.blk.c4)
        go_ret
        exact ⟨rfl, HK.out.bel⟩
    · have k1 : (A.k != 1) = true := by simpa using h1
      rw [if_neg h1]
      clear h1
      go_enter Tryd.func29, Tryd.ntmps29
      go_wp2_with (go_at_call 31; (with_reducible refine (HC.out _ HK.out.rd).mono ?_); rintro e w' ⟨rfl, hb⟩; have HK2 := Lib.hid (HK.out.next hb); clear hb HK x0 x1 x2 x3 x4; have HK := HK2; clear HK2; have x0 := HK.out.blk.c0; have x1 := HK.out.blk.c1; have x2 := HK.out.blk.c2; have x3 := HK.out.blk.c3; have x4 := HK.out.blk.c4)
      go_ret
      exact ⟨rfl, HK.out.bel⟩
  · have k0 : (E == 0) = false := by simpa using h0
    rw [if_neg h0]
    clear h0
    go_enter Tryd.func29, Tryd.ntmps29
    go_wp2_with (go_at_call 31; (with_reducible refine (HC.out _ HK.out.rd).mono ?_); rintro e w' ⟨rfl, hb⟩; have HK2 := Lib.hid (HK.out.next hb); clear hb HK x0 x1 x2 x3 x4; have HK := HK2; clear HK2; have x0 := HK.out.blk.c0; have x1 := HK.out.blk.c1; have x2 := HK.out.blk.c2; have x3 := HK.out.blk.c3; have x4 := HK.out.blk.c4)
    go_ret
    exact ⟨rfl, HK.out.bel⟩
end Go.Proofs.YtpbfbejckhbijaaDoor
