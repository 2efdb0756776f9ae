/- String of the reference. -/
import Derived.Test.YtnoljljagfpogaaDoorArS2
namespace Go.Proofs.YtnoljljagfpogaaDoor
open Go.RowKit

theorem byt_app (a b : ByteArray) : byt (a ++ b) = byt a ++ byt b := by
  unfold byt
  simp
theorem bytL_snoc {l : List Int} {j : Nat} (h : j < l.length) : Ru.bytL (l.take (j + 1)) = Ru.bytL (l.take j) ++ Ru.enc l[j].toNat := Ru.bytL_take l j h

set_option maxRecDepth 100000 in
set_option maxHeartbeats 4000000 in
theorem rstring_any (A : Ar) (v : Value) (w : World) (hv : RdI w.heap.size w v A.z) (hl : A.z.length ≤ 1000) :
    Calls Tryd.prog 26 #[A5 A.k A.r A.a A.b v] w fun e w' => e = .returned (.tuple #[.string ⟨(sgV A).toArray⟩, .int .i64 (sgE A)]) ∧ Below w.heap.size w w' := by
  have HC := Lib.hid (fun W h2 => archeck_any A v W h2 (by omega))
  have HK := Lib.hid (KR.new A.k A.r A.a A.b hv)
  have x0 := HK.out.blk.c0; have x1 := HK.out.blk.c1; have x2 := HK.out.blk.c2; have x3 := HK.out.blk.c3; have x4 := HK.out.blk.c4
  obtain ⟨p, cap, rfl, hcap, hcap2, hcell⟩ := hv
  clear hcell
  by_cases h1 : ck A = 0
  · rw [h1] at HC
    by_cases h2 : A.k = 2
    · have k2 : (A.k != 2) = false := by simpa using h2
      by_cases h3 : A.r = 1
      · have k3 : (A.r != 1) = false := by simpa using h3
        have HE : Hid (sgE A = 0 ∧ sgV A = Ru.bytL A.z) := by
          have e : sgE A = 0 := by unfold sgE; rw [if_pos h1, if_pos h2, if_pos h3]
          exact ⟨e, if_pos e⟩
        have hg := ck_good h1
        have HR := Lib.hid (hg.runes h2)
        rw [HE.out.1, HE.out.2]
        clear h1 h2 h3 hg HE
        go_enter Tryd.func26, Tryd.ntmps26
        go_wp2_with (go_at_call 53; (with_reducible refine (HC.out _ (by with_unfolding_all exact HK.out.rd)).mono ?_); rintro e w' ⟨rfl, hb⟩; have HK2 := Lib.hid (HK.out.next hb); clear HK hb x0 x1 x2 x3 x4; have HK := HK2; clear HK2; have x0 := HK.out.blk.c0; have x1 := HK.out.blk.c1; have x4 := HK.out.blk.c4)
        go_loopg [5, 6] A.z.length (fun g s i wr => ∃ (j : Nat) (s' : ByteArray), j + g = A.z.length ∧ i = .int .i64 j ∧ s = .string s' ∧ Hid (byt s' = Ru.bytL (A.z.take j)) ∧ KR w A.k A.r A.a A.b (.slice p A.z.length cap) A.z wr)
        case atStart => exact ⟨0, ByteArray.empty, by omega, rfl, rfl, by simp [Hid, Ru.bytL, byt], HK.out⟩
        case round =>
          obtain ⟨j, s', hjg, rfl, rfl, hq, hk⟩ := hrel
          have HK2 := Lib.hid hk
          clear hk HK x0 x1 x4
          have x4 := HK2.out.blk.c4
          cases gk with
          | zero =>
            have hjz : ¬ ((j : Int) < (A.z.length : Int)) := by omega
            have HS : Hid (s' = ⟨(Ru.bytL A.z).toArray⟩) := by
              unfold Hid
              rw [← mk_byt s', hq.out, List.take_of_length_le (by omega)]
            go_wp2
            go_ret2
            rw [HS.out]
            exact ⟨rfl, HK2.out.bel⟩
          | succ g =>
            have hjz : (j : Int) < (A.z.length : Int) := by omega
            have hj : j < A.z.length := by omega
            obtain ⟨b, off, rfl, hbb, hc⟩ := HK2.out.rd.cells (by intro e; rw [e] at hj; simp at hj)
            have x5 := hc j hj
            have hrn := List.all_eq_true.1 HR.out A.z[j] (List.getElem_mem hj)
            have HT := Lib.hid (bytL_snoc hj)
            clear hc
            generalize A.z[j] = c at x5 hrn HT
            obtain ⟨r, rfl⟩ : ∃ r : Nat, c = r := ⟨c.toNat, by simp [Ru.isR] at hrn; omega⟩
            have hr2 : r ≤ 1114111 := by simp [Ru.isR] at hrn; omega
            rw [Int.toNat_natCast] at HT
            have HEn := Lib.hid (fun W => encoded_any r W hr2)
            have e1 : s'.size ≤ 4000 := by
              have h := bytL_len (A.z.take j)
              rw [← hq.out, byt_len, List.length_take] at h
              omega
            have e2 : (⟨(Ru.enc r).toArray⟩ : ByteArray).size ≤ 4 := by rw [size_mk]; exact enc_le r
            have e3 : (Ru.enc r).length ≤ 4 := enc_le r
            clear hrn
            go_wp2_with (go_at_call 71; (with_reducible refine (HEn.out _).mono ?_); rintro e w2 ⟨rfl, hb⟩; have HK3 := Lib.hid (HK2.out.next hb); clear hb)
            go_roundg g
            case measure => omega
            case rel => exact ⟨j + 1, _, by omega, by go_num, rfl, by unfold Hid; rw [byt_app, hq.out, HT.out, byt_mk], HK3.out⟩
      · have k3 : (A.r != 1) = true := by simpa using h3
        have HE : Hid (sgE A = 22 ∧ sgV A = []) := by
          have e : sgE A = 22 := by unfold sgE; rw [if_pos h1, if_pos h2, if_neg h3]
          exact ⟨e, by unfold sgV; rw [e]; rfl⟩
        rw [HE.out.1, HE.out.2]
        clear h1 h2 h3 HE
        go_enter Tryd.func26, Tryd.ntmps26
        go_wp2_with (go_at_call 53; (with_reducible refine (HC.out _ (by with_unfolding_all exact HK.out.rd)).mono ?_); rintro e w' ⟨rfl, hb⟩; have HK2 := Lib.hid (HK.out.next hb); clear HK hb x0 x1 x2 x3 x4; have HK := HK2; clear HK2; have x0 := HK.out.blk.c0; have x1 := HK.out.blk.c1; have x4 := HK.out.blk.c4)
        refine wp_loop_rounds 4 ?_
        rw [rounds_succ]
        by_cases h0 : (0 : Int) < (A.z.length : Int)
        · go_wp2
          go_ret2
          exact ⟨rfl, HK.out.bel⟩
        · go_wp2
          go_ret2
          exact ⟨rfl, HK.out.bel⟩
    · have k2 : (A.k != 2) = true := by simpa using h2
      have HE : Hid (sgE A = 21 ∧ sgV A = []) := by
        have e : sgE A = 21 := by unfold sgE; rw [if_pos h1, if_neg h2]
        exact ⟨e, by unfold sgV; rw [e]; rfl⟩
      rw [HE.out.1, HE.out.2]
      clear h1 h2 HE
      go_enter Tryd.func26, Tryd.ntmps26
      go_wp2_with (go_at_call 53; (with_reducible refine (HC.out _ (by with_unfolding_all exact HK.out.rd)).mono ?_); rintro e w' ⟨rfl, hb⟩; have HK2 := Lib.hid (HK.out.next hb); clear HK hb x0 x1 x2 x3 x4; have HK := HK2; clear HK2; have x0 := HK.out.blk.c0; have x1 := HK.out.blk.c1; have x4 := HK.out.blk.c4)
      refine wp_loop_rounds 4 ?_
      rw [rounds_succ]
      by_cases h0 : (0 : Int) < (A.z.length : Int)
      · go_wp2
        go_ret2
        exact ⟨rfl, HK.out.bel⟩
      · go_wp2
        go_ret2
        exact ⟨rfl, HK.out.bel⟩
  · have HE : Hid (sgE A = ck A ∧ sgV A = []) := by
      have e : sgE A = ck A := if_neg h1
      exact ⟨e, by unfold sgV; rw [e]; exact if_neg h1⟩
    rw [HE.out.1, HE.out.2]
    obtain ⟨E, hE⟩ : ∃ E, ck A = E := ⟨_, rfl⟩
    rw [hE] at HC h1 ⊢
    have k1 : (E != 0) = true := by simpa using h1
    have k4 : (E == 0) = false := by simpa using h1
    clear h1 HE hE
    go_enter Tryd.func26, Tryd.ntmps26
    go_wp2_with (go_at_call 53; (with_reducible refine (HC.out _ (by with_unfolding_all exact HK.out.rd)).mono ?_); rintro e w' ⟨rfl, hb⟩; have HK2 := Lib.hid (HK.out.next hb); clear HK hb x0 x1 x2 x3 x4; have HK := HK2; clear HK2; have x0 := HK.out.blk.c0; have x1 := HK.out.blk.c1; have x4 := HK.out.blk.c4)
    refine wp_loop_rounds 4 ?_
    rw [rounds_succ]
    by_cases h0 : (0 : Int) < (A.z.length : Int)
    · go_wp2
      go_ret2
      exact ⟨rfl, HK.out.bel⟩
    · go_wp2
      go_ret2
      exact ⟨rfl, HK.out.bel⟩
end Go.Proofs.YtnoljljagfpogaaDoor
