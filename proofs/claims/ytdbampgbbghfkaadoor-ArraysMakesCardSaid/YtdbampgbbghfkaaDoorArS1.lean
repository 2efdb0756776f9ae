/- String of the code; size and encoded of the reference. -/
import Derived.Test.YtdbampgbbghfkaaDoorArF
import Derived.LoopN
namespace Go.Proofs.YtdbampgbbghfkaaDoor
open Go.RowKit

/-- What String returns. -/
def sgE (A : Ar) : Int := if ck A = 0 then (if A.k = 2 then (if A.r = 1 then 0 else 22) else 21) else ck A
def sgV (A : Ar) : List UInt8 := if sgE A = 0 then Ru.bytL A.z else []
theorem sg_ok {A : Ar} (h : sgE A = 0) : Good A ∧ A.k = 2 ∧ A.r = 1 := by
  unfold sgE at h
  by_cases h1 : ck A = 0
  · rw [if_pos h1] at h
    by_cases h2 : A.k = 2
    · rw [if_pos h2] at h
      by_cases h3 : A.r = 1
      · exact ⟨ck_good h1, h2, h3⟩
      · rw [if_neg h3] at h; cases h
    · rw [if_neg h2] at h; cases h
  · rw [if_neg h1] at h; exact absurd h h1

set_option maxRecDepth 100000 in
set_option maxHeartbeats 4000000 in
theorem string_any (A : Ar) (v : Value) (w : World) (hw : Ru.Lay w) (hv : RdI w.heap.size w v A.z) (hl : A.z.length ≤ 1000) :
    Calls Tryd.prog 16 #[A5 A.k A.r A.a A.b v] w fun e w' => e = .returned (.tuple #[.string ⟨(sgV A).toArray⟩, .int .i64 (sgE A)]) ∧ Below w.heap.size w w' := by
  have HC := Lib.hid (fun W h1 h2 => acheck_any A v W h1 h2 (by omega))
  have HK := Lib.hid (KA.new A.k A.r A.a A.b hw hv)
  have x0 := HK.out.blk.c0; have x1 := HK.out.blk.c1; have x2 := HK.out.blk.c2; have x3 := HK.out.blk.c3; have x4 := HK.out.blk.c4
  have HY : Hid (∀ W, Ru.Lay W → RdI W.heap.size W v A.z → Calls Tryd.prog 33 #[v] W fun e w' => ∃ u, e = .returned (.tuple #[u, .int .i64 (Ru.bytA A.z), .int .i64 ((Ru.bytE A.z : Nat) : Int)]) ∧ Ru.Bys w' W.heap.size u (Ru.bytV A.z) ∧ Below W.heap.size W w') := fun W h1 h2 => Ru.bytes_any v A.z W h1 h2.ru (by omega)
  obtain ⟨p, cap, rfl, hcap, hcap2, hcell⟩ := hv
  clear hcell hw
  by_cases h1 : ck A = 0
  · rw [h1] at HC
    by_cases h2 : A.k = 2
    · have k2 : (A.k != 2) = false := by simpa using h2
      by_cases h3 : A.r = 1
      · have k3 : (A.r != 1) = false := by simpa using h3
        have HE : Hid (sgE A = 0 ∧ sgV A = Ru.bytL A.z) := by
          have e : sgE A = 0 := by unfold sgE; rw [if_pos h1, if_pos h2, if_pos h3]
          exact ⟨e, if_pos e⟩
        have hg := ck_good h1
        rw [bytE_ok (hg.runes h2) (by omega), bytV_ok (hg.runes h2) (by omega)] at HY
        rw [HE.out.1, HE.out.2]
        clear h1 h2 h3 hg HE
        go_enter Tryd.func16, Tryd.ntmps16
        go_wp2_with (first
          | (go_at_call 17; (with_reducible refine (HC.out _ (by with_unfolding_all exact HK.out.lay) (by with_unfolding_all exact HK.out.rd)).mono ?_); rintro e w' ⟨rfl, hb⟩; have HK2 := Lib.hid (HK.out.next hb); clear HK hb x0 x1 x2 x3 x4; have HK := HK2; clear HK2; have x0 := HK.out.blk.c0; have x1 := HK.out.blk.c1; have x4 := HK.out.blk.c4)
          | (go_at_call 33; (with_reducible refine (HY.out _ (by with_unfolding_all exact HK.out.lay) (by with_unfolding_all exact HK.out.rd)).mono ?_); rintro e w2 ⟨u, rfl, hu, hb⟩; obtain ⟨ua, uc, rfl⟩ := Ru.bys_len hu; have hcv := Ru.conv_bys hu; have HB := Lib.hid (HK.out.bel.trans (hb.mono HK.out.bel.size)); clear HK hb hu x0 x1 x4))
        go_ret2
        exact ⟨rfl, HB.out⟩
      · have k3 : (A.r != 1) = true := by simpa using h3
        have HE : Hid (sgE A = 22 ∧ sgV A = []) := by
          have e : sgE A = 22 := by unfold sgE; rw [if_pos h1, if_pos h2, if_neg h3]
          exact ⟨e, by unfold sgV; rw [e]; rfl⟩
        rw [HE.out.1, HE.out.2]
        clear h1 h2 h3 HE
        go_enter Tryd.func16, Tryd.ntmps16
        go_wp2_with (go_at_call 17; (with_reducible refine (HC.out _ (by with_unfolding_all exact HK.out.lay) (by with_unfolding_all exact HK.out.rd)).mono ?_); rintro e w' ⟨rfl, hb⟩; have HK2 := Lib.hid (HK.out.next hb); clear HK hb x0 x1 x2 x3 x4; have HK := HK2; clear HK2; have x0 := HK.out.blk.c0; have x1 := HK.out.blk.c1; have x4 := HK.out.blk.c4)
        go_ret2
        exact ⟨rfl, HK.out.bel⟩
    · have k2 : (A.k != 2) = true := by simpa using h2
      have HE : Hid (sgE A = 21 ∧ sgV A = []) := by
        have e : sgE A = 21 := by unfold sgE; rw [if_pos h1, if_neg h2]
        exact ⟨e, by unfold sgV; rw [e]; rfl⟩
      rw [HE.out.1, HE.out.2]
      clear h1 h2 HE
      go_enter Tryd.func16, Tryd.ntmps16
      go_wp2_with (go_at_call 17; (with_reducible refine (HC.out _ (by with_unfolding_all exact HK.out.lay) (by with_unfolding_all exact HK.out.rd)).mono ?_); rintro e w' ⟨rfl, hb⟩; have HK2 := Lib.hid (HK.out.next hb); clear HK hb x0 x1 x2 x3 x4; have HK := HK2; clear HK2; have x0 := HK.out.blk.c0; have x1 := HK.out.blk.c1; have x4 := HK.out.blk.c4)
      go_ret2
      exact ⟨rfl, HK.out.bel⟩
  · have HE : Hid (sgE A = ck A ∧ sgV A = []) := by
      have e : sgE A = ck A := if_neg h1
      exact ⟨e, by unfold sgV; rw [e]; exact if_neg h1⟩
    rw [HE.out.1, HE.out.2]
    obtain ⟨E, hE⟩ : ∃ E, ck A = E := ⟨_, rfl⟩
    rw [hE] at HC h1 ⊢
    have k1 : (E != 0) = true := by simpa using h1
    clear h1 HE hE
    go_enter Tryd.func16, Tryd.ntmps16
    go_wp2_with (go_at_call 17; (with_reducible refine (HC.out _ (by with_unfolding_all exact HK.out.lay) (by with_unfolding_all exact HK.out.rd)).mono ?_); rintro e w' ⟨rfl, hb⟩; have HK2 := Lib.hid (HK.out.next hb); clear HK hb x0 x1 x2 x3 x4; have HK := HK2; clear HK2)
    go_ret2
    exact ⟨rfl, HK.out.bel⟩

/-- How many bytes a rune has. -/
def szN (r : Nat) : Nat := if r < 128 then 1 else if r < 2048 then 2 else if r < 65536 then 3 else 4
theorem size_any (r : Nat) (w : World) : Calls Tryd.prog 47 #[.int .i64 (r : Int)] w fun e w' => e = .returned (.int .i64 (szN r : Int)) ∧ w = w' := by
  unfold szN
  by_cases h1 : r < 128
  · have h1i : (r : Int) < 128 := by omega
    rw [if_pos h1]
    go_enter Tryd.func47, Tryd.ntmps47
    go_wp2
    go_ret
    exact ⟨rfl, rfl⟩
  · have h1i : ¬ (r : Int) < 128 := by omega
    rw [if_neg h1]
    by_cases h2 : r < 2048
    · have h2i : (r : Int) < 2048 := by omega
      rw [if_pos h2]
      go_enter Tryd.func47, Tryd.ntmps47
      go_wp2
      go_ret
      exact ⟨rfl, rfl⟩
    · have h2i : ¬ (r : Int) < 2048 := by omega
      rw [if_neg h2]
      by_cases h3 : r < 65536
      · have h3i : (r : Int) < 65536 := by omega
        rw [if_pos h3]
        go_enter Tryd.func47, Tryd.ntmps47
        go_wp2
        go_ret
        exact ⟨rfl, rfl⟩
      · have h3i : ¬ (r : Int) < 65536 := by omega
        rw [if_neg h3]
        go_enter Tryd.func47, Tryd.ntmps47
        go_wp2
        go_ret
        exact ⟨rfl, rfl⟩
end Go.Proofs.YtdbampgbbghfkaaDoor
