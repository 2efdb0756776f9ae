/- The reference's Same and Errors. -/
import Derived.Test.YtpbfbejckhbijaaGreatDoorPrE
import Derived.Test.YtpbfbejckhbijaaGreatDoorScY
import Derived.BigQuiet
namespace Go.Proofs.YtpbfbejckhbijaaGreatDoor
open Go.RowKit

set_option maxRecDepth 100000 in
set_option maxHeartbeats 8000000 in
theorem same12_eq (l : List Int) (v u : Value) (w : World) (hv : RdI w.heap.size w v l) (hu : RdI w.heap.size w u l) (hl : l.length ≤ 100000) :
    Calls Tryz.prog 20 #[v, u] w fun e w' => e = .returned (.bool true) ∧ Below w.heap.size w w' := by
  have HV := Lib.hid hv
  have HU := Lib.hid hu
  obtain ⟨p, cap, rfl, _, _, _⟩ := hv
  obtain ⟨q, cap', rfl, _, _, _⟩ := hu
  go_enter Tryz.func20, Tryz.ntmps20
  go_wp2_with fail
  go_loopg [5] l.length (fun gk vi wr => ∃ (k : Nat), k + gk = l.length ∧ vi = .int .i64 k ∧ Below w.heap.size w wr)
  case atStart => exact ⟨0, by omega, rfl, Below.refl _ _⟩
  case round =>
    obtain ⟨k, hkg, rfl, hbl⟩ := hrel
    have HB := Lib.hid hbl
    clear hbl
    cases gk with
    | zero =>
      have hkz : ¬ ((k : Int) < (l.length : Int)) := by omega
      clear HV HU
      go_wp2_with fail
      go_ret
      exact ⟨rfl, HB.out⟩
    | succ g =>
      have hkz : (k : Int) < (l.length : Int) := by omega
      have hk : k < l.length := by omega
      have hwi : IntKind.i64.wrap ((k : Int) + 1) = (k : Int) + 1 := by rw [IntKind.wrap_i64]; omega
      obtain ⟨bV, oV, hpV, hbV, hcV⟩ := HV.out.cells (by intro e; rw [e] at hk; simp at hk)
      obtain ⟨bU, oU, hpU, hbU, hcU⟩ := HU.out.cells (by intro e; rw [e] at hk; simp at hk)
      subst hpV hpU
      have hx := (HB.out.cell (p := ⟨bV, oV + k, none⟩) hbV).trans (hcV k hk)
      have hy := (HB.out.cell (p := ⟨bU, oU + k, none⟩) hbU).trans (hcU k hk)
      have HD := Lib.hid (fun n => HB.out.trans (below_drewN (Below.refl w.heap.size wr) n))
      clear hcV hcU HV HU HB hbV hbU
      generalize l[k] = c at hx hy
      have k2 : (c != c) = false := by simp
      go_wp2_with fail
      go_quiet (fail)
      go_wp2_with fail
      go_roundg g
      case measure => omega
      case rel => exact ⟨k + 1, by omega, by go_num, HD.out _⟩
theorem blk_rdE (W : World) (l : List Int) (_ : l ≠ []) (cs : Array Value) (hc : cs = (l.map fun z => .int .i64 z).toArray) (hl : l.length ≤ 1000) : RdI (W.alloc (.cells cs 23)).heap.size (W.alloc (.cells cs 23)) (.slice (some ⟨W.heap.size, 0, none⟩) l.length l.length) l := by
  refine ⟨_, _, rfl, Nat.le_refl _, by omega, fun _ => ⟨W.heap.size, 0, rfl, by simp, fun j hj => ?_⟩⟩
  unfold World.cell?
  rw [tab_new]
  subst hc
  simp [hj]
set_option maxRecDepth 100000 in
set_option maxHeartbeats 8000000 in
theorem rerr_1 (w : World) : Calls Tryz.prog 19 #[.int .i64 1] w fun e w' => ∃ u, e = .returned (.tuple #[u, .int .i64 0]) ∧ RdI w'.heap.size w' u [12] ∧ Ru.NilC u ∧ Below w.heap.size w w' := by
  have HA := Lib.hid (fun W => rarity_any 1 W)
  rw [show arN 1 = 1 from rfl, show arE 1 = 0 from rfl] at HA
  have H9 := Lib.hid (fun W => Sc.rarity_any 1 W)
  rw [show Sc.arV 1 = 1 by decide, show Sc.arE 1 = 0 by decide] at H9
  go_enter Tryz.func19, Tryz.ntmps19
  go_wp2_with (first | (go_at_call 17; refine (HA.out _).mono ?_; rintro e w1 ⟨rfl, rfl⟩) | (go_at_call 34; refine (H9.out _).mono ?_; rintro e w1 ⟨rfl, rfl⟩) | fail)
  go_ret2
  exact ⟨_, rfl, blk_rdE _ [12] (by decide) _ rfl (by decide), nil_some _ _ _, bel1 _ _⟩
set_option maxRecDepth 100000 in
set_option maxHeartbeats 8000000 in
theorem rerr_2 (w : World) : Calls Tryz.prog 19 #[.int .i64 2] w fun e w' => ∃ u, e = .returned (.tuple #[u, .int .i64 0]) ∧ RdI w'.heap.size w' u [12] ∧ Ru.NilC u ∧ Below w.heap.size w w' := by
  have HA := Lib.hid (fun W => rarity_any 2 W)
  rw [show arN 2 = 1 from rfl, show arE 2 = 0 from rfl] at HA
  have H9 := Lib.hid (fun W => Sc.rarity_any 2 W)
  rw [show Sc.arV 2 = 1 by decide, show Sc.arE 2 = 0 by decide] at H9
  go_enter Tryz.func19, Tryz.ntmps19
  go_wp2_with (first | (go_at_call 17; refine (HA.out _).mono ?_; rintro e w1 ⟨rfl, rfl⟩) | (go_at_call 34; refine (H9.out _).mono ?_; rintro e w1 ⟨rfl, rfl⟩) | fail)
  go_ret2
  exact ⟨_, rfl, blk_rdE _ [12] (by decide) _ rfl (by decide), nil_some _ _ _, bel1 _ _⟩
set_option maxRecDepth 100000 in
set_option maxHeartbeats 8000000 in
theorem rerr_3 (w : World) : Calls Tryz.prog 19 #[.int .i64 3] w fun e w' => ∃ u, e = .returned (.tuple #[u, .int .i64 0]) ∧ RdI w'.heap.size w' u [] ∧ Ru.NilC u ∧ Below w.heap.size w w' := by
  have HA := Lib.hid (fun W => rarity_any 3 W)
  rw [show arN 3 = 1 from rfl, show arE 3 = 0 from rfl] at HA
  have H9 := Lib.hid (fun W => Sc.rarity_any 3 W)
  rw [show Sc.arV 3 = 1 by decide, show Sc.arE 3 = 0 by decide] at H9
  go_enter Tryz.func19, Tryz.ntmps19
  go_wp2_with (first | (go_at_call 17; refine (HA.out _).mono ?_; rintro e w1 ⟨rfl, rfl⟩) | (go_at_call 34; refine (H9.out _).mono ?_; rintro e w1 ⟨rfl, rfl⟩) | fail)
  go_ret2
  exact ⟨_, rfl, (RdN.nil 0 _).rd, (RdN.nil 0 w1).nilC, Below.refl _ _⟩
set_option maxRecDepth 100000 in
set_option maxHeartbeats 8000000 in
theorem rerr_4 (w : World) : Calls Tryz.prog 19 #[.int .i64 4] w fun e w' => ∃ u, e = .returned (.tuple #[u, .int .i64 0]) ∧ RdI w'.heap.size w' u [] ∧ Ru.NilC u ∧ Below w.heap.size w w' := by
  have HA := Lib.hid (fun W => rarity_any 4 W)
  rw [show arN 4 = 1 from rfl, show arE 4 = 0 from rfl] at HA
  have H9 := Lib.hid (fun W => Sc.rarity_any 4 W)
  rw [show Sc.arV 4 = 0 by decide, show Sc.arE 4 = 2 by decide] at H9
  go_enter Tryz.func19, Tryz.ntmps19
  go_wp2_with (first | (go_at_call 17; refine (HA.out _).mono ?_; rintro e w1 ⟨rfl, rfl⟩) | (go_at_call 34; refine (H9.out _).mono ?_; rintro e w1 ⟨rfl, rfl⟩) | fail)
  go_ret2
  exact ⟨_, rfl, (RdN.nil 0 _).rd, (RdN.nil 0 w1).nilC, Below.refl _ _⟩
set_option maxRecDepth 100000 in
set_option maxHeartbeats 8000000 in
theorem rerr_5 (w : World) : Calls Tryz.prog 19 #[.int .i64 5] w fun e w' => ∃ u, e = .returned (.tuple #[u, .int .i64 0]) ∧ RdI w'.heap.size w' u [] ∧ Ru.NilC u ∧ Below w.heap.size w w' := by
  have HA := Lib.hid (fun W => rarity_any 5 W)
  rw [show arN 5 = 1 from rfl, show arE 5 = 0 from rfl] at HA
  have H9 := Lib.hid (fun W => Sc.rarity_any 5 W)
  rw [show Sc.arV 5 = 0 by decide, show Sc.arE 5 = 2 by decide] at H9
  go_enter Tryz.func19, Tryz.ntmps19
  go_wp2_with (first | (go_at_call 17; refine (HA.out _).mono ?_; rintro e w1 ⟨rfl, rfl⟩) | (go_at_call 34; refine (H9.out _).mono ?_; rintro e w1 ⟨rfl, rfl⟩) | fail)
  go_ret2
  exact ⟨_, rfl, (RdN.nil 0 _).rd, (RdN.nil 0 w1).nilC, Below.refl _ _⟩
set_option maxRecDepth 100000 in
set_option maxHeartbeats 8000000 in
theorem rerr_6 (w : World) : Calls Tryz.prog 19 #[.int .i64 6] w fun e w' => ∃ u, e = .returned (.tuple #[u, .int .i64 0]) ∧ RdI w'.heap.size w' u [] ∧ Ru.NilC u ∧ Below w.heap.size w w' := by
  have HA := Lib.hid (fun W => rarity_any 6 W)
  rw [show arN 6 = 1 from rfl, show arE 6 = 0 from rfl] at HA
  have H9 := Lib.hid (fun W => Sc.rarity_any 6 W)
  rw [show Sc.arV 6 = 0 by decide, show Sc.arE 6 = 2 by decide] at H9
  go_enter Tryz.func19, Tryz.ntmps19
  go_wp2_with (first | (go_at_call 17; refine (HA.out _).mono ?_; rintro e w1 ⟨rfl, rfl⟩) | (go_at_call 34; refine (H9.out _).mono ?_; rintro e w1 ⟨rfl, rfl⟩) | fail)
  go_ret2
  exact ⟨_, rfl, (RdN.nil 0 _).rd, (RdN.nil 0 w1).nilC, Below.refl _ _⟩
set_option maxRecDepth 100000 in
set_option maxHeartbeats 8000000 in
theorem rerr_7 (w : World) : Calls Tryz.prog 19 #[.int .i64 7] w fun e w' => ∃ u, e = .returned (.tuple #[u, .int .i64 0]) ∧ RdI w'.heap.size w' u [] ∧ Ru.NilC u ∧ Below w.heap.size w w' := by
  have HA := Lib.hid (fun W => rarity_any 7 W)
  rw [show arN 7 = 1 from rfl, show arE 7 = 0 from rfl] at HA
  have H9 := Lib.hid (fun W => Sc.rarity_any 7 W)
  rw [show Sc.arV 7 = 0 by decide, show Sc.arE 7 = 2 by decide] at H9
  go_enter Tryz.func19, Tryz.ntmps19
  go_wp2_with (first | (go_at_call 17; refine (HA.out _).mono ?_; rintro e w1 ⟨rfl, rfl⟩) | (go_at_call 34; refine (H9.out _).mono ?_; rintro e w1 ⟨rfl, rfl⟩) | fail)
  go_ret2
  exact ⟨_, rfl, (RdN.nil 0 _).rd, (RdN.nil 0 w1).nilC, Below.refl _ _⟩
set_option maxRecDepth 100000 in
set_option maxHeartbeats 8000000 in
theorem rerr_8 (w : World) : Calls Tryz.prog 19 #[.int .i64 8] w fun e w' => ∃ u, e = .returned (.tuple #[u, .int .i64 0]) ∧ RdI w'.heap.size w' u [13, 15] ∧ Ru.NilC u ∧ Below w.heap.size w w' := by
  have HA := Lib.hid (fun W => rarity_any 8 W)
  rw [show arN 8 = 1 from rfl, show arE 8 = 0 from rfl] at HA
  have H9 := Lib.hid (fun W => Sc.rarity_any 8 W)
  rw [show Sc.arV 8 = 0 by decide, show Sc.arE 8 = 2 by decide] at H9
  go_enter Tryz.func19, Tryz.ntmps19
  go_wp2_with (first | (go_at_call 17; refine (HA.out _).mono ?_; rintro e w1 ⟨rfl, rfl⟩) | (go_at_call 34; refine (H9.out _).mono ?_; rintro e w1 ⟨rfl, rfl⟩) | fail)
  go_ret2
  exact ⟨_, rfl, blk_rdE _ [13, 15] (by decide) _ rfl (by decide), nil_some _ _ _, bel1 _ _⟩
set_option maxRecDepth 100000 in
set_option maxHeartbeats 8000000 in
theorem rerr_9 (w : World) : Calls Tryz.prog 19 #[.int .i64 9] w fun e w' => ∃ u, e = .returned (.tuple #[u, .int .i64 0]) ∧ RdI w'.heap.size w' u [12] ∧ Ru.NilC u ∧ Below w.heap.size w w' := by
  have HA := Lib.hid (fun W => rarity_any 9 W)
  rw [show arN 9 = 1 from rfl, show arE 9 = 0 from rfl] at HA
  have H9 := Lib.hid (fun W => Sc.rarity_any 9 W)
  rw [show Sc.arV 9 = 0 by decide, show Sc.arE 9 = 2 by decide] at H9
  go_enter Tryz.func19, Tryz.ntmps19
  go_wp2_with (first | (go_at_call 17; refine (HA.out _).mono ?_; rintro e w1 ⟨rfl, rfl⟩) | (go_at_call 34; refine (H9.out _).mono ?_; rintro e w1 ⟨rfl, rfl⟩) | fail)
  go_ret2
  exact ⟨_, rfl, blk_rdE _ [12] (by decide) _ rfl (by decide), nil_some _ _ _, bel1 _ _⟩
set_option maxRecDepth 100000 in
set_option maxHeartbeats 8000000 in
theorem rerr_10 (w : World) : Calls Tryz.prog 19 #[.int .i64 10] w fun e w' => ∃ u, e = .returned (.tuple #[u, .int .i64 0]) ∧ RdI w'.heap.size w' u [13] ∧ Ru.NilC u ∧ Below w.heap.size w w' := by
  have HA := Lib.hid (fun W => rarity_any 10 W)
  rw [show arN 10 = 1 from rfl, show arE 10 = 0 from rfl] at HA
  have H9 := Lib.hid (fun W => Sc.rarity_any 10 W)
  rw [show Sc.arV 10 = 0 by decide, show Sc.arE 10 = 2 by decide] at H9
  go_enter Tryz.func19, Tryz.ntmps19
  go_wp2_with (first | (go_at_call 17; refine (HA.out _).mono ?_; rintro e w1 ⟨rfl, rfl⟩) | (go_at_call 34; refine (H9.out _).mono ?_; rintro e w1 ⟨rfl, rfl⟩) | fail)
  go_ret2
  exact ⟨_, rfl, blk_rdE _ [13] (by decide) _ rfl (by decide), nil_some _ _ _, bel1 _ _⟩
set_option maxRecDepth 100000 in
set_option maxHeartbeats 8000000 in
theorem rerr_11 (w : World) : Calls Tryz.prog 19 #[.int .i64 11] w fun e w' => ∃ u, e = .returned (.tuple #[u, .int .i64 0]) ∧ RdI w'.heap.size w' u [13] ∧ Ru.NilC u ∧ Below w.heap.size w w' := by
  have HA := Lib.hid (fun W => rarity_any 11 W)
  rw [show arN 11 = 1 from rfl, show arE 11 = 0 from rfl] at HA
  have H9 := Lib.hid (fun W => Sc.rarity_any 11 W)
  rw [show Sc.arV 11 = 0 by decide, show Sc.arE 11 = 2 by decide] at H9
  go_enter Tryz.func19, Tryz.ntmps19
  go_wp2_with (first | (go_at_call 17; refine (HA.out _).mono ?_; rintro e w1 ⟨rfl, rfl⟩) | (go_at_call 34; refine (H9.out _).mono ?_; rintro e w1 ⟨rfl, rfl⟩) | fail)
  go_ret2
  exact ⟨_, rfl, blk_rdE _ [13] (by decide) _ rfl (by decide), nil_some _ _ _, bel1 _ _⟩
set_option maxRecDepth 100000 in
set_option maxHeartbeats 8000000 in
theorem rerr_12 (w : World) : Calls Tryz.prog 19 #[.int .i64 12] w fun e w' => ∃ u, e = .returned (.tuple #[u, .int .i64 0]) ∧ RdI w'.heap.size w' u [] ∧ Ru.NilC u ∧ Below w.heap.size w w' := by
  have HA := Lib.hid (fun W => rarity_any 12 W)
  rw [show arN 12 = 1 from rfl, show arE 12 = 0 from rfl] at HA
  have H9 := Lib.hid (fun W => Sc.rarity_any 12 W)
  rw [show Sc.arV 12 = 0 by decide, show Sc.arE 12 = 2 by decide] at H9
  go_enter Tryz.func19, Tryz.ntmps19
  go_wp2_with (first | (go_at_call 17; refine (HA.out _).mono ?_; rintro e w1 ⟨rfl, rfl⟩) | (go_at_call 34; refine (H9.out _).mono ?_; rintro e w1 ⟨rfl, rfl⟩) | fail)
  go_ret2
  exact ⟨_, rfl, (RdN.nil 0 _).rd, (RdN.nil 0 w1).nilC, Below.refl _ _⟩
set_option maxRecDepth 100000 in
set_option maxHeartbeats 8000000 in
theorem rerr_13 (w : World) : Calls Tryz.prog 19 #[.int .i64 13] w fun e w' => ∃ u, e = .returned (.tuple #[u, .int .i64 0]) ∧ RdI w'.heap.size w' u [12] ∧ Ru.NilC u ∧ Below w.heap.size w w' := by
  have HA := Lib.hid (fun W => rarity_any 13 W)
  rw [show arN 13 = 1 from rfl, show arE 13 = 0 from rfl] at HA
  have H9 := Lib.hid (fun W => Sc.rarity_any 13 W)
  rw [show Sc.arV 13 = 0 by decide, show Sc.arE 13 = 2 by decide] at H9
  go_enter Tryz.func19, Tryz.ntmps19
  go_wp2_with (first | (go_at_call 17; refine (HA.out _).mono ?_; rintro e w1 ⟨rfl, rfl⟩) | (go_at_call 34; refine (H9.out _).mono ?_; rintro e w1 ⟨rfl, rfl⟩) | fail)
  go_ret2
  exact ⟨_, rfl, blk_rdE _ [12] (by decide) _ rfl (by decide), nil_some _ _ _, bel1 _ _⟩
set_option maxRecDepth 100000 in
set_option maxHeartbeats 8000000 in
theorem rerr_14 (w : World) : Calls Tryz.prog 19 #[.int .i64 14] w fun e w' => ∃ u, e = .returned (.tuple #[u, .int .i64 0]) ∧ RdI w'.heap.size w' u [] ∧ Ru.NilC u ∧ Below w.heap.size w w' := by
  have HA := Lib.hid (fun W => rarity_any 14 W)
  rw [show arN 14 = 1 from rfl, show arE 14 = 0 from rfl] at HA
  have H9 := Lib.hid (fun W => Sc.rarity_any 14 W)
  rw [show Sc.arV 14 = 0 by decide, show Sc.arE 14 = 2 by decide] at H9
  go_enter Tryz.func19, Tryz.ntmps19
  go_wp2_with (first | (go_at_call 17; refine (HA.out _).mono ?_; rintro e w1 ⟨rfl, rfl⟩) | (go_at_call 34; refine (H9.out _).mono ?_; rintro e w1 ⟨rfl, rfl⟩) | fail)
  go_ret2
  exact ⟨_, rfl, (RdN.nil 0 _).rd, (RdN.nil 0 w1).nilC, Below.refl _ _⟩
set_option maxRecDepth 100000 in
set_option maxHeartbeats 8000000 in
theorem rerr_15 (w : World) : Calls Tryz.prog 19 #[.int .i64 15] w fun e w' => ∃ u, e = .returned (.tuple #[u, .int .i64 0]) ∧ RdI w'.heap.size w' u [11, 12] ∧ Ru.NilC u ∧ Below w.heap.size w w' := by
  have HA := Lib.hid (fun W => rarity_any 15 W)
  rw [show arN 15 = 2 from rfl, show arE 15 = 0 from rfl] at HA
  have H9 := Lib.hid (fun W => Sc.rarity_any 15 W)
  rw [show Sc.arV 15 = 2 by decide, show Sc.arE 15 = 0 by decide] at H9
  go_enter Tryz.func19, Tryz.ntmps19
  go_wp2_with (first | (go_at_call 17; refine (HA.out _).mono ?_; rintro e w1 ⟨rfl, rfl⟩) | (go_at_call 34; refine (H9.out _).mono ?_; rintro e w1 ⟨rfl, rfl⟩) | fail)
  go_ret2
  exact ⟨_, rfl, blk_rdE _ [11, 12] (by decide) _ rfl (by decide), nil_some _ _ _, bel1 _ _⟩
set_option maxRecDepth 100000 in
set_option maxHeartbeats 8000000 in
theorem rerr_16 (w : World) : Calls Tryz.prog 19 #[.int .i64 16] w fun e w' => ∃ u, e = .returned (.tuple #[u, .int .i64 0]) ∧ RdI w'.heap.size w' u [11, 12] ∧ Ru.NilC u ∧ Below w.heap.size w w' := by
  have HA := Lib.hid (fun W => rarity_any 16 W)
  rw [show arN 16 = 2 from rfl, show arE 16 = 0 from rfl] at HA
  have H9 := Lib.hid (fun W => Sc.rarity_any 16 W)
  rw [show Sc.arV 16 = 2 by decide, show Sc.arE 16 = 0 by decide] at H9
  go_enter Tryz.func19, Tryz.ntmps19
  go_wp2_with (first | (go_at_call 17; refine (HA.out _).mono ?_; rintro e w1 ⟨rfl, rfl⟩) | (go_at_call 34; refine (H9.out _).mono ?_; rintro e w1 ⟨rfl, rfl⟩) | fail)
  go_ret2
  exact ⟨_, rfl, blk_rdE _ [11, 12] (by decide) _ rfl (by decide), nil_some _ _ _, bel1 _ _⟩
set_option maxRecDepth 100000 in
set_option maxHeartbeats 8000000 in
theorem rerr_17 (w : World) : Calls Tryz.prog 19 #[.int .i64 17] w fun e w' => ∃ u, e = .returned (.tuple #[u, .int .i64 0]) ∧ RdI w'.heap.size w' u [11, 12] ∧ Ru.NilC u ∧ Below w.heap.size w w' := by
  have HA := Lib.hid (fun W => rarity_any 17 W)
  rw [show arN 17 = 2 from rfl, show arE 17 = 0 from rfl] at HA
  have H9 := Lib.hid (fun W => Sc.rarity_any 17 W)
  rw [show Sc.arV 17 = 2 by decide, show Sc.arE 17 = 0 by decide] at H9
  go_enter Tryz.func19, Tryz.ntmps19
  go_wp2_with (first | (go_at_call 17; refine (HA.out _).mono ?_; rintro e w1 ⟨rfl, rfl⟩) | (go_at_call 34; refine (H9.out _).mono ?_; rintro e w1 ⟨rfl, rfl⟩) | fail)
  go_ret2
  exact ⟨_, rfl, blk_rdE _ [11, 12] (by decide) _ rfl (by decide), nil_some _ _ _, bel1 _ _⟩
set_option maxRecDepth 100000 in
set_option maxHeartbeats 8000000 in
theorem rerr_18 (w : World) : Calls Tryz.prog 19 #[.int .i64 18] w fun e w' => ∃ u, e = .returned (.tuple #[u, .int .i64 0]) ∧ RdI w'.heap.size w' u [11, 12, 13] ∧ Ru.NilC u ∧ Below w.heap.size w w' := by
  have HA := Lib.hid (fun W => rarity_any 18 W)
  rw [show arN 18 = 2 from rfl, show arE 18 = 0 from rfl] at HA
  have H9 := Lib.hid (fun W => Sc.rarity_any 18 W)
  rw [show Sc.arV 18 = 2 by decide, show Sc.arE 18 = 0 by decide] at H9
  go_enter Tryz.func19, Tryz.ntmps19
  go_wp2_with (first | (go_at_call 17; refine (HA.out _).mono ?_; rintro e w1 ⟨rfl, rfl⟩) | (go_at_call 34; refine (H9.out _).mono ?_; rintro e w1 ⟨rfl, rfl⟩) | fail)
  go_ret2
  exact ⟨_, rfl, blk_rdE _ [11, 12, 13] (by decide) _ rfl (by decide), nil_some _ _ _, bel1 _ _⟩
set_option maxRecDepth 100000 in
set_option maxHeartbeats 8000000 in
theorem rerr_19 (w : World) : Calls Tryz.prog 19 #[.int .i64 19] w fun e w' => ∃ u, e = .returned (.tuple #[u, .int .i64 0]) ∧ RdI w'.heap.size w' u [11, 13] ∧ Ru.NilC u ∧ Below w.heap.size w w' := by
  have HA := Lib.hid (fun W => rarity_any 19 W)
  rw [show arN 19 = 2 from rfl, show arE 19 = 0 from rfl] at HA
  have H9 := Lib.hid (fun W => Sc.rarity_any 19 W)
  rw [show Sc.arV 19 = 2 by decide, show Sc.arE 19 = 0 by decide] at H9
  go_enter Tryz.func19, Tryz.ntmps19
  go_wp2_with (first | (go_at_call 17; refine (HA.out _).mono ?_; rintro e w1 ⟨rfl, rfl⟩) | (go_at_call 34; refine (H9.out _).mono ?_; rintro e w1 ⟨rfl, rfl⟩) | fail)
  go_ret2
  exact ⟨_, rfl, blk_rdE _ [11, 13] (by decide) _ rfl (by decide), nil_some _ _ _, bel1 _ _⟩
set_option maxRecDepth 100000 in
set_option maxHeartbeats 8000000 in
theorem rerr_20 (w : World) : Calls Tryz.prog 19 #[.int .i64 20] w fun e w' => ∃ u, e = .returned (.tuple #[u, .int .i64 0]) ∧ RdI w'.heap.size w' u [11] ∧ Ru.NilC u ∧ Below w.heap.size w w' := by
  have HA := Lib.hid (fun W => rarity_any 20 W)
  rw [show arN 20 = 2 from rfl, show arE 20 = 0 from rfl] at HA
  have H9 := Lib.hid (fun W => Sc.rarity_any 20 W)
  rw [show Sc.arV 20 = 2 by decide, show Sc.arE 20 = 0 by decide] at H9
  go_enter Tryz.func19, Tryz.ntmps19
  go_wp2_with (first | (go_at_call 17; refine (HA.out _).mono ?_; rintro e w1 ⟨rfl, rfl⟩) | (go_at_call 34; refine (H9.out _).mono ?_; rintro e w1 ⟨rfl, rfl⟩) | fail)
  go_ret2
  exact ⟨_, rfl, blk_rdE _ [11] (by decide) _ rfl (by decide), nil_some _ _ _, bel1 _ _⟩
set_option maxRecDepth 100000 in
set_option maxHeartbeats 8000000 in
theorem rerr_21 (w : World) : Calls Tryz.prog 19 #[.int .i64 21] w fun e w' => ∃ u, e = .returned (.tuple #[u, .int .i64 0]) ∧ RdI w'.heap.size w' u [11] ∧ Ru.NilC u ∧ Below w.heap.size w w' := by
  have HA := Lib.hid (fun W => rarity_any 21 W)
  rw [show arN 21 = 2 from rfl, show arE 21 = 0 from rfl] at HA
  have H9 := Lib.hid (fun W => Sc.rarity_any 21 W)
  rw [show Sc.arV 21 = 2 by decide, show Sc.arE 21 = 0 by decide] at H9
  go_enter Tryz.func19, Tryz.ntmps19
  go_wp2_with (first | (go_at_call 17; refine (HA.out _).mono ?_; rintro e w1 ⟨rfl, rfl⟩) | (go_at_call 34; refine (H9.out _).mono ?_; rintro e w1 ⟨rfl, rfl⟩) | fail)
  go_ret2
  exact ⟨_, rfl, blk_rdE _ [11] (by decide) _ rfl (by decide), nil_some _ _ _, bel1 _ _⟩
set_option maxRecDepth 100000 in
set_option maxHeartbeats 8000000 in
theorem rerr_22 (w : World) : Calls Tryz.prog 19 #[.int .i64 22] w fun e w' => ∃ u, e = .returned (.tuple #[u, .int .i64 0]) ∧ RdI w'.heap.size w' u [11] ∧ Ru.NilC u ∧ Below w.heap.size w w' := by
  have HA := Lib.hid (fun W => rarity_any 22 W)
  rw [show arN 22 = 2 from rfl, show arE 22 = 0 from rfl] at HA
  have H9 := Lib.hid (fun W => Sc.rarity_any 22 W)
  rw [show Sc.arV 22 = 2 by decide, show Sc.arE 22 = 0 by decide] at H9
  go_enter Tryz.func19, Tryz.ntmps19
  go_wp2_with (first | (go_at_call 17; refine (HA.out _).mono ?_; rintro e w1 ⟨rfl, rfl⟩) | (go_at_call 34; refine (H9.out _).mono ?_; rintro e w1 ⟨rfl, rfl⟩) | fail)
  go_ret2
  exact ⟨_, rfl, blk_rdE _ [11] (by decide) _ rfl (by decide), nil_some _ _ _, bel1 _ _⟩
set_option maxRecDepth 100000 in
set_option maxHeartbeats 8000000 in
theorem rerr_23 (w : World) : Calls Tryz.prog 19 #[.int .i64 23] w fun e w' => ∃ u, e = .returned (.tuple #[u, .int .i64 0]) ∧ RdI w'.heap.size w' u [11] ∧ Ru.NilC u ∧ Below w.heap.size w w' := by
  have HA := Lib.hid (fun W => rarity_any 23 W)
  rw [show arN 23 = 2 from rfl, show arE 23 = 0 from rfl] at HA
  have H9 := Lib.hid (fun W => Sc.rarity_any 23 W)
  rw [show Sc.arV 23 = 2 by decide, show Sc.arE 23 = 0 by decide] at H9
  go_enter Tryz.func19, Tryz.ntmps19
  go_wp2_with (first | (go_at_call 17; refine (HA.out _).mono ?_; rintro e w1 ⟨rfl, rfl⟩) | (go_at_call 34; refine (H9.out _).mono ?_; rintro e w1 ⟨rfl, rfl⟩) | fail)
  go_ret2
  exact ⟨_, rfl, blk_rdE _ [11] (by decide) _ rfl (by decide), nil_some _ _ _, bel1 _ _⟩
set_option maxRecDepth 100000 in
set_option maxHeartbeats 8000000 in
theorem rerr_24 (w : World) : Calls Tryz.prog 19 #[.int .i64 24] w fun e w' => ∃ u, e = .returned (.tuple #[u, .int .i64 0]) ∧ RdI w'.heap.size w' u [11] ∧ Ru.NilC u ∧ Below w.heap.size w w' := by
  have HA := Lib.hid (fun W => rarity_any 24 W)
  rw [show arN 24 = 2 from rfl, show arE 24 = 0 from rfl] at HA
  have H9 := Lib.hid (fun W => Sc.rarity_any 24 W)
  rw [show Sc.arV 24 = 2 by decide, show Sc.arE 24 = 0 by decide] at H9
  go_enter Tryz.func19, Tryz.ntmps19
  go_wp2_with (first | (go_at_call 17; refine (HA.out _).mono ?_; rintro e w1 ⟨rfl, rfl⟩) | (go_at_call 34; refine (H9.out _).mono ?_; rintro e w1 ⟨rfl, rfl⟩) | fail)
  go_ret2
  exact ⟨_, rfl, blk_rdE _ [11] (by decide) _ rfl (by decide), nil_some _ _ _, bel1 _ _⟩
set_option maxRecDepth 100000 in
set_option maxHeartbeats 8000000 in
theorem rerr_25 (w : World) : Calls Tryz.prog 19 #[.int .i64 25] w fun e w' => ∃ u, e = .returned (.tuple #[u, .int .i64 0]) ∧ RdI w'.heap.size w' u [11] ∧ Ru.NilC u ∧ Below w.heap.size w w' := by
  have HA := Lib.hid (fun W => rarity_any 25 W)
  rw [show arN 25 = 2 from rfl, show arE 25 = 0 from rfl] at HA
  have H9 := Lib.hid (fun W => Sc.rarity_any 25 W)
  rw [show Sc.arV 25 = 2 by decide, show Sc.arE 25 = 0 by decide] at H9
  go_enter Tryz.func19, Tryz.ntmps19
  go_wp2_with (first | (go_at_call 17; refine (HA.out _).mono ?_; rintro e w1 ⟨rfl, rfl⟩) | (go_at_call 34; refine (H9.out _).mono ?_; rintro e w1 ⟨rfl, rfl⟩) | fail)
  go_ret2
  exact ⟨_, rfl, blk_rdE _ [11] (by decide) _ rfl (by decide), nil_some _ _ _, bel1 _ _⟩
set_option maxRecDepth 100000 in
set_option maxHeartbeats 8000000 in
theorem rerr_26 (w : World) : Calls Tryz.prog 19 #[.int .i64 26] w fun e w' => ∃ u, e = .returned (.tuple #[u, .int .i64 0]) ∧ RdI w'.heap.size w' u [11] ∧ Ru.NilC u ∧ Below w.heap.size w w' := by
  have HA := Lib.hid (fun W => rarity_any 26 W)
  rw [show arN 26 = 2 from rfl, show arE 26 = 0 from rfl] at HA
  have H9 := Lib.hid (fun W => Sc.rarity_any 26 W)
  rw [show Sc.arV 26 = 2 by decide, show Sc.arE 26 = 0 by decide] at H9
  go_enter Tryz.func19, Tryz.ntmps19
  go_wp2_with (first | (go_at_call 17; refine (HA.out _).mono ?_; rintro e w1 ⟨rfl, rfl⟩) | (go_at_call 34; refine (H9.out _).mono ?_; rintro e w1 ⟨rfl, rfl⟩) | fail)
  go_ret2
  exact ⟨_, rfl, blk_rdE _ [11] (by decide) _ rfl (by decide), nil_some _ _ _, bel1 _ _⟩
set_option maxRecDepth 100000 in
set_option maxHeartbeats 8000000 in
theorem rerr_27 (w : World) : Calls Tryz.prog 19 #[.int .i64 27] w fun e w' => ∃ u, e = .returned (.tuple #[u, .int .i64 0]) ∧ RdI w'.heap.size w' u [11] ∧ Ru.NilC u ∧ Below w.heap.size w w' := by
  have HA := Lib.hid (fun W => rarity_any 27 W)
  rw [show arN 27 = 2 from rfl, show arE 27 = 0 from rfl] at HA
  have H9 := Lib.hid (fun W => Sc.rarity_any 27 W)
  rw [show Sc.arV 27 = 2 by decide, show Sc.arE 27 = 0 by decide] at H9
  go_enter Tryz.func19, Tryz.ntmps19
  go_wp2_with (first | (go_at_call 17; refine (HA.out _).mono ?_; rintro e w1 ⟨rfl, rfl⟩) | (go_at_call 34; refine (H9.out _).mono ?_; rintro e w1 ⟨rfl, rfl⟩) | fail)
  go_ret2
  exact ⟨_, rfl, blk_rdE _ [11] (by decide) _ rfl (by decide), nil_some _ _ _, bel1 _ _⟩
set_option maxRecDepth 100000 in
set_option maxHeartbeats 8000000 in
theorem rerr_28 (w : World) : Calls Tryz.prog 19 #[.int .i64 28] w fun e w' => ∃ u, e = .returned (.tuple #[u, .int .i64 0]) ∧ RdI w'.heap.size w' u [11] ∧ Ru.NilC u ∧ Below w.heap.size w w' := by
  have HA := Lib.hid (fun W => rarity_any 28 W)
  rw [show arN 28 = 2 from rfl, show arE 28 = 0 from rfl] at HA
  have H9 := Lib.hid (fun W => Sc.rarity_any 28 W)
  rw [show Sc.arV 28 = 2 by decide, show Sc.arE 28 = 0 by decide] at H9
  go_enter Tryz.func19, Tryz.ntmps19
  go_wp2_with (first | (go_at_call 17; refine (HA.out _).mono ?_; rintro e w1 ⟨rfl, rfl⟩) | (go_at_call 34; refine (H9.out _).mono ?_; rintro e w1 ⟨rfl, rfl⟩) | fail)
  go_ret2
  exact ⟨_, rfl, blk_rdE _ [11] (by decide) _ rfl (by decide), nil_some _ _ _, bel1 _ _⟩
set_option maxRecDepth 100000 in
set_option maxHeartbeats 8000000 in
theorem rerr_29 (w : World) : Calls Tryz.prog 19 #[.int .i64 29] w fun e w' => ∃ u, e = .returned (.tuple #[u, .int .i64 0]) ∧ RdI w'.heap.size w' u [11] ∧ Ru.NilC u ∧ Below w.heap.size w w' := by
  have HA := Lib.hid (fun W => rarity_any 29 W)
  rw [show arN 29 = 2 from rfl, show arE 29 = 0 from rfl] at HA
  have H9 := Lib.hid (fun W => Sc.rarity_any 29 W)
  rw [show Sc.arV 29 = 2 by decide, show Sc.arE 29 = 0 by decide] at H9
  go_enter Tryz.func19, Tryz.ntmps19
  go_wp2_with (first | (go_at_call 17; refine (HA.out _).mono ?_; rintro e w1 ⟨rfl, rfl⟩) | (go_at_call 34; refine (H9.out _).mono ?_; rintro e w1 ⟨rfl, rfl⟩) | fail)
  go_ret2
  exact ⟨_, rfl, blk_rdE _ [11] (by decide) _ rfl (by decide), nil_some _ _ _, bel1 _ _⟩
set_option maxRecDepth 100000 in
set_option maxHeartbeats 8000000 in
theorem rerr_30 (w : World) : Calls Tryz.prog 19 #[.int .i64 30] w fun e w' => ∃ u, e = .returned (.tuple #[u, .int .i64 0]) ∧ RdI w'.heap.size w' u [11] ∧ Ru.NilC u ∧ Below w.heap.size w w' := by
  have HA := Lib.hid (fun W => rarity_any 30 W)
  rw [show arN 30 = 2 from rfl, show arE 30 = 0 from rfl] at HA
  have H9 := Lib.hid (fun W => Sc.rarity_any 30 W)
  rw [show Sc.arV 30 = 2 by decide, show Sc.arE 30 = 0 by decide] at H9
  go_enter Tryz.func19, Tryz.ntmps19
  go_wp2_with (first | (go_at_call 17; refine (HA.out _).mono ?_; rintro e w1 ⟨rfl, rfl⟩) | (go_at_call 34; refine (H9.out _).mono ?_; rintro e w1 ⟨rfl, rfl⟩) | fail)
  go_ret2
  exact ⟨_, rfl, blk_rdE _ [11] (by decide) _ rfl (by decide), nil_some _ _ _, bel1 _ _⟩
set_option maxRecDepth 100000 in
set_option maxHeartbeats 8000000 in
theorem rerr_31 (w : World) : Calls Tryz.prog 19 #[.int .i64 31] w fun e w' => ∃ u, e = .returned (.tuple #[u, .int .i64 0]) ∧ RdI w'.heap.size w' u [11] ∧ Ru.NilC u ∧ Below w.heap.size w w' := by
  have HA := Lib.hid (fun W => rarity_any 31 W)
  rw [show arN 31 = 2 from rfl, show arE 31 = 0 from rfl] at HA
  have H9 := Lib.hid (fun W => Sc.rarity_any 31 W)
  rw [show Sc.arV 31 = 2 by decide, show Sc.arE 31 = 0 by decide] at H9
  go_enter Tryz.func19, Tryz.ntmps19
  go_wp2_with (first | (go_at_call 17; refine (HA.out _).mono ?_; rintro e w1 ⟨rfl, rfl⟩) | (go_at_call 34; refine (H9.out _).mono ?_; rintro e w1 ⟨rfl, rfl⟩) | fail)
  go_ret2
  exact ⟨_, rfl, blk_rdE _ [11] (by decide) _ rfl (by decide), nil_some _ _ _, bel1 _ _⟩
set_option maxRecDepth 100000 in
set_option maxHeartbeats 8000000 in
theorem rerr_32 (w : World) : Calls Tryz.prog 19 #[.int .i64 32] w fun e w' => ∃ u, e = .returned (.tuple #[u, .int .i64 0]) ∧ RdI w'.heap.size w' u [11] ∧ Ru.NilC u ∧ Below w.heap.size w w' := by
  have HA := Lib.hid (fun W => rarity_any 32 W)
  rw [show arN 32 = 2 from rfl, show arE 32 = 0 from rfl] at HA
  have H9 := Lib.hid (fun W => Sc.rarity_any 32 W)
  rw [show Sc.arV 32 = 2 by decide, show Sc.arE 32 = 0 by decide] at H9
  go_enter Tryz.func19, Tryz.ntmps19
  go_wp2_with (first | (go_at_call 17; refine (HA.out _).mono ?_; rintro e w1 ⟨rfl, rfl⟩) | (go_at_call 34; refine (H9.out _).mono ?_; rintro e w1 ⟨rfl, rfl⟩) | fail)
  go_ret2
  exact ⟨_, rfl, blk_rdE _ [11] (by decide) _ rfl (by decide), nil_some _ _ _, bel1 _ _⟩
set_option maxRecDepth 100000 in
set_option maxHeartbeats 8000000 in
theorem rerr_33 (w : World) : Calls Tryz.prog 19 #[.int .i64 33] w fun e w' => ∃ u, e = .returned (.tuple #[u, .int .i64 0]) ∧ RdI w'.heap.size w' u [] ∧ Ru.NilC u ∧ Below w.heap.size w w' := by
  have HA := Lib.hid (fun W => rarity_any 33 W)
  rw [show arN 33 = 2 from rfl, show arE 33 = 0 from rfl] at HA
  have H9 := Lib.hid (fun W => Sc.rarity_any 33 W)
  rw [show Sc.arV 33 = 0 by decide, show Sc.arE 33 = 2 by decide] at H9
  go_enter Tryz.func19, Tryz.ntmps19
  go_wp2_with (first | (go_at_call 17; refine (HA.out _).mono ?_; rintro e w1 ⟨rfl, rfl⟩) | (go_at_call 34; refine (H9.out _).mono ?_; rintro e w1 ⟨rfl, rfl⟩) | fail)
  go_ret2
  exact ⟨_, rfl, (RdN.nil 0 _).rd, (RdN.nil 0 w1).nilC, Below.refl _ _⟩
set_option maxRecDepth 100000 in
set_option maxHeartbeats 8000000 in
theorem rerr_34 (w : World) : Calls Tryz.prog 19 #[.int .i64 34] w fun e w' => ∃ u, e = .returned (.tuple #[u, .int .i64 0]) ∧ RdI w'.heap.size w' u [] ∧ Ru.NilC u ∧ Below w.heap.size w w' := by
  have HA := Lib.hid (fun W => rarity_any 34 W)
  rw [show arN 34 = 2 from rfl, show arE 34 = 0 from rfl] at HA
  have H9 := Lib.hid (fun W => Sc.rarity_any 34 W)
  rw [show Sc.arV 34 = 0 by decide, show Sc.arE 34 = 2 by decide] at H9
  go_enter Tryz.func19, Tryz.ntmps19
  go_wp2_with (first | (go_at_call 17; refine (HA.out _).mono ?_; rintro e w1 ⟨rfl, rfl⟩) | (go_at_call 34; refine (H9.out _).mono ?_; rintro e w1 ⟨rfl, rfl⟩) | fail)
  go_ret2
  exact ⟨_, rfl, (RdN.nil 0 _).rd, (RdN.nil 0 w1).nilC, Below.refl _ _⟩
set_option maxRecDepth 100000 in
set_option maxHeartbeats 8000000 in
theorem rerr_35 (w : World) : Calls Tryz.prog 19 #[.int .i64 35] w fun e w' => ∃ u, e = .returned (.tuple #[u, .int .i64 0]) ∧ RdI w'.heap.size w' u [13, 15] ∧ Ru.NilC u ∧ Below w.heap.size w w' := by
  have HA := Lib.hid (fun W => rarity_any 35 W)
  rw [show arN 35 = 2 from rfl, show arE 35 = 0 from rfl] at HA
  have H9 := Lib.hid (fun W => Sc.rarity_any 35 W)
  rw [show Sc.arV 35 = 0 by decide, show Sc.arE 35 = 2 by decide] at H9
  go_enter Tryz.func19, Tryz.ntmps19
  go_wp2_with (first | (go_at_call 17; refine (HA.out _).mono ?_; rintro e w1 ⟨rfl, rfl⟩) | (go_at_call 34; refine (H9.out _).mono ?_; rintro e w1 ⟨rfl, rfl⟩) | fail)
  go_ret2
  exact ⟨_, rfl, blk_rdE _ [13, 15] (by decide) _ rfl (by decide), nil_some _ _ _, bel1 _ _⟩
set_option maxRecDepth 100000 in
set_option maxHeartbeats 8000000 in
theorem rerr_36 (w : World) : Calls Tryz.prog 19 #[.int .i64 36] w fun e w' => ∃ u, e = .returned (.tuple #[u, .int .i64 0]) ∧ RdI w'.heap.size w' u [11, 13, 15] ∧ Ru.NilC u ∧ Below w.heap.size w w' := by
  have HA := Lib.hid (fun W => rarity_any 36 W)
  rw [show arN 36 = 2 from rfl, show arE 36 = 0 from rfl] at HA
  have H9 := Lib.hid (fun W => Sc.rarity_any 36 W)
  rw [show Sc.arV 36 = 0 by decide, show Sc.arE 36 = 2 by decide] at H9
  go_enter Tryz.func19, Tryz.ntmps19
  go_wp2_with (first | (go_at_call 17; refine (HA.out _).mono ?_; rintro e w1 ⟨rfl, rfl⟩) | (go_at_call 34; refine (H9.out _).mono ?_; rintro e w1 ⟨rfl, rfl⟩) | fail)
  go_ret2
  exact ⟨_, rfl, blk_rdE _ [11, 13, 15] (by decide) _ rfl (by decide), nil_some _ _ _, bel1 _ _⟩
set_option maxRecDepth 100000 in
set_option maxHeartbeats 8000000 in
theorem rerr_37 (w : World) : Calls Tryz.prog 19 #[.int .i64 37] w fun e w' => ∃ u, e = .returned (.tuple #[u, .int .i64 0]) ∧ RdI w'.heap.size w' u [11, 15] ∧ Ru.NilC u ∧ Below w.heap.size w w' := by
  have HA := Lib.hid (fun W => rarity_any 37 W)
  rw [show arN 37 = 2 from rfl, show arE 37 = 0 from rfl] at HA
  have H9 := Lib.hid (fun W => Sc.rarity_any 37 W)
  rw [show Sc.arV 37 = 0 by decide, show Sc.arE 37 = 2 by decide] at H9
  go_enter Tryz.func19, Tryz.ntmps19
  go_wp2_with (first | (go_at_call 17; refine (HA.out _).mono ?_; rintro e w1 ⟨rfl, rfl⟩) | (go_at_call 34; refine (H9.out _).mono ?_; rintro e w1 ⟨rfl, rfl⟩) | fail)
  go_ret2
  exact ⟨_, rfl, blk_rdE _ [11, 15] (by decide) _ rfl (by decide), nil_some _ _ _, bel1 _ _⟩
set_option maxRecDepth 100000 in
set_option maxHeartbeats 8000000 in
theorem rerr_38 (w : World) : Calls Tryz.prog 19 #[.int .i64 38] w fun e w' => ∃ u, e = .returned (.tuple #[u, .int .i64 0]) ∧ RdI w'.heap.size w' u [14] ∧ Ru.NilC u ∧ Below w.heap.size w w' := by
  have HA := Lib.hid (fun W => rarity_any 38 W)
  rw [show arN 38 = 2 from rfl, show arE 38 = 0 from rfl] at HA
  have H9 := Lib.hid (fun W => Sc.rarity_any 38 W)
  rw [show Sc.arV 38 = 0 by decide, show Sc.arE 38 = 2 by decide] at H9
  go_enter Tryz.func19, Tryz.ntmps19
  go_wp2_with (first | (go_at_call 17; refine (HA.out _).mono ?_; rintro e w1 ⟨rfl, rfl⟩) | (go_at_call 34; refine (H9.out _).mono ?_; rintro e w1 ⟨rfl, rfl⟩) | fail)
  go_ret2
  exact ⟨_, rfl, blk_rdE _ [14] (by decide) _ rfl (by decide), nil_some _ _ _, bel1 _ _⟩
set_option maxRecDepth 100000 in
set_option maxHeartbeats 8000000 in
theorem rerr_39 (w : World) : Calls Tryz.prog 19 #[.int .i64 39] w fun e w' => ∃ u, e = .returned (.tuple #[u, .int .i64 0]) ∧ RdI w'.heap.size w' u [] ∧ Ru.NilC u ∧ Below w.heap.size w w' := by
  have HA := Lib.hid (fun W => rarity_any 39 W)
  rw [show arN 39 = 2 from rfl, show arE 39 = 0 from rfl] at HA
  have H9 := Lib.hid (fun W => Sc.rarity_any 39 W)
  rw [show Sc.arV 39 = 0 by decide, show Sc.arE 39 = 2 by decide] at H9
  go_enter Tryz.func19, Tryz.ntmps19
  go_wp2_with (first | (go_at_call 17; refine (HA.out _).mono ?_; rintro e w1 ⟨rfl, rfl⟩) | (go_at_call 34; refine (H9.out _).mono ?_; rintro e w1 ⟨rfl, rfl⟩) | fail)
  go_ret2
  exact ⟨_, rfl, (RdN.nil 0 _).rd, (RdN.nil 0 w1).nilC, Below.refl _ _⟩
set_option maxRecDepth 100000 in
set_option maxHeartbeats 8000000 in
theorem rerr_40 (w : World) : Calls Tryz.prog 19 #[.int .i64 40] w fun e w' => ∃ u, e = .returned (.tuple #[u, .int .i64 0]) ∧ RdI w'.heap.size w' u [11] ∧ Ru.NilC u ∧ Below w.heap.size w w' := by
  have HA := Lib.hid (fun W => rarity_any 40 W)
  rw [show arN 40 = 2 from rfl, show arE 40 = 0 from rfl] at HA
  have H9 := Lib.hid (fun W => Sc.rarity_any 40 W)
  rw [show Sc.arV 40 = 0 by decide, show Sc.arE 40 = 2 by decide] at H9
  go_enter Tryz.func19, Tryz.ntmps19
  go_wp2_with (first | (go_at_call 17; refine (HA.out _).mono ?_; rintro e w1 ⟨rfl, rfl⟩) | (go_at_call 34; refine (H9.out _).mono ?_; rintro e w1 ⟨rfl, rfl⟩) | fail)
  go_ret2
  exact ⟨_, rfl, blk_rdE _ [11] (by decide) _ rfl (by decide), nil_some _ _ _, bel1 _ _⟩
set_option maxRecDepth 100000 in
set_option maxHeartbeats 8000000 in
theorem rerrors_any (p : Int) (w : World) :
    Calls Tryz.prog 19 #[.int .i64 p] w fun e w' => ∃ u, e = .returned (.tuple #[u, .int .i64 (arE p)]) ∧ RdI w'.heap.size w' u (erL p) ∧ Ru.NilC u ∧ Below w.heap.size w w' := by
  by_cases h : p < 1 ∨ 40 < p
  · rw [show erL p = [] from if_pos h, show arE p = 2 from if_pos h]
    have HA : Hid (∀ W, Calls Tryz.prog 17 #[.int .i64 p] W fun e w' => e = .returned (.tuple #[.int .i64 0, .int .i64 2]) ∧ w' = W) := fun W => by
      have h2 := rarity_any p W
      rwa [show arN p = 0 from if_pos h, show arE p = 2 from if_pos h] at h2
    clear h
    go_enter Tryz.func19, Tryz.ntmps19
    go_wp2_with (go_at_call 17; refine (HA.out _).mono ?_; rintro e w1 ⟨rfl, rfl⟩)
    go_ret2
    exact ⟨_, rfl, (RdN.nil 0 _).rd, (RdN.nil 0 w1).nilC, Below.refl _ _⟩
  · rw [show erL p = erN p.toNat from if_neg h, show arE p = 0 from if_neg h]
    obtain ⟨q, hq⟩ : ∃ q : Nat, p = (q : Int) := ⟨p.toNat, by omega⟩
    subst hq
    rw [Int.toNat_natCast]
    have h1 : 1 ≤ q := by omega
    have h2 : q < 41 := by omega
    clear h
    match q, h1, h2 with
    | 1, _, _ => exact rerr_1 w
    | 2, _, _ => exact rerr_2 w
    | 3, _, _ => exact rerr_3 w
    | 4, _, _ => exact rerr_4 w
    | 5, _, _ => exact rerr_5 w
    | 6, _, _ => exact rerr_6 w
    | 7, _, _ => exact rerr_7 w
    | 8, _, _ => exact rerr_8 w
    | 9, _, _ => exact rerr_9 w
    | 10, _, _ => exact rerr_10 w
    | 11, _, _ => exact rerr_11 w
    | 12, _, _ => exact rerr_12 w
    | 13, _, _ => exact rerr_13 w
    | 14, _, _ => exact rerr_14 w
    | 15, _, _ => exact rerr_15 w
    | 16, _, _ => exact rerr_16 w
    | 17, _, _ => exact rerr_17 w
    | 18, _, _ => exact rerr_18 w
    | 19, _, _ => exact rerr_19 w
    | 20, _, _ => exact rerr_20 w
    | 21, _, _ => exact rerr_21 w
    | 22, _, _ => exact rerr_22 w
    | 23, _, _ => exact rerr_23 w
    | 24, _, _ => exact rerr_24 w
    | 25, _, _ => exact rerr_25 w
    | 26, _, _ => exact rerr_26 w
    | 27, _, _ => exact rerr_27 w
    | 28, _, _ => exact rerr_28 w
    | 29, _, _ => exact rerr_29 w
    | 30, _, _ => exact rerr_30 w
    | 31, _, _ => exact rerr_31 w
    | 32, _, _ => exact rerr_32 w
    | 33, _, _ => exact rerr_33 w
    | 34, _, _ => exact rerr_34 w
    | 35, _, _ => exact rerr_35 w
    | 36, _, _ => exact rerr_36 w
    | 37, _, _ => exact rerr_37 w
    | 38, _, _ => exact rerr_38 w
    | 39, _, _ => exact rerr_39 w
    | 40, _, _ => exact rerr_40 w
    | 0, h, _ => exact absurd h (by omega)
    | n + 41, _, h => exact absurd h (by omega)
end Go.Proofs.YtpbfbejckhbijaaGreatDoor
