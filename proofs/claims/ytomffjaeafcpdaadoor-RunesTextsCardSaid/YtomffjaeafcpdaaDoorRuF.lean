/- FullRune. -/
import Derived.Test.YtomffjaeafcpdaaDoorRuL
import Derived.Test.YtomffjaeafcpdaaDoorRuM
import Derived.Deep.QuietTactic
import Derived.BigQuiet
import Derived.Laws.BitsLemmas
namespace Go.Proofs.YtomffjaeafcpdaaDoor
open Go.RowKit

set_option maxRecDepth 100000
theorem firstT_cases (b : Nat) : Lib.firstT b = 240 ∨ Lib.firstT b = 241 ∨ Lib.firstT b = 2 ∨ Lib.firstT b = 19 ∨ Lib.firstT b = 3 ∨ Lib.firstT b = 35 ∨ Lib.firstT b = 52 ∨ Lib.firstT b = 4 ∨ Lib.firstT b = 68 := by
  unfold Lib.firstT
  repeat' split
  all_goals simp

set_option maxHeartbeats 4000000 in
/-- Enough bytes. -/
theorem full_ge (n b off cap x0 X : Nat) (w : World) (hw : Lay w) (hX : Lib.firstT x0 = X) (hx : x0 < 256) (hn : 1 ≤ n) (hge : X % 8 ≤ n) (hX2 : X < 256)
    (h0 : w.cell? ⟨b, off, none⟩ = some (.int .u8 x0)) :
    Calls Tryd.prog 30 #[.slice (some ⟨b, off, none⟩) n cap] w fun e w' => e = .returned (.bool true) ∧ Below w.heap.size w w' := by
  have hc0 := hw.first x0 hx
  rw [hX] at hc0
  have hne : ((n : Int) == 0) = false := by rw [beq_eq_false_iff_ne]; omega
  have hmm : bits BinOp.and IntKind.u8 (X : Int) 7 = (X : Int) % 8 := bits_mask .u8 8 (by decide) wraps_u8 3 (by decide) _ (by omega) (by omega)
  have hle : (X : Int) % 8 ≤ (n : Int) := by omega
  clear hX hw hX2
  go_enter Tryd.func30, Tryd.ntmps30
  go_wp2
  all_goals (go_ret; exact ⟨rfl, Below.refl _ _⟩)

set_option maxHeartbeats 4000000 in
/-- One byte, of a rune with more. -/
theorem full_1 (b off cap x0 X : Nat) (w : World) (hw : Lay w) (hX : Lib.firstT x0 = X) (hx : x0 < 256) (hge : 1 < X % 8) (hX2 : X < 256)
    (h0 : w.cell? ⟨b, off, none⟩ = some (.int .u8 x0)) :
    Calls Tryd.prog 30 #[.slice (some ⟨b, off, none⟩) 1 cap] w fun e w' => e = .returned (.bool false) ∧ Below w.heap.size w w' := by
  have hc0 := hw.first x0 hx
  rw [hX] at hc0
  have hmm : bits BinOp.and IntKind.u8 (X : Int) 7 = (X : Int) % 8 := bits_mask .u8 8 (by decide) wraps_u8 3 (by decide) _ (by omega) (by omega)
  have hq0 : (0 : Int) ≤ (X : Int) / 16 := by omega
  have hq1 : (X : Int) / 16 < 16 := by omega
  obtain ⟨ha0, ha1⟩ := hw.acc (X / 16) (by omega)
  rw [Nat.mul_comm] at ha0 ha1
  obtain ⟨lo, hlo⟩ : ∃ lo, Lib.accLo (X / 16) = lo := ⟨_, rfl⟩
  obtain ⟨hh, hhi⟩ : ∃ hh, Lib.accHi (X / 16) = hh := ⟨_, rfl⟩
  rw [hlo] at ha0
  rw [hhi] at ha1
  have hqn : ((X : Int) / 16).toNat = X / 16 := by omega
  have hle : ¬ (X : Int) % 8 ≤ 1 := by omega
  clear hX hw hX2 hlo hhi
  go_enter Tryd.func30, Tryd.ntmps30
  go_wp2_with fail
  go_quiet (fail)
  go_wp2
  all_goals (go_ret; exact ⟨rfl, below_drewN ((Below.refl _ _).alloc (Nat.le_refl _) _) _⟩)

set_option maxHeartbeats 4000000 in
theorem full_2 (b off cap x0 x1 X : Nat) (w : World) (hw : Lay w) (hb : b < w.heap.size) (hX : Lib.firstT x0 = X) (hx : x0 < 256) (hge : 2 < X % 8) (hX2 : X < 256) (HC : ¬ (x1 < Lib.accLo (X / 16)) ∧ ¬ (Lib.accHi (X / 16) < x1))
    (h0 : w.cell? ⟨b, off, none⟩ = some (.int .u8 x0)) (h1 : w.cell? ⟨b, off + 1, none⟩ = some (.int .u8 x1)) :
    Calls Tryd.prog 30 #[.slice (some ⟨b, off, none⟩) 2 cap] w fun e w' => e = .returned (.bool false) ∧ Below w.heap.size w w' := by
  have hc0 := hw.first x0 hx
  rw [hX] at hc0
  have hmm : bits BinOp.and IntKind.u8 (X : Int) 7 = (X : Int) % 8 := bits_mask .u8 8 (by decide) wraps_u8 3 (by decide) _ (by omega) (by omega)
  have hq0 : (0 : Int) ≤ (X : Int) / 16 := by omega
  have hq1 : (X : Int) / 16 < 16 := by omega
  obtain ⟨ha0, ha1⟩ := hw.acc (X / 16) (by omega)
  rw [Nat.mul_comm] at ha0 ha1
  obtain ⟨lo, hlo⟩ : ∃ lo, Lib.accLo (X / 16) = lo := ⟨_, rfl⟩
  obtain ⟨hh, hhi⟩ : ∃ hh, Lib.accHi (X / 16) = hh := ⟨_, rfl⟩
  rw [hlo] at ha0 HC
  rw [hhi] at ha1 HC
  have hqn : ((X : Int) / 16).toNat = X / 16 := by omega
  have hle : ¬ (X : Int) % 8 ≤ 2 := by omega
  have d1 : decide (x1 < lo) = false := decide_eq_false (by omega)
  have d2 : decide (hh < x1) = false := decide_eq_false (by omega)
  clear hX hw hX2 hlo hhi HC
  go_enter Tryd.func30, Tryd.ntmps30
  go_wp2_with fail
  go_quiet (fail)
  go_wp2
  all_goals (go_ret; exact ⟨rfl, below_drewN ((Below.refl _ _).alloc (Nat.le_refl _) _) _⟩)
set_option maxHeartbeats 4000000 in
theorem full_2l (b off cap x0 x1 X : Nat) (w : World) (hw : Lay w) (hb : b < w.heap.size) (hX : Lib.firstT x0 = X) (hx : x0 < 256) (hge : 2 < X % 8) (hX2 : X < 256) (HC : x1 < Lib.accLo (X / 16))
    (h0 : w.cell? ⟨b, off, none⟩ = some (.int .u8 x0)) (h1 : w.cell? ⟨b, off + 1, none⟩ = some (.int .u8 x1)) :
    Calls Tryd.prog 30 #[.slice (some ⟨b, off, none⟩) 2 cap] w fun e w' => e = .returned (.bool true) ∧ Below w.heap.size w w' := by
  have hc0 := hw.first x0 hx
  rw [hX] at hc0
  have hmm : bits BinOp.and IntKind.u8 (X : Int) 7 = (X : Int) % 8 := bits_mask .u8 8 (by decide) wraps_u8 3 (by decide) _ (by omega) (by omega)
  have hq0 : (0 : Int) ≤ (X : Int) / 16 := by omega
  have hq1 : (X : Int) / 16 < 16 := by omega
  obtain ⟨ha0, ha1⟩ := hw.acc (X / 16) (by omega)
  rw [Nat.mul_comm] at ha0 ha1
  obtain ⟨lo, hlo⟩ : ∃ lo, Lib.accLo (X / 16) = lo := ⟨_, rfl⟩
  obtain ⟨hh, hhi⟩ : ∃ hh, Lib.accHi (X / 16) = hh := ⟨_, rfl⟩
  rw [hlo] at ha0 HC
  rw [hhi] at ha1
  have hqn : ((X : Int) / 16).toNat = X / 16 := by omega
  have hle : ¬ (X : Int) % 8 ≤ 2 := by omega
  have d1 : decide (x1 < lo) = true := decide_eq_true (by omega)
  clear hX hw hX2 hlo hhi HC
  go_enter Tryd.func30, Tryd.ntmps30
  go_wp2_with fail
  go_quiet (fail)
  go_wp2
  all_goals (go_ret; exact ⟨rfl, below_drewN ((Below.refl _ _).alloc (Nat.le_refl _) _) _⟩)
set_option maxHeartbeats 4000000 in
theorem full_2h (b off cap x0 x1 X : Nat) (w : World) (hw : Lay w) (hb : b < w.heap.size) (hX : Lib.firstT x0 = X) (hx : x0 < 256) (hge : 2 < X % 8) (hX2 : X < 256) (HC : ¬ (x1 < Lib.accLo (X / 16)) ∧ Lib.accHi (X / 16) < x1)
    (h0 : w.cell? ⟨b, off, none⟩ = some (.int .u8 x0)) (h1 : w.cell? ⟨b, off + 1, none⟩ = some (.int .u8 x1)) :
    Calls Tryd.prog 30 #[.slice (some ⟨b, off, none⟩) 2 cap] w fun e w' => e = .returned (.bool true) ∧ Below w.heap.size w w' := by
  have hc0 := hw.first x0 hx
  rw [hX] at hc0
  have hmm : bits BinOp.and IntKind.u8 (X : Int) 7 = (X : Int) % 8 := bits_mask .u8 8 (by decide) wraps_u8 3 (by decide) _ (by omega) (by omega)
  have hq0 : (0 : Int) ≤ (X : Int) / 16 := by omega
  have hq1 : (X : Int) / 16 < 16 := by omega
  obtain ⟨ha0, ha1⟩ := hw.acc (X / 16) (by omega)
  rw [Nat.mul_comm] at ha0 ha1
  obtain ⟨lo, hlo⟩ : ∃ lo, Lib.accLo (X / 16) = lo := ⟨_, rfl⟩
  obtain ⟨hh, hhi⟩ : ∃ hh, Lib.accHi (X / 16) = hh := ⟨_, rfl⟩
  rw [hlo] at ha0 HC
  rw [hhi] at ha1 HC
  have hqn : ((X : Int) / 16).toNat = X / 16 := by omega
  have hle : ¬ (X : Int) % 8 ≤ 2 := by omega
  have d1 : decide (x1 < lo) = false := decide_eq_false (by omega)
  have d2 : decide (hh < x1) = true := decide_eq_true (by omega)
  clear hX hw hX2 hlo hhi HC
  go_enter Tryd.func30, Tryd.ntmps30
  go_wp2_with fail
  go_quiet (fail)
  go_wp2
  all_goals (go_ret; exact ⟨rfl, below_drewN ((Below.refl _ _).alloc (Nat.le_refl _) _) _⟩)
set_option maxHeartbeats 4000000 in
theorem full_3 (b off cap x0 x1 x2 X : Nat) (w : World) (hw : Lay w) (hb : b < w.heap.size) (hX : Lib.firstT x0 = X) (hx : x0 < 256) (hge : 3 < X % 8) (hX2 : X < 256) (HC : ¬ (x1 < Lib.accLo (X / 16)) ∧ ¬ (Lib.accHi (X / 16) < x1))
    (h0 : w.cell? ⟨b, off, none⟩ = some (.int .u8 x0)) (h1 : w.cell? ⟨b, off + 1, none⟩ = some (.int .u8 x1)) (h2 : w.cell? ⟨b, off + 2, none⟩ = some (.int .u8 x2)) (hq2 : ¬ (x2 : Int) < 128) (hq3 : ¬ (191 : Int) < (x2 : Int)) :
    Calls Tryd.prog 30 #[.slice (some ⟨b, off, none⟩) 3 cap] w fun e w' => e = .returned (.bool false) ∧ Below w.heap.size w w' := by
  have hc0 := hw.first x0 hx
  rw [hX] at hc0
  have hmm : bits BinOp.and IntKind.u8 (X : Int) 7 = (X : Int) % 8 := bits_mask .u8 8 (by decide) wraps_u8 3 (by decide) _ (by omega) (by omega)
  have hq0 : (0 : Int) ≤ (X : Int) / 16 := by omega
  have hq1 : (X : Int) / 16 < 16 := by omega
  obtain ⟨ha0, ha1⟩ := hw.acc (X / 16) (by omega)
  rw [Nat.mul_comm] at ha0 ha1
  obtain ⟨lo, hlo⟩ : ∃ lo, Lib.accLo (X / 16) = lo := ⟨_, rfl⟩
  obtain ⟨hh, hhi⟩ : ∃ hh, Lib.accHi (X / 16) = hh := ⟨_, rfl⟩
  rw [hlo] at ha0 HC
  rw [hhi] at ha1 HC
  have hqn : ((X : Int) / 16).toNat = X / 16 := by omega
  have hle : ¬ (X : Int) % 8 ≤ 3 := by omega
  have d1 : decide (x1 < lo) = false := decide_eq_false (by omega)
  have d2 : decide (hh < x1) = false := decide_eq_false (by omega)
  clear hX hw hX2 hlo hhi HC
  go_enter Tryd.func30, Tryd.ntmps30
  go_wp2_with fail
  go_quiet (fail)
  go_wp2
  all_goals (go_ret; exact ⟨rfl, below_drewN ((Below.refl _ _).alloc (Nat.le_refl _) _) _⟩)
set_option maxHeartbeats 4000000 in
theorem full_3b (b off cap x0 x1 x2 X : Nat) (w : World) (hw : Lay w) (hb : b < w.heap.size) (hX : Lib.firstT x0 = X) (hx : x0 < 256) (hge : 3 < X % 8) (hX2 : X < 256) (HC : ¬ (x1 < Lib.accLo (X / 16)) ∧ ¬ (Lib.accHi (X / 16) < x1))
    (h0 : w.cell? ⟨b, off, none⟩ = some (.int .u8 x0)) (h1 : w.cell? ⟨b, off + 1, none⟩ = some (.int .u8 x1)) (h2 : w.cell? ⟨b, off + 2, none⟩ = some (.int .u8 x2)) (hq2 : (x2 : Int) < 128 ∨ (191 : Int) < (x2 : Int)) :
    Calls Tryd.prog 30 #[.slice (some ⟨b, off, none⟩) 3 cap] w fun e w' => e = .returned (.bool true) ∧ Below w.heap.size w w' := by
  have hc0 := hw.first x0 hx
  rw [hX] at hc0
  have hmm : bits BinOp.and IntKind.u8 (X : Int) 7 = (X : Int) % 8 := bits_mask .u8 8 (by decide) wraps_u8 3 (by decide) _ (by omega) (by omega)
  have hq0 : (0 : Int) ≤ (X : Int) / 16 := by omega
  have hq1 : (X : Int) / 16 < 16 := by omega
  obtain ⟨ha0, ha1⟩ := hw.acc (X / 16) (by omega)
  rw [Nat.mul_comm] at ha0 ha1
  obtain ⟨lo, hlo⟩ : ∃ lo, Lib.accLo (X / 16) = lo := ⟨_, rfl⟩
  obtain ⟨hh, hhi⟩ : ∃ hh, Lib.accHi (X / 16) = hh := ⟨_, rfl⟩
  rw [hlo] at ha0 HC
  rw [hhi] at ha1 HC
  have hqn : ((X : Int) / 16).toNat = X / 16 := by omega
  have hle : ¬ (X : Int) % 8 ≤ 3 := by omega
  have d1 : decide (x1 < lo) = false := decide_eq_false (by omega)
  have d2 : decide (hh < x1) = false := decide_eq_false (by omega)
  clear hX hw hX2 hlo hhi HC
  rcases hq2 with hq2 | hq2
  all_goals
    go_enter Tryd.func30, Tryd.ntmps30
    go_wp2_with fail
    go_quiet (fail)
    go_wp2
    all_goals (go_ret; exact ⟨rfl, below_drewN ((Below.refl _ _).alloc (Nat.le_refl _) _) _⟩)
set_option maxHeartbeats 4000000 in
theorem full_3l (b off cap x0 x1 X : Nat) (w : World) (hw : Lay w) (hb : b < w.heap.size) (hX : Lib.firstT x0 = X) (hx : x0 < 256) (hge : 3 < X % 8) (hX2 : X < 256) (HC : x1 < Lib.accLo (X / 16))
    (h0 : w.cell? ⟨b, off, none⟩ = some (.int .u8 x0)) (h1 : w.cell? ⟨b, off + 1, none⟩ = some (.int .u8 x1)) :
    Calls Tryd.prog 30 #[.slice (some ⟨b, off, none⟩) 3 cap] w fun e w' => e = .returned (.bool true) ∧ Below w.heap.size w w' := by
  have hc0 := hw.first x0 hx
  rw [hX] at hc0
  have hmm : bits BinOp.and IntKind.u8 (X : Int) 7 = (X : Int) % 8 := bits_mask .u8 8 (by decide) wraps_u8 3 (by decide) _ (by omega) (by omega)
  have hq0 : (0 : Int) ≤ (X : Int) / 16 := by omega
  have hq1 : (X : Int) / 16 < 16 := by omega
  obtain ⟨ha0, ha1⟩ := hw.acc (X / 16) (by omega)
  rw [Nat.mul_comm] at ha0 ha1
  obtain ⟨lo, hlo⟩ : ∃ lo, Lib.accLo (X / 16) = lo := ⟨_, rfl⟩
  obtain ⟨hh, hhi⟩ : ∃ hh, Lib.accHi (X / 16) = hh := ⟨_, rfl⟩
  rw [hlo] at ha0 HC
  rw [hhi] at ha1
  have hqn : ((X : Int) / 16).toNat = X / 16 := by omega
  have hle : ¬ (X : Int) % 8 ≤ 3 := by omega
  have d1 : decide (x1 < lo) = true := decide_eq_true (by omega)
  clear hX hw hX2 hlo hhi HC
  go_enter Tryd.func30, Tryd.ntmps30
  go_wp2_with fail
  go_quiet (fail)
  go_wp2
  all_goals (go_ret; exact ⟨rfl, below_drewN ((Below.refl _ _).alloc (Nat.le_refl _) _) _⟩)
set_option maxHeartbeats 4000000 in
theorem full_3h (b off cap x0 x1 X : Nat) (w : World) (hw : Lay w) (hb : b < w.heap.size) (hX : Lib.firstT x0 = X) (hx : x0 < 256) (hge : 3 < X % 8) (hX2 : X < 256) (HC : ¬ (x1 < Lib.accLo (X / 16)) ∧ Lib.accHi (X / 16) < x1)
    (h0 : w.cell? ⟨b, off, none⟩ = some (.int .u8 x0)) (h1 : w.cell? ⟨b, off + 1, none⟩ = some (.int .u8 x1)) :
    Calls Tryd.prog 30 #[.slice (some ⟨b, off, none⟩) 3 cap] w fun e w' => e = .returned (.bool true) ∧ Below w.heap.size w w' := by
  have hc0 := hw.first x0 hx
  rw [hX] at hc0
  have hmm : bits BinOp.and IntKind.u8 (X : Int) 7 = (X : Int) % 8 := bits_mask .u8 8 (by decide) wraps_u8 3 (by decide) _ (by omega) (by omega)
  have hq0 : (0 : Int) ≤ (X : Int) / 16 := by omega
  have hq1 : (X : Int) / 16 < 16 := by omega
  obtain ⟨ha0, ha1⟩ := hw.acc (X / 16) (by omega)
  rw [Nat.mul_comm] at ha0 ha1
  obtain ⟨lo, hlo⟩ : ∃ lo, Lib.accLo (X / 16) = lo := ⟨_, rfl⟩
  obtain ⟨hh, hhi⟩ : ∃ hh, Lib.accHi (X / 16) = hh := ⟨_, rfl⟩
  rw [hlo] at ha0 HC
  rw [hhi] at ha1 HC
  have hqn : ((X : Int) / 16).toNat = X / 16 := by omega
  have hle : ¬ (X : Int) % 8 ≤ 3 := by omega
  have d1 : decide (x1 < lo) = false := decide_eq_false (by omega)
  have d2 : decide (hh < x1) = true := decide_eq_true (by omega)
  clear hX hw hX2 hlo hhi HC
  go_enter Tryd.func30, Tryd.ntmps30
  go_wp2_with fail
  go_quiet (fail)
  go_wp2
  all_goals (go_ret; exact ⟨rfl, below_drewN ((Below.refl _ _).alloc (Nat.le_refl _) _) _⟩)
end Go.Proofs.YtomffjaeafcpdaaDoor
