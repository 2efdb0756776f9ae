/- The reference's one and Class. -/
import Derived.Test.YtomffjaeafcpdaaDoorRuQ
import Derived.Test.YtomffjaeafcpdaaDoorRfA
import Derived.Deep.LoopGhost
namespace Go.Proofs.YtomffjaeafcpdaaDoor
open Go.RowKit

set_option maxRecDepth 100000
theorem one_40 (r : Int) (w : World) : Calls Tryd.prog 37 #[.int .i64 r, .string ⟨#[40, 91]⟩] w fun e w' => e = .returned (.bool (decide (r = 40 ∨ r = 91))) ∧ w = w' := by
  have i0 : ∀ w, (Instr.index 9 (.string ⟨#[40, 91]⟩) (.int .i64 0)).run Tryd.prog w = .ok (.int .u8 40) w := fun _ => by kernel_rfl
  have i1 : ∀ w, (Instr.index 9 (.string ⟨#[40, 91]⟩) (.int .i64 1)).run Tryd.prog w = .ok (.int .u8 91) w := fun _ => by kernel_rfl
  by_cases h1 : r = 40
  · subst h1
    go_enter Tryd.func37, Tryd.ntmps37
    go_wp2_with fail
    refine wp_loop_rounds 4 ?_
    rw [rounds_succ]
    go_wp2_with fail
    go_ret
    exact ⟨ret_bool (by simp), rfl⟩
  · have d1 : ((40 : Int) == r) = false := by rw [beq_eq_false_iff_ne]; omega
    by_cases h2 : r = 91
    · subst h2
      go_enter Tryd.func37, Tryd.ntmps37
      go_wp2_with fail
      refine wp_loop_rounds 4 ?_
      rw [rounds_succ]
      go_wp2_with fail
      rw [rounds_succ]
      go_wp2_with fail
      go_ret
      exact ⟨ret_bool (by simp), rfl⟩
    · have d2 : ((91 : Int) == r) = false := by rw [beq_eq_false_iff_ne]; omega
      have HH : Hid (¬ (r = 40 ∨ r = 91)) := by unfold Hid; omega
      clear h1 h2
      go_enter Tryd.func37, Tryd.ntmps37
      go_wp2_with fail
      refine wp_loop_rounds 4 ?_
      rw [rounds_succ]
      go_wp2_with fail
      rw [rounds_succ]
      go_wp2_with fail
      rw [rounds_succ]
      go_wp2_with fail
      go_ret
      exact ⟨ret_bool (by simp; exact ⟨fun e => HH.out (.inl e), fun e => HH.out (.inr e)⟩), rfl⟩
theorem one_41 (r : Int) (w : World) : Calls Tryd.prog 37 #[.int .i64 r, .string ⟨#[41, 93]⟩] w fun e w' => e = .returned (.bool (decide (r = 41 ∨ r = 93))) ∧ w = w' := by
  have i0 : ∀ w, (Instr.index 9 (.string ⟨#[41, 93]⟩) (.int .i64 0)).run Tryd.prog w = .ok (.int .u8 41) w := fun _ => by kernel_rfl
  have i1 : ∀ w, (Instr.index 9 (.string ⟨#[41, 93]⟩) (.int .i64 1)).run Tryd.prog w = .ok (.int .u8 93) w := fun _ => by kernel_rfl
  by_cases h1 : r = 41
  · subst h1
    go_enter Tryd.func37, Tryd.ntmps37
    go_wp2_with fail
    refine wp_loop_rounds 4 ?_
    rw [rounds_succ]
    go_wp2_with fail
    go_ret
    exact ⟨ret_bool (by simp), rfl⟩
  · have d1 : ((41 : Int) == r) = false := by rw [beq_eq_false_iff_ne]; omega
    by_cases h2 : r = 93
    · subst h2
      go_enter Tryd.func37, Tryd.ntmps37
      go_wp2_with fail
      refine wp_loop_rounds 4 ?_
      rw [rounds_succ]
      go_wp2_with fail
      rw [rounds_succ]
      go_wp2_with fail
      go_ret
      exact ⟨ret_bool (by simp), rfl⟩
    · have d2 : ((93 : Int) == r) = false := by rw [beq_eq_false_iff_ne]; omega
      have HH : Hid (¬ (r = 41 ∨ r = 93)) := by unfold Hid; omega
      clear h1 h2
      go_enter Tryd.func37, Tryd.ntmps37
      go_wp2_with fail
      refine wp_loop_rounds 4 ?_
      rw [rounds_succ]
      go_wp2_with fail
      rw [rounds_succ]
      go_wp2_with fail
      rw [rounds_succ]
      go_wp2_with fail
      go_ret
      exact ⟨ret_bool (by simp; exact ⟨fun e => HH.out (.inl e), fun e => HH.out (.inr e)⟩), rfl⟩
theorem one_60 (r : Int) (w : World) : Calls Tryd.prog 37 #[.int .i64 r, .string ⟨#[60, 61]⟩] w fun e w' => e = .returned (.bool (decide (r = 60 ∨ r = 61))) ∧ w = w' := by
  have i0 : ∀ w, (Instr.index 9 (.string ⟨#[60, 61]⟩) (.int .i64 0)).run Tryd.prog w = .ok (.int .u8 60) w := fun _ => by kernel_rfl
  have i1 : ∀ w, (Instr.index 9 (.string ⟨#[60, 61]⟩) (.int .i64 1)).run Tryd.prog w = .ok (.int .u8 61) w := fun _ => by kernel_rfl
  by_cases h1 : r = 60
  · subst h1
    go_enter Tryd.func37, Tryd.ntmps37
    go_wp2_with fail
    refine wp_loop_rounds 4 ?_
    rw [rounds_succ]
    go_wp2_with fail
    go_ret
    exact ⟨ret_bool (by simp), rfl⟩
  · have d1 : ((60 : Int) == r) = false := by rw [beq_eq_false_iff_ne]; omega
    by_cases h2 : r = 61
    · subst h2
      go_enter Tryd.func37, Tryd.ntmps37
      go_wp2_with fail
      refine wp_loop_rounds 4 ?_
      rw [rounds_succ]
      go_wp2_with fail
      rw [rounds_succ]
      go_wp2_with fail
      go_ret
      exact ⟨ret_bool (by simp), rfl⟩
    · have d2 : ((61 : Int) == r) = false := by rw [beq_eq_false_iff_ne]; omega
      have HH : Hid (¬ (r = 60 ∨ r = 61)) := by unfold Hid; omega
      clear h1 h2
      go_enter Tryd.func37, Tryd.ntmps37
      go_wp2_with fail
      refine wp_loop_rounds 4 ?_
      rw [rounds_succ]
      go_wp2_with fail
      rw [rounds_succ]
      go_wp2_with fail
      rw [rounds_succ]
      go_wp2_with fail
      go_ret
      exact ⟨ret_bool (by simp; exact ⟨fun e => HH.out (.inl e), fun e => HH.out (.inr e)⟩), rfl⟩

/-- The class, by the definition. -/
def clR (r : Int) : Nat := if r = 32 then 1 else if r = 10 then 2 else if r = 40 ∨ r = 91 then 3 else if r = 41 ∨ r = 93 then 4 else if r = 34 then 5 else if 48 ≤ r ∧ r ≤ 57 then 6 else if r = 45 then 7 else if 97 ≤ r ∧ r ≤ 122 then 8 else if r = 60 ∨ r = 61 then 9 else 10
theorem clR_low : ∀ n, n < 128 → clsV ((n : Nat) : Int) = clR (n : Int) := by decide +kernel
theorem clR_eq (r : Int) (h : isR r = true) : clsV r = clR r := by
  have h0 : 0 ≤ r := by simp [isR] at h; omega
  obtain ⟨n, rfl⟩ : ∃ n : Nat, r = n := ⟨r.toNat, by omega⟩
  by_cases c : n < 128
  · exact clR_low n c
  · have hf : ∀ l ∈ memL, hasB l (n : Int) = false := fun l hl => by
      cases hb : hasB l (n : Int)
      · rfl
      · exfalso
        simp only [hasB, List.any_eq_true] at hb
        obtain ⟨b, hb1, hb2⟩ := hb
        have := memL_ascii l hl b hb1
        simp at hb2
        omega
    have hc : ∀ (ls : List (List UInt8)) (k : Nat), (∀ l ∈ ls, hasB l (n : Int) = false) → clsF ls k (n : Int) = k + ls.length := by
      intro ls
      induction ls with
      | nil => intro k _; rfl
      | cons l ls ih =>
        intro k hk
        have e := hk l (List.mem_cons_self ..)
        unfold clsF
        rw [e, if_neg (by decide), ih (k + 1) (fun x hx => hk x (List.mem_cons_of_mem _ hx))]
        simp; omega
    unfold clsV
    rw [hc memL 0 hf]
    unfold clR
    rw [if_neg (by omega), if_neg (by omega), if_neg (by omega), if_neg (by omega), if_neg (by omega), if_neg (by omega), if_neg (by omega), if_neg (by omega), if_neg (by omega)]
    rfl
set_option maxHeartbeats 4000000 in
theorem rclass_1 (r : Int) (w : World) (hr : isR r = true) (h : r = 32) :
    Calls Tryd.prog 12 #[.int .i64 r] w fun e w' => e = .returned (.tuple #[.int .i64 1, .int .i64 0]) ∧ w = w' := by
  have HI := fun W => rIs_any r W
  rw [hr] at HI
  have d0 : (r == 32) = true := by rw [beq_iff_eq]; omega
  clear hr h
  go_enter Tryd.func12, Tryd.ntmps12
  go_wp2_with (first
    | (go_at_call 35; refine (HI _).mono ?_; rintro e w' ⟨rfl, rfl⟩))
  go_ret2
  exact ⟨rfl, rfl⟩
set_option maxHeartbeats 4000000 in
theorem rclass_2 (r : Int) (w : World) (hr : isR r = true) (h : r = 10) :
    Calls Tryd.prog 12 #[.int .i64 r] w fun e w' => e = .returned (.tuple #[.int .i64 2, .int .i64 0]) ∧ w = w' := by
  have HI := fun W => rIs_any r W
  rw [hr] at HI
  have d0 : (r == 32) = false := by rw [beq_eq_false_iff_ne]; omega
  have d1 : (r == 10) = true := by rw [beq_iff_eq]; omega
  clear hr h
  go_enter Tryd.func12, Tryd.ntmps12
  go_wp2_with (first
    | (go_at_call 35; refine (HI _).mono ?_; rintro e w' ⟨rfl, rfl⟩))
  go_ret2
  exact ⟨rfl, rfl⟩
set_option maxHeartbeats 4000000 in
theorem rclass_3 (r : Int) (w : World) (hr : isR r = true) (h : r = 40 ∨ r = 91) :
    Calls Tryd.prog 12 #[.int .i64 r] w fun e w' => e = .returned (.tuple #[.int .i64 3, .int .i64 0]) ∧ w = w' := by
  have HI := fun W => rIs_any r W
  rw [hr] at HI
  have d0 : (r == 32) = false := by rw [beq_eq_false_iff_ne]; omega
  have d1 : (r == 10) = false := by rw [beq_eq_false_iff_ne]; omega
  have O40 := Lib.hid (fun W => one_40 r W)
  rw [show decide (r = 40 ∨ r = 91) = true from decide_eq_true (by omega)] at O40
  clear hr h
  go_enter Tryd.func12, Tryd.ntmps12
  go_wp2_with (first
    | (go_at_call 35; refine (HI _).mono ?_; rintro e w' ⟨rfl, rfl⟩)
    | (go_at_call 37; ((with_reducible refine (O40.out _).mono ?_); rintro e w' ⟨rfl, rfl⟩)))
  go_ret2
  exact ⟨rfl, rfl⟩
set_option maxHeartbeats 4000000 in
theorem rclass_4 (r : Int) (w : World) (hr : isR r = true) (h : r = 41 ∨ r = 93) :
    Calls Tryd.prog 12 #[.int .i64 r] w fun e w' => e = .returned (.tuple #[.int .i64 4, .int .i64 0]) ∧ w = w' := by
  have HI := fun W => rIs_any r W
  rw [hr] at HI
  have d0 : (r == 32) = false := by rw [beq_eq_false_iff_ne]; omega
  have d1 : (r == 10) = false := by rw [beq_eq_false_iff_ne]; omega
  have O40 := Lib.hid (fun W => one_40 r W)
  rw [show decide (r = 40 ∨ r = 91) = false from decide_eq_false (by omega)] at O40
  have O41 := Lib.hid (fun W => one_41 r W)
  rw [show decide (r = 41 ∨ r = 93) = true from decide_eq_true (by omega)] at O41
  clear hr h
  go_enter Tryd.func12, Tryd.ntmps12
  go_wp2_with (first
    | (go_at_call 35; refine (HI _).mono ?_; rintro e w' ⟨rfl, rfl⟩)
    | (go_at_call 37; ((with_reducible refine (O40.out _).mono ?_); rintro e w' ⟨rfl, rfl⟩))
    | (go_at_call 37; ((with_reducible refine (O41.out _).mono ?_); rintro e w' ⟨rfl, rfl⟩)))
  go_ret2
  exact ⟨rfl, rfl⟩
set_option maxHeartbeats 4000000 in
theorem rclass_5 (r : Int) (w : World) (hr : isR r = true) (h : r = 34) :
    Calls Tryd.prog 12 #[.int .i64 r] w fun e w' => e = .returned (.tuple #[.int .i64 5, .int .i64 0]) ∧ w = w' := by
  have HI := fun W => rIs_any r W
  rw [hr] at HI
  have d0 : (r == 32) = false := by rw [beq_eq_false_iff_ne]; omega
  have d1 : (r == 10) = false := by rw [beq_eq_false_iff_ne]; omega
  have O40 := Lib.hid (fun W => one_40 r W)
  rw [show decide (r = 40 ∨ r = 91) = false from decide_eq_false (by omega)] at O40
  have O41 := Lib.hid (fun W => one_41 r W)
  rw [show decide (r = 41 ∨ r = 93) = false from decide_eq_false (by omega)] at O41
  have d4 : (r == 34) = true := by rw [beq_iff_eq]; omega
  clear hr h
  go_enter Tryd.func12, Tryd.ntmps12
  go_wp2_with (first
    | (go_at_call 35; refine (HI _).mono ?_; rintro e w' ⟨rfl, rfl⟩)
    | (go_at_call 37; ((with_reducible refine (O40.out _).mono ?_); rintro e w' ⟨rfl, rfl⟩))
    | (go_at_call 37; ((with_reducible refine (O41.out _).mono ?_); rintro e w' ⟨rfl, rfl⟩)))
  go_ret2
  exact ⟨rfl, rfl⟩
set_option maxHeartbeats 4000000 in
theorem rclass_6 (r : Int) (w : World) (hr : isR r = true) (h : 48 ≤ r ∧ r ≤ 57) :
    Calls Tryd.prog 12 #[.int .i64 r] w fun e w' => e = .returned (.tuple #[.int .i64 6, .int .i64 0]) ∧ w = w' := by
  have HI := fun W => rIs_any r W
  rw [hr] at HI
  have d0 : (r == 32) = false := by rw [beq_eq_false_iff_ne]; omega
  have d1 : (r == 10) = false := by rw [beq_eq_false_iff_ne]; omega
  have O40 := Lib.hid (fun W => one_40 r W)
  rw [show decide (r = 40 ∨ r = 91) = false from decide_eq_false (by omega)] at O40
  have O41 := Lib.hid (fun W => one_41 r W)
  rw [show decide (r = 41 ∨ r = 93) = false from decide_eq_false (by omega)] at O41
  have d4 : (r == 34) = false := by rw [beq_eq_false_iff_ne]; omega
  have d5 : decide (48 ≤ r) = true := decide_eq_true (by omega)
  have e5 : decide (r ≤ 57) = true := decide_eq_true (by omega)
  clear hr h
  go_enter Tryd.func12, Tryd.ntmps12
  go_wp2_with (first
    | (go_at_call 35; refine (HI _).mono ?_; rintro e w' ⟨rfl, rfl⟩)
    | (go_at_call 37; ((with_reducible refine (O40.out _).mono ?_); rintro e w' ⟨rfl, rfl⟩))
    | (go_at_call 37; ((with_reducible refine (O41.out _).mono ?_); rintro e w' ⟨rfl, rfl⟩)))
  go_ret2
  exact ⟨rfl, rfl⟩
set_option maxHeartbeats 4000000 in
theorem rclass_7 (r : Int) (w : World) (hr : isR r = true) (h : r = 45) :
    Calls Tryd.prog 12 #[.int .i64 r] w fun e w' => e = .returned (.tuple #[.int .i64 7, .int .i64 0]) ∧ w = w' := by
  have HI := fun W => rIs_any r W
  rw [hr] at HI
  have d0 : (r == 32) = false := by rw [beq_eq_false_iff_ne]; omega
  have d1 : (r == 10) = false := by rw [beq_eq_false_iff_ne]; omega
  have O40 := Lib.hid (fun W => one_40 r W)
  rw [show decide (r = 40 ∨ r = 91) = false from decide_eq_false (by omega)] at O40
  have O41 := Lib.hid (fun W => one_41 r W)
  rw [show decide (r = 41 ∨ r = 93) = false from decide_eq_false (by omega)] at O41
  have d4 : (r == 34) = false := by rw [beq_eq_false_iff_ne]; omega
  have d5 : decide (48 ≤ r) = false := decide_eq_false (by omega)
  have d6 : (r == 45) = true := by rw [beq_iff_eq]; omega
  clear hr h
  go_enter Tryd.func12, Tryd.ntmps12
  go_wp2_with (first
    | (go_at_call 35; refine (HI _).mono ?_; rintro e w' ⟨rfl, rfl⟩)
    | (go_at_call 37; ((with_reducible refine (O40.out _).mono ?_); rintro e w' ⟨rfl, rfl⟩))
    | (go_at_call 37; ((with_reducible refine (O41.out _).mono ?_); rintro e w' ⟨rfl, rfl⟩)))
  go_ret2
  exact ⟨rfl, rfl⟩
set_option maxHeartbeats 4000000 in
theorem rclass_8 (r : Int) (w : World) (hr : isR r = true) (h : 97 ≤ r ∧ r ≤ 122) :
    Calls Tryd.prog 12 #[.int .i64 r] w fun e w' => e = .returned (.tuple #[.int .i64 8, .int .i64 0]) ∧ w = w' := by
  have HI := fun W => rIs_any r W
  rw [hr] at HI
  have d0 : (r == 32) = false := by rw [beq_eq_false_iff_ne]; omega
  have d1 : (r == 10) = false := by rw [beq_eq_false_iff_ne]; omega
  have O40 := Lib.hid (fun W => one_40 r W)
  rw [show decide (r = 40 ∨ r = 91) = false from decide_eq_false (by omega)] at O40
  have O41 := Lib.hid (fun W => one_41 r W)
  rw [show decide (r = 41 ∨ r = 93) = false from decide_eq_false (by omega)] at O41
  have d4 : (r == 34) = false := by rw [beq_eq_false_iff_ne]; omega
  have d5 : decide (48 ≤ r) = true := decide_eq_true (by omega)
  have e5 : decide (r ≤ 57) = false := decide_eq_false (by omega)
  have d6 : (r == 45) = false := by rw [beq_eq_false_iff_ne]; omega
  have d7 : decide (97 ≤ r) = true := decide_eq_true (by omega)
  have e7 : decide (r ≤ 122) = true := decide_eq_true (by omega)
  clear hr h
  go_enter Tryd.func12, Tryd.ntmps12
  go_wp2_with (first
    | (go_at_call 35; refine (HI _).mono ?_; rintro e w' ⟨rfl, rfl⟩)
    | (go_at_call 37; ((with_reducible refine (O40.out _).mono ?_); rintro e w' ⟨rfl, rfl⟩))
    | (go_at_call 37; ((with_reducible refine (O41.out _).mono ?_); rintro e w' ⟨rfl, rfl⟩)))
  go_ret2
  exact ⟨rfl, rfl⟩
set_option maxHeartbeats 4000000 in
theorem rclass_9 (r : Int) (w : World) (hr : isR r = true) (h : r = 60 ∨ r = 61) :
    Calls Tryd.prog 12 #[.int .i64 r] w fun e w' => e = .returned (.tuple #[.int .i64 9, .int .i64 0]) ∧ w = w' := by
  have HI := fun W => rIs_any r W
  rw [hr] at HI
  have d0 : (r == 32) = false := by rw [beq_eq_false_iff_ne]; omega
  have d1 : (r == 10) = false := by rw [beq_eq_false_iff_ne]; omega
  have O40 := Lib.hid (fun W => one_40 r W)
  rw [show decide (r = 40 ∨ r = 91) = false from decide_eq_false (by omega)] at O40
  have O41 := Lib.hid (fun W => one_41 r W)
  rw [show decide (r = 41 ∨ r = 93) = false from decide_eq_false (by omega)] at O41
  have d4 : (r == 34) = false := by rw [beq_eq_false_iff_ne]; omega
  have d5 : decide (48 ≤ r) = true := decide_eq_true (by omega)
  have e5 : decide (r ≤ 57) = false := decide_eq_false (by omega)
  have d6 : (r == 45) = false := by rw [beq_eq_false_iff_ne]; omega
  have d7 : decide (97 ≤ r) = false := decide_eq_false (by omega)
  have O60 := Lib.hid (fun W => one_60 r W)
  rw [show decide (r = 60 ∨ r = 61) = true from decide_eq_true (by omega)] at O60
  clear hr h
  go_enter Tryd.func12, Tryd.ntmps12
  go_wp2_with (first
    | (go_at_call 35; refine (HI _).mono ?_; rintro e w' ⟨rfl, rfl⟩)
    | (go_at_call 37; ((with_reducible refine (O40.out _).mono ?_); rintro e w' ⟨rfl, rfl⟩))
    | (go_at_call 37; ((with_reducible refine (O41.out _).mono ?_); rintro e w' ⟨rfl, rfl⟩))
    | (go_at_call 37; ((with_reducible refine (O60.out _).mono ?_); rintro e w' ⟨rfl, rfl⟩)))
  go_ret2
  exact ⟨rfl, rfl⟩
set_option maxHeartbeats 4000000 in
theorem rclass_a (r : Int) (w : World) (hr : isR r = true) (h : r < 48 ∧ ¬ (r = 32 ∨ r = 10 ∨ r = 40 ∨ r = 41 ∨ r = 34 ∨ r = 45)) :
    Calls Tryd.prog 12 #[.int .i64 r] w fun e w' => e = .returned (.tuple #[.int .i64 10, .int .i64 0]) ∧ w = w' := by
  have HI := fun W => rIs_any r W
  rw [hr] at HI
  have d0 : (r == 32) = false := by rw [beq_eq_false_iff_ne]; omega
  have d1 : (r == 10) = false := by rw [beq_eq_false_iff_ne]; omega
  have O40 := Lib.hid (fun W => one_40 r W)
  rw [show decide (r = 40 ∨ r = 91) = false from decide_eq_false (by omega)] at O40
  have O41 := Lib.hid (fun W => one_41 r W)
  rw [show decide (r = 41 ∨ r = 93) = false from decide_eq_false (by omega)] at O41
  have d4 : (r == 34) = false := by rw [beq_eq_false_iff_ne]; omega
  have d5 : decide (48 ≤ r) = false := decide_eq_false (by omega)
  have d6 : (r == 45) = false := by rw [beq_eq_false_iff_ne]; omega
  have d7 : decide (97 ≤ r) = false := decide_eq_false (by omega)
  have O60 := Lib.hid (fun W => one_60 r W)
  rw [show decide (r = 60 ∨ r = 61) = false from decide_eq_false (by omega)] at O60
  clear hr h
  go_enter Tryd.func12, Tryd.ntmps12
  go_wp2_with (first
    | (go_at_call 35; refine (HI _).mono ?_; rintro e w' ⟨rfl, rfl⟩)
    | (go_at_call 37; ((with_reducible refine (O40.out _).mono ?_); rintro e w' ⟨rfl, rfl⟩))
    | (go_at_call 37; ((with_reducible refine (O41.out _).mono ?_); rintro e w' ⟨rfl, rfl⟩))
    | (go_at_call 37; ((with_reducible refine (O60.out _).mono ?_); rintro e w' ⟨rfl, rfl⟩)))
  go_ret2
  exact ⟨rfl, rfl⟩
set_option maxHeartbeats 4000000 in
theorem rclass_b (r : Int) (w : World) (hr : isR r = true) (h : 57 < r ∧ r < 97 ∧ ¬ (r = 91 ∨ r = 93 ∨ r = 60 ∨ r = 61)) :
    Calls Tryd.prog 12 #[.int .i64 r] w fun e w' => e = .returned (.tuple #[.int .i64 10, .int .i64 0]) ∧ w = w' := by
  have HI := fun W => rIs_any r W
  rw [hr] at HI
  have d0 : (r == 32) = false := by rw [beq_eq_false_iff_ne]; omega
  have d1 : (r == 10) = false := by rw [beq_eq_false_iff_ne]; omega
  have O40 := Lib.hid (fun W => one_40 r W)
  rw [show decide (r = 40 ∨ r = 91) = false from decide_eq_false (by omega)] at O40
  have O41 := Lib.hid (fun W => one_41 r W)
  rw [show decide (r = 41 ∨ r = 93) = false from decide_eq_false (by omega)] at O41
  have d4 : (r == 34) = false := by rw [beq_eq_false_iff_ne]; omega
  have d5 : decide (48 ≤ r) = true := decide_eq_true (by omega)
  have e5 : decide (r ≤ 57) = false := decide_eq_false (by omega)
  have d6 : (r == 45) = false := by rw [beq_eq_false_iff_ne]; omega
  have d7 : decide (97 ≤ r) = false := decide_eq_false (by omega)
  have O60 := Lib.hid (fun W => one_60 r W)
  rw [show decide (r = 60 ∨ r = 61) = false from decide_eq_false (by omega)] at O60
  clear hr h
  go_enter Tryd.func12, Tryd.ntmps12
  go_wp2_with (first
    | (go_at_call 35; refine (HI _).mono ?_; rintro e w' ⟨rfl, rfl⟩)
    | (go_at_call 37; ((with_reducible refine (O40.out _).mono ?_); rintro e w' ⟨rfl, rfl⟩))
    | (go_at_call 37; ((with_reducible refine (O41.out _).mono ?_); rintro e w' ⟨rfl, rfl⟩))
    | (go_at_call 37; ((with_reducible refine (O60.out _).mono ?_); rintro e w' ⟨rfl, rfl⟩)))
  go_ret2
  exact ⟨rfl, rfl⟩
set_option maxHeartbeats 4000000 in
theorem rclass_c (r : Int) (w : World) (hr : isR r = true) (h : 122 < r) :
    Calls Tryd.prog 12 #[.int .i64 r] w fun e w' => e = .returned (.tuple #[.int .i64 10, .int .i64 0]) ∧ w = w' := by
  have HI := fun W => rIs_any r W
  rw [hr] at HI
  have d0 : (r == 32) = false := by rw [beq_eq_false_iff_ne]; omega
  have d1 : (r == 10) = false := by rw [beq_eq_false_iff_ne]; omega
  have O40 := Lib.hid (fun W => one_40 r W)
  rw [show decide (r = 40 ∨ r = 91) = false from decide_eq_false (by omega)] at O40
  have O41 := Lib.hid (fun W => one_41 r W)
  rw [show decide (r = 41 ∨ r = 93) = false from decide_eq_false (by omega)] at O41
  have d4 : (r == 34) = false := by rw [beq_eq_false_iff_ne]; omega
  have d5 : decide (48 ≤ r) = true := decide_eq_true (by omega)
  have e5 : decide (r ≤ 57) = false := decide_eq_false (by omega)
  have d6 : (r == 45) = false := by rw [beq_eq_false_iff_ne]; omega
  have d7 : decide (97 ≤ r) = true := decide_eq_true (by omega)
  have e7 : decide (r ≤ 122) = false := decide_eq_false (by omega)
  have O60 := Lib.hid (fun W => one_60 r W)
  rw [show decide (r = 60 ∨ r = 61) = false from decide_eq_false (by omega)] at O60
  clear hr h
  go_enter Tryd.func12, Tryd.ntmps12
  go_wp2_with (first
    | (go_at_call 35; refine (HI _).mono ?_; rintro e w' ⟨rfl, rfl⟩)
    | (go_at_call 37; ((with_reducible refine (O40.out _).mono ?_); rintro e w' ⟨rfl, rfl⟩))
    | (go_at_call 37; ((with_reducible refine (O41.out _).mono ?_); rintro e w' ⟨rfl, rfl⟩))
    | (go_at_call 37; ((with_reducible refine (O60.out _).mono ?_); rintro e w' ⟨rfl, rfl⟩)))
  go_ret2
  exact ⟨rfl, rfl⟩
theorem rclass_any (r : Int) (w : World) (hw : isR r = true) :
    Calls Tryd.prog 12 #[.int .i64 r] w fun e w' => e = .returned (.tuple #[.int .i64 ((clsV r : Nat) : Int), .int .i64 0]) ∧ w = w' := by
  rw [clR_eq r hw]
  by_cases t0 : r = 32
  · rw [show clR r = 1 by unfold clR; rw [if_pos t0]]; exact rclass_1 r w hw t0
  by_cases t1 : r = 10
  · rw [show clR r = 2 by unfold clR; rw [if_neg t0, if_pos t1]]; exact rclass_2 r w hw t1
  by_cases t2 : r = 40 ∨ r = 91
  · rw [show clR r = 3 by unfold clR; rw [if_neg t0, if_neg t1, if_pos t2]]; exact rclass_3 r w hw t2
  by_cases t3 : r = 41 ∨ r = 93
  · rw [show clR r = 4 by unfold clR; rw [if_neg t0, if_neg t1, if_neg t2, if_pos t3]]; exact rclass_4 r w hw t3
  by_cases t4 : r = 34
  · rw [show clR r = 5 by unfold clR; rw [if_neg t0, if_neg t1, if_neg t2, if_neg t3, if_pos t4]]; exact rclass_5 r w hw t4
  by_cases t5 : 48 ≤ r ∧ r ≤ 57
  · rw [show clR r = 6 by unfold clR; rw [if_neg t0, if_neg t1, if_neg t2, if_neg t3, if_neg t4, if_pos t5]]; exact rclass_6 r w hw t5
  by_cases t6 : r = 45
  · rw [show clR r = 7 by unfold clR; rw [if_neg t0, if_neg t1, if_neg t2, if_neg t3, if_neg t4, if_neg t5, if_pos t6]]; exact rclass_7 r w hw t6
  by_cases t7 : 97 ≤ r ∧ r ≤ 122
  · rw [show clR r = 8 by unfold clR; rw [if_neg t0, if_neg t1, if_neg t2, if_neg t3, if_neg t4, if_neg t5, if_neg t6, if_pos t7]]; exact rclass_8 r w hw t7
  by_cases t8 : r = 60 ∨ r = 61
  · rw [show clR r = 9 by unfold clR; rw [if_neg t0, if_neg t1, if_neg t2, if_neg t3, if_neg t4, if_neg t5, if_neg t6, if_neg t7, if_pos t8]]; exact rclass_9 r w hw t8
  rw [show clR r = 10 by unfold clR; rw [if_neg t0, if_neg t1, if_neg t2, if_neg t3, if_neg t4, if_neg t5, if_neg t6, if_neg t7, if_neg t8]]
  by_cases c : r < 48
  · exact rclass_a r w hw (by omega)
  · by_cases c2 : r < 97
    · exact rclass_b r w hw (by omega)
    · exact rclass_c r w hw (by omega)
set_option maxHeartbeats 400000 in
theorem rclass_bad (r : Int) (w : World) (hr : isR r = false) :
    Calls Tryd.prog 12 #[.int .i64 r] w fun e w' => e = .returned (.tuple #[.int .i64 0, .int .i64 7]) ∧ w = w' := by
  have HI := fun W => rIs_any r W
  rw [hr] at HI
  clear hr
  go_enter Tryd.func12, Tryd.ntmps12
  go_wp2_with (go_at_call 35; refine (HI _).mono ?_; rintro e w' ⟨rfl, rfl⟩)
  go_ret2
  exact ⟨rfl, rfl⟩
end Go.Proofs.YtomffjaeafcpdaaDoor
