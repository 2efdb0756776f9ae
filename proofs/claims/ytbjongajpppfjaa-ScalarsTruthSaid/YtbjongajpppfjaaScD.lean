/- One, Two, Arity, Overflows of the code. -/
import Derived.Test.YtbjongajpppfjaaScC
namespace Go.Proofs.Ytbjongajpppfjaa
open Go.RowKit

/-- What a primitive of two numbers returns: its number, its error. -/
def twoV (p x y : Int) : Int × Int :=
  if p = 15 then (fit (x + y), fitE (x + y)) else
  if p = 16 then (fit (x - y), fitE (x - y)) else
  if p = 17 then (fit (x * y), fitE (x * y)) else
  if p = 18 then (if y = 0 then (0, 13) else (fit (x.fdiv y), fitE (x.fdiv y))) else
  if p = 19 then (if y = 0 then (0, 13) else (x.fmod y, 0)) else
  if p = 20 then (clp (x + y), 0) else
  if p = 21 then (clp (x - y), 0) else
  if p = 22 then (clp (x * y), 0) else
  if p = 23 then (tr (x == y), 0) else
  if p = 24 then (tr (x != y), 0) else
  if p = 25 then (tr (decide (x < y)), 0) else
  if p = 26 then (tr (decide (x ≤ y)), 0) else
  if p = 27 then (tr (decide (y < x)), 0) else
  if p = 28 then (tr (decide (y ≤ x)), 0) else
  if p = 29 then (tr (x != 0 && y != 0), 0) else
  if p = 30 then (tr (x != 0 || y != 0), 0) else
  if p = 31 then (min x y, 0) else
  if p = 32 then (max x y, 0) else
  (0, 2)
def oneV (p x : Int) : Int × Int :=
  if p = 1 then (fit (-x), fitE (-x)) else
  if p = 2 then (if x < 0 then (fit (-x), fitE (-x)) else (x, 0)) else
  if p = 3 then (tr (x == 0), 0) else (0, 2)
/-- Of how many numbers a primitive is. -/
def arV (p : Int) : Int := if 1 ≤ p ∧ p ≤ 3 then 1 else if 15 ≤ p ∧ p ≤ 32 then 2 else 0
def arE (p : Int) : Int := if (1 ≤ p ∧ p ≤ 3) ∨ (15 ≤ p ∧ p ≤ 32) then 0 else 2
def ovV (p : Int) : Bool := decide (p = 1 ∨ p = 2 ∨ (15 ≤ p ∧ p ≤ 19))
theorem e_nil2 (w : World) : (Go.binOp .eql 42 .nilFunc .nilFunc).run Try.prog w = .ok (.bool true) w := rfl
theorem e_fun2 (k : FuncId) (w : World) : (Go.binOp .eql 42 (.func (.func k) #[] #[]) .nilFunc).run Try.prog w = .ok (.bool false) w := rfl
theorem e_nil1 (w : World) : (Go.binOp .eql 39 .nilFunc .nilFunc).run Try.prog w = .ok (.bool true) w := rfl
theorem e_fun1 (k : FuncId) (w : World) : (Go.binOp .eql 39 (.func (.func k) #[] #[]) .nilFunc).run Try.prog w = .ok (.bool false) w := rfl
theorem n_nil2 (w : World) : (Go.binOp .neq 42 .nilFunc .nilFunc).run Try.prog w = .ok (.bool false) w := rfl
theorem n_fun2 (k : FuncId) (w : World) : (Go.binOp .neq 42 (.func (.func k) #[] #[]) .nilFunc).run Try.prog w = .ok (.bool true) w := rfl
theorem n_nil1 (w : World) : (Go.binOp .neq 39 .nilFunc .nilFunc).run Try.prog w = .ok (.bool false) w := rfl
theorem n_fun1 (k : FuncId) (w : World) : (Go.binOp .neq 39 (.func (.func k) #[] #[]) .nilFunc).run Try.prog w = .ok (.bool true) w := rfl
theorem Below.step1 {n : Nat} {w w' : World} (h : Below n w w') : Below n w w' := h
set_option maxRecDepth 100000 in
set_option maxHeartbeats 4000000 in
theorem two_lo (p x y : Int) (w : World) (h : p < 0) :
    Calls Try.prog 18 #[.int .i64 p, .int .i64 x, .int .i64 y] w fun e w' => e = .returned (.tuple #[.int .i64 (0), .int .i64 (2)]) ∧ Below w.heap.size w w' := by
  have E0 := e_nil2
  have E1 := e_fun2
  go_enter Try.func18, Try.ntmps18
  go_wp2_with (first | (go_at_call 23; refine (ofTwo_lo p _ h).mono ?_; rintro e w' ⟨rfl, hb⟩))
  go_ret2
  exact ⟨rfl, hb⟩
set_option maxRecDepth 100000 in
set_option maxHeartbeats 4000000 in
theorem two_hi (p x y : Int) (w : World) (h : 33 ≤ p) :
    Calls Try.prog 18 #[.int .i64 p, .int .i64 x, .int .i64 y] w fun e w' => e = .returned (.tuple #[.int .i64 (0), .int .i64 (2)]) ∧ Below w.heap.size w w' := by
  have E0 := e_nil2
  have E1 := e_fun2
  go_enter Try.func18, Try.ntmps18
  go_wp2_with (first | (go_at_call 23; refine (ofTwo_hi p _ h).mono ?_; rintro e w' ⟨rfl, hb⟩))
  go_ret2
  exact ⟨rfl, hb⟩
set_option maxRecDepth 100000 in
set_option maxHeartbeats 4000000 in
theorem two_n0 (x y : Int) (w : World)  :
    Calls Try.prog 18 #[.int .i64 0, .int .i64 x, .int .i64 y] w fun e w' => e = .returned (.tuple #[.int .i64 (0), .int .i64 (2)]) ∧ Below w.heap.size w w' := by
  have E0 := e_nil2
  have E1 := e_fun2
  go_enter Try.func18, Try.ntmps18
  go_wp2_with (first | (go_at_call 23; refine (ofTwo_in 0 .nilFunc _ (by decide) rfl).mono ?_; rintro e w' ⟨rfl, hb⟩))
  go_ret2
  exact ⟨rfl, hb⟩
set_option maxRecDepth 100000 in
set_option maxHeartbeats 4000000 in
theorem two_n1 (x y : Int) (w : World)  :
    Calls Try.prog 18 #[.int .i64 1, .int .i64 x, .int .i64 y] w fun e w' => e = .returned (.tuple #[.int .i64 (0), .int .i64 (2)]) ∧ Below w.heap.size w w' := by
  have E0 := e_nil2
  have E1 := e_fun2
  go_enter Try.func18, Try.ntmps18
  go_wp2_with (first | (go_at_call 23; refine (ofTwo_in 1 .nilFunc _ (by decide) rfl).mono ?_; rintro e w' ⟨rfl, hb⟩))
  go_ret2
  exact ⟨rfl, hb⟩
set_option maxRecDepth 100000 in
set_option maxHeartbeats 4000000 in
theorem two_n2 (x y : Int) (w : World)  :
    Calls Try.prog 18 #[.int .i64 2, .int .i64 x, .int .i64 y] w fun e w' => e = .returned (.tuple #[.int .i64 (0), .int .i64 (2)]) ∧ Below w.heap.size w w' := by
  have E0 := e_nil2
  have E1 := e_fun2
  go_enter Try.func18, Try.ntmps18
  go_wp2_with (first | (go_at_call 23; refine (ofTwo_in 2 .nilFunc _ (by decide) rfl).mono ?_; rintro e w' ⟨rfl, hb⟩))
  go_ret2
  exact ⟨rfl, hb⟩
set_option maxRecDepth 100000 in
set_option maxHeartbeats 4000000 in
theorem two_n3 (x y : Int) (w : World)  :
    Calls Try.prog 18 #[.int .i64 3, .int .i64 x, .int .i64 y] w fun e w' => e = .returned (.tuple #[.int .i64 (0), .int .i64 (2)]) ∧ Below w.heap.size w w' := by
  have E0 := e_nil2
  have E1 := e_fun2
  go_enter Try.func18, Try.ntmps18
  go_wp2_with (first | (go_at_call 23; refine (ofTwo_in 3 .nilFunc _ (by decide) rfl).mono ?_; rintro e w' ⟨rfl, hb⟩))
  go_ret2
  exact ⟨rfl, hb⟩
set_option maxRecDepth 100000 in
set_option maxHeartbeats 4000000 in
theorem two_n4 (x y : Int) (w : World)  :
    Calls Try.prog 18 #[.int .i64 4, .int .i64 x, .int .i64 y] w fun e w' => e = .returned (.tuple #[.int .i64 (0), .int .i64 (2)]) ∧ Below w.heap.size w w' := by
  have E0 := e_nil2
  have E1 := e_fun2
  go_enter Try.func18, Try.ntmps18
  go_wp2_with (first | (go_at_call 23; refine (ofTwo_in 4 .nilFunc _ (by decide) rfl).mono ?_; rintro e w' ⟨rfl, hb⟩))
  go_ret2
  exact ⟨rfl, hb⟩
set_option maxRecDepth 100000 in
set_option maxHeartbeats 4000000 in
theorem two_n5 (x y : Int) (w : World)  :
    Calls Try.prog 18 #[.int .i64 5, .int .i64 x, .int .i64 y] w fun e w' => e = .returned (.tuple #[.int .i64 (0), .int .i64 (2)]) ∧ Below w.heap.size w w' := by
  have E0 := e_nil2
  have E1 := e_fun2
  go_enter Try.func18, Try.ntmps18
  go_wp2_with (first | (go_at_call 23; refine (ofTwo_in 5 .nilFunc _ (by decide) rfl).mono ?_; rintro e w' ⟨rfl, hb⟩))
  go_ret2
  exact ⟨rfl, hb⟩
set_option maxRecDepth 100000 in
set_option maxHeartbeats 4000000 in
theorem two_n6 (x y : Int) (w : World)  :
    Calls Try.prog 18 #[.int .i64 6, .int .i64 x, .int .i64 y] w fun e w' => e = .returned (.tuple #[.int .i64 (0), .int .i64 (2)]) ∧ Below w.heap.size w w' := by
  have E0 := e_nil2
  have E1 := e_fun2
  go_enter Try.func18, Try.ntmps18
  go_wp2_with (first | (go_at_call 23; refine (ofTwo_in 6 .nilFunc _ (by decide) rfl).mono ?_; rintro e w' ⟨rfl, hb⟩))
  go_ret2
  exact ⟨rfl, hb⟩
set_option maxRecDepth 100000 in
set_option maxHeartbeats 4000000 in
theorem two_n7 (x y : Int) (w : World)  :
    Calls Try.prog 18 #[.int .i64 7, .int .i64 x, .int .i64 y] w fun e w' => e = .returned (.tuple #[.int .i64 (0), .int .i64 (2)]) ∧ Below w.heap.size w w' := by
  have E0 := e_nil2
  have E1 := e_fun2
  go_enter Try.func18, Try.ntmps18
  go_wp2_with (first | (go_at_call 23; refine (ofTwo_in 7 .nilFunc _ (by decide) rfl).mono ?_; rintro e w' ⟨rfl, hb⟩))
  go_ret2
  exact ⟨rfl, hb⟩
set_option maxRecDepth 100000 in
set_option maxHeartbeats 4000000 in
theorem two_n8 (x y : Int) (w : World)  :
    Calls Try.prog 18 #[.int .i64 8, .int .i64 x, .int .i64 y] w fun e w' => e = .returned (.tuple #[.int .i64 (0), .int .i64 (2)]) ∧ Below w.heap.size w w' := by
  have E0 := e_nil2
  have E1 := e_fun2
  go_enter Try.func18, Try.ntmps18
  go_wp2_with (first | (go_at_call 23; refine (ofTwo_in 8 .nilFunc _ (by decide) rfl).mono ?_; rintro e w' ⟨rfl, hb⟩))
  go_ret2
  exact ⟨rfl, hb⟩
set_option maxRecDepth 100000 in
set_option maxHeartbeats 4000000 in
theorem two_n9 (x y : Int) (w : World)  :
    Calls Try.prog 18 #[.int .i64 9, .int .i64 x, .int .i64 y] w fun e w' => e = .returned (.tuple #[.int .i64 (0), .int .i64 (2)]) ∧ Below w.heap.size w w' := by
  have E0 := e_nil2
  have E1 := e_fun2
  go_enter Try.func18, Try.ntmps18
  go_wp2_with (first | (go_at_call 23; refine (ofTwo_in 9 .nilFunc _ (by decide) rfl).mono ?_; rintro e w' ⟨rfl, hb⟩))
  go_ret2
  exact ⟨rfl, hb⟩
set_option maxRecDepth 100000 in
set_option maxHeartbeats 4000000 in
theorem two_n10 (x y : Int) (w : World)  :
    Calls Try.prog 18 #[.int .i64 10, .int .i64 x, .int .i64 y] w fun e w' => e = .returned (.tuple #[.int .i64 (0), .int .i64 (2)]) ∧ Below w.heap.size w w' := by
  have E0 := e_nil2
  have E1 := e_fun2
  go_enter Try.func18, Try.ntmps18
  go_wp2_with (first | (go_at_call 23; refine (ofTwo_in 10 .nilFunc _ (by decide) rfl).mono ?_; rintro e w' ⟨rfl, hb⟩))
  go_ret2
  exact ⟨rfl, hb⟩
set_option maxRecDepth 100000 in
set_option maxHeartbeats 4000000 in
theorem two_n11 (x y : Int) (w : World)  :
    Calls Try.prog 18 #[.int .i64 11, .int .i64 x, .int .i64 y] w fun e w' => e = .returned (.tuple #[.int .i64 (0), .int .i64 (2)]) ∧ Below w.heap.size w w' := by
  have E0 := e_nil2
  have E1 := e_fun2
  go_enter Try.func18, Try.ntmps18
  go_wp2_with (first | (go_at_call 23; refine (ofTwo_in 11 .nilFunc _ (by decide) rfl).mono ?_; rintro e w' ⟨rfl, hb⟩))
  go_ret2
  exact ⟨rfl, hb⟩
set_option maxRecDepth 100000 in
set_option maxHeartbeats 4000000 in
theorem two_n12 (x y : Int) (w : World)  :
    Calls Try.prog 18 #[.int .i64 12, .int .i64 x, .int .i64 y] w fun e w' => e = .returned (.tuple #[.int .i64 (0), .int .i64 (2)]) ∧ Below w.heap.size w w' := by
  have E0 := e_nil2
  have E1 := e_fun2
  go_enter Try.func18, Try.ntmps18
  go_wp2_with (first | (go_at_call 23; refine (ofTwo_in 12 .nilFunc _ (by decide) rfl).mono ?_; rintro e w' ⟨rfl, hb⟩))
  go_ret2
  exact ⟨rfl, hb⟩
set_option maxRecDepth 100000 in
set_option maxHeartbeats 4000000 in
theorem two_n13 (x y : Int) (w : World)  :
    Calls Try.prog 18 #[.int .i64 13, .int .i64 x, .int .i64 y] w fun e w' => e = .returned (.tuple #[.int .i64 (0), .int .i64 (2)]) ∧ Below w.heap.size w w' := by
  have E0 := e_nil2
  have E1 := e_fun2
  go_enter Try.func18, Try.ntmps18
  go_wp2_with (first | (go_at_call 23; refine (ofTwo_in 13 .nilFunc _ (by decide) rfl).mono ?_; rintro e w' ⟨rfl, hb⟩))
  go_ret2
  exact ⟨rfl, hb⟩
set_option maxRecDepth 100000 in
set_option maxHeartbeats 4000000 in
theorem two_n14 (x y : Int) (w : World)  :
    Calls Try.prog 18 #[.int .i64 14, .int .i64 x, .int .i64 y] w fun e w' => e = .returned (.tuple #[.int .i64 (0), .int .i64 (2)]) ∧ Below w.heap.size w w' := by
  have E0 := e_nil2
  have E1 := e_fun2
  go_enter Try.func18, Try.ntmps18
  go_wp2_with (first | (go_at_call 23; refine (ofTwo_in 14 .nilFunc _ (by decide) rfl).mono ?_; rintro e w' ⟨rfl, hb⟩))
  go_ret2
  exact ⟨rfl, hb⟩
set_option maxRecDepth 100000 in
set_option maxHeartbeats 4000000 in
theorem two_15 (x y : Int) (w : World) (x0 : -9223372036854775808 ≤ x) (x1 : x ≤ 9223372036854775807) (y0 : -9223372036854775808 ≤ y) (y1 : y ≤ 9223372036854775807) :
    Calls Try.prog 18 #[.int .i64 15, .int .i64 x, .int .i64 y] w fun e w' => e = .returned (.tuple #[.int .i64 (fit (x + y)), .int .i64 (fitE (x + y))]) ∧ Below w.heap.size w w' := by
  have E0 := e_nil2
  have E1 := e_fun2
  go_enter Try.func18, Try.ntmps18
  go_wp2_with (first | (go_at_call 23; refine (ofTwo_in 15 (.func (.func 30) #[] #[]) _ (by decide) rfl).mono ?_; rintro e w' ⟨rfl, hb⟩) | (go_at_call 30; refine (add_any _ _ _ x0 x1 y0 y1).mono ?_; rintro e w'' ⟨rfl, rfl⟩))
  go_ret2
  exact ⟨rfl, hb⟩
set_option maxRecDepth 100000 in
set_option maxHeartbeats 4000000 in
theorem two_16 (x y : Int) (w : World) (x0 : -9223372036854775808 ≤ x) (x1 : x ≤ 9223372036854775807) (y0 : -9223372036854775808 ≤ y) (y1 : y ≤ 9223372036854775807) :
    Calls Try.prog 18 #[.int .i64 16, .int .i64 x, .int .i64 y] w fun e w' => e = .returned (.tuple #[.int .i64 (fit (x - y)), .int .i64 (fitE (x - y))]) ∧ Below w.heap.size w w' := by
  have E0 := e_nil2
  have E1 := e_fun2
  go_enter Try.func18, Try.ntmps18
  go_wp2_with (first | (go_at_call 23; refine (ofTwo_in 16 (.func (.func 31) #[] #[]) _ (by decide) rfl).mono ?_; rintro e w' ⟨rfl, hb⟩) | (go_at_call 31; refine (sub_any _ _ _ x0 x1 y0 y1).mono ?_; rintro e w'' ⟨rfl, rfl⟩))
  go_ret2
  exact ⟨rfl, hb⟩
set_option maxRecDepth 100000 in
set_option maxHeartbeats 4000000 in
theorem two_17 (x y : Int) (w : World) (x0 : -9223372036854775808 ≤ x) (x1 : x ≤ 9223372036854775807) (y0 : -9223372036854775808 ≤ y) (y1 : y ≤ 9223372036854775807) :
    Calls Try.prog 18 #[.int .i64 17, .int .i64 x, .int .i64 y] w fun e w' => e = .returned (.tuple #[.int .i64 (fit (x * y)), .int .i64 (fitE (x * y))]) ∧ Below w.heap.size w w' := by
  have E0 := e_nil2
  have E1 := e_fun2
  go_enter Try.func18, Try.ntmps18
  go_wp2_with (first | (go_at_call 23; refine (ofTwo_in 17 (.func (.func 32) #[] #[]) _ (by decide) rfl).mono ?_; rintro e w' ⟨rfl, hb⟩) | (go_at_call 32; refine (mul_any _ _ _ x0 x1 y0 y1).mono ?_; rintro e w'' ⟨rfl, rfl⟩))
  go_ret2
  exact ⟨rfl, hb⟩
set_option maxRecDepth 100000 in
set_option maxHeartbeats 4000000 in
theorem two_18 (x y : Int) (w : World) (x0 : -9223372036854775808 ≤ x) (x1 : x ≤ 9223372036854775807) (hy : y ≠ 0) :
    Calls Try.prog 18 #[.int .i64 18, .int .i64 x, .int .i64 y] w fun e w' => e = .returned (.tuple #[.int .i64 (fit (x.fdiv y)), .int .i64 (fitE (x.fdiv y))]) ∧ Below w.heap.size w w' := by
  have E0 := e_nil2
  have E1 := e_fun2
  go_enter Try.func18, Try.ntmps18
  go_wp2_with (first | (go_at_call 23; refine (ofTwo_in 18 (.func (.func 33) #[] #[]) _ (by decide) rfl).mono ?_; rintro e w' ⟨rfl, hb⟩) | (go_at_call 33; refine (div_two _ _ _ x0 x1 hy).mono ?_; rintro e w'' ⟨rfl, rfl⟩))
  go_ret2
  exact ⟨rfl, hb⟩
set_option maxRecDepth 100000 in
set_option maxHeartbeats 4000000 in
theorem two_19 (x y : Int) (w : World) (x0 : -9223372036854775808 ≤ x) (x1 : x ≤ 9223372036854775807) (y0 : -9223372036854775808 ≤ y) (y1 : y ≤ 9223372036854775807) (hy : y ≠ 0) :
    Calls Try.prog 18 #[.int .i64 19, .int .i64 x, .int .i64 y] w fun e w' => e = .returned (.tuple #[.int .i64 (x.fmod y), .int .i64 (0)]) ∧ Below w.heap.size w w' := by
  have E0 := e_nil2
  have E1 := e_fun2
  go_enter Try.func18, Try.ntmps18
  go_wp2_with (first | (go_at_call 23; refine (ofTwo_in 19 (.func (.func 34) #[] #[]) _ (by decide) rfl).mono ?_; rintro e w' ⟨rfl, hb⟩) | (go_at_call 34; refine (mod_any _ _ _ x0 x1 y0 y1 hy).mono ?_; rintro e w'' ⟨rfl, rfl⟩))
  go_ret2
  exact ⟨rfl, hb⟩
set_option maxRecDepth 100000 in
set_option maxHeartbeats 4000000 in
theorem two_20 (x y : Int) (w : World) (x0 : -9223372036854775808 ≤ x) (x1 : x ≤ 9223372036854775807) (y0 : -9223372036854775808 ≤ y) (y1 : y ≤ 9223372036854775807) :
    Calls Try.prog 18 #[.int .i64 20, .int .i64 x, .int .i64 y] w fun e w' => e = .returned (.tuple #[.int .i64 (clp (x + y)), .int .i64 (0)]) ∧ Below w.heap.size w w' := by
  have E0 := e_nil2
  have E1 := e_fun2
  go_enter Try.func18, Try.ntmps18
  go_wp2_with (first | (go_at_call 23; refine (ofTwo_in 20 (.func (.func 35) #[] #[]) _ (by decide) rfl).mono ?_; rintro e w' ⟨rfl, hb⟩) | (go_at_call 35; refine (plus_any _ _ _ x0 x1 y0 y1).mono ?_; rintro e w'' ⟨rfl, rfl⟩))
  go_ret2
  exact ⟨rfl, hb⟩
set_option maxRecDepth 100000 in
set_option maxHeartbeats 4000000 in
theorem two_21 (x y : Int) (w : World) (x0 : -9223372036854775808 ≤ x) (x1 : x ≤ 9223372036854775807) (y0 : -9223372036854775808 ≤ y) (y1 : y ≤ 9223372036854775807) :
    Calls Try.prog 18 #[.int .i64 21, .int .i64 x, .int .i64 y] w fun e w' => e = .returned (.tuple #[.int .i64 (clp (x - y)), .int .i64 (0)]) ∧ Below w.heap.size w w' := by
  have E0 := e_nil2
  have E1 := e_fun2
  go_enter Try.func18, Try.ntmps18
  go_wp2_with (first | (go_at_call 23; refine (ofTwo_in 21 (.func (.func 36) #[] #[]) _ (by decide) rfl).mono ?_; rintro e w' ⟨rfl, hb⟩) | (go_at_call 36; refine (minus_any _ _ _ x0 x1 y0 y1).mono ?_; rintro e w'' ⟨rfl, rfl⟩))
  go_ret2
  exact ⟨rfl, hb⟩
set_option maxRecDepth 100000 in
set_option maxHeartbeats 4000000 in
theorem two_22 (x y : Int) (w : World) (x0 : -9223372036854775808 ≤ x) (x1 : x ≤ 9223372036854775807) (y0 : -9223372036854775808 ≤ y) (y1 : y ≤ 9223372036854775807) :
    Calls Try.prog 18 #[.int .i64 22, .int .i64 x, .int .i64 y] w fun e w' => e = .returned (.tuple #[.int .i64 (clp (x * y)), .int .i64 (0)]) ∧ Below w.heap.size w w' := by
  have E0 := e_nil2
  have E1 := e_fun2
  go_enter Try.func18, Try.ntmps18
  go_wp2_with (first | (go_at_call 23; refine (ofTwo_in 22 (.func (.func 37) #[] #[]) _ (by decide) rfl).mono ?_; rintro e w' ⟨rfl, hb⟩) | (go_at_call 37; refine (times_any _ _ _ x0 x1 y0 y1).mono ?_; rintro e w'' ⟨rfl, rfl⟩))
  go_ret2
  exact ⟨rfl, hb⟩
set_option maxRecDepth 100000 in
set_option maxHeartbeats 4000000 in
theorem two_23 (x y : Int) (w : World)  :
    Calls Try.prog 18 #[.int .i64 23, .int .i64 x, .int .i64 y] w fun e w' => e = .returned (.tuple #[.int .i64 (tr (x == y)), .int .i64 (0)]) ∧ Below w.heap.size w w' := by
  have E0 := e_nil2
  have E1 := e_fun2
  go_enter Try.func18, Try.ntmps18
  go_wp2_with (first | (go_at_call 23; refine (ofTwo_in 23 (.func (.func 38) #[] #[]) _ (by decide) rfl).mono ?_; rintro e w' ⟨rfl, hb⟩) | (go_at_call 38; refine (eq_any _ _ _).mono ?_; rintro e w'' ⟨rfl, rfl⟩))
  go_ret2
  exact ⟨rfl, hb⟩
set_option maxRecDepth 100000 in
set_option maxHeartbeats 4000000 in
theorem two_24 (x y : Int) (w : World)  :
    Calls Try.prog 18 #[.int .i64 24, .int .i64 x, .int .i64 y] w fun e w' => e = .returned (.tuple #[.int .i64 (tr (x != y)), .int .i64 (0)]) ∧ Below w.heap.size w w' := by
  have E0 := e_nil2
  have E1 := e_fun2
  go_enter Try.func18, Try.ntmps18
  go_wp2_with (first | (go_at_call 23; refine (ofTwo_in 24 (.func (.func 39) #[] #[]) _ (by decide) rfl).mono ?_; rintro e w' ⟨rfl, hb⟩) | (go_at_call 39; refine (ne_any _ _ _).mono ?_; rintro e w'' ⟨rfl, rfl⟩))
  go_ret2
  exact ⟨rfl, hb⟩
set_option maxRecDepth 100000 in
set_option maxHeartbeats 4000000 in
theorem two_25 (x y : Int) (w : World)  :
    Calls Try.prog 18 #[.int .i64 25, .int .i64 x, .int .i64 y] w fun e w' => e = .returned (.tuple #[.int .i64 (tr (decide (x < y))), .int .i64 (0)]) ∧ Below w.heap.size w w' := by
  have E0 := e_nil2
  have E1 := e_fun2
  go_enter Try.func18, Try.ntmps18
  go_wp2_with (first | (go_at_call 23; refine (ofTwo_in 25 (.func (.func 40) #[] #[]) _ (by decide) rfl).mono ?_; rintro e w' ⟨rfl, hb⟩) | (go_at_call 40; refine (lt_any _ _ _).mono ?_; rintro e w'' ⟨rfl, rfl⟩))
  go_ret2
  exact ⟨rfl, hb⟩
set_option maxRecDepth 100000 in
set_option maxHeartbeats 4000000 in
theorem two_26 (x y : Int) (w : World)  :
    Calls Try.prog 18 #[.int .i64 26, .int .i64 x, .int .i64 y] w fun e w' => e = .returned (.tuple #[.int .i64 (tr (decide (x ≤ y))), .int .i64 (0)]) ∧ Below w.heap.size w w' := by
  have E0 := e_nil2
  have E1 := e_fun2
  go_enter Try.func18, Try.ntmps18
  go_wp2_with (first | (go_at_call 23; refine (ofTwo_in 26 (.func (.func 41) #[] #[]) _ (by decide) rfl).mono ?_; rintro e w' ⟨rfl, hb⟩) | (go_at_call 41; refine (le_any _ _ _).mono ?_; rintro e w'' ⟨rfl, rfl⟩))
  go_ret2
  exact ⟨rfl, hb⟩
set_option maxRecDepth 100000 in
set_option maxHeartbeats 4000000 in
theorem two_27 (x y : Int) (w : World)  :
    Calls Try.prog 18 #[.int .i64 27, .int .i64 x, .int .i64 y] w fun e w' => e = .returned (.tuple #[.int .i64 (tr (decide (y < x))), .int .i64 (0)]) ∧ Below w.heap.size w w' := by
  have E0 := e_nil2
  have E1 := e_fun2
  go_enter Try.func18, Try.ntmps18
  go_wp2_with (first | (go_at_call 23; refine (ofTwo_in 27 (.func (.func 42) #[] #[]) _ (by decide) rfl).mono ?_; rintro e w' ⟨rfl, hb⟩) | (go_at_call 42; refine (gt_any _ _ _).mono ?_; rintro e w'' ⟨rfl, rfl⟩))
  go_ret2
  exact ⟨rfl, hb⟩
set_option maxRecDepth 100000 in
set_option maxHeartbeats 4000000 in
theorem two_28 (x y : Int) (w : World)  :
    Calls Try.prog 18 #[.int .i64 28, .int .i64 x, .int .i64 y] w fun e w' => e = .returned (.tuple #[.int .i64 (tr (decide (y ≤ x))), .int .i64 (0)]) ∧ Below w.heap.size w w' := by
  have E0 := e_nil2
  have E1 := e_fun2
  go_enter Try.func18, Try.ntmps18
  go_wp2_with (first | (go_at_call 23; refine (ofTwo_in 28 (.func (.func 43) #[] #[]) _ (by decide) rfl).mono ?_; rintro e w' ⟨rfl, hb⟩) | (go_at_call 43; refine (ge_any _ _ _).mono ?_; rintro e w'' ⟨rfl, rfl⟩))
  go_ret2
  exact ⟨rfl, hb⟩
set_option maxRecDepth 100000 in
set_option maxHeartbeats 4000000 in
theorem two_29 (x y : Int) (w : World)  :
    Calls Try.prog 18 #[.int .i64 29, .int .i64 x, .int .i64 y] w fun e w' => e = .returned (.tuple #[.int .i64 (tr (x != 0 && y != 0)), .int .i64 (0)]) ∧ Below w.heap.size w w' := by
  have E0 := e_nil2
  have E1 := e_fun2
  go_enter Try.func18, Try.ntmps18
  go_wp2_with (first | (go_at_call 23; refine (ofTwo_in 29 (.func (.func 44) #[] #[]) _ (by decide) rfl).mono ?_; rintro e w' ⟨rfl, hb⟩) | (go_at_call 44; refine (and_any _ _ _).mono ?_; rintro e w'' ⟨rfl, rfl⟩))
  go_ret2
  exact ⟨rfl, hb⟩
set_option maxRecDepth 100000 in
set_option maxHeartbeats 4000000 in
theorem two_30 (x y : Int) (w : World)  :
    Calls Try.prog 18 #[.int .i64 30, .int .i64 x, .int .i64 y] w fun e w' => e = .returned (.tuple #[.int .i64 (tr (x != 0 || y != 0)), .int .i64 (0)]) ∧ Below w.heap.size w w' := by
  have E0 := e_nil2
  have E1 := e_fun2
  go_enter Try.func18, Try.ntmps18
  go_wp2_with (first | (go_at_call 23; refine (ofTwo_in 30 (.func (.func 45) #[] #[]) _ (by decide) rfl).mono ?_; rintro e w' ⟨rfl, hb⟩) | (go_at_call 45; refine (or_any _ _ _).mono ?_; rintro e w'' ⟨rfl, rfl⟩))
  go_ret2
  exact ⟨rfl, hb⟩
set_option maxRecDepth 100000 in
set_option maxHeartbeats 4000000 in
theorem two_31 (x y : Int) (w : World)  :
    Calls Try.prog 18 #[.int .i64 31, .int .i64 x, .int .i64 y] w fun e w' => e = .returned (.tuple #[.int .i64 (min x y), .int .i64 (0)]) ∧ Below w.heap.size w w' := by
  have E0 := e_nil2
  have E1 := e_fun2
  go_enter Try.func18, Try.ntmps18
  go_wp2_with (first | (go_at_call 23; refine (ofTwo_in 31 (.func (.func 46) #[] #[]) _ (by decide) rfl).mono ?_; rintro e w' ⟨rfl, hb⟩) | (go_at_call 46; refine (min_any _ _ _).mono ?_; rintro e w'' ⟨rfl, rfl⟩))
  go_ret2
  exact ⟨rfl, hb⟩
set_option maxRecDepth 100000 in
set_option maxHeartbeats 4000000 in
theorem two_32 (x y : Int) (w : World)  :
    Calls Try.prog 18 #[.int .i64 32, .int .i64 x, .int .i64 y] w fun e w' => e = .returned (.tuple #[.int .i64 (max x y), .int .i64 (0)]) ∧ Below w.heap.size w w' := by
  have E0 := e_nil2
  have E1 := e_fun2
  go_enter Try.func18, Try.ntmps18
  go_wp2_with (first | (go_at_call 23; refine (ofTwo_in 32 (.func (.func 47) #[] #[]) _ (by decide) rfl).mono ?_; rintro e w' ⟨rfl, hb⟩) | (go_at_call 47; refine (max_any _ _ _).mono ?_; rintro e w'' ⟨rfl, rfl⟩))
  go_ret2
  exact ⟨rfl, hb⟩
set_option maxRecDepth 100000 in
set_option maxHeartbeats 4000000 in
theorem two_18z (x : Int) (w : World) :
    Calls Try.prog 18 #[.int .i64 18, .int .i64 x, .int .i64 0] w fun e w' => e = .returned (.tuple #[.int .i64 0, .int .i64 13]) ∧ Below w.heap.size w w' := by
  have E0 := e_nil2
  have E1 := e_fun2
  go_enter Try.func18, Try.ntmps18
  go_wp2_with (first | (go_at_call 23; refine (ofTwo_in 18 (.func (.func 33) #[] #[]) _ (by decide) rfl).mono ?_; rintro e w' ⟨rfl, hb⟩) | (go_at_call 33; refine (div_z _ 0 _ rfl).mono ?_; rintro e w'' ⟨rfl, rfl⟩))
  go_ret2
  exact ⟨rfl, hb⟩
set_option maxRecDepth 100000 in
set_option maxHeartbeats 4000000 in
theorem two_19z (x : Int) (w : World) :
    Calls Try.prog 18 #[.int .i64 19, .int .i64 x, .int .i64 0] w fun e w' => e = .returned (.tuple #[.int .i64 0, .int .i64 13]) ∧ Below w.heap.size w w' := by
  have E0 := e_nil2
  have E1 := e_fun2
  go_enter Try.func18, Try.ntmps18
  go_wp2_with (first | (go_at_call 23; refine (ofTwo_in 19 (.func (.func 34) #[] #[]) _ (by decide) rfl).mono ?_; rintro e w' ⟨rfl, hb⟩) | (go_at_call 34; refine (mod_z _ 0 _ rfl).mono ?_; rintro e w'' ⟨rfl, rfl⟩))
  go_ret2
  exact ⟨rfl, hb⟩
theorem two_any (p x y : Int) (w : World) (x0 : -9223372036854775808 ≤ x) (x1 : x ≤ 9223372036854775807) (y0 : -9223372036854775808 ≤ y) (y1 : y ≤ 9223372036854775807) :
    Calls Try.prog 18 #[.int .i64 p, .int .i64 x, .int .i64 y] w fun e w' => e = .returned (.tuple #[.int .i64 (twoV p x y).1, .int .i64 (twoV p x y).2]) ∧ Below w.heap.size w w' := by
  by_cases hl : p < 0
  · rw [show twoV p x y = (0, 2) by unfold twoV; repeat rw [if_neg (by omega)]]
    exact two_lo p x y w hl
  by_cases hh : 33 ≤ p
  · rw [show twoV p x y = (0, 2) by unfold twoV; repeat rw [if_neg (by omega)]]
    exact two_hi p x y w hh
  rcases (show p = 0 ∨ p = 1 ∨ p = 2 ∨ p = 3 ∨ p = 4 ∨ p = 5 ∨ p = 6 ∨ p = 7 ∨ p = 8 ∨ p = 9 ∨ p = 10 ∨ p = 11 ∨ p = 12 ∨ p = 13 ∨ p = 14 ∨ p = 15 ∨ p = 16 ∨ p = 17 ∨ p = 18 ∨ p = 19 ∨ p = 20 ∨ p = 21 ∨ p = 22 ∨ p = 23 ∨ p = 24 ∨ p = 25 ∨ p = 26 ∨ p = 27 ∨ p = 28 ∨ p = 29 ∨ p = 30 ∨ p = 31 ∨ p = 32 by omega) with rfl | rfl | rfl | rfl | rfl | rfl | rfl | rfl | rfl | rfl | rfl | rfl | rfl | rfl | rfl | rfl | rfl | rfl | rfl | rfl | rfl | rfl | rfl | rfl | rfl | rfl | rfl | rfl | rfl | rfl | rfl | rfl | rfl
  · exact two_n0 x y w
  · exact two_n1 x y w
  · exact two_n2 x y w
  · exact two_n3 x y w
  · exact two_n4 x y w
  · exact two_n5 x y w
  · exact two_n6 x y w
  · exact two_n7 x y w
  · exact two_n8 x y w
  · exact two_n9 x y w
  · exact two_n10 x y w
  · exact two_n11 x y w
  · exact two_n12 x y w
  · exact two_n13 x y w
  · exact two_n14 x y w
  · exact two_15 x y w x0 x1 y0 y1
  · exact two_16 x y w x0 x1 y0 y1
  · exact two_17 x y w x0 x1 y0 y1
  · by_cases hy : y = 0
    · subst hy
      exact two_18z x w
    · rw [show twoV 18 x y = (fit (x.fdiv y), fitE (x.fdiv y)) by simp [twoV, hy]]
      exact two_18 x y w x0 x1 hy
  · by_cases hy : y = 0
    · subst hy
      exact two_19z x w
    · rw [show twoV 19 x y = (x.fmod y, 0) by simp [twoV, hy]]
      exact two_19 x y w x0 x1 y0 y1 hy
  · exact two_20 x y w x0 x1 y0 y1
  · exact two_21 x y w x0 x1 y0 y1
  · exact two_22 x y w x0 x1 y0 y1
  · exact two_23 x y w 
  · exact two_24 x y w 
  · exact two_25 x y w 
  · exact two_26 x y w 
  · exact two_27 x y w 
  · exact two_28 x y w 
  · exact two_29 x y w 
  · exact two_30 x y w 
  · exact two_31 x y w 
  · exact two_32 x y w 
set_option maxRecDepth 100000 in
set_option maxHeartbeats 4000000 in
theorem one_lo (p x : Int) (w : World) (h : p < 0) :
    Calls Try.prog 15 #[.int .i64 p, .int .i64 x] w fun e w' => e = .returned (.tuple #[.int .i64 (0), .int .i64 (2)]) ∧ Below w.heap.size w w' := by
  have E0 := e_nil1
  have E1 := e_fun1
  go_enter Try.func15, Try.ntmps15
  go_wp2_with (first | (go_at_call 22; refine (ofOne_lo p _ h).mono ?_; rintro e w' ⟨rfl, hb⟩))
  go_ret2
  exact ⟨rfl, hb⟩
set_option maxRecDepth 100000 in
set_option maxHeartbeats 4000000 in
theorem one_hi (p x : Int) (w : World) (h : 4 ≤ p) :
    Calls Try.prog 15 #[.int .i64 p, .int .i64 x] w fun e w' => e = .returned (.tuple #[.int .i64 (0), .int .i64 (2)]) ∧ Below w.heap.size w w' := by
  have E0 := e_nil1
  have E1 := e_fun1
  go_enter Try.func15, Try.ntmps15
  go_wp2_with (first | (go_at_call 22; refine (ofOne_hi p _ h).mono ?_; rintro e w' ⟨rfl, hb⟩))
  go_ret2
  exact ⟨rfl, hb⟩
set_option maxRecDepth 100000 in
set_option maxHeartbeats 4000000 in
theorem one_0 (x : Int) (w : World)  :
    Calls Try.prog 15 #[.int .i64 0, .int .i64 x] w fun e w' => e = .returned (.tuple #[.int .i64 (0), .int .i64 (2)]) ∧ Below w.heap.size w w' := by
  have E0 := e_nil1
  have E1 := e_fun1
  go_enter Try.func15, Try.ntmps15
  go_wp2_with (first | (go_at_call 22; refine (ofOne_in 0 .nilFunc _ (by decide) rfl).mono ?_; rintro e w' ⟨rfl, hb⟩))
  go_ret2
  exact ⟨rfl, hb⟩
set_option maxRecDepth 100000 in
set_option maxHeartbeats 4000000 in
theorem one_1 (x : Int) (w : World) (x0 : -9223372036854775808 ≤ x) (x1 : x ≤ 9223372036854775807) :
    Calls Try.prog 15 #[.int .i64 1, .int .i64 x] w fun e w' => e = .returned (.tuple #[.int .i64 (fit (-x)), .int .i64 (fitE (-x))]) ∧ Below w.heap.size w w' := by
  have E0 := e_nil1
  have E1 := e_fun1
  go_enter Try.func15, Try.ntmps15
  go_wp2_with (first | (go_at_call 22; refine (ofOne_in 1 (.func (.func 27) #[] #[]) _ (by decide) rfl).mono ?_; rintro e w' ⟨rfl, hb⟩) | (go_at_call 27; refine (neg_any _ _ x0 x1).mono ?_; rintro e w'' ⟨rfl, rfl⟩))
  go_ret2
  exact ⟨rfl, hb⟩
set_option maxRecDepth 100000 in
set_option maxHeartbeats 4000000 in
theorem one_2l (x : Int) (w : World) (x0 : -9223372036854775808 ≤ x) (x1 : x ≤ 9223372036854775807) (h : x < 0) :
    Calls Try.prog 15 #[.int .i64 2, .int .i64 x] w fun e w' => e = .returned (.tuple #[.int .i64 (fit (-x)), .int .i64 (fitE (-x))]) ∧ Below w.heap.size w w' := by
  have E0 := e_nil1
  have E1 := e_fun1
  go_enter Try.func15, Try.ntmps15
  go_wp2_with (first | (go_at_call 22; refine (ofOne_in 2 (.func (.func 28) #[] #[]) _ (by decide) rfl).mono ?_; rintro e w' ⟨rfl, hb⟩) | (go_at_call 28; refine (abs_lo _ _ x0 x1 h).mono ?_; rintro e w'' ⟨rfl, rfl⟩))
  go_ret2
  exact ⟨rfl, hb⟩
set_option maxRecDepth 100000 in
set_option maxHeartbeats 4000000 in
theorem one_2h (x : Int) (w : World) (x0 : -9223372036854775808 ≤ x) (x1 : x ≤ 9223372036854775807) (h : 0 ≤ x) :
    Calls Try.prog 15 #[.int .i64 2, .int .i64 x] w fun e w' => e = .returned (.tuple #[.int .i64 (x), .int .i64 (0)]) ∧ Below w.heap.size w w' := by
  have E0 := e_nil1
  have E1 := e_fun1
  go_enter Try.func15, Try.ntmps15
  go_wp2_with (first | (go_at_call 22; refine (ofOne_in 2 (.func (.func 28) #[] #[]) _ (by decide) rfl).mono ?_; rintro e w' ⟨rfl, hb⟩) | (go_at_call 28; refine (abs_hi _ _ x0 x1 h).mono ?_; rintro e w'' ⟨rfl, rfl⟩))
  go_ret2
  exact ⟨rfl, hb⟩
set_option maxRecDepth 100000 in
set_option maxHeartbeats 4000000 in
theorem one_3 (x : Int) (w : World)  :
    Calls Try.prog 15 #[.int .i64 3, .int .i64 x] w fun e w' => e = .returned (.tuple #[.int .i64 (tr (x == 0)), .int .i64 (0)]) ∧ Below w.heap.size w w' := by
  have E0 := e_nil1
  have E1 := e_fun1
  go_enter Try.func15, Try.ntmps15
  go_wp2_with (first | (go_at_call 22; refine (ofOne_in 3 (.func (.func 29) #[] #[]) _ (by decide) rfl).mono ?_; rintro e w' ⟨rfl, hb⟩) | (go_at_call 29; refine (not_any _ _).mono ?_; rintro e w'' ⟨rfl, rfl⟩))
  go_ret2
  exact ⟨rfl, hb⟩
theorem one_any (p x : Int) (w : World) (x0 : -9223372036854775808 ≤ x) (x1 : x ≤ 9223372036854775807) :
    Calls Try.prog 15 #[.int .i64 p, .int .i64 x] w fun e w' => e = .returned (.tuple #[.int .i64 (oneV p x).1, .int .i64 (oneV p x).2]) ∧ Below w.heap.size w w' := by
  by_cases hl : p < 0
  · rw [show oneV p x = (0, 2) by unfold oneV; repeat rw [if_neg (by omega)]]
    exact one_lo p x w hl
  by_cases hh : 4 ≤ p
  · rw [show oneV p x = (0, 2) by unfold oneV; repeat rw [if_neg (by omega)]]
    exact one_hi p x w hh
  rcases (show p = 0 ∨ p = 1 ∨ p = 2 ∨ p = 3 by omega) with rfl | rfl | rfl | rfl
  · exact one_0 x w
  · exact one_1 x w x0 x1
  · by_cases h : x < 0
    · rw [show oneV 2 x = (fit (-x), fitE (-x)) by simp [oneV, h]]
      exact one_2l x w x0 x1 h
    · rw [show oneV 2 x = (x, 0) by simp [oneV, h]]
      exact one_2h x w x0 x1 (by omega)
  · exact one_3 x w
end Go.Proofs.Ytbjongajpppfjaa
