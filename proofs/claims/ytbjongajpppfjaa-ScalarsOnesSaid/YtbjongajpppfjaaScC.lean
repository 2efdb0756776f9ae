/- ofOne and ofTwo: the tables of primitives. -/
import Derived.Test.YtbjongajpppfjaaScB
import Derived.Laws.EntriesVeiled
import Derived.Deep.Cut
namespace Go.Proofs.Ytbjongajpppfjaa
open Go.RowKit

theorem heap_new (w : World) (o : Obj) : (w.alloc o).heap[w.heap.size]? = some o := by
  unfold World.alloc; simp
theorem setRow_new (w : World) (a b : Array Value) (t : TypeId) : (w.alloc (.cells a t)).setRow w.heap.size b = w.alloc (.cells b t) := by
  unfold World.setRow World.alloc
  congr 1
  apply Array.ext
  · simp
  · intro k h1 h2
    simp only [Array.getElem_modify, Array.getElem_push]
    split
    · rename_i hk; subst hk; simp
    · rename_i hk
      have : k < w.heap.size := by simp at h1; omega
      simp [this]
def tbl1 : Array Value := #[.nilFunc, .func (.func 27) #[] #[], .func (.func 28) #[] #[], .func (.func 29) #[] #[]]
theorem tbl1_size : tbl1.size = 4 := rfl
theorem tbl1_one : tbl1.all (·.oneCell') = true := by kernel_rfl
set_option maxRecDepth 100000 in
set_option maxHeartbeats 4000000 in
theorem ofOne_lo (p : Int) (w : World) (h : p < 0) :
    Calls Try.prog 22 #[.int .i64 p] w fun e w' => e = .returned .nilFunc ∧ Below w.heap.size w w' := by
  have HB := Lib.hid ((Below.refl w.heap.size w).alloc (Nat.le_refl _) (.cells tbl1 49))
  go_enter Try.func22, Try.ntmps22
  go_upto_region 1 with fail
  go_step
  go_step
  go_step
  go_step
  go_step
  go_step
  go_step
  refine wpList_store_row (P := Try.prog) rfl 49 (.tmp 3) (.tmp 4) rfl w.heap.size tbl1 rfl rfl 49 (Array.replicate 4 .nilFunc) (heap_new w _) rfl rfl tbl1_one ?_
  rw [setRow_new]
  go_wp2
  go_ret
  exact ⟨rfl, HB.out⟩
set_option maxRecDepth 100000 in
set_option maxHeartbeats 4000000 in
theorem ofOne_hi (p : Int) (w : World) (h : 4 ≤ p) :
    Calls Try.prog 22 #[.int .i64 p] w fun e w' => e = .returned .nilFunc ∧ Below w.heap.size w w' := by
  have HB := Lib.hid ((Below.refl w.heap.size w).alloc (Nat.le_refl _) (.cells tbl1 49))
  have h0 : decide (p < 0) = false := decide_eq_false (by omega)
  go_enter Try.func22, Try.ntmps22
  go_upto_region 1 with fail
  go_step
  go_step
  go_step
  go_step
  go_step
  go_step
  go_step
  refine wpList_store_row (P := Try.prog) rfl 49 (.tmp 3) (.tmp 4) rfl w.heap.size tbl1 rfl rfl 49 (Array.replicate 4 .nilFunc) (heap_new w _) rfl rfl tbl1_one ?_
  rw [setRow_new]
  go_wp2
  go_ret
  exact ⟨rfl, HB.out⟩
set_option maxRecDepth 100000 in
set_option maxHeartbeats 4000000 in
theorem ofOne_in (k : Nat) (v : Value) (w : World) (h : k < 4) (hv : tbl1[k]? = some v) :
    Calls Try.prog 22 #[.int .i64 k] w fun e w' => e = .returned v ∧ Below w.heap.size w w' := by
  have HB := Lib.hid ((Below.refl w.heap.size w).alloc (Nat.le_refl _) (.cells tbl1 49))
  have h0 : decide ((k : Int) < 0) = false := decide_eq_false (by omega)
  have h1 : decide ((4 : Int) ≤ (k : Int)) = false := decide_eq_false (by omega)
  have h2 : (k : Int) < 4 := by omega
  go_enter Try.func22, Try.ntmps22
  go_upto_region 1 with fail
  go_step
  go_step
  go_step
  go_step
  go_step
  go_step
  go_step
  refine wpList_store_row (P := Try.prog) rfl 49 (.tmp 3) (.tmp 4) rfl w.heap.size tbl1 rfl rfl 49 (Array.replicate 4 .nilFunc) (heap_new w _) rfl rfl tbl1_one ?_
  rw [setRow_new]
  go_wp2
  go_ret
  exact ⟨rfl, HB.out⟩
def tbl2 : Array Value := #[.nilFunc, .nilFunc, .nilFunc, .nilFunc, .nilFunc, .nilFunc, .nilFunc, .nilFunc, .nilFunc, .nilFunc, .nilFunc, .nilFunc, .nilFunc, .nilFunc, .nilFunc, .func (.func 30) #[] #[], .func (.func 31) #[] #[], .func (.func 32) #[] #[], .func (.func 33) #[] #[], .func (.func 34) #[] #[], .func (.func 35) #[] #[], .func (.func 36) #[] #[], .func (.func 37) #[] #[], .func (.func 38) #[] #[], .func (.func 39) #[] #[], .func (.func 40) #[] #[], .func (.func 41) #[] #[], .func (.func 42) #[] #[], .func (.func 43) #[] #[], .func (.func 44) #[] #[], .func (.func 45) #[] #[], .func (.func 46) #[] #[], .func (.func 47) #[] #[]]
theorem tbl2_size : tbl2.size = 33 := rfl
theorem tbl2_one : tbl2.all (·.oneCell') = true := by kernel_rfl
set_option maxRecDepth 100000 in
set_option maxHeartbeats 4000000 in
theorem ofTwo_lo (p : Int) (w : World) (h : p < 0) :
    Calls Try.prog 23 #[.int .i64 p] w fun e w' => e = .returned .nilFunc ∧ Below w.heap.size w w' := by
  have HB := Lib.hid ((Below.refl w.heap.size w).alloc (Nat.le_refl _) (.cells tbl2 50))
  go_enter Try.func23, Try.ntmps23
  go_upto_region 1 with fail
  go_step
  go_step
  go_step
  go_step
  go_step
  go_step
  go_step
  refine wpList_store_row (P := Try.prog) rfl 50 (.tmp 3) (.tmp 4) rfl w.heap.size tbl2 rfl rfl 50 (Array.replicate 33 .nilFunc) (heap_new w _) rfl rfl tbl2_one ?_
  rw [setRow_new]
  go_wp2
  go_ret
  exact ⟨rfl, HB.out⟩
set_option maxRecDepth 100000 in
set_option maxHeartbeats 4000000 in
theorem ofTwo_hi (p : Int) (w : World) (h : 33 ≤ p) :
    Calls Try.prog 23 #[.int .i64 p] w fun e w' => e = .returned .nilFunc ∧ Below w.heap.size w w' := by
  have HB := Lib.hid ((Below.refl w.heap.size w).alloc (Nat.le_refl _) (.cells tbl2 50))
  have h0 : decide (p < 0) = false := decide_eq_false (by omega)
  go_enter Try.func23, Try.ntmps23
  go_upto_region 1 with fail
  go_step
  go_step
  go_step
  go_step
  go_step
  go_step
  go_step
  refine wpList_store_row (P := Try.prog) rfl 50 (.tmp 3) (.tmp 4) rfl w.heap.size tbl2 rfl rfl 50 (Array.replicate 33 .nilFunc) (heap_new w _) rfl rfl tbl2_one ?_
  rw [setRow_new]
  go_wp2
  go_ret
  exact ⟨rfl, HB.out⟩
set_option maxRecDepth 100000 in
set_option maxHeartbeats 4000000 in
theorem ofTwo_in (k : Nat) (v : Value) (w : World) (h : k < 33) (hv : tbl2[k]? = some v) :
    Calls Try.prog 23 #[.int .i64 k] w fun e w' => e = .returned v ∧ Below w.heap.size w w' := by
  have HB := Lib.hid ((Below.refl w.heap.size w).alloc (Nat.le_refl _) (.cells tbl2 50))
  have h0 : decide ((k : Int) < 0) = false := decide_eq_false (by omega)
  have h1 : decide ((33 : Int) ≤ (k : Int)) = false := decide_eq_false (by omega)
  have h2 : (k : Int) < 33 := by omega
  go_enter Try.func23, Try.ntmps23
  go_upto_region 1 with fail
  go_step
  go_step
  go_step
  go_step
  go_step
  go_step
  go_step
  refine wpList_store_row (P := Try.prog) rfl 50 (.tmp 3) (.tmp 4) rfl w.heap.size tbl2 rfl rfl 50 (Array.replicate 33 .nilFunc) (heap_new w _) rfl rfl tbl2_one ?_
  rw [setRow_new]
  go_wp2
  go_ret
  exact ⟨rfl, HB.out⟩
end Go.Proofs.Ytbjongajpppfjaa
