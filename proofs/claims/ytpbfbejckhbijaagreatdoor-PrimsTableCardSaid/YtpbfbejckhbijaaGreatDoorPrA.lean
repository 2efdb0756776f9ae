/- The table of all primitives, and the row of one. -/
import Derived.Test.YtpbfbejckhbijaaGreatDoorMvZ
import Derived.Laws.Tables
import Derived.Laws.Cells
import Derived.Deep.Cut
namespace Go.Proofs.YtpbfbejckhbijaaGreatDoor
open Go.RowKit

/-- The cells of the table: seven for each primitive. -/
def tabC : Array Value := #[.string ⟨#[]⟩, .string ⟨#[]⟩, .int .i64 0, .int .i64 0, .int .i64 0, .nilFunc, .nilFunc,
  .string ⟨#[110, 101, 103]⟩, .string ⟨#[105, 32, 110, 58, 32, 105, 32, 110]⟩, .int .i64 12, .int .i64 0, .int .i64 0, .nilFunc, .nilFunc,
  .string ⟨#[97, 98, 115]⟩, .string ⟨#[105, 32, 110, 58, 32, 105, 32, 110]⟩, .int .i64 12, .int .i64 0, .int .i64 0, .nilFunc, .nilFunc,
  .string ⟨#[110, 111, 116]⟩, .string ⟨#[105, 32, 110, 58, 32, 105, 32, 110]⟩, .int .i64 0, .int .i64 0, .int .i64 0, .nilFunc, .nilFunc,
  .string ⟨#[115, 104, 97, 112, 101]⟩, .string ⟨#[107, 32, 110, 58, 32, 105, 32, 49]⟩, .int .i64 0, .int .i64 0, .int .i64 0, .func (.func 49) #[] #[], .nilFunc,
  .string ⟨#[114, 97, 118, 101, 108]⟩, .string ⟨#[107, 32, 110, 58, 32, 107, 32, 49]⟩, .int .i64 0, .int .i64 0, .int .i64 0, .func (.func 50) #[] #[], .nilFunc,
  .string ⟨#[114, 101, 118, 101, 114, 115, 101]⟩, .string ⟨#[107, 32, 49, 58, 32, 107, 32, 49, 59, 32, 107, 32, 50, 58, 32, 107, 32, 50]⟩, .int .i64 0, .int .i64 0, .int .i64 0, .func (.func 51) #[] #[], .nilFunc,
  .string ⟨#[102, 108, 105, 112]⟩, .string ⟨#[107, 32, 50, 58, 32, 107, 32, 50]⟩, .int .i64 0, .int .i64 0, .int .i64 0, .func (.func 52) #[] #[], .nilFunc,
  .string ⟨#[105, 111, 116, 97]⟩, .string ⟨#[105, 32, 48, 58, 32, 105, 32, 49]⟩, .int .i64 13, .int .i64 15, .int .i64 0, .func (.func 53) #[] #[], .nilFunc,
  .string ⟨#[115, 117, 109]⟩, .string ⟨#[105, 32, 49, 58, 32, 105, 32, 48, 59, 32, 105, 32, 50, 58, 32, 105, 32, 49]⟩, .int .i64 12, .int .i64 0, .int .i64 0, .func (.func 54) #[] #[], .nilFunc,
  .string ⟨#[108, 101, 97, 115, 116]⟩, .string ⟨#[105, 32, 49, 58, 32, 105, 32, 48, 59, 32, 105, 32, 50, 58, 32, 105, 32, 49]⟩, .int .i64 13, .int .i64 0, .int .i64 0, .func (.func 55) #[] #[], .nilFunc,
  .string ⟨#[109, 111, 115, 116]⟩, .string ⟨#[105, 32, 49, 58, 32, 105, 32, 48, 59, 32, 105, 32, 50, 58, 32, 105, 32, 49]⟩, .int .i64 13, .int .i64 0, .int .i64 0, .func (.func 56) #[] #[], .nilFunc,
  .string ⟨#[99, 111, 117, 110, 116]⟩, .string ⟨#[107, 32, 49, 58, 32, 105, 32, 48, 59, 32, 107, 32, 50, 58, 32, 105, 32, 49]⟩, .int .i64 0, .int .i64 0, .int .i64 0, .func (.func 57) #[] #[], .nilFunc,
  .string ⟨#[115, 99, 97, 110]⟩, .string ⟨#[105, 32, 49, 58, 32, 105, 32, 49, 59, 32, 105, 32, 50, 58, 32, 105, 32, 50]⟩, .int .i64 12, .int .i64 0, .int .i64 0, .func (.func 58) #[] #[], .nilFunc,
  .string ⟨#[103, 114, 97, 100, 101]⟩, .string ⟨#[105, 32, 49, 58, 32, 105, 32, 49]⟩, .int .i64 0, .int .i64 0, .int .i64 0, .func (.func 59) #[] #[], .nilFunc,
  .string ⟨#[97, 100, 100]⟩, .string ⟨#[105, 32, 110, 44, 32, 105, 32, 110, 58, 32, 105, 32, 110, 59, 32, 105, 32, 48, 44, 32, 105, 32, 110, 58, 32, 105, 32, 110, 59, 32, 105, 32, 110, 44, 32, 105, 32, 48, 58, 32, 105, 32, 110]⟩, .int .i64 11, .int .i64 12, .int .i64 0, .nilFunc, .nilFunc,
  .string ⟨#[115, 117, 98]⟩, .string ⟨#[105, 32, 110, 44, 32, 105, 32, 110, 58, 32, 105, 32, 110, 59, 32, 105, 32, 48, 44, 32, 105, 32, 110, 58, 32, 105, 32, 110, 59, 32, 105, 32, 110, 44, 32, 105, 32, 48, 58, 32, 105, 32, 110]⟩, .int .i64 11, .int .i64 12, .int .i64 0, .nilFunc, .nilFunc,
  .string ⟨#[109, 117, 108]⟩, .string ⟨#[105, 32, 110, 44, 32, 105, 32, 110, 58, 32, 105, 32, 110, 59, 32, 105, 32, 48, 44, 32, 105, 32, 110, 58, 32, 105, 32, 110, 59, 32, 105, 32, 110, 44, 32, 105, 32, 48, 58, 32, 105, 32, 110]⟩, .int .i64 11, .int .i64 12, .int .i64 0, .nilFunc, .nilFunc,
  .string ⟨#[100, 105, 118]⟩, .string ⟨#[105, 32, 110, 44, 32, 105, 32, 110, 58, 32, 105, 32, 110, 59, 32, 105, 32, 48, 44, 32, 105, 32, 110, 58, 32, 105, 32, 110, 59, 32, 105, 32, 110, 44, 32, 105, 32, 48, 58, 32, 105, 32, 110]⟩, .int .i64 11, .int .i64 12, .int .i64 13, .nilFunc, .nilFunc,
  .string ⟨#[109, 111, 100]⟩, .string ⟨#[105, 32, 110, 44, 32, 105, 32, 110, 58, 32, 105, 32, 110, 59, 32, 105, 32, 48, 44, 32, 105, 32, 110, 58, 32, 105, 32, 110, 59, 32, 105, 32, 110, 44, 32, 105, 32, 48, 58, 32, 105, 32, 110]⟩, .int .i64 11, .int .i64 13, .int .i64 0, .nilFunc, .nilFunc,
  .string ⟨#[112, 108, 117, 115]⟩, .string ⟨#[105, 32, 110, 44, 32, 105, 32, 110, 58, 32, 105, 32, 110, 59, 32, 105, 32, 48, 44, 32, 105, 32, 110, 58, 32, 105, 32, 110, 59, 32, 105, 32, 110, 44, 32, 105, 32, 48, 58, 32, 105, 32, 110]⟩, .int .i64 11, .int .i64 0, .int .i64 0, .nilFunc, .nilFunc,
  .string ⟨#[109, 105, 110, 117, 115]⟩, .string ⟨#[105, 32, 110, 44, 32, 105, 32, 110, 58, 32, 105, 32, 110, 59, 32, 105, 32, 48, 44, 32, 105, 32, 110, 58, 32, 105, 32, 110, 59, 32, 105, 32, 110, 44, 32, 105, 32, 48, 58, 32, 105, 32, 110]⟩, .int .i64 11, .int .i64 0, .int .i64 0, .nilFunc, .nilFunc,
  .string ⟨#[116, 105, 109, 101, 115]⟩, .string ⟨#[105, 32, 110, 44, 32, 105, 32, 110, 58, 32, 105, 32, 110, 59, 32, 105, 32, 48, 44, 32, 105, 32, 110, 58, 32, 105, 32, 110, 59, 32, 105, 32, 110, 44, 32, 105, 32, 48, 58, 32, 105, 32, 110]⟩, .int .i64 11, .int .i64 0, .int .i64 0, .nilFunc, .nilFunc,
  .string ⟨#[101, 113]⟩, .string ⟨#[107, 32, 110, 44, 32, 107, 32, 110, 58, 32, 105, 32, 110, 59, 32, 107, 32, 48, 44, 32, 107, 32, 110, 58, 32, 105, 32, 110, 59, 32, 107, 32, 110, 44, 32, 107, 32, 48, 58, 32, 105, 32, 110]⟩, .int .i64 11, .int .i64 0, .int .i64 0, .nilFunc, .nilFunc,
  .string ⟨#[110, 101]⟩, .string ⟨#[107, 32, 110, 44, 32, 107, 32, 110, 58, 32, 105, 32, 110, 59, 32, 107, 32, 48, 44, 32, 107, 32, 110, 58, 32, 105, 32, 110, 59, 32, 107, 32, 110, 44, 32, 107, 32, 48, 58, 32, 105, 32, 110]⟩, .int .i64 11, .int .i64 0, .int .i64 0, .nilFunc, .nilFunc,
  .string ⟨#[108, 116]⟩, .string ⟨#[105, 32, 110, 44, 32, 105, 32, 110, 58, 32, 105, 32, 110, 59, 32, 105, 32, 48, 44, 32, 105, 32, 110, 58, 32, 105, 32, 110, 59, 32, 105, 32, 110, 44, 32, 105, 32, 48, 58, 32, 105, 32, 110]⟩, .int .i64 11, .int .i64 0, .int .i64 0, .nilFunc, .nilFunc,
  .string ⟨#[108, 101]⟩, .string ⟨#[105, 32, 110, 44, 32, 105, 32, 110, 58, 32, 105, 32, 110, 59, 32, 105, 32, 48, 44, 32, 105, 32, 110, 58, 32, 105, 32, 110, 59, 32, 105, 32, 110, 44, 32, 105, 32, 48, 58, 32, 105, 32, 110]⟩, .int .i64 11, .int .i64 0, .int .i64 0, .nilFunc, .nilFunc,
  .string ⟨#[103, 116]⟩, .string ⟨#[105, 32, 110, 44, 32, 105, 32, 110, 58, 32, 105, 32, 110, 59, 32, 105, 32, 48, 44, 32, 105, 32, 110, 58, 32, 105, 32, 110, 59, 32, 105, 32, 110, 44, 32, 105, 32, 48, 58, 32, 105, 32, 110]⟩, .int .i64 11, .int .i64 0, .int .i64 0, .nilFunc, .nilFunc,
  .string ⟨#[103, 101]⟩, .string ⟨#[105, 32, 110, 44, 32, 105, 32, 110, 58, 32, 105, 32, 110, 59, 32, 105, 32, 48, 44, 32, 105, 32, 110, 58, 32, 105, 32, 110, 59, 32, 105, 32, 110, 44, 32, 105, 32, 48, 58, 32, 105, 32, 110]⟩, .int .i64 11, .int .i64 0, .int .i64 0, .nilFunc, .nilFunc,
  .string ⟨#[97, 110, 100]⟩, .string ⟨#[105, 32, 110, 44, 32, 105, 32, 110, 58, 32, 105, 32, 110, 59, 32, 105, 32, 48, 44, 32, 105, 32, 110, 58, 32, 105, 32, 110, 59, 32, 105, 32, 110, 44, 32, 105, 32, 48, 58, 32, 105, 32, 110]⟩, .int .i64 11, .int .i64 0, .int .i64 0, .nilFunc, .nilFunc,
  .string ⟨#[111, 114]⟩, .string ⟨#[105, 32, 110, 44, 32, 105, 32, 110, 58, 32, 105, 32, 110, 59, 32, 105, 32, 48, 44, 32, 105, 32, 110, 58, 32, 105, 32, 110, 59, 32, 105, 32, 110, 44, 32, 105, 32, 48, 58, 32, 105, 32, 110]⟩, .int .i64 11, .int .i64 0, .int .i64 0, .nilFunc, .nilFunc,
  .string ⟨#[109, 105, 110]⟩, .string ⟨#[105, 32, 110, 44, 32, 105, 32, 110, 58, 32, 105, 32, 110, 59, 32, 105, 32, 48, 44, 32, 105, 32, 110, 58, 32, 105, 32, 110, 59, 32, 105, 32, 110, 44, 32, 105, 32, 48, 58, 32, 105, 32, 110]⟩, .int .i64 11, .int .i64 0, .int .i64 0, .nilFunc, .nilFunc,
  .string ⟨#[109, 97, 120]⟩, .string ⟨#[105, 32, 110, 44, 32, 105, 32, 110, 58, 32, 105, 32, 110, 59, 32, 105, 32, 48, 44, 32, 105, 32, 110, 58, 32, 105, 32, 110, 59, 32, 105, 32, 110, 44, 32, 105, 32, 48, 58, 32, 105, 32, 110]⟩, .int .i64 11, .int .i64 0, .int .i64 0, .nilFunc, .nilFunc,
  .string ⟨#[116, 97, 107, 101]⟩, .string ⟨#[105, 32, 48, 44, 32, 107, 32, 49, 58, 32, 107, 32, 49]⟩, .int .i64 0, .int .i64 0, .int .i64 0, .nilFunc, .func (.func 60) #[] #[],
  .string ⟨#[100, 114, 111, 112]⟩, .string ⟨#[105, 32, 48, 44, 32, 107, 32, 49, 58, 32, 107, 32, 49]⟩, .int .i64 0, .int .i64 0, .int .i64 0, .nilFunc, .func (.func 61) #[] #[],
  .string ⟨#[102, 105, 108, 108]⟩, .string ⟨#[105, 32, 48, 44, 32, 107, 32, 48, 58, 32, 107, 32, 49]⟩, .int .i64 13, .int .i64 15, .int .i64 0, .nilFunc, .func (.func 62) #[] #[],
  .string ⟨#[103, 114, 105, 100]⟩, .string ⟨#[105, 32, 49, 44, 32, 107, 32, 49, 58, 32, 107, 32, 50]⟩, .int .i64 11, .int .i64 13, .int .i64 15, .nilFunc, .func (.func 63) #[] #[],
  .string ⟨#[99, 97, 116]⟩, .string ⟨#[107, 32, 49, 44, 32, 107, 32, 49, 58, 32, 107, 32, 49, 59, 32, 107, 32, 50, 44, 32, 107, 32, 50, 58, 32, 107, 32, 50]⟩, .int .i64 11, .int .i64 15, .int .i64 0, .nilFunc, .func (.func 64) #[] #[],
  .string ⟨#[97, 116]⟩, .string ⟨#[107, 32, 49, 44, 32, 105, 32, 48, 58, 32, 107, 32, 48, 59, 32, 107, 32, 49, 44, 32, 105, 32, 49, 58, 32, 107, 32, 49]⟩, .int .i64 14, .int .i64 0, .int .i64 0, .nilFunc, .func (.func 65) #[] #[],
  .string ⟨#[105, 110]⟩, .string ⟨#[107, 32, 110, 44, 32, 107, 32, 49, 58, 32, 105, 32, 110]⟩, .int .i64 0, .int .i64 0, .int .i64 0, .nilFunc, .func (.func 66) #[] #[],
  .string ⟨#[112, 105, 99, 107]⟩, .string ⟨#[105, 32, 49, 44, 32, 107, 32, 49, 58, 32, 107, 32, 49]⟩, .int .i64 11, .int .i64 0, .int .i64 0, .nilFunc, .func (.func 67) #[] #[]]
theorem tab_one : tabC.all (·.oneCell') = true := by kernel_rfl
theorem tab_new (w : World) (o : Obj) : (w.alloc o).heap[w.heap.size]? = some o := by
  unfold World.alloc; simp
theorem tab_set (w : World) (a b : Array Value) (t : TypeId) : (w.alloc (.cells a t)).setRow w.heap.size b = w.alloc (.cells b t) := by
  unfold World.setRow World.alloc
  congr 1
  apply Array.ext
  · simp
  · intro k h1 h2
    simp only [Array.getElem_modify, Array.getElem_push]
    split
    · rename_i hk; subst hk; simp
    · rename_i hk
      have : k < w.heap.size := by simp at h1; omega
      simp [this]
theorem tab_len : tabC.toList.length = 287 := by kernel_rfl
theorem tab_cells (W : World) (g : Nat) (fr : Nat × Nat) (h : W.heap[g]? = some (.cells tabC 62 fr)) : (loadCells ⟨g, 0, none⟩ 287).run Tryz.prog W = .ok tabC W := by
  have h1 := run_loadCells_list (P := Tryz.prog) (w := W) ⟨g, 0, none⟩ tabC.toList fun j v hj => by
    have hj2 : tabC[j]? = some v := by simpa using hj
    by_cases e : j = 0
    · subst e; simpa [Addr.add, World.cell?, h] using hj2
    · simpa [Addr.add, World.cell?, h, e] using hj2
  rw [tab_len] at h1
  simpa using h1
set_option maxRecDepth 100000 in
theorem tab_res (tm : Array Value) (W : World) (g : Nat) (fr : Nat × Nat) (h0 : tm.getD 0 undef = .pointer (some ⟨g, 0, none⟩)) (h : W.heap[g]? = some (.cells tabC 62 fr)) :
    (results Tryz.f31 tm).run Tryz.prog W = .ok (.agg tabC) W := by
  have h1 := tab_cells W g fr h
  unfold results
  rw [Tryz.results31]
  have h2 : tm[0]?.getD undef = .pointer (some ⟨g, 0, none⟩) := by simpa [Array.getD_eq_getD_getElem?] using h0
  simp [h2, asAddr, loadVar, h1, Sem.run_bind, Result.andThen_ok]
set_option maxRecDepth 100000 in
set_option maxHeartbeats 16000000 in
theorem table_any (w : World) :
    Calls Tryz.prog 31 #[] w fun e w' => e = .returned (.agg tabC) ∧ w' = w.alloc (.cells tabC 62) := by
  go_enter Tryz.func31, Tryz.ntmps31
  go_upto_region 1 with fail
  iterate 177 go_step
  refine wpList_store_row (P := Tryz.prog) rfl 62 (.tmp 0) (.tmp 71) rfl w.heap.size tabC rfl (by kernel_rfl) 62 Tryz.zeroCells62 (tab_new w _) (by kernel_rfl) (by kernel_rfl) tab_one ?_
  rw [tab_set]
  go_wp2
  exact bodyPost_ret (v := .agg tabC) (tab_res _ _ w.heap.size (0, 0) rfl (tab_new w _)) rfl ⟨rfl, rfl⟩
end Go.Proofs.YtpbfbejckhbijaaGreatDoor
