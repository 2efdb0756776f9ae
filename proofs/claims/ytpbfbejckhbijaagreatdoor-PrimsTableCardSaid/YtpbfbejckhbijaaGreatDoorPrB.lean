/- The row of a primitive; Arity, Name, Find. -/
import Derived.Test.YtpbfbejckhbijaaGreatDoorPrA
import Derived.Laws.EntriesVeiled
namespace Go.Proofs.YtpbfbejckhbijaaGreatDoor
open Go.RowKit

def nmB (p : Nat) : ByteArray := ([⟨#[]⟩, ⟨#[110, 101, 103]⟩, ⟨#[97, 98, 115]⟩, ⟨#[110, 111, 116]⟩, ⟨#[115, 104, 97, 112, 101]⟩, ⟨#[114, 97, 118, 101, 108]⟩, ⟨#[114, 101, 118, 101, 114, 115, 101]⟩, ⟨#[102, 108, 105, 112]⟩, ⟨#[105, 111, 116, 97]⟩, ⟨#[115, 117, 109]⟩, ⟨#[108, 101, 97, 115, 116]⟩, ⟨#[109, 111, 115, 116]⟩, ⟨#[99, 111, 117, 110, 116]⟩, ⟨#[115, 99, 97, 110]⟩, ⟨#[103, 114, 97, 100, 101]⟩, ⟨#[97, 100, 100]⟩, ⟨#[115, 117, 98]⟩, ⟨#[109, 117, 108]⟩, ⟨#[100, 105, 118]⟩, ⟨#[109, 111, 100]⟩, ⟨#[112, 108, 117, 115]⟩, ⟨#[109, 105, 110, 117, 115]⟩, ⟨#[116, 105, 109, 101, 115]⟩, ⟨#[101, 113]⟩, ⟨#[110, 101]⟩, ⟨#[108, 116]⟩, ⟨#[108, 101]⟩, ⟨#[103, 116]⟩, ⟨#[103, 101]⟩, ⟨#[97, 110, 100]⟩, ⟨#[111, 114]⟩, ⟨#[109, 105, 110]⟩, ⟨#[109, 97, 120]⟩, ⟨#[116, 97, 107, 101]⟩, ⟨#[100, 114, 111, 112]⟩, ⟨#[102, 105, 108, 108]⟩, ⟨#[103, 114, 105, 100]⟩, ⟨#[99, 97, 116]⟩, ⟨#[97, 116]⟩, ⟨#[105, 110]⟩, ⟨#[112, 105, 99, 107]⟩] : List ByteArray).getD p (⟨#[]⟩)
def ftB (p : Nat) : ByteArray := ([⟨#[]⟩, ⟨#[105, 32, 110, 58, 32, 105, 32, 110]⟩, ⟨#[105, 32, 110, 58, 32, 105, 32, 110]⟩, ⟨#[105, 32, 110, 58, 32, 105, 32, 110]⟩, ⟨#[107, 32, 110, 58, 32, 105, 32, 49]⟩, ⟨#[107, 32, 110, 58, 32, 107, 32, 49]⟩, ⟨#[107, 32, 49, 58, 32, 107, 32, 49, 59, 32, 107, 32, 50, 58, 32, 107, 32, 50]⟩, ⟨#[107, 32, 50, 58, 32, 107, 32, 50]⟩, ⟨#[105, 32, 48, 58, 32, 105, 32, 49]⟩, ⟨#[105, 32, 49, 58, 32, 105, 32, 48, 59, 32, 105, 32, 50, 58, 32, 105, 32, 49]⟩, ⟨#[105, 32, 49, 58, 32, 105, 32, 48, 59, 32, 105, 32, 50, 58, 32, 105, 32, 49]⟩, ⟨#[105, 32, 49, 58, 32, 105, 32, 48, 59, 32, 105, 32, 50, 58, 32, 105, 32, 49]⟩, ⟨#[107, 32, 49, 58, 32, 105, 32, 48, 59, 32, 107, 32, 50, 58, 32, 105, 32, 49]⟩, ⟨#[105, 32, 49, 58, 32, 105, 32, 49, 59, 32, 105, 32, 50, 58, 32, 105, 32, 50]⟩, ⟨#[105, 32, 49, 58, 32, 105, 32, 49]⟩, ⟨#[105, 32, 110, 44, 32, 105, 32, 110, 58, 32, 105, 32, 110, 59, 32, 105, 32, 48, 44, 32, 105, 32, 110, 58, 32, 105, 32, 110, 59, 32, 105, 32, 110, 44, 32, 105, 32, 48, 58, 32, 105, 32, 110]⟩, ⟨#[105, 32, 110, 44, 32, 105, 32, 110, 58, 32, 105, 32, 110, 59, 32, 105, 32, 48, 44, 32, 105, 32, 110, 58, 32, 105, 32, 110, 59, 32, 105, 32, 110, 44, 32, 105, 32, 48, 58, 32, 105, 32, 110]⟩, ⟨#[105, 32, 110, 44, 32, 105, 32, 110, 58, 32, 105, 32, 110, 59, 32, 105, 32, 48, 44, 32, 105, 32, 110, 58, 32, 105, 32, 110, 59, 32, 105, 32, 110, 44, 32, 105, 32, 48, 58, 32, 105, 32, 110]⟩, ⟨#[105, 32, 110, 44, 32, 105, 32, 110, 58, 32, 105, 32, 110, 59, 32, 105, 32, 48, 44, 32, 105, 32, 110, 58, 32, 105, 32, 110, 59, 32, 105, 32, 110, 44, 32, 105, 32, 48, 58, 32, 105, 32, 110]⟩, ⟨#[105, 32, 110, 44, 32, 105, 32, 110, 58, 32, 105, 32, 110, 59, 32, 105, 32, 48, 44, 32, 105, 32, 110, 58, 32, 105, 32, 110, 59, 32, 105, 32, 110, 44, 32, 105, 32, 48, 58, 32, 105, 32, 110]⟩, ⟨#[105, 32, 110, 44, 32, 105, 32, 110, 58, 32, 105, 32, 110, 59, 32, 105, 32, 48, 44, 32, 105, 32, 110, 58, 32, 105, 32, 110, 59, 32, 105, 32, 110, 44, 32, 105, 32, 48, 58, 32, 105, 32, 110]⟩, ⟨#[105, 32, 110, 44, 32, 105, 32, 110, 58, 32, 105, 32, 110, 59, 32, 105, 32, 48, 44, 32, 105, 32, 110, 58, 32, 105, 32, 110, 59, 32, 105, 32, 110, 44, 32, 105, 32, 48, 58, 32, 105, 32, 110]⟩, ⟨#[105, 32, 110, 44, 32, 105, 32, 110, 58, 32, 105, 32, 110, 59, 32, 105, 32, 48, 44, 32, 105, 32, 110, 58, 32, 105, 32, 110, 59, 32, 105, 32, 110, 44, 32, 105, 32, 48, 58, 32, 105, 32, 110]⟩, ⟨#[107, 32, 110, 44, 32, 107, 32, 110, 58, 32, 105, 32, 110, 59, 32, 107, 32, 48, 44, 32, 107, 32, 110, 58, 32, 105, 32, 110, 59, 32, 107, 32, 110, 44, 32, 107, 32, 48, 58, 32, 105, 32, 110]⟩, ⟨#[107, 32, 110, 44, 32, 107, 32, 110, 58, 32, 105, 32, 110, 59, 32, 107, 32, 48, 44, 32, 107, 32, 110, 58, 32, 105, 32, 110, 59, 32, 107, 32, 110, 44, 32, 107, 32, 48, 58, 32, 105, 32, 110]⟩, ⟨#[105, 32, 110, 44, 32, 105, 32, 110, 58, 32, 105, 32, 110, 59, 32, 105, 32, 48, 44, 32, 105, 32, 110, 58, 32, 105, 32, 110, 59, 32, 105, 32, 110, 44, 32, 105, 32, 48, 58, 32, 105, 32, 110]⟩, ⟨#[105, 32, 110, 44, 32, 105, 32, 110, 58, 32, 105, 32, 110, 59, 32, 105, 32, 48, 44, 32, 105, 32, 110, 58, 32, 105, 32, 110, 59, 32, 105, 32, 110, 44, 32, 105, 32, 48, 58, 32, 105, 32, 110]⟩, ⟨#[105, 32, 110, 44, 32, 105, 32, 110, 58, 32, 105, 32, 110, 59, 32, 105, 32, 48, 44, 32, 105, 32, 110, 58, 32, 105, 32, 110, 59, 32, 105, 32, 110, 44, 32, 105, 32, 48, 58, 32, 105, 32, 110]⟩, ⟨#[105, 32, 110, 44, 32, 105, 32, 110, 58, 32, 105, 32, 110, 59, 32, 105, 32, 48, 44, 32, 105, 32, 110, 58, 32, 105, 32, 110, 59, 32, 105, 32, 110, 44, 32, 105, 32, 48, 58, 32, 105, 32, 110]⟩, ⟨#[105, 32, 110, 44, 32, 105, 32, 110, 58, 32, 105, 32, 110, 59, 32, 105, 32, 48, 44, 32, 105, 32, 110, 58, 32, 105, 32, 110, 59, 32, 105, 32, 110, 44, 32, 105, 32, 48, 58, 32, 105, 32, 110]⟩, ⟨#[105, 32, 110, 44, 32, 105, 32, 110, 58, 32, 105, 32, 110, 59, 32, 105, 32, 48, 44, 32, 105, 32, 110, 58, 32, 105, 32, 110, 59, 32, 105, 32, 110, 44, 32, 105, 32, 48, 58, 32, 105, 32, 110]⟩, ⟨#[105, 32, 110, 44, 32, 105, 32, 110, 58, 32, 105, 32, 110, 59, 32, 105, 32, 48, 44, 32, 105, 32, 110, 58, 32, 105, 32, 110, 59, 32, 105, 32, 110, 44, 32, 105, 32, 48, 58, 32, 105, 32, 110]⟩, ⟨#[105, 32, 110, 44, 32, 105, 32, 110, 58, 32, 105, 32, 110, 59, 32, 105, 32, 48, 44, 32, 105, 32, 110, 58, 32, 105, 32, 110, 59, 32, 105, 32, 110, 44, 32, 105, 32, 48, 58, 32, 105, 32, 110]⟩, ⟨#[105, 32, 48, 44, 32, 107, 32, 49, 58, 32, 107, 32, 49]⟩, ⟨#[105, 32, 48, 44, 32, 107, 32, 49, 58, 32, 107, 32, 49]⟩, ⟨#[105, 32, 48, 44, 32, 107, 32, 48, 58, 32, 107, 32, 49]⟩, ⟨#[105, 32, 49, 44, 32, 107, 32, 49, 58, 32, 107, 32, 50]⟩, ⟨#[107, 32, 49, 44, 32, 107, 32, 49, 58, 32, 107, 32, 49, 59, 32, 107, 32, 50, 44, 32, 107, 32, 50, 58, 32, 107, 32, 50]⟩, ⟨#[107, 32, 49, 44, 32, 105, 32, 48, 58, 32, 107, 32, 48, 59, 32, 107, 32, 49, 44, 32, 105, 32, 49, 58, 32, 107, 32, 49]⟩, ⟨#[107, 32, 110, 44, 32, 107, 32, 49, 58, 32, 105, 32, 110]⟩, ⟨#[105, 32, 49, 44, 32, 107, 32, 49, 58, 32, 107, 32, 49]⟩] : List ByteArray).getD p (⟨#[]⟩)
def e0P (p : Nat) : Int := ([0, 12, 12, 0, 0, 0, 0, 0, 13, 12, 13, 13, 0, 12, 0, 11, 11, 11, 11, 11, 11, 11, 11, 11, 11, 11, 11, 11, 11, 11, 11, 11, 11, 0, 0, 13, 11, 11, 14, 0, 11] : List Int).getD p (0)
def e1P (p : Nat) : Int := ([0, 0, 0, 0, 0, 0, 0, 0, 15, 0, 0, 0, 0, 0, 0, 12, 12, 12, 12, 13, 0, 0, 0, 0, 0, 0, 0, 0, 0, 0, 0, 0, 0, 0, 0, 15, 13, 15, 0, 0, 0] : List Int).getD p (0)
def e2P (p : Nat) : Int := ([0, 0, 0, 0, 0, 0, 0, 0, 0, 0, 0, 0, 0, 0, 0, 0, 0, 0, 13, 0, 0, 0, 0, 0, 0, 0, 0, 0, 0, 0, 0, 0, 0, 0, 0, 0, 15, 0, 0, 0, 0] : List Int).getD p (0)
def f1P (p : Nat) : Value := ([.nilFunc, .nilFunc, .nilFunc, .nilFunc, .func (.func 49) #[] #[], .func (.func 50) #[] #[], .func (.func 51) #[] #[], .func (.func 52) #[] #[], .func (.func 53) #[] #[], .func (.func 54) #[] #[], .func (.func 55) #[] #[], .func (.func 56) #[] #[], .func (.func 57) #[] #[], .func (.func 58) #[] #[], .func (.func 59) #[] #[], .nilFunc, .nilFunc, .nilFunc, .nilFunc, .nilFunc, .nilFunc, .nilFunc, .nilFunc, .nilFunc, .nilFunc, .nilFunc, .nilFunc, .nilFunc, .nilFunc, .nilFunc, .nilFunc, .nilFunc, .nilFunc, .nilFunc, .nilFunc, .nilFunc, .nilFunc, .nilFunc, .nilFunc, .nilFunc, .nilFunc] : List Value).getD p (.nilFunc)
def f2P (p : Nat) : Value := ([.nilFunc, .nilFunc, .nilFunc, .nilFunc, .nilFunc, .nilFunc, .nilFunc, .nilFunc, .nilFunc, .nilFunc, .nilFunc, .nilFunc, .nilFunc, .nilFunc, .nilFunc, .nilFunc, .nilFunc, .nilFunc, .nilFunc, .nilFunc, .nilFunc, .nilFunc, .nilFunc, .nilFunc, .nilFunc, .nilFunc, .nilFunc, .nilFunc, .nilFunc, .nilFunc, .nilFunc, .nilFunc, .nilFunc, .func (.func 60) #[] #[], .func (.func 61) #[] #[], .func (.func 62) #[] #[], .func (.func 63) #[] #[], .func (.func 64) #[] #[], .func (.func 65) #[] #[], .func (.func 66) #[] #[], .func (.func 67) #[] #[]] : List Value).getD p (.nilFunc)
/-- The cells of a primitive's row. -/
def rowC (p : Nat) : Array Value := #[.string (nmB p), .string (ftB p), .int .i64 (e0P p), .int .i64 (e1P p), .int .i64 (e2P p), f1P p, f2P p]
set_option maxRecDepth 100000 in
theorem row_lit (p : Nat) (hp : p < 41) : tabC.extract (p * 7) (p * 7 + 7) = rowC p := by
  match p, hp with
  | 0, _ => rfl
  | 1, _ => rfl
  | 2, _ => rfl
  | 3, _ => rfl
  | 4, _ => rfl
  | 5, _ => rfl
  | 6, _ => rfl
  | 7, _ => rfl
  | 8, _ => rfl
  | 9, _ => rfl
  | 10, _ => rfl
  | 11, _ => rfl
  | 12, _ => rfl
  | 13, _ => rfl
  | 14, _ => rfl
  | 15, _ => rfl
  | 16, _ => rfl
  | 17, _ => rfl
  | 18, _ => rfl
  | 19, _ => rfl
  | 20, _ => rfl
  | 21, _ => rfl
  | 22, _ => rfl
  | 23, _ => rfl
  | 24, _ => rfl
  | 25, _ => rfl
  | 26, _ => rfl
  | 27, _ => rfl
  | 28, _ => rfl
  | 29, _ => rfl
  | 30, _ => rfl
  | 31, _ => rfl
  | 32, _ => rfl
  | 33, _ => rfl
  | 34, _ => rfl
  | 35, _ => rfl
  | 36, _ => rfl
  | 37, _ => rfl
  | 38, _ => rfl
  | 39, _ => rfl
  | 40, _ => rfl
  | n + 41, h => exact absurd h (by omega)
theorem tab_info : (Tryz.prog.info? 61).map (fun i => i.size) = some 7 := by kernel_rfl
theorem idx_tab (p : Nat) (hp : p < 41) (W : World) : (Instr.index 62 (.agg tabC) (.int .i64 p)).run Tryz.prog W = .ok (.agg (rowC p)) W := by
  have hu : (underlying 62).run Tryz.prog W = .ok (.array 41 61) W := run_underlying Tryz.underlying62 W
  unfold Instr.index
  have h3 : ¬ 41 ≤ p := by omega
  simp [asIntOf, hu, h3, part, go_sem, row_lit p hp]
theorem fun_forms (p : Nat) (hp : p < 41) : (f1P p = .nilFunc ∧ f2P p = .nilFunc) ∨ (∃ k, f1P p = .func (.func k) #[] #[] ∧ f2P p = .nilFunc) ∨ (∃ k, f1P p = .nilFunc ∧ f2P p = .func (.func k) #[] #[]) := by
  match p, hp with
  | 0, _ => exact .inl ⟨rfl, rfl⟩
  | 1, _ => exact .inl ⟨rfl, rfl⟩
  | 2, _ => exact .inl ⟨rfl, rfl⟩
  | 3, _ => exact .inl ⟨rfl, rfl⟩
  | 4, _ => exact .inr (.inl ⟨_, rfl, rfl⟩)
  | 5, _ => exact .inr (.inl ⟨_, rfl, rfl⟩)
  | 6, _ => exact .inr (.inl ⟨_, rfl, rfl⟩)
  | 7, _ => exact .inr (.inl ⟨_, rfl, rfl⟩)
  | 8, _ => exact .inr (.inl ⟨_, rfl, rfl⟩)
  | 9, _ => exact .inr (.inl ⟨_, rfl, rfl⟩)
  | 10, _ => exact .inr (.inl ⟨_, rfl, rfl⟩)
  | 11, _ => exact .inr (.inl ⟨_, rfl, rfl⟩)
  | 12, _ => exact .inr (.inl ⟨_, rfl, rfl⟩)
  | 13, _ => exact .inr (.inl ⟨_, rfl, rfl⟩)
  | 14, _ => exact .inr (.inl ⟨_, rfl, rfl⟩)
  | 15, _ => exact .inl ⟨rfl, rfl⟩
  | 16, _ => exact .inl ⟨rfl, rfl⟩
  | 17, _ => exact .inl ⟨rfl, rfl⟩
  | 18, _ => exact .inl ⟨rfl, rfl⟩
  | 19, _ => exact .inl ⟨rfl, rfl⟩
  | 20, _ => exact .inl ⟨rfl, rfl⟩
  | 21, _ => exact .inl ⟨rfl, rfl⟩
  | 22, _ => exact .inl ⟨rfl, rfl⟩
  | 23, _ => exact .inl ⟨rfl, rfl⟩
  | 24, _ => exact .inl ⟨rfl, rfl⟩
  | 25, _ => exact .inl ⟨rfl, rfl⟩
  | 26, _ => exact .inl ⟨rfl, rfl⟩
  | 27, _ => exact .inl ⟨rfl, rfl⟩
  | 28, _ => exact .inl ⟨rfl, rfl⟩
  | 29, _ => exact .inl ⟨rfl, rfl⟩
  | 30, _ => exact .inl ⟨rfl, rfl⟩
  | 31, _ => exact .inl ⟨rfl, rfl⟩
  | 32, _ => exact .inl ⟨rfl, rfl⟩
  | 33, _ => exact .inr (.inr ⟨_, rfl, rfl⟩)
  | 34, _ => exact .inr (.inr ⟨_, rfl, rfl⟩)
  | 35, _ => exact .inr (.inr ⟨_, rfl, rfl⟩)
  | 36, _ => exact .inr (.inr ⟨_, rfl, rfl⟩)
  | 37, _ => exact .inr (.inr ⟨_, rfl, rfl⟩)
  | 38, _ => exact .inr (.inr ⟨_, rfl, rfl⟩)
  | 39, _ => exact .inr (.inr ⟨_, rfl, rfl⟩)
  | 40, _ => exact .inr (.inr ⟨_, rfl, rfl⟩)
  | n + 41, h => exact absurd h (by omega)
def arE (p : Int) : Int := if p < 1 ∨ 40 < p then 2 else 0
def arN (p : Int) : Int := if p < 1 ∨ 40 < p then 0 else if p ≤ 14 then 1 else 2
set_option maxRecDepth 100000 in
set_option maxHeartbeats 4000000 in
theorem arity_any (p : Int) (w : World) :
    Calls Tryz.prog 16 #[.int .i64 p] w fun e w' => e = .returned (.tuple #[.int .i64 (arN p), .int .i64 (arE p)]) ∧ w' = w := by
  unfold arN arE
  by_cases h1 : p < 1
  · rw [if_pos (.inl h1), if_pos (.inl h1)]
    go_enter Tryz.func16, Tryz.ntmps16
    go_wp2
    go_ret2
    exact ⟨rfl, rfl⟩
  · by_cases h2 : 40 < p
    · rw [if_pos (.inr h2), if_pos (.inr h2)]
      go_enter Tryz.func16, Tryz.ntmps16
      go_wp2
      go_ret2
      exact ⟨rfl, rfl⟩
    · have hn : ¬ (p < 1 ∨ 40 < p) := by omega
      rw [if_neg hn, if_neg hn]
      clear hn
      by_cases h3 : p ≤ 14
      · rw [if_pos h3]
        go_enter Tryz.func16, Tryz.ntmps16
        go_wp2
        go_ret2
        exact ⟨rfl, rfl⟩
      · rw [if_neg h3]
        go_enter Tryz.func16, Tryz.ntmps16
        go_wp2
        go_ret2
        exact ⟨rfl, rfl⟩
/-- What rowOf hands back: the row, or nothing and an error. -/
def rwV (p : Int) : Array Value := if p < 1 ∨ 40 < p then #[.string ⟨#[]⟩, .string ⟨#[]⟩, .int .i64 0, .int .i64 0, .int .i64 0, .nilFunc, .nilFunc] else rowC p.toNat
theorem rwV_bad {p : Int} (h : p < 1 ∨ 40 < p) : rwV p = #[.string ⟨#[]⟩, .string ⟨#[]⟩, .int .i64 0, .int .i64 0, .int .i64 0, .nilFunc, .nilFunc] := if_pos h
theorem rwV_nat {p : Nat} (h1 : 1 ≤ p) (h2 : p ≤ 40) : rwV (p : Int) = rowC p := by unfold rwV; rw [if_neg (by omega)]; rfl
set_option maxRecDepth 100000 in
set_option maxHeartbeats 4000000 in
theorem rowOf_bad (p : Int) (w : World) (h : p < 1 ∨ 40 < p) :
    Calls Tryz.prog 33 #[.int .i64 p] w fun e w' => e = .returned (.tuple #[.agg #[.string ⟨#[]⟩, .string ⟨#[]⟩, .int .i64 0, .int .i64 0, .int .i64 0, .nilFunc, .nilFunc], .int .i64 2]) ∧ Below w.heap.size w w' := by
  have HA : Hid (∀ W, Calls Tryz.prog 16 #[.int .i64 p] W fun e w' => e = .returned (.tuple #[.int .i64 0, .int .i64 2]) ∧ w' = W) := fun W => by
    have h2 := arity_any p W
    rwa [show arN p = 0 from if_pos h, show arE p = 2 from if_pos h] at h2
  have HB := Lib.hid (bel1 w)
  clear h
  go_enter Tryz.func33, Tryz.ntmps33
  go_wp2_with (go_at_call 16; refine (HA.out _).mono ?_; rintro e w1 ⟨rfl, rfl⟩)
  refine bodyPost_ret (v := .tuple #[.agg #[.string ⟨#[]⟩, .string ⟨#[]⟩, .int .i64 0, .int .i64 0, .int .i64 0, .nilFunc, .nilFunc], .int .i64 2]) ?_ rfl ⟨rfl, HB.out _⟩
  simp [results, Tryz.results33, go_sem]
set_option maxRecDepth 100000 in
set_option maxHeartbeats 4000000 in
theorem rowOf_ok (p : Nat) (w : World) (h1 : 1 ≤ p) (h2 : p ≤ 40) :
    Calls Tryz.prog 33 #[.int .i64 p] w fun e w' => e = .returned (.tuple #[.agg (rowC p), .int .i64 0]) ∧ Below w.heap.size w w' := by
  have HA : Hid (∀ W, ∃ n, Calls Tryz.prog 16 #[.int .i64 p] W fun e w' => e = .returned (.tuple #[.int .i64 n, .int .i64 0]) ∧ w' = W) := fun W => by
    have h3 := arity_any p W
    rw [show arE p = 0 from if_neg (by omega)] at h3
    exact ⟨_, h3⟩
  have HT := Lib.hid table_any
  have hix := fun W => idx_tab p (by omega) W
  have hp : (p : Int) < 41 := by omega
  have HB : Hid (∀ o1 o2, Below w.heap.size w ((w.alloc o1).alloc o2)) := fun o1 o2 => ((Below.refl _ _).alloc (Nat.le_refl _) _).alloc (by simp) _
  unfold rowC at hix ⊢
  have hff := fun_forms p (by omega)
  generalize nmB p = s1 at hix ⊢
  generalize ftB p = s2 at hix ⊢
  generalize e0P p = x0 at hix ⊢
  generalize e1P p = x1 at hix ⊢
  generalize e2P p = x2 at hix ⊢
  generalize f1P p = g1 at hix hff ⊢
  generalize f2P p = g2 at hix hff ⊢
  rcases hff with ⟨rfl, rfl⟩ | ⟨k, rfl, rfl⟩ | ⟨k, rfl, rfl⟩
  · go_enter Tryz.func33, Tryz.ntmps33
    go_wp2_with (first
      | (go_at_call 16; obtain ⟨n, HA2⟩ := HA.out _; refine HA2.mono ?_; rintro e w1 ⟨rfl, rfl⟩)
      | (go_at_call 31; refine (HT.out _).mono ?_; rintro e w1 ⟨rfl, rfl⟩)
      | fail)
    refine bodyPost_ret (v := .tuple #[.agg #[.string s1, .string s2, .int .i64 x0, .int .i64 x1, .int .i64 x2, .nilFunc, .nilFunc], .int .i64 0]) ?_ rfl ⟨rfl, HB.out _ _⟩
    simp [results, Tryz.results33, go_sem]
  · go_enter Tryz.func33, Tryz.ntmps33
    go_wp2_with (first
      | (go_at_call 16; obtain ⟨n, HA2⟩ := HA.out _; refine HA2.mono ?_; rintro e w1 ⟨rfl, rfl⟩)
      | (go_at_call 31; refine (HT.out _).mono ?_; rintro e w1 ⟨rfl, rfl⟩)
      | fail)
    refine bodyPost_ret (v := .tuple #[.agg #[.string s1, .string s2, .int .i64 x0, .int .i64 x1, .int .i64 x2, .func (.func k) #[] #[], .nilFunc], .int .i64 0]) ?_ rfl ⟨rfl, HB.out _ _⟩
    simp [results, Tryz.results33, go_sem]
  · go_enter Tryz.func33, Tryz.ntmps33
    go_wp2_with (first
      | (go_at_call 16; obtain ⟨n, HA2⟩ := HA.out _; refine HA2.mono ?_; rintro e w1 ⟨rfl, rfl⟩)
      | (go_at_call 31; refine (HT.out _).mono ?_; rintro e w1 ⟨rfl, rfl⟩)
      | fail)
    refine bodyPost_ret (v := .tuple #[.agg #[.string s1, .string s2, .int .i64 x0, .int .i64 x1, .int .i64 x2, .nilFunc, .func (.func k) #[] #[]], .int .i64 0]) ?_ rfl ⟨rfl, HB.out _ _⟩
    simp [results, Tryz.results33, go_sem]
end Go.Proofs.YtpbfbejckhbijaaGreatDoor
