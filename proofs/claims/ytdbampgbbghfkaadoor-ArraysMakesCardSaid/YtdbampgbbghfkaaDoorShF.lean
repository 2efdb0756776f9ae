/- What the functions of shapes return, whatever is asked; what a walk keeps. -/
import Derived.Test.YtdbampgbbghfkaaDoorShC
import Derived.Deep.QuietTactic
import Derived.BigQuiet
import Derived.RegionTactic
import Derived.LoopN
import Derived.Lib.ItoaNum
namespace Go.Proofs.YtdbampgbbghfkaaDoor
open Go.RowKit

def cV (r a b : Int) : Int := if ckS r a b = 0 then cn r a b else 0
def plE (r a b p q : Int) : Int := if ckS r a b = 0 then (if 0 ≤ p ∧ p < mxa r a ∧ 0 ≤ q ∧ q < mxb r b then 0 else 4) else ckS r a b
def plV (r a b p q : Int) : Int := if plE r a b p q = 0 then p * mxb r b + q else 0
def ixE (r a b n : Int) : Int := if ckS r a b = 0 then (if 0 ≤ n ∧ n < cn r a b then 0 else 4) else ckS r a b
def ix0 (r a b n : Int) : Int := if ixE r a b n = 0 then n / mxb r b else 0
def ix1 (r a b n : Int) : Int := if ixE r a b n = 0 then n % mxb r b else 0
def rw0 (r a b : Int) : Int := if ckS r a b = 0 then (if r = 2 then a else 1) else 0
def rw1 (r a b : Int) : Int := if ckS r a b = 0 then (if r = 2 then b else cn r a b) else 0
def fpE (r a b : Int) : Int := if ckS r a b = 0 then (if r = 2 then 0 else 6) else ckS r a b
def fp0 (r a b : Int) : Int := if fpE r a b = 0 then b else 0
def fp1 (r a b : Int) : Int := if fpE r a b = 0 then a else 0
def ftE (r a b s c d : Int) : Int := if ckS r a b = 0 then (if ckS s c d = 0 then (if s = 0 ∨ r = 0 then 0 else if r = s then (if a = c ∧ b = d then 0 else 11) else 6) else ckS s c d) else ckS r a b
def ftR (r a b s c d : Int) : Int := if ftE r a b s c d = 0 then (if s = 0 then r else s) else 0
def ft0 (r a b s c d : Int) : Int := if ftE r a b s c d = 0 then (if s = 0 then a else c) else 0
def ft1 (r a b s c d : Int) : Int := if ftE r a b s c d = 0 then (if s = 0 then b else d) else 0
def lnE (r : Int) (l : List Int) : Int := if r < 0 ∨ 2 < r then 7 else if (l.length : Int) = r then ckS r (l.getD 0 0) (l.getD 1 0) else 6
def ln0 (r : Int) (l : List Int) : Int := if lnE r l = 0 then l.getD 0 0 else 0
def ln1 (r : Int) (l : List Int) : Int := if lnE r l = 0 then l.getD 1 0 else 0
def prV (r a b : Int) : List UInt8 := if ckS r a b = 0 then (if r = 0 then [115, 99, 97, 108, 97, 114] else if r = 1 then Lib.itoa a else Lib.itoa a ++ ([120] ++ Lib.itoa b)) else []

theorem Sh.bd {r a b : Int} (h : Sh r a b) : 0 ≤ r ∧ r ≤ 2 ∧ 0 ≤ cn r a b ∧ cn r a b ≤ 400 ∧ 0 ≤ a ∧ a ≤ 400 ∧ 0 ≤ b ∧ b ≤ 400 := by
  cases h with
  | s0 => decide
  | s1 h0 h1 => unfold cn; simp; omega
  | s2 _ _ h0 h1 h2 h3 h4 => unfold cn; simp; exact ⟨Int.mul_nonneg h0 h2, h4, h0, h1, h2, h3⟩
theorem Sh.mx {r a b : Int} (h : Sh r a b) : 0 ≤ mxa r a ∧ mxa r a ≤ 400 ∧ 0 ≤ mxb r b ∧ mxb r b ≤ 400 ∧ mxa r a * mxb r b ≤ 400 := by
  obtain ⟨h0, h1, h2, h3, h4⟩ := h.bd
  refine ⟨?_, ?_, ?_, ?_, by rw [mx_cn r a b h0]; exact h3⟩ <;> (first | unfold mxa | unfold mxb) <;> (try split) <;> omega

/-- A block of two numbers. -/
def R2 (w : World) (b : Nat) (x y : Int) : Prop := w.heap[b]? = some (.cells #[.int .i64 x, .int .i64 y] 25 (0, 0))
theorem R2.c0 {w : World} {b : Nat} {x y : Int} (h : R2 w b x y) : w.cell? ⟨b, 0, none⟩ = some (.int .i64 x) := by unfold R2 at h; simp [World.cell?, h]
theorem R2.c1 {w : World} {b : Nat} {x y : Int} (h : R2 w b x y) : w.cell? ⟨b, 1, none⟩ = some (.int .i64 y) := by unfold R2 at h; simp [World.cell?, h]
theorem R2.f0 {w : World} {b : Nat} {x y : Int} (h : R2 w b x y) : w.frozen? ⟨b, 0, none⟩ = false := by unfold R2 at h; simp [World.frozen?, h]
theorem R2.f1 {w : World} {b : Nat} {x y : Int} (h : R2 w b x y) : w.frozen? ⟨b, 1, none⟩ = false := by unfold R2 at h; simp [World.frozen?, h]
theorem R2.lt {w : World} {b : Nat} {x y : Int} (h : R2 w b x y) : b < w.heap.size := by
  unfold R2 at h
  exact (Array.getElem?_eq_some_iff.1 h).1
theorem R2.next {w w' : World} {b : Nat} {x y : Int} (h : R2 w b x y) (hb : Below w.heap.size w w') : R2 w' b x y := (hb.block b h.lt).trans h
theorem R2.s0 {w : World} {b : Nat} {x y : Int} (h : R2 w b x y) (u : Value) : (w.setCell ⟨b, 0, none⟩ u).cell? ⟨b, 0, none⟩ = some u := by
  have := heap_setCell_same w b 0 _ _ u h
  simp [World.cell?, this]
theorem R2.s1 {w : World} {b : Nat} {x y : Int} (h : R2 w b x y) (u v : Value) : ((w.setCell ⟨b, 0, none⟩ u).setCell ⟨b, 1, none⟩ v).cell? ⟨b, 1, none⟩ = some v := by
  have h1 := heap_setCell_same w b 0 _ _ u h
  have h2 := heap_setCell_same (w.setCell ⟨b, 0, none⟩ u) b 1 _ _ v h1
  simp [World.cell?, h2]
theorem R2.new (w : World) (x y : Int) : R2 (w.alloc (.cells #[.int .i64 x, .int .i64 y] 25)) w.heap.size x y := heap_alloc_last w _
theorem R2.alloc {w : World} {b : Nat} {x y : Int} (h : R2 w b x y) (o : Obj) : R2 (w.alloc o) b x y := h.next ((Below.refl _ _).alloc (Nat.le_refl _) o)
/-- What a walk keeps, with one, two and three blocks of its own. -/
structure K1 (w : World) (x y : Int) (w' : World) : Prop where
  bel : Below w.heap.size w w'
  r0 : R2 w' w.heap.size x y
structure K2 (w : World) (x y z u : Int) (w' : World) : Prop where
  bel : Below w.heap.size w w'
  r0 : R2 w' w.heap.size x y
  r1 : R2 w' (w.heap.size + 1) z u
structure K3 (w : World) (x y z u s t : Int) (w' : World) : Prop where
  bel : Below w.heap.size w w'
  r0 : R2 w' w.heap.size x y
  r1 : R2 w' (w.heap.size + 1) z u
  r2 : R2 w' (w.heap.size + 2) s t
theorem K1.next {w w' w'' : World} {x y : Int} (h : K1 w x y w') (hb : Below w'.heap.size w' w'') : K1 w x y w'' :=
  ⟨h.bel.trans (hb.mono (Nat.le_of_lt h.r0.lt)), h.r0.next hb⟩
theorem K2.next {w w' w'' : World} {x y z u : Int} (h : K2 w x y z u w') (hb : Below w'.heap.size w' w'') : K2 w x y z u w'' :=
  ⟨h.bel.trans (hb.mono (Nat.le_of_lt h.r0.lt)), h.r0.next hb, h.r1.next hb⟩
theorem K3.next {w w' w'' : World} {x y z u s t : Int} (h : K3 w x y z u s t w') (hb : Below w'.heap.size w' w'') : K3 w x y z u s t w'' :=
  ⟨h.bel.trans (hb.mono (Nat.le_of_lt h.r0.lt)), h.r0.next hb, h.r1.next hb, h.r2.next hb⟩
theorem K1.new (w : World) (x y : Int) : K1 w x y (w.alloc (.cells #[.int .i64 x, .int .i64 y] 25)) := ⟨(Below.refl _ _).alloc (Nat.le_refl _) _, R2.new w x y⟩
theorem K2.new (w : World) (x y z u : Int) : K2 w x y z u ((w.alloc (.cells #[.int .i64 x, .int .i64 y] 25)).alloc (.cells #[.int .i64 z, .int .i64 u] 25)) :=
  ⟨((Below.refl _ _).alloc (Nat.le_refl _) _).alloc (by simp) _, (R2.new w x y).alloc _, by have := R2.new (w.alloc (.cells #[.int .i64 x, .int .i64 y] 25)) z u; simpa using this⟩
theorem K3.new (w : World) (x y z u s t : Int) : K3 w x y z u s t (((w.alloc (.cells #[.int .i64 x, .int .i64 y] 25)).alloc (.cells #[.int .i64 z, .int .i64 u] 25)).alloc (.cells #[.int .i64 s, .int .i64 t] 25)) :=
  ⟨(((Below.refl _ _).alloc (Nat.le_refl _) _).alloc (by simp) _).alloc (by simp; omega) _, ((R2.new w x y).alloc _).alloc _, (K2.new w x y z u).r1.alloc _, by have := R2.new ((w.alloc (.cells #[.int .i64 x, .int .i64 y] 25)).alloc (.cells #[.int .i64 z, .int .i64 u] 25)) s t; simpa using this⟩
end Go.Proofs.YtdbampgbbghfkaaDoor
