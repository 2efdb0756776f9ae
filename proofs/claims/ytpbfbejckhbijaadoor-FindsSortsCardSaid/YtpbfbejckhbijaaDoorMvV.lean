/- The reference's Flip and Fill. -/
import Derived.Test.YtpbfbejckhbijaaDoorMvU
namespace Go.Proofs.YtpbfbejckhbijaaDoor
open Go.RowKit

theorem ins_nil (B : Nat) (w : World) : Ru.Ins 2 w B (.slice none 0 0) [] := World.ownsRow_nil _ _ _ _
/-- append of one number, laid in a block of its own just before. -/
theorem wpList_app1 {w0 : World} {ops : Array Oper} {rest : List Oper} {o : Oper} {a : Act} {Q : Exit → Act → World → Prop} (hgd : Region.wanted o (yielded ops a.tmps) = true) (s x : Operand)
    (ho : o.op = .call { callee := .builtin .append, args := #[s, x], argTypes := #[23, 23] }) (B : Nat) (v : Value) (l : List Int) (hs : a.eval s = v) (hown : Ru.Ins 2 w0 B v l) (m : Int)
    (hx : a.eval x = .slice (some ⟨w0.heap.size, 0, none⟩) 1 1) (hl : l.length + 1 ≤ 1000000) (hB : B ≤ w0.heap.size)
    (h : ∀ v' w', Ru.Ins 2 w' B v' (l ++ [m]) → Below B w0 w' → wpList Tryd.prog ops Q rest (a.put o.dst v') w') : wpList Tryd.prog ops Q (o :: rest) a (w0.alloc (.cells #[.int .i64 m] 2)) := by
  have hb := bel1 w0 (.cells #[.int .i64 m] 2)
  have ho2 : Ru.Ins 2 (w0.alloc (.cells #[.int .i64 m] 2)) B v l := World.ownsRow.alloc hown _
  refine Ru.wpList_append_is hgd s x ho B v l hs ho2 _ [m] hx _ (blk_rd (l := [m]) rfl (by simp) (heap_alloc_last w0 _)).ru (nil_some _ _ _) (by simpa using hl) (by simp; omega) ?_
  intro v' w' h1 h2
  exact h v' w' h1 ((hb.mono hB).trans (ins_grown ho2 (by simp; omega) h2))
theorem takeI_snoc {l : List Int} {k : Nat} (h : k < l.length) : l.take k ++ [l.getD k 0] = l.take (k + 1) := by
  rw [List.take_add_one, List.getElem?_eq_getElem h, List.getD_eq_getElem?_getD, List.getElem?_eq_getElem h]; rfl
theorem ins_nilC {w : World} {B : Nat} {v : Value} {l : List Int} (h : Ru.Ins 2 w B v l) : Ru.NilC v := (ins_new h).nilC
/-- What the loops of Flip keep. -/
structure Kf7 (w : World) (A : Ar) (v u : Value) (l : List Int) (W : World) : Prop where
  m : MK1 w A v W
  own : Ru.Ins 2 W (w.heap.size + 2) u l
theorem Kf7.step {w W W' : World} {A : Ar} {v u u' : Value} {l l' : List Int} (k : Kf7 w A v u l W) (h3 : 0 + 1 ≤ w.heap.size) (hi : Ru.Ins 2 W' (w.heap.size + 2) u' l') (hb : Below (w.heap.size + 2) W W') : Kf7 w A v u' l' W' :=
  ⟨k.m.far hb (k.m.lay.below (by omega) hb), hi⟩
theorem fp_snoc {A : Ar} {k i : Nat} (hk : k < rwM A) (hi : i < rwN A) : (fpZ A).take (k * rwN A + i) ++ [A.z.getD (i * rwM A + k) 0] = (fpZ A).take (k * rwN A + i + 1) := by
  rw [← takeI_snoc (by rw [fpZ, gl_len]; exact lt_at hk hi)]
  unfold fpZ
  rw [gl_at hk hi]

end Go.Proofs.YtpbfbejckhbijaaDoor
