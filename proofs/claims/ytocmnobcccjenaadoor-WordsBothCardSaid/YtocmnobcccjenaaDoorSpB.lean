/- The reference's Split. -/
import Derived.Test.YtocmnobcccjenaaDoorSpA
namespace Go.Proofs.YtocmnobcccjenaaDoor
open Go.RowKit

set_option maxRecDepth 100000

def ok1 (d : List Fd) : List Yd := d.map fun x => (x, true)
theorem Fls.below {w w' : World} {base : Nat} {v : Value} {l : List Fd} (h : Fls w base v l) (hb : Below w.heap.size w w') : Fls w' base v l := own_below h hb

theorem fld_kept {w w4 : World} {base : Nat} {e : TypeId} {v : Value} {n : Nat} {xs : List Value} {t t2 : TypeId} {c0 c1 : Value} {cs : Array Value} (hown : w.ownsRow base e 2 v n xs)
    (hg : ((w.alloc (.cells #[c0, c1] t)).alloc (.cells cs t2)).grownBy w4 v.ownBlock) : w4.cell? ⟨w.heap.size, 0, none⟩ = some c0 := by
  rw [hg.cell_far ⟨w.heap.size, 0, none⟩ (by simp; omega) (fun h => by have := (hown.lt _ h.symm).2; simp at this)]
  have h1 : ((w.alloc (.cells #[c0, c1] t)).alloc (.cells cs t2)).heap[w.heap.size]? = some (.cells #[c0, c1] t (0, 0)) := by
    rw [heap_alloc_old _ _ (by simp)]; exact World.alloc_heap_new w _
  rw [cell_of_block h1]; rfl
theorem too_snoc (done : List Fd) (x : Fd) : tooB (done ++ [x]) = ((longB done || decide (2000 < x.1.length)) || decide (64 < done.length + 1)) := by
  unfold tooB longB; simp [List.any_append]
theorem long_app (done : List Fd) (x : Fd) : longB (done ++ [x]) = (longB done || decide (2000 < x.1.length)) := by
  unfold longB; simp [List.any_append]
theorem ok1_all (d : List Fd) (y : Yd) (h : y ∈ ok1 d) : y.2 = true := by
  unfold ok1 at h; rw [List.mem_map] at h; obtain ⟨x, _, rfl⟩ := h; rfl
/-- The line is at its end. -/
theorem spl_end {l : List UInt8} (h8 : ¬ 8192 < l.length) {d : List Fd} (h : ysL l = ok1 d) : (tooB d = true → splE l = 3 ∧ splV l = []) ∧ (tooB d = false → splE l = 0 ∧ splV l = d) := by
  have hf : splF l = d := by unfold splF; rw [h]; unfold ok1; rw [List.map_map]; exact List.map_id' d
  have := split_ok h8 (fun y hy => ok1_all d y (h ▸ hy))
  rw [hf] at this
  exact this
theorem spl_bad {l : List UInt8} (h8 : ¬ 8192 < l.length) {d : List Fd} {r : List Yd} (h : ysL l = ok1 d ++ r) (hb : ∃ y ∈ r, y.2 = false) : splE l = 6 ∧ splV l = [] := by
  obtain ⟨y, hy, hf⟩ := hb
  exact split_bad h8 (ysL l) (List.prefix_refl _) y (by rw [h]; exact List.mem_append_right _ hy) hf

theorem b32n_t {c : UInt8} (h : c = 32) : ((c.toNat : Int) != 32) = false := by rw [h]; rfl
theorem b32n_f {c : UInt8} (h : c ≠ 32) : ((c.toNat : Int) != 32) = true := by
  rw [bne_iff_ne]; intro e; apply h; rw [← UInt8.toNat_inj]; simp; omega
theorem spy_bad (f : Nat) {c : UInt8} {r : List UInt8} (h : c ≠ 32) : spY (fy f) (c :: r) = [bad] := by
  show (if c = 32 then _ else _) = _
  rw [if_neg h]
theorem fldS_below {w wr w3 w4 : World} {v : Value} {n : Nat} {e : TypeId} {xs : List Value} {o1 o2 : Obj} (hbl : Below w.heap.size w wr) (hb3 : Below wr.heap.size wr w3) (hown : w3.ownsRow w.heap.size e 2 v n xs)
    (hg : ((w3.alloc o1).alloc o2).grownBy w4 v.ownBlock) : Below w.heap.size w w4 := by
  have h1 := hbl.size
  have h2 := hb3.size
  exact (((hbl.trans (hb3.mono h1)).alloc (by omega) o1).alloc (by simp; omega) o2).grown hg (by simp; omega) (fun j e => (hown.lt j e).1)
theorem fld_own {w4 : World} {base : Nat} {v : Value} {done : List Fd} {x : Fd} {S : ByteArray} (hS : S = ⟨x.1.toArray⟩) (h : w4.ownsRow base 30 2 v (done.length + 1) (done.flatMap fdV ++ [.string S, .bool x.2])) : Fls w4 base v (done ++ [x]) := by
  subst hS
  unfold Fls
  rw [List.length_append, List.flatMap_append]
  exact h

theorem drop_at (s : ByteArray) (k m : Nat) (h : m < ((byt s).drop k).length) (h2 : k + m < s.size) : ((byt s).drop k)[m] = s[k + m] := by
  rw [List.getElem_drop]; rfl

end Go.Proofs.YtocmnobcccjenaaDoor
