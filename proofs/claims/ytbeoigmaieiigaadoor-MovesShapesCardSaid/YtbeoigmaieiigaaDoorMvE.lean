/- rows of the moves: slices of an array's own cells. -/
import Derived.Test.YtbeoigmaieiigaaDoorMvD
import Derived.BigQuiet
namespace Go.Proofs.YtbeoigmaieiigaaDoor
open Go.RowKit

/-- Row i of the cells at p, of m numbers. -/
def rp (p : Option Addr) (m i : Nat) : Value := match p with | some ad => .slice (some ⟨ad.block, ad.off + i * m, ad.spot⟩) m m | none => .slice none 0 0
/-- The rows, as far as they have been written. -/
def rq (p : Option Addr) (m k i : Nat) : Value := if i < k then rp p m i else .slice none 0 0
theorem rq_next {w : World} {b n m k : Nat} {p : Option Addr} {x : Value} (h : w.rowIs b 23 n (rq p m k)) (hx : rp p m k = x) : (w.setCell ⟨b, k, none⟩ x).rowIs b 23 n (rq p m (k + 1)) := by
  subst hx
  refine (h.set k _).congr fun i hi => ?_
  show (if i = k then rp p m k else rq p m k i) = rq p m (k + 1) i
  unfold rq
  by_cases e : i = k
  · subst e; rw [if_pos rfl, if_pos (by omega)]
  · rw [if_neg e]
    by_cases e2 : i < k
    · rw [if_pos e2, if_pos (by omega)]
    · rw [if_neg e2, if_neg (by omega)]
theorem rq_all {w : World} {b n m : Nat} {p : Option Addr} (h : w.rowIs b 23 n (rq p m n)) : w.rowIs b 23 n (rp p m) := h.congr fun i hi => by unfold rq; rw [if_pos hi]
/-- What a walk of rows keeps. -/
structure KE (w : World) (A : Ar) (v : Value) (W : World) : Prop where
  bel : Below w.heap.size w W
  sz : w.heap.size < W.heap.size
  blk : R5 W w.heap.size A.k A.r A.a A.b v
theorem KE.far {w W W' : World} {A : Ar} {v : Value} (h : KE w A v W) (hb : Below (w.heap.size + 1) W W') : KE w A v W' :=
  ⟨h.bel.trans (hb.mono (by omega)), Nat.lt_of_lt_of_le h.sz hb.size, (hb.block _ (by omega)).trans h.blk⟩
theorem KE.next {w W W' : World} {A : Ar} {v : Value} (h : KE w A v W) (hb : Below W.heap.size W W') : KE w A v W' := h.far (hb.mono h.sz)
theorem KE.new (w : World) (A : Ar) (v : Value) : KE w A v (w.alloc (.cells #[.int .i64 A.k, .int .i64 A.r, .int .i64 A.a, .int .i64 A.b, v] 25)) := ⟨bel1 _ _, by simp, R5.new _ _ _ _ _ _⟩
theorem KE.put {w W : World} {A : Ar} {v : Value} (h : KE w A v W) {g : Nat} (hg : w.heap.size < g) (j : Nat) (x : Value) : KE w A v (W.setCell ⟨g, j, none⟩ x) := h.far ((Below.refl _ _).setCell (p := ⟨g, j, none⟩) (by show w.heap.size + 1 ≤ g; omega) _)

theorem rp_some (b off : Nat) (m i : Nat) : rp (some ⟨b, off, none⟩) m i = .slice (some ⟨b, off + i * m, none⟩) m m := rfl
theorem rp_zero (ad : Addr) (i : Nat) : rp (some ad) 0 i = .slice (some ad) 0 0 := by simp [rp]
theorem rp_nil (i : Nat) : rp none 0 i = .slice none 0 0 := rfl
set_option maxRecDepth 100000 in
set_option maxHeartbeats 8000000 in
theorem mrows2_any (k : Int) (n m : Nat) (l : Nat) (p : Option Addr) (cap : Nat) (w : World) (hl : n * m = l) (hn : n ≤ 400) (hm : m ≤ 400) (hcap : l ≤ cap) (hcap2 : cap ≤ 9223372036854775807)
    (hp : 0 < l → ∃ b off, p = some ⟨b, off, none⟩) (hp0 : p = none → cap = 0) :
    Calls Tryd.prog 42 #[A5 k 2 n m (.slice p l cap)] w fun e w' => ∃ h, e = .returned (.slice (some ⟨h, 0, none⟩) n n) ∧ w.heap.size ≤ h ∧ w'.rowIs h 23 n (rp p m) ∧ Below w.heap.size w w' := by
  obtain ⟨i0, hi, hz0, hz1, hz2⟩ := info_parts infoS
  have hmk := fun W : World => run_make (P := Tryd.prog) W 51 23 i0 (.slice none 0 0) Tryd.underlying51 hi hz0 .i64 .i64 n n (by omega) (by omega) (by rw [hz2]; omega) (by omega)
  simp only [Int.toNat_natCast, hz1, Nat.mul_one] at hmk
  have HK := Lib.hid (KE.new w ⟨k, 2, n, m, []⟩ (.slice p l cap))
  have x0 := HK.out.blk.c0; have x1 := HK.out.blk.c1; have x2 := HK.out.blk.c2; have x3 := HK.out.blk.c3; have x4 := HK.out.blk.c4
  simp only at x0 x1 x2 x3 x4
  have HP := Lib.hid (And.intro hp hp0)
  clear hp hp0
  go_enter Tryd.func42, Tryd.ntmps42
  go_wp2_with fail
  go_quiet (fail)
  generalize hW1 : World.drewN _ nq = W1
  have HK1 : Hid (KE w ⟨k, 2, n, m, []⟩ (.slice p l cap) W1) := by rw [← hW1]; exact HK.out.next (drewN_below _ nq)
  clear hW1 HK x0 x1 x2 x3 x4
  have x1 := HK1.out.blk.c1; have x2 := HK1.out.blk.c2; have x3 := HK1.out.blk.c3
  simp only at x1 x2 x3
  go_wp2_with fail
  go_quiet (fail)
  generalize hW2 : World.drewN W1 _ = W2
  have HK2 : Hid (KE w ⟨k, 2, n, m, []⟩ (.slice p l cap) W2) := by rw [← hW2]; exact HK1.out.next (drewN_below _ _)
  clear hW2 HK1 x1 x2 x3
  have hmk1 := hmk W2
  go_wp2_with fail
  have hws : w.heap.size < W2.heap.size := HK2.out.sz
  have HM0 := Lib.hid (HK2.out.next (bel1 W2 (.cells (madeCells (Value.slice none 0 0).cells n) 23)))
  have HR0 : Hid ((W2.alloc (.cells (madeCells (Value.slice none 0 0).cells n) 23)).rowIs W2.heap.size 23 n (rq p m 0)) := (World.rowIs_made W2 (.slice none 0 0) n 23).congr fun i _ => by unfold rq; rw [if_neg (by omega)]
  clear hmk1 hmk HK2
  go_loopg [25] n (fun gk i wr => ∃ j : Nat, j + gk = n ∧ i = .int .i64 j ∧ KE w ⟨k, 2, n, m, []⟩ (.slice p l cap) wr ∧ wr.rowIs W2.heap.size 23 n (rq p m j))
  case atStart => exact ⟨0, by omega, rfl, HM0.out, HR0.out⟩
  case round =>
    obtain ⟨j, hjg, rfl, hk, hrow⟩ := hrel
    have HK := Lib.hid hk
    have HRo := Lib.hid hrow
    clear hk hrow HM0 HR0
    cases gk with
    | zero =>
      have hjz : ¬ ((j : Int) < (n : Int)) := by omega
      go_wp2
      obtain rfl : j = n := by omega
      go_ret
      exact ⟨_, rfl, by omega, rq_all HRo.out, HK.out.bel⟩
    | succ g2 =>
      have hjz : (j : Int) < (n : Int) := by omega
      have hj : j < n := by omega
      have x4 := HK.out.blk.c4
      have hw0 : IntKind.i64.wrap ((j : Int) + 1) = (j : Int) + 1 := by rw [IntKind.wrap_i64]; omega
      have hy : wr.cell? ⟨W2.heap.size, j, none⟩ = some (.slice none 0 0) := by
        rw [HRo.out.cell hj]; unfold rq; rw [if_neg (by omega)]
      have hyf : wr.frozen? ⟨W2.heap.size, j, none⟩ = false := HRo.out.frozen j
      by_cases hm0 : m = 0
      · subst hm0
        have hl0 : l = 0 := by rw [← hl, Nat.mul_zero]
        subst hl0
        have hw1 : IntKind.i64.wrap 0 = 0 := by rw [IntKind.wrap_i64]; omega
        rcases p with _ | ad
        · have hc0 : cap = 0 := HP.out.2 rfl
          subst hc0
          clear hl hcap hcap2
          go_wp2
          go_roundg g2
          case measure => omega
          case rel => exact ⟨j + 1, by omega, by go_num, HK.out.put (by omega) _ _, rq_next HRo.out (by rw [rp_nil])⟩
        · clear hl
          go_wp2
          go_roundg g2
          case measure => omega
          case rel => exact ⟨j + 1, by omega, by go_num, HK.out.put (by omega) _ _, rq_next HRo.out (by rw [rp_zero])⟩
      · have hle : (j + 1) * m ≤ n * m := Nat.mul_le_mul_right _ (by omega)
        have hjm : (j + 1) * m = j * m + m := by rw [Nat.add_mul]; omega
        have hw1 : IntKind.i64.wrap ((j : Int) * (m : Int)) = ((j * m : Nat) : Int) := by rw [← Int.natCast_mul, IntKind.wrap_i64]; omega
        have hw2 : IntKind.i64.wrap (((j : Int) + 1) * (m : Int)) = (((j + 1) * m : Nat) : Int) := by rw [show ((j : Int) + 1) = ((j + 1 : Nat) : Int) by omega, ← Int.natCast_mul, IntKind.wrap_i64]; omega
        have hj0 : (0 : Int) ≤ (j : Int) * (m : Int) := by rw [← Int.natCast_mul]; omega
        have hb1 : (j : Int) * (m : Int) + (m : Int) ≤ (cap : Int) := by rw [← Int.natCast_mul]; omega
        have hl0 : 0 < l := by rw [← hl]; exact Nat.mul_pos (by omega) (by omega)
        obtain ⟨b, off, rfl⟩ := HP.out.1 hl0
        have hmp : 0 < m := by omega
        clear hm0
        go_wp2
        go_roundg g2
        case measure => omega
        case rel => exact ⟨j + 1, by omega, by go_num, HK.out.put (by omega) _ _, rq_next HRo.out (by rw [rp_some])⟩

set_option maxRecDepth 100000 in
set_option maxHeartbeats 8000000 in
theorem mrows1_any (k : Int) (l : Nat) (b : Int) (p : Option Addr) (cap : Nat) (w : World) (hl : l ≤ 1000000) (hcap : l ≤ cap) (hcap2 : cap ≤ 9223372036854775807)
    (hp : 0 < l → ∃ b off, p = some ⟨b, off, none⟩) (hp0 : p = none → cap = 0) :
    Calls Tryd.prog 42 #[A5 k 1 l b (.slice p l cap)] w fun e w' => ∃ h, e = .returned (.slice (some ⟨h, 0, none⟩) 1 1) ∧ w.heap.size ≤ h ∧ w'.rowIs h 23 1 (rp p l) ∧ Below w.heap.size w w' := by
  obtain ⟨i0, hi, hz0, hz1, hz2⟩ := info_parts infoS
  have hmk := fun W : World => run_make (P := Tryd.prog) W 51 23 i0 (.slice none 0 0) Tryd.underlying51 hi hz0 .i64 .i64 1 1 (by omega) (by omega) (by rw [hz2]; omega) (by omega)
  simp only [hz1, Nat.mul_one, show (1 : Int).toNat = 1 from rfl] at hmk
  have HK := Lib.hid (KE.new w ⟨k, 1, l, b, []⟩ (.slice p l cap))
  have x0 := HK.out.blk.c0; have x1 := HK.out.blk.c1; have x2 := HK.out.blk.c2; have x3 := HK.out.blk.c3; have x4 := HK.out.blk.c4
  simp only at x0 x1 x2 x3 x4
  have HP := Lib.hid (And.intro hp hp0)
  clear hp hp0
  go_enter Tryd.func42, Tryd.ntmps42
  go_wp2_with fail
  go_quiet (fail)
  generalize hW1 : World.drewN _ nq = W2
  have HK2 : Hid (KE w ⟨k, 1, l, b, []⟩ (.slice p l cap) W2) := by rw [← hW1]; exact HK.out.next (drewN_below _ nq)
  clear hW1 HK x0 x1 x2 x3 x4
  have x1 := HK2.out.blk.c1
  simp only at x1
  have hmk1 := hmk W2
  have hws : w.heap.size < W2.heap.size := HK2.out.sz
  have HM0 := Lib.hid (HK2.out.next (bel1 W2 (.cells (madeCells (Value.slice none 0 0).cells 1) 23)))
  have HR0 : Hid ((W2.alloc (.cells (madeCells (Value.slice none 0 0).cells 1) 23)).rowIs W2.heap.size 23 1 (rq p l 0)) := (World.rowIs_made W2 (.slice none 0 0) 1 23).congr fun i _ => by unfold rq; rw [if_neg (by omega)]
  clear hmk HM0
  go_wp2_with fail
  clear hmk1 x1
  generalize hWr : World.alloc W2 _ = wr
  have HM0 : Hid (KE w ⟨k, 1, l, b, []⟩ (.slice p l cap) wr) := by rw [← hWr]; exact HK2.out.next (bel1 _ _)
  have HR1 : Hid (wr.rowIs W2.heap.size 23 1 (rq p l 0)) := by rw [← hWr]; exact HR0.out
  clear HR0 hWr HK2
  have HR0 := HR1
  clear HR1
  have x4 := HM0.out.blk.c4
  have hy : wr.cell? ⟨W2.heap.size, 0, none⟩ = some (.slice none 0 0) := by
    rw [HR0.out.cell (by omega)]; unfold rq; rw [if_neg (by omega)]
  have hyf : wr.frozen? ⟨W2.heap.size, 0, none⟩ = false := HR0.out.frozen 0
  have hw1 : IntKind.i64.wrap 0 = 0 := by rw [IntKind.wrap_i64]; omega
  have hw2 : IntKind.i64.wrap 1 = 1 := by rw [IntKind.wrap_i64]; omega
  have hw3 : IntKind.i64.wrap (l : Int) = (l : Int) := by rw [IntKind.wrap_i64]; omega
  refine wp_loop_rounds 4 ?_
  rw [rounds_succ]
  by_cases hl0 : l = 0
  · subst hl0
    clear hw3 hl
    rcases p with _ | ad
    · have hc0 : cap = 0 := HP.out.2 rfl
      subst hc0
      clear hcap hcap2
      have HF : Hid ((wr.setCell ⟨W2.heap.size, 0, none⟩ (.slice none 0 0)).rowIs W2.heap.size 23 1 (rp none 0)) := rq_all (rq_next HR0.out (by rw [rp_nil]))
      have HG := Lib.hid (HM0.out.put hws 0 (.slice none 0 0))
      go_wp2
      rw [rounds_succ]
      go_wp2
      go_ret
      exact ⟨_, rfl, by omega, HF.out, HG.out.bel⟩
    · have HF : Hid ((wr.setCell ⟨W2.heap.size, 0, none⟩ (.slice (some ad) 0 0)).rowIs W2.heap.size 23 1 (rp (some ad) 0)) := rq_all (rq_next HR0.out (by rw [rp_zero]))
      have HG := Lib.hid (HM0.out.put hws 0 (.slice (some ad) 0 0))
      go_wp2
      rw [rounds_succ]
      go_wp2
      go_ret
      exact ⟨_, rfl, by omega, HF.out, HG.out.bel⟩
  · obtain ⟨bk, off, rfl⟩ := HP.out.1 (by omega)
    have hlp : 0 < l := by omega
    have HF : Hid ((wr.setCell ⟨W2.heap.size, 0, none⟩ (.slice (some ⟨bk, off, none⟩) l l)).rowIs W2.heap.size 23 1 (rp (some ⟨bk, off, none⟩) l)) := rq_all (rq_next HR0.out (by rw [rp_some, Nat.zero_mul, Nat.add_zero]))
    have HG := Lib.hid (HM0.out.put hws 0 (.slice (some ⟨bk, off, none⟩) l l))
    clear hl0
    go_wp2
    rw [rounds_succ]
    go_wp2
    go_ret
    exact ⟨_, rfl, by omega, HF.out, HG.out.bel⟩
/-- rows, of vectors and matrices. -/
theorem mrows_any (A : Ar) (v : Value) (w : World) (hA : Good A) (hr : A.r = 1 ∨ A.r = 2) (hv : RdI w.heap.size w v A.z) (hn : Ru.NilC v) :
    ∃ p cap, v = .slice p A.z.length cap ∧ ∀ W, Calls Tryd.prog 42 #[A5 A.k A.r A.a A.b v] W fun e w' => ∃ h, e = .returned (.slice (some ⟨h, 0, none⟩) (rwN A) (rwN A)) ∧ W.heap.size ≤ h ∧ w'.rowIs h 23 (rwN A) (rp p (rwM A)) ∧ Below W.heap.size W w' := by
  obtain ⟨p, cap, rfl, hcap, hcap2, hcell⟩ := hv
  refine ⟨p, cap, rfl, fun W => ?_⟩
  have hp : 0 < A.z.length → ∃ b off, p = some ⟨b, off, none⟩ := fun h => by
    obtain ⟨b, off, e, _⟩ := hcell (List.length_pos_iff.1 h)
    exact ⟨b, off, e⟩
  have hp0 : p = none → cap = 0 := fun e => by subst e; exact hn _ _ rfl
  rcases hr with hr | hr
  · obtain ⟨q1, q2, q3, q4⟩ := rw_vec hA hr
    rw [q1, q2, hr, q3]
    exact mrows1_any A.k A.z.length A.b p cap W (by have := hA.len4; omega) hcap hcap2 hp hp0
  · obtain ⟨q1, q2, q3, q4, q5⟩ := rw_mat hA hr
    rw [hr, q1, q2]
    exact mrows2_any A.k (rwN A) (rwM A) A.z.length p cap W q3.symm q4 q5 hcap hcap2 hp hp0
end Go.Proofs.YtbeoigmaieiigaaDoor
