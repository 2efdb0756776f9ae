/- rows, fault, ofRows of the code. -/
import Derived.Test.YtokmdgiialcokaaDoorFoA
import Derived.Test.YtokmdgiialcokaaDoorMvZ
import Derived.BigQuiet
namespace Go.Proofs.YtokmdgiialcokaaDoor
open Go.RowKit

set_option maxRecDepth 100000 in
set_option maxHeartbeats 8000000 in
theorem frows2_any (k : Int) (n m : Nat) (l : Nat) (p : Option Addr) (cap : Nat) (w : World) (hl : n * m = l) (hn : n ≤ 400) (hm : m ≤ 400) (hcap : l ≤ cap) (hcap2 : cap ≤ 9223372036854775807)
    (hp : 0 < l → ∃ b off, p = some ⟨b, off, none⟩) (hp0 : p = none → cap = 0) :
    Calls Tryd.prog 86 #[A5 k 2 n m (.slice p l cap)] w fun e w' => ∃ h, e = .returned (.slice (some ⟨h, 0, none⟩) n n) ∧ w.heap.size ≤ h ∧ w'.rowIs h 23 n (rp p m) ∧ Below w.heap.size w w' := by
  obtain ⟨i0, hi, hz0, hz1, hz2⟩ := info_parts infoS
  have hmk := fun W : World => run_make (P := Tryd.prog) W 71 23 i0 (.slice none 0 0) Tryd.underlying71 hi hz0 .i64 .i64 n n (by omega) (by omega) (by rw [hz2]; omega) (by omega)
  simp only [Int.toNat_natCast, hz1, Nat.mul_one] at hmk
  have HK := Lib.hid (KE.new w ⟨k, 2, n, m, []⟩ (.slice p l cap))
  have x0 := HK.out.blk.c0; have x1 := HK.out.blk.c1; have x2 := HK.out.blk.c2; have x3 := HK.out.blk.c3; have x4 := HK.out.blk.c4
  simp only at x0 x1 x2 x3 x4
  have HP := Lib.hid (And.intro hp hp0)
  clear hp hp0
  go_enter Tryd.func86, Tryd.ntmps86
  go_wp2_with fail
  go_quiet (fail)
  generalize hW1 : World.drewN _ nq = W1
  have HK1 : Hid (KE w ⟨k, 2, n, m, []⟩ (.slice p l cap) W1) := by rw [← hW1]; exact HK.out.next (drewN_below _ nq)
  clear hW1 HK x0 x1 x2 x3 x4
  have x1 := HK1.out.blk.c1; have x2 := HK1.out.blk.c2; have x3 := HK1.out.blk.c3
  simp only at x1 x2 x3
  go_wp2_with fail
  go_quiet (fail)
  generalize hW2 : World.drewN W1 _ = W2
  have HK2 : Hid (KE w ⟨k, 2, n, m, []⟩ (.slice p l cap) W2) := by rw [← hW2]; exact HK1.out.next (drewN_below _ _)
  clear hW2 HK1 x1 x2 x3
  have hmk1 := hmk W2
  go_wp2_with fail
  have hws : w.heap.size < W2.heap.size := HK2.out.sz
  have HM0 := Lib.hid (HK2.out.next (bel1 W2 (.cells (madeCells (Value.slice none 0 0).cells n) 23)))
  have HR0 : Hid ((W2.alloc (.cells (madeCells (Value.slice none 0 0).cells n) 23)).rowIs W2.heap.size 23 n (rq p m 0)) := (World.rowIs_made W2 (.slice none 0 0) n 23).congr fun i _ => by unfold rq; rw [if_neg (by omega)]
  clear hmk1 hmk HK2
  go_loopg [25] n (fun gk i wr => ∃ j : Nat, j + gk = n ∧ i = .int .i64 j ∧ KE w ⟨k, 2, n, m, []⟩ (.slice p l cap) wr ∧ wr.rowIs W2.heap.size 23 n (rq p m j))
  case atStart => exact ⟨0, by omega, rfl, HM0.out, HR0.out⟩
  case round =>
    obtain ⟨j, hjg, rfl, hk, hrow⟩ := hrel
    have HK := Lib.hid hk
    have HRo := Lib.hid hrow
    clear hk hrow HM0 HR0
    cases gk with
    | zero =>
      have hjz : ¬ ((j : Int) < (n : Int)) := by omega
      go_wp2
      obtain rfl : j = n := by omega
      go_ret
      exact ⟨_, rfl, by omega, rq_all HRo.out, HK.out.bel⟩
    | succ g2 =>
      have hjz : (j : Int) < (n : Int) := by omega
      have hj : j < n := by omega
      have x4 := HK.out.blk.c4
      have hw0 : IntKind.i64.wrap ((j : Int) + 1) = (j : Int) + 1 := by rw [IntKind.wrap_i64]; omega
      have hy : wr.cell? ⟨W2.heap.size, j, none⟩ = some (.slice none 0 0) := by
        rw [HRo.out.cell hj]; unfold rq; rw [if_neg (by omega)]
      have hyf : wr.frozen? ⟨W2.heap.size, j, none⟩ = false := HRo.out.frozen j
      by_cases hm0 : m = 0
      · subst hm0
        have hl0 : l = 0 := by rw [← hl, Nat.mul_zero]
        subst hl0
        have hw1 : IntKind.i64.wrap 0 = 0 := by rw [IntKind.wrap_i64]; omega
        rcases p with _ | ad
        · have hc0 : cap = 0 := HP.out.2 rfl
          subst hc0
          clear hl hcap hcap2
          go_wp2
          go_roundg g2
          case measure => omega
          case rel => exact ⟨j + 1, by omega, by go_num, HK.out.put (by omega) _ _, rq_next HRo.out (by rw [rp_nil])⟩
        · clear hl
          go_wp2
          go_roundg g2
          case measure => omega
          case rel => exact ⟨j + 1, by omega, by go_num, HK.out.put (by omega) _ _, rq_next HRo.out (by rw [rp_zero])⟩
      · have hle : (j + 1) * m ≤ n * m := Nat.mul_le_mul_right _ (by omega)
        have hjm : (j + 1) * m = j * m + m := by rw [Nat.add_mul]; omega
        have hw1 : IntKind.i64.wrap ((j : Int) * (m : Int)) = ((j * m : Nat) : Int) := by rw [← Int.natCast_mul, IntKind.wrap_i64]; omega
        have hw2 : IntKind.i64.wrap (((j : Int) + 1) * (m : Int)) = (((j + 1) * m : Nat) : Int) := by rw [show ((j : Int) + 1) = ((j + 1 : Nat) : Int) by omega, ← Int.natCast_mul, IntKind.wrap_i64]; omega
        have hj0 : (0 : Int) ≤ (j : Int) * (m : Int) := by rw [← Int.natCast_mul]; omega
        have hb1 : (j : Int) * (m : Int) + (m : Int) ≤ (cap : Int) := by rw [← Int.natCast_mul]; omega
        have hl0 : 0 < l := by rw [← hl]; exact Nat.mul_pos (by omega) (by omega)
        obtain ⟨b, off, rfl⟩ := HP.out.1 hl0
        have hmp : 0 < m := by omega
        clear hm0
        go_wp2
        go_roundg g2
        case measure => omega
        case rel => exact ⟨j + 1, by omega, by go_num, HK.out.put (by omega) _ _, rq_next HRo.out (by rw [rp_some])⟩

set_option maxRecDepth 100000 in
set_option maxHeartbeats 8000000 in
theorem frows1_any (k : Int) (l : Nat) (b : Int) (p : Option Addr) (cap : Nat) (w : World) (hl : l ≤ 1000000) (hcap : l ≤ cap) (hcap2 : cap ≤ 9223372036854775807)
    (hp : 0 < l → ∃ b off, p = some ⟨b, off, none⟩) (hp0 : p = none → cap = 0) :
    Calls Tryd.prog 86 #[A5 k 1 l b (.slice p l cap)] w fun e w' => ∃ h, e = .returned (.slice (some ⟨h, 0, none⟩) 1 1) ∧ w.heap.size ≤ h ∧ w'.rowIs h 23 1 (rp p l) ∧ Below w.heap.size w w' := by
  obtain ⟨i0, hi, hz0, hz1, hz2⟩ := info_parts infoS
  have hmk := fun W : World => run_make (P := Tryd.prog) W 71 23 i0 (.slice none 0 0) Tryd.underlying71 hi hz0 .i64 .i64 1 1 (by omega) (by omega) (by rw [hz2]; omega) (by omega)
  simp only [hz1, Nat.mul_one, show (1 : Int).toNat = 1 from rfl] at hmk
  have HK := Lib.hid (KE.new w ⟨k, 1, l, b, []⟩ (.slice p l cap))
  have x0 := HK.out.blk.c0; have x1 := HK.out.blk.c1; have x2 := HK.out.blk.c2; have x3 := HK.out.blk.c3; have x4 := HK.out.blk.c4
  simp only at x0 x1 x2 x3 x4
  have HP := Lib.hid (And.intro hp hp0)
  clear hp hp0
  go_enter Tryd.func86, Tryd.ntmps86
  go_wp2_with fail
  go_quiet (fail)
  generalize hW1 : World.drewN _ nq = W2
  have HK2 : Hid (KE w ⟨k, 1, l, b, []⟩ (.slice p l cap) W2) := by rw [← hW1]; exact HK.out.next (drewN_below _ nq)
  clear hW1 HK x0 x1 x2 x3 x4
  have x1 := HK2.out.blk.c1
  simp only at x1
  have hmk1 := hmk W2
  have hws : w.heap.size < W2.heap.size := HK2.out.sz
  have HM0 := Lib.hid (HK2.out.next (bel1 W2 (.cells (madeCells (Value.slice none 0 0).cells 1) 23)))
  have HR0 : Hid ((W2.alloc (.cells (madeCells (Value.slice none 0 0).cells 1) 23)).rowIs W2.heap.size 23 1 (rq p l 0)) := (World.rowIs_made W2 (.slice none 0 0) 1 23).congr fun i _ => by unfold rq; rw [if_neg (by omega)]
  clear hmk HM0
  go_wp2_with fail
  clear hmk1 x1
  generalize hWr : World.alloc W2 _ = wr
  have HM0 : Hid (KE w ⟨k, 1, l, b, []⟩ (.slice p l cap) wr) := by rw [← hWr]; exact HK2.out.next (bel1 _ _)
  have HR1 : Hid (wr.rowIs W2.heap.size 23 1 (rq p l 0)) := by rw [← hWr]; exact HR0.out
  clear HR0 hWr HK2
  have HR0 := HR1
  clear HR1
  have x4 := HM0.out.blk.c4
  have hy : wr.cell? ⟨W2.heap.size, 0, none⟩ = some (.slice none 0 0) := by
    rw [HR0.out.cell (by omega)]; unfold rq; rw [if_neg (by omega)]
  have hyf : wr.frozen? ⟨W2.heap.size, 0, none⟩ = false := HR0.out.frozen 0
  have hw1 : IntKind.i64.wrap 0 = 0 := by rw [IntKind.wrap_i64]; omega
  have hw2 : IntKind.i64.wrap 1 = 1 := by rw [IntKind.wrap_i64]; omega
  have hw3 : IntKind.i64.wrap (l : Int) = (l : Int) := by rw [IntKind.wrap_i64]; omega
  refine wp_loop_rounds 4 ?_
  rw [rounds_succ]
  by_cases hl0 : l = 0
  · subst hl0
    clear hw3 hl
    rcases p with _ | ad
    · have hc0 : cap = 0 := HP.out.2 rfl
      subst hc0
      clear hcap hcap2
      have HF : Hid ((wr.setCell ⟨W2.heap.size, 0, none⟩ (.slice none 0 0)).rowIs W2.heap.size 23 1 (rp none 0)) := rq_all (rq_next HR0.out (by rw [rp_nil]))
      have HG := Lib.hid (HM0.out.put hws 0 (.slice none 0 0))
      go_wp2
      rw [rounds_succ]
      go_wp2
      go_ret
      exact ⟨_, rfl, by omega, HF.out, HG.out.bel⟩
    · have HF : Hid ((wr.setCell ⟨W2.heap.size, 0, none⟩ (.slice (some ad) 0 0)).rowIs W2.heap.size 23 1 (rp (some ad) 0)) := rq_all (rq_next HR0.out (by rw [rp_zero]))
      have HG := Lib.hid (HM0.out.put hws 0 (.slice (some ad) 0 0))
      go_wp2
      rw [rounds_succ]
      go_wp2
      go_ret
      exact ⟨_, rfl, by omega, HF.out, HG.out.bel⟩
  · obtain ⟨bk, off, rfl⟩ := HP.out.1 (by omega)
    have hlp : 0 < l := by omega
    have HF : Hid ((wr.setCell ⟨W2.heap.size, 0, none⟩ (.slice (some ⟨bk, off, none⟩) l l)).rowIs W2.heap.size 23 1 (rp (some ⟨bk, off, none⟩) l)) := rq_all (rq_next HR0.out (by rw [rp_some, Nat.zero_mul, Nat.add_zero]))
    have HG := Lib.hid (HM0.out.put hws 0 (.slice (some ⟨bk, off, none⟩) l l))
    clear hl0
    go_wp2
    rw [rounds_succ]
    go_wp2
    go_ret
    exact ⟨_, rfl, by omega, HF.out, HG.out.bel⟩
/-- rows, of vectors and matrices. -/
theorem frows_any (A : Ar) (v : Value) (w : World) (hA : Good A) (hr : A.r = 1 ∨ A.r = 2) (hv : RdI w.heap.size w v A.z) (hn : Ru.NilC v) :
    ∃ p cap, v = .slice p A.z.length cap ∧ ∀ W, Calls Tryd.prog 86 #[A5 A.k A.r A.a A.b v] W fun e w' => ∃ h, e = .returned (.slice (some ⟨h, 0, none⟩) (rwN A) (rwN A)) ∧ W.heap.size ≤ h ∧ w'.rowIs h 23 (rwN A) (rp p (rwM A)) ∧ Below W.heap.size W w' := by
  obtain ⟨p, cap, rfl, hcap, hcap2, hcell⟩ := hv
  refine ⟨p, cap, rfl, fun W => ?_⟩
  have hp : 0 < A.z.length → ∃ b off, p = some ⟨b, off, none⟩ := fun h => by
    obtain ⟨b, off, e, _⟩ := hcell (List.length_pos_iff.1 h)
    exact ⟨b, off, e⟩
  have hp0 : p = none → cap = 0 := fun e => by subst e; exact hn _ _ rfl
  rcases hr with hr | hr
  · obtain ⟨q1, q2, q3, q4⟩ := rw_vec hA hr
    rw [q1, q2, hr, q3]
    exact frows1_any A.k A.z.length A.b p cap W (by have := hA.len4; omega) hcap hcap2 hp hp0
  · obtain ⟨q1, q2, q3, q4, q5⟩ := rw_mat hA hr
    rw [hr, q1, q2]
    exact frows2_any A.k (rwN A) (rwM A) A.z.length p cap W q3.symm q4 q5 hcap hcap2 hp hp0

/-- A row of an array's own cells. -/
theorem frp_rd {A : Ar} (h : ck A = 0) {B : Nat} {w : World} {p : Option Addr} {cap : Nat} (hv : RdI B w (.slice p A.z.length cap) A.z) {j : Nat} (hj : j < rwN A) :
    ∃ q, rp p (rwM A) j = .slice q (rwM A) (rwM A) ∧ ∀ t, t < rwM A → ∃ bk off, q = some ⟨bk, off, none⟩ ∧ bk < B ∧ w.cell? ⟨bk, off + t, none⟩ = some (.int .i64 ((rwI A j).getD t 0)) := by
  obtain ⟨_, _, r2, r3, r4⟩ := rw_good (ck_good h)
  have hI := rwI_len (ck_good h) hj
  have hle := Nat.mul_le_mul_right (rwM A) (show j + 1 ≤ rwN A by omega)
  rw [Nat.add_mul, Nat.one_mul] at hle
  obtain ⟨p', c, e, h1, h2, h3⟩ := hv
  cases e
  cases p with
  | none =>
    have hz : A.z = [] := by
      rcases hA : A.z with _ | ⟨x, l⟩
      · rfl
      · obtain ⟨b, off, e, _⟩ := h3 (by rw [hA]; simp)
        cases e
    have hm : rwM A = 0 := by
      have : A.z.length = 0 := by rw [hz]; rfl
      omega
    rw [hm]
    exact ⟨none, rfl, fun t ht => absurd ht (by omega)⟩
  | some ad =>
    refine ⟨_, rfl, fun t ht => ?_⟩
    obtain ⟨b, off, e, hb, hc⟩ := h3 (List.length_pos_iff.1 (by omega))
    cases e
    refine ⟨b, off + j * rwM A, rfl, hb, ?_⟩
    rw [Nat.add_assoc, hc _ (by omega), List.getD_eq_getElem?_getD, List.getElem?_eq_getElem (by omega), Option.getD_some, rwI_get (by omega)]

set_option maxRecDepth 100000 in
set_option maxHeartbeats 4000000 in
theorem ffault_any (kd : Bool) (A : Ar) (v : Value) (w : World) (hw : Ru.Lay w) (hv : RdI w.heap.size w v A.z) (hl : A.z.length ≤ 1000000) :
    Calls Tryd.prog 62 #[.bool kd, A5 A.k A.r A.a A.b v] w fun e w' => e = .returned (.int .i64 (faE kd A)) ∧ Below w.heap.size w w' := by
  have HC := Lib.hid (fun W h1 h2 => acheck_any A v W h1 h2 hl)
  have HK := Lib.hid (KA.new A.k A.r A.a A.b hw hv)
  have x0 := HK.out.blk.c0; have x1 := HK.out.blk.c1; have x2 := HK.out.blk.c2; have x3 := HK.out.blk.c3; have x4 := HK.out.blk.c4
  obtain ⟨p, cap, rfl, hcap, hcap2, hcell⟩ := hv
  clear hcell hw
  unfold faE
  by_cases h1 : ck A = 0
  · rw [if_neg (not_not_intro h1)]
    rw [h1] at HC
    clear h1
    cases kd
    · rw [if_pos rfl]
      go_enter Tryd.func62, Tryd.ntmps62
      go_wp2_with (first | (go_at_call 83; (with_reducible refine (HC.out _ HK.out.lay HK.out.rd).mono ?_); rintro e w' ⟨rfl, hb⟩; have HK2 := Lib.hid (HK.out.next hb); clear HK hb x0 x1 x2 x3 x4; have HK := HK2; clear HK2; have x1 := HK.out.blk.c1) | fail)
      go_ret
      exact ⟨rfl, HK.out.bel⟩
    · rw [if_neg (by decide)]
      by_cases h2 : A.r = 0
      · rw [if_pos h2]
        have k2 : (A.r == 0) = true := by simpa using h2
        clear h2
        go_enter Tryd.func62, Tryd.ntmps62
        go_wp2_with (first | (go_at_call 83; (with_reducible refine (HC.out _ HK.out.lay HK.out.rd).mono ?_); rintro e w' ⟨rfl, hb⟩; have HK2 := Lib.hid (HK.out.next hb); clear HK hb x0 x1 x2 x3 x4; have HK := HK2; clear HK2; have x1 := HK.out.blk.c1) | fail)
        go_ret
        exact ⟨rfl, HK.out.bel⟩
      · rw [if_neg h2]
        have k2 : (A.r == 0) = false := by simpa using h2
        clear h2
        go_enter Tryd.func62, Tryd.ntmps62
        go_wp2_with (first | (go_at_call 83; (with_reducible refine (HC.out _ HK.out.lay HK.out.rd).mono ?_); rintro e w' ⟨rfl, hb⟩; have HK2 := Lib.hid (HK.out.next hb); clear HK hb x0 x1 x2 x3 x4; have HK := HK2; clear HK2; have x1 := HK.out.blk.c1) | fail)
        go_ret
        exact ⟨rfl, HK.out.bel⟩
  · rw [if_pos h1]
    generalize ck A = E at HC h1 ⊢
    have k1 : (E != 0) = true := by simpa using h1
    clear h1
    go_enter Tryd.func62, Tryd.ntmps62
    go_wp2_with (first | (go_at_call 83; (with_reducible refine (HC.out _ HK.out.lay HK.out.rd).mono ?_); rintro e w' ⟨rfl, hb⟩; have HK2 := Lib.hid (HK.out.next hb); clear HK hb x0 x1 x2 x3 x4; have HK := HK2; clear HK2; have x1 := HK.out.blk.c1) | fail)
    go_ret
    exact ⟨rfl, HK.out.bel⟩

/-- Make of an array that is one: spelled out, its result anywhere. -/
theorem fmake_ok {k r a b : Int} {z : List Int} (h : ck ⟨k, r, a, b, z⟩ = 0) (v : Value) (w : World) (hw : Ru.Lay w) (hv : RdI w.heap.size w v z) (hl : z.length ≤ 1000000) :
    Calls Tryd.prog 70 #[.int .i64 k, .int .i64 r, P2 a b, v] w fun e w' => ∃ q c, e = .returned (.tuple #[A5 k r a b (.slice q z.length c), .int .i64 0]) ∧ RdN w.heap.size w' (.slice q z.length c) z ∧ Below w.heap.size w w' := by
  refine (make_any k r a b z v w hw hv hl).mono ?_
  rw [h, mk_yes h]
  rintro e w' ⟨u, h1, h2, h3⟩
  obtain ⟨q, c, e2, _⟩ := h2.form
  have e3 : u = .slice q z.length c := e2
  subst e3
  exact ⟨q, c, h1, h2, h3⟩
set_option maxRecDepth 100000 in
set_option maxHeartbeats 4000000 in
theorem ofrows_any (A : Ar) (v u : Value) (z : List Int) (w : World) (hw : Ru.Lay w) (hv : RdI w.heap.size w v A.z) (hu : RdI w.heap.size w u z) (hl : z.length ≤ 1000000) (hA : ck (ofR A z) = 0) :
    Calls Tryd.prog 75 #[A5 A.k A.r A.a A.b v, u] w (RetE (ofR A z) 0 w) := by
  have HK := Lib.hid (MK1.new (A := A) hw hv)
  have x0 := HK.out.box.c0; have x1 := HK.out.box.c1; have x2 := HK.out.box.c2; have x3 := HK.out.box.c3; have x4 := HK.out.box.c4
  have HU : Hid (RdI ((w.alloc (.cells #[.int .i64 A.k, .int .i64 A.r, .int .i64 A.a, .int .i64 A.b, v] 25)).alloc (.cells #[.int .i64 0, .int .i64 0, .int .i64 0, .int .i64 0, .slice none 0 0] 25)).heap.size ((w.alloc (.cells #[.int .i64 A.k, .int .i64 A.r, .int .i64 A.a, .int .i64 A.b, v] 25)).alloc (.cells #[.int .i64 0, .int .i64 0, .int .i64 0, .int .i64 0, .slice none 0 0] 25)) u z) := (hu.next (bel1 _ _)).next (bel1 _ _)
  obtain ⟨p, cap, rfl, hcap, hcap2, hcell⟩ := hv
  obtain ⟨p', cap', rfl, hcap', hcap2', hcell'⟩ := hu
  clear hcell hcell' hw
  unfold ofR at hA ⊢
  by_cases h1 : A.r = 1
  · rw [if_pos h1] at hA ⊢
    have HMk := Lib.hid (fun W h1 h2 => fmake_ok hA (.slice p' z.length cap') W h1 h2 hl)
    have k1 : (A.r == 1) = true := by simpa using h1
    clear h1 hA
    go_enter Tryd.func75, Tryd.ntmps75
    go_wp2_with (first | (go_at_call 70; (with_reducible refine (HMk.out _ HK.out.lay HU.out).mono ?_); rintro e w2 ⟨q, qc, rfl, hu, hb⟩; have HR := Lib.hid hu; have hlt := HK.out.sz; have HK2 := Lib.hid (HK.out.next hb); clear HK x0 x1 x2 x3 x4; have HK := HK2; clear HK2; have x0 := HK.out.box.c0; have x1 := HK.out.box.c1; have x2 := HK.out.box.c2; have x3 := HK.out.box.c3; have x4 := HK.out.box.c4; clear hu hb HU; have y0 := HK.out.res.c0; have y1 := HK.out.res.c1; have y2 := HK.out.res.c2; have y3 := HK.out.res.c3; have y4 := HK.out.res.c4; have f0 := HK.out.res.fr 0; have f1 := HK.out.res.fr 1; have f2 := HK.out.res.fr 2; have f3 := HK.out.res.fr 3; have f4 := HK.out.res.fr 4; have HS := Lib.hid (HK.out.res.set 1 0 0 0 (.slice q z.length qc)); have z0 := HS.out.c0; have z1 := HS.out.c1; have z2 := HS.out.c2; have z3 := HS.out.c3; have z4 := HS.out.c4) | fail)
    refine bodyPost_ret (v := .tuple #[A5 1 0 0 0 (.slice q z.length qc), .int .i64 0]) (by simp [results, Tryd.results75, go_sem, z0, z1, z2, z3, z4]) rfl ?_
    exact ⟨_, rfl, (HR.out.st5 (by omega) _ _ _ _ _).mono (by omega), st5_below _ _ _ _ _ (by omega) HK.out.bel⟩
  · rw [if_neg h1] at hA ⊢
    have HMk := Lib.hid (fun W h1 h2 => fmake_ok hA (.slice p' z.length cap') W h1 h2 hl)
    have k1 : (A.r == 1) = false := by simpa using h1
    clear h1 hA
    go_enter Tryd.func75, Tryd.ntmps75
    go_wp2_with (first | (go_at_call 70; (with_reducible refine (HMk.out _ HK.out.lay HU.out).mono ?_); rintro e w2 ⟨q, qc, rfl, hu, hb⟩; have HR := Lib.hid hu; have hlt := HK.out.sz; have HK2 := Lib.hid (HK.out.next hb); clear HK x0 x1 x2 x3 x4; have HK := HK2; clear HK2; have x0 := HK.out.box.c0; have x1 := HK.out.box.c1; have x2 := HK.out.box.c2; have x3 := HK.out.box.c3; have x4 := HK.out.box.c4; clear hu hb HU; have y0 := HK.out.res.c0; have y1 := HK.out.res.c1; have y2 := HK.out.res.c2; have y3 := HK.out.res.c3; have y4 := HK.out.res.c4; have f0 := HK.out.res.fr 0; have f1 := HK.out.res.fr 1; have f2 := HK.out.res.fr 2; have f3 := HK.out.res.fr 3; have f4 := HK.out.res.fr 4; have HS := Lib.hid (HK.out.res.set 1 1 (z.length : Int) 0 (.slice q z.length qc)); have z0 := HS.out.c0; have z1 := HS.out.c1; have z2 := HS.out.c2; have z3 := HS.out.c3; have z4 := HS.out.c4) | fail)
    refine bodyPost_ret (v := .tuple #[A5 1 1 (z.length : Int) 0 (.slice q z.length qc), .int .i64 0]) (by simp [results, Tryd.results75, go_sem, z0, z1, z2, z3, z4]) rfl ?_
    exact ⟨_, rfl, (HR.out.st5 (by omega) _ _ _ _ _).mono (by omega), st5_below _ _ _ _ _ (by omega) HK.out.bel⟩
end Go.Proofs.YtokmdgiialcokaaDoor
