/- Rows of the code. -/
import Derived.Test.YtdbampgbbghfkaaDoorArO
import Derived.Test.YtdbampgbbghfkaaDoorArM
import Derived.Deep.OwnRows
namespace Go.Proofs.YtdbampgbbghfkaaDoor
open Go.RowKit

/-- How many rows an array has, and how many cells each has. -/
def rwN (A : Ar) : Nat := (rw0 A.r A.a A.b).toNat
def rwM (A : Ar) : Nat := (rw1 A.r A.a A.b).toNat
def rwI (A : Ar) (i : Nat) : List Int := (A.z.drop (i * rwM A)).take (rwM A)
def rwL (A : Ar) : List (List Int) := if ck A = 0 then (List.range (rwN A)).map (rwI A) else []
theorem rw_good {A : Ar} (h : Good A) : rw0 A.r A.a A.b = (rwN A : Int) ∧ rw1 A.r A.a A.b = (rwM A : Int) ∧ rwN A * rwM A = A.z.length ∧ rwN A ≤ 400 ∧ rwM A ≤ 400 := by
  have hl := h.len
  have hb := h.sh.bd
  have hk := sh_ok h.sh
  unfold rwN rwM rw0 rw1
  rw [if_pos hk, if_pos hk]
  by_cases h2 : A.r = 2
  · rw [if_pos h2, if_pos h2]
    unfold cn at hl
    rw [if_neg (by omega), if_neg (by omega)] at hl
    refine ⟨by omega, by omega, ?_, by omega, by omega⟩
    have e1 : A.a = (A.a.toNat : Int) := by omega
    have e2 : A.b = (A.b.toNat : Int) := by omega
    rw [e1, e2] at hl
    have : ((A.a.toNat * A.b.toNat : Nat) : Int) = (A.z.length : Int) := by rw [Int.natCast_mul]; exact hl.symm
    omega
  · rw [if_neg h2, if_neg h2]
    exact ⟨by omega, by omega, by simp; omega, by omega, by omega⟩
theorem rwI_len {A : Ar} (h : Good A) {i : Nat} (hi : i < rwN A) : (rwI A i).length = rwM A := by
  obtain ⟨_, _, h3, _, _⟩ := rw_good h
  unfold rwI
  rw [List.length_take, List.length_drop, ← h3]
  have : (i + 1) * rwM A ≤ rwN A * rwM A := Nat.mul_le_mul_right _ hi
  rw [Nat.add_mul] at this
  omega
theorem rwI_get {A : Ar} {i t : Nat} (ht : t < (rwI A i).length) {h : i * rwM A + t < A.z.length} : (rwI A i)[t] = A.z[i * rwM A + t] := by
  simp only [rwI, List.getElem_take, List.getElem_drop]
theorem rwL_len {A : Ar} (h : ck A = 0) : (rwL A).length = rwN A := by unfold rwL; rw [if_pos h]; simp
theorem rwL_get {A : Ar} (h : ck A = 0) (i : Nat) (hi : i < (rwL A).length) : (rwL A)[i] = rwI A i := by
  unfold rwL at hi ⊢
  simp only [if_pos h]
  simp
theorem infoS : (Tryd.prog.info? 22).map (fun i => (i.zero, i.size, i.bytes)) = some (some (.slice none 0 0), 1, 24) := by kernel_rfl

/-- The rows, as far as they have been cut. -/
def sf (g m k i : Nat) : Value := if i < k then .slice (some ⟨g, i * m, none⟩) m m else .slice none 0 0
theorem sf_next {w : World} {b g m k n : Nat} {x : Value} (h : w.rowIs b 22 n (sf g m k)) (hx : .slice (some ⟨g, k * m, none⟩) m m = x) : (w.setCell ⟨b, k, none⟩ x).rowIs b 22 n (sf g m (k + 1)) := by
  subst hx
  refine (h.set k _).congr fun i hi => ?_
  show (if i = k then Value.slice (some ⟨g, k * m, none⟩) m m else sf g m k i) = sf g m (k + 1) i
  unfold sf
  by_cases e : i = k
  · subst e; rw [if_pos rfl, if_pos (by omega)]
  · rw [if_neg e]
    by_cases e2 : i < k
    · rw [if_pos e2, if_pos (by omega)]
    · rw [if_neg e2, if_neg (by omega)]
/-- What a walk of Rows keeps. -/
structure KO (w : World) (A : Ar) (v : Value) (W : World) : Prop where
  bel : Below w.heap.size w W
  blk : R5 W w.heap.size A.k A.r A.a A.b v
  rd : RdI w.heap.size W v A.z
  lay : Ru.Lay W
theorem KO.next {w W W' : World} {A : Ar} {v : Value} (h : KO w A v W) (hb : Below W.heap.size W W') : KO w A v W' :=
  ⟨h.bel.trans (hb.mono h.bel.size), h.blk.next hb, h.rd.below (hb.mono h.bel.size), h.lay.next hb⟩
theorem KO.rdn {w W : World} {A : Ar} {v : Value} (h : KO w A v W) : RdI W.heap.size W v A.z := h.rd.mono h.bel.size
theorem KO.new {w : World} {A : Ar} {v : Value} (hw : Ru.Lay w) (hv : RdI w.heap.size w v A.z) : KO w A v (w.alloc (.cells #[.int .i64 A.k, .int .i64 A.r, .int .i64 A.a, .int .i64 A.b, v] 27)) :=
  ⟨bel1 _ _, R5.new _ _ _ _ _ _, hv.below (bel1 _ _), hw.alloc _⟩

theorem rows_done {A : Ar} (hk : ck A = 0) {W V : World} {b g : Nat} (hg : g < W.heap.size)
    (hcs : ∀ j (hj : j < A.z.length), W.cell? ⟨g, j, none⟩ = some (.int .i64 A.z[j])) (hgg : V.heap[g]? = W.heap[g]?)
    (hr : V.rowIs b 22 (rwN A) (sf g (rwM A) (rwN A))) : RdM V.heap.size V (.slice (some ⟨b, 0, none⟩) (rwN A) (rwN A)) (rwL A) := by
  obtain ⟨_, _, r2, r3, r4⟩ := rw_good (ck_good hk)
  have hgV : g < V.heap.size := by
    rw [Array.getElem?_eq_getElem hg] at hgg
    exact (Array.getElem?_eq_some_iff.1 hgg).1
  have hbV : b < V.heap.size := by
    obtain ⟨c, hc, _⟩ := hr
    exact (Array.getElem?_eq_some_iff.1 hc).1
  have hL := rwL_len hk
  refine ⟨some ⟨b, 0, none⟩, rwN A, by rw [hL], ⟨by rw [hL]; exact Nat.le_refl _, by omega⟩, fun _ => ⟨b, 0, rfl, hbV, fun i hi => ⟨_, (by rw [Nat.zero_add]; exact hr.cell (by omega)), ?_, ?_⟩⟩⟩
  · rw [rwL_get hk i hi]
    have hi' : i < rwN A := by omega
    have hI := rwI_len (ck_good hk) hi'
    unfold sf
    rw [if_pos hi']
    refine ⟨some ⟨g, i * rwM A, none⟩, rwM A, by rw [hI], by rw [hI]; exact Nat.le_refl _, by omega, fun _ => ⟨g, i * rwM A, rfl, hgV, fun t ht => ?_⟩⟩
    have hle : (i + 1) * rwM A ≤ rwN A * rwM A := Nat.mul_le_mul_right _ hi'
    rw [Nat.add_mul] at hle
    have hc : V.cell? ⟨g, i * rwM A + t, none⟩ = W.cell? ⟨g, i * rwM A + t, none⟩ := by
      unfold World.cell?
      show (match V.heap[g]? with | some (.cells c _ _) => _ | _ => none) = _
      rw [hgg]
      rfl
    rw [hc, hcs _ (by omega)]
    rw [rwI_get ht]
  · intro n c e
    unfold sf at e
    rw [if_pos (by omega)] at e
    cases e
theorem ins_none {W : World} {B : Nat} {u : Value} {z : List Int} (h : Ru.Ins 2 W B u z) (hz : z = []) : ∃ q c, u = .slice q 0 c ∧ c ≤ 9223372036854775807 ∧ ((q = none ∧ c = 0) ∨ ∃ g, q = some ⟨g, 0, none⟩) := by
  subst hz
  obtain ⟨h1, ⟨rfl, h0⟩ | ⟨g, cap, cur, rfl, hg, hh, r1, r2, r3, r4⟩⟩ := h
  · exact ⟨none, 0, rfl, by omega, .inl ⟨rfl, rfl⟩⟩
  · exact ⟨_, cap, rfl, r2, .inr ⟨g, rfl⟩⟩
/-- The same where there is nothing to cut. -/
def ef (q : Option Addr) (k i : Nat) : Value := if i < k then .slice q 0 0 else .slice none 0 0
theorem ef_next {w : World} {b k n : Nat} {q : Option Addr} {x : Value} (h : w.rowIs b 22 n (ef q k)) (hx : .slice q 0 0 = x) : (w.setCell ⟨b, k, none⟩ x).rowIs b 22 n (ef q (k + 1)) := by
  subst hx
  refine (h.set k _).congr fun i hi => ?_
  show (if i = k then Value.slice q 0 0 else ef q k i) = ef q (k + 1) i
  unfold ef
  by_cases e : i = k
  · subst e; rw [if_pos rfl, if_pos (by omega)]
  · rw [if_neg e]
    by_cases e2 : i < k
    · rw [if_pos e2, if_pos (by omega)]
    · rw [if_neg e2, if_neg (by omega)]
theorem rows_none {A : Ar} (hk : ck A = 0) (hz : A.z = []) {V : World} {b : Nat} {q : Option Addr}
    (hr : V.rowIs b 22 (rwN A) (ef q (rwN A))) : RdM V.heap.size V (.slice (some ⟨b, 0, none⟩) (rwN A) (rwN A)) (rwL A) := by
  obtain ⟨_, _, r2, r3, r4⟩ := rw_good (ck_good hk)
  have hbV : b < V.heap.size := by
    obtain ⟨c, hc, _⟩ := hr
    exact (Array.getElem?_eq_some_iff.1 hc).1
  have hL := rwL_len hk
  refine ⟨some ⟨b, 0, none⟩, rwN A, by rw [hL], ⟨by rw [hL]; exact Nat.le_refl _, by omega⟩, fun _ => ⟨b, 0, rfl, hbV, fun i hi => ⟨_, (by rw [Nat.zero_add]; exact hr.cell (by omega)), ?_, ?_⟩⟩⟩
  · rw [rwL_get hk i hi]
    have hi' : i < rwN A := by omega
    have hI : rwI A i = [] := by unfold rwI; rw [hz]; simp
    unfold ef
    rw [if_pos hi', hI]
    exact ⟨q, 0, rfl, Nat.le_refl _, by omega, fun h => absurd rfl h⟩
  · intro n c e
    unfold ef at e
    rw [if_pos (by omega)] at e
    cases e
    rfl
theorem ins_cap {W : World} {B g n c : Nat} {z : List Int} (h : Ru.Ins 2 W B (.slice (some ⟨g, 0, none⟩) n c) z) : n ≤ c ∧ c ≤ 9223372036854775807 := by
  obtain ⟨h1, ⟨h2, h0⟩ | ⟨g', cap, cur, h2, hg, hh, r1, r2, r3, r4⟩⟩ := h
  · cases h2
  · cases h2; exact ⟨r1, r2⟩
set_option maxRecDepth 100000 in
set_option maxHeartbeats 4000000 in
theorem rows_code (A : Ar) (v : Value) (w : World) (hw : Ru.Lay w) (hv : RdI w.heap.size w v A.z) (hn : Ru.NilC v) (hl : A.z.length ≤ 1000) :
    Calls Tryd.prog 18 #[A5 A.k A.r A.a A.b v] w fun e w' => ∃ u, e = .returned (.tuple #[u, .int .i64 (ck A)]) ∧ RdM w'.heap.size w' u (rwL A) ∧ Below w.heap.size w w' := by
  have HC := Lib.hid (fun W h1 h2 => acheck_any A v W h1 h2 (by omega))
  have HCl := Lib.hid (fun W h1 => clone_any v A.z W h1 hn (by omega))
  have HRw := Lib.hid (fun W => rows_any A.r A.a A.b W)
  have HK := Lib.hid (KO.new (A := A) hw hv)
  have x0 := HK.out.blk.c0; have x1 := HK.out.blk.c1; have x2 := HK.out.blk.c2; have x3 := HK.out.blk.c3; have x4 := HK.out.blk.c4
  obtain ⟨p, cap, rfl, hcap, hcap2, hcell⟩ := hv
  clear hcell hw hn
  by_cases h1 : ck A = 0
  · obtain ⟨r0, r1, r2, r3, r4⟩ := rw_good (ck_good h1)
    rw [h1] at HC ⊢
    rw [r0, r1, sh_ok (ck_good h1).sh] at HRw
    have HLen := Lib.hid (rwL_len h1)
    have HGet := Lib.hid (rwL_get h1)
    have HIl := Lib.hid (fun i (hi : i < rwN A) => rwI_len (ck_good h1) hi)
    obtain ⟨i0, hi, hz0, hz1, hz2⟩ := info_parts infoS
    have hmk := fun W : World => run_make (P := Tryd.prog) W 23 22 i0 (.slice none 0 0) Tryd.underlying23 hi hz0 .i64 .i64 (rwN A) (rwN A) (by omega) (by omega) (by rw [hz2]; omega) (by omega)
    simp only [Int.toNat_natCast, hz1, Nat.mul_one] at hmk
    have HD := Lib.hid (fun W V b g hg hcs hgg hr => rows_done (A := A) h1 (W := W) (V := V) (b := b) (g := g) hg hcs hgg hr)
    have h1x := h1
    clear h1 r0 r1
    by_cases hz : A.z = []
    · have HDN := Lib.hid (fun V b q hr => rows_none (A := A) h1x hz (V := V) (b := b) (q := q) hr)
      have HZ := Lib.hid hz
      clear h1x hz
      go_enter Tryd.func18, Tryd.ntmps18
      go_wp2_with (first
        | (go_at_call 17; (with_reducible refine (HC.out _ (by with_unfolding_all exact HK.out.lay) (by with_unfolding_all exact HK.out.rdn)).mono ?_); rintro e w' ⟨rfl, hb⟩; have HK2 := Lib.hid (HK.out.next hb); clear HK hb x0 x1 x2 x3 x4; have HK := HK2; clear HK2; have x1 := HK.out.blk.c1; have x2 := HK.out.blk.c2; have x3 := HK.out.blk.c3; have x4 := HK.out.blk.c4)
        | (go_at_call 35; (with_reducible refine (HRw.out _).mono ?_); rintro e w' ⟨rfl, hb⟩; have HK2 := Lib.hid (HK.out.next hb); clear HK hb x1 x2 x3 x4; have HK := HK2; clear HK2; have x4 := HK.out.blk.c4)
        | (go_at_call 36; (with_reducible refine (HCl.out _ (by with_unfolding_all exact HK.out.rdn)).mono ?_); rintro e wc ⟨u, rfl, hu, hb⟩; obtain ⟨q, uc, rfl, hc2, hq⟩ := ins_none hu HZ.out; have HQ := Lib.hid hq; clear hq; have HK2 := Lib.hid (HK.out.next hb); clear HK hb x4 hu; have HK := HK2; clear HK2; have hmk1 := hmk wc))
      obtain ⟨n, hn⟩ : ∃ n, rwN A = n := ⟨_, rfl⟩
      obtain ⟨m, hm⟩ : ∃ m, rwM A = m := ⟨_, rfl⟩
      have HNM := Lib.hid (And.intro hn hm)
      rw [hn] at hmk1 ⊢
      rw [hm] at ⊢
      rw [hn, hm] at r2
      rw [hn] at r3
      rw [hm] at r4
      have HB0 := Lib.hid (HK.out.bel.trans ((bel1 wc (.cells (madeCells (Value.slice none 0 0).cells n) 22)).mono HK.out.bel.size))
      have HR0 : Hid ((wc.alloc (.cells (madeCells (Value.slice none 0 0).cells n) 22)).rowIs wc.heap.size 22 n (ef q 0)) := (World.rowIs_made wc (.slice none 0 0) n 22).congr fun i _ => by unfold ef; rw [if_neg (by omega)]
      have hws : w.heap.size ≤ wc.heap.size := HK.out.bel.size
      clear hn hm hmk1 HK
      go_loopg [34] n (fun gk i wr => ∃ j : Nat, j + gk = n ∧ i = .int .i64 j ∧ Below w.heap.size w wr ∧ wr.rowIs wc.heap.size 22 n (ef q j))
      case atStart => exact ⟨0, by omega, rfl, HB0.out, HR0.out⟩
      case round =>
        obtain ⟨j, hjg, rfl, hb, hrow⟩ := hrel
        have HB := Lib.hid hb
        have HRo := Lib.hid hrow
        clear hb hrow HB0 HR0
        cases gk with
        | zero =>
          have hjz : ¬ ((j : Int) < (n : Int)) := by omega
          go_wp2
          obtain rfl : j = n := by omega
          obtain ⟨e1, e2⟩ := HNM.out
          have hd := HDN.out wr wc.heap.size q
          rw [e1] at hd
          go_ret2
          exact ⟨_, rfl, hd HRo.out, HB.out⟩
        | succ g2 =>
          have hjz : (j : Int) < (n : Int) := by omega
          have hj : j < n := by omega
          have hz3 : A.z.length = 0 := by rw [HZ.out]; rfl
          have hm0 : m = 0 := by
            rcases Nat.eq_zero_or_pos m with e | e
            · exact e
            · have := Nat.mul_pos (show 0 < n by omega) e
              omega
          subst hm0
          clear hz3 r2
          have hw0 : IntKind.i64.wrap ((j : Int) + 1) = (j : Int) + 1 := by rw [IntKind.wrap_i64]; omega
          have hw1 : IntKind.i64.wrap 0 = 0 := by rw [IntKind.wrap_i64]; omega
          have hy : wr.cell? ⟨wc.heap.size, j, none⟩ = some (.slice none 0 0) := by
            rw [HRo.out.cell hj]; unfold ef; rw [if_neg (by omega)]
          have hyf : wr.frozen? ⟨wc.heap.size, j, none⟩ = false := HRo.out.frozen j
          obtain ⟨rfl, rfl⟩ | ⟨g, rfl⟩ := HQ.out
          · go_wp2
            go_roundg g2
            case measure => omega
            exact ⟨j + 1, by omega, by go_num, HB.out.setCell (by show w.heap.size ≤ wc.heap.size; omega) _, ef_next HRo.out (by go_num)⟩
          · go_wp2
            go_roundg g2
            case measure => omega
            exact ⟨j + 1, by omega, by go_num, HB.out.setCell (by show w.heap.size ≤ wc.heap.size; omega) _, ef_next HRo.out (by go_num)⟩
    · clear h1x
      go_enter Tryd.func18, Tryd.ntmps18
      go_wp2_with (first
        | (go_at_call 17; (with_reducible refine (HC.out _ (by with_unfolding_all exact HK.out.lay) (by with_unfolding_all exact HK.out.rdn)).mono ?_); rintro e w' ⟨rfl, hb⟩; have HK2 := Lib.hid (HK.out.next hb); clear HK hb x0 x1 x2 x3 x4; have HK := HK2; clear HK2; have x1 := HK.out.blk.c1; have x2 := HK.out.blk.c2; have x3 := HK.out.blk.c3; have x4 := HK.out.blk.c4)
        | (go_at_call 35; (with_reducible refine (HRw.out _).mono ?_); rintro e w' ⟨rfl, hb⟩; have HK2 := Lib.hid (HK.out.next hb); clear HK hb x1 x2 x3 x4; have HK := HK2; clear HK2; have x4 := HK.out.blk.c4)
        | (go_at_call 36; (with_reducible refine (HCl.out _ (by with_unfolding_all exact HK.out.rdn)).mono ?_); rintro e wc ⟨u, rfl, hu, hb⟩; obtain ⟨g, uc, rfl, ⟨hg1, hg2⟩, hcs, hfs, hset⟩ := ins_some hu hz; have HCs := Lib.hid hcs; obtain ⟨hc1, hc2⟩ := ins_cap hu; have HK2 := Lib.hid (HK.out.next hb); clear HK hb x4 hfs hset hcs hu; have HK := HK2; clear HK2; have hmk1 := hmk wc))
      obtain ⟨n, hn⟩ : ∃ n, rwN A = n := ⟨_, rfl⟩
      obtain ⟨m, hm⟩ : ∃ m, rwM A = m := ⟨_, rfl⟩
      have HNM := Lib.hid (And.intro hn hm)
      rw [hn] at hmk1 ⊢
      rw [hm] at ⊢
      rw [hn, hm] at r2
      rw [hn] at r3
      rw [hm] at r4
      have HB0 := Lib.hid (HK.out.bel.trans ((bel1 wc (.cells (madeCells (Value.slice none 0 0).cells n) 22)).mono HK.out.bel.size))
      have HR0 : Hid ((wc.alloc (.cells (madeCells (Value.slice none 0 0).cells n) 22)).rowIs wc.heap.size 22 n (sf g m 0)) := (World.rowIs_made wc (.slice none 0 0) n 22).congr fun i _ => by unfold sf; rw [if_neg (by omega)]
      have HG0 : Hid ((wc.alloc (.cells (madeCells (Value.slice none 0 0).cells n) 22)).heap[g]? = wc.heap[g]?) := (bel1 wc _).block g hg2
      have hws : w.heap.size ≤ wc.heap.size := HK.out.bel.size
      clear hn hm hmk1 HK
      go_loopg [34] n (fun gk i wr => ∃ j : Nat, j + gk = n ∧ i = .int .i64 j ∧ Below w.heap.size w wr ∧ wr.rowIs wc.heap.size 22 n (sf g m j) ∧ wr.heap[g]? = wc.heap[g]?)
      case atStart => exact ⟨0, by omega, rfl, HB0.out, HR0.out, HG0.out⟩
      case round =>
        obtain ⟨j, hjg, rfl, hb, hrow, hgg⟩ := hrel
        have HB := Lib.hid hb
        have HRo := Lib.hid hrow
        have HGg := Lib.hid hgg
        clear hb hrow hgg HB0 HR0 HG0
        cases gk with
        | zero =>
          have hjz : ¬ ((j : Int) < (n : Int)) := by omega
          go_wp2
          obtain rfl : j = n := by omega
          obtain ⟨e1, e2⟩ := HNM.out
          have hd := HD.out wc wr wc.heap.size g hg2 HCs.out HGg.out
          rw [e1, e2] at hd
          go_ret2
          exact ⟨_, rfl, hd HRo.out, HB.out⟩
        | succ g2 =>
          have hjz : (j : Int) < (n : Int) := by omega
          have hj : j < n := by omega
          have hle : (j + 1) * m ≤ n * m := Nat.mul_le_mul_right _ (by omega)
          have hw0 : IntKind.i64.wrap ((j : Int) + 1) = (j : Int) + 1 := by rw [IntKind.wrap_i64]; omega
          have hjm : (j + 1) * m = j * m + m := by rw [Nat.add_mul]; omega
          have hw1 : IntKind.i64.wrap ((j : Int) * (m : Int)) = ((j * m : Nat) : Int) := by rw [← Int.natCast_mul, IntKind.wrap_i64]; omega
          have hw2 : IntKind.i64.wrap (((j : Int) + 1) * (m : Int)) = (((j + 1) * m : Nat) : Int) := by rw [show ((j : Int) + 1) = ((j + 1 : Nat) : Int) by omega, ← Int.natCast_mul, IntKind.wrap_i64]; omega
          have hz3 : 0 < A.z.length := List.length_pos_iff.2 hz
          have hm0 : 0 < m := by rcases Nat.eq_zero_or_pos m with e | e; (rw [e] at r2; omega); exact e
          have hj0 : (0 : Int) ≤ (j : Int) * (m : Int) := by rw [← Int.natCast_mul]; omega
          have hb1 : (j : Int) * (m : Int) + (m : Int) ≤ (uc : Int) := by rw [← Int.natCast_mul]; omega
          have hy : wr.cell? ⟨wc.heap.size, j, none⟩ = some (.slice none 0 0) := by
            rw [HRo.out.cell hj]; unfold sf; rw [if_neg (by omega)]
          have hyf : wr.frozen? ⟨wc.heap.size, j, none⟩ = false := HRo.out.frozen j
          go_wp2
          go_roundg g2
          case measure => omega
          exact ⟨j + 1, by omega, by go_num, HB.out.setCell (by show w.heap.size ≤ wc.heap.size; omega) _, sf_next HRo.out (by go_num), (Below.heap_setCell _ _ _ _ (by show g ≠ wc.heap.size; omega)).trans HGg.out⟩
  · have HE : Hid (rwL A = []) := if_neg h1
    obtain ⟨E, hE⟩ : ∃ E, ck A = E := ⟨_, rfl⟩
    rw [hE] at HC h1 ⊢
    have k1 : (E != 0) = true := by simpa using h1
    clear h1 hE
    go_enter Tryd.func18, Tryd.ntmps18
    go_wp2_with (go_at_call 17; (with_reducible refine (HC.out _ (by with_unfolding_all exact HK.out.lay) (by with_unfolding_all exact HK.out.rdn)).mono ?_); rintro e w' ⟨rfl, hb⟩; have HK2 := Lib.hid (HK.out.next hb); clear HK hb x0 x1 x2 x3 x4; have HK := HK2; clear HK2)
    go_ret2
    rw [HE.out]
    exact ⟨_, rfl, ⟨none, 0, rfl, ⟨Nat.le_refl _, by omega⟩, fun h => absurd rfl h⟩, HK.out.bel⟩
end Go.Proofs.YtdbampgbbghfkaaDoor
