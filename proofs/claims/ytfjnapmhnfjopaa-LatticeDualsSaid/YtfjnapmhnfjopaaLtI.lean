/- Make. -/
import Derived.Test.YtfjnapmhnfjopaaLtK
namespace Go.Proofs.Ytfjnapmhnfjopaa
open Go.RowKit

def mkBad (rows : List ByteArray) (n i : Nat) : Bool := !rrB (byt (rows.getD i ByteArray.empty)) n
def mkF (rows : List ByteArray) (n : Nat) : Option Nat := (List.range rows.length).find? (mkBad rows n)
def mkU (rows : List ByteArray) (n : Nat) : List UInt8 := (List.range rows.length).map fun i => UInt8.ofNat (rrN (byt (rows.getD i ByteArray.empty)) n)
theorem mkU_len (rows : List ByteArray) (n : Nat) : (mkU rows n).length = rows.length := by simp [mkU]
/-- What Make returns: the index, the error, the lattice. -/
def mkV (ns rows : List ByteArray) : Int × Int × List ByteArray × List UInt8 :=
  if ns.length < 1 ∨ 8 < ns.length ∨ rows.length ≠ ns.length then (-1, 3, [], []) else
  match mkF rows ns.length with
  | some i => (i, 6, [], [])
  | none => if ((ck ns (mkU rows ns.length)).2 != 0) = true then ((ck ns (mkU rows ns.length)).1, (ck ns (mkU rows ns.length)).2, [], []) else (0, 0, ns, mkU rows ns.length)
theorem mkV_A {ns rows : List ByteArray} (h : ns.length < 1 ∨ 8 < ns.length ∨ rows.length ≠ ns.length) : mkV ns rows = (-1, 3, [], []) := if_pos h
theorem mkV_B {ns rows : List ByteArray} {i : Nat} (h : ¬ (ns.length < 1 ∨ 8 < ns.length ∨ rows.length ≠ ns.length)) (h2 : mkF rows ns.length = some i) : mkV ns rows = ((i : Int), 6, [], []) := by
  unfold mkV; rw [if_neg h, h2]
theorem mkV_C {ns rows : List ByteArray} (h : ¬ (ns.length < 1 ∨ 8 < ns.length ∨ rows.length ≠ ns.length)) (h2 : mkF rows ns.length = none) (h3 : ((ck ns (mkU rows ns.length)).2 != 0) = true) : mkV ns rows = ((ck ns (mkU rows ns.length)).1, (ck ns (mkU rows ns.length)).2, [], []) := by
  unfold mkV; rw [if_neg h, h2]; simp only; rw [if_pos h3]
theorem mkV_D {ns rows : List ByteArray} (h : ¬ (ns.length < 1 ∨ 8 < ns.length ∨ rows.length ≠ ns.length)) (h2 : mkF rows ns.length = none) (h3 : ((ck ns (mkU rows ns.length)).2 != 0) = false) : mkV ns rows = (0, 0, ns, mkU rows ns.length) := by
  unfold mkV; rw [if_neg h, h2]; simp only; rw [if_neg (by rw [h3]; decide)]

theorem own_set {w : World} {base : Nat} {e : TypeId} {size : Nat} {v : Value} {n : Nat} {xs : List Value} (h : w.ownsRow base e size v n xs) {a : Addr} (ha : a.block < base) (x : Value) : (w.setCell a x).ownsRow base e size v n xs := by
  obtain ⟨h1, h2⟩ := h
  refine ⟨h1, ?_⟩
  rcases h2 with h2 | ⟨g, cap, cur, hv, hg, hh, r⟩
  · exact .inl h2
  · refine .inr ⟨g, cap, cur, hv, hg, ?_, r⟩
    have : a.block ≠ g := by omega
    simp [World.setCell, Array.getElem?_modify, this, hh]
theorem rdl_nil (B : Nat) (w : World) : RdL B w (.agg #[.slice none 0 0, .slice none 0 0]) [] [] :=
  ⟨⟨_, _, rfl, ⟨none, 0, rfl, Nat.le_refl _, by omega, fun h => absurd rfl h⟩, ⟨none, 0, rfl, Nat.le_refl _, by omega, fun h => absurd rfl h⟩⟩, by simp⟩
/-- The numbers of the rows, as far as they have been read. -/
def uf (rows : List ByteArray) (n k : Nat) (i : Nat) : Value := if i < k then .int .u8 (rrN (byt (rows.getD i ByteArray.empty)) n : Int) else .int .u8 0
theorem uf_next {w : World} {b : Nat} {rows : List ByteArray} {n k m : Nat} {z : Int} (h : w.rowIs b 5 m (uf rows n k)) (hz : (rrN (byt (rows.getD k ByteArray.empty)) n : Int) = z) : (w.setCell ⟨b, k, none⟩ (.int .u8 z)).rowIs b 5 m (uf rows n (k + 1)) := by
  refine (h.set k _).congr fun i hi => ?_
  show (if i = k then Value.int .u8 z else uf rows n k i) = uf rows n (k + 1) i
  unfold uf
  by_cases e : i = k
  · subst e; rw [if_pos rfl, if_pos (by omega), hz]
  · rw [if_neg e]
    by_cases e2 : i < k
    · rw [if_pos e2, if_pos (by omega)]
    · rw [if_neg e2, if_neg (by omega)]
theorem uf_all {w : World} {b : Nat} {rows : List ByteArray} {n : Nat} (h : w.rowIs b 5 rows.length (uf rows n rows.length)) (hn : n ≤ 8) (hr : rows.length ≤ 8) : RdB w.heap.size w (.slice (some ⟨b, 0, none⟩) rows.length rows.length) (mkU rows n) := by
  refine row_rd (mkU_len rows n) (by rw [mkU_len]; omega) (h.congr fun i hi => ?_)
  unfold uf
  rw [if_pos hi]
  unfold mkU vb
  rw [List.getD_eq_getElem?_getD (l := List.map _ _), List.getElem?_map, List.getElem?_range hi]
  simp only [Option.map_some, Option.getD_some, UInt8.toNat_ofNat']
  have h1 := rrN_lt (byt (rows.getD i ByteArray.empty)) n
  have h2 : 2 ^ n ≤ 2 ^ 8 := Nat.pow_le_pow_right (by decide) hn
  rw [Nat.mod_eq_of_lt (by omega)]

/-- What Make leaves. -/
def MkP (ns rows : List ByteArray) (w : World) (e : Ending) (w' : World) : Prop :=
  ∃ x, e = .returned (.tuple #[x, .int .i64 (mkV ns rows).1, .int .i64 (mkV ns rows).2.1]) ∧ RdL w'.heap.size w' x (mkV ns rows).2.2.1 (mkV ns rows).2.2.2 ∧ Below w.heap.size w w'
theorem mkP_zero {ns rows : List ByteArray} {w w' : World} {i e : Int} (h : mkV ns rows = (i, e, [], [])) (hb : Below w.heap.size w w') : MkP ns rows w (.returned (.tuple #[.agg #[.slice none 0 0, .slice none 0 0], .int .i64 i, .int .i64 e])) w' := by
  unfold MkP; rw [h]; exact ⟨_, rfl, rdl_nil _ _, hb⟩

set_option maxRecDepth 100000 in
set_option maxHeartbeats 4000000 in
theorem make_any (v u : Value) (ns rows : List ByteArray) (w : World) (hv : RdS w.heap.size w v ns) (hu : RdS w.heap.size w u rows) (hs : ∀ s ∈ ns, s.size ≤ 281474976710656) (ht : ∀ s ∈ rows, s.size ≤ 9223372036854775807) :
    Calls Try.prog 16 #[v, u] w (MkP ns rows w) := by
  have HV := Lib.hid hv
  have HU := Lib.hid hu
  obtain ⟨p, cap, rfl, hc, hc2, h⟩ := hv
  obtain ⟨q, cap', rfl, hc', hc2', h'⟩ := hu
  clear h h'
  have HS := Lib.hid hs
  have HT := Lib.hid ht
  clear hs ht
  by_cases hA : ns.length < 1 ∨ 8 < ns.length ∨ rows.length ≠ ns.length
  · have HK : Hid (mkV ns rows = (-1, 3, [], [])) := mkV_A hA
    rcases hA with h1 | h2
    · go_enter Try.func16, Try.ntmps16
      go_wp2
      exact bodyPost_ret (v := .tuple #[.agg #[.slice none 0 0, .slice none 0 0], .int .i64 (-1), .int .i64 3]) (by simp [results, Try.results16, go_sem]) rfl (mkP_zero HK.out (bel1 _ _))
    · by_cases h1 : ns.length < 1
      · go_enter Try.func16, Try.ntmps16
        go_wp2
        exact bodyPost_ret (v := .tuple #[.agg #[.slice none 0 0, .slice none 0 0], .int .i64 (-1), .int .i64 3]) (by simp [results, Try.results16, go_sem]) rfl (mkP_zero HK.out (bel1 _ _))
      · by_cases h8 : 8 < ns.length
        · go_enter Try.func16, Try.ntmps16
          go_wp2
          exact bodyPost_ret (v := .tuple #[.agg #[.slice none 0 0, .slice none 0 0], .int .i64 (-1), .int .i64 3]) (by simp [results, Try.results16, go_sem]) rfl (mkP_zero HK.out (bel1 _ _))
        · have h3 : ((rows.length : Int) != (ns.length : Int)) = true := by rw [bne_iff_ne]; omega
          go_enter Try.func16, Try.ntmps16
          go_wp2
          exact bodyPost_ret (v := .tuple #[.agg #[.slice none 0 0, .slice none 0 0], .int .i64 (-1), .int .i64 3]) (by simp [results, Try.results16, go_sem]) rfl (mkP_zero HK.out (bel1 _ _))
  · have h1 : ¬ ns.length < 1 := by omega
    have h8 : ¬ 8 < ns.length := by omega
    have hrn : rows.length = ns.length := by omega
    have h3 : ((rows.length : Int) != (ns.length : Int)) = false := by rw [hrn]; simp
    have hr8 : rows.length ≤ 8 := by omega
    have HA := Lib.hid hA
    have HRN := Lib.hid hrn
    have hrn1 : rows.length ≤ ns.length := by omega
    clear hA hrn
    obtain ⟨i0, hi, hz0, hz1, hz2⟩ := info_parts info5
    generalize hO : Obj.cells #[Value.slice none 0 0, Value.slice none 0 0] 25 = O0
    have e1 : (w.alloc O0).heap.size = w.heap.size + 1 := by simp
    have hmk := run_make (P := Try.prog) (w.alloc O0) 23 5 i0 (.int .u8 0) Try.underlying23 hi hz0 .i64 .i64 rows.length rows.length (by omega) (by omega) (by rw [hz2]; omega) (by omega)
    rw [Int.toNat_natCast, hz1, Nat.mul_one, e1] at hmk
    have hr0 : ((w.alloc O0).alloc (.cells (madeCells (Value.int .u8 0).cells rows.length) 5)).rowIs (w.heap.size + 1) 5 rows.length (uf rows ns.length 0) := by
      rw [← e1]
      exact (World.rowIs_made (w.alloc O0) (.int .u8 0) rows.length 5).congr fun i _ => by unfold uf; rw [if_neg (by omega)]
    have hb0 := bel1 (w.alloc O0) (.cells (madeCells (Value.int .u8 0).cells rows.length) 5)
    have HC0 : Hid (((w.alloc O0).alloc (.cells (madeCells (Value.int .u8 0).cells rows.length) 5)).heap[w.heap.size]? = some O0) := (hb0.block _ (by rw [e1]; omega)).trans (heap_new w O0)
    have HB0 := Lib.hid ((bel1 w O0).trans (hb0.mono (bel1 w O0).size))
    have HZ0 : Hid (w.heap.size + 2 ≤ ((w.alloc O0).alloc (.cells (madeCells (Value.int .u8 0).cells rows.length) 5)).heap.size) := by unfold Hid; simp
    have HR0 := Lib.hid hr0
    clear hr0 hb0
    generalize hW1 : (w.alloc O0).alloc (.cells (madeCells (Value.int .u8 0).cells rows.length) 5) = W1 at hmk HC0 HB0 HZ0 HR0
    clear hW1
    subst hO
    clear e1
    go_enter Try.func16, Try.ntmps16
    go_wp2
    clear hmk
    go_loopg [35] rows.length (fun g i wr => ∃ k : Nat, k + g = rows.length ∧ i = .int .i64 k ∧ Below w.heap.size w wr ∧ w.heap.size + 2 ≤ wr.heap.size ∧ wr.heap[w.heap.size]? = some (.cells #[Value.slice none 0 0, Value.slice none 0 0] 25 (0, 0)) ∧ wr.rowIs (w.heap.size + 1) 5 rows.length (uf rows ns.length k) ∧ Hid ((List.range k).find? (mkBad rows ns.length) = none))
    case atStart => exact ⟨0, by omega, rfl, HB0.out, HZ0.out, HC0.out, HR0.out, rfl⟩
    case round =>
      obtain ⟨k, hkg, rfl, hbl, hsz, hblk, hrow, hq⟩ := hrel
      have HBk := Lib.hid hblk
      have x0 : wr.cell? ⟨w.heap.size, 0, none⟩ = some (.slice none 0 0) := (cell_of_block hblk 0).trans rfl
      have x1 : wr.cell? ⟨w.heap.size, 1, none⟩ = some (.slice none 0 0) := (cell_of_block hblk 1).trans rfl
      have f0 : wr.frozen? ⟨w.heap.size, 0, none⟩ = false := Lib.frozen_of_heap hblk 0
      have f1 : wr.frozen? ⟨w.heap.size, 1, none⟩ = false := Lib.frozen_of_heap hblk 1
      clear hblk
      have HRo := Lib.hid hrow; clear hrow
      cases gk with
      | zero =>
        have hkz : ¬ ((k : Int) < (rows.length : Int)) := by omega
        have HKr : Hid (k = rows.length) := by unfold Hid; omega
        have HNo : Hid (mkF rows ns.length = none) := by unfold Hid mkF; rw [← HKr.out]; exact hq.out
        clear hq
        go_wp2_with fail
        refine (cloneNames_any _ ns wr ((HV.out.below hbl).mono hbl.size) HS.out (by omega)).mono ?_
        rintro e w2 ⟨u, rfl, hown, hb2⟩
        obtain ⟨ua, un, uc, rfl⟩ : ∃ ua un uc, u = .slice ua un uc := by
          rcases hown.2 with ⟨hv, _⟩ | ⟨g, cap, cur, hv, _⟩
          · exact ⟨_, _, _, hv⟩
          · exact ⟨_, _, _, hv⟩
        have hs2 := hb2.size
        have hblk2 : w2.heap[w.heap.size]? = some (.cells #[Value.slice none 0 0, Value.slice none 0 0] 25 (0, 0)) := (hb2.block _ (by omega)).trans HBk.out
        have y0 : w2.cell? ⟨w.heap.size, 0, none⟩ = some (.slice none 0 0) := (cell_of_block hblk2 0).trans rfl
        have y1 : w2.cell? ⟨w.heap.size, 1, none⟩ = some (.slice none 0 0) := (cell_of_block hblk2 1).trans rfl
        have g0 : w2.frozen? ⟨w.heap.size, 0, none⟩ = false := Lib.frozen_of_heap hblk2 0
        have g1 : w2.frozen? ⟨w.heap.size, 1, none⟩ = false := Lib.frozen_of_heap hblk2 1
        have hrow2 : w2.rowIs (w.heap.size + 1) 5 rows.length (uf rows ns.length k) := HRo.out.of_block (hb2.block _ (by omega))
        generalize hW3 : (w2.setCell ⟨w.heap.size, 0, none⟩ (.slice ua un uc)).setCell ⟨w.heap.size, 1, none⟩ (.slice (some ⟨w.heap.size + 1, 0, none⟩) rows.length rows.length) = W3
        have hblk3 : W3.heap[w.heap.size]? = some (.cells #[.slice ua un uc, .slice (some ⟨w.heap.size + 1, 0, none⟩) rows.length rows.length] 25 (0, 0)) := by
          rw [← hW3]; simp [World.setCell, Array.getElem?_modify, hblk2]
        have hown3 : W3.ownsRow wr.heap.size 9 1 (.slice ua un uc) ns.length (ns.map vs) := by
          rw [← hW3]
          exact own_set (own_set hown (by show w.heap.size < wr.heap.size; omega) _) (by show w.heap.size < wr.heap.size; omega) _
        have hrow3 : W3.rowIs (w.heap.size + 1) 5 rows.length (uf rows ns.length rows.length) := by
          rw [← hW3, ← HKr.out]
          rw [HKr.out] at hrow2 ⊢
          exact (hrow2.setOther (by show w.heap.size + 1 ≠ w.heap.size; omega) _).setOther (by show w.heap.size + 1 ≠ w.heap.size; omega) _
        have hb3 : Below w.heap.size w W3 := by
          rw [← hW3]
          exact ((hbl.trans (hb2.mono hbl.size)).setCell (p := ⟨w.heap.size, 0, none⟩) (Nat.le_refl _) _).setCell (p := ⟨w.heap.size, 1, none⟩) (Nat.le_refl _) _
        have hs3 : w2.heap.size ≤ W3.heap.size := by rw [← hW3]; simp
        have hrd3 : RdL W3.heap.size W3 (.agg #[.slice ua un uc, .slice (some ⟨w.heap.size + 1, 0, none⟩) rows.length rows.length]) ns (mkU rows ns.length) := ⟨⟨_, _, rfl, own_rd hown3, uf_all hrow3 (by omega) hr8⟩, fun s hs => by have := HS.out s hs; omega⟩
        have H3 := Lib.hid (And.intro hblk3 (And.intro hown3 (And.intro hrow3 (And.intro hb3 hrd3))))
        have z0 : W3.cell? ⟨w.heap.size, 0, none⟩ = some (.slice ua un uc) := (cell_of_block hblk3 0).trans rfl
        have z1 : W3.cell? ⟨w.heap.size, 1, none⟩ = some (.slice (some ⟨w.heap.size + 1, 0, none⟩) rows.length rows.length) := (cell_of_block hblk3 1).trans rfl
        clear hblk3 hown3 hrow3 hb3 hrd3 hrow2 hown hblk2 x0 x1 f0 f1
        cases c9 : ((ck ns (mkU rows ns.length)).2 != 0) with
        | true =>
          have HK := Lib.hid (mkV_C HA.out HNo.out c9)
          go_wp2_with fail
          refine (check_any _ ns (mkU rows ns.length) W3 H3.out.2.2.2.2).mono ?_
          rintro e w4 ⟨rfl, hb4⟩
          clear hW3
          have hs4 := hb4.size
          have hblk4 := (hb4.block w.heap.size (by omega)).trans H3.out.1
          have z0 : w4.cell? ⟨w.heap.size, 0, none⟩ = some (.slice ua un uc) := (cell_of_block hblk4 0).trans rfl
          have z1 : w4.cell? ⟨w.heap.size, 1, none⟩ = some (.slice (some ⟨w.heap.size + 1, 0, none⟩) rows.length rows.length) := (cell_of_block hblk4 1).trans rfl
          have k0 : w4.frozen? ⟨w.heap.size, 0, none⟩ = false := Lib.frozen_of_heap hblk4 0
          have k1 : w4.frozen? ⟨w.heap.size, 1, none⟩ = false := Lib.frozen_of_heap hblk4 1
          have hb5 := H3.out.2.2.2.1.trans (hb4.mono (by omega))
          go_wp2_with fail
          exact bodyPost_ret (v := .tuple #[.agg #[.slice none 0 0, .slice none 0 0], .int .i64 _, .int .i64 _]) (by simp [results, Try.results16, go_sem, z0, z1]) rfl (mkP_zero HK.out ((hb5.setCell (p := ⟨w.heap.size, 0, none⟩) (Nat.le_refl _) _).setCell (p := ⟨w.heap.size, 1, none⟩) (Nat.le_refl _) _))
        | false =>
          have HK := Lib.hid (mkV_D HA.out HNo.out c9)
          go_wp2_with fail
          refine (check_any _ ns (mkU rows ns.length) W3 H3.out.2.2.2.2).mono ?_
          rintro e w4 ⟨rfl, hb4⟩
          clear hW3
          have hs4 := hb4.size
          have hblk4 := (hb4.block w.heap.size (by omega)).trans H3.out.1
          have z0 : w4.cell? ⟨w.heap.size, 0, none⟩ = some (.slice ua un uc) := (cell_of_block hblk4 0).trans rfl
          have z1 : w4.cell? ⟨w.heap.size, 1, none⟩ = some (.slice (some ⟨w.heap.size + 1, 0, none⟩) rows.length rows.length) := (cell_of_block hblk4 1).trans rfl
          have k0 : w4.frozen? ⟨w.heap.size, 0, none⟩ = false := Lib.frozen_of_heap hblk4 0
          have k1 : w4.frozen? ⟨w.heap.size, 1, none⟩ = false := Lib.frozen_of_heap hblk4 1
          have hb5 := H3.out.2.2.2.1.trans (hb4.mono (by omega))
          have hown4 := own_set (own_set (own_below H3.out.2.1 hb4) (a := ⟨w.heap.size, 0, none⟩) (by show w.heap.size < wr.heap.size; omega) (.slice ua un uc)) (a := ⟨w.heap.size, 1, none⟩) (by show w.heap.size < wr.heap.size; omega) (.slice (some ⟨w.heap.size + 1, 0, none⟩) rows.length rows.length)
          have hrow4 := ((H3.out.2.2.1.of_block (hb4.block _ (by omega))).setOther (a := ⟨w.heap.size, 0, none⟩) (by show w.heap.size + 1 ≠ w.heap.size; omega) (.slice ua un uc)).setOther (a := ⟨w.heap.size, 1, none⟩) (by show w.heap.size + 1 ≠ w.heap.size; omega) (.slice (some ⟨w.heap.size + 1, 0, none⟩) rows.length rows.length)
          have H4 := Lib.hid (And.intro hown4 hrow4)
          clear hown4 hrow4 hblk4
          go_wp2_with fail
          refine bodyPost_ret (v := .tuple #[.agg #[.slice ua un uc, .slice (some ⟨w.heap.size + 1, 0, none⟩) rows.length rows.length], .int .i64 0, .int .i64 0]) (by simp [results, Try.results16, go_sem, z0, z1]) rfl ?_
          unfold MkP
          rw [HK.out]
          exact ⟨_, rfl, ⟨⟨_, _, rfl, own_rd H4.out.1, uf_all H4.out.2 (by omega) hr8⟩, fun s hs => by have := HS.out s hs; omega⟩, (hb5.setCell (p := ⟨w.heap.size, 0, none⟩) (Nat.le_refl _) _).setCell (p := ⟨w.heap.size, 1, none⟩) (Nat.le_refl _) _⟩
      | succ g =>
        have hlt : (k : Int) < (rows.length : Int) := by omega
        have hk : k < rows.length := by omega
        obtain ⟨b0, off, rfl, hlt0, hx⟩ := (HU.out.below hbl).at k hk
        have hsk := HT.out rows[k] (List.getElem_mem hk)
        have HG : Hid (rows.getD k ByteArray.empty = rows[k]) := getD_get hk
        cases c0 : rrB (byt rows[k]) ns.length with
        | false =>
          have HK : Hid (mkV ns rows = ((k : Int), 6, [], [])) := mkV_B HA.out (find_at hq.out (by unfold mkBad; rw [HG.out, c0]; rfl) hk)
          go_wp2_with (go_at_call 49; refine (readRow_any _ _ _ (by omega) hsk).mono ?_; rintro e w' ⟨rfl, rfl⟩)
          exact bodyPost_ret (v := .tuple #[.agg #[.slice none 0 0, .slice none 0 0], .int .i64 k, .int .i64 6]) (by simp [results, Try.results16, go_sem, x0, x1]) rfl (mkP_zero HK.out ((hbl.setCell (p := ⟨w.heap.size, 0, none⟩) (Nat.le_refl _) _).setCell (p := ⟨w.heap.size, 1, none⟩) (Nat.le_refl _) _))
        | true =>
          have hy : wr.cell? ⟨w.heap.size + 1, k, none⟩ = some (.int .u8 0) := by
            rw [HRo.out.cell hk]; unfold uf; rw [if_neg (by omega)]
          have hyf : wr.frozen? ⟨w.heap.size + 1, k, none⟩ = false := HRo.out.frozen k
          go_wp2_with (go_at_call 49; refine (readRow_any _ _ _ (by omega) hsk).mono ?_; rintro e w' ⟨rfl, rfl⟩)
          go_roundg g
          case measure => omega
          case rel => exact ⟨k + 1, by omega, by go_num, hbl.setCell (p := ⟨w.heap.size + 1, k, none⟩) (Nat.le_succ _) _, by simpa using hsz, by simpa [World.setCell, Array.getElem?_modify] using HBk.out, uf_next HRo.out (by rw [HG.out, rowV_yes c0]), find_succ hq.out (by unfold mkBad; rw [HG.out, c0]; rfl)⟩
end Go.Proofs.Ytfjnapmhnfjopaa
