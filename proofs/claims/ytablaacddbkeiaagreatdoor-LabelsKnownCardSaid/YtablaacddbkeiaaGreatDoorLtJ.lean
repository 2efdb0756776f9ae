/- Dual. -/
import Derived.Test.YtablaacddbkeiaaGreatDoorLtI
import Derived.RegionTactic
import Derived.ChangeAlike
namespace Go.Proofs.YtablaacddbkeiaaGreatDoor
open Go.RowKit

/-- The number of a in the order the other way, as far as b. -/
def dn1 (up : List UInt8) (a k : Nat) : Nat := (List.range k).foldl (fun x b => if ge up a b then x ||| 2 ^ b else x) 0
def dnU (up : List UInt8) : List UInt8 := (List.range up.length).map fun a => UInt8.ofNat (dn1 up a up.length)
theorem dnU_len (up : List UInt8) : (dnU up).length = up.length := by simp [dnU]
theorem dn1_t {up : List UInt8} {a k : Nat} (h : ge up a k = true) : dn1 up a (k + 1) = dn1 up a k ||| 2 ^ k := by
  unfold dn1; rw [List.range_succ, List.foldl_append]; simp only [List.foldl_cons, List.foldl_nil]; rw [if_pos h]
theorem dn1_f {up : List UInt8} {a k : Nat} (h : ge up a k = false) : dn1 up a (k + 1) = dn1 up a k := by
  unfold dn1; rw [List.range_succ, List.foldl_append]; simp only [List.foldl_cons, List.foldl_nil]; rw [if_neg (by rw [h]; decide)]
theorem dn1_lt (up : List UInt8) (a k : Nat) : dn1 up a k < 2 ^ k := by
  induction k with
  | zero => simp [dn1]
  | succ k ih =>
    cases h : ge up a k
    · rw [dn1_f h]; rw [Nat.pow_succ]; omega
    · rw [dn1_t h]
      exact Nat.or_lt_two_pow (by rw [Nat.pow_succ]; omega) (Nat.pow_lt_pow_right (by decide) (by omega))
theorem dn1_bit (up : List UInt8) (a k b : Nat) : (dn1 up a k).testBit b = (decide (b < k) && ge up a b) := by
  induction k with
  | zero => simp [dn1]
  | succ k ih =>
    cases h : ge up a k
    · rw [dn1_f h, ih]
      by_cases e : b = k
      · subst e; rw [h]; simp
      · rw [show decide (b < k) = decide (b < k + 1) by rw [Bool.eq_iff_iff, decide_eq_true_iff, decide_eq_true_iff]; omega]
    · rw [dn1_t h, Nat.testBit_or, ih, Nat.testBit_two_pow]
      by_cases e : b = k
      · subst e; rw [h]; simp
      · rw [show decide (k = b) = false from decide_eq_false (fun h => e h.symm), Bool.or_false, show decide (b < k) = decide (b < k + 1) by rw [Bool.eq_iff_iff, decide_eq_true_iff, decide_eq_true_iff]; omega]
/-- As far as it has been written: rows before a whole, row a up to b. -/
def df (up : List UInt8) (a b : Nat) (i : Nat) : Value := .int .u8 ((if i < a then dn1 up i up.length else if i = a then dn1 up i b else 0 : Nat) : Int)
theorem df_next {w : World} {g : Nat} {up : List UInt8} {a b : Nat} {z : Int} (h : w.rowIs g 5 up.length (df up a b)) (hz : (dn1 up a (b + 1) : Int) = z) : (w.setCell ⟨g, a, none⟩ (.int .u8 z)).rowIs g 5 up.length (df up a (b + 1)) := by
  refine (h.set a _).congr fun i hi => ?_
  show (if i = a then Value.int .u8 z else df up a b i) = df up a (b + 1) i
  unfold df
  by_cases e : i = a
  · subst e; rw [if_pos rfl, if_neg (by omega), if_pos rfl, hz]
  · rw [if_neg e]
    by_cases e2 : i < a
    · rw [if_pos e2, if_pos e2]
    · rw [if_neg e2, if_neg e, if_neg e2, if_neg e]
theorem df_same {w : World} {g : Nat} {up : List UInt8} {a b : Nat} (h : w.rowIs g 5 up.length (df up a b)) (hz : dn1 up a (b + 1) = dn1 up a b) : w.rowIs g 5 up.length (df up a (b + 1)) := by
  refine h.congr fun i hi => ?_
  unfold df
  by_cases e : i = a
  · subst e; rw [hz]
  · rw [if_neg e, if_neg e]
theorem df_row {w : World} {g : Nat} {up : List UInt8} {a : Nat} (h : w.rowIs g 5 up.length (df up a up.length)) : w.rowIs g 5 up.length (df up (a + 1) 0) := by
  refine h.congr fun i hi => ?_
  unfold df
  by_cases e : i < a
  · rw [if_pos e, if_pos (by omega)]
  · by_cases e2 : i = a
    · subst e2; rw [if_neg e, if_pos rfl, if_pos (by omega)]
    · rw [if_neg e, if_neg e2, if_neg (by omega)]
      by_cases e3 : i = a + 1
      · rw [if_pos e3]; rfl
      · rw [if_neg e3]
theorem df_all {w : World} {g : Nat} {up : List UInt8} {n : Nat} (h : w.rowIs g 5 up.length (df up up.length 0)) (hn : up.length ≤ 8) (hk : up.length = n) : RdB w.heap.size w (.slice (some ⟨g, 0, none⟩) n n) (dnU up) := by
  subst hk
  refine row_rd (dnU_len up) (by rw [dnU_len]; omega) (h.congr fun i hi => ?_)
  unfold df
  rw [if_pos hi]
  unfold dnU vb
  rw [List.getD_eq_getElem?_getD (l := List.map _ _), List.getElem?_map, List.getElem?_range hi]
  simp only [Option.map_some, Option.getD_some, UInt8.toNat_ofNat']
  have h1 := dn1_lt up i up.length
  have h2 : 2 ^ up.length ≤ 2 ^ 8 := Nat.pow_le_pow_right (by decide) hn
  rw [Nat.mod_eq_of_lt (by omega)]
/-- Its order is the order the other way. -/
theorem le_dn (up : List UInt8) (a b : Nat) (ha : a < up.length) (hb : b < up.length) (hn : up.length ≤ 8) : le (dnU up) a b = ge up a b := by
  unfold le dnU
  rw [List.getD_eq_getElem?_getD, List.getElem?_map, List.getElem?_range ha]
  simp only [Option.map_some, Option.getD_some, UInt8.toNat_ofNat']
  have h1 := dn1_lt up a up.length
  have h2 : 2 ^ up.length ≤ 2 ^ 8 := Nat.pow_le_pow_right (by decide) hn
  rw [Nat.mod_eq_of_lt (by omega), dn1_bit, decide_eq_true hb, Bool.true_and]

set_option maxRecDepth 100000 in
set_option maxHeartbeats 4000000 in
theorem dual_ok (v : Value) (ns : List ByteArray) (up : List UInt8) (w : World) (hv : RdL w.heap.size w v ns up) (hg : Good ns up) :
    Calls Tryz.prog 70 #[v] w fun e w' => ∃ x, e = .returned (.tuple #[x, .int .i64 0]) ∧ RdL w'.heap.size w' x ns (dnU up) ∧ Below w.heap.size w w' := by
  have HL := Lib.hid hv
  obtain ⟨⟨vn, vu, rfl, hS, hB⟩, hsz⟩ := hv
  have HB := Lib.hid hB
  have HS := Lib.hid hS
  have HZ := Lib.hid hsz
  obtain ⟨p, cap, rfl, hc, hc2, h⟩ := hS
  obtain ⟨q, cap', rfl, hc', hc2', h'⟩ := hB
  clear h h' hsz
  have hu8 : up.length ≤ 8 := by have := hg.most; have := hg.len; omega
  have hn8 : ns.length ≤ 8 := hg.most
  have HNm : Hid (∀ s ∈ ns, s.size ≤ 281474976710656) := fun s hs => by
    obtain ⟨i, hi, rfl⟩ := List.getElem_of_mem hs
    have := name16 (hg.name i hi)
    rw [byt_len] at this
    omega
  have H0 := Lib.hid hg.ck
  clear hg
  obtain ⟨i0, hi, hz0, hz1, hz2⟩ := info_parts info5
  have HI := Lib.hid ((Bx.new HL.out).next (bel1 _ (.cells #[Value.slice none 0 0, Value.slice none 0 0] 25)))
  have e1 : (w.alloc (.cells #[.slice p ns.length cap, .slice q up.length cap'] 25)).heap.size = w.heap.size + 1 := by simp
  have HC0 : Hid (((w.alloc (.cells #[.slice p ns.length cap, .slice q up.length cap'] 25)).alloc (.cells #[Value.slice none 0 0, Value.slice none 0 0] 25)).heap[w.heap.size + 1]? = some (.cells #[Value.slice none 0 0, Value.slice none 0 0] 25 (0, 0))) := by
    unfold Hid; rw [← e1]; exact heap_new _ _
  have HS0 : Hid (((w.alloc (.cells #[.slice p ns.length cap, .slice q up.length cap'] 25)).alloc (.cells #[Value.slice none 0 0, Value.slice none 0 0] 25)).heap.size = w.heap.size + 2) := by unfold Hid; simp
  clear e1
  go_enter Tryz.func70, Tryz.ntmps70
  go_wp2_with fail
  refine (check_any _ ns up _ HI.out.rd).mono ?_
  rw [H0.out]
  rintro e w1 ⟨rfl, hb1⟩
  have HI1 := Lib.hid (HI.out.next hb1)
  have hs1 : w.heap.size + 2 ≤ w1.heap.size := by have := hb1.size; rw [HS0.out] at this; exact this
  have HC1 : Hid (w1.heap[w.heap.size + 1]? = some (.cells #[Value.slice none 0 0, Value.slice none 0 0] 25 (0, 0))) := (hb1.block _ (by rw [HS0.out]; omega)).trans HC0.out
  clear HI hb1 HC0 HS0
  have x0 := HI1.out.x0
  have x1 := HI1.out.x1
  have hmk := run_make (P := Tryz.prog) w1 23 5 i0 (.int .u8 0) Tryz.underlying23 hi hz0 .i64 .i64 up.length up.length (by omega) (by omega) (by rw [hz2]; omega) (by omega)
  rw [Int.toNat_natCast, hz1, Nat.mul_one] at hmk
  have HR0 : Hid ((w1.alloc (.cells (madeCells (Value.int .u8 0).cells up.length) 5)).rowIs w1.heap.size 5 up.length (df up 0 0)) :=
    (World.rowIs_made w1 (.int .u8 0) up.length 5).congr fun i _ => by
      unfold df
      rw [if_neg (by omega)]
      split <;> rfl
  have HB0 := Lib.hid (bel1 w1 (.cells (madeCells (Value.int .u8 0).cells up.length) 5))
  generalize w1.alloc (.cells (madeCells (Value.int .u8 0).cells up.length) 5) = W2 at hmk HR0 HB0
  go_wp2_with fail
  clear hmk x0 x1
  go_loopg [26] up.length (fun g i wr => ∃ a : Nat, a + g = up.length ∧ i = .int .i64 a ∧ Below w1.heap.size w1 wr ∧ wr.rowIs w1.heap.size 5 up.length (df up a 0))
  case atStart => exact ⟨0, by omega, rfl, HB0.out, HR0.out⟩
  case round =>
    obtain ⟨a, hag, rfl, hbl, hrow⟩ := hrel
    have HRo := Lib.hid hrow; clear hrow
    cases gk with
    | zero =>
      have haz : ¬ ((a : Int) < (up.length : Int)) := by omega
      have HA : Hid (a = up.length) := by unfold Hid; omega
      have HIr := Lib.hid (HI1.out.next hbl)
      have x0 := HIr.out.x0
      have x1 := HIr.out.x1
      have hblk : wr.heap[w.heap.size + 1]? = some (.cells #[Value.slice none 0 0, Value.slice none 0 0] 25 (0, 0)) := (hbl.block _ (by omega)).trans HC1.out
      have hsr := hbl.size
      have HBk := Lib.hid hblk; clear hblk
      obtain ⟨⟨v1, v2, hv12, hr1, hr2⟩, _⟩ := HIr.out.rd
      injection hv12 with hv12
      obtain ⟨rfl, rfl⟩ : v1 = .slice p ns.length cap ∧ v2 = .slice q up.length cap' := by simpa [eq_comm] using hv12
      have HR1 := Lib.hid hr1
      clear hv12 hr1 hr2
      go_wp2_with fail
      refine (cloneNames_any _ ns wr HR1.out HNm.out (by omega)).mono ?_
      rintro e w3 ⟨u, rfl, hown, hb3⟩
      obtain ⟨ua, un, uc, rfl⟩ : ∃ ua un uc, u = .slice ua un uc := by
        rcases hown.2 with ⟨hv, _⟩ | ⟨g, cap, cur, hv, _⟩
        · exact ⟨_, _, _, hv⟩
        · exact ⟨_, _, _, hv⟩
      have hs3 := hb3.size
      have hblk3 : w3.heap[w.heap.size + 1]? = some (.cells #[Value.slice none 0 0, Value.slice none 0 0] 25 (0, 0)) := (hb3.block _ (by omega)).trans HBk.out
      have z0 : w3.cell? ⟨w.heap.size + 1, 0, none⟩ = some (.slice none 0 0) := (cell_of_block hblk3 0).trans rfl
      have z1 : w3.cell? ⟨w.heap.size + 1, 1, none⟩ = some (.slice none 0 0) := (cell_of_block hblk3 1).trans rfl
      have k0 : w3.frozen? ⟨w.heap.size + 1, 0, none⟩ = false := Lib.frozen_of_heap hblk3 0
      have k1 : w3.frozen? ⟨w.heap.size + 1, 1, none⟩ = false := Lib.frozen_of_heap hblk3 1
      have hrow3 := HRo.out.of_block (hb3.block _ HRo.out.lt)
      have hown4 := own_set (own_set hown (a := ⟨w.heap.size + 1, 0, none⟩) (by show w.heap.size + 1 < wr.heap.size; omega) (.slice ua un uc)) (a := ⟨w.heap.size + 1, 1, none⟩) (by show w.heap.size + 1 < wr.heap.size; omega) (.slice (some ⟨w1.heap.size, 0, none⟩) up.length up.length)
      have hrow4 := (hrow3.setOther (a := ⟨w.heap.size + 1, 0, none⟩) (by show w1.heap.size ≠ w.heap.size + 1; omega) (.slice ua un uc)).setOther (a := ⟨w.heap.size + 1, 1, none⟩) (by show w1.heap.size ≠ w.heap.size + 1; omega) (.slice (some ⟨w1.heap.size, 0, none⟩) up.length up.length)
      rw [HA.out] at hrow4
      have hb5 := (HIr.out.bel.trans (hb3.mono HIr.out.bel.size))
      have H4 := Lib.hid (And.intro hown4 (And.intro hrow4 hb5))
      clear hown4 hrow4 hblk3 hown hrow3 hb5
      go_wp2_with fail
      refine bodyPost_ret (v := .tuple #[.agg #[.slice ua un uc, .slice (some ⟨w1.heap.size, 0, none⟩) up.length up.length], .int .i64 0]) (by simp [results, Tryz.results70, go_sem, z0, z1]) rfl ?_
      exact ⟨_, rfl, ⟨⟨_, _, rfl, own_rd H4.out.1, df_all H4.out.2.1 hu8 rfl⟩, HZ.out⟩, (H4.out.2.2.setCell (p := ⟨w.heap.size + 1, 0, none⟩) (Nat.le_succ _) _).setCell (p := ⟨w.heap.size + 1, 1, none⟩) (Nat.le_succ _) _⟩
    | succ g =>
      have halt : (a : Int) < (up.length : Int) := by omega
      go_wp2_with fail
      go_loopg [31] up.length (fun g i wr => ∃ b : Nat, b + g = up.length ∧ i = .int .i64 b ∧ Below w1.heap.size w1 wr ∧ wr.rowIs w1.heap.size 5 up.length (df up a b))
      case atStart => exact ⟨0, by omega, rfl, hbl, HRo.out⟩
      case round =>
        clear HRo hbl
        obtain ⟨b, hbg, rfl, hbl, hrow⟩ := hrel
        have HRo := Lib.hid hrow; clear hrow
        cases gk with
        | zero =>
          have hbz : ¬ ((b : Int) < (up.length : Int)) := by omega
          have HBe : Hid (b = up.length) := by unfold Hid; omega
          go_wp2_with fail
          go_roundg g
          case measure => omega
          case rel => exact ⟨a + 1, by omega, by go_num, hbl, df_row (by have := HRo.out; rw [HBe.out] at this; exact this)⟩
        | succ g3 =>
          have hblt : (b : Int) < (up.length : Int) := by omega
          obtain ⟨⟨v1, v2, hv12, hr1, hr2⟩, _⟩ := (HI1.out.next hbl).rd
          injection hv12 with hv12
          obtain ⟨rfl, rfl⟩ : v1 = .slice p ns.length cap ∧ v2 = .slice q up.length cap' := by simpa [eq_comm] using hv12
          have HU := Lib.hid hr2
          clear hv12 hr1 hr2
          cases c0 : ge up a b with
          | false =>
            go_wp2_with (go_at_call 85; refine (down_any _ up _ _ _ _ HU.out (by omega) (by omega)).mono ?_; rintro e w' ⟨rfl, rfl⟩)
            go_roundg g3
            case measure => omega
            case rel => exact ⟨b + 1, by omega, by go_num, hbl, df_same HRo.out (dn1_f c0)⟩
          | true =>
            have HT : Hid (dn1 up a (b + 1) = dn1 up a b ||| 2 ^ b) := dn1_t c0
            have h1 := dn1_lt up a b
            have h2 : 2 ^ b ≤ 2 ^ 8 := Nat.pow_le_pow_right (by decide) (by omega)
            have hrx : dn1 up a b < 256 := by omega
            have HOr := Lib.hid (or_u8 (dn1 up a b) b hrx (by omega))
            clear h1 h2
            have y0 : wr.cell? ⟨w1.heap.size, a, none⟩ = some (.int .u8 ((dn1 up a b : Nat) : Int)) := by
              rw [HRo.out.cell (by omega)]; unfold df; rw [if_neg (by omega), if_pos rfl]
            have yf : wr.frozen? ⟨w1.heap.size, a, none⟩ = false := HRo.out.frozen a
            have w256 : IntKind.u8.wrap (2 ^ b) = 2 ^ b % 256 := by rw [IntKind.wrap_u8]
            go_wp2_with (go_at_call 85; refine (down_any _ up _ _ _ _ HU.out (by omega) (by omega)).mono ?_; rintro e w' ⟨rfl, rfl⟩)
            go_region
            all_goals go_wp2_with fail
            all_goals
              go_roundg g3
              case measure => omega
              case rel => exact ⟨b + 1, by omega, by go_num, (hbl.setCell (p := ⟨w1.heap.size, a, none⟩) (Nat.le_refl _) _).drew, df_next HRo.out (by rw [HT.out, ← HOr.out])⟩
end Go.Proofs.YtablaacddbkeiaaGreatDoor
