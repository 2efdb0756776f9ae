/- levelsOf; which of two labels comes first. -/
import Derived.Test.YtablaacddbkeiaaGreatDoorLbB
import Derived.Test.YtablaacddbkeiaaGreatDoorLtCo
namespace Go.Proofs.YtablaacddbkeiaaGreatDoor
open Go.RowKit

/-- The levels, as far as they have been written. -/
def lf (up : List UInt8) (k : Nat) (i : Nat) : Value := if i < k then .int .i64 (lv up i : Int) else .int .i64 0
theorem lf_next {w : World} {b : Nat} {up : List UInt8} {k m : Nat} {z : Int} (h : w.rowIs b 3 m (lf up k)) (hz : (lv up k : Int) = z) : (w.setCell ⟨b, k, none⟩ (.int .i64 z)).rowIs b 3 m (lf up (k + 1)) := by
  refine (h.set k _).congr fun i hi => ?_
  show (if i = k then Value.int .i64 z else lf up k i) = lf up (k + 1) i
  unfold lf
  by_cases e : i = k
  · subst e; rw [if_pos rfl, if_pos (by omega), hz]
  · rw [if_neg e]
    by_cases e2 : i < k
    · rw [if_pos e2, if_pos (by omega)]
    · rw [if_neg e2, if_neg (by omega)]
/-- The levels lie in block b. -/
def Lvs (up : List UInt8) (b : Nat) (w : World) : Prop := ∀ j, j < up.length → w.cell? ⟨b, j, none⟩ = some (.int .i64 (lv up j : Int))
theorem lf_all {w : World} {b n : Nat} {up : List UInt8} (hn : up.length = n) (h : w.rowIs b 3 n (lf up n)) : Lvs up b w := fun j hj => by
  have := h.cell (i := j) (by omega)
  rw [this]; unfold lf; rw [if_pos (by omega)]

theorem bx_put {w wr : World} {vn vu : Value} {ns : List ByteArray} {up : List UInt8} (h : Bx w vn vu ns up wr) (hr : RdL w.heap.size w (.agg #[vn, vu]) ns up) {p : Addr} (hp : w.heap.size + 1 ≤ p.block) (x : Value) : Bx w vn vu ns up (wr.setCell p x) :=
  bx_up h ((Below.refl _ _).setCell hp x) hr
/-- What levelsOf leaves. -/
def LvP (up : List UInt8) (w : World) (e : Ending) (w' : World) : Prop :=
  ∃ b, e = .returned (.slice (some ⟨b, 0, none⟩) up.length up.length) ∧ w.heap.size ≤ b ∧ b < w'.heap.size ∧ Lvs up b w' ∧ Below w.heap.size w w'

set_option maxRecDepth 100000 in
set_option maxHeartbeats 2000000 in
theorem levelsOf_any (v : Value) (ns : List ByteArray) (up : List UInt8) (w : World) (hv : RdL w.heap.size w v ns up) (hg : Good ns up) :
    Calls Tryz.prog 69 #[v] w (LvP up w) := by
  have HL := Lib.hid hv
  obtain ⟨⟨vn, vu, rfl, hS, hB⟩, hsz⟩ := hv
  obtain ⟨p, cap, rfl, hc, hc2, h⟩ := hS
  obtain ⟨q, cap', rfl, hc', hc2', h'⟩ := hB
  clear h h' hsz
  have hn8 : ns.length ≤ 8 := hg.most
  have hle1 : ns.length ≤ up.length := by have := hg.len; omega
  have hle2 : up.length ≤ ns.length := by have := hg.len; omega
  have HU := Lib.hid hg.len
  have HG := Lib.hid hg
  clear hg
  have HI := Lib.hid (Bx.new HL.out)
  obtain ⟨i0, hi, hz0, hz1, hz2⟩ := info_parts info3
  have hmk := run_make (P := Tryz.prog) (w.alloc (.cells #[.slice p ns.length cap, .slice q up.length cap'] 25)) 89 3 i0 (.int .i64 0) Tryz.underlying89 hi hz0 .i64 .i64 ns.length ns.length (by omega) (by omega) (by rw [hz2]; omega) (by omega)
  rw [Int.toNat_natCast, hz1, Nat.mul_one] at hmk
  have HR0 : Hid (((w.alloc (.cells #[.slice p ns.length cap, .slice q up.length cap'] 25)).alloc (.cells (madeCells (Value.int .i64 0).cells ns.length) 3)).rowIs (w.heap.size + 1) 3 ns.length (lf up 0)) := by
    have h1 := (World.rowIs_made (w.alloc (.cells #[.slice p ns.length cap, .slice q up.length cap'] 25)) (.int .i64 0) ns.length 3).congr (g := lf up 0) fun i _ => by
      unfold lf
      rw [if_neg (by omega)]
    unfold Hid
    rw [show (w.alloc (.cells #[.slice p ns.length cap, .slice q up.length cap'] 25)).heap.size = w.heap.size + 1 by simp] at h1
    exact h1
  have HI1 := Lib.hid (HI.out.next (bel1 _ (.cells (madeCells (Value.int .i64 0).cells ns.length) 3)))
  have x0 := HI.out.x0
  have x1 := HI.out.x1
  clear HI
  go_enter Tryz.func69, Tryz.ntmps69
  go_wp2_with fail
  clear hmk x0 x1
  go_loopg [11] ns.length (fun g i wr => ∃ a : Nat, a + g = ns.length ∧ i = .int .i64 a ∧ Bx w (.slice p ns.length cap) (.slice q up.length cap') ns up wr ∧ wr.rowIs (w.heap.size + 1) 3 ns.length (lf up a))
  case atStart => exact ⟨0, by omega, rfl, HI1.out, HR0.out⟩
  case round =>
    clear HI1 HR0
    obtain ⟨a, hag, rfl, hix, hrow⟩ := hrel
    have HI := Lib.hid hix; clear hix
    have HRo := Lib.hid hrow; clear hrow
    cases gk with
    | zero =>
      have haz : ¬ ((a : Int) < (ns.length : Int)) := by omega
      have HA : Hid (a = ns.length) := by unfold Hid; omega
      go_wp2_with fail
      go_ret
      have h3 := HRo.out
      rw [HA.out] at h3
      exact ⟨w.heap.size + 1, by rw [HU.out]; rfl, Nat.le_succ _, h3.lt, lf_all HU.out h3, HI.out.bel⟩
    | succ g =>
      have halt : (a : Int) < (ns.length : Int) := by omega
      have hal : a < up.length := by omega
      have x0 := HI.out.x0
      have x1 := HI.out.x1
      have hlv := lv_le up a
      have hdl := dnN_lt up a
      have HP : Hid (pop (dnN up a) = lv up a) := dnN_pop hal (by omega)
      go_wp2_with (first
        | (go_at_call 40; refine (downSet_any _ ns up a _ HI.out.rd HG.out hal).mono ?_; rintro e w3 ⟨rfl, hb3⟩; have hrow3 := HRo.out.of_block (hb3.block _ HRo.out.lt); have hk3 := hrow3.frozen a; have hy3 := hrow3.cell (i := a) (by omega); have HR3 := Lib.hid hrow3; have HI3 := Lib.hid (HI.out.next hb3); clear hrow3 hb3 x0 x1)
        | (go_at_call 46; refine (size_any _ _ hdl).mono ?_; rintro e w4 ⟨rfl, rfl⟩))
      go_roundg g
      case measure => omega
      case rel => exact ⟨a + 1, by omega, by go_num, bx_put HI3.out HL.out (p := ⟨w.heap.size + 1, a, none⟩) (Nat.le_refl _) _, lf_next HR3.out (by rw [HP.out])⟩

set_option maxRecDepth 100000 in
set_option maxHeartbeats 2000000 in
theorem first_any (up : List UInt8) (n b x y : Nat) (w : World) (hL : Lvs up b w) (hx : x < up.length) (hy : y < up.length) (hn : up.length = n) (hn8 : n ≤ 8) :
    Calls Tryz.prog 136 #[.slice (some ⟨b, 0, none⟩) n n, .int .i64 x, .int .i64 y] w fun e w' => e = .returned (.bool (lt2 up x y)) ∧ ∃ m, w' = w.drewN m := by
  subst hn
  have hcx := hL x hx
  have hcy := hL y hy
  clear hL
  have HK : Hid (lt2 up x y = (decide (lv up x < lv up y) || (decide (lv up x = lv up y) && decide (x < y)))) := rfl
  generalize lv up x = p at hcx HK
  generalize lv up y = q at hcy HK
  cases c1 : decide (p < q) with
  | true =>
    have HR : Hid (lt2 up x y = true) := by unfold Hid; rw [HK.out, c1]; rfl
    have c1i : decide ((p : Int) < (q : Int)) = true := by rw [decide_eq_true_eq] at *; omega
    go_enter Tryz.func136, Tryz.ntmps136
    go_wp2_with fail
    go_quiet (fail)
    go_wp2_with fail
    go_ret
    exact ⟨ret_bool (by rw [HR.out]), nq, rfl⟩
  | false =>
    have c1i : decide ((p : Int) < (q : Int)) = false := by rw [decide_eq_false_iff_not] at *; omega
    cases c2 : ((p : Int) == (q : Int)) with
    | false =>
      have HR : Hid (lt2 up x y = false) := by unfold Hid; rw [HK.out, c1, decide_eq_false (by rw [nat_beq] at c2; simpa using c2)]; rfl
      go_enter Tryz.func136, Tryz.ntmps136
      go_wp2_with fail
      go_quiet (fail)
      go_wp2_with fail
      go_ret
      exact ⟨ret_bool (by rw [HR.out]), nq, rfl⟩
    | true =>
      have HR : Hid (lt2 up x y = decide (x < y)) := by unfold Hid; rw [HK.out, c1, decide_eq_true (by rw [nat_beq] at c2; simpa using c2)]; rfl
      go_enter Tryz.func136, Tryz.ntmps136
      go_wp2_with fail
      go_quiet (fail)
      go_wp2_with fail
      go_ret
      exact ⟨ret_bool (by rw [HR.out]), nq, rfl⟩

theorem cell_drewN (w : World) (m : Nat) (a : Addr) : (w.drewN m).cell? a = w.cell? a := by simp
theorem meth_first (p : Option Addr) (n cap : Nat) (w : World) : (method 254 89 (.slice p n cap) "invigilator/labels.first").run Tryz.prog w = .ok (136, .slice p n cap) w := by kernel_rfl
/-- What the sort asks of two labels. -/
def cfN (up : List UInt8) (x y : Nat) : Int := if lt2 up x y = true then -1 else if lt2 up y x = true then 1 else 0

set_option maxRecDepth 100000 in
set_option maxHeartbeats 2000000 in
theorem cmp_any (up : List UInt8) (n b bx x y : Nat) (w : World) (hL : Lvs up b w) (hB : w.cell? ⟨bx, 0, none⟩ = some (.iface 89 (.slice (some ⟨b, 0, none⟩) n n))) (hx : x < up.length) (hy : y < up.length) (hn : up.length = n) (hn8 : n ≤ 8) :
    Calls Tryz.prog 84 #[.int .i64 x, .int .i64 y, .pointer (some ⟨bx, 0, none⟩)] w fun e w' => e = .returned (.int .i64 (cfN up x y)) ∧ ∃ m, w' = w.drewN m := by
  have HL := Lib.hid hL
  have hm := meth_first (some ⟨b, 0, none⟩) n n
  clear hL
  cases c1 : lt2 up x y with
  | true =>
    have HR : Hid (cfN up x y = -1) := by unfold Hid cfN; rw [if_pos c1]
    go_enter Tryz.func84, Tryz.ntmps84
    go_wp2_with (go_at_call 136; refine (first_any up n b x y _ HL.out hx hy hn hn8).mono ?_; rintro e w' ⟨rfl, m, rfl⟩)
    go_ret
    exact ⟨ret_int HR.out.symm, m, rfl⟩
  | false =>
    cases c2 : lt2 up y x with
    | true =>
      have HR : Hid (cfN up x y = 1) := by unfold Hid cfN; rw [if_neg (by rw [c1]; decide), if_pos c2]
      go_enter Tryz.func84, Tryz.ntmps84
      go_wp2_with fail
      refine (first_any up n b x y _ HL.out hx hy hn hn8).mono ?_
      rintro e w' ⟨rfl, m, rfl⟩
      go_wp2_with fail
      refine (first_any up n b y x _ (fun j hj => (cell_drewN w m _).trans (HL.out j hj)) hy hx hn hn8).mono ?_
      rintro e w' ⟨rfl, m2, rfl⟩
      go_wp2_with fail
      go_ret
      exact ⟨ret_int HR.out.symm, m + m2, rfl⟩
    | false =>
      have HR : Hid (cfN up x y = 0) := by unfold Hid cfN; rw [if_neg (by rw [c1]; decide), if_neg (by rw [c2]; decide)]
      go_enter Tryz.func84, Tryz.ntmps84
      go_wp2_with fail
      refine (first_any up n b x y _ HL.out hx hy hn hn8).mono ?_
      rintro e w' ⟨rfl, m, rfl⟩
      go_wp2_with fail
      refine (first_any up n b y x _ (fun j hj => (cell_drewN w m _).trans (HL.out j hj)) hy hx hn hn8).mono ?_
      rintro e w' ⟨rfl, m2, rfl⟩
      go_wp2_with fail
      go_ret
      exact ⟨ret_int HR.out.symm, m + m2, rfl⟩
end Go.Proofs.YtablaacddbkeiaaGreatDoor
