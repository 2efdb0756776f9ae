/- labels.Down, Up, Sort. -/
import Derived.Test.YtablaacddbkeiaaGreatDoorLbG
import Derived.Test.YtablaacddbkeiaaGreatDoorLtI
namespace Go.Proofs.YtablaacddbkeiaaGreatDoor
open Go.RowKit

theorem lbl_dn {up : List UInt8} {a : Nat} (ha : a < up.length) (hn : up.length ≤ 8) (b : Nat) : b ∈ lbl (dnN up a) ↔ b < up.length ∧ le up b a = true := by
  rw [mem_lbl, dnN_eq ha hn, dn1_bit]
  simp only [Bool.and_eq_true, decide_eq_true_eq]
  constructor
  · rintro ⟨_, h1, h2⟩; exact ⟨h1, h2⟩
  · rintro ⟨h1, h2⟩; exact ⟨by omega, h1, h2⟩
theorem lbl_up {ns : List ByteArray} {up : List UInt8} (hg : Good ns up) {a : Nat} (ha : a < up.length) (b : Nat) : b ∈ lbl (upN up a) ↔ b < up.length ∧ le up a b = true := by
  have hn8 : up.length ≤ 8 := by have := hg.most; have := hg.len; omega
  rw [mem_lbl]
  show b < 8 ∧ le up a b = true ↔ _
  constructor
  · rintro ⟨h1, h2⟩
    refine ⟨?_, h2⟩
    have hb := range_find_none hg.bad a ha
    unfold bad at hb
    simp only [Bool.or_eq_false_iff] at hb
    have hb1 := hb.1.1
    have hq : (up.getD a 0).toNat / 2 ^ up.length = 0 := by simpa using hb1
    have hlt : (up.getD a 0).toNat < 2 ^ up.length := by
      rcases Nat.div_eq_zero_iff.1 hq with h | h
      · exact absurd h (Nat.pos_iff_ne_zero.1 (Nat.pow_pos (by decide)))
      · exact h
    by_cases e : b < up.length
    · exact e
    · have : (up.getD a 0).toNat.testBit b = false := Nat.testBit_lt_two_pow (Nat.lt_of_lt_of_le hlt (Nat.pow_le_pow_right (by decide) (by omega)))
      unfold le at h2
      rw [this] at h2; cases h2
  · rintro ⟨h1, h2⟩; exact ⟨by omega, h2⟩

/-- What is asked of a lattice and a number. -/
def cl1 (ns : List ByteArray) (up : List UInt8) (a : Int) : Int := if ((ck ns up).2 != 0) = true then (ck ns up).2 else if isL ns.length a = true then 0 else 7
theorem cl1_A {ns : List ByteArray} {up : List UInt8} {a : Int} (h : ((ck ns up).2 != 0) = true) : cl1 ns up a = (ck ns up).2 := if_pos h
theorem cl1_B {ns : List ByteArray} {up : List UInt8} {a : Int} (h : ((ck ns up).2 != 0) = false) (h2 : isL ns.length a = true) : cl1 ns up a = 0 := by
  unfold cl1; rw [if_neg (by rw [h]; decide), if_pos h2]
theorem cl1_C {ns : List ByteArray} {up : List UInt8} {a : Int} (h : ((ck ns up).2 != 0) = false) (h2 : isL ns.length a = false) : cl1 ns up a = 7 := by
  unfold cl1; rw [if_neg (by rw [h]; decide), if_neg (by rw [h2]; decide)]
theorem cl1_ok {ns : List ByteArray} {up : List UInt8} {a : Int} (h : (cl1 ns up a != 0) = false) : Good ns up ∧ ∃ x : Nat, a = (x : Int) ∧ x < up.length := by
  cases e0 : ((ck ns up).2 != 0) with
  | true => rw [cl1_A e0, e0] at h; cases h
  | false =>
    have hg : Good ns up := good_of (by simpa using e0)
    refine ⟨hg, ?_⟩
    cases e1 : isL ns.length a with
    | false => rw [cl1_C e0 e1] at h; cases h
    | true =>
      have := isL_iff.1 e1
      have := hg.len
      exact ⟨a.toNat, by omega, by omega⟩

set_option maxRecDepth 100000 in
set_option maxHeartbeats 1000000 in
theorem checkLabel_any (v : Value) (ns : List ByteArray) (up : List UInt8) (a : Int) (w : World) (hv : RdL w.heap.size w v ns up) :
    Calls Tryz.prog 38 #[v, .int .i64 a] w fun e w' => e = .returned (.int .i64 (cl1 ns up a)) ∧ Below w.heap.size w w' := by
  have HL := Lib.hid hv
  obtain ⟨⟨vn, vu, rfl, hS, hB⟩, hsz⟩ := hv
  obtain ⟨q1, cap, rfl, hc, hc2, h⟩ := hS
  obtain ⟨q, cap', rfl, hc', hc2', h'⟩ := hB
  clear h h' hsz
  have HI := Lib.hid (Bx.new HL.out)
  cases e0 : ((ck ns up).2 != 0) with
  | true =>
    have HK : Hid (cl1 ns up a = (ck ns up).2) := cl1_A e0
    go_enter Tryz.func38, Tryz.ntmps38
    go_wp2_with (go_at_call 26; refine (check_any _ ns up _ HI.out.rd).mono ?_; rintro e w' ⟨rfl, hbn⟩; have HI2 := Lib.hid (HI.out.next hbn); clear HI hbn; have HI := HI2; clear HI2)
    go_ret
    exact ⟨ret_int (by rw [HK.out]), HI.out.bel⟩
  | false =>
    cases e1 : isL ns.length a with
    | true =>
      have HK : Hid (cl1 ns up a = 0) := cl1_B e0 e1
      go_enter Tryz.func38, Tryz.ntmps38
      go_wp2_with (first
        | (go_at_call 26; refine (check_any _ ns up _ HI.out.rd).mono ?_; rintro e w' ⟨rfl, hbn⟩; have HI2 := Lib.hid (HI.out.next hbn); clear HI hbn; have HI := HI2; clear HI2; have hx0 := HI.out.x0; have hx1 := HI.out.x1)
        | (go_at_call 44; refine (isLabel_any _ ns up _ _ HI.out.rd).mono ?_; rintro e w' ⟨rfl, hbn⟩; clear hx0 hx1; have HI2 := Lib.hid (HI.out.next hbn); clear HI hbn; have HI := HI2; clear HI2))
      go_ret
      exact ⟨ret_int (by rw [HK.out]), HI.out.bel⟩
    | false =>
      have HK : Hid (cl1 ns up a = 7) := cl1_C e0 e1
      go_enter Tryz.func38, Tryz.ntmps38
      go_wp2_with (first
        | (go_at_call 26; refine (check_any _ ns up _ HI.out.rd).mono ?_; rintro e w' ⟨rfl, hbn⟩; have HI2 := Lib.hid (HI.out.next hbn); clear HI hbn; have HI := HI2; clear HI2; have hx0 := HI.out.x0; have hx1 := HI.out.x1)
        | (go_at_call 44; refine (isLabel_any _ ns up _ _ HI.out.rd).mono ?_; rintro e w' ⟨rfl, hbn⟩; clear hx0 hx1; have HI2 := Lib.hid (HI.out.next hbn); clear HI hbn; have HI := HI2; clear HI2))
      go_ret
      exact ⟨ret_int (by rw [HK.out]), HI.out.bel⟩

/-- A sorted list that a call returns, and no error. -/
def SoT (up : List UInt8) (p : Nat → Bool) (w : World) (e : Ending) (w' : World) : Prop :=
  ∃ a cap, e = .returned (.tuple #[.slice a (srt up p).length cap, .int .i64 0]) ∧ RdN w'.heap.size w' (.slice a (srt up p).length cap) (srt up p) ∧ Below w.heap.size w w'

theorem cl1_0 {ns : List ByteArray} {up : List UInt8} {a : Nat} (hg : Good ns up) (ha : a < up.length) : cl1 ns up (a : Int) = 0 := cl1_B (by rw [hg.ck]; rfl) (isL_nat (by have := hg.len; omega))

/-- What a region keeps. -/
def Kp (w : World) (vn vu : Value) (ns : List ByteArray) (up : List UInt8) (W : World) : Prop := Bx w vn vu ns up W
theorem kp3 {w W : World} {vn vu : Value} {ns : List ByteArray} {up : List UInt8} (h : Bx w vn vu ns up W) : Kp w vn vu ns up W ∧ W.cell? ⟨w.heap.size, 0, none⟩ = some vn ∧ W.cell? ⟨w.heap.size, 1, none⟩ = some vu := ⟨h, h.x0, h.x1⟩
theorem kp3n {w W w' : World} {vn vu : Value} {ns : List ByteArray} {up : List UInt8} {p q : Prop} (h : Kp w vn vu ns up W ∧ p ∧ q) (hb : Below W.heap.size W w') : Kp w vn vu ns up w' ∧ w'.cell? ⟨w.heap.size, 0, none⟩ = some vn ∧ w'.cell? ⟨w.heap.size, 1, none⟩ = some vu := kp3 (Bx.next h.1 hb)
theorem kp3d {w W : World} {vn vu : Value} {ns : List ByteArray} {up : List UInt8} (h : Bx w vn vu ns up W) : Kp w vn vu ns up W.drew ∧ W.drew.cell? ⟨w.heap.size, 0, none⟩ = some vn ∧ W.drew.cell? ⟨w.heap.size, 1, none⟩ = some vu := kp3 (h.next (Below.refl _ _).drew)

set_option maxRecDepth 100000 in
set_option maxHeartbeats 2000000 in
theorem ldown_ok (v : Value) (ns : List ByteArray) (up : List UInt8) (a : Nat) (w : World) (hv : RdL w.heap.size w v ns up) (hg : Good ns up) (ha : a < up.length) :
    Calls Tryz.prog 15 #[v, .int .i64 a] w (SoT up (fun b => le up b a) w) := by
  have HL := Lib.hid hv
  obtain ⟨⟨vn, vu, rfl, hS, hB⟩, hsz⟩ := hv
  obtain ⟨q1, cap, rfl, hc, hc2, h⟩ := hS
  obtain ⟨q, cap', rfl, hc', hc2', h'⟩ := hB
  clear h h' hsz
  have HI := Lib.hid (Bx.new HL.out)
  have HG := Lib.hid hg
  have HK := Lib.hid (cl1_0 hg ha)
  have hu8 : up.length ≤ 8 := by have := hg.most; have := hg.len; omega
  clear hg
  have hdl := dnN_lt up a
  have HB := Lib.hid (lbl_dn ha hu8)
  have HD : Hid (∀ W, RdL W.heap.size W (.agg #[.slice q1 ns.length cap, .slice q up.length cap']) ns up → Calls Tryz.prog 40 #[.agg #[.slice q1 ns.length cap, .slice q up.length cap'], .int .i64 a] W fun e w' => e = .returned (.int .u8 (dnN up a)) ∧ Below W.heap.size W w') := fun W hW => downSet_any _ ns up a W hW HG.out ha
  generalize dnN up a = d at hdl HB HD
  go_enter Tryz.func15, Tryz.ntmps15
  go_wp2_with (first
    | (go_at_call 38; refine (checkLabel_any _ ns up _ _ HI.out.rd).mono ?_; rw [HK.out]; rintro e w1 ⟨rfl, hbn⟩; have HI2 := Lib.hid (HI.out.next hbn); clear HI hbn; have HI := HI2; clear HI2))
  have hS := HI.out
  clear HI
  go_region_held3 (fun W => Kp w (.slice q1 ns.length cap) (.slice q up.length cap') ns up W ∧ W.cell? ⟨w.heap.size, 0, none⟩ = some (.slice q1 ns.length cap) ∧ W.cell? ⟨w.heap.size, 1, none⟩ = some (.slice q up.length cap'))
    ((first | exact kp3n (by assumption) hbn | exact kp3d hS))
    (first
      | (go_at_call 40; refine (HD.out _ (by assumption : Kp _ _ _ _ _ _ ∧ _ ∧ _).1.rd).mono ?_; rintro e wn ⟨rfl, hbn⟩)
      | (go_at_call 39; refine (sorted_any _ ns up d _ _ (by assumption : Kp _ _ _ _ _ _ ∧ _ ∧ _).1.rd HG.out hdl HB.out).mono ?_; rintro e wn ⟨ra, rc, rfl, hrd, hbn⟩))
  have HE := Lib.hid (And.intro hrd (by assumption : Kp _ _ _ _ _ _ ∧ _ ∧ _).1)
  clear hrd
  go_wp2_with fail
  go_ret2
  exact ⟨ra, rc, rfl, HE.out.1, HE.out.2.bel⟩

set_option maxRecDepth 100000 in
set_option maxHeartbeats 2000000 in
theorem lup_ok (v : Value) (ns : List ByteArray) (up : List UInt8) (a : Nat) (w : World) (hv : RdL w.heap.size w v ns up) (hg : Good ns up) (ha : a < up.length) :
    Calls Tryz.prog 16 #[v, .int .i64 a] w (SoT up (fun b => le up a b) w) := by
  have HL := Lib.hid hv
  obtain ⟨⟨vn, vu, rfl, hS, hB⟩, hsz⟩ := hv
  obtain ⟨q1, cap, rfl, hc, hc2, h⟩ := hS
  obtain ⟨q, cap', rfl, hc', hc2', h'⟩ := hB
  clear h h' hsz
  have HI := Lib.hid (Bx.new HL.out)
  have HG := Lib.hid hg
  have HK := Lib.hid (cl1_0 hg ha)
  have hu8 : up.length ≤ 8 := by have := hg.most; have := hg.len; omega
  clear hg
  have hdl := upN_lt up a
  have HB := Lib.hid (lbl_up HG.out ha)
  have HD : Hid (∀ W, RdL W.heap.size W (.agg #[.slice q1 ns.length cap, .slice q up.length cap']) ns up → Calls Tryz.prog 41 #[.agg #[.slice q1 ns.length cap, .slice q up.length cap'], .int .i64 a] W fun e w' => e = .returned (.int .u8 (upN up a)) ∧ Below W.heap.size W w') := fun W hW => upSet_any _ ns up a W hW ha
  generalize upN up a = d at hdl HB HD
  go_enter Tryz.func16, Tryz.ntmps16
  go_wp2_with (first
    | (go_at_call 38; refine (checkLabel_any _ ns up _ _ HI.out.rd).mono ?_; rw [HK.out]; rintro e w1 ⟨rfl, hbn⟩; have HI2 := Lib.hid (HI.out.next hbn); clear HI hbn; have HI := HI2; clear HI2))
  have hS := HI.out
  clear HI
  go_region_held3 (fun W => Kp w (.slice q1 ns.length cap) (.slice q up.length cap') ns up W ∧ W.cell? ⟨w.heap.size, 0, none⟩ = some (.slice q1 ns.length cap) ∧ W.cell? ⟨w.heap.size, 1, none⟩ = some (.slice q up.length cap'))
    ((first | exact kp3n (by assumption) hbn | exact kp3d hS))
    (first
      | (go_at_call 41; refine (HD.out _ (by assumption : Kp _ _ _ _ _ _ ∧ _ ∧ _).1.rd).mono ?_; rintro e wn ⟨rfl, hbn⟩)
      | (go_at_call 39; refine (sorted_any _ ns up d _ _ (by assumption : Kp _ _ _ _ _ _ ∧ _ ∧ _).1.rd HG.out hdl HB.out).mono ?_; rintro e wn ⟨ra, rc, rfl, hrd, hbn⟩))
  have HE := Lib.hid (And.intro hrd (by assumption : Kp _ _ _ _ _ _ ∧ _ ∧ _).1)
  clear hrd
  go_wp2_with fail
  go_ret2
  exact ⟨ra, rc, rfl, HE.out.1, HE.out.2.bel⟩

set_option maxRecDepth 100000 in
set_option maxHeartbeats 1000000 in
theorem ldown_bad (v : Value) (ns : List ByteArray) (up : List UInt8) (a : Int) (w : World) (hv : RdL w.heap.size w v ns up) (hk : (cl1 ns up a != 0) = true) :
    Calls Tryz.prog 15 #[v, .int .i64 a] w fun e w' => e = .returned (.tuple #[.slice none 0 0, .int .i64 (cl1 ns up a)]) ∧ Below w.heap.size w w' := by
  have HL := Lib.hid hv
  obtain ⟨⟨vn, vu, rfl, hS, hB⟩, hsz⟩ := hv
  obtain ⟨q1, cap, rfl, hc, hc2, h⟩ := hS
  obtain ⟨q, cap', rfl, hc', hc2', h'⟩ := hB
  clear h h' hsz
  have HI := Lib.hid (Bx.new HL.out)
  go_enter Tryz.func15, Tryz.ntmps15
  go_wp2_with (go_at_call 38; refine (checkLabel_any _ ns up _ _ HI.out.rd).mono ?_; rintro e w' ⟨rfl, hbn⟩; have HI2 := Lib.hid (HI.out.next hbn); clear HI hbn; have HI := HI2; clear HI2)
  go_ret2
  exact ⟨rfl, HI.out.bel⟩

set_option maxRecDepth 100000 in
set_option maxHeartbeats 1000000 in
theorem lup_bad (v : Value) (ns : List ByteArray) (up : List UInt8) (a : Int) (w : World) (hv : RdL w.heap.size w v ns up) (hk : (cl1 ns up a != 0) = true) :
    Calls Tryz.prog 16 #[v, .int .i64 a] w fun e w' => e = .returned (.tuple #[.slice none 0 0, .int .i64 (cl1 ns up a)]) ∧ Below w.heap.size w w' := by
  have HL := Lib.hid hv
  obtain ⟨⟨vn, vu, rfl, hS, hB⟩, hsz⟩ := hv
  obtain ⟨q1, cap, rfl, hc, hc2, h⟩ := hS
  obtain ⟨q, cap', rfl, hc', hc2', h'⟩ := hB
  clear h h' hsz
  have HI := Lib.hid (Bx.new HL.out)
  go_enter Tryz.func16, Tryz.ntmps16
  go_wp2_with (go_at_call 38; refine (checkLabel_any _ ns up _ _ HI.out.rd).mono ?_; rintro e w' ⟨rfl, hbn⟩; have HI2 := Lib.hid (HI.out.next hbn); clear HI hbn; have HI := HI2; clear HI2)
  go_ret2
  exact ⟨rfl, HI.out.bel⟩

/-- What a region keeps, of a list besides. -/
def Kl (w : World) (vn vu lv : Value) (ns : List ByteArray) (up : List UInt8) (ls : List Nat) (W : World) : Prop := Bx w vn vu ns up W ∧ RdN W.heap.size W lv ls
theorem kl3 {w W : World} {vn vu lv : Value} {ns : List ByteArray} {up : List UInt8} {ls : List Nat} (h : Bx w vn vu ns up W) (h2 : RdN W.heap.size W lv ls) : Kl w vn vu lv ns up ls W ∧ W.cell? ⟨w.heap.size, 0, none⟩ = some vn ∧ W.cell? ⟨w.heap.size, 1, none⟩ = some vu := ⟨⟨h, h2⟩, h.x0, h.x1⟩
theorem kl3n {w W w' : World} {vn vu lv : Value} {ns : List ByteArray} {up : List UInt8} {ls : List Nat} {p q : Prop} (h : Kl w vn vu lv ns up ls W ∧ p ∧ q) (hb : Below W.heap.size W w') : Kl w vn vu lv ns up ls w' ∧ w'.cell? ⟨w.heap.size, 0, none⟩ = some vn ∧ w'.cell? ⟨w.heap.size, 1, none⟩ = some vu := kl3 (Bx.next h.1.1 hb) (h.1.2.next hb)
theorem kl3d {w W : World} {vn vu lv : Value} {ns : List ByteArray} {up : List UInt8} {ls : List Nat} (h : Kl w vn vu lv ns up ls W) : Kl w vn vu lv ns up ls W.drew ∧ W.drew.cell? ⟨w.heap.size, 0, none⟩ = some vn ∧ W.drew.cell? ⟨w.heap.size, 1, none⟩ = some vu := kl3 (h.1.next (Below.refl _ _).drew) (h.2.next (Below.refl _ _).drew)

set_option maxRecDepth 100000 in
set_option maxHeartbeats 2000000 in
theorem lsort_ok (v u : Value) (ns : List ByteArray) (up : List UInt8) (ls : List Nat) (w : World) (hv : RdL w.heap.size w v ns up) (hz : RdN w.heap.size w u ls) (hg : GL ns up ls) :
    Calls Tryz.prog 20 #[v, u] w (SoT up (fun b => decide (b ∈ ls)) w) := by
  have HL := Lib.hid hv
  obtain ⟨⟨vn, vu, rfl, hS, hB⟩, hsz⟩ := hv
  obtain ⟨q1, cap, rfl, hc, hc2, h⟩ := hS
  obtain ⟨q, cap', rfl, hc', hc2', h'⟩ := hB
  clear h h' hsz
  have HZ := Lib.hid hz
  obtain ⟨a, c, rfl, hl, hl2, h⟩ := hz
  clear h
  have HI := Lib.hid (Bx.new HL.out)
  have HG := Lib.hid hg
  have H8 := Lib.hid hg.all8
  have HB : Hid (∀ b, b ∈ lbl (bt ls) ↔ b < up.length ∧ decide (b ∈ ls) = true) := fun b => by
    rw [lbl_bt hg.all8, decide_eq_true_iff]
    exact ⟨fun h => ⟨hg.all b h, h⟩, fun h => h.2⟩
  have hdl := bt_lt ls hg.all8
  clear hg
  have HD : Hid (∀ W, RdN W.heap.size W (.slice a ls.length c) ls → Calls Tryz.prog 42 #[.slice a ls.length c] W fun e w' => e = .returned (.int .u8 (bt ls)) ∧ W = w') := fun W hW => setOf_any _ ls W hW H8.out
  generalize bt ls = d at hdl HB HD
  go_enter Tryz.func20, Tryz.ntmps20
  go_wp2_with (first
    | (go_at_call 22; refine (lcheck_ok _ _ ns up ls _ HI.out.rd (HZ.out.next HI.out.bel) HG.out).mono ?_; rintro e w1 ⟨rfl, hbn⟩; have HI2 := Lib.hid (HI.out.next hbn); clear HI hbn; have HI := HI2; clear HI2))
  have hS : Kl w (.slice q1 ns.length cap) (.slice q up.length cap') (.slice a ls.length c) ns up ls w1 := ⟨HI.out, HZ.out.next HI.out.bel⟩
  clear HI
  go_region_held3 (fun W => Kl w (.slice q1 ns.length cap) (.slice q up.length cap') (.slice a ls.length c) ns up ls W ∧ W.cell? ⟨w.heap.size, 0, none⟩ = some (.slice q1 ns.length cap) ∧ W.cell? ⟨w.heap.size, 1, none⟩ = some (.slice q up.length cap'))
    ((first | exact kl3n (by assumption) hbn | exact kl3d hS))
    (first
      | (go_at_call 42; refine (HD.out _ (by assumption : Kl _ _ _ _ _ _ _ _ ∧ _ ∧ _).1.2).mono ?_; rintro e wn ⟨rfl, rfl⟩)
      | (go_at_call 39; refine (sorted_any _ ns up d _ _ (by assumption : Kl _ _ _ _ _ _ _ _ ∧ _ ∧ _).1.1.rd HG.out.good hdl HB.out).mono ?_; rintro e wn ⟨ra, rc, rfl, hrd, hbn⟩))
  have HE := Lib.hid (And.intro hrd (by assumption : Kl _ _ _ _ _ _ _ _ ∧ _ ∧ _).1.1)
  clear hrd
  go_wp2_with fail
  go_ret2
  exact ⟨ra, rc, rfl, HE.out.1, HE.out.2.bel⟩
end Go.Proofs.YtablaacddbkeiaaGreatDoor
