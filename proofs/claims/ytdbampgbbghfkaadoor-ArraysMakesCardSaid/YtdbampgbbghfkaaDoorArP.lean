/- Compare of numbers and of slices; Compare of the code. -/
import Derived.Test.YtdbampgbbghfkaaDoorArG
import Derived.Deep.RegionHeld3
namespace Go.Proofs.YtdbampgbbghfkaaDoor
open Go.RowKit

def cmZ (a b : Int) : Int := if a < b then -1 else if b < a then 1 else 0
/-- The order of lists. -/
def lxZ : List Int → List Int → Int
  | [], [] => 0
  | [], _ :: _ => -1
  | _ :: _, [] => 1
  | x :: l, y :: m => if cmZ x y = 0 then lxZ l m else cmZ x y
/-- The first number that is not 0. -/
def orZ : List Int → Int
  | [] => 0
  | x :: l => if x = 0 then orZ l else x
def cmV (A B : Ar) : Int := orZ [cmZ A.k B.k, cmZ A.r B.r, lxZ [A.a, A.b] [B.a, B.b], lxZ A.z B.z]
def cpE (A B : Ar) : Int := if ck A = 0 then ck B else ck A
def cpV (A B : Ar) : Int := if cpE A B = 0 then cmV A B else 0
theorem lx_eq {l m : List Int} {j : Nat} (hl : j < l.length) (hm : j < m.length) (h : cmZ l[j] m[j] = 0) : lxZ (l.drop j) (m.drop j) = lxZ (l.drop (j + 1)) (m.drop (j + 1)) := by
  rw [List.drop_eq_getElem_cons hl, List.drop_eq_getElem_cons hm]
  simp only [lxZ, h, if_true]
theorem lx_ne {l m : List Int} {j : Nat} (hl : j < l.length) (hm : j < m.length) (h : cmZ l[j] m[j] ≠ 0) : lxZ (l.drop j) (m.drop j) = cmZ l[j] m[j] := by
  rw [List.drop_eq_getElem_cons hl, List.drop_eq_getElem_cons hm]
  simp only [lxZ]
  exact if_neg h
theorem lx_long {l m : List Int} {j : Nat} (hl : j < l.length) (hm : ¬ j < m.length) : lxZ (l.drop j) (m.drop j) = 1 := by
  rw [List.drop_eq_getElem_cons hl, List.drop_eq_nil_of_le (show m.length ≤ j by omega)]; rfl
theorem lx_end {l m : List Int} {j : Nat} (hl : ¬ j < l.length) : lxZ (l.drop j) (m.drop j) = if j < m.length then -1 else 0 := by
  rw [List.drop_eq_nil_of_le (show l.length ≤ j by omega)]
  by_cases hm : j < m.length
  · rw [List.drop_eq_getElem_cons hm, if_pos hm]; rfl
  · rw [List.drop_eq_nil_of_le (show m.length ≤ j by omega), if_neg hm]; rfl
theorem or_eq {l : List Int} {j : Nat} (hl : j < l.length) (h : l[j] = 0) : orZ (l.drop j) = orZ (l.drop (j + 1)) := by
  rw [List.drop_eq_getElem_cons hl]
  simp only [orZ, h, if_true]
theorem or_ne {l : List Int} {j : Nat} (hl : j < l.length) (h : l[j] ≠ 0) : orZ (l.drop j) = l[j] := by
  rw [List.drop_eq_getElem_cons hl]
  simp only [orZ]
  exact if_neg h

set_option maxHeartbeats 1000000 in
theorem cmp_int (a b : Int) (w : World) : Calls Tryd.prog 41 #[.int .i64 a, .int .i64 b] w fun e w' => e = .returned (.int .i64 (cmZ a b)) ∧ w = w' := by
  by_cases h1 : a < b
  · rw [show cmZ a b = -1 from if_pos h1]
    go_enter Tryd.func41, Tryd.ntmps41
    go_wp2
    go_ret
    exact ⟨rfl, rfl⟩
  · by_cases h2 : b < a
    · rw [show cmZ a b = 1 by unfold cmZ; rw [if_neg h1, if_pos h2]]
      go_enter Tryd.func41, Tryd.ntmps41
      go_wp2
      go_ret
      exact ⟨rfl, rfl⟩
    · rw [show cmZ a b = 0 by unfold cmZ; rw [if_neg h1, if_neg h2]]
      go_enter Tryd.func41, Tryd.ntmps41
      go_wp2
      go_ret
      exact ⟨rfl, rfl⟩

set_option maxHeartbeats 1000000 in
theorem cmp_i64 (a b : Int) (w : World) : Calls Tryd.prog 60 #[.int .i64 a, .int .i64 b] w fun e w' => e = .returned (.int .i64 (cmZ a b)) ∧ w = w' := by
  by_cases h1 : a < b
  · rw [show cmZ a b = -1 from if_pos h1]
    go_enter Tryd.func60, Tryd.ntmps60
    go_wp2
    go_ret
    exact ⟨rfl, rfl⟩
  · by_cases h2 : b < a
    · rw [show cmZ a b = 1 by unfold cmZ; rw [if_neg h1, if_pos h2]]
      go_enter Tryd.func60, Tryd.ntmps60
      go_wp2
      go_ret
      exact ⟨rfl, rfl⟩
    · rw [show cmZ a b = 0 by unfold cmZ; rw [if_neg h1, if_neg h2]]
      go_enter Tryd.func60, Tryd.ntmps60
      go_wp2
      go_ret
      exact ⟨rfl, rfl⟩

set_option maxRecDepth 100000 in
set_option maxHeartbeats 4000000 in
theorem slc_int (v u : Value) (l m : List Int) (w : World) (hv : RdI w.heap.size w v l) (hu : RdI w.heap.size w u m) :
    Calls Tryd.prog 42 #[v, u] w fun e w' => e = .returned (.int .i64 (lxZ l m)) ∧ w = w' := by
  have HV := Lib.hid hv
  have HU := Lib.hid hu
  obtain ⟨p, cap, rfl, hcap, hcap2, hcell⟩ := hv
  obtain ⟨q, cap', rfl, hcap', hcap2', hcell'⟩ := hu
  clear hcell hcell'
  have HC := Lib.hid (fun a b W => cmp_int a b W)
  go_enter Tryd.func42, Tryd.ntmps42
  go_wp2
  go_loopg [11] l.length (fun g i wr => ∃ j : Nat, j + g = l.length ∧ i = .int .i64 j ∧ w = wr ∧ Hid (lxZ l m = lxZ (l.drop j) (m.drop j)))
  case atStart => exact ⟨0, by omega, rfl, rfl, rfl⟩
  case round =>
    obtain ⟨j, hjg, rfl, rfl, hq⟩ := hrel
    cases gk with
    | zero =>
      have hjz : ¬ ((j : Int) < (l.length : Int)) := by omega
      have HE := Lib.hid (hq.out.trans (lx_end (m := m) (by omega : ¬ j < l.length)))
      by_cases hm : l.length < m.length
      · have hmi : (l.length : Int) < (m.length : Int) := by omega
        go_wp2
        go_ret
        exact ⟨ret_i (by rw [HE.out, if_pos (by omega)]), rfl⟩
      · have hmi : ¬ (l.length : Int) < (m.length : Int) := by omega
        go_wp2
        go_ret
        exact ⟨ret_i (by rw [HE.out, if_neg (by omega)]), rfl⟩
    | succ g =>
      have hjz : (j : Int) < (l.length : Int) := by omega
      have hj : j < l.length := by omega
      obtain ⟨b, off, rfl, hbb, hc⟩ := HV.out.cells (by intro e; rw [e] at hj; simp at hj)
      have x1 := hc j hj
      by_cases hm : j < m.length
      · have hmi : ¬ (j : Int) ≥ (m.length : Int) := by omega
        have hmi2 : (j : Int) < (m.length : Int) := by omega
        obtain ⟨b2, off2, rfl, hbb2, hc2⟩ := HU.out.cells (by intro e; rw [e] at hm; simp at hm)
        have x2 := hc2 j hm
        clear hc hc2
        have HEq := Lib.hid (lx_eq hj hm)
        have HNe := Lib.hid (lx_ne hj hm)
        generalize l[j] = a at x1 HEq HNe
        generalize m[j] = c at x2 HEq HNe
        generalize hz : cmZ a c = z at HEq HNe
        have HZ := Lib.hid hz
        by_cases h0 : z = 0
        · subst h0
          have HX := Lib.hid (HEq.out rfl)
          clear hz
          go_wp2_with (go_at_call 41; refine (HC.out a c _).mono ?_; rw [HZ.out]; rintro e w' ⟨rfl, rfl⟩)
          go_roundg g
          case measure => omega
          case rel => exact ⟨j + 1, by omega, by go_num, rfl, hq.out.trans HX.out⟩
        · have HX := Lib.hid (HNe.out h0)
          have e0 : (z != 0) = true := by simpa using h0
          clear hz h0
          go_wp2_with (go_at_call 41; refine (HC.out a c _).mono ?_; rw [HZ.out]; rintro e w' ⟨rfl, rfl⟩)
          go_ret
          exact ⟨ret_i (hq.out.trans HX.out).symm, rfl⟩
      · have hmi : (j : Int) ≥ (m.length : Int) := by omega
        have HX := Lib.hid (lx_long hj hm)
        clear hc
        go_wp2
        go_ret
        exact ⟨ret_i (hq.out.trans HX.out).symm, rfl⟩

set_option maxRecDepth 100000 in
set_option maxHeartbeats 4000000 in
theorem slc_i64 (v u : Value) (l m : List Int) (w : World) (hv : RdI w.heap.size w v l) (hu : RdI w.heap.size w u m) :
    Calls Tryd.prog 43 #[v, u] w fun e w' => e = .returned (.int .i64 (lxZ l m)) ∧ w = w' := by
  have HV := Lib.hid hv
  have HU := Lib.hid hu
  obtain ⟨p, cap, rfl, hcap, hcap2, hcell⟩ := hv
  obtain ⟨q, cap', rfl, hcap', hcap2', hcell'⟩ := hu
  clear hcell hcell'
  have HC := Lib.hid (fun a b W => cmp_i64 a b W)
  go_enter Tryd.func43, Tryd.ntmps43
  go_wp2
  go_loopg [11] l.length (fun g i wr => ∃ j : Nat, j + g = l.length ∧ i = .int .i64 j ∧ w = wr ∧ Hid (lxZ l m = lxZ (l.drop j) (m.drop j)))
  case atStart => exact ⟨0, by omega, rfl, rfl, rfl⟩
  case round =>
    obtain ⟨j, hjg, rfl, rfl, hq⟩ := hrel
    cases gk with
    | zero =>
      have hjz : ¬ ((j : Int) < (l.length : Int)) := by omega
      have HE := Lib.hid (hq.out.trans (lx_end (m := m) (by omega : ¬ j < l.length)))
      by_cases hm : l.length < m.length
      · have hmi : (l.length : Int) < (m.length : Int) := by omega
        go_wp2
        go_ret
        exact ⟨ret_i (by rw [HE.out, if_pos (by omega)]), rfl⟩
      · have hmi : ¬ (l.length : Int) < (m.length : Int) := by omega
        go_wp2
        go_ret
        exact ⟨ret_i (by rw [HE.out, if_neg (by omega)]), rfl⟩
    | succ g =>
      have hjz : (j : Int) < (l.length : Int) := by omega
      have hj : j < l.length := by omega
      obtain ⟨b, off, rfl, hbb, hc⟩ := HV.out.cells (by intro e; rw [e] at hj; simp at hj)
      have x1 := hc j hj
      by_cases hm : j < m.length
      · have hmi : ¬ (j : Int) ≥ (m.length : Int) := by omega
        have hmi2 : (j : Int) < (m.length : Int) := by omega
        obtain ⟨b2, off2, rfl, hbb2, hc2⟩ := HU.out.cells (by intro e; rw [e] at hm; simp at hm)
        have x2 := hc2 j hm
        clear hc hc2
        have HEq := Lib.hid (lx_eq hj hm)
        have HNe := Lib.hid (lx_ne hj hm)
        generalize l[j] = a at x1 HEq HNe
        generalize m[j] = c at x2 HEq HNe
        generalize hz : cmZ a c = z at HEq HNe
        have HZ := Lib.hid hz
        by_cases h0 : z = 0
        · subst h0
          have HX := Lib.hid (HEq.out rfl)
          clear hz
          go_wp2_with (go_at_call 60; refine (HC.out a c _).mono ?_; rw [HZ.out]; rintro e w' ⟨rfl, rfl⟩)
          go_roundg g
          case measure => omega
          case rel => exact ⟨j + 1, by omega, by go_num, rfl, hq.out.trans HX.out⟩
        · have HX := Lib.hid (HNe.out h0)
          have e0 : (z != 0) = true := by simpa using h0
          clear hz h0
          go_wp2_with (go_at_call 60; refine (HC.out a c _).mono ?_; rw [HZ.out]; rintro e w' ⟨rfl, rfl⟩)
          go_ret
          exact ⟨ret_i (hq.out.trans HX.out).symm, rfl⟩
      · have hmi : (j : Int) ≥ (m.length : Int) := by omega
        have HX := Lib.hid (lx_long hj hm)
        clear hc
        go_wp2
        go_ret
        exact ⟨ret_i (hq.out.trans HX.out).symm, rfl⟩

set_option maxRecDepth 100000 in
set_option maxHeartbeats 4000000 in
theorem or_any (v : Value) (l : List Int) (w : World) (hv : RdI w.heap.size w v l) :
    Calls Tryd.prog 40 #[v] w fun e w' => e = .returned (.int .i64 (orZ l)) ∧ w = w' := by
  have HV := Lib.hid hv
  obtain ⟨p, cap, rfl, hcap, hcap2, hcell⟩ := hv
  clear hcell
  go_enter Tryd.func40, Tryd.ntmps40
  go_wp2
  go_loopg [8] l.length (fun g i wr => ∃ j : Nat, j + g = l.length ∧ i = .int .i64 j ∧ w = wr ∧ Hid (orZ l = orZ (l.drop j)))
  case atStart => exact ⟨0, by omega, rfl, rfl, rfl⟩
  case round =>
    obtain ⟨j, hjg, rfl, rfl, hq⟩ := hrel
    cases gk with
    | zero =>
      have hjz : ¬ ((j : Int) < (l.length : Int)) := by omega
      have HE : Hid (orZ l = 0) := by unfold Hid; rw [hq.out, List.drop_eq_nil_of_le (by omega)]; rfl
      go_wp2
      go_ret
      exact ⟨ret_i HE.out.symm, rfl⟩
    | succ g =>
      have hjz : (j : Int) < (l.length : Int) := by omega
      have hj : j < l.length := by omega
      obtain ⟨b, off, rfl, hbb, hc⟩ := HV.out.cells (by intro e; rw [e] at hj; simp at hj)
      have x1 := hc j hj
      have HEq := Lib.hid (or_eq hj)
      have HNe := Lib.hid (or_ne hj)
      generalize l[j] = a at x1 HEq HNe
      clear hc
      by_cases h0 : a = 0
      · subst h0
        have HX := Lib.hid (HEq.out rfl)
        go_wp2
        go_roundg g
        case measure => omega
        case rel => exact ⟨j + 1, by omega, by go_num, rfl, hq.out.trans HX.out⟩
      · have HX := Lib.hid (HNe.out h0)
        have e0 : (a != 0) = true := by simpa using h0
        clear h0
        go_wp2
        go_ret
        exact ⟨ret_i (hq.out.trans HX.out).symm, rfl⟩

/-- The lengths of an array that is boxed, as a slice. -/
theorem R5.lens {w : World} {g : Nat} {k r a b : Int} {v : Value} (h : R5 w g k r a b v) : RdI w.heap.size w (.slice (some ⟨g, 2, none⟩) 2 2) [a, b] := by
  refine ⟨_, 2, rfl, Nat.le_refl _, by omega, fun _ => ⟨g, 2, rfl, h.lt, fun j hj => ?_⟩⟩
  match j, hj with
  | 0, _ => exact h.c2
  | 1, _ => exact h.c3
theorem four_int (W : World) (g : Nat) (hg : W.heap.size = g) (a b c d : Int) : RdI (W.alloc (.cells #[.int .i64 a, .int .i64 b, .int .i64 c, .int .i64 d] 3)).heap.size (W.alloc (.cells #[.int .i64 a, .int .i64 b, .int .i64 c, .int .i64 d] 3)) (.slice (some ⟨g, 0, none⟩) 4 4) [a, b, c, d] := by
  subst hg
  refine ⟨_, 4, rfl, Nat.le_refl _, by omega, fun _ => ⟨W.heap.size, 0, rfl, by simp, fun j hj => ?_⟩⟩
  match j, hj with
  | 0, _ => simp [World.cell?_alloc_new]
  | 1, _ => simp [World.cell?_alloc_new]
  | 2, _ => simp [World.cell?_alloc_new]
  | 3, _ => simp [World.cell?_alloc_new]
abbrev KD3 (w : World) (A : Ar) (v : Value) (B : Ar) (u : Value) (L : World → Prop) (W : World) : Prop := (KD w A v B u W ∧ L W) ∧ W.cell? ⟨w.heap.size, 0, none⟩ = some (.int .i64 A.k) ∧ W.cell? ⟨w.heap.size, 1, none⟩ = some (.int .i64 A.r) ∧ W.cell? ⟨w.heap.size, 4, none⟩ = some v ∧ W.cell? ⟨w.heap.size + 1, 0, none⟩ = some (.int .i64 B.k) ∧ W.cell? ⟨w.heap.size + 1, 1, none⟩ = some (.int .i64 B.r) ∧ W.cell? ⟨w.heap.size + 1, 4, none⟩ = some u ∧ w.heap.size < W.heap.size ∧ w.heap.size + 1 < W.heap.size
theorem KD.all {w W : World} {A B : Ar} {v u : Value} {L : World → Prop} (h : KD w A v B u W) (hL : L W) : KD3 w A v B u L W := ⟨⟨h, hL⟩, h.b0.c0, h.b0.c1, h.b0.c4, h.b1.c0, h.b1.c1, h.b1.c4, h.b0.lt, h.b1.lt⟩

set_option maxRecDepth 100000 in
set_option maxHeartbeats 8000000 in
theorem compare_any (A B : Ar) (v u : Value) (w : World) (hw : Ru.Lay w) (hv : RdI w.heap.size w v A.z) (hu : RdI w.heap.size w u B.z) (hl : A.z.length ≤ 1000000) (hm : B.z.length ≤ 1000000) :
    Calls Tryd.prog 24 #[A5 A.k A.r A.a A.b v, A5 B.k B.r B.a B.b u] w fun e w' => e = .returned (.tuple #[.int .i64 (cpV A B), .int .i64 (cpE A B)]) ∧ Below w.heap.size w w' := by
  have HC1 := Lib.hid (fun W h1 h2 => acheck_any A v W h1 h2 hl)
  have HC2 := Lib.hid (fun W h1 h2 => acheck_any B u W h1 h2 hm)
  have HK := Lib.hid (KD.new (A := A) (B := B) hv hu)
  have HL := Lib.hid hw
  have x0 := HK.out.b0.c0; have x1 := HK.out.b0.c1; have x2 := HK.out.b0.c2; have x3 := HK.out.b0.c3; have x4 := HK.out.b0.c4
  have y0 := HK.out.b1.c0; have y1 := HK.out.b1.c1; have y2 := HK.out.b1.c2; have y3 := HK.out.b1.c3; have y4 := HK.out.b1.c4
  obtain ⟨p, cap, rfl, hcap, hcap2, hcell⟩ := hv
  obtain ⟨q, cap', rfl, hcap', hcap2', hcell'⟩ := hu
  clear hcell hcell' hw
  by_cases h1 : ck A = 0
  · rw [h1] at HC1
    have HE0 : Hid (cpE A B = ck B) := if_pos h1
    by_cases h2 : ck B = 0
    · have HE : Hid (cpV A B = cmV A B ∧ cpE A B = 0) := by
        have e : cpE A B = 0 := HE0.out.trans h2
        exact ⟨if_pos e, e⟩
      rw [HE.out.1, HE.out.2]
      rw [h2] at HC2
      clear h1 h2 HE0
      have HS1 := Lib.hid (fun a b W => cmp_int a b W)
      have HS2 := Lib.hid (fun v u l m W h1 h2 => slc_int v u l m W h1 h2)
      have HS3 := Lib.hid (fun v u l m W h1 h2 => slc_i64 v u l m W h1 h2)
      have HOr : Hid (∀ (W : World) (g : Nat), W.heap.size = g → Calls Tryd.prog 40 #[.slice (some ⟨g, 0, none⟩) 4 4] (W.alloc (.cells #[.int .i64 (cmZ A.k B.k), .int .i64 (cmZ A.r B.r), .int .i64 (lxZ [A.a, A.b] [B.a, B.b]), .int .i64 (lxZ A.z B.z)] 3)).drew fun e w' => e = .returned (.int .i64 (cmV A B)) ∧ (W.alloc (.cells #[.int .i64 (cmZ A.k B.k), .int .i64 (cmZ A.r B.r), .int .i64 (lxZ [A.a, A.b] [B.a, B.b]), .int .i64 (lxZ A.z B.z)] 3)).drew = w') := fun W g hg =>
        or_any _ _ _ ((four_int W g hg _ _ _ _).next (Below.refl _ _).drew)
      generalize cmV A B = R at HOr ⊢
      go_enter Tryd.func24, Tryd.ntmps24
      go_wp2_with (first
        | (go_at_call 17; (with_reducible refine (HC1.out _ (HL.out.next HK.out.bel) HK.out.rd0).mono ?_); rintro e w' ⟨rfl, hb⟩; have HK2 := Lib.hid (HK.out.next hb); clear HK hb x0 x1 x2 x3 x4 y0 y1 y2 y3 y4; have HK := HK2; clear HK2; have x0 := HK.out.b0.c0; have x1 := HK.out.b0.c1; have x2 := HK.out.b0.c2; have x3 := HK.out.b0.c3; have x4 := HK.out.b0.c4; have y0 := HK.out.b1.c0; have y1 := HK.out.b1.c1; have y2 := HK.out.b1.c2; have y3 := HK.out.b1.c3; have y4 := HK.out.b1.c4)
        | (go_at_call 17; (with_reducible refine (HC2.out _ (HL.out.next HK.out.bel) HK.out.rd1).mono ?_); rintro e w' ⟨rfl, hb⟩; have HK2 := Lib.hid (HK.out.next hb); clear HK hb x0 x1 x2 x3 x4 y0 y1 y2 y3 y4; have HK := HK2; clear HK2; have x0 := HK.out.b0.c0; have x1 := HK.out.b0.c1; have x2 := HK.out.b0.c2; have x3 := HK.out.b0.c3; have x4 := HK.out.b0.c4; have y0 := HK.out.b1.c0; have y1 := HK.out.b1.c1; have y2 := HK.out.b1.c2; have y3 := HK.out.b1.c3; have y4 := HK.out.b1.c4))
      have hS := HK.out
      clear HK x0 x1 x2 x3 x4 y0 y1 y2 y3 y4
      go_region_held3 (KD3 w A (.slice p A.z.length cap) B (.slice q B.z.length cap') (fun _ => True))
        ((first | exact KD.all ((by assumption : KD3 _ _ _ _ _ _ _).1.1.next hbn) trivial | exact KD.all ((by assumption : KD3 _ _ _ _ _ _ _).1.1.next (bel1 _ _)) trivial | exact KD.all (by assumption : KD3 _ _ _ _ _ _ _).1.1 trivial | exact KD.all (hS.next (Below.refl _ _).drew) trivial | fail))
        (first
          | (go_at_call 41; refine (HS1.out _ _ _).mono ?_; rintro e wn ⟨rfl, rfl⟩)
          | (go_at_call 42; refine (HS2.out _ _ _ _ _ (by assumption : KD3 _ _ _ _ _ _ _).1.1.b0.lens (by assumption : KD3 _ _ _ _ _ _ _).1.1.b1.lens).mono ?_; rintro e wn ⟨rfl, rfl⟩)
          | (go_at_call 43; refine (HS3.out _ _ _ _ _ (by assumption : KD3 _ _ _ _ _ _ _).1.1.rd0 (by assumption : KD3 _ _ _ _ _ _ _).1.1.rd1).mono ?_; rintro e wn ⟨rfl, rfl⟩)
          | (go_at_call 40; refine (HOr.out _ _ (by first | rfl | simp)).mono ?_; rintro e wn ⟨rfl, rfl⟩)
          | fail)
      all_goals
        have HB := Lib.hid (by assumption : KD3 _ _ _ _ _ _ _).1.1.bel
        go_wp2_with fail
        go_ret2
        exact ⟨rfl, HB.out⟩
    · have HE : Hid (cpV A B = 0 ∧ cpE A B = ck B) := ⟨if_neg (by rw [HE0.out]; exact h2), HE0.out⟩
      rw [HE.out.1, HE.out.2]
      obtain ⟨E, hE⟩ : ∃ E, ck B = E := ⟨_, rfl⟩
      rw [hE] at HC2 h2 ⊢
      have k1 : (E != 0) = true := by simpa using h2
      clear h1 h2 HE0 HE hE
      go_enter Tryd.func24, Tryd.ntmps24
      go_wp2_with (first
        | (go_at_call 17; (with_reducible refine (HC1.out _ (HL.out.next HK.out.bel) HK.out.rd0).mono ?_); rintro e w' ⟨rfl, hb⟩; have HK2 := Lib.hid (HK.out.next hb); clear HK hb x0 x1 x2 x3 x4 y0 y1 y2 y3 y4; have HK := HK2; clear HK2; have x0 := HK.out.b0.c0; have x1 := HK.out.b0.c1; have x2 := HK.out.b0.c2; have x3 := HK.out.b0.c3; have x4 := HK.out.b0.c4; have y0 := HK.out.b1.c0; have y1 := HK.out.b1.c1; have y2 := HK.out.b1.c2; have y3 := HK.out.b1.c3; have y4 := HK.out.b1.c4)
        | (go_at_call 17; (with_reducible refine (HC2.out _ (HL.out.next HK.out.bel) HK.out.rd1).mono ?_); rintro e w' ⟨rfl, hb⟩; have HK2 := Lib.hid (HK.out.next hb); clear HK hb x0 x1 x2 x3 x4 y0 y1 y2 y3 y4; have HK := HK2; clear HK2; have x0 := HK.out.b0.c0; have x1 := HK.out.b0.c1; have x2 := HK.out.b0.c2; have x3 := HK.out.b0.c3; have x4 := HK.out.b0.c4; have y0 := HK.out.b1.c0; have y1 := HK.out.b1.c1; have y2 := HK.out.b1.c2; have y3 := HK.out.b1.c3; have y4 := HK.out.b1.c4))
      go_ret2
      exact ⟨rfl, HK.out.bel⟩
  · have HE0 : cpE A B = ck A := if_neg h1
    have HE : Hid (cpV A B = 0 ∧ cpE A B = ck A) := ⟨if_neg (by rw [HE0]; exact h1), HE0⟩
    rw [HE.out.1, HE.out.2]
    obtain ⟨E, hE⟩ : ∃ E, ck A = E := ⟨_, rfl⟩
    rw [hE] at HC1 h1 ⊢
    have k1 : (E != 0) = true := by simpa using h1
    clear h1 HE0 HE hE
    go_enter Tryd.func24, Tryd.ntmps24
    go_wp2_with (go_at_call 17; (with_reducible refine (HC1.out _ (HL.out.next HK.out.bel) HK.out.rd0).mono ?_); rintro e w' ⟨rfl, hb⟩; have HK2 := Lib.hid (HK.out.next hb); clear HK hb x0 x1 x2 x3 x4 y0 y1 y2 y3 y4; have HK := HK2; clear HK2; have x0 := HK.out.b0.c0; have x1 := HK.out.b0.c1; have x2 := HK.out.b0.c2; have x3 := HK.out.b0.c3; have x4 := HK.out.b0.c4; have y0 := HK.out.b1.c0; have y1 := HK.out.b1.c1; have y2 := HK.out.b1.c2; have y3 := HK.out.b1.c3; have y4 := HK.out.b1.c4)
    go_ret2
    exact ⟨rfl, HK.out.bel⟩
end Go.Proofs.YtdbampgbbghfkaaDoor
