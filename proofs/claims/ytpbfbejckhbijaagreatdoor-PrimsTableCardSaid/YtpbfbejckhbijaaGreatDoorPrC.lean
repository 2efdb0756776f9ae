/- Name and Find of the code; the names, Name and Find of the reference. -/
import Derived.Test.YtpbfbejckhbijaaGreatDoorPrB
import Derived.Deep.DeepCutAuto
namespace Go.Proofs.YtpbfbejckhbijaaGreatDoor
open Go.RowKit

def nmS (p : Int) : ByteArray := if p < 1 ∨ 40 < p then ⟨#[]⟩ else nmB p.toNat
set_option maxRecDepth 100000 in
set_option maxHeartbeats 4000000 in
theorem name_any (p : Int) (w : World) :
    Calls Tryz.prog 14 #[.int .i64 p] w fun e w' => e = .returned (.tuple #[.string (nmS p), .int .i64 (arE p)]) ∧ Below w.heap.size w w' := by
  by_cases h : p < 1 ∨ 40 < p
  · rw [show nmS p = ⟨#[]⟩ from if_pos h, show arE p = 2 from if_pos h]
    have HR := Lib.hid (fun W => rowOf_bad p W h)
    clear h
    go_enter Tryz.func14, Tryz.ntmps14
    go_wp2_with (go_at_call 33; refine (HR.out _).mono ?_; rintro e w1 ⟨rfl, hb⟩; have HB := Lib.hid (hb.alloc (hb.size)); clear hb)
    go_ret2
    exact ⟨rfl, HB.out _⟩
  · rw [show nmS p = nmB p.toNat from if_neg h, show arE p = 0 from if_neg h]
    obtain ⟨q, hq⟩ : ∃ q : Nat, p = (q : Int) := ⟨p.toNat, by omega⟩
    subst hq
    have HR := Lib.hid (fun W => rowOf_ok q W (by omega) (by omega))
    have hq3 : 1 ≤ q ∧ q ≤ 40 := by omega
    obtain ⟨hq1, hq2⟩ := hq3
    rw [Int.toNat_natCast]
    clear h
    unfold rowC at HR
    have hff := fun_forms q (by omega)
    generalize nmB q = s1 at HR ⊢
    generalize ftB q = s2 at HR ⊢
    generalize e0P q = x0 at HR ⊢
    generalize e1P q = x1 at HR ⊢
    generalize e2P q = x2 at HR ⊢
    generalize f1P q = g1 at HR hff ⊢
    generalize f2P q = g2 at HR hff ⊢
    rcases hff with ⟨rfl, rfl⟩ | ⟨k9, rfl, rfl⟩ | ⟨k9, rfl, rfl⟩
    · clear hq1 hq2
      go_enter Tryz.func14, Tryz.ntmps14
      go_wp2_with (go_at_call 33; refine (HR.out _).mono ?_; rintro e w1 ⟨rfl, hb⟩; have HB := Lib.hid (hb.alloc (hb.size)); clear hb)
      go_ret2
      exact ⟨rfl, HB.out _⟩
    · clear hq1 hq2
      go_enter Tryz.func14, Tryz.ntmps14
      go_wp2_with (go_at_call 33; refine (HR.out _).mono ?_; rintro e w1 ⟨rfl, hb⟩; have HB := Lib.hid (hb.alloc (hb.size)); clear hb)
      go_ret2
      exact ⟨rfl, HB.out _⟩
    · clear hq1 hq2
      go_enter Tryz.func14, Tryz.ntmps14
      go_wp2_with (go_at_call 33; refine (HR.out _).mono ?_; rintro e w1 ⟨rfl, hb⟩; have HB := Lib.hid (hb.alloc (hb.size)); clear hb)
      go_ret2
      exact ⟨rfl, HB.out _⟩
/-- The number of the first primitive with this name; 0: there is none. -/
def fdP (s : ByteArray) : Nat := ((List.range 41).find? fun p => decide (0 < p) && decide (nmB p = s)).getD 0
theorem fd_hit {s : ByteArray} {k : Nat} (hk : k < 41) (h0 : 0 < k) (h : nmB k = s) (hn : ∀ j, 0 < j → j < k → nmB j ≠ s) : fdP s = k := by
  unfold fdP
  rw [show (List.range 41).find? (fun p => decide (0 < p) && decide (nmB p = s)) = some k from ?_]
  · rfl
  · rw [List.find?_eq_some_iff_getElem]
    refine ⟨by simp [h0, h], k, by simpa using hk, by simp, fun j hj => ?_⟩
    simp only [List.getElem_range]
    by_cases e : 0 < j
    · simp [hn j e hj]
    · simp [e]
theorem fd_none {s : ByteArray} (hn : ∀ j, 0 < j → j < 41 → nmB j ≠ s) : fdP s = 0 := by
  unfold fdP
  rw [show (List.range 41).find? (fun p => decide (0 < p) && decide (nmB p = s)) = none from ?_]
  · rfl
  · rw [List.find?_eq_none]
    intro j hj
    have hj2 : j < 41 := by simpa using hj
    by_cases e : 0 < j
    · simp [hn j e hj2]
    · simp [e]
def fdE (s : ByteArray) : Int := if fdP s = 0 then 4 else 0
theorem beq_str {a b : ByteArray} (h : a = b) : (a.toList == b.toList) = true := by subst h; simp
theorem str_eq12 {s t : ByteArray} (h : (s.toList == t.toList) = true) : s = t := by
  have h1 : s.toList = t.toList := by simpa using h
  rw [byt_eq, byt_eq] at h1
  rw [← mk_byt s, ← mk_byt t, h1]
theorem bne_str {a b : ByteArray} (h : a ≠ b) : (a.toList == b.toList) = false := by
  cases e : (a.toList == b.toList)
  · rfl
  · exact absurd (str_eq12 e) h
set_option maxRecDepth 100000 in
set_option maxHeartbeats 8000000 in
theorem find_any (s : ByteArray) (w : World) :
    Calls Tryz.prog 12 #[.string s] w fun e w' => e = .returned (.tuple #[.int .i64 (fdP s), .int .i64 (fdE s)]) ∧ Below w.heap.size w w' := by
  have HT := Lib.hid table_any
  go_enter Tryz.func12, Tryz.ntmps12
  go_wp2_with (go_at_call 31; refine (HT.out _).mono ?_; rintro e w1 ⟨rfl, rfl⟩)
  have HB0 := Lib.hid (bel1 w (.cells tabC 62))
  generalize World.alloc w _ = w0 at HB0 ⊢
  go_loopg [7] 41 (fun gk vi wr => ∃ (k : Nat), k + gk = 41 ∧ vi = .int .i64 k ∧ Below w.heap.size w wr ∧ Hid (∀ j, 0 < j → j < k → nmB j ≠ s))
  case atStart => exact ⟨0, by omega, rfl, HB0.out, fun j h1 h2 => absurd h2 (by omega)⟩
  case round =>
    obtain ⟨k, hkg, rfl, hbl, HN⟩ := hrel
    have HB := Lib.hid hbl
    clear hbl HB0 HT
    cases gk with
    | zero =>
      have hkz : ¬ ((k : Int) < 41) := by omega
      have hk41 : k = 41 := by omega
      have e1 : fdP s = 0 := fd_none fun j h1 h2 => HN.out j h1 (by omega)
      have HE : Hid (((fdP s : Nat) : Int) = 0 ∧ fdE s = 4) := ⟨by rw [e1]; rfl, by unfold fdE; rw [if_pos e1]⟩
      clear e1 hk41 HN
      go_wp2_with fail
      go_ret2
      exact ⟨by rw [HE.out.1, HE.out.2]; rfl, HB.out⟩
    | succ g =>
      have hkz : (k : Int) < 41 := by omega
      have hk : k < 41 := by omega
      have hix := fun W => idx_tab k hk W
      have hwi : IntKind.i64.wrap ((k : Int) + 1) = (k : Int) + 1 := by rw [IntKind.wrap_i64]; omega
      have HBa := Lib.hid (HB.out.alloc HB.out.size)
      unfold rowC at hix
      obtain ⟨nk, hnk⟩ : ∃ nk, nk = nmB k := ⟨_, rfl⟩
      rw [← hnk] at hix
      have HNk := Lib.hid hnk
      clear hnk
      have hff := fun_forms k (by omega)
      generalize ftB k = s2 at hix ⊢
      generalize e0P k = x0 at hix ⊢
      generalize e1P k = x1 at hix ⊢
      generalize e2P k = x2 at hix ⊢
      generalize f1P k = g1 at hix hff ⊢
      generalize f2P k = g2 at hix hff ⊢
      rcases hff with ⟨rfl, rfl⟩ | ⟨k9, rfl, rfl⟩ | ⟨k9, rfl, rfl⟩
      · by_cases hk0 : k = 0
        · have q1 : decide ((0 : Int) < (k : Int)) = false := decide_eq_false (by omega)
          have q1n : decide (0 < k) = false := decide_eq_false (by omega)
          have q1p : ¬ ((0 : Int) < (k : Int)) := by omega
          have HN2 : Hid (∀ j, 0 < j → j < k + 1 → nmB j ≠ s) := fun j h1 h2 => by omega
          clear hk0
          go_wp2_with fail
          go_roundg g
          case measure => omega
          case rel => exact ⟨k + 1, by omega, by go_num, HBa.out _, HN2⟩
        · have q1 : decide ((0 : Int) < (k : Int)) = true := decide_eq_true (by omega)
          have q1n : decide (0 < k) = true := decide_eq_true (by omega)
          have q1p : (0 : Int) < (k : Int) := by omega
          by_cases hs : nk = s
          · have q2 := beq_str hs
            have e1 : fdP s = k := fd_hit hk (by omega) (by rw [← HNk.out]; exact hs) HN.out
            have HE : Hid (((fdP s : Nat) : Int) = k ∧ fdE s = 0) := ⟨by rw [e1], by unfold fdE; rw [if_neg (by omega)]⟩
            clear e1 HN HNk hs hk0
            go_wp2_with fail
            go_ret2
            exact ⟨by rw [HE.out.1, HE.out.2]; rfl, HBa.out _⟩
          · have q2 := bne_str hs
            have HN2 : Hid (∀ j, 0 < j → j < k + 1 → nmB j ≠ s) := fun j h1 h2 => by
              by_cases e : j = k
              · subst e; rw [← HNk.out]; exact hs
              · exact HN.out j h1 (by omega)
            clear HN HNk hs hk0
            go_wp2_with fail
            go_roundg g
            case measure => omega
            case rel => exact ⟨k + 1, by omega, by go_num, HBa.out _, HN2⟩
      · by_cases hk0 : k = 0
        · have q1 : decide ((0 : Int) < (k : Int)) = false := decide_eq_false (by omega)
          have q1n : decide (0 < k) = false := decide_eq_false (by omega)
          have q1p : ¬ ((0 : Int) < (k : Int)) := by omega
          have HN2 : Hid (∀ j, 0 < j → j < k + 1 → nmB j ≠ s) := fun j h1 h2 => by omega
          clear hk0
          go_wp2_with fail
          go_roundg g
          case measure => omega
          case rel => exact ⟨k + 1, by omega, by go_num, HBa.out _, HN2⟩
        · have q1 : decide ((0 : Int) < (k : Int)) = true := decide_eq_true (by omega)
          have q1n : decide (0 < k) = true := decide_eq_true (by omega)
          have q1p : (0 : Int) < (k : Int) := by omega
          by_cases hs : nk = s
          · have q2 := beq_str hs
            have e1 : fdP s = k := fd_hit hk (by omega) (by rw [← HNk.out]; exact hs) HN.out
            have HE : Hid (((fdP s : Nat) : Int) = k ∧ fdE s = 0) := ⟨by rw [e1], by unfold fdE; rw [if_neg (by omega)]⟩
            clear e1 HN HNk hs hk0
            go_wp2_with fail
            go_ret2
            exact ⟨by rw [HE.out.1, HE.out.2]; rfl, HBa.out _⟩
          · have q2 := bne_str hs
            have HN2 : Hid (∀ j, 0 < j → j < k + 1 → nmB j ≠ s) := fun j h1 h2 => by
              by_cases e : j = k
              · subst e; rw [← HNk.out]; exact hs
              · exact HN.out j h1 (by omega)
            clear HN HNk hs hk0
            go_wp2_with fail
            go_roundg g
            case measure => omega
            case rel => exact ⟨k + 1, by omega, by go_num, HBa.out _, HN2⟩
      · by_cases hk0 : k = 0
        · have q1 : decide ((0 : Int) < (k : Int)) = false := decide_eq_false (by omega)
          have q1n : decide (0 < k) = false := decide_eq_false (by omega)
          have q1p : ¬ ((0 : Int) < (k : Int)) := by omega
          have HN2 : Hid (∀ j, 0 < j → j < k + 1 → nmB j ≠ s) := fun j h1 h2 => by omega
          clear hk0
          go_wp2_with fail
          go_roundg g
          case measure => omega
          case rel => exact ⟨k + 1, by omega, by go_num, HBa.out _, HN2⟩
        · have q1 : decide ((0 : Int) < (k : Int)) = true := decide_eq_true (by omega)
          have q1n : decide (0 < k) = true := decide_eq_true (by omega)
          have q1p : (0 : Int) < (k : Int) := by omega
          by_cases hs : nk = s
          · have q2 := beq_str hs
            have e1 : fdP s = k := fd_hit hk (by omega) (by rw [← HNk.out]; exact hs) HN.out
            have HE : Hid (((fdP s : Nat) : Int) = k ∧ fdE s = 0) := ⟨by rw [e1], by unfold fdE; rw [if_neg (by omega)]⟩
            clear e1 HN HNk hs hk0
            go_wp2_with fail
            go_ret2
            exact ⟨by rw [HE.out.1, HE.out.2]; rfl, HBa.out _⟩
          · have q2 := bne_str hs
            have HN2 : Hid (∀ j, 0 < j → j < k + 1 → nmB j ≠ s) := fun j h1 h2 => by
              by_cases e : j = k
              · subst e; rw [← HNk.out]; exact hs
              · exact HN.out j h1 (by omega)
            clear HN HNk hs hk0
            go_wp2_with fail
            go_roundg g
            case measure => omega
            case rel => exact ⟨k + 1, by omega, by go_num, HBa.out _, HN2⟩
end Go.Proofs.YtpbfbejckhbijaaGreatDoor
