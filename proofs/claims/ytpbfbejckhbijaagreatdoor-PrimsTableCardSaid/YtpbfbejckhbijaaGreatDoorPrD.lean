/- The reference's names, Name, Find and Arity. -/
import Derived.Test.YtpbfbejckhbijaaGreatDoorPrC
namespace Go.Proofs.YtpbfbejckhbijaaGreatDoor
open Go.RowKit

def namC : Array Value := #[.string ⟨#[110, 101, 103]⟩, .string ⟨#[97, 98, 115]⟩, .string ⟨#[110, 111, 116]⟩, .string ⟨#[115, 104, 97, 112, 101]⟩, .string ⟨#[114, 97, 118, 101, 108]⟩, .string ⟨#[114, 101, 118, 101, 114, 115, 101]⟩, .string ⟨#[102, 108, 105, 112]⟩, .string ⟨#[105, 111, 116, 97]⟩, .string ⟨#[115, 117, 109]⟩, .string ⟨#[108, 101, 97, 115, 116]⟩, .string ⟨#[109, 111, 115, 116]⟩, .string ⟨#[99, 111, 117, 110, 116]⟩, .string ⟨#[115, 99, 97, 110]⟩, .string ⟨#[103, 114, 97, 100, 101]⟩, .string ⟨#[97, 100, 100]⟩, .string ⟨#[115, 117, 98]⟩, .string ⟨#[109, 117, 108]⟩, .string ⟨#[100, 105, 118]⟩, .string ⟨#[109, 111, 100]⟩, .string ⟨#[112, 108, 117, 115]⟩, .string ⟨#[109, 105, 110, 117, 115]⟩, .string ⟨#[116, 105, 109, 101, 115]⟩, .string ⟨#[101, 113]⟩, .string ⟨#[110, 101]⟩, .string ⟨#[108, 116]⟩, .string ⟨#[108, 101]⟩, .string ⟨#[103, 116]⟩, .string ⟨#[103, 101]⟩, .string ⟨#[97, 110, 100]⟩, .string ⟨#[111, 114]⟩, .string ⟨#[109, 105, 110]⟩, .string ⟨#[109, 97, 120]⟩, .string ⟨#[116, 97, 107, 101]⟩, .string ⟨#[100, 114, 111, 112]⟩, .string ⟨#[102, 105, 108, 108]⟩, .string ⟨#[103, 114, 105, 100]⟩, .string ⟨#[99, 97, 116]⟩, .string ⟨#[97, 116]⟩, .string ⟨#[105, 110]⟩, .string ⟨#[112, 105, 99, 107]⟩]
theorem nam_at (i : Nat) (hi : i < 40) : namC[i]? = some (.string (nmB (i + 1))) := by
  match i, hi with
  | 0, _ => rfl
  | 1, _ => rfl
  | 2, _ => rfl
  | 3, _ => rfl
  | 4, _ => rfl
  | 5, _ => rfl
  | 6, _ => rfl
  | 7, _ => rfl
  | 8, _ => rfl
  | 9, _ => rfl
  | 10, _ => rfl
  | 11, _ => rfl
  | 12, _ => rfl
  | 13, _ => rfl
  | 14, _ => rfl
  | 15, _ => rfl
  | 16, _ => rfl
  | 17, _ => rfl
  | 18, _ => rfl
  | 19, _ => rfl
  | 20, _ => rfl
  | 21, _ => rfl
  | 22, _ => rfl
  | 23, _ => rfl
  | 24, _ => rfl
  | 25, _ => rfl
  | 26, _ => rfl
  | 27, _ => rfl
  | 28, _ => rfl
  | 29, _ => rfl
  | 30, _ => rfl
  | 31, _ => rfl
  | 32, _ => rfl
  | 33, _ => rfl
  | 34, _ => rfl
  | 35, _ => rfl
  | 36, _ => rfl
  | 37, _ => rfl
  | 38, _ => rfl
  | 39, _ => rfl
  | n + 40, h => exact absurd h (by omega)
set_option maxRecDepth 100000 in
set_option maxHeartbeats 8000000 in
theorem names_any (w : World) :
    Calls Tryz.prog 32 #[] w fun e w' => e = .returned (.slice (some ⟨w.heap.size, 0, none⟩) 40 40) ∧ w' = w.alloc (.cells namC 9) := by
  go_enter Tryz.func32, Tryz.ntmps32
  go_wp2
  go_ret
  exact ⟨rfl, rfl⟩
theorem nam_cell (w : World) (i : Nat) (hi : i < 40) : (w.alloc (.cells namC 9)).cell? ⟨w.heap.size, i, none⟩ = some (.string (nmB (i + 1))) := by
  unfold World.cell?
  rw [tab_new]
  simpa using nam_at i hi
set_option maxRecDepth 100000 in
set_option maxHeartbeats 4000000 in
theorem rname_any (p : Int) (w : World) :
    Calls Tryz.prog 15 #[.int .i64 p] w fun e w' => e = .returned (.tuple #[.string (nmS p), .int .i64 (arE p)]) ∧ Below w.heap.size w w' := by
  by_cases h : p < 1 ∨ 40 < p
  · rw [show nmS p = ⟨#[]⟩ from if_pos h, show arE p = 2 from if_pos h]
    by_cases h1 : p < 1
    · clear h
      go_enter Tryz.func15, Tryz.ntmps15
      go_wp2
      go_ret2
      exact ⟨rfl, Below.refl _ _⟩
    · have h2 : 40 < p := by omega
      clear h
      go_enter Tryz.func15, Tryz.ntmps15
      go_wp2
      go_ret2
      exact ⟨rfl, Below.refl _ _⟩
  · rw [show nmS p = nmB p.toNat from if_neg h, show arE p = 0 from if_neg h]
    obtain ⟨q, hq⟩ : ∃ q : Nat, p = (q : Int) + 1 := ⟨(p - 1).toNat, by omega⟩
    have hq40 : q < 40 := by omega
    have hc := nam_cell w q hq40
    have HB := Lib.hid (bel1 w (.cells namC 9))
    have HN := Lib.hid (names_any w)
    subst hq
    rw [show ((q : Int) + 1).toNat = q + 1 by omega]
    have k1 : ¬ ((q : Int) + 1 < 1) := by omega
    have k2 : ¬ ((40 : Int) < (q : Int) + 1) := by omega
    have k3 : (q : Int) + 1 - 1 = (q : Int) := by omega
    have k4 : IntKind.i64.wrap ((q : Int) + 1 - 1) = (q : Int) := by rw [IntKind.wrap_i64]; omega
    have k5 : (q : Int) < 40 := by omega
    clear h
    generalize nmB (q + 1) = s at hc ⊢
    generalize w.alloc (.cells namC 9) = W1 at hc HB HN
    go_enter Tryz.func15, Tryz.ntmps15
    go_wp2_with (go_at_call 32; refine HN.out.mono ?_; rintro e w1 ⟨rfl, rfl⟩)
    go_ret2
    exact ⟨rfl, HB.out⟩
set_option maxRecDepth 100000 in
set_option maxHeartbeats 8000000 in
theorem rfind_any (s : ByteArray) (w : World) :
    Calls Tryz.prog 13 #[.string s] w fun e w' => e = .returned (.tuple #[.int .i64 (fdP s), .int .i64 (fdE s)]) ∧ Below w.heap.size w w' := by
  have HC := Lib.hid (nam_cell w)
  have HB := Lib.hid (bel1 w (.cells namC 9))
  have HN := Lib.hid (names_any w)
  generalize w.alloc (.cells namC 9) = W1 at HC HB HN
  go_enter Tryz.func13, Tryz.ntmps13
  go_wp2_with (go_at_call 32; refine HN.out.mono ?_; rintro e w1 ⟨rfl, rfl⟩)
  go_loopg [5] 40 (fun gk vi wr => ∃ (k : Nat), k + gk = 40 ∧ vi = .int .i64 k ∧ wr = w1 ∧ Hid (∀ j, 0 < j → j < k + 1 → nmB j ≠ s))
  case atStart => exact ⟨0, by omega, rfl, rfl, fun j h1 h2 => by omega⟩
  case round =>
    obtain ⟨k, hkg, rfl, rfl, HNo⟩ := hrel
    clear HN
    cases gk with
    | zero =>
      have hkz : ¬ ((k : Int) < 40) := by omega
      have hk41 : k = 40 := by omega
      have e1 : fdP s = 0 := fd_none fun j h1 h2 => HNo.out j h1 (by omega)
      have HE : Hid (((fdP s : Nat) : Int) = 0 ∧ fdE s = 4) := ⟨by rw [e1]; rfl, by unfold fdE; rw [if_pos e1]⟩
      clear e1 hk41 HNo HC
      go_wp2_with fail
      go_ret2
      exact ⟨by rw [HE.out.1, HE.out.2]; rfl, HB.out⟩
    | succ g =>
      have hkz : (k : Int) < 40 := by omega
      have hk : k < 40 := by omega
      have hc := HC.out k hk
      have hwi : IntKind.i64.wrap ((k : Int) + 1) = (k : Int) + 1 := by rw [IntKind.wrap_i64]; omega
      by_cases hs : nmB (k + 1) = s
      · have e1 : fdP s = k + 1 := fd_hit (by omega) (by omega) hs HNo.out
        have HE : Hid (((fdP s : Nat) : Int) = (k : Int) + 1 ∧ fdE s = 0) := ⟨by rw [e1]; rfl, by unfold fdE; rw [if_neg (by omega)]⟩
        rw [hs] at hc
        have q2 := beq_str (rfl : s = s)
        clear e1 HNo HC hs
        go_wp2_with fail
        go_ret2
        exact ⟨by rw [HE.out.1, HE.out.2]; rfl, HB.out⟩
      · have q2 := bne_str hs
        have HN2 : Hid (∀ j, 0 < j → j < k + 1 + 1 → nmB j ≠ s) := fun j h1 h2 => by
          by_cases e : j = k + 1
          · subst e; exact hs
          · exact HNo.out j h1 (by omega)
        generalize nmB (k + 1) = nk at hc q2
        clear HNo HC hs
        go_wp2_with fail
        go_roundg g
        case measure => omega
        case rel => exact ⟨k + 1, by omega, by go_num, rfl, HN2⟩
set_option maxRecDepth 100000 in
set_option maxHeartbeats 4000000 in
theorem rarity_any (p : Int) (w : World) :
    Calls Tryz.prog 17 #[.int .i64 p] w fun e w' => e = .returned (.tuple #[.int .i64 (arN p), .int .i64 (arE p)]) ∧ w' = w := by
  unfold arN arE
  by_cases h1 : p < 1
  · rw [if_pos (.inl h1), if_pos (.inl h1)]
    go_enter Tryz.func17, Tryz.ntmps17
    go_wp2
    go_ret2
    exact ⟨rfl, rfl⟩
  · by_cases h2 : 40 < p
    · rw [if_pos (.inr h2), if_pos (.inr h2)]
      go_enter Tryz.func17, Tryz.ntmps17
      go_wp2
      go_ret2
      exact ⟨rfl, rfl⟩
    · have hn : ¬ (p < 1 ∨ 40 < p) := by omega
      rw [if_neg hn, if_neg hn]
      clear hn
      by_cases h3 : p ≤ 14
      · rw [if_pos h3]
        go_enter Tryz.func17, Tryz.ntmps17
        go_wp2
        go_ret2
        exact ⟨rfl, rfl⟩
      · rw [if_neg h3]
        go_enter Tryz.func17, Tryz.ntmps17
        go_wp2
        go_ret2
        exact ⟨rfl, rfl⟩
end Go.Proofs.YtpbfbejckhbijaaGreatDoor
