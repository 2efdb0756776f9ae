/- readByte, said of what is read. -/
import Derived.Test.YtocmnobcccjenaaDoorWaI
namespace Go.Proofs.YtocmnobcccjenaaDoor
open Go.RowKit

def rbHex : List UInt8 → Option (UInt8 × Nat)
  | a :: b :: _ => if 0 ≤ hexI a ∧ 0 ≤ hexI b ∧ (!escB (16 * hexI a + hexI b) && !plainB (16 * hexI a + hexI b)) = true then some (UInt8.ofNat (16 * hexI a + hexI b).toNat, 4) else none
  | _ => none
def rbEsc : List UInt8 → Option (UInt8 × Nat)
  | [] => none
  | d :: t => if d = 120 then rbHex t else if unB d.toNat = true then some (UInt8.ofNat (unV d.toNat).toNat, 2) else none
/-- The byte that a text begins with, between quotes, and how many bytes its form has. -/
def rb : List UInt8 → Option (UInt8 × Nat)
  | [] => none
  | c :: r => if c = 92 then rbEsc r else if pl8 c = true then some (c, 1) else none

theorem byt_at (s : ByteArray) (i : Nat) (h : i < s.size) : (byt s)[i]? = some s[i] := by
  rw [List.getElem?_eq_getElem (by rw [byt_len]; exact h)]; rfl
theorem un_bd (d : Int) : 0 ≤ unV d ∧ unV d ≤ 255 := by
  unfold unV; repeat' split
  all_goals omega
theorem nat8 (x : Int) (h0 : 0 ≤ x) (h1 : x ≤ 255) : ((UInt8.ofNat x.toNat).toNat : Int) = x := by
  rw [UInt8.toNat_ofNat']; omega

theorem readByte_all (s : ByteArray) (w : World) (hw : Lay w) (h0 : 0 < s.size) (hs : s.size ≤ 9223372036854775807) :
    Calls Tryd.prog 47 #[.string s] w fun e w' => ∃ a b : Int, e = .returned (.tuple #[.int .u8 a, .int .i64 b, .bool (rb (byt s)).isSome]) ∧ (∀ c n, rb (byt s) = some (c, n) → a = c.toNat ∧ b = n) ∧ Below w.heap.size w w' := by
  have hb0 := byt_cons s h0
  by_cases hc : s[0] = 92
  · have hr : rb (byt s) = rbEsc (byt s).tail := by
      rw [hb0, hc]; rfl
    by_cases h1 : 1 < s.size
    · have hb1 : (byt s).tail = s[1] :: (byt s).tail.tail := by
        have := byt_at s 1 h1
        rw [hb0] at this
        match (byt s).tail, this with
        | [], h => simp at h
        | d :: t, h => simp at h; rw [h]; rfl
      have hpe : Lib.hasPrefix (byt s) [92, 120] = decide (s[1] = 120) := by
        rw [hb0, hb1, hc]; simp only [Lib.hasPrefix, List.isPrefixOf]
        by_cases h : s[1] = 120
        · simp [h]
        · have h' : ¬ (120 : UInt8) = s[1] := fun e => h e.symm
          simp [h, h']
      by_cases hx : s[1] = 120
      · have hr2 : rb (byt s) = rbHex (byt s).tail.tail := by rw [hr, hb1, hx]; rfl
        have hp : Lib.hasPrefix (byt s) [92, 120] = true := by rw [hpe, hx]; rfl
        by_cases h4 : 4 ≤ s.size
        · have hb2 : ∃ q, (byt s).tail.tail = s[2] :: s[3] :: q := by
            have e2 := byt_at s 2 (by omega)
            have e3 := byt_at s 3 (by omega)
            rw [hb0, hb1] at e2 e3
            match (byt s).tail.tail, e2, e3 with
            | [], h, _ => simp at h
            | [_], _, h => simp at h
            | a :: b :: q, h, k => simp at h k; exact ⟨q, by rw [h, k]⟩
          obtain ⟨q, hq⟩ := hb2
          rw [hr2, hq]
          have e : rbHex (s[2] :: s[3] :: q) = if (0 : Int) ≤ hexI s[2] ∧ (0 : Int) ≤ hexI s[3] ∧ (!escB ((16 : Int) * hexI s[2] + hexI s[3]) && !plainB ((16 : Int) * hexI s[2] + hexI s[3])) = true then some (UInt8.ofNat ((16 : Int) * hexI s[2] + hexI s[3]).toNat, 4) else none := rfl
          rw [e]
          by_cases hh : (0 : Int) ≤ hexI s[2] ∧ (0 : Int) ≤ hexI s[3]
          · have hl2 := (hexI_le s[2]).2
            have hl3 := (hexI_le s[3]).2
            refine (readByte_hex s w h0 hc hp ((16 : Int) * hexI s[2] + hexI s[3]) 4 (!escB ((16 : Int) * hexI s[2] + hexI s[3]) && !plainB ((16 : Int) * hexI s[2] + hexI s[3])) (fun w1 hw1 => by subst hw1; exact readHex_yes s _ w1 hw h4 hs rfl hh.1 hh.2)).mono fun e w' ⟨he, hb⟩ => ⟨(16 : Int) * hexI s[2] + hexI s[3], 4, he.trans ?_, ?_, hb⟩
            · by_cases hk : (!escB ((16 : Int) * hexI s[2] + hexI s[3]) && !plainB ((16 : Int) * hexI s[2] + hexI s[3])) = true
              · rw [if_pos ⟨hh.1, hh.2, hk⟩, hk]; rfl
              · rw [if_neg (fun h => hk h.2.2), eq_false_of_ne_true hk]; rfl
            · intro c n h
              by_cases hk : (!escB ((16 : Int) * hexI s[2] + hexI s[3]) && !plainB ((16 : Int) * hexI s[2] + hexI s[3])) = true
              · rw [if_pos ⟨hh.1, hh.2, hk⟩] at h
                injection h with h; injection h with h1 h2
                rw [← h1, ← h2, nat8 _ (by omega) (by omega)]; exact ⟨rfl, rfl⟩
              · rw [if_neg (fun h => hk h.2.2)] at h; cases h
          · rw [if_neg (fun h => hh ⟨h.1, h.2.1⟩)]
            exact (readByte_hex s w h0 hc hp 0 0 false (fun w1 hw1 => by subst hw1; exact readHex_bad s w1 h4 hs (by omega))).mono fun e w' ⟨he, hb⟩ => ⟨_, _, he, (fun _ _ h => nomatch h), hb⟩
        · have hn : rb (byt s) = none := by
            rw [hr2]
            have hl : (byt s).length = s.size := byt_len s
            rw [hb0, hb1] at hl
            match (byt s).tail.tail, hl with
            | [], _ => rfl
            | [_], _ => rfl
            | _ :: _ :: _, h => simp at h; omega
          rw [hn]
          exact (readByte_hex s w h0 hc hp 0 0 false (fun w1 hw1 => by subst hw1; exact readHex_short s w1 (by omega))).mono fun e w' ⟨he, hb⟩ => ⟨_, _, he, (fun _ _ h => nomatch h), hb⟩
      · have hr2 : rb (byt s) = if unB s[1].toNat = true then some (UInt8.ofNat (unV s[1].toNat).toNat, 2) else none := by
          rw [hr, hb1]
          show (if s[1] = 120 then _ else _) = _
          rw [if_neg hx]
        have hp : Lib.hasPrefix (byt s) [92, 120] = false := by rw [hpe, decide_eq_false hx]
        rw [hr2]
        refine (readByte_esc s w hw h0 hc hp h1).mono fun e w' ⟨he, hb⟩ => ⟨unV s[1].toNat, unN s[1].toNat, he.trans ?_, ?_, hb⟩
        · cases hk : unB s[1].toNat <;> simp
        · intro c n h
          cases hk : unB s[1].toNat
          · rw [hk] at h; simp at h
          · rw [hk] at h; simp only [if_true] at h
            injection h with h; injection h with h1 h2
            rw [← h1, ← h2, nat8 _ (un_bd _).1 (un_bd _).2]
            exact ⟨rfl, by unfold unN; rw [hk]; rfl⟩
    · have ht : (byt s).tail = [] := by
        have hl : (byt s).length = s.size := byt_len s
        exact List.eq_nil_of_length_eq_zero (by rw [List.length_tail]; omega)
      have hn : rb (byt s) = none := by rw [hr, ht]; rfl
      have hp : Lib.hasPrefix (byt s) [92, 120] = false := by
        rw [hb0, ht, hc]; rfl
      rw [hn]
      exact (readByte_short s w hw h0 hc hp h1).mono fun e w' ⟨he, hb⟩ => ⟨_, _, he, (fun _ _ h => nomatch h), hb⟩
  · have hr : rb (byt s) = if pl8 s[0] = true then some (s[0], 1) else none := by
      rw [hb0]
      show (if s[0] = 92 then _ else _) = _
      rw [if_neg hc]
    rw [hr]
    refine (readByte_plain s w h0 hc).mono fun e w' ⟨he, hb⟩ => ⟨s[0].toNat, 1, he.trans ?_, ?_, hb⟩
    · cases hk : pl8 s[0] <;> simp
    · intro c n h
      cases hk : pl8 s[0]
      · rw [hk] at h; simp at h
      · rw [hk] at h; simp only [if_true] at h
        injection h with h; injection h with h1 h2
        rw [← h1, ← h2]; exact ⟨rfl, rfl⟩
theorem readByte_some (s : ByteArray) (w : World) (hw : Lay w) (h0 : 0 < s.size) (hs : s.size ≤ 9223372036854775807) (c : UInt8) (n : Nat) (h : rb (byt s) = some (c, n)) :
    Calls Tryd.prog 47 #[.string s] w fun e w' => e = .returned (.tuple #[.int .u8 c.toNat, .int .i64 n, .bool true]) ∧ Below w.heap.size w w' := by
  refine (readByte_all s w hw h0 hs).mono fun e w' ⟨a, b, he, hv, hb⟩ => ⟨?_, hb⟩
  obtain ⟨rfl, rfl⟩ := hv c n h
  rw [he, h]; rfl
theorem readByte_none (s : ByteArray) (w : World) (hw : Lay w) (h0 : 0 < s.size) (hs : s.size ≤ 9223372036854775807) (h : rb (byt s) = none) :
    Calls Tryd.prog 47 #[.string s] w fun e w' => ∃ a b : Int, e = .returned (.tuple #[.int .u8 a, .int .i64 b, .bool false]) ∧ Below w.heap.size w w' := by
  refine (readByte_all s w hw h0 hs).mono fun e w' ⟨a, b, he, hv, hb⟩ => ⟨a, b, ?_, hb⟩
  rw [he, h]; rfl
end Go.Proofs.YtocmnobcccjenaaDoor
