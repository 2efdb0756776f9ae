/- Bytes. -/
import Derived.Test.YtdbampgbbghfkaaDoorRuR
import Derived.Test.YtdbampgbbghfkaaDoorRuG
namespace Go.Proofs.YtdbampgbbghfkaaDoor.Ru
open Go.RowKit

/-- The index of the first number that is no rune; -1: there is none. -/
def idxF : Nat → List Int → Int
  | _, [] => -1
  | k, r :: l => if isR r = true then idxF (k + 1) l else (k : Int)
def idxV (l : List Int) : Int := idxF 0 l
def bytL (l : List Int) : List UInt8 := l.flatMap fun r => enc r.toNat
def bytE (l : List Int) : Nat := if 0 ≤ idxV l then 7 else if 8000 < (bytL l).length then 3 else 0
def bytV (l : List Int) : List UInt8 := if bytE l = 0 then bytL l else []
def bytA (l : List Int) : Int := if 0 ≤ idxV l then idxV l else 0
theorem idxF_yes (k : Nat) (l : List Int) (j : Nat) (hj : j < l.length) (h : isR l[j] = true) : idxF (k + j) (l.drop j) = idxF (k + (j + 1)) (l.drop (j + 1)) := by
  rw [List.drop_eq_getElem_cons hj]
  simp only [idxF, h, if_true]; rfl
theorem idxF_no (k : Nat) (l : List Int) (j : Nat) (hj : j < l.length) (h : isR l[j] = false) : idxF (k + j) (l.drop j) = ((k + j : Nat) : Int) := by
  rw [List.drop_eq_getElem_cons hj]
  simp [idxF, h]
theorem idxF_all : ∀ (l : List Int) (k : Nat), idxF k l = -1 → ∀ r ∈ l, isR r = true
  | [], _, _, r, h => by cases h
  | x :: l, k, hi, r, h => by
    unfold idxF at hi
    by_cases hx : isR x = true
    · rw [if_pos hx] at hi
      rcases List.mem_cons.1 h with rfl | h
      · exact hx
      · exact idxF_all l _ hi r h
    · rw [if_neg hx] at hi; omega
theorem idxF_ge : ∀ (l : List Int) (k : Nat), idxF k l = -1 ∨ 0 ≤ idxF k l
  | [], _ => .inl rfl
  | x :: l, k => by
    unfold idxF
    split
    · exact idxF_ge l _
    · exact .inr (by omega)

set_option maxHeartbeats 400000 in
theorem lit_any (r : Int) (w : World) :
    Calls Tryd.prog 52 #[.int .i64 r] w fun e w' => e = .returned (.bool (!isR r)) ∧ w = w' := by
  go_enter Tryd.func52, Tryd.ntmps52
  go_wp2_with (go_at_call 53; refine (isRune_any _ _).mono ?_; rintro e w' ⟨rfl, rfl⟩)
  go_ret
  exact ⟨rfl, rfl⟩

set_option maxHeartbeats 4000000 in
theorem index_any (v : Value) (l : List Int) (w : World) (hv : RdI w.heap.size w v l) (hl : l.length ≤ 1000000) :
    Calls Tryd.prog 51 #[v, .func (.func 52) #[] #[]] w fun e w' => e = .returned (.int .i64 (idxV l)) ∧ w = w' := by
  obtain ⟨a, cap, rfl, hcap, hcell⟩ := hv
  go_enter Tryd.func51, Tryd.ntmps51
  go_wp2
  go_loop [5, 8] (fun _ i => ∃ k : Nat, k ≤ l.length ∧ i = .int .i64 k ∧ Hid (idxV l = idxF (0 + k) (l.drop k))) (fun _ i => l.length - (intOf i).toNat)
  case atStart => exact ⟨0, by omega, rfl, rfl⟩
  case round =>
    obtain ⟨k, hk, rfl, hq⟩ := hrel
    by_cases hlt : k < l.length
    · obtain ⟨b, off, rfl, hbb, hc⟩ := hcell (by intro e; rw [e] at hlt; simp at hlt)
      have x1 := hc k hlt
      have HY := Lib.hid (idxF_yes 0 l k hlt)
      have HN := Lib.hid (idxF_no 0 l k hlt)
      obtain ⟨z, hz⟩ : ∃ z, l[k] = z := ⟨_, rfl⟩
      rw [hz] at x1 HY HN
      clear hcell hc hz
      cases hr : isR z
      · have HR := Lib.hid hr
        have HL : Hid (∀ w, Calls Tryd.prog 52 #[.int .i64 z] w fun e w' => e = .returned (.bool true) ∧ w = w') := by
          intro w; have := lit_any z w; rw [hr] at this; exact this
        clear hr
        go_wp2_with (go_at_call 52; refine (HL.out _).mono ?_; rintro e w' ⟨rfl, rfl⟩)
        go_ret
        exact ⟨ret_int (by rw [hq.out, HN.out HR.out]; simp), rfl⟩
      · have HR := Lib.hid hr
        have HL : Hid (∀ w, Calls Tryd.prog 52 #[.int .i64 z] w fun e w' => e = .returned (.bool false) ∧ w = w') := by
          intro w; have := lit_any z w; rw [hr] at this; exact this
        clear hr
        go_wp2_with (go_at_call 52; refine (HL.out _).mono ?_; rintro e w' ⟨rfl, rfl⟩)
        go_round
        case rel => exact ⟨k + 1, by omega, by go_num, hq.out.trans (HY.out HR.out)⟩
        case measure => simp [intOf]; omega
    · clear hcell
      go_wp2
      go_ret
      exact ⟨ret_int (by rw [hq.out, List.drop_eq_nil_of_le (by omega)]; rfl), rfl⟩

theorem bys_len {w : World} {base : Nat} {v : Value} {l : List UInt8} (h : Bys w base v l) : ∃ a c, v = .slice a l.length c := by
  rcases h.2 with ⟨rfl, h0⟩ | ⟨g, cap, cur, rfl, _⟩
  · exact ⟨none, 0, by rw [show l.length = 0 from h0]⟩
  · exact ⟨_, _, rfl⟩
theorem bytL_take (l : List Int) (k : Nat) (h : k < l.length) : bytL (l.take (k + 1)) = bytL (l.take k) ++ enc l[k].toNat := by
  unfold bytL
  rw [List.take_succ_eq_append_getElem h, List.flatMap_append]; simp
theorem bytL_le (l : List Int) (k : Nat) : (bytL (l.take k)).length ≤ (bytL l).length := by
  conv => rhs; rw [← List.take_append_drop k l]
  unfold bytL
  rw [List.flatMap_append, List.length_append]; omega

set_option maxRecDepth 100000 in
set_option maxHeartbeats 4000000 in
theorem bytes_bad (v : Value) (l : List Int) (w : World) (hv : RdI w.heap.size w v l) (hl : l.length ≤ 1000000) (h : 0 ≤ idxV l) :
    Calls Tryd.prog 33 #[v] w fun e w' => e = .returned (.tuple #[.slice none 0 0, .int .i64 (idxV l), .int .i64 7]) ∧ w = w' := by
  have HI := Lib.hid (index_any v l w hv hl)
  obtain ⟨i, hi⟩ : ∃ i, idxV l = i := ⟨_, rfl⟩
  rw [hi] at HI h ⊢
  clear hi
  go_enter Tryd.func33, Tryd.ntmps33
  go_wp2_with (go_at_call 51; refine HI.out.mono ?_; rintro e w' ⟨rfl, rfl⟩)
  go_ret3
  exact ⟨rfl, rfl⟩

def BytOut (l : List Int) (w : World) (e : Ending) (w' : World) : Prop :=
  ∃ u, e = .returned (.tuple #[u, .int .i64 0, .int .i64 ((bytE l : Nat) : Int)]) ∧ Bys w' w.heap.size u (bytV l) ∧ Below w.heap.size w w'
set_option maxRecDepth 100000 in
set_option maxHeartbeats 4000000 in
theorem bytes_ok (v : Value) (l : List Int) (w : World) (hw : Lay w) (hv : RdI w.heap.size w v l) (hl : l.length ≤ 1000000) (h : ¬ 0 ≤ idxV l) :
    Calls Tryd.prog 33 #[v] w (BytOut l w) := by
  have hi : idxV l = -1 := by rcases idxF_ge l 0 with e | e; exact e; exact absurd e h
  have hall := idxF_all l 0 hi
  have HI := Lib.hid (index_any v l w hv hl)
  rw [hi] at HI
  have HE : Hid (8000 < (bytL l).length → bytE l = 3 ∧ bytV l = []) := by
    intro h8
    have : bytE l = 3 := by unfold bytE; rw [if_neg h, if_pos h8]
    exact ⟨this, by unfold bytV; rw [this]; rfl⟩
  have HO : Hid (¬ 8000 < (bytL l).length → bytE l = 0 ∧ bytV l = bytL l) := by
    intro h8
    have : bytE l = 0 := by unfold bytE; rw [if_neg h, if_neg h8]
    exact ⟨this, by unfold bytV; rw [this]; rfl⟩
  obtain ⟨va, cap, rfl, hcap, hcell⟩ := hv
  clear h hi
  have HA := Lib.hid hall
  have HT := Lib.hid (bytL_take l)
  have HC := Lib.hid hcell
  clear hall hcell
  go_enter Tryd.func33, Tryd.ntmps33
  go_wp2_with (go_at_call 51; refine HI.out.mono ?_; rintro e w' ⟨rfl, rfl⟩)
  go_loopw [2, 6, 14] (fun b _ i wr => ∃ (k n c : Nat) (a : Option Addr), k ≤ l.length ∧ i = .int .i64 k ∧ b = .slice a n c ∧ n ≤ 8000 ∧ Hid (n = (bytL (l.take k)).length) ∧ Bys wr w.heap.size (.slice a n c) (bytL (l.take k)) ∧ Below w.heap.size w wr) (fun _ _ i _ => l.length - (intOf i).toNat)
  case atStart => exact ⟨0, 0, 0, none, by omega, rfl, rfl, by omega, rfl, World.ownsRow_nil _ _ _ _, Below.refl _ _⟩
  case round =>
    obtain ⟨k, n, c, a, hk, rfl, rfl, hn8, hn, hB, hbl⟩ := hrel
    have hsz := hbl.size
    by_cases hlt : k < l.length
    · obtain ⟨b, off, rfl, hbb, hc⟩ := HC.out (by intro e; rw [e] at hlt; simp at hlt)
      have x1 := (hbl.cell (p := ⟨b, off + k, none⟩) hbb).trans (hc k hlt)
      have hT := HT.out k hlt
      have hr := HA.out l[k] (List.getElem_mem hlt)
      obtain ⟨z, hz⟩ : ∃ z, l[k] = z := ⟨_, rfl⟩
      rw [hz] at x1 hT hr
      have hz0 : 0 ≤ z := by simp [isR] at hr; omega
      obtain ⟨m, rfl⟩ : ∃ m : Nat, z = m := ⟨z.toNat, by omega⟩
      have hlw := bytL_le l (k + 1)
      have hle4 : (enc m).length ≤ 4 := by rw [enc_len]; split; (· decide); split; (· decide); split <;> decide
      have hnn := hn.out
      have HP := Lib.hid (append_any w.heap.size m (.slice a n c) (bytL (l.take k)) wr (hw.next hbl) hsz hB (by omega) hr)
      rw [Int.toNat_natCast] at hT
      rw [← hT] at HP
      have hlen2 : (bytL (l.take (k + 1))).length ≤ 8004 := by rw [hT, List.length_append]; omega
      obtain ⟨y, hy⟩ : ∃ y, (bytL (l.take (k + 1))).length = y := ⟨_, rfl⟩
      rw [hy] at hlen2 hlw
      have HY := Lib.hid hy
      clear hz hc hT hr hz0 hnn hy hle4
      by_cases h8 : 8000 < y
      · have h8i : (8000 : Int) < (y : Int) := by omega
        have HR := HE.out (by omega)
        go_wp2_with (go_at_call 54; refine HP.out.mono ?_; rintro e w2 ⟨v2, rfl, hv2, hb2⟩; obtain ⟨a2, c2, rfl⟩ := bys_len hv2; rw [HY.out])
        go_ret3
        exact ⟨_, by rw [HR.1]; rfl, by rw [HR.2]; exact World.ownsRow_nil _ _ _ _, hbl.trans hb2⟩
      · have h8i : ¬ (8000 : Int) < (y : Int) := by omega
        go_wp2_with (go_at_call 54; refine HP.out.mono ?_; rintro e w2 ⟨v2, rfl, hv2, hb2⟩; obtain ⟨a2, c2, rfl⟩ := bys_len hv2; rw [HY.out] at hv2 ⊢)
        go_roundw
        case rel => exact ⟨k + 1, y, c2, a2, by omega, by go_num, rfl, by omega, HY.out.symm, hv2, hbl.trans hb2⟩
        case measure => simp [intOf]; omega
    · have hall : l.take k = l := List.take_of_length_le (by omega)
      have hR := HO.out (by rw [hall] at hn; have := hn.out; omega)
      have HR := Lib.hid hR
      rw [hall] at hB
      clear hR hall
      go_wp2
      go_ret3
      exact ⟨_, by rw [HR.out.1]; rfl, by rw [HR.out.2]; exact hB, hbl⟩

theorem bytes_any (v : Value) (l : List Int) (w : World) (hw : Lay w) (hv : RdI w.heap.size w v l) (hl : l.length ≤ 1000000) :
    Calls Tryd.prog 33 #[v] w fun e w' => ∃ u, e = .returned (.tuple #[u, .int .i64 (bytA l), .int .i64 ((bytE l : Nat) : Int)]) ∧ Bys w' w.heap.size u (bytV l) ∧ Below w.heap.size w w' := by
  by_cases h : 0 ≤ idxV l
  · have e1 : bytE l = 7 := by unfold bytE; rw [if_pos h]
    have e2 : bytV l = [] := by unfold bytV; rw [e1]; rfl
    have e3 : bytA l = idxV l := by unfold bytA; rw [if_pos h]
    rw [e1, e2, e3]
    refine (bytes_bad v l w hv hl h).mono ?_
    rintro e w' ⟨rfl, rfl⟩
    exact ⟨_, rfl, World.ownsRow_nil _ _ _ _, Below.refl _ _⟩
  · have e3 : bytA l = 0 := by unfold bytA; rw [if_neg h]
    rw [e3]
    exact bytes_ok v l w hw hv hl h
end Go.Proofs.YtdbampgbbghfkaaDoor.Ru
