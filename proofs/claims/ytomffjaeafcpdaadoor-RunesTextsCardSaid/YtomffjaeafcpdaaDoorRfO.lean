/- The reference's Bytes. -/
import Derived.Test.YtomffjaeafcpdaaDoorRfK
import Derived.Test.YtomffjaeafcpdaaDoorRuX
namespace Go.Proofs.YtomffjaeafcpdaaDoor
open Go.RowKit

set_option maxRecDepth 100000
set_option maxHeartbeats 4000000 in
theorem rbytes_bad (v : Value) (l : List Int) (w : World) (hv : RdI w.heap.size w v l) (hl : l.length ≤ 1000000) (h : 0 ≤ idxV l) :
    Calls Tryd.prog 20 #[v] w fun e w' => e = .returned (.tuple #[.slice none 0 0, .int .i64 (idxV l), .int .i64 7]) ∧ Below w.heap.size w w' := by
  have HH := Lib.hid h
  have hl1 : (l.length : Int) ≤ 1000000 := by omega
  obtain ⟨va, cap, rfl, hcap, hcell⟩ := hv
  have HC := Lib.hid hcell
  clear hcell h
  go_enter Tryd.func20, Tryd.ntmps20
  go_wp2_with fail
  go_loopg [5] l.length (fun g i wr => ∃ j : Nat, j + g = l.length ∧ i = .int .i64 (j : Int) ∧ Hid (idxV l = idxF (0 + j) (l.drop j)) ∧ w = wr)
  case atStart => exact ⟨0, by omega, rfl, rfl, rfl⟩
  case round =>
    obtain ⟨j, hj, rfl, HX, rfl⟩ := hrel
    cases gk with
    | zero =>
      exfalso
      have h1 := HX.out
      have h2 := HH.out
      rw [List.drop_eq_nil_of_le (by omega)] at h1
      rw [h1] at h2
      exact absurd h2 (by unfold idxF; decide)
    | succ g =>
      have hjl : j < l.length := by omega
      have hji : (j : Int) < (l.length : Int) := by omega
      obtain ⟨b, off, rfl, hbb, hc⟩ := HC.out (by intro e; rw [e] at hjl; simp at hjl)
      have x1 := hc j hjl
      clear hc
      cases hr : isR l[j]
      · have HN := Lib.hid (HX.out.trans (idxF_no 0 l j hjl hr))
        have HI := fun W => rIs_any l[j] W
        rw [hr] at HI
        generalize l[j] = z at x1 HI
        clear hr
        go_wp2_with (go_at_call 35; refine (HI _).mono ?_; rintro e w' ⟨rfl, rfl⟩)
        go_ret3
        rw [HN.out]
        exact ⟨by simp, Below.refl _ _⟩
      · have HN := Lib.hid (HX.out.trans (idxF_yes 0 l j hjl hr))
        have HI := fun W => rIs_any l[j] W
        rw [hr] at HI
        generalize l[j] = z at x1 HI
        clear hr
        go_wp2_with (go_at_call 35; refine (HI _).mono ?_; rintro e w' ⟨rfl, rfl⟩)
        go_roundg g
        case measure => omega
        case rel => exact ⟨j + 1, by omega, by go_num, HN.out, rfl⟩

def RBytOut (l : List Int) (w : World) (e : Ending) (w' : World) : Prop :=
  ∃ u, e = .returned (.tuple #[u, .int .i64 0, .int .i64 ((bytE l : Nat) : Int)]) ∧ Bys w' w.heap.size u (bytV l) ∧ Below w.heap.size w w'
set_option maxHeartbeats 4000000 in
theorem rbytes_ok (v : Value) (l : List Int) (w : World) (hv : RdI w.heap.size w v l) (hl : l.length ≤ 1000000) (h : ¬ 0 ≤ idxV l) :
    Calls Tryd.prog 20 #[v] w (RBytOut l w) := by
  have hi : idxV l = -1 := by rcases idxF_ge l 0 with e | e; exact e; exact absurd e h
  have hall := idxF_all l 0 hi
  have HE : Hid (8000 < (bytL l).length → bytE l = 3 ∧ bytV l = []) := by
    intro h8
    have : bytE l = 3 := by unfold bytE; rw [if_neg h, if_pos h8]
    exact ⟨this, by unfold bytV; rw [this]; rfl⟩
  have HO : Hid (¬ 8000 < (bytL l).length → bytE l = 0 ∧ bytV l = bytL l) := by
    intro h8
    have : bytE l = 0 := by unfold bytE; rw [if_neg h, if_neg h8]
    exact ⟨this, by unfold bytV; rw [this]; rfl⟩
  have hl1 : (l.length : Int) ≤ 1000000 := by omega
  obtain ⟨va, cap, rfl, hcap, hcell⟩ := hv
  clear h hi
  have HA := Lib.hid hall
  have HT := Lib.hid (bytL_take l)
  have HC := Lib.hid hcell
  clear hall hcell
  go_enter Tryd.func20, Tryd.ntmps20
  go_wp2_with fail
  go_loopg [5] l.length (fun g i wr => ∃ j : Nat, j + g = l.length ∧ i = .int .i64 (j : Int) ∧ w = wr)
  case atStart => exact ⟨0, by omega, rfl, rfl⟩
  case round =>
    obtain ⟨j, hj, rfl, rfl⟩ := hrel
    cases gk with
    | succ g =>
      have hjl : j < l.length := by omega
      have hji : (j : Int) < (l.length : Int) := by omega
      obtain ⟨b, off, rfl, hbb, hc⟩ := HC.out (by intro e; rw [e] at hjl; simp at hjl)
      have x1 := hc j hjl
      have HI := fun W => rIs_any l[j] W
      rw [HA.out l[j] (List.getElem_mem hjl)] at HI
      clear hc
      generalize l[j] = z at x1 HI
      go_wp2_with (go_at_call 35; refine (HI _).mono ?_; rintro e w' ⟨rfl, rfl⟩)
      go_roundg g
      case measure => omega
      case rel => exact ⟨j + 1, by omega, by go_num, rfl⟩
    | zero =>
      have hjl : ¬ (j : Int) < (l.length : Int) := by omega
      clear hj
      go_wp2_with fail
      go_loopg [6, 7] l.length (fun g o i wr => ∃ (k n c : Nat) (a : Option Addr), k + g = l.length ∧ i = .int .i64 (k : Int) ∧ o = .slice a n c ∧ n ≤ 8000 ∧ Hid (n = (bytL (l.take k)).length) ∧ Bys wr w.heap.size (.slice a n c) (bytL (l.take k)) ∧ Below w.heap.size w wr)
      case atStart => exact ⟨0, 0, 0, none, by omega, rfl, rfl, by omega, rfl, World.ownsRow_nil _ _ _ _, Below.refl _ _⟩
      case round =>
        clear hjl
        obtain ⟨k, n, c, a, hkg, rfl, rfl, hn8, hn, hB, hbl⟩ := hrel
        have HB := Lib.hid hbl
        have HW := Lib.hid hB
        cases gk with
        | succ g =>
          have hlt : k < l.length := by omega
          have hki : (k : Int) < (l.length : Int) := by omega
          obtain ⟨b, off, rfl, hbb, hc⟩ := HC.out (by intro e; rw [e] at hlt; simp at hlt)
          have x1 := (hbl.cell (p := ⟨b, off + k, none⟩) hbb).trans (hc k hlt)
          have hT := HT.out k hlt
          have hr := HA.out l[k] (List.getElem_mem hlt)
          obtain ⟨z, hz⟩ : ∃ z, l[k] = z := ⟨_, rfl⟩
          rw [hz] at x1 hT hr
          have HEn := Lib.hid (fun W => refEncode_any z W)
          have hlw := bytL_le l (k + 1)
          have hle4 : (enc z.toNat).length ≤ 4 := by rw [enc_len]; split; (· decide); split; (· decide); split <;> decide
          have hEB := encB_ok z hr
          rw [← hEB] at hT hle4
          have hnn := hn.out
          have hlen2 : (bytL (l.take (k + 1))).length ≤ 8004 := by rw [hT, List.length_append]; omega
          obtain ⟨y, hy⟩ : ∃ y, (bytL (l.take (k + 1))).length = y := ⟨_, rfl⟩
          rw [hy] at hlen2 hlw
          have HY := Lib.hid hy
          have HTT := Lib.hid hT
          have H4 := Lib.hid hle4
          have HN8 := Lib.hid hn
          have hN : Hid (n ≤ 8000) := hn8
          have hgk : k + 1 + g = l.length := by omega
          clear hz hc hT hr hnn hy hle4 hEB hB hbl hn hlt hkg hn8
          have hy1 : (y : Int) ≤ 8004 := by omega
          by_cases h8 : 8000 < y
          · have h8i : (8000 : Int) < (y : Int) := by omega
            have HR := Lib.hid (HE.out (by omega))
            clear h8
            go_wp2_with (first
              | (at_builtin; refine wpList_append_bs (by simp [Region.wanted]) _ _ rfl w.heap.size _ _ rfl HZ.out _ _ rfl _ HRd.out HNil.out ?c1 ?c2 ?_; rotate_left 2; intro v2 w2 hv2 hg2; rw [← HTT.out] at hv2; have HB3 := Lib.hid (HB2.out.grown hg2 HB2.out.size (fun j e => (HZ.out.lt j e).1)); obtain ⟨a2, c2, rfl⟩ := bys_num hv2 HY.out; have HU := Lib.hid hv2; clear hv2 hg2)
              | (go_at_call 10; refine (HEn.out _).mono ?_; rintro e w1 ⟨vb, rfl, hvb, hb1⟩; have HB2 := Lib.hid (HB.out.trans (hb1.mono HB.out.size)); have HZ := Lib.hid (own_below HW.out hb1); have HRd := Lib.hid hvb.rd; have HNil := Lib.hid (NilC.own hvb); clear hvb hb1))
            case c1 => have h1 := H4.out; have h2 := HN8.out; have h3 := hN.out; rw [← h2]; omega
            case c2 => exact HB2.out.size
            go_ret3
            exact ⟨_, by rw [HR.out.1]; rfl, by rw [HR.out.2]; exact World.ownsRow_nil _ _ _ _, HB3.out⟩
          · have h8i : ¬ (8000 : Int) < (y : Int) := by omega
            go_wp2_with (first
              | (at_builtin; refine wpList_append_bs (by simp [Region.wanted]) _ _ rfl w.heap.size _ _ rfl HZ.out _ _ rfl _ HRd.out HNil.out ?c1 ?c2 ?_; rotate_left 2; intro v2 w2 hv2 hg2; rw [← HTT.out] at hv2; have HB3 := Lib.hid (HB2.out.grown hg2 HB2.out.size (fun j e => (HZ.out.lt j e).1)); obtain ⟨a2, c2, rfl⟩ := bys_num hv2 HY.out; have HU := Lib.hid hv2; clear hv2 hg2)
              | (go_at_call 10; refine (HEn.out _).mono ?_; rintro e w1 ⟨vb, rfl, hvb, hb1⟩; have HB2 := Lib.hid (HB.out.trans (hb1.mono HB.out.size)); have HZ := Lib.hid (own_below HW.out hb1); have HRd := Lib.hid hvb.rd; have HNil := Lib.hid (NilC.own hvb); clear hvb hb1))
            case c1 => have h1 := H4.out; have h2 := HN8.out; have h3 := hN.out; rw [← h2]; omega
            case c2 => exact HB2.out.size
            go_roundg g
            case measure => omega
            case rel => exact ⟨k + 1, y, c2, a2, hgk, by go_num, rfl, by omega, HY.out.symm, HU.out, HB3.out⟩
        | zero =>
          have hki : ¬ (k : Int) < (l.length : Int) := by omega
          have hall : l.take k = l := List.take_of_length_le (by omega)
          rw [hall] at HW hn
          have hR := HO.out (by have := hn.out; omega)
          have HR := Lib.hid hR
          clear hR hall hB hbl hn
          go_wp2_with fail
          go_ret3
          exact ⟨_, by rw [HR.out.1]; rfl, by rw [HR.out.2]; exact HW.out, HB.out⟩

theorem rbytes_any (v : Value) (l : List Int) (w : World) (hv : RdI w.heap.size w v l) (hl : l.length ≤ 1000000) :
    Calls Tryd.prog 20 #[v] w fun e w' => ∃ u, e = .returned (.tuple #[u, .int .i64 (bytA l), .int .i64 ((bytE l : Nat) : Int)]) ∧ Bys w' w.heap.size u (bytV l) ∧ Below w.heap.size w w' := by
  by_cases h : 0 ≤ idxV l
  · have e1 : bytE l = 7 := by unfold bytE; rw [if_pos h]
    have e2 : bytV l = [] := by unfold bytV; rw [e1]; rfl
    have e3 : bytA l = idxV l := by unfold bytA; rw [if_pos h]
    rw [e1, e2, e3]
    exact (rbytes_bad v l w hv hl h).mono fun e w' k => ⟨_, k.1, World.ownsRow_nil _ _ _ _, k.2⟩
  · have e3 : bytA l = 0 := by unfold bytA; rw [if_neg h]
    rw [e3]
    exact rbytes_ok v l w hv hl h
end Go.Proofs.YtomffjaeafcpdaaDoor
