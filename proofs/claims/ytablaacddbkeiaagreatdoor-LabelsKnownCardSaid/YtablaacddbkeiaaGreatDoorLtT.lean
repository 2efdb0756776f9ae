/- The reference: names, downs. -/
import Derived.Test.YtablaacddbkeiaaGreatDoorLtS
import Derived.RegionTactic
import Derived.ChangeAlike
namespace Go.Proofs.YtablaacddbkeiaaGreatDoor
open Go.RowKit

def rnV (ns : List ByteArray) : Int × Int := if ns.length < 1 ∨ 8 < ns.length then (-1, 3) else nmV ns
theorem rnV_A {ns : List ByteArray} (h : ns.length < 1 ∨ 8 < ns.length) : rnV ns = (-1, 3) := if_pos h
theorem rnV_B {ns : List ByteArray} (h : ¬ (ns.length < 1 ∨ 8 < ns.length)) : rnV ns = nmV ns := if_neg h
def tw1 (ns : List ByteArray) (i j : Nat) : Bool := (ns.map byt).getD i [] == (ns.map byt).getD j []
theorem tw1_eq (ns : List ByteArray) (i j : Nat) (hi : i < ns.length) (hj : j < ns.length) : tw1 ns i j = (ns[j].toList == ns[i].toList) := by
  unfold tw1; rw [get_map ns i hi, get_map ns j hj, byt_eq, byt_eq, Bool.eq_iff_iff, beq_iff_eq, beq_iff_eq]; exact eq_comm
theorem twF_def (ns : List ByteArray) (i : Nat) : twF (ns.map byt) i = (List.range i).any (tw1 ns i) := rfl

set_option maxRecDepth 100000 in
set_option maxHeartbeats 2000000 in
theorem rnames_any (v : Value) (ns : List ByteArray) (w : World) (hv : RdS w.heap.size w v ns) (hs : ∀ s ∈ ns, s.size ≤ 9223372036854775807) :
    Calls Tryz.prog 60 #[v] w fun e w' => e = .returned (.tuple #[.int .i64 (rnV ns).1, .int .i64 (rnV ns).2]) ∧ Below w.heap.size w w' := by
  have HV := Lib.hid hv
  obtain ⟨p, cap, rfl, hc, hc2, h⟩ := hv
  clear h
  have HS := Lib.hid hs; clear hs
  by_cases h1 : ns.length < 1
  · have HK : Hid (rnV ns = (-1, 3)) := rnV_A (.inl h1)
    go_enter Tryz.func60, Tryz.ntmps60
    go_wp2
    go_ret2
    exact ⟨ret_two (by rw [HK.out]; rfl) (by rw [HK.out]; rfl), Below.refl _ _⟩
  by_cases h8 : 8 < ns.length
  · have HK : Hid (rnV ns = (-1, 3)) := rnV_A (.inr h8)
    go_enter Tryz.func60, Tryz.ntmps60
    go_wp2
    go_ret2
    exact ⟨ret_two (by rw [HK.out]; rfl) (by rw [HK.out]; rfl), Below.refl _ _⟩
  have HR : Hid (rnV ns = nmV ns) := rnV_B (by omega)
  go_enter Tryz.func60, Tryz.ntmps60
  go_wp2
  go_loopg [4] ns.length (fun g i wr => ∃ k : Nat, k + g = ns.length ∧ i = .int .i64 k ∧ Below w.heap.size w wr ∧ Hid ((List.range k).findSome? (nm1 nameB (ns.map byt)) = none))
  case atStart => exact ⟨0, by omega, rfl, Below.refl _ _, rfl⟩
  case round =>
    obtain ⟨k, hkg, rfl, hbl, hq⟩ := hrel
    have HBl := Lib.hid hbl; clear hbl
    cases gk with
    | zero =>
      have hkz : ¬ ((k : Int) < (ns.length : Int)) := by omega
      have HM : Hid (nmV ns = (0, 0)) := by
        have := hq.out
        rw [show k = (ns.map byt).length by rw [List.length_map]; omega] at this
        exact nmV_no this
      clear hq
      go_wp2_with fail
      go_ret2
      exact ⟨ret_two (by rw [HR.out, HM.out]; rfl) (by rw [HR.out, HM.out]; rfl), HBl.out⟩
    | succ g =>
      have hlt : (k : Int) < (ns.length : Int) := by omega
      have hk : k < ns.length := by omega
      obtain ⟨b0, off, rfl, hlt0, hx⟩ := (HV.out.below HBl.out).at k hk
      have hsz := HS.out ns[k] (List.getElem_mem hk)
      have HG := Lib.hid (get_map ns k hk)
      have HF : Hid (∀ i e, nm1 nameB (ns.map byt) k = some (i, e) → nmV ns = ((i : Int), e)) := fun i e h => nmV_at (fs_at hq.out h (by rw [List.length_map]; exact hk))
      cases e0 : nameB (byt ns[k]) with
      | false =>
        have HN := Lib.hid (HF.out _ _ (nm1_6 (by rw [HG.out]; exact e0)))
        go_wp2_with (go_at_call 80; refine (rname_any _ _ (by omega)).mono ?_; rintro e w' ⟨rfl, rfl⟩)
        go_ret2
        exact ⟨ret_two (by rw [HR.out, HN.out]; rfl) (by rw [HR.out, HN.out]; rfl), HBl.out⟩
      | true =>
        have HE := Lib.hid e0
        go_wp2_with (go_at_call 80; refine (rname_any _ _ (by omega)).mono ?_; rintro e w' ⟨rfl, rfl⟩)
        clear e0 hx
        go_loopg [5] k (fun g i wr => ∃ j : Nat, j + g = k ∧ i = .int .i64 j ∧ Below w.heap.size w wr ∧ Hid ((List.range j).any (tw1 ns k) = false))
        case atStart => exact ⟨0, by omega, rfl, HBl.out, rfl⟩
        case round =>
          clear HBl
          obtain ⟨j, hjg, rfl, hbl, hj⟩ := hrel
          have HBl := Lib.hid hbl; clear hbl
          cases gk with
          | zero =>
            have hjz : ¬ ((j : Int) < (k : Int)) := by omega
            have HQ := Lib.hid (fs_succ hq.out (nm1_0 (by rw [HG.out]; exact HE.out) (by rw [twF_def]; have := hj.out; rwa [show j = k by omega] at this)))
            go_wp2_with fail
            go_roundg g
            case measure => omega
            case rel => exact ⟨k + 1, by omega, by go_num, HBl.out, HQ⟩
          | succ g3 =>
            have hjlt : (j : Int) < (k : Int) := by omega
            have hjl : j < ns.length := by omega
            have hjl2 : (j : Int) < (ns.length : Int) := by omega
            have HT := Lib.hid (tw1_eq ns k j hk hjl)
            obtain ⟨b1, off1, hb1, hlt1, hx1⟩ := (HV.out.below HBl.out).at k hk
            obtain ⟨b2, off2, hb2, hlt2, hx2⟩ := (HV.out.below HBl.out).at j hjl
            injection hb1 with hb1
            injection hb1 with q1 q2
            injection hb2 with hb2
            injection hb2 with q3 q4
            subst q1 q2 q3 q4
            clear hlt1 hlt2
            cases c1 : (ns[j].toList == ns[k].toList) with
            | true =>
              have HN := Lib.hid (HF.out _ _ (nm1_8 (by rw [HG.out]; exact HE.out) (by rw [twF_def]; exact any_at (by rw [HT.out]; exact c1) (by omega))))
              go_wp2_with fail
              go_quiet (fail)
              go_wp2_with fail
              go_ret2
              exact ⟨ret_two (by rw [HR.out, HN.out]; rfl) (by rw [HR.out, HN.out]; rfl), below_drewN HBl.out _⟩
            | false =>
              have HQ := Lib.hid (any_succ hj.out (by rw [HT.out]; exact c1))
              go_wp2_with fail
              go_quiet (fail)
              go_wp2_with fail
              go_roundg g3
              case measure => omega
              case rel => exact ⟨j + 1, by omega, by go_num, below_drewN HBl.out _, HQ⟩

/-- As far as the numbers have been written: labels below a whole, label a up to b. -/
def gf (up : List UInt8) (a b : Nat) (i : Nat) : Value := .int .u8 ((dn1 up i (if i < b then a + 1 else a) : Nat) : Int)
theorem gf_next {w : World} {g : Nat} {up : List UInt8} {a b : Nat} {z : Int} (h : w.rowIs g 5 up.length (gf up a b)) (hz : (dn1 up b (a + 1) : Int) = z) : (w.setCell ⟨g, b, none⟩ (.int .u8 z)).rowIs g 5 up.length (gf up a (b + 1)) := by
  refine (h.set b _).congr fun i hi => ?_
  show (if i = b then Value.int .u8 z else gf up a b i) = gf up a (b + 1) i
  unfold gf
  by_cases e : i = b
  · subst e; rw [if_pos rfl, if_pos (by omega), hz]
  · rw [if_neg e]
    by_cases e2 : i < b
    · rw [if_pos e2, if_pos (by omega)]
    · rw [if_neg e2, if_neg (by omega)]
theorem gf_same {w : World} {g : Nat} {up : List UInt8} {a b : Nat} (h : w.rowIs g 5 up.length (gf up a b)) (hz : dn1 up b (a + 1) = dn1 up b a) : w.rowIs g 5 up.length (gf up a (b + 1)) := by
  refine h.congr fun i hi => ?_
  unfold gf
  by_cases e : i = b
  · subst e; rw [if_neg (by omega), if_pos (by omega), hz]
  · by_cases e2 : i < b
    · rw [if_pos e2, if_pos (by omega)]
    · rw [if_neg e2, if_neg (by omega)]
theorem gf_row {w : World} {g : Nat} {up : List UInt8} {a : Nat} (h : w.rowIs g 5 up.length (gf up a up.length)) : w.rowIs g 5 up.length (gf up (a + 1) 0) := by
  refine h.congr fun i hi => ?_
  unfold gf
  rw [if_pos hi, if_neg (by omega)]
theorem gf_all {w : World} {g : Nat} {up : List UInt8} {n : Nat} (h : w.rowIs g 5 up.length (gf up up.length 0)) (hn : up.length ≤ 8) (hk : up.length = n) : RdB w.heap.size w (.slice (some ⟨g, 0, none⟩) n n) (dnU up) := by
  refine df_all (h.congr fun i hi => ?_) hn hk
  unfold gf df
  rw [if_neg (by omega), if_pos hi]

/-- A store into the block behind the box. -/
theorem bx_set {w wr : World} {vn vu : Value} {ns : List ByteArray} {up : List UInt8} (h : Bx w vn vu ns up wr) (b : Nat) (x : Value) (hr : RdL w.heap.size w (.agg #[vn, vu]) ns up) : Bx w vn vu ns up (wr.setCell ⟨w.heap.size + 1, b, none⟩ x).drew := by
  have hb : Below (w.heap.size + 1) wr (wr.setCell ⟨w.heap.size + 1, b, none⟩ x).drew := ((Below.refl _ _).setCell (p := ⟨w.heap.size + 1, b, none⟩) (Nat.le_refl _) _).drew
  have hb' : Below w.heap.size w (wr.setCell ⟨w.heap.size + 1, b, none⟩ x).drew := (h.bel.setCell (p := ⟨w.heap.size + 1, b, none⟩) (Nat.le_succ _) _).drew
  exact ⟨hb', Nat.lt_of_lt_of_le h.lt hb.size, (hb.cell (p := ⟨w.heap.size, 0, none⟩) (Nat.lt_succ_self _)).trans h.x0, (hb.cell (p := ⟨w.heap.size, 1, none⟩) (Nat.lt_succ_self _)).trans h.x1, hr.next hb'⟩

set_option maxRecDepth 100000 in
set_option maxHeartbeats 4000000 in
theorem downs_any (v : Value) (ns : List ByteArray) (up : List UInt8) (w : World) (hv : RdL w.heap.size w v ns up) (hl : up.length = ns.length) (h8 : ns.length ≤ 8) :
    Calls Tryz.prog 62 #[v] w fun e w' => ∃ u, e = .returned u ∧ RdB w'.heap.size w' u (dnU up) ∧ Below w.heap.size w w' := by
  have HL := Lib.hid hv
  obtain ⟨⟨vn, vu, rfl, hS, hB⟩, hsz⟩ := hv
  obtain ⟨p, cap, rfl, hc, hc2, h⟩ := hS
  obtain ⟨q, cap', rfl, hc', hc2', h'⟩ := hB
  clear h h' hsz
  have HLE := Lib.hid hl
  have hle1 : ns.length ≤ up.length := by omega
  have hle2 : up.length ≤ ns.length := by omega
  clear hl
  have HI := Lib.hid (Bx.new HL.out)
  have hx0 := HI.out.x0
  have hx1 := HI.out.x1
  obtain ⟨i0, hi, hz0, hz1, hz2⟩ := info_parts info5
  have e1 : (w.alloc (.cells #[.slice p ns.length cap, .slice q up.length cap'] 25)).heap.size = w.heap.size + 1 := by simp
  have hmk := run_make (P := Tryz.prog) (w.alloc (.cells #[.slice p ns.length cap, .slice q up.length cap'] 25)) 23 5 i0 (.int .u8 0) Tryz.underlying23 hi hz0 .i64 .i64 ns.length ns.length (by omega) (by omega) (by rw [hz2]; omega) (by omega)
  rw [Int.toNat_natCast, hz1, Nat.mul_one, e1] at hmk
  have HR0 : Hid (((w.alloc (.cells #[.slice p ns.length cap, .slice q up.length cap'] 25)).alloc (.cells (madeCells (Value.int .u8 0).cells ns.length) 5)).rowIs (w.heap.size + 1) 5 up.length (gf up 0 0)) := by
    unfold Hid
    rw [← e1, HLE.out]
    exact (World.rowIs_made _ (.int .u8 0) ns.length 5).congr fun i _ => by unfold gf; rw [if_neg (by omega)]; rfl
  have hbn := bel1 (w.alloc (.cells #[.slice p ns.length cap, .slice q up.length cap'] 25)) (.cells (madeCells (Value.int .u8 0).cells ns.length) 5)
  have HI2 := Lib.hid (HI.out.next hbn)
  generalize hW : (w.alloc (.cells #[.slice p ns.length cap, .slice q up.length cap'] 25)).alloc (.cells (madeCells (Value.int .u8 0).cells ns.length) 5) = W1 at hmk HR0 HI2
  clear hW e1 hbn HI
  have HI := HI2
  clear HI2 hx0 hx1
  have HLe : Hid (∀ W, Bx w (.slice p ns.length cap) (.slice q up.length cap') ns up W → W.rowIs (w.heap.size + 1) 5 up.length (gf up 0 0) → True) := fun _ _ _ => trivial
  clear HLe
  go_enter Tryz.func62, Tryz.ntmps62
  go_wp2_with fail
  clear hmk
  go_loopg [4] ns.length (fun g i wr => ∃ a : Nat, a + g = ns.length ∧ i = .int .i64 a ∧ Bx w (.slice p ns.length cap) (.slice q up.length cap') ns up wr ∧ wr.rowIs (w.heap.size + 1) 5 up.length (gf up a 0))
  case atStart => exact ⟨0, by omega, rfl, HI.out, HR0.out⟩
  case round =>
    clear HI HR0
    obtain ⟨a, hag, rfl, hix, hrow⟩ := hrel
    have HI := Lib.hid hix
    have hx0 := hix.x0
    have hx1 := hix.x1
    have HRo := Lib.hid hrow
    clear hix hrow
    cases gk with
    | zero =>
      have haz : ¬ ((a : Int) < (ns.length : Int)) := by omega
      have HA : Hid (a = up.length) := by unfold Hid; omega
      go_wp2_with fail
      go_ret
      exact ⟨_, rfl, gf_all (by have := HRo.out; rw [HA.out] at this; exact this) (by omega) HLE.out, HI.out.bel⟩
    | succ g =>
      have halt : (a : Int) < (ns.length : Int) := by omega
      go_wp2_with fail
      clear hx0 hx1
      go_loopg [5] ns.length (fun g i wr => ∃ b : Nat, b + g = ns.length ∧ i = .int .i64 b ∧ Bx w (.slice p ns.length cap) (.slice q up.length cap') ns up wr ∧ wr.rowIs (w.heap.size + 1) 5 up.length (gf up a b))
      case atStart => exact ⟨0, by omega, rfl, HI.out, HRo.out⟩
      case round =>
        clear HI HRo
        obtain ⟨b, hbg, rfl, hix, hrow⟩ := hrel
        have HI := Lib.hid hix
        have hx0 := hix.x0
        have hx1 := hix.x1
        have HRo := Lib.hid hrow
        have hlt1 := hrow.lt
        clear hix hrow
        cases gk with
        | zero =>
          have hbz : ¬ ((b : Int) < (ns.length : Int)) := by omega
          have HA : Hid (b = up.length) := by unfold Hid; omega
          go_wp2_with fail
          go_roundg g
          case measure => omega
          case rel => exact ⟨a + 1, by omega, by go_num, HI.out, gf_row (by have := HRo.out; rw [HA.out] at this; exact this)⟩
        | succ g3 =>
          have hblt : (b : Int) < (ns.length : Int) := by omega
          have HRn : Hid (∀ W, Below wr.heap.size wr W → W.rowIs (w.heap.size + 1) 5 up.length (gf up a b)) := fun W hW => HRo.out.of_block (hW.block _ hlt1)
          cases c0 : le up a b with
          | false =>
            have HT : Hid (dn1 up b (a + 1) = dn1 up b a) := dn1_f c0
            go_wp2_with (go_at_call 81; refine (rbel_any _ ns up _ _ _ HI.out.rd (by omega) (by omega)).mono ?_; rintro e w' ⟨rfl, hbn⟩; have HRw := Lib.hid (HRn.out _ hbn); clear hx0 hx1; have HI2 := Lib.hid (HI.out.next hbn); clear HI hbn; have HI := HI2; clear HI2; have hx0 := HI.out.x0; have hx1 := HI.out.x1)
            go_roundg g3
            case measure => omega
            case rel => exact ⟨b + 1, by omega, by go_num, HI.out, gf_same HRw.out HT.out⟩
          | true =>
            have HT : Hid (dn1 up b (a + 1) = dn1 up b a ||| 2 ^ a) := dn1_t c0
            have h1 := dn1_lt up b a
            have h2 : 2 ^ a ≤ 2 ^ 8 := Nat.pow_le_pow_right (by decide) (by omega)
            have hrx : dn1 up b a < 256 := by omega
            have HOr := Lib.hid (or_u8 (dn1 up b a) a hrx (by omega))
            clear h1 h2
            have HGf : Hid (gf up a b b = .int .u8 ((dn1 up b a : Nat) : Int)) := by unfold Hid gf; rw [if_neg (by omega)]
            go_wp2_with (go_at_call 81; refine (rbel_any _ ns up _ _ _ HI.out.rd (by omega) (by omega)).mono ?_; rintro e w' ⟨rfl, hbn⟩; have HRw := Lib.hid (HRn.out _ hbn); clear hx0 hx1; have HI2 := Lib.hid (HI.out.next hbn); clear HI hbn; have HI := HI2; clear HI2; have hx0 := HI.out.x0; have hx1 := HI.out.x1; have y0 : w'.cell? ⟨w.heap.size + 1, b, none⟩ = some (.int .u8 ((dn1 up b a : Nat) : Int)) := (by rw [HRw.out.cell (by omega), HGf.out]); have yf : w'.frozen? ⟨w.heap.size + 1, b, none⟩ = false := HRw.out.frozen b)
            go_region
            all_goals go_wp2_with fail
            all_goals
              go_roundg g3
              case measure => omega
              case rel => exact ⟨b + 1, by omega, by go_num, bx_set HI.out b _ HL.out, gf_next HRw.out (by rw [HT.out, ← HOr.out])⟩
end Go.Proofs.YtablaacddbkeiaaGreatDoor
