/- Same, of the reference. -/
import Derived.Test.YtfjnapmhnfjopaaLtP
namespace Go.Proofs.Ytfjnapmhnfjopaa
open Go.RowKit

def smB (ns : List ByteArray) (up : List UInt8) (ms : List ByteArray) (vp : List UInt8) : Bool := decide (ns = ms) && decide (up = vp)
theorem str_eq {s t : ByteArray} (h : (s.toList == t.toList) = true) : s = t := by
  have h1 : s.toList = t.toList := by simpa using h
  rw [byt_eq, byt_eq] at h1
  rw [← mk_byt s, ← mk_byt t, h1]
theorem take_next {α : Type} {l m : List α} {k : Nat} (h : l.take k = m.take k) (h1 : k < l.length) (h2 : k < m.length) (e : l[k] = m[k]) : l.take (k + 1) = m.take (k + 1) := by
  rw [List.take_succ_eq_append_getElem h1, List.take_succ_eq_append_getElem h2, h, e]
theorem drewN_below (w : World) (n : Nat) : Below w.heap.size w (w.drewN n) := below_drewN (Below.refl _ _) n

set_option maxRecDepth 100000 in
set_option maxHeartbeats 4000000 in
theorem same_any (v u : Value) (ns : List ByteArray) (up : List UInt8) (ms : List ByteArray) (vp : List UInt8) (w : World) (hv : RdL w.heap.size w v ns up) (hu : RdL w.heap.size w u ms vp) :
    Calls Try.prog 18 #[v, u] w fun e w' => e = .returned (.bool (smB ns up ms vp)) ∧ Below w.heap.size w w' := by
  obtain ⟨⟨vn, vu, rfl, hS, hB⟩, hsz⟩ := hv
  obtain ⟨⟨un, uu, rfl, hS', hB'⟩, hsz'⟩ := hu
  have HL : Hid (RdL w.heap.size w (.agg #[vn, vu]) ns up) := ⟨⟨_, _, rfl, hS, hB⟩, hsz⟩
  have HL' : Hid (RdL w.heap.size w (.agg #[un, uu]) ms vp) := ⟨⟨_, _, rfl, hS', hB'⟩, hsz'⟩
  obtain ⟨a1, c1, rfl, k1, k1', g1⟩ := hS
  obtain ⟨a2, c2, rfl, k2, k2', g2⟩ := hB
  obtain ⟨a3, c3, rfl, k3, k3', g3⟩ := hS'
  obtain ⟨a4, c4, rfl, k4, k4', g4⟩ := hB'
  clear g1 g2 g3 g4 hsz hsz'
  have HI := Lib.hid (Bx.new HL.out)
  have HJ := Lib.hid (Bx.new (HL'.out.al (.cells #[.slice a1 ns.length c1, .slice a2 up.length c2] 25)))
  have HI2 := Lib.hid (HI.out.next (bel1 _ (.cells #[.slice a3 ms.length c3, .slice a4 vp.length c4] 25)))
  clear HI
  have HE : Hid (∀ o, (w.alloc o).heap.size = w.heap.size + 1) := fun o => by simp
  by_cases hn : ns.length = ms.length
  · have q1 : ((ns.length : Int) != (ms.length : Int)) = false := by simp [hn]
    by_cases hp : up.length = vp.length
    · have q2 : ((up.length : Int) != (vp.length : Int)) = false := by simp [hp]
      have HN := Lib.hid hn; clear hn
      have HP := Lib.hid hp; clear hp
      go_enter Try.func18, Try.ntmps18
      go_wp2
      go_loopg [5] ns.length (fun g i wr => ∃ k : Nat, k + g = ns.length ∧ i = .int .i64 k ∧ Bx w (.slice a1 ns.length c1) (.slice a2 up.length c2) ns up wr ∧ Bx (w.alloc (.cells #[.slice a1 ns.length c1, .slice a2 up.length c2] 25)) (.slice a3 ms.length c3) (.slice a4 vp.length c4) ms vp wr ∧ Hid (ns.take k = ms.take k))
      case atStart => exact ⟨0, by omega, rfl, HI2.out, HJ.out, rfl⟩
      case round =>
        obtain ⟨k, hkg, rfl, hi, hj, hq⟩ := hrel
        clear HI2 HJ
        have HI := Lib.hid hi
        have HJ := Lib.hid hj
        have x0 := hi.x0
        have x1 := hi.x1
        have y0 := hj.x0
        have y1 := hj.x1
        rw [HE.out] at y0 y1
        obtain ⟨⟨v1, v2, hv12, hr1, hr2⟩, _⟩ := hi.rd
        obtain ⟨⟨u1, u2, hu12, hr3, hr4⟩, _⟩ := hj.rd
        injection hv12 with hv12
        injection hu12 with hu12
        obtain ⟨rfl, rfl⟩ : v1 = .slice a1 ns.length c1 ∧ v2 = .slice a2 up.length c2 := by simpa [eq_comm] using hv12
        obtain ⟨rfl, rfl⟩ : u1 = .slice a3 ms.length c3 ∧ u2 = .slice a4 vp.length c4 := by simpa [eq_comm] using hu12
        clear hv12 hu12 hi hj
        cases gk with
        | zero =>
          have hkz : ¬ ((k : Int) < (ns.length : Int)) := by omega
          have HNE : Hid (ns = ms) := by
            unfold Hid
            have := hq.out
            rwa [List.take_of_length_le (by omega), List.take_of_length_le (by have := HN.out; omega)] at this
          clear hr1 hr3
          have HR2 := Lib.hid hr2
          have HR4 := Lib.hid hr4
          clear hr2 hr4 hq
          go_wp2
          go_loopg [6] up.length (fun g i wr => ∃ k : Nat, k + g = up.length ∧ i = .int .i64 k ∧ Bx w (.slice a1 ns.length c1) (.slice a2 up.length c2) ns up wr ∧ Bx (w.alloc (.cells #[.slice a1 ns.length c1, .slice a2 up.length c2] 25)) (.slice a3 ms.length c3) (.slice a4 vp.length c4) ms vp wr ∧ Hid (up.take k = vp.take k))
          case atStart => exact ⟨0, by omega, rfl, HI.out, HJ.out, rfl⟩
          case round =>
            clear HI HJ x0 x1 y0 y1 HR2 HR4
            obtain ⟨i, hig, rfl, hi, hj, hq⟩ := hrel
            have HI := Lib.hid hi
            have HJ := Lib.hid hj
            have x0 := hi.x0
            have x1 := hi.x1
            have y0 := hj.x0
            have y1 := hj.x1
            rw [HE.out] at y0 y1
            obtain ⟨⟨v1, v2, hv12, hr1, hr2⟩, _⟩ := hi.rd
            obtain ⟨⟨u1, u2, hu12, hr3, hr4⟩, _⟩ := hj.rd
            injection hv12 with hv12
            injection hu12 with hu12
            obtain ⟨rfl, rfl⟩ : v1 = .slice a1 ns.length c1 ∧ v2 = .slice a2 up.length c2 := by simpa [eq_comm] using hv12
            obtain ⟨rfl, rfl⟩ : u1 = .slice a3 ms.length c3 ∧ u2 = .slice a4 vp.length c4 := by simpa [eq_comm] using hu12
            clear hv12 hu12 hi hj hr1 hr3
            cases gk with
            | zero =>
              have hiz : ¬ ((i : Int) < (up.length : Int)) := by omega
              have HPE : Hid (smB ns up ms vp = true) := by
                unfold Hid
                have := hq.out
                rw [List.take_of_length_le (by omega), List.take_of_length_le (by have := HP.out; omega)] at this
                unfold smB
                rw [decide_eq_true HNE.out, decide_eq_true this]; rfl
              clear hr2 hr4 hq
              go_wp2
              go_ret
              exact ⟨ret_bool HPE.out.symm, HI.out.bel⟩
            | succ g2 =>
              have hilt : (i : Int) < (up.length : Int) := by omega
              have hil : i < up.length := by omega
              have hil2 : i < vp.length := by have := HP.out; omega
              have hilt2 : (i : Int) < (vp.length : Int) := by omega
              obtain ⟨b1, o1, rfl, _, z1⟩ := hr2.at i hil
              obtain ⟨b2, o2, rfl, _, z2⟩ := hr4.at i hil2
              clear hr2 hr4
              cases e0 : ((up[i].toNat : Int) != (vp[i].toNat : Int)) with
              | true =>
                have HF : Hid (smB ns up ms vp = false) := by
                  unfold Hid smB
                  have : up ≠ vp := by intro e; subst e; simp at e0
                  rw [decide_eq_false this]; simp
                go_wp2
                go_quiet (fail)
                go_wp2
                go_ret
                exact ⟨ret_bool HF.out.symm, below_drewN HI.out.bel _⟩
              | false =>
                have HT : Hid (up.take (i + 1) = vp.take (i + 1)) := take_next hq.out hil hil2 (by have : (up[i].toNat : Int) = (vp[i].toNat : Int) := by simpa using e0
                                                                                                   exact UInt8.toNat_inj.1 (by omega))
                go_wp2
                go_quiet (fail)
                go_wp2
                go_roundg g2
                case measure => omega
                case rel => exact ⟨i + 1, by omega, by go_num, HI.out.next (drewN_below _ _), HJ.out.next (drewN_below _ _), HT⟩
        | succ g =>
          have hlt : (k : Int) < (ns.length : Int) := by omega
          have hkl : k < ns.length := by omega
          have hkl2 : k < ms.length := by have := HN.out; omega
          have hlt2 : (k : Int) < (ms.length : Int) := by omega
          obtain ⟨b1, o1, rfl, _, z1⟩ := hr1.at k hkl
          obtain ⟨b2, o2, rfl, _, z2⟩ := hr3.at k hkl2
          clear hr1 hr2 hr3 hr4
          cases e0 : (ns[k].toList == ms[k].toList) with
          | false =>
            have HF : Hid (smB ns up ms vp = false) := by
              unfold Hid smB
              have : ns ≠ ms := by intro e; subst e; simp at e0
              rw [decide_eq_false this]; rfl
            have e1 : (ns[k].toList != ms[k].toList) = true := by simp [bne, e0]
            go_wp2
            go_quiet (fail)
            go_wp2
            go_ret
            exact ⟨ret_bool HF.out.symm, below_drewN HI.out.bel _⟩
          | true =>
            have HT : Hid (ns.take (k + 1) = ms.take (k + 1)) := take_next hq.out hkl hkl2 (str_eq e0)
            have e1 : (ns[k].toList != ms[k].toList) = false := by simp [bne, e0]
            go_wp2
            go_quiet (fail)
            go_wp2
            go_roundg g
            case measure => omega
            case rel => exact ⟨k + 1, by omega, by go_num, HI.out.next (drewN_below _ _), HJ.out.next (drewN_below _ _), HT⟩
    · have q2 : ((up.length : Int) != (vp.length : Int)) = true := by rw [bne_iff_ne]; omega
      have HN := Lib.hid hn; clear hn
      have HF : Hid (smB ns up ms vp = false) := by
        unfold Hid smB
        rw [decide_eq_false (p := up = vp) (fun e => hp (by rw [e]))]; simp
      go_enter Try.func18, Try.ntmps18
      go_wp2
      go_ret
      exact ⟨ret_bool HF.out.symm, HI2.out.bel⟩
  · have q1 : ((ns.length : Int) != (ms.length : Int)) = true := by rw [bne_iff_ne]; omega
    have HF : Hid (smB ns up ms vp = false) := by
      unfold Hid smB
      rw [decide_eq_false (fun e => hn (by rw [e]))]; rfl
    go_enter Try.func18, Try.ntmps18
    go_wp2
    go_ret
    exact ⟨ret_bool HF.out.symm, HI2.out.bel⟩
end Go.Proofs.Ytfjnapmhnfjopaa
