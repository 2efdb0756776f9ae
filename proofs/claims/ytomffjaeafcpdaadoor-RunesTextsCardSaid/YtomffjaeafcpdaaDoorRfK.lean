/- The reference's Runes, Count and Starts. -/
import Derived.Test.YtomffjaeafcpdaaDoorRfJ
import Derived.Test.YtomffjaeafcpdaaDoorRfU
import Derived.Test.YtomffjaeafcpdaaDoorRuY
import Derived.Test.YtomffjaeafcpdaaDoorRuO
namespace Go.Proofs.YtomffjaeafcpdaaDoor
open Go.RowKit

theorem wpList_append_ns {w : World} {ops : Array Oper} {rest : List Oper} {o : Oper} {a : Act} {Q : Exit → Act → World → Prop} (hgd : Region.wanted o (yielded ops a.tmps) = true) (s x : Operand)
    (ho : o.op = .call { callee := .builtin .append, args := #[s, x], argTypes := #[40, 40] }) (B : Nat) (v : Value) (l : List Int) (hs : a.eval s = v) (hown : Ins 3 w B v l)
    (u : Value) (m : List Int) (hx : a.eval x = u) (B' : Nat) (hu : RdI B' w u m) (hn : NilC u) (hl : l.length + m.length ≤ 1000000) (hB : B ≤ w.heap.size)
    (h : ∀ v' w', Ins 3 w' B v' (l ++ m) → w.grownBy w' v.ownBlock → wpList Tryd.prog ops Q rest (a.put o.dst v') w') : wpList Tryd.prog ops Q (o :: rest) a w := by
  obtain ⟨i0, hi, hz0, hz1, hz2⟩ := info_parts infoN
  obtain ⟨ua, cap, rfl, hc1, hcell⟩ := hu
  cases ua with
  | none =>
    have hm : m = [] := by
      rcases m with _ | ⟨c, m⟩
      · rfl
      · obtain ⟨b, off, e, _⟩ := hcell (by simp); cases e
    subst hm
    have hcap := hn _ _ rfl
    subst hcap
    refine wpList_met hgd fun K hK => wp_append_none s x 40 ho B 3 i0 1 Tryd.underlying40 hi v l.length _ hs hown hx (hK _ _ ?_)
    have := h v w (by rw [List.append_nil]; exact hown) (World.grownBy.refl w _)
    exact this
  | some ad =>
    refine wpList_met hgd fun K hK => wp_append_own _ s x 40 ho B 3 i0 (.int .i64 0) 1 8 Tryd.underlying40 hi hz0 hz1 hz2 rfl (by decide) v l.length _ hs hown ad m.length cap (m.map fun c => .int .i64 c) hx (by simp) ?_ (by simp [Value.oneCell']) (by unfold maxLen; omega) (by omega) hB ?_
    · intro j z hz
      have hj : j < m.length := by
        rcases Nat.lt_or_ge j m.length with hj | hj
        · exact hj
        · rw [List.getElem?_eq_none (by simp; omega)] at hz; cases hz
      obtain ⟨b, off, e, _, hc⟩ := hcell (by intro e; subst e; simp at hj)
      cases e
      rw [add_off, hc j hj]
      rw [List.getElem?_map, List.getElem?_eq_getElem hj] at hz
      exact hz
    · intro v' w' hown' hg _
      exact hK _ _ (h v' w' (by unfold Ins; rw [List.length_append, List.map_append]; exact hown') hg)

theorem Way.small {s : List UInt8} {k : Nat} {pre : List (Nat × Nat)} (h : Way s k pre) : pre.length ≤ s.length := by
  have := congrArg List.length h.rn
  rw [List.length_append] at this
  have := rns_len s
  omega
theorem ins_num {t : TypeId} {w : World} {base : Nat} {v : Value} {l : List Int} (h : Ins t w base v l) : ∃ a c, v = .slice a l.length c := own_len h

set_option maxRecDepth 100000 in
set_option maxHeartbeats 4000000 in
theorem rruns_any (v : Value) (s : List UInt8) (w : World) (hv : RdB w.heap.size w v s) :
    Calls Tryd.prog 18 #[v] w fun e w' => ∃ u, e = .returned (.tuple #[u, .int .i64 ((chkE s : Nat) : Int)]) ∧ Ins 2 w' w.heap.size u (runV s) ∧ Below w.heap.size w w' := by
  have HV := Lib.hid hv
  have HC := Lib.hid (rcheck_any v s w hv)
  obtain ⟨a, cap, rfl, hcap, hc2, _⟩ := hv
  by_cases hc : chkE s = 0
  · have hs := ((chkE_ok s).1 hc).1
    have HCK := Lib.hid hc
    rw [hc] at HC
    have HG : Hid (runV s = (rns s).map fun p => (p.1 : Int)) := by unfold Hid runV; rw [if_pos hc]
    have hs1 : (s.length : Int) ≤ 8000 := by omega
    rw [hc]
    clear hc
    go_enter Tryd.func18, Tryd.ntmps18
    go_wp2_with (go_at_call 14; refine HC.out.mono ?_; rintro e w0 ⟨rfl, hb0⟩; have HB0 := Lib.hid hb0; clear hb0)
    go_loopg [6, 7] s.length (fun g o i wr => ∃ (k : Nat) (pre : List (Nat × Nat)) (u : Value), o = u ∧ Way s k pre ∧ s.length ≤ k + g ∧ i = .int .i64 (k : Int) ∧ Ins 2 wr w.heap.size u (pre.map fun p => (p.1 : Int)) ∧ Below w.heap.size w wr)
    case atStart => exact ⟨0, [], _, rfl, Way.start s, by omega, rfl, World.ownsRow_nil _ _ _ _, HB0.out⟩
    case round =>
      obtain ⟨k, pre, u, rfl, hi, hg, rfl, ho, hb⟩ := hrel
      have HI := Lib.hid hi
      have HB := Lib.hid hb
      have HO := Lib.hid ho
      have hle := hi.le
      have hpl := hi.small
      clear hi hb HC HB0
      obtain ⟨ua, uc, rfl⟩ := own_len ho
      rw [List.length_map] at HO
      clear ho
      by_cases hk : k < s.length
      · have hki : (k : Int) < (s.length : Int) := by omega
        obtain ⟨r, n, hd⟩ := HI.out.ok HCK.out hk
        have HD := Lib.hid (rdec_at (HV.out.next HB.out) (by omega) hk hd)
        obtain ⟨n1, n2, n4, hst⟩ := HI.out.step hk hd
        have HS := Lib.hid hst
        have hn4 : (n : Int) ≤ 4 := by omega
        have hkn : (k : Int) + (n : Int) ≤ 8000 := by omega
        cases gk with
        | zero => omega
        | succ g =>
          have HGG : Hid (s.length ≤ k + n + g) := by unfold Hid; omega
          have HPL : Hid (pre.length ≤ 8000) := by unfold Hid; omega
          clear hst hd HI hk hle hg n1 n2 n4 hpl hs hcap
          go_wp2_with (first
            | (at_builtin; refine wpList_append_is (by simp [Region.wanted]) _ _ rfl w.heap.size _ _ rfl HZ.out _ _ rfl _ HR.out (nil_some _ _ _) ?c1 ?c2 ?_; rotate_left 2; intro u2 w2 hu2 hg2; have HB3 := Lib.hid (HY.out.grown hg2 HY.out.size (fun j e => (HZ.out.lt j e).1)); have HU := Lib.hid hu2; clear hu2 hg2)
            | (go_at_call 8; refine HD.out.mono ?_; rintro e w1 ⟨rfl, hb1⟩; have HB2 := Lib.hid (HB.out.trans (hb1.mono HB.out.size)); have HY := Lib.hid (HB2.out.alloc HB2.out.size (.cells #[.int .i64 (r : Int)] 2)); have HZ := Lib.hid (own_below (own_below HO.out hb1) ((Below.refl w1.heap.size w1).alloc (Nat.le_refl _) (.cells #[.int .i64 (r : Int)] 2))); have HR := Lib.hid (rdi_new w1 [(r : Int)] 2); clear hb1))
          case c1 => have := HPL.out; simp; omega
          case c2 => exact HY.out.size
          go_roundg g
          case measure => omega
          case rel => exact ⟨k + n, _, _, rfl, HS.out, HGG.out, by go_num, by rw [List.map_append]; exact HU.out, HB3.out⟩
      · have hki : ¬ (k : Int) < (s.length : Int) := by omega
        have HQ := Lib.hid (HI.out.done hk).2
        clear HI hk hle hg hpl
        go_wp2_with fail
        go_ret2
        rw [HG.out, HQ.out]
        exact ⟨_, rfl, HO.out, HB.out⟩
  · have HG : Hid (runV s = []) := by unfold Hid runV; rw [if_neg hc]
    have e0 : (((chkE s : Nat) : Int) != 0) = true := by rw [bne_iff_ne]; omega
    generalize chkE s = ce at e0 HC ⊢
    clear hc
    go_enter Tryd.func18, Tryd.ntmps18
    go_wp2_with (go_at_call 14; refine HC.out.mono ?_; rintro e w0 ⟨rfl, hb0⟩; have HB0 := Lib.hid hb0; clear hb0)
    go_ret2
    rw [HG.out]
    exact ⟨_, rfl, World.ownsRow_nil _ _ _ _, HB0.out⟩
set_option maxHeartbeats 400000 in
theorem rcount_any (v : Value) (s : List UInt8) (w : World) (hv : RdB w.heap.size w v s) :
    Calls Tryd.prog 16 #[v] w fun e w' => e = .returned (.tuple #[.int .i64 ((runV s).length : Int), .int .i64 ((chkE s : Nat) : Int)]) ∧ Below w.heap.size w w' := by
  have H := Lib.hid (rruns_any v s w hv)
  go_enter Tryd.func16, Tryd.ntmps16
  go_wp2_with (go_at_call 18; refine H.out.mono ?_; rintro e w' ⟨u, rfl, hu, hb⟩; obtain ⟨ua, cu, rfl⟩ := own_len hu)
  go_ret2
  exact ⟨rfl, hb⟩
end Go.Proofs.YtomffjaeafcpdaaDoor
