/- runesOf: what it yields. -/
import Derived.Test.YtomffjaeafcpdaaDoorRuI
import Derived.RangeFuncNested
import Derived.RangeFuncBound
import Derived.RangeFuncCalls
import Derived.RangeFuncLeaves
import Derived.RangeFuncBox
import Derived.Shelf.Abstract
import Derived.Shelf.RegionOpen
import Derived.OwnWalkIn
import Derived.TacticsInMore
import Derived.LoopNIn
import Derived.LoopIn
import Derived.Maps.AppendAt
namespace Go.Proofs.YtomffjaeafcpdaaDoor
open Go.RowKit Go.Shelf
attribute [local go_sem] Oper.semAt_some

def encP (p : Nat × Nat) : Array Value := #[.int .i64 (p.1 : Int), .int .i64 (p.2 : Int)]
/-- What a round keeps: what lay below n₀, and the cell of the captured bytes. -/
def KpB (n₀ Bn : Nat) (W W' : World) : Prop := Below n₀ W W' ∧ W'.cell? ⟨Bn, 0, none⟩ = W.cell? ⟨Bn, 0, none⟩
theorem kpB_t {n₀ Bn : Nat} {A B C : World} (h : KpB n₀ Bn A B) (k : KpB n₀ Bn B C) : KpB n₀ Bn A C := ⟨h.1.trans k.1, k.2.trans h.2⟩
theorem kpB_b {n₀ Bn : Nat} {w : World} (hn : n₀ ≤ w.heap.size) (hB : Bn < w.heap.size) (W : World) (l : Nat) (o o' : Obj) (hl : w.heap.size ≤ l) (h : W.heap[l]? = some o) (h1 : o.isCells = false) (h2 : o.isWalk = false) : KpB n₀ Bn W (W.putObj l o') := by
  refine ⟨belowK_b hn W l o o' hl h h1 h2, ?_⟩
  exact ((Below.refl w.heap.size W).grown (grownBy_putObj' W l o') (by have := (Array.getElem?_eq_some_iff.1 h).1; omega) (fun k e => by cases e; omega)).cell (p := ⟨Bn, 0, none⟩) hB

set_option maxRecDepth 100000 in
set_option maxHeartbeats 1000000 in
theorem runesOf_in (n : Nat) (a : Option Addr) (len cap : Nat) (w : World) :
    CallsIn Fence.wide n Tryd.prog 38 #[.slice a len cap] w fun e w' => e = .returned (.func (.func 46) #[] #[.pointer (some ⟨w.heap.size, 0, none⟩)]) ∧ w.alloc (.cells #[.slice a len cap] 22) = w' := by
  refine callsIn_of_wp Tryd.func38 rfl trivial ?_ rfl
  simp only [Tryd.ntmps38, List.size_toArray, List.length_cons, List.length_nil, Nat.reduceAdd, Nat.reduceSub, Array.replicate_succ, Array.replicate_zero, List.push_toArray, List.append_toArray, List.nil_append, List.cons_append]
  gi_wp2
  go_ret
  exact ⟨rfl, rfl⟩
theorem yield_any {m : Nat} (m' : Nat) {P : Program} {l : Nat} {args : Array Value} {W : World} {R : Ending → World → Prop} (h : YieldAt Fence.wide m P l args W R) : YieldAt Fence.wide m' P l args W R := by
  obtain ⟨fn, tmps, assign, body, hy, hR⟩ := h
  exact ⟨fn, tmps, assign, body, hy, hR.1, fun c cs _ => hR.2 c cs (room_wide _)⟩

/-- The runes from a place on. -/
def rnA (l : List UInt8) (k : Nat) : List (Nat × Nat) := rnF l.length k (l.drop k)
theorem rnA_zero (l : List UInt8) : rnA l 0 = rns l := rfl
theorem rnA_more (l : List UInt8) (k : Nat) (h : (dec (l.drop k)).2.2 = 0) : rnA l k = ((dec (l.drop k)).1, k + (dec (l.drop k)).2.1) :: rnA l (k + (dec (l.drop k)).2.1) := by
  have hw := dec_w _ h
  have hk : k < l.length := by simp at hw; omega
  unfold rnA
  rw [rnF_more l.length (l.length + 1) k (l.drop k) (by simp) (by simp; omega)]
  simp only [rnF, h, if_true, List.drop_drop]
theorem rnA_end (l : List UInt8) (k : Nat) (h : (dec (l.drop k)).2.2 ≠ 0) : rnA l k = [] := by
  unfold rnA
  cases l.length with
  | zero => rfl
  | succ f => simp only [rnF]; rw [if_neg h]

set_option maxRecDepth 100000 in
set_option maxHeartbeats 4000000 in
theorem runes1_in (n l Bn n₀ : Nat) (hn : 1 ≤ n) (h4 : 4 ≤ n₀) (v : Value) (s : List UInt8) (hs : s.length ≤ 140737488351232) (J Jx : List (Nat × Nat) → World → Prop)
    (hJb : ∀ pre A B, J pre A → Below A.heap.size A B → J pre B)
    (hY : ∀ pre x W, J pre W → pre.length < (rns s).length → YieldAt Fence.wide (n - 1) Tryd.prog l (encP x) W fun e W' =>
      (e = .returned (.bool true) ∧ J (pre ++ [x]) W' ∧ KpB n₀ Bn W W') ∨ (e = .returned (.bool false) ∧ Jx (pre ++ [x]) W'))
    (W : World) (hn₀ : n₀ ≤ W.heap.size) (hL : Lay W) (hv : RdB n₀ W v s) (hB : Bn < W.heap.size) (hc : W.cell? ⟨Bn, 0, none⟩ = some v) (h0 : J [] W) :
    CallsIn Fence.wide n Tryd.prog 46 #[.func (.yield l) #[] #[], .pointer (some ⟨Bn, 0, none⟩)] W fun e W' => (∃ v, e = .returned v) ∧
      ((∃ ys, ys = rns s ∧ J ys W') ∨ (∃ pre, pre <+: rns s ∧ Jx pre W')) := by
  obtain ⟨va, cap, rfl, hcap, hc2, hcells⟩ := hv
  have hv : RdB n₀ W (.slice va s.length cap) s := ⟨va, cap, rfl, hcap, hc2, hcells⟩
  clear hcells
  refine callsIn_of_wp Tryd.func46 rfl trivial ?_ rfl
  simp only [Tryd.ntmps46, List.size_toArray, List.length_cons, List.length_nil, Nat.reduceAdd, Nat.reduceSub, Array.replicate_succ, Array.replicate_zero, List.push_toArray, List.append_toArray, List.nil_append, List.cons_append]
  gi_wp2
  gi_loopw [3] (fun i wr => ∃ (k : Nat) (pre : List (Nat × Nat)), k ≤ s.length ∧ i = .int .i64 k ∧ Hid (rns s = pre ++ rnA s k) ∧ J pre wr ∧ Below n₀ W wr ∧ W.heap.size ≤ wr.heap.size ∧ wr.cell? ⟨Bn, 0, none⟩ = some (.slice va s.length cap))
    (fun i _ => s.length - (intOf i).toNat)
  case atStart => exact ⟨0, [], by omega, rfl, rfl, h0, Below.refl _ _, Nat.le_refl _, hc⟩
  case round =>
    obtain ⟨k, pre, hk, rfl, hx, hJp, hbW, hsz, hcB⟩ := hrel
    have hLr := hL.below h4 hbW
    have hvr := (hv.below hbW).mono (Nat.le_trans hn₀ hsz)
    by_cases hlt : k < s.length
    · have HD := Lib.hid (decode_any s (.slice va s.length cap) k wr hLr hvr)
      have hki : decI s (k : Int) = dec (s.drop k) := by unfold decI; rw [if_neg (by omega)]; rfl
      by_cases hd : (dec (s.drop k)).2.2 = 0
      · have hw := dec_w _ hd
        obtain ⟨r, hr⟩ : ∃ r, (dec (s.drop k)).1 = r := ⟨_, rfl⟩
        obtain ⟨d, hdd⟩ : ∃ d, (dec (s.drop k)).2.1 = d := ⟨_, rfl⟩
        have hmo := rnA_more s k hd
        rw [hr, hdd] at hmo
        rw [hdd] at hw
        have hkd : k + d ≤ s.length := by simp at hw; omega
        have hres : Ending.returned (tup3 (decI s (k : Int))) = .returned (.tuple #[.int .i64 (r : Int), .int .i64 (d : Int), .int .i64 0]) := by
          rw [hki]; unfold tup3; rw [hr, hdd, hd]; rfl
        have HD' := Lib.hid (show Calls Tryd.prog 7 #[.slice va s.length cap, .int .i64 (k : Int)] wr fun e w' => e = .returned (.tuple #[.int .i64 (r : Int), .int .i64 (d : Int), .int .i64 0]) ∧ Below wr.heap.size wr w' from HD.out.mono fun e w' h => ⟨h.1.trans hres, h.2⟩)
        have hln : pre.length < (rns s).length := by rw [hx.out, hmo]; simp
        have HX := Lib.hid hmo
        have HY := Lib.hid (show ∀ w1, Below wr.heap.size wr w1 → YieldAt Fence.wide (n - 1) Tryd.prog l #[.int .i64 (r : Int), .int .i64 ((k : Int) + (d : Int))] w1 fun e W' =>
            (e = .returned (.bool true) ∧ J (pre ++ [(r, k + d)]) W' ∧ KpB n₀ Bn w1 W') ∨ (e = .returned (.bool false) ∧ Jx (pre ++ [(r, k + d)]) W') from
          fun w1 hb1 => by
            have := hY pre (r, k + d) w1 (hJb _ _ _ hJp hb1) hln
            rw [show encP (r, k + d) = #[.int .i64 (r : Int), .int .i64 ((k : Int) + (d : Int))] from by simp [encP]] at this
            exact this)
        clear HD hki hd hr hdd hmo hres hY hJb
        gi_wp2_with (refine ⟨trivial, ?_⟩; gi_at_call 7; refine (callsIn_wide.2 HD'.out).mono ?_; rintro e w1 ⟨rfl, hb1⟩; obtain ⟨fn, tmps, assign, body, hy, hR⟩ := HY.out w1 hb1)
        refine hR.mono ?_
        rintro e W3 (⟨rfl, hJ3, hk3⟩ | ⟨rfl, hJx3⟩)
        · gi_wp2
          go_roundw
          case rel => exact ⟨k + d, pre ++ [(r, k + d)], hkd, by go_num, by unfold Hid; rw [hx.out, HX.out]; simp, hJ3, (hbW.trans (hb1.mono (Nat.le_trans hn₀ hsz))).trans hk3.1, Nat.le_trans hsz (Nat.le_trans hb1.size hk3.1.size), by rw [hk3.2]; exact (hb1.cell (p := ⟨Bn, 0, none⟩) (Nat.lt_of_lt_of_le hB hsz)).trans hcB⟩
          case measure => simp [intOf]; omega
        · gi_wp2
          refine bodyPost_ret (results_none rfl _ _ _) rfl ?_
          exact ⟨⟨_, rfl⟩, .inr ⟨_, by rw [hx.out, HX.out]; exact ⟨rnA s (k + d), by simp⟩, hJx3⟩⟩
      · have hne : s.drop k ≠ [] := by intro e; have := congrArg List.length e; simp at this; omega
        have hx2 : rns s = pre := by rw [hx.out, rnA_end s k hd]; simp
        have HX := Lib.hid hx2
        have herr : ((dec (s.drop k)).2.2 = 6 ∨ (dec (s.drop k)).2.2 = 370) ∧ (dec (s.drop k)).1 = 0 ∧ (dec (s.drop k)).2.1 = 0 := by
          rcases dec_err _ hne with e | e | ⟨e, _⟩
          · exact absurd e hd
          · rw [e]; exact ⟨.inl rfl, rfl, rfl⟩
          · rw [e]; exact ⟨.inr rfl, rfl, rfl⟩
        obtain ⟨h6, z1, z2⟩ := herr
        have hres : Ending.returned (tup3 (decI s (k : Int))) = .returned (.tuple #[.int .i64 0, .int .i64 0, .int .i64 (((dec (s.drop k)).2.2 : Nat) : Int)]) := by
          rw [hki]; unfold tup3; rw [z1, z2]; rfl
        have HD' := Lib.hid (show Calls Tryd.prog 7 #[.slice va s.length cap, .int .i64 (k : Int)] wr fun e w' => e = .returned (.tuple #[.int .i64 0, .int .i64 0, .int .i64 (((dec (s.drop k)).2.2 : Nat) : Int)]) ∧ Below wr.heap.size wr w' from HD.out.mono fun e w' h => ⟨h.1.trans hres, h.2⟩)
        clear HD hki hd z1 z2 hres hY hx2
        rcases h6 with h6 | h6
        all_goals
          rw [h6] at HD'
          clear h6
          gi_wp2_with (refine ⟨trivial, ?_⟩; gi_at_call 7; refine (callsIn_wide.2 HD'.out).mono ?_; rintro e w1 ⟨rfl, hb1⟩)
          refine bodyPost_ret (results_none rfl _ _ _) rfl ?_
          exact ⟨⟨_, rfl⟩, .inl ⟨_, rfl, by rw [HX.out]; exact hJb _ _ _ hJp hb1⟩⟩
    · have hx2 : rns s = pre := by rw [hx.out, rnA_end s k (by rw [List.drop_eq_nil_of_le (by omega)]; decide)]; simp
      have HX := Lib.hid hx2
      clear hx2 hY
      gi_wp2
      go_end0
      exact ⟨⟨_, rfl⟩, .inl ⟨_, rfl, by rw [HX.out]; exact hJp⟩⟩

theorem runes_stops (n Bn n₀ : Nat) (hn : 1 ≤ n) (h4 : 4 ≤ n₀) (v : Value) (s : List UInt8) (hs : s.length ≤ 140737488351232) (w : World) (hn₀ : n₀ ≤ w.heap.size) (hL : Lay w) (hv : RdB n₀ w v s) (hB : Bn < w.heap.size) (hc : w.cell? ⟨Bn, 0, none⟩ = some v) :
    SeqStopsK Fence.wide n Tryd.prog 46 #[.pointer (some ⟨Bn, 0, none⟩)] encP (KpB n₀ Bn) (fun ys => ys = rns s) (fun pre => pre <+: rns s) (rns s).length w := by
  intro l J Jx W hW hJ _ hY h0
  exact runes1_in n l Bn n₀ hn h4 v s hs J Jx
    (fun pre A B h hb => hJ pre A B none h ⟨hb.os, hb.tape, hb.output, hb.size, fun k hk _ => hb.block k hk⟩ (fun r e => by cases e)) hY W (Nat.le_trans hn₀ hW.size) (hL.next hW) (hv.below (hW.mono hn₀)) (Nat.lt_of_lt_of_le hB hW.size)
    ((hW.cell (p := ⟨Bn, 0, none⟩) hB).trans hc) h0
end Go.Proofs.YtomffjaeafcpdaaDoor
