/- isStep, Covers. -/
import Derived.Test.YtdgnogkdiakjoaaLtH
import Derived.Laws.AppendOwnNone
import Derived.OwnWalk
namespace Go.Proofs.Ytdgnogkdiakjoaa
open Go.RowKit

def st1 (up : List UInt8) (a b c : Nat) : Bool := !((c : Int) == (a : Int)) && !((c : Int) == (b : Int)) && le up a c && le up c b
def st (up : List UInt8) (a b : Nat) : Bool := !((a : Int) == (b : Int)) && le up a b && !(List.range up.length).any (st1 up a b)
theorem st1_f {up : List UInt8} {a b c : Nat} (h : ((c : Int) != (a : Int)) = false ∨ ((c : Int) != (b : Int)) = false ∨ le up a c = false ∨ le up c b = false) : st1 up a b c = false := by
  unfold st1
  rcases h with h | h | h | h
  · rw [show ((c : Int) == (a : Int)) = true by simpa [bne] using h]; rfl
  · rw [show ((c : Int) == (b : Int)) = true by simpa [bne] using h]; simp
  · rw [h]; simp
  · rw [h]; simp
theorem st1_t {up : List UInt8} {a b c : Nat} (h1 : ((c : Int) != (a : Int)) = true) (h2 : ((c : Int) != (b : Int)) = true) (h3 : le up a c = true) (h4 : le up c b = true) : st1 up a b c = true := by
  unfold st1
  rw [show ((c : Int) == (a : Int)) = false by simpa [bne] using h1, show ((c : Int) == (b : Int)) = false by simpa [bne] using h2, h3, h4]; rfl

set_option maxRecDepth 100000 in
set_option maxHeartbeats 2000000 in
theorem isStep_any (v : Value) (up : List UInt8) (a b : Nat) (w : World) (hv : RdB w.heap.size w v up) (ha : a < up.length) (hb : b < up.length) (hl : up.length ≤ 8) :
    Calls Try.prog 21 #[v, .int .i64 a, .int .i64 b] w fun e w' => e = .returned (.bool (st up a b)) ∧ w = w' := by
  have HV := Lib.hid hv
  obtain ⟨p, cap, rfl, hc, hc2, h⟩ := hv
  clear h
  cases e0 : ((a : Int) == (b : Int)) with
  | true =>
    have HK : Hid (st up a b = false) := by unfold Hid st; rw [e0]; rfl
    go_enter Try.func21, Try.ntmps21
    go_wp2_with (go_at_call 22; refine (up_any _ up _ _ w.heap.size _ HV.out (by omega) (by omega)).mono ?_; rintro e w' ⟨rfl, rfl⟩)
    go_ret
    exact ⟨ret_bool HK.out.symm, rfl⟩
  | false =>
    cases e1 : le up a b with
    | false =>
      have HK : Hid (st up a b = false) := by unfold Hid st; rw [e0, e1]; rfl
      go_enter Try.func21, Try.ntmps21
      go_wp2_with (go_at_call 22; refine (up_any _ up _ _ w.heap.size _ HV.out (by omega) (by omega)).mono ?_; rintro e w' ⟨rfl, rfl⟩)
      go_ret
      exact ⟨ret_bool HK.out.symm, rfl⟩
    | true =>
      have HY : Hid (st up a b = !(List.range up.length).any (st1 up a b)) := by unfold Hid st; rw [e0, e1]; rfl
      go_enter Try.func21, Try.ntmps21
      go_wp2_with (go_at_call 22; refine (up_any _ up _ _ w.heap.size _ HV.out (by omega) (by omega)).mono ?_; rintro e w' ⟨rfl, rfl⟩)
      clear e0 e1
      go_loopg [20] up.length (fun g i wr => ∃ k : Nat, k + g = up.length ∧ i = .int .i64 k ∧ w = wr ∧ Hid ((List.range k).any (st1 up a b) = false))
      case atStart => exact ⟨0, by omega, rfl, rfl, rfl⟩
      case round =>
        obtain ⟨k, hkg, rfl, rfl, hq⟩ := hrel
        cases gk with
        | zero =>
          have hkz : ¬ ((k : Int) < (up.length : Int)) := by omega
          have HM : Hid (st up a b = true) := by
            have := hq.out
            rw [show k = up.length by omega] at this
            unfold Hid; rw [HY.out, this]; rfl
          clear hq
          go_wp2
          go_ret
          exact ⟨ret_bool HM.out.symm, rfl⟩
        | succ g =>
          have hlt : (k : Int) < (up.length : Int) := by omega
          have HF : Hid (st1 up a b k = true → st up a b = false) := by intro h; rw [HY.out, any_at h (by omega)]; rfl
          have HN : Hid (st1 up a b k = false → (List.range (k + 1)).any (st1 up a b) = false) := fun h => any_succ hq.out h
          cases c1 : ((k : Int) != (a : Int)) with
          | false =>
            have HB := Lib.hid (HN.out (st1_f (.inl c1)))
            go_wp2_with (go_at_call 22; refine (up_any _ up _ _ w.heap.size _ HV.out (by omega) (by omega)).mono ?_; rintro e w' ⟨rfl, rfl⟩)
            go_roundg g
            case measure => omega
            case rel => exact ⟨k + 1, by omega, by go_num, rfl, HB⟩
          | true =>
            cases c2 : ((k : Int) != (b : Int)) with
            | false =>
              have HB := Lib.hid (HN.out (st1_f (.inr (.inl c2))))
              go_wp2_with (go_at_call 22; refine (up_any _ up _ _ w.heap.size _ HV.out (by omega) (by omega)).mono ?_; rintro e w' ⟨rfl, rfl⟩)
              go_roundg g
              case measure => omega
              case rel => exact ⟨k + 1, by omega, by go_num, rfl, HB⟩
            | true =>
              cases c3 : le up a k with
              | false =>
                have HB := Lib.hid (HN.out (st1_f (.inr (.inr (.inl c3)))))
                go_wp2_with (go_at_call 22; refine (up_any _ up _ _ w.heap.size _ HV.out (by omega) (by omega)).mono ?_; rintro e w' ⟨rfl, rfl⟩)
                go_roundg g
                case measure => omega
                case rel => exact ⟨k + 1, by omega, by go_num, rfl, HB⟩
              | true =>
                cases c4 : le up k b with
                | false =>
                  have HB := Lib.hid (HN.out (st1_f (.inr (.inr (.inr c4)))))
                  go_wp2_with (go_at_call 22; refine (up_any _ up _ _ w.heap.size _ HV.out (by omega) (by omega)).mono ?_; rintro e w' ⟨rfl, rfl⟩)
                  go_roundg g
                  case measure => omega
                  case rel => exact ⟨k + 1, by omega, by go_num, rfl, HB⟩
                | true =>
                  have HB := Lib.hid (HF.out (st1_t c1 c2 c3 c4))
                  go_wp2_with (go_at_call 22; refine (up_any _ up _ _ w.heap.size _ HV.out (by omega) (by omega)).mono ?_; rintro e w' ⟨rfl, rfl⟩)
                  go_ret
                  exact ⟨ret_bool HB.out.symm, rfl⟩

/-! Pairs. -/
def pv (x : Nat × Nat) : List Value := [.int .i64 (x.1 : Int), .int .i64 (x.2 : Int)]
def covR (up : List UInt8) (a k : Nat) : List (Nat × Nat) := ((List.range k).filter (st up a)).map fun b => (a, b)
def cov (up : List UInt8) (k : Nat) : List (Nat × Nat) := (List.range k).flatMap fun a => covR up a up.length
theorem covR_yes {up : List UInt8} {a k : Nat} (h : st up a k = true) : covR up a (k + 1) = covR up a k ++ [(a, k)] := by
  unfold covR; rw [List.range_succ, List.filter_append]; simp [h]
theorem covR_no {up : List UInt8} {a k : Nat} (h : st up a k = false) : covR up a (k + 1) = covR up a k := by
  unfold covR; rw [List.range_succ, List.filter_append]; simp [h]
theorem covR_len (up : List UInt8) (a k : Nat) : (covR up a k).length ≤ k := by
  unfold covR; rw [List.length_map]
  have := List.length_filter_le (st up a) (List.range k)
  rwa [List.length_range] at this
theorem cov_succ (up : List UInt8) (k : Nat) : cov up (k + 1) = cov up k ++ covR up k up.length := by
  unfold cov; rw [List.range_succ, List.flatMap_append]; simp
theorem cov_len (up : List UInt8) (k : Nat) : (cov up k).length ≤ k * up.length := by
  induction k with
  | zero => simp [cov]
  | succ k ih =>
    rw [cov_succ, List.length_append, Nat.add_mul]
    have := covR_len up k up.length
    omega

/-- Pairs that can be read. -/
def RdP (B : Nat) (w : World) (v : Value) (l : List (Nat × Nat)) : Prop :=
  ∃ a cap, v = .slice a l.length cap ∧ l.length ≤ cap ∧ (l ≠ [] → ∃ b off, a = some ⟨b, off, none⟩ ∧ b < B ∧ ∀ j (h : j < l.length), w.cell? ⟨b, off + j * 2, none⟩ = some (.int .i64 (l[j].1 : Int)) ∧ w.cell? ⟨b, off + j * 2 + 1, none⟩ = some (.int .i64 (l[j].2 : Int)))
theorem RdP.next {w w' : World} {v : Value} {l : List (Nat × Nat)} (h : RdP w.heap.size w v l) (hb : Below w.heap.size w w') : RdP w'.heap.size w' v l := by
  obtain ⟨a, cap, hv, hc, h⟩ := h
  refine ⟨a, cap, hv, hc, fun hn => ?_⟩
  obtain ⟨b, off, ha, hlt, hcell⟩ := h hn
  exact ⟨b, off, ha, Nat.lt_of_lt_of_le hlt hb.size, fun j hj => ⟨(hb.cell (p := ⟨b, off + j * 2, none⟩) hlt).trans (hcell j hj).1, (hb.cell (p := ⟨b, off + j * 2 + 1, none⟩) hlt).trans (hcell j hj).2⟩⟩
/-- A row of pairs of the call's own. -/
def Prs (w : World) (base : Nat) (v : Value) (l : List (Nat × Nat)) : Prop := w.ownsRow base 44 2 v l.length (l.flatMap pv)
theorem flat_at (l : List (Nat × Nat)) : ∀ (j : Nat) (h : j < l.length), (l.flatMap pv)[j * 2]? = some (.int .i64 (l[j].1 : Int)) ∧ (l.flatMap pv)[j * 2 + 1]? = some (.int .i64 (l[j].2 : Int)) := by
  induction l with
  | nil => intro j h; simp at h
  | cons f r ih =>
    intro j h
    cases j with
    | zero => exact ⟨rfl, rfl⟩
    | succ j =>
      have := ih j (by simpa using h)
      rw [show (j + 1) * 2 = j * 2 + 1 + 1 from by omega]
      exact this
theorem Prs.rd {w : World} {base : Nat} {v : Value} {l : List (Nat × Nat)} (h : Prs w base v l) : RdP w.heap.size w v l := by
  obtain ⟨h1, h2⟩ := h
  rcases h2 with ⟨rfl, hl⟩ | ⟨g, cap, cur, rfl, hg, hh, hc, hm, hs, ht⟩
  · have : l = [] := List.eq_nil_of_length_eq_zero hl
    subst this
    exact ⟨none, 0, rfl, Nat.le_refl _, fun h => absurd rfl h⟩
  · refine ⟨_, cap, rfl, hc, fun _ => ⟨g, 0, rfl, (Array.getElem?_eq_some_iff.1 hh).1, fun j hj => ?_⟩⟩
    have hf := flat_at l j hj
    rw [← ht, List.getElem?_take, if_pos (by omega), List.getElem?_take, if_pos (by omega)] at hf
    rw [Nat.zero_add, cell_of_block hh, cell_of_block hh]
    simpa using hf
theorem info55 : (Try.prog.info? 44).map (fun i => (i.zero, i.size, i.bytes)) = some (some (.agg #[.int .i64 0, .int .i64 0]), 2, 16) := by kernel_rfl
theorem prs_snoc {w : World} {base : Nat} {v : Value} {l : List (Nat × Nat)} {a b : Nat} (h : w.ownsRow base 44 2 v (l.length + 1) (l.flatMap pv ++ [.int .i64 (a : Int), .int .i64 (b : Int)])) : Prs w base v (l ++ [(a, b)]) := by
  unfold Prs; rw [List.length_append, List.flatMap_append]; exact h
/-- What stands at the head of a new block. -/
theorem cells_new (w : World) (cs : Array Value) (t : TypeId) (z : Nat × Nat) : ∀ j u, cs.toList[j]? = some u → (w.alloc (.cells cs t z)).cell? ((⟨w.heap.size, 0, none⟩ : Addr).add j) = some u := by
  intro j u h
  have e : (⟨w.heap.size, 0, none⟩ : Addr).add j = ⟨w.heap.size, j, none⟩ := by simp [Addr.add]; intro h; exact h.symm
  rw [e]
  have h2 : (w.alloc (.cells cs t z)).heap[w.heap.size]? = some (.cells cs t z) := heap_new w _
  rw [cell_of_block h2 j]
  simpa using h

set_option maxRecDepth 100000 in
set_option maxHeartbeats 4000000 in
theorem covers_ok (v : Value) (ns : List ByteArray) (up : List UInt8) (w : World) (hv : RdL w.heap.size w v ns up) (hg : Good ns up) :
    Calls Try.prog 12 #[v] w fun e w' => ∃ u, e = .returned (.tuple #[u, .int .i64 0]) ∧ RdP w'.heap.size w' u (cov up up.length) ∧ Below w.heap.size w w' := by
  have HL := Lib.hid hv
  obtain ⟨⟨vn, vu, rfl, hS, hB⟩, hsz⟩ := hv
  have HB := Lib.hid hB
  obtain ⟨p, cap, rfl, hc, hc2, h⟩ := hS
  obtain ⟨q, cap', rfl, hc', hc2', h'⟩ := hB
  clear h h' hsz
  have hu8 : up.length ≤ 8 := by have := hg.most; have := hg.len; omega
  have hu0 : 0 < up.length := by have := hg.pos; have := hg.len; omega
  have H0 := Lib.hid hg.ck
  clear hg
  obtain ⟨i0, hi, hz0, hz1, hz2⟩ := info_parts info55
  go_enter Try.func12, Try.ntmps12
  go_wp2_with (first
    | (go_at_call 6; refine (check_any _ ns up _ (HL.out.al _)).mono ?_; rw [H0.out]; rintro e w1 ⟨rfl, hbw⟩; have hx0 := box_cell hbw 0 rfl; have hx1 := box_cell hbw 1 rfl; have HU := Lib.hid ((HB.out.al _).next hbw)))
  have HBW := Lib.hid (bel2 hbw)
  clear hbw hx0 hx1
  go_loopg [7, 22] up.length (fun g v i wr => ∃ k : Nat, k + g = up.length ∧ i = .int .i64 k ∧ Below w1.heap.size w1 wr ∧ Prs wr w1.heap.size v (cov up k))
  case atStart => exact ⟨0, by omega, rfl, Below.refl _ _, World.ownsRow_nil _ _ _ _⟩
  case round =>
    obtain ⟨k, hkg, rfl, hbl, hrow⟩ := hrel
    cases gk with
    | zero =>
      have hkz : ¬ ((k : Int) < (up.length : Int)) := by omega
      have HK : Hid (k = up.length) := by unfold Hid; omega
      go_wp2
      go_ret2
      exact ⟨_, rfl, by rw [← HK.out]; exact hrow.rd, HBW.out.trans (hbl.mono HBW.out.size)⟩
    | succ g =>
      have hlt : (k : Int) < (up.length : Int) := by omega
      have hcl := cov_len up k
      have hcm : k * up.length ≤ 64 := Nat.le_trans (Nat.mul_le_mul (by omega : k ≤ 8) hu8) (by decide)
      have hck : (cov up k).length ≤ 64 := by omega
      clear hcl hcm
      go_wp2
      go_loopg [7, 27] up.length (fun g v i wr => ∃ j : Nat, j + g = up.length ∧ i = .int .i64 j ∧ Below w1.heap.size w1 wr ∧ Prs wr w1.heap.size v (cov up k ++ covR up k j))
      case atStart => exact ⟨0, by omega, rfl, hbl, by simpa [covR] using hrow⟩
      case round =>
        obtain ⟨j, hjg, rfl, hbj, hrj⟩ := hrel
        cases gk with
        | zero =>
          have hjz : ¬ ((j : Int) < (up.length : Int)) := by omega
          have HJ : Hid (j = up.length) := by unfold Hid; omega
          go_wp2
          go_roundg g
          case measure => omega
          case rel => exact ⟨k + 1, by omega, by go_num, hbj, by rw [cov_succ, ← HJ.out]; exact hrj⟩
        | succ g3 =>
          have hjlt : (j : Int) < (up.length : Int) := by omega
          have hsz := hbj.size
          have HUj := Lib.hid (HU.out.next hbj)
          cases c1 : st up k j with
          | false =>
            have HR : Hid (covR up k (j + 1) = covR up k j) := covR_no c1
            go_wp2_with (go_at_call 21; refine (isStep_any _ up _ _ _ HUj.out (by omega) (by omega) hu8).mono ?_; rintro e w' ⟨rfl, rfl⟩)
            go_roundg g3
            case measure => omega
            case rel => exact ⟨j + 1, by omega, by go_num, hbj, by rw [HR.out]; exact hrj⟩
          | true =>
            have HR : Hid (covR up k (j + 1) = covR up k j ++ [(k, j)]) := covR_yes c1
            have hlj := covR_len up k j
            have hln : (cov up k ++ covR up k j).length ≤ 72 := by rw [List.length_append]; omega
            generalize hL : cov up k ++ covR up k j = L at hrj hln
            have HLL := Lib.hid hL; clear hL hlj
            go_wp2_with (first
              | (go_at_call 21; refine (isStep_any _ up _ _ _ HUj.out (by omega) (by omega) hu8).mono ?_; rintro e w' ⟨rfl, rfl⟩)
              | (at_builtin; refine wpList_append_own _ rfl _ _ 37 rfl w1.heap.size 44 i0 (.agg #[.int .i64 0, .int .i64 0]) 2 16 Try.underlying37 hi hz0 hz1 hz2 rfl (by decide) _ _ _ rfl (World.ownsRow.alloc hrj _) ⟨wr.heap.size, 0, none⟩ 1 1 [.int .i64 k, .int .i64 j] rfl rfl (cells_new wr #[.int .i64 k, .int .i64 j] _ _) (by simp [Value.oneCell']) (by unfold maxLen; omega) (by omega) (by simp; omega) ?_; intro v4 w4 hown4 hgrow4 _))
            go_roundg g3
            case measure => omega
            case rel => exact ⟨j + 1, by omega, by go_num, (hbj.alloc (by omega) _).grown hgrow4 (by simp; omega) (fun j e => (World.ownsRow.lt hrj j e).1), by rw [HR.out, ← List.append_assoc, HLL.out]; exact prs_snoc hown4⟩
end Go.Proofs.Ytdgnogkdiakjoaa
