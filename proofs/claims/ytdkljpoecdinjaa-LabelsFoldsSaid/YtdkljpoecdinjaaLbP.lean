/- The reference: Chain, Least. -/
import Derived.Test.YtdkljpoecdinjaaLbO
namespace Go.Proofs.Ytdkljpoecdinjaa
open Go.RowKit

theorem rd_cell {B b off n c : Nat} {W : World} {ls : List Nat} (h : RdN B W (.slice (some ⟨b, off, none⟩) n c) ls) (i : Nat) (hi : i < ls.length) : W.cell? ⟨b, off + i, none⟩ = some (vn ls[i]) := by
  obtain ⟨b', off', e, _, hx⟩ := h.at i hi
  cases e; exact hx
/-- What a region keeps that reads two places of a list. -/
def Kc (w : World) (vn vu lv : Value) (ns : List ByteArray) (up : List UInt8) (ls : List Nat) (p q : Addr) (x y : Nat) (W : World) : Prop :=
  Kl w vn vu lv ns up ls W ∧ W.cell? ⟨w.heap.size, 0, none⟩ = some vn ∧ W.cell? ⟨w.heap.size, 1, none⟩ = some vu ∧ W.cell? p = some (.int .i64 (x : Int)) ∧ W.cell? q = some (.int .i64 (y : Int))
section
variable {w : World} {vn vu : Value} {ns : List ByteArray} {up : List UInt8} {ls : List Nat} {b off c i k x y : Nat}
theorem kc5 {W : World} (h : Kl w vn vu (.slice (some ⟨b, off, none⟩) ls.length c) ns up ls W) (hi : i < ls.length) (hk : k < ls.length) (hx : ls[i] = x) (hy : ls[k] = y) :
    Kl w vn vu (.slice (some ⟨b, off, none⟩) ls.length c) ns up ls W ∧ W.cell? ⟨w.heap.size, 0, none⟩ = some vn ∧ W.cell? ⟨w.heap.size, 1, none⟩ = some vu ∧ W.cell? ⟨b, off + i, none⟩ = some (.int .i64 (x : Int)) ∧ W.cell? ⟨b, off + k, none⟩ = some (.int .i64 (y : Int)) :=
  ⟨h, h.1.x0, h.1.x1, by rw [← hx]; exact rd_cell h.2 i hi, by rw [← hy]; exact rd_cell h.2 k hk⟩
theorem kl_rd {lv : Value} {W : World} {p : Prop} (h : Kl w vn vu lv ns up ls W ∧ p) : RdL W.heap.size W (.agg #[vn, vu]) ns up := h.1.1.rd
theorem kl_next {lv : Value} {W W' : World} (h : Kl w vn vu lv ns up ls W) (hb : Below W.heap.size W W') : Kl w vn vu lv ns up ls W' := ⟨h.1.next hb, h.2.next hb⟩
theorem kc5n {W W' : World} {p : Prop} (h : Kl w vn vu (.slice (some ⟨b, off, none⟩) ls.length c) ns up ls W ∧ p) (hb : Below W.heap.size W W') (hi : i < ls.length) (hk : k < ls.length) (hx : ls[i] = x) (hy : ls[k] = y) :
    Kl w vn vu (.slice (some ⟨b, off, none⟩) ls.length c) ns up ls W' ∧ W'.cell? ⟨w.heap.size, 0, none⟩ = some vn ∧ W'.cell? ⟨w.heap.size, 1, none⟩ = some vu ∧ W'.cell? ⟨b, off + i, none⟩ = some (.int .i64 (x : Int)) ∧ W'.cell? ⟨b, off + k, none⟩ = some (.int .i64 (y : Int)) :=
  kc5 (kl_next h.1 hb) hi hk hx hy
theorem kc5d {W : World} (h : Kl w vn vu (.slice (some ⟨b, off, none⟩) ls.length c) ns up ls W) (hi : i < ls.length) (hk : k < ls.length) (hx : ls[i] = x) (hy : ls[k] = y) :
    Kl w vn vu (.slice (some ⟨b, off, none⟩) ls.length c) ns up ls W.drew ∧ W.drew.cell? ⟨w.heap.size, 0, none⟩ = some vn ∧ W.drew.cell? ⟨w.heap.size, 1, none⟩ = some vu ∧ W.drew.cell? ⟨b, off + i, none⟩ = some (.int .i64 (x : Int)) ∧ W.drew.cell? ⟨b, off + k, none⟩ = some (.int .i64 (y : Int)) :=
  kc5 (kl_next h (Below.refl _ _).drew) hi hk hx hy
end

/-- Whether two places of a list may be compared. -/
def cmI (up : List UInt8) (ls : List Nat) (i k : Nat) : Bool := le up (ls.getD i 0) (ls.getD k 0) || le up (ls.getD k 0) (ls.getD i 0)
def cmO (up : List UInt8) (ls : List Nat) (i : Nat) : Bool := (List.range i).all (cmI up ls i)
theorem cmI_get {up : List UInt8} {ls : List Nat} {i k : Nat} (hi : i < ls.length) (hk : k < ls.length) : cmI up ls i k = (le up ls[i] ls[k] || le up ls[k] ls[i]) := by
  unfold cmI; rw [List.getD_eq_getElem?_getD, List.getD_eq_getElem?_getD, List.getElem?_eq_getElem hi, List.getElem?_eq_getElem hk]; rfl
theorem cm_all {ns : List ByteArray} {up : List UInt8} {ls : List Nat} (hg : GL ns up ls) (h : (List.range ls.length).all (cmO up ls) = true) : chB up ls = true := by
  rw [chB_iff]
  have key : ∀ i k, i < ls.length → k < i → cmI up ls i k = true := fun i k hi hk =>
    List.all_eq_true.1 (List.all_eq_true.1 h i (List.mem_range.2 hi)) k (List.mem_range.2 hk)
  intro a ha b hb
  obtain ⟨i, hi, rfl⟩ := List.getElem_of_mem ha
  obtain ⟨k, hk, rfl⟩ := List.getElem_of_mem hb
  rcases Nat.lt_trichotomy i k with e | e | e
  · have := key k i hk e
    rw [cmI_get hk hi, Bool.or_eq_true] at this
    exact this
  · subst e; exact .inl (hg.good.ords.1.refl _ (hg.all _ ha))
  · have := key i k hi e
    rw [cmI_get hi hk, Bool.or_eq_true] at this
    exact this.symm
theorem cm_no {up : List UInt8} {ls : List Nat} {i k : Nat} (hi : i < ls.length) (hk : k < ls.length) (h : cmI up ls i k = false) : chB up ls = false := by
  rw [← Bool.not_eq_true, chB_iff]
  intro h2
  have h3 := h2 ls[i] (List.getElem_mem hi) ls[k] (List.getElem_mem hk)
  rw [cmI_get hi hk, Bool.or_eq_false_iff] at h
  rw [h.1, h.2] at h3
  rcases h3 with h3 | h3 <;> cases h3

set_option maxRecDepth 100000 in
set_option maxHeartbeats 8000000 in
theorem rchain_ok (v u : Value) (ns : List ByteArray) (up : List UInt8) (ls : List Nat) (w : World) (hv : RdL w.heap.size w v ns up) (hz : RdN w.heap.size w u ls) (hg : GL ns up ls) :
    Calls Try.prog 18 #[v, u] w fun e w' => e = .returned (.tuple #[.bool (chB up ls), .int .i64 0]) ∧ Below w.heap.size w w' := by
  have HL := Lib.hid hv
  obtain ⟨⟨vn, vu, rfl, hS, hB⟩, hsz⟩ := hv
  obtain ⟨q1, cap, rfl, hc, hc2, h⟩ := hS
  obtain ⟨q, cap', rfl, hc', hc2', h'⟩ := hB
  clear h h' hsz
  have HZ := Lib.hid hz
  obtain ⟨a, c, rfl, hl, hl2, h⟩ := hz
  clear h
  have HI := Lib.hid (Bx.new HL.out)
  have HG := Lib.hid hg
  have hu8 : up.length ≤ 8 := by have := hg.good.most; have := hg.good.len; omega
  have h64 := hg.most
  clear hg
  go_enter Try.func18, Try.ntmps18
  go_wp2_with (go_at_call 35; refine (rcheck4_ok _ _ ns up ls _ HI.out.rd (HZ.out.next HI.out.bel) HG.out).mono ?_; rintro e w1 ⟨rfl, hbn⟩; have HI2 := Lib.hid (HI.out.next hbn); clear HI hbn; have HI := HI2; clear HI2)
  go_loopg [8] ls.length (fun g i wr => ∃ j : Nat, j + g = ls.length ∧ i = .int .i64 j ∧ Kl w (.slice q1 ns.length cap) (.slice q up.length cap') (.slice a ls.length c) ns up ls wr ∧ Hid ((List.range j).all (cmO up ls) = true))
  case atStart => exact ⟨0, by omega, rfl, ⟨HI.out, HZ.out.next HI.out.bel⟩, rfl⟩
  case round =>
    clear HI
    obtain ⟨i, hig, rfl, hkl, hq⟩ := hrel
    have HK := Lib.hid hkl
    clear hkl
    cases gk with
    | zero =>
      have hiz : ¬ ((i : Int) < (ls.length : Int)) := by omega
      have HF : Hid (chB up ls = true) := cm_all HG.out (by
        have := hq.out
        rwa [show i = ls.length by omega] at this)
      clear hq
      go_wp2_with fail
      go_ret2
      exact ⟨ret_two (by rw [HF.out]; rfl) rfl, HK.out.1.bel⟩
    | succ g =>
      have hilt : (i : Int) < (ls.length : Int) := by omega
      have hi' : i < ls.length := by omega
      go_wp2_with fail
      go_loopg [9] i (fun g2 k wr => ∃ j : Nat, j + g2 = i ∧ k = .int .i64 j ∧ Kl w (.slice q1 ns.length cap) (.slice q up.length cap') (.slice a ls.length c) ns up ls wr ∧ Hid ((List.range j).all (cmI up ls i) = true))
      case atStart => exact ⟨0, by omega, rfl, HK.out, rfl⟩
      case round =>
        clear HK
        obtain ⟨k, hkg, rfl, hkl, hq2⟩ := hrel
        cases gk with
        | zero =>
          have hkz : ¬ ((k : Int) < (i : Int)) := by omega
          have HQ : Hid ((List.range (i + 1)).all (cmO up ls) = true) := all_succ hq.out (by
            have := hq2.out
            rw [show k = i by omega] at this
            exact this)
          have HK := Lib.hid hkl
          clear hkl
          go_wp2_with fail
          go_roundg g
          case measure => omega
          case rel => exact ⟨i + 1, by omega, by go_num, HK.out, HQ⟩
        | succ g3 =>
          have hklt : (k : Int) < (i : Int) := by omega
          have hk' : k < ls.length := by omega
          have hilt3 : (i : Int) < (ls.length : Int) := by omega
          have hklt3 : (k : Int) < (ls.length : Int) := by omega
          obtain ⟨b0, off, rfl, hlt0, V9⟩ := hkl.2.at i hi'
          clear V9
          have HN := Lib.hid (cmI_get (up := up) hi' hk')
          have HNo : Hid (cmI up ls i k = false → chB up ls = false) := cm_no hi' hk'
          have hxl := HG.out.all ls[i] (List.getElem_mem hi')
          have hyl := HG.out.all ls[k] (List.getElem_mem hk')
          obtain ⟨x, hx⟩ : ∃ x, ls[i] = x := ⟨_, rfl⟩
          obtain ⟨y, hy⟩ : ∃ y, ls[k] = y := ⟨_, rfl⟩
          have HX := Lib.hid hx
          have HY := Lib.hid hy
          rw [hx] at HN hxl
          rw [hy] at HN hyl
          clear hx hy
          have hS := hkl
          clear hkl
          cases c1 : le up x y with
          | true =>
            have HQ := Lib.hid (all_succ hq2.out (by rw [HN.out, c1]; rfl))
            have HB1 : Hid (∀ W, RdL W.heap.size W (.agg #[.slice q1 ns.length cap, .slice q up.length cap']) ns up → Calls Try.prog 28 #[.agg #[.slice q1 ns.length cap, .slice q up.length cap'], .int .i64 (x : Nat), .int .i64 (y : Nat)] W fun e w' => e = .returned (.bool true) ∧ Below W.heap.size W w') := fun W hW => by have := rbel_any _ ns up x y W hW (by omega) (by omega); rwa [c1] at this
            have HB2 := HB1
            clear c1
            go_wp2_with fail
            refine wp_region_held_drew (S := (fun W => Kl w (.slice q1 ns.length cap) (.slice q up.length cap') (.slice (some ⟨b0, off, none⟩) ls.length c) ns up ls W ∧ W.cell? ⟨w.heap.size, 0, none⟩ = some (.slice q1 ns.length cap) ∧ W.cell? ⟨w.heap.size, 1, none⟩ = some (.slice q up.length cap') ∧ W.cell? ⟨b0, off + i, none⟩ = some (.int .i64 (x : Int)) ∧ W.cell? ⟨b0, off + k, none⟩ = some (.int .i64 (y : Int)))) (by kernel_rfl) ?_ (fun hHeld => ?_)
            · exact kc5d hS hi' hk' HX.out HY.out
            refine wpAnyH_take (i := 0) (v := ?_) rfl (by kernel_rfl) (by kernel_rfl) (by kernel_rfl) (fun _ _ _ h => h) (Or.inl ⟨by rfl, ?_⟩) (by assumption) ?_
            rotate_left
            · ((intro w0 hSw); (try dsimp only at hSw); go_simp; (try with_reducible rfl))
            change wpAnyH _ _ _ _ _ _ _ (Act.put _ (some 30) _) _
            try simp only [Act.put, List.setIfInBounds_toArray, List.set_cons_zero, List.set_cons_succ]
            refine wpAnyH_take (i := 1) (v := ?_) rfl (by kernel_rfl) (by kernel_rfl) (by kernel_rfl) (fun _ _ _ h => h) (Or.inl ⟨by rfl, ?_⟩) (by assumption) ?_
            rotate_left
            · ((intro w0 hSw); (try dsimp only at hSw); go_simp; (try with_reducible rfl))
            change wpAnyH _ _ _ _ _ _ _ (Act.put _ (some 31) _) _
            try simp only [Act.put, List.setIfInBounds_toArray, List.set_cons_zero, List.set_cons_succ]
            refine wpAnyH_take (i := 2) (v := ?_) rfl (by kernel_rfl) (by kernel_rfl) (by kernel_rfl) (fun _ _ _ h => h) (Or.inl ⟨by rfl, ?_⟩) (by assumption) ?_
            rotate_left
            · ((intro w0 hSw); (try dsimp only at hSw); go_simp; (try with_reducible rfl))
            change wpAnyH _ _ _ _ _ _ _ (Act.put _ (some 32) _) _
            try simp only [Act.put, List.setIfInBounds_toArray, List.set_cons_zero, List.set_cons_succ]
            refine wpAnyH_take (i := 3) (v := ?_) rfl (by kernel_rfl) (by kernel_rfl) (by kernel_rfl) (fun _ _ _ h => h) (Or.inl ⟨by rfl, ?_⟩) (by assumption) ?_
            rotate_left
            · ((intro w0 hSw); (try dsimp only at hSw); go_simp; (try with_reducible rfl))
            change wpAnyH _ _ _ _ _ _ _ (Act.put _ (some 33) _) _
            try simp only [Act.put, List.setIfInBounds_toArray, List.set_cons_zero, List.set_cons_succ]
            refine wpAnyH_take (i := 4) (v := ?_) rfl (by kernel_rfl) (by kernel_rfl) (by kernel_rfl) (fun _ _ _ h => h) (Or.inl ⟨by rfl, ?_⟩) (by assumption) ?_
            rotate_left
            · ((intro w0 hSw); (try dsimp only at hSw); go_simp; (try with_reducible rfl))
            change wpAnyH _ _ _ _ _ _ _ (Act.put _ (some 34) _) _
            try simp only [Act.put, List.setIfInBounds_toArray, List.set_cons_zero, List.set_cons_succ]
            refine wpAnyH_take (i := 5) (v := ?_) rfl (by kernel_rfl) (by kernel_rfl) (by kernel_rfl) (fun _ _ _ h => h) (Or.inl ⟨by rfl, ?_⟩) (by assumption) ?_
            rotate_left
            · ((intro w0 hSw); (try dsimp only at hSw); go_simp; (try with_reducible rfl))
            change wpAnyH _ _ _ _ _ _ _ (Act.put _ (some 35) _) _
            try simp only [Act.put, List.setIfInBounds_toArray, List.set_cons_zero, List.set_cons_succ]
            refine wpAnyH_take (i := 6) (v := ?_) rfl (by kernel_rfl) (by kernel_rfl) (by kernel_rfl) (fun _ _ _ h => h) (Or.inl ⟨by rfl, ?_⟩) (by assumption) ?_
            rotate_left
            · ((intro w0 hSw); (try dsimp only at hSw); go_simp; (try with_reducible rfl))
            change wpAnyH _ _ _ _ _ _ _ (Act.put _ (some 36) _) _
            try simp only [Act.put, List.setIfInBounds_toArray, List.set_cons_zero, List.set_cons_succ]
            refine wpAnyH_take (i := 7) (v := ?_) rfl (by kernel_rfl) (by kernel_rfl) (by kernel_rfl) (fun _ _ _ h => h) (Or.inl ⟨by rfl, ?_⟩) (by assumption) ?_
            rotate_left
            · ((intro w0 hSw); (try dsimp only at hSw); go_simp; (try with_reducible rfl))
            change wpAnyH _ _ _ _ _ _ _ (Act.put _ (some 37) _) _
            try simp only [Act.put, List.setIfInBounds_toArray, List.set_cons_zero, List.set_cons_succ]
            refine wpAnyH_take (i := 8) (v := ?_) rfl (by kernel_rfl) (by kernel_rfl) (by kernel_rfl) (fun _ _ _ h => h) (Or.inl ⟨by rfl, ?_⟩) (by assumption) ?_
            rotate_left
            · ((intro w0 hSw); (try dsimp only at hSw); go_simp; (try with_reducible rfl))
            change wpAnyH _ _ _ _ _ _ _ (Act.put _ (some 38) _) _
            try simp only [Act.put, List.setIfInBounds_toArray, List.set_cons_zero, List.set_cons_succ]
            refine wpAnyH_ready (rs := [9]) (by kernel_rfl) (by simp) ?_
            refine AllReadyH.cons rfl (fun K hK => ?_) AllReadyH.nil
            go_simp
            go_at_call 28; (with_reducible refine (HB1.out _ (kl_rd (by assumption))).mono ?_); rintro e wn ⟨rfl, hbn⟩
            refine hK.out _ _ ?_ (fun hHeld2 => ?_)
            · exact kc5n (by assumption) hbn hi' hk' HX.out HY.out
            clear hK K hHeld
            have hHeld := hHeld2; clear hHeld2
            try change wpAnyH _ _ _ _ _ _ _ (Act.put _ (some 39) _) _
            try simp only [Act.put, List.setIfInBounds_toArray, List.set_cons_zero, List.set_cons_succ]
            refine wpAnyH_take (i := 10) (v := ?_) rfl (by kernel_rfl) (by kernel_rfl) (by kernel_rfl) (fun _ _ _ h => h) (Or.inl ⟨by rfl, ?_⟩) (by assumption) ?_
            rotate_left
            · ((intro w0 hSw); (try dsimp only at hSw); go_simp; (try with_reducible rfl))
            change wpAnyH _ _ _ _ _ _ _ (Act.put _ (some 40) _) _
            try simp only [Act.put, List.setIfInBounds_toArray, List.set_cons_zero, List.set_cons_succ]
            refine wpAnyH_take (i := 11) (v := ?_) rfl (by kernel_rfl) (by kernel_rfl) (by kernel_rfl) (fun _ _ _ h => h) (Or.inl ⟨by rfl, ?_⟩) (by assumption) ?_
            rotate_left
            · ((intro w0 hSw); (try dsimp only at hSw); go_simp; (try with_reducible rfl))
            change wpAnyH _ _ _ _ _ _ _ (Act.put _ (some 41) _) _
            try simp only [Act.put, List.setIfInBounds_toArray, List.set_cons_zero, List.set_cons_succ]
            refine wpAnyH_take (i := 12) (v := undef) rfl (by kernel_rfl) (by kernel_rfl) (by kernel_rfl) (fun _ _ _ h => h) (Or.inr ⟨by rfl, rfl⟩) (by assumption) ?_
            change wpAnyH _ _ _ _ _ _ _ (Act.put _ (some 42) _) _
            try simp only [Act.put, List.setIfInBounds_toArray, List.set_cons_zero, List.set_cons_succ]
            refine wpAnyH_take (i := 13) (v := undef) rfl (by kernel_rfl) (by kernel_rfl) (by kernel_rfl) (fun _ _ _ h => h) (Or.inr ⟨by rfl, rfl⟩) (by assumption) ?_
            change wpAnyH _ _ _ _ _ _ _ (Act.put _ (some 43) _) _
            try simp only [Act.put, List.setIfInBounds_toArray, List.set_cons_zero, List.set_cons_succ]
            refine wpAnyH_take (i := 14) (v := undef) rfl (by kernel_rfl) (by kernel_rfl) (by kernel_rfl) (fun _ _ _ h => h) (Or.inr ⟨by rfl, rfl⟩) (by assumption) ?_
            change wpAnyH _ _ _ _ _ _ _ (Act.put _ (some 44) _) _
            try simp only [Act.put, List.setIfInBounds_toArray, List.set_cons_zero, List.set_cons_succ]
            refine wpAnyH_take (i := 15) (v := undef) rfl (by kernel_rfl) (by kernel_rfl) (by kernel_rfl) (fun _ _ _ h => h) (Or.inr ⟨by rfl, rfl⟩) (by assumption) ?_
            change wpAnyH _ _ _ _ _ _ _ (Act.put _ (some 45) _) _
            try simp only [Act.put, List.setIfInBounds_toArray, List.set_cons_zero, List.set_cons_succ]
            refine wpAnyH_take (i := 16) (v := undef) rfl (by kernel_rfl) (by kernel_rfl) (by kernel_rfl) (fun _ _ _ h => h) (Or.inr ⟨by rfl, rfl⟩) (by assumption) ?_
            change wpAnyH _ _ _ _ _ _ _ (Act.put _ (some 46) _) _
            try simp only [Act.put, List.setIfInBounds_toArray, List.set_cons_zero, List.set_cons_succ]
            refine wpAnyH_take (i := 17) (v := undef) rfl (by kernel_rfl) (by kernel_rfl) (by kernel_rfl) (fun _ _ _ h => h) (Or.inr ⟨by rfl, rfl⟩) (by assumption) ?_
            change wpAnyH _ _ _ _ _ _ _ (Act.put _ (some 47) _) _
            try simp only [Act.put, List.setIfInBounds_toArray, List.set_cons_zero, List.set_cons_succ]
            refine wpAnyH_take (i := 18) (v := undef) rfl (by kernel_rfl) (by kernel_rfl) (by kernel_rfl) (fun _ _ _ h => h) (Or.inr ⟨by rfl, rfl⟩) (by assumption) ?_
            change wpAnyH _ _ _ _ _ _ _ (Act.put _ (some 48) _) _
            try simp only [Act.put, List.setIfInBounds_toArray, List.set_cons_zero, List.set_cons_succ]
            refine wpAnyH_take (i := 19) (v := undef) rfl (by kernel_rfl) (by kernel_rfl) (by kernel_rfl) (fun _ _ _ h => h) (Or.inr ⟨by rfl, rfl⟩) (by assumption) ?_
            change wpAnyH _ _ _ _ _ _ _ (Act.put _ (some 49) _) _
            try simp only [Act.put, List.setIfInBounds_toArray, List.set_cons_zero, List.set_cons_succ]
            refine wpAnyH_take (i := 20) (v := undef) rfl (by kernel_rfl) (by kernel_rfl) (by kernel_rfl) (fun _ _ _ h => h) (Or.inr ⟨by rfl, rfl⟩) (by assumption) ?_
            change wpAnyH _ _ _ _ _ _ _ (Act.put _ (some 50) _) _
            try simp only [Act.put, List.setIfInBounds_toArray, List.set_cons_zero, List.set_cons_succ]
            refine wpAnyH_take (i := 21) (v := undef) rfl (by kernel_rfl) (by kernel_rfl) (by kernel_rfl) (fun _ _ _ h => h) (Or.inr ⟨by rfl, rfl⟩) (by assumption) ?_
            change wpAnyH _ _ _ _ _ _ _ (Act.put _ (some 51) _) _
            try simp only [Act.put, List.setIfInBounds_toArray, List.set_cons_zero, List.set_cons_succ]
            refine wpAnyH_take (i := 22) (v := undef) rfl (by kernel_rfl) (by kernel_rfl) (by kernel_rfl) (fun _ _ _ h => h) (Or.inr ⟨by rfl, rfl⟩) (by assumption) ?_
            change wpAnyH _ _ _ _ _ _ _ (Act.put _ (some 52) _) _
            try simp only [Act.put, List.setIfInBounds_toArray, List.set_cons_zero, List.set_cons_succ]
            refine wpAnyH_take (i := 23) (v := ?_) rfl (by kernel_rfl) (by kernel_rfl) (by kernel_rfl) (fun _ _ _ h => h) (Or.inl ⟨by rfl, ?_⟩) (by assumption) ?_
            rotate_left
            · ((intro w0 hSw); (try dsimp only at hSw); go_simp; (try with_reducible rfl))
            change wpAnyH _ _ _ _ _ _ _ (Act.put _ (some 53) _) _
            try simp only [Act.put, List.setIfInBounds_toArray, List.set_cons_zero, List.set_cons_succ]
            refine wpAnyH_done (by kernel_rfl) ?_ _
            have HE := Lib.hid (by assumption : Kl _ _ _ _ _ _ _ _ ∧ _).1
            go_wp2_with fail
            go_roundg g3
            case measure => omega
            case rel => exact ⟨k + 1, by omega, by go_num, HE.out, HQ⟩
          | false =>
            cases c2 : le up y x with
            | true =>
              have HQ := Lib.hid (all_succ hq2.out (by rw [HN.out, c1, c2]; rfl))
              have HB1 : Hid (∀ W, RdL W.heap.size W (.agg #[.slice q1 ns.length cap, .slice q up.length cap']) ns up → Calls Try.prog 28 #[.agg #[.slice q1 ns.length cap, .slice q up.length cap'], .int .i64 (x : Nat), .int .i64 (y : Nat)] W fun e w' => e = .returned (.bool false) ∧ Below W.heap.size W w') := fun W hW => by have := rbel_any _ ns up x y W hW (by omega) (by omega); rwa [c1] at this
              have HB2 : Hid (∀ W, RdL W.heap.size W (.agg #[.slice q1 ns.length cap, .slice q up.length cap']) ns up → Calls Try.prog 28 #[.agg #[.slice q1 ns.length cap, .slice q up.length cap'], .int .i64 (y : Nat), .int .i64 (x : Nat)] W fun e w' => e = .returned (.bool true) ∧ Below W.heap.size W w') := fun W hW => by have := rbel_any _ ns up y x W hW (by omega) (by omega); rwa [c2] at this
              clear c1 c2
              go_wp2_with fail
              go_region_held3 (fun W => Kl w (.slice q1 ns.length cap) (.slice q up.length cap') (.slice (some ⟨b0, off, none⟩) ls.length c) ns up ls W ∧ W.cell? ⟨w.heap.size, 0, none⟩ = some (.slice q1 ns.length cap) ∧ W.cell? ⟨w.heap.size, 1, none⟩ = some (.slice q up.length cap') ∧ W.cell? ⟨b0, off + i, none⟩ = some (.int .i64 (x : Int)) ∧ W.cell? ⟨b0, off + k, none⟩ = some (.int .i64 (y : Int)))
                ((first | exact kc5n (by assumption) hbn hi' hk' HX.out HY.out | exact kc5d hS hi' hk' HX.out HY.out))
                (first
                  | (go_at_call 28; (with_reducible refine (HB1.out _ (kl_rd (by assumption))).mono ?_); rintro e wn ⟨rfl, hbn⟩)
                  | (go_at_call 28; (with_reducible refine (HB2.out _ (kl_rd (by assumption))).mono ?_); rintro e wn ⟨rfl, hbn⟩))
              have HE := Lib.hid (by assumption : Kl _ _ _ _ _ _ _ _ ∧ _).1
              go_wp2_with fail
              go_roundg g3
              case measure => omega
              case rel => exact ⟨k + 1, by omega, by go_num, HE.out, HQ⟩
            | false =>
              have HF := Lib.hid (HNo.out (by rw [HN.out, c1, c2]; rfl))
              have HB1 : Hid (∀ W, RdL W.heap.size W (.agg #[.slice q1 ns.length cap, .slice q up.length cap']) ns up → Calls Try.prog 28 #[.agg #[.slice q1 ns.length cap, .slice q up.length cap'], .int .i64 (x : Nat), .int .i64 (y : Nat)] W fun e w' => e = .returned (.bool false) ∧ Below W.heap.size W w') := fun W hW => by have := rbel_any _ ns up x y W hW (by omega) (by omega); rwa [c1] at this
              have HB2 : Hid (∀ W, RdL W.heap.size W (.agg #[.slice q1 ns.length cap, .slice q up.length cap']) ns up → Calls Try.prog 28 #[.agg #[.slice q1 ns.length cap, .slice q up.length cap'], .int .i64 (y : Nat), .int .i64 (x : Nat)] W fun e w' => e = .returned (.bool false) ∧ Below W.heap.size W w') := fun W hW => by have := rbel_any _ ns up y x W hW (by omega) (by omega); rwa [c2] at this
              clear c1 c2
              go_wp2_with fail
              go_region_held3 (fun W => Kl w (.slice q1 ns.length cap) (.slice q up.length cap') (.slice (some ⟨b0, off, none⟩) ls.length c) ns up ls W ∧ W.cell? ⟨w.heap.size, 0, none⟩ = some (.slice q1 ns.length cap) ∧ W.cell? ⟨w.heap.size, 1, none⟩ = some (.slice q up.length cap') ∧ W.cell? ⟨b0, off + i, none⟩ = some (.int .i64 (x : Int)) ∧ W.cell? ⟨b0, off + k, none⟩ = some (.int .i64 (y : Int)))
                ((first | exact kc5n (by assumption) hbn hi' hk' HX.out HY.out | exact kc5d hS hi' hk' HX.out HY.out))
                (first
                  | (go_at_call 28; (with_reducible refine (HB1.out _ (kl_rd (by assumption))).mono ?_); rintro e wn ⟨rfl, hbn⟩)
                  | (go_at_call 28; (with_reducible refine (HB2.out _ (kl_rd (by assumption))).mono ?_); rintro e wn ⟨rfl, hbn⟩))
              have HE := Lib.hid (by assumption : Kl _ _ _ _ _ _ _ _ ∧ _).1
              go_wp2_with fail
              go_ret2
              exact ⟨ret_two (by rw [HF.out]; rfl) rfl, HE.out.1.bel⟩
end Go.Proofs.Ytdkljpoecdinjaa
