/- Check of arrays, of the code and of the reference. -/
import Derived.Test.YtpbfbejckhbijaaGreatDoorArA
import Derived.Test.YtpbfbejckhbijaaGreatDoorShZ
namespace Go.Proofs.YtpbfbejckhbijaaGreatDoor
open Go.RowKit

/-- An array, as a value. -/
abbrev A5 (k r a b : Int) (v : Value) : Value := .agg #[.int .i64 k, .int .i64 r, .int .i64 a, .int .i64 b, v]
/-- A block that holds an array. -/
def R5 (w : World) (g : Nat) (k r a b : Int) (v : Value) : Prop := w.heap[g]? = some (.cells #[.int .i64 k, .int .i64 r, .int .i64 a, .int .i64 b, v] 43 (0, 0))
section
variable {w : World} {g : Nat} {k r a b : Int} {v : Value}
theorem R5.c0 (h : R5 w g k r a b v) : w.cell? ⟨g, 0, none⟩ = some (.int .i64 k) := by unfold R5 at h; simp [World.cell?, h]
theorem R5.c1 (h : R5 w g k r a b v) : w.cell? ⟨g, 1, none⟩ = some (.int .i64 r) := by unfold R5 at h; simp [World.cell?, h]
theorem R5.c2 (h : R5 w g k r a b v) : w.cell? ⟨g, 2, none⟩ = some (.int .i64 a) := by unfold R5 at h; simp [World.cell?, h]
theorem R5.c3 (h : R5 w g k r a b v) : w.cell? ⟨g, 3, none⟩ = some (.int .i64 b) := by unfold R5 at h; simp [World.cell?, h]
theorem R5.c4 (h : R5 w g k r a b v) : w.cell? ⟨g, 4, none⟩ = some v := by unfold R5 at h; simp [World.cell?, h]
theorem R5.fr (h : R5 w g k r a b v) (i : Nat) : w.frozen? ⟨g, i, none⟩ = false := Lib.frozen_of_heap h i
theorem R5.lt (h : R5 w g k r a b v) : g < w.heap.size := by
  unfold R5 at h
  exact (Array.getElem?_eq_some_iff.1 h).1
theorem R5.below {w' : World} {B : Nat} (h : R5 w g k r a b v) (hg : g < B) (hb : Below B w w') : R5 w' g k r a b v := (hb.block g hg).trans h
theorem R5.next {w' : World} (h : R5 w g k r a b v) (hb : Below w.heap.size w w') : R5 w' g k r a b v := (hb.block g h.lt).trans h
theorem R5.new (w : World) (k r a b : Int) (v : Value) : R5 (w.alloc (.cells #[.int .i64 k, .int .i64 r, .int .i64 a, .int .i64 b, v] 43)) w.heap.size k r a b v := heap_alloc_last w _
theorem R5.alloc (h : R5 w g k r a b v) (o : Obj) : R5 (w.alloc o) g k r a b v := h.next ((Below.refl _ _).alloc (Nat.le_refl _) o)
end
theorem bel1 (w : World) (o : Obj) : Below w.heap.size w (w.alloc o) := (Below.refl _ _).alloc (Nat.le_refl _) o
/-- What a walk over an array keeps. -/
structure KA (w : World) (k r a b : Int) (v : Value) (z : List Int) (w' : World) : Prop where
  bel : Below w.heap.size w w'
  blk : R5 w' w.heap.size k r a b v
  rd : RdI w'.heap.size w' v z
  lay : Ru.Lay w'
theorem KA.next {w w' w'' : World} {k r a b : Int} {v : Value} {z : List Int} (h : KA w k r a b v z w') (hb : Below w'.heap.size w' w'') : KA w k r a b v z w'' :=
  ⟨h.bel.trans (hb.mono h.bel.size), h.blk.next hb, h.rd.next hb, h.lay.next hb⟩
theorem KA.new {w : World} {v : Value} {z : List Int} (k r a b : Int) (hw : Ru.Lay w) (hv : RdI w.heap.size w v z) : KA w k r a b v z (w.alloc (.cells #[.int .i64 k, .int .i64 r, .int .i64 a, .int .i64 b, v] 43)) :=
  ⟨bel1 _ _, R5.new _ _ _ _ _ _, hv.next (bel1 _ _), hw.alloc _⟩
/-- The same without the variables. -/
structure KR (w : World) (k r a b : Int) (v : Value) (z : List Int) (w' : World) : Prop where
  bel : Below w.heap.size w w'
  blk : R5 w' w.heap.size k r a b v
  rd : RdI w'.heap.size w' v z
theorem KR.next {w w' w'' : World} {k r a b : Int} {v : Value} {z : List Int} (h : KR w k r a b v z w') (hb : Below w'.heap.size w' w'') : KR w k r a b v z w'' :=
  ⟨h.bel.trans (hb.mono h.bel.size), h.blk.next hb, h.rd.next hb⟩
theorem KR.new {w : World} {v : Value} {z : List Int} (k r a b : Int) (hv : RdI w.heap.size w v z) : KR w k r a b v z (w.alloc (.cells #[.int .i64 k, .int .i64 r, .int .i64 a, .int .i64 b, v] 43)) :=
  ⟨bel1 _ _, R5.new _ _ _ _ _ _, hv.next (bel1 _ _)⟩
theorem Rd.cells {α : Type} {f : α → Value} {B : Nat} {w : World} {p : Option Addr} {n cap : Nat} {l : List α} (h : Rd f B w (.slice p n cap) l) (hne : l ≠ []) : ∃ b off, p = some ⟨b, off, none⟩ ∧ b < B ∧ ∀ j (hj : j < l.length), w.cell? ⟨b, off + j, none⟩ = some (f l[j]) := by
  obtain ⟨p', cap', h1, _, _, h3⟩ := h
  cases h1
  exact h3 hne
/-- Read as the runes' texts read it. -/
theorem Rd.ru {B : Nat} {w : World} {v : Value} {l : List Int} (h : RdI B w v l) : Ru.RdI B w v l := by
  obtain ⟨p, cap, h1, h2, _, h3⟩ := h
  exact ⟨p, cap, h1, h2, h3⟩

set_option maxHeartbeats 2000000 in
theorem acheck_any (A : Ar) (v : Value) (w : World) (hw : Ru.Lay w) (hv : RdI w.heap.size w v A.z) (hl : A.z.length ≤ 1000000) :
    Calls Tryz.prog 103 #[A5 A.k A.r A.a A.b v] w fun e w' => e = .returned (.int .i64 (ck A)) ∧ Below w.heap.size w w' := by
  obtain ⟨k, r, a, b, z⟩ := A
  simp only at hv hl ⊢
  have HK := Lib.hid (KA.new k r a b hw hv)
  have x0 := HK.out.blk.c0; have x1 := HK.out.blk.c1; have x2 := HK.out.blk.c2; have x3 := HK.out.blk.c3; have x4 := HK.out.blk.c4
  have HC := Lib.hid (fun W => cells_any r a b W)
  have HY : Hid (∀ W, Ru.Lay W → RdI W.heap.size W v z → Calls Tryz.prog 147 #[v] W fun e w' => ∃ u, e = .returned (.tuple #[u, .int .i64 (Ru.bytA z), .int .i64 ((Ru.bytE z : Nat) : Int)]) ∧ Below W.heap.size W w') := fun W h1 h2 => (Ru.bytes_any v z W h1 h2.ru hl).mono fun e w' ⟨u, h3, _, h4⟩ => ⟨u, h3, h4⟩
  obtain ⟨E, hE⟩ : ∃ E, ck ⟨k, r, a, b, z⟩ = E := ⟨_, rfl⟩
  rw [hE]
  unfold ck at hE
  simp only at hE
  obtain ⟨p, cap, rfl, hcap, hcap2, hcell⟩ := hv
  clear hcell hw
  by_cases hk : k ≠ 1 ∧ k ≠ 2
  · rw [if_pos hk] at hE
    obtain ⟨hk1, hk2⟩ := hk
    have k1 : (k != 1) = true := by simpa using hk1
    have k2 : (k != 2) = true := by simpa using hk2
    subst hE
    clear hk1 hk2
    go_enter Tryz.func103, Tryz.ntmps103
    go_wp2
    go_ret
    exact ⟨rfl, HK.out.bel⟩
  · rw [if_neg hk] at hE
    have hk' : k = 1 ∨ k = 2 := by omega
    clear hk
    by_cases hs : ckS r a b ≠ 0
    · rw [if_pos hs] at hE
      rw [hE] at HC hs
      have hs1 : (E != 0) = true := by simpa using hs
      clear hE hs
      rcases hk' with rfl | rfl
      all_goals
        go_enter Tryz.func103, Tryz.ntmps103
        go_wp2_with (go_at_call 146; refine (HC.out _).mono ?_; rintro e w' ⟨rfl, hb⟩; have HK2 := Lib.hid (HK.out.next hb); clear HK hb x0 x1 x2 x3 x4; have HK := HK2; clear HK2; have x0 := HK.out.blk.c0; have x1 := HK.out.blk.c1; have x2 := HK.out.blk.c2; have x3 := HK.out.blk.c3; have x4 := HK.out.blk.c4)
        go_ret
        exact ⟨rfl, HK.out.bel⟩
    · rw [if_neg hs] at hE
      have hs0 : ckS r a b = 0 := by omega
      have hcv : cV r a b = cn r a b := by unfold cV; rw [if_pos hs0]
      have hc4 : cn r a b ≤ 400 := by have := (ok_sh hs0).bd; omega
      rw [hs0, hcv] at HC
      clear hs hs0 hcv
      obtain ⟨c, hc⟩ : ∃ c, cn r a b = c := ⟨_, rfl⟩
      rw [hc] at hE HC hc4
      clear hc
      by_cases hn : (z.length : Int) ≠ c
      · rw [if_pos hn] at hE
        have hn1 : ((z.length : Int) != c) = true := by simpa using hn
        subst hE
        clear hn
        rcases hk' with rfl | rfl
        all_goals
          go_enter Tryz.func103, Tryz.ntmps103
          go_wp2_with (go_at_call 146; refine (HC.out _).mono ?_; rintro e w' ⟨rfl, hb⟩; have HK2 := Lib.hid (HK.out.next hb); clear HK hb x0 x1 x2 x3 x4; have HK := HK2; clear HK2; have x0 := HK.out.blk.c0; have x1 := HK.out.blk.c1; have x2 := HK.out.blk.c2; have x3 := HK.out.blk.c3; have x4 := HK.out.blk.c4)
          go_ret
          exact ⟨rfl, HK.out.bel⟩
      · rw [if_neg hn] at hE
        have hn1 : ((z.length : Int) != c) = false := by simpa using hn
        clear hn
        rcases hk' with rfl | rfl
        · rw [if_neg (by omega)] at hE
          subst hE
          go_enter Tryz.func103, Tryz.ntmps103
          go_wp2_with (go_at_call 146; refine (HC.out _).mono ?_; rintro e w' ⟨rfl, hb⟩; have HK2 := Lib.hid (HK.out.next hb); clear HK hb x0 x1 x2 x3 x4; have HK := HK2; clear HK2; have x0 := HK.out.blk.c0; have x1 := HK.out.blk.c1; have x2 := HK.out.blk.c2; have x3 := HK.out.blk.c3; have x4 := HK.out.blk.c4)
          go_ret
          exact ⟨rfl, HK.out.bel⟩
        · have hB : ((Ru.bytE z : Nat) : Int) = E := by
            have hz : z.length ≤ 2000 := by simp at hn1; omega
            cases hb : z.all Ru.isR
            · rw [hb, if_pos ⟨rfl, rfl⟩] at hE; rw [bytE_bad hb, ← hE]; rfl
            · rw [hb, if_neg (by simp)] at hE; rw [bytE_ok hb hz, ← hE]; rfl
          rw [hB] at HY
          clear hB hE
          go_enter Tryz.func103, Tryz.ntmps103
          go_wp2_with (first
            | (go_at_call 146; refine (HC.out _).mono ?_; rintro e w' ⟨rfl, hb⟩; have HK2 := Lib.hid (HK.out.next hb); clear HK hb x0 x1 x2 x3 x4; have HK := HK2; clear HK2; have x0 := HK.out.blk.c0; have x1 := HK.out.blk.c1; have x2 := HK.out.blk.c2; have x3 := HK.out.blk.c3; have x4 := HK.out.blk.c4)
            | (go_at_call 147; refine (HY.out _ HK.out.lay HK.out.rd).mono ?_; rintro e w' ⟨u, rfl, hb⟩; have HK2 := Lib.hid (HK.out.next hb); clear HK hb x0 x1 x2 x3 x4; have HK := HK2; clear HK2; have x0 := HK.out.blk.c0; have x1 := HK.out.blk.c1; have x2 := HK.out.blk.c2; have x3 := HK.out.blk.c3; have x4 := HK.out.blk.c4))
          go_ret
          exact ⟨rfl, HK.out.bel⟩

set_option maxHeartbeats 400000 in
theorem rune64_any (c : Int) (w : World) : Calls Tryz.prog 46 #[.int .i64 c] w fun e w' => e = .returned (.bool (Ru.isR c)) ∧ w = w' := by
  go_enter Tryz.func46, Tryz.ntmps46
  go_wp2
  all_goals (go_ret; exact ⟨ret_bool (by rw [Bool.eq_iff_iff]; simp [Ru.isR]; try omega), rfl⟩)
theorem all_take_succ {z : List Int} {i : Nat} (h : i < z.length) : (z.take (i + 1)).all Ru.isR = ((z.take i).all Ru.isR && Ru.isR z[i]) := by
  rw [List.take_succ_eq_append_getElem h, List.all_append]; simp
theorem all_bad_at {z : List Int} {i : Nat} (h : i < z.length) (hb : Ru.isR z[i] = false) : z.all Ru.isR = false := by
  rw [List.all_eq_false]
  exact ⟨z[i], List.getElem_mem h, by simp [hb]⟩

set_option maxHeartbeats 4000000 in
theorem archeck_any (A : Ar) (v : Value) (w : World) (hv : RdI w.heap.size w v A.z) (hl : A.z.length ≤ 1000000) :
    Calls Tryz.prog 27 #[A5 A.k A.r A.a A.b v] w fun e w' => e = .returned (.int .i64 (ck A)) ∧ Below w.heap.size w w' := by
  obtain ⟨k, r, a, b, z⟩ := A
  simp only at hv hl ⊢
  have HK := Lib.hid (KR.new k r a b hv)
  have x0 := HK.out.blk.c0; have x1 := HK.out.blk.c1; have x2 := HK.out.blk.c2; have x3 := HK.out.blk.c3; have x4 := HK.out.blk.c4
  have HC := Lib.hid (fun W => rcells_any r a b W)
  have HZ := Lib.hid (fun c W => rune64_any c W)
  obtain ⟨E, hE⟩ : ∃ E, ck ⟨k, r, a, b, z⟩ = E := ⟨_, rfl⟩
  rw [hE]
  unfold ck at hE
  simp only at hE
  obtain ⟨p, cap, rfl, hcap, hcap2, hcell⟩ := hv
  clear hcell
  by_cases hk : k ≠ 1 ∧ k ≠ 2
  · rw [if_pos hk] at hE
    obtain ⟨hk1, hk2⟩ := hk
    have k1 : (k != 1) = true := by simpa using hk1
    have k2 : (k != 2) = true := by simpa using hk2
    subst hE
    clear hk1 hk2
    go_enter Tryz.func27, Tryz.ntmps27
    go_wp2
    go_ret
    exact ⟨rfl, HK.out.bel⟩
  · rw [if_neg hk] at hE
    have hk' : k = 1 ∨ k = 2 := by omega
    clear hk
    by_cases hs : ckS r a b ≠ 0
    · rw [if_pos hs] at hE
      rw [hE] at HC hs
      have hs1 : (E == 0) = false := by simpa using hs
      clear hE hs
      rcases hk' with rfl | rfl
      all_goals
        go_enter Tryz.func27, Tryz.ntmps27
        go_wp2_with ((go_at_call 45; refine (HC.out _).mono ?_; rintro e w' ⟨rfl, hb⟩; have HK2 := Lib.hid (HK.out.next hb); clear HK hb x0 x1 x2 x3 x4; have HK := HK2; clear HK2; have x0 := HK.out.blk.c0; have x1 := HK.out.blk.c1; have x2 := HK.out.blk.c2; have x3 := HK.out.blk.c3; have x4 := HK.out.blk.c4))
        refine wp_loop_rounds 4 ?_
        rw [rounds_succ]
        by_cases h0 : (0 : Int) < (z.length : Int)
        · go_wp2
          go_ret
          exact ⟨rfl, HK.out.bel⟩
        · go_wp2
          go_ret
          exact ⟨rfl, HK.out.bel⟩
    · rw [if_neg hs] at hE
      have hs0 : ckS r a b = 0 := by omega
      have hcv : cV r a b = cn r a b := by unfold cV; rw [if_pos hs0]
      rw [hs0, hcv] at HC
      clear hs hs0 hcv
      obtain ⟨c, hc⟩ : ∃ c, cn r a b = c := ⟨_, rfl⟩
      rw [hc] at hE HC
      clear hc
      by_cases hn : (z.length : Int) ≠ c
      · rw [if_pos hn] at hE
        have hn1 : ((z.length : Int) != c) = true := by simpa using hn
        subst hE
        clear hn
        rcases hk' with rfl | rfl
        all_goals
          go_enter Tryz.func27, Tryz.ntmps27
          go_wp2_with ((go_at_call 45; refine (HC.out _).mono ?_; rintro e w' ⟨rfl, hb⟩; have HK2 := Lib.hid (HK.out.next hb); clear HK hb x0 x1 x2 x3 x4; have HK := HK2; clear HK2; have x0 := HK.out.blk.c0; have x1 := HK.out.blk.c1; have x2 := HK.out.blk.c2; have x3 := HK.out.blk.c3; have x4 := HK.out.blk.c4))
          refine wp_loop_rounds 4 ?_
          rw [rounds_succ]
          by_cases h0 : (0 : Int) < (z.length : Int)
          · go_wp2
            go_ret
            exact ⟨rfl, HK.out.bel⟩
          · go_wp2
            go_ret
            exact ⟨rfl, HK.out.bel⟩
      · rw [if_neg hn] at hE
        have hn1 : ((z.length : Int) != c) = false := by simpa using hn
        clear hn
        rcases hk' with rfl | rfl
        · rw [if_neg (by omega)] at hE
          subst hE
          go_enter Tryz.func27, Tryz.ntmps27
          go_wp2_with ((go_at_call 45; refine (HC.out _).mono ?_; rintro e w' ⟨rfl, hb⟩; have HK2 := Lib.hid (HK.out.next hb); clear HK hb x0 x1 x2 x3 x4; have HK := HK2; clear HK2; have x0 := HK.out.blk.c0; have x1 := HK.out.blk.c1; have x2 := HK.out.blk.c2; have x3 := HK.out.blk.c3; have x4 := HK.out.blk.c4))
          go_loopg [4, 5] z.length (fun g e i wr => ∃ j : Nat, j + g = z.length ∧ e = .int .i64 0 ∧ i = .int .i64 j ∧ wr = w')
          case atStart => exact ⟨0, by omega, rfl, rfl, rfl⟩
          case round =>
            obtain ⟨j, hj, rfl, rfl, rfl⟩ := hrel
            cases gk with
            | zero =>
              have hjz : ¬ ((j : Int) < (z.length : Int)) := by omega
              go_wp2
              go_ret
              exact ⟨rfl, HK.out.bel⟩
            | succ g =>
              have hjz : (j : Int) < (z.length : Int) := by omega
              go_wp2
              go_roundg g
              case measure => omega
              case rel => exact ⟨j + 1, by omega, rfl, by go_num, rfl⟩
        · go_enter Tryz.func27, Tryz.ntmps27
          go_wp2_with ((go_at_call 45; refine (HC.out _).mono ?_; rintro e w' ⟨rfl, hb⟩; have HK2 := Lib.hid (HK.out.next hb); clear HK hb x0 x1 x2 x3 x4; have HK := HK2; clear HK2; have x0 := HK.out.blk.c0; have x1 := HK.out.blk.c1; have x2 := HK.out.blk.c2; have x3 := HK.out.blk.c3; have x4 := HK.out.blk.c4))
          go_loopg [4, 5] (z.length + 1) (fun g e i wr => ∃ j : Nat, j ≤ z.length ∧ i = .int .i64 j ∧ wr = w' ∧ ((j + g = z.length + 1 ∧ e = .int .i64 0 ∧ (z.take j).all Ru.isR = true) ∨ (0 < g ∧ e = .int .i64 7 ∧ z.all Ru.isR = false)))
          case atStart => exact ⟨0, by omega, rfl, rfl, .inl ⟨by omega, rfl, rfl⟩⟩
          case round =>
            obtain ⟨j, hj, rfl, rfl, ⟨hg, rfl, hall⟩ | ⟨hg, rfl, hall⟩⟩ := hrel
            · have HA := Lib.hid hall
              clear hall
              by_cases hjl : j < z.length
              · have hjz : (j : Int) < (z.length : Int) := by omega
                obtain ⟨g, rfl⟩ : ∃ g', gk = g' + 2 := ⟨gk - 2, by omega⟩
                obtain ⟨bk, off, rfl, hbb, hc⟩ := HK.out.rd.cells (by intro e; rw [e] at hjl; simp at hjl)
                have x5 := hc j hjl
                have HT := Lib.hid (all_take_succ hjl)
                have HBd := Lib.hid (all_bad_at hjl)
                obtain ⟨c1, hc1⟩ : ∃ c1, z[j] = c1 := ⟨_, rfl⟩
                rw [hc1] at x5 HT HBd
                clear hc hc1
                cases hr : Ru.isR c1
                · have HR := Lib.hid hr
                  go_wp2_with (go_at_call 46; refine (HZ.out c1 _).mono ?_; rw [HR.out]; rintro e w2 ⟨rfl, rfl⟩)
                  go_roundg 1
                  case measure => omega
                  case rel => exact ⟨j + 1, by omega, by go_num, rfl, .inr ⟨by omega, rfl, HBd.out HR.out⟩⟩
                · have HR := Lib.hid hr
                  go_wp2_with (go_at_call 46; refine (HZ.out c1 _).mono ?_; rw [HR.out]; rintro e w2 ⟨rfl, rfl⟩)
                  go_roundg (g + 1)
                  case measure => omega
                  case rel => exact ⟨j + 1, by omega, by go_num, rfl, .inl ⟨by omega, rfl, by rw [HT.out, HA.out, HR.out]; rfl⟩⟩
              · have hjz : ¬ ((j : Int) < (z.length : Int)) := by omega
                go_wp2
                go_ret
                refine ⟨ret_i ?_, HK.out.bel⟩
                have := HA.out
                rw [List.take_of_length_le (by omega)] at this
                rw [← hE, this]; simp
            · by_cases hjl : j < z.length
              · have hjz : (j : Int) < (z.length : Int) := by omega
                have HA := Lib.hid hall
                clear hall
                go_wp2
                go_ret
                exact ⟨ret_i (by rw [← hE, HA.out]; simp), HK.out.bel⟩
              · have hjz : ¬ ((j : Int) < (z.length : Int)) := by omega
                have HA := Lib.hid hall
                clear hall
                go_wp2
                go_ret
                exact ⟨ret_i (by rw [← hE, HA.out]; simp), HK.out.bel⟩
end Go.Proofs.YtpbfbejckhbijaaGreatDoor
