/- Lens of shapes, of the code and of the reference. -/
import Derived.Test.YtdbampgbbghfkaaDoorShH
import Derived.Laws.CopyOwn
import Derived.Laws.IdiomCopy
namespace Go.Proofs.YtdbampgbbghfkaaDoor
open Go.RowKit

/-- A slice value that reads as a list; its block lies below B. -/
def Rd {α : Type} (f : α → Value) (B : Nat) (w : World) (v : Value) (l : List α) : Prop :=
  ∃ a cap, v = .slice a l.length cap ∧ l.length ≤ cap ∧ cap ≤ 9223372036854775807 ∧ (l ≠ [] → ∃ b off, a = some ⟨b, off, none⟩ ∧ b < B ∧ ∀ j (h : j < l.length), w.cell? ⟨b, off + j, none⟩ = some (f l[j]))
abbrev vi (z : Int) : Value := .int .i64 z
abbrev RdI := Rd vi
theorem Rd.below {α : Type} {f : α → Value} {B : Nat} {w w' : World} {v : Value} {l : List α} (h : Rd f B w v l) (hb : Below B w w') : Rd f B w' v l := by
  obtain ⟨a, cap, hv, hc, hc2, h⟩ := h
  refine ⟨a, cap, hv, hc, hc2, fun hn => ?_⟩
  obtain ⟨b, off, ha, hlt, hcell⟩ := h hn
  exact ⟨b, off, ha, hlt, fun j hj => (hb.cell (p := ⟨b, off + j, none⟩) hlt).trans (hcell j hj)⟩
theorem Rd.mono {α : Type} {f : α → Value} {B B' : Nat} {w : World} {v : Value} {l : List α} (h : Rd f B w v l) (hb : B ≤ B') : Rd f B' w v l := by
  obtain ⟨a, cap, hv, hc, hc2, h⟩ := h
  refine ⟨a, cap, hv, hc, hc2, fun hn => ?_⟩
  obtain ⟨b, off, ha, hlt, hcell⟩ := h hn
  exact ⟨b, off, ha, Nat.lt_of_lt_of_le hlt hb, hcell⟩
theorem Rd.next {α : Type} {f : α → Value} {w w' : World} {v : Value} {l : List α} (h : Rd f w.heap.size w v l) (hb : Below w.heap.size w w') : Rd f w'.heap.size w' v l :=
  (h.below hb).mono hb.size
theorem szi : (Tryd.prog.info? 3).map (·.size) = some 1 := by kernel_rfl
theorem cell_old (w : World) (o : Obj) {b : Nat} (h : b < w.heap.size) {i : Nat} : (w.alloc o).cell? ⟨b, i, none⟩ = w.cell? ⟨b, i, none⟩ :=
  ((Below.refl w.heap.size w).alloc (Nat.le_refl _) o).cell (p := ⟨b, i, none⟩) h
theorem copy0 (w : World) (a : Option Addr) (cap : Nat) : (Builtin.copy_ #[59, 59] 3 #[.slice (some ⟨w.heap.size, 0, none⟩) 2 2, .slice a 0 cap]).run Tryd.prog (w.alloc (.cells #[.int .i64 0, .int .i64 0] 25)) =
    .ok (.int .i64 0) (w.alloc (.cells #[.int .i64 0, .int .i64 0] 25)) := run_copy_none _ _ _ _ _ _ _ _ _ _ _ Tryd.underlying59 szi rfl
theorem copy1 (w : World) {bk off cap : Nat} {x : Int} (hbk : bk < w.heap.size) (u0 : w.cell? ⟨bk, off, none⟩ = some (.int .i64 x)) : (Builtin.copy_ #[59, 59] 3 #[.slice (some ⟨w.heap.size, 0, none⟩) 2 2, .slice (some ⟨bk, off, none⟩) 1 cap]).run Tryd.prog (w.alloc (.cells #[.int .i64 0, .int .i64 0] 25)) =
    .ok (.int .i64 1) (w.alloc (.cells #[.int .i64 x, .int .i64 0] 25)) := by
  have h := run_copy_row (P := Tryd.prog) (w.alloc (.cells #[.int .i64 0, .int .i64 0] 25)) 59 59 3 3 w.heap.size 0 2 2 ⟨bk, off, none⟩ 1 cap #[.int .i64 0, .int .i64 0] 25 [.int .i64 x] Tryd.underlying59 szi (heap_alloc_last w _) rfl (fun j v hj => by
    rw [Addr.add_lit, cell_old _ _ hbk]
    match j, hj with
    | 0, hj => cases hj; exact u0
    | j + 1, hj => simp at hj) (by simp) (by simp [Value.oneCell'])
  rw [World.setRow_alloc_new] at h
  exact h
theorem copy2 (w : World) {bk off cap : Nat} {x y : Int} (hbk : bk < w.heap.size) (u0 : w.cell? ⟨bk, off, none⟩ = some (.int .i64 x)) (u1 : w.cell? ⟨bk, off + 1, none⟩ = some (.int .i64 y)) : (Builtin.copy_ #[59, 59] 3 #[.slice (some ⟨w.heap.size, 0, none⟩) 2 2, .slice (some ⟨bk, off, none⟩) 2 cap]).run Tryd.prog (w.alloc (.cells #[.int .i64 0, .int .i64 0] 25)) =
    .ok (.int .i64 2) (w.alloc (.cells #[.int .i64 x, .int .i64 y] 25)) := by
  have h := run_copy_row (P := Tryd.prog) (w.alloc (.cells #[.int .i64 0, .int .i64 0] 25)) 59 59 3 3 w.heap.size 0 2 2 ⟨bk, off, none⟩ 2 cap #[.int .i64 0, .int .i64 0] 25 [.int .i64 x, .int .i64 y] Tryd.underlying59 szi (heap_alloc_last w _) rfl (fun j v hj => by
    rw [Addr.add_lit, cell_old _ _ hbk]
    match j, hj with
    | 0, hj => cases hj; exact u0
    | 1, hj => cases hj; exact u1
    | j + 2, hj => simp at hj) (by simp) (by simp [Value.oneCell'])
  rw [World.setRow_alloc_new] at h
  exact h
set_option maxRecDepth 100000 in
set_option maxHeartbeats 4000000 in
theorem lens_any (r : Int) (v : Value) (l : List Int) (w : World) (hv : RdI w.heap.size w v l) : Calls Tryd.prog 31 #[.int .i64 r, v] w fun e w' => e = .returned (.tuple #[P2 (ln0 r l) (ln1 r l), .int .i64 (lnE r l)]) ∧ Below w.heap.size w w' := by
  obtain ⟨a, cap, rfl, hc1, hc2, hx⟩ := hv
  by_cases h : r < 0 ∨ 2 < r
  · have HV : Hid (lnE r l = 7 ∧ ln0 r l = 0 ∧ ln1 r l = 0) := by
      have e : lnE r l = 7 := by unfold lnE; rw [if_pos h]
      unfold Hid ln0 ln1; rw [e]; exact ⟨rfl, rfl, rfl⟩
    clear hx
    have hd : decide (0 ≤ r ∧ r ≤ 2) = false := decide_eq_false (by omega)
    clear h
    go_enter Tryd.func31, Tryd.ntmps31
    go_wp2_with (go_at_call 48; refine (isRank_any _ _).mono ?_; rintro e w' ⟨rfl, rfl⟩)
    exact bodyPost_ret (v := .tuple #[P2 0 0, .int .i64 7]) (by simp [results, Tryd.results31, go_sem]) rfl ⟨ret_two (pv HV.out.2.1 HV.out.2.2) (iv HV.out.1), (Below.refl _ _).alloc (Nat.le_refl _) _⟩
  · have hd : decide (0 ≤ r ∧ r ≤ 2) = true := decide_eq_true (by omega)
    by_cases hl : (l.length : Int) = r
    · have hr : (r = 0 ∧ l = []) ∨ (r = 1 ∧ ∃ x, l = [x]) ∨ (r = 2 ∧ ∃ x y, l = [x, y]) := by
        match l, hl with
        | [], hl => exact .inl ⟨by simpa using hl.symm, rfl⟩
        | [x], hl => exact .inr (.inl ⟨by simpa using hl.symm, x, rfl⟩)
        | [x, y], hl => exact .inr (.inr ⟨by simpa using hl.symm, x, y, rfl⟩)
        | _ :: _ :: _ :: _, hl => simp at hl; omega
      rcases hr with ⟨rfl, rfl⟩ | ⟨rfl, x, rfl⟩ | ⟨rfl, x, y, rfl⟩
      · clear h hl hx
        show Calls Tryd.prog 31 #[.int .i64 0, .slice a 0 cap] w _
        have hE : lnE 0 [] = ckS 0 0 0 := by unfold lnE; rw [if_neg (by decide), if_pos (by rfl)]; rfl
        have hcp := copy0 w a cap
        have HK := Lib.hid (K1.new w 0 0)
        have x0 := HK.out.r0.c0; have x1 := HK.out.r0.c1; have f0 := HK.out.r0.f0; have f1 := HK.out.r0.f1
        rcases sh_dec 0 0 0 with ⟨hk, hs⟩ | ⟨hk, hs⟩
        · have HV : Hid (lnE 0 [] = 0 ∧ ln0 0 [] = 0 ∧ ln1 0 [] = 0) := by
            unfold Hid ln0 ln1; rw [hE, hk]; exact ⟨rfl, rfl, rfl⟩
          have HCk : Hid (∀ W, Calls Tryd.prog 49 #[.int .i64 0, P2 0 0] W fun e w' => e = .returned (.int .i64 0) ∧ Below W.heap.size W w') := fun W => by have := check_any 0 0 0 W; rwa [hk] at this
          clear hk hs hE
          go_enter Tryd.func31, Tryd.ntmps31
          go_wp2_with (first | (go_at_call 48; refine (isRank_any _ _).mono ?_; rintro e w' ⟨rfl, rfl⟩) | (go_at_call 49; refine (HCk.out _).mono ?_; rintro e w' ⟨rfl, hb⟩; have HK2 := Lib.hid (HK.out.next hb); clear HK hb x0 x1 f0 f1; have HK := HK2; clear HK2; have x0 := HK.out.r0.c0; have x1 := HK.out.r0.c1; have f0 := HK.out.r0.f0; have f1 := HK.out.r0.f1))
          exact bodyPost_ret (v := .tuple #[P2 0 0, .int .i64 0]) (by simp [results, Tryd.results31, go_sem, HK.out.r0.s0, HK.out.r0.s1]) rfl ⟨ret_two (pv HV.out.2.1 HV.out.2.2) (iv HV.out.1), (HK.out.bel.setCell (Nat.le_refl _) _).setCell (Nat.le_refl _) _⟩
        · obtain ⟨k, hkk⟩ : ∃ k, k = ckS 0 0 0 := ⟨_, rfl⟩
          have HV : Hid (lnE 0 [] = k ∧ ln0 0 [] = 0 ∧ ln1 0 [] = 0) := by
            unfold Hid ln0 ln1; rw [hE, if_neg hk, if_neg hk]; exact ⟨hkk.symm, rfl, rfl⟩
          have HCk : Hid (∀ W, Calls Tryd.prog 49 #[.int .i64 0, P2 0 0] W fun e w' => e = .returned (.int .i64 k) ∧ Below W.heap.size W w') := fun W => by rw [hkk]; exact check_any 0 0 0 W
          rw [← hkk] at hk
          have k1 : (k != 0) = true := by simpa using hk
          have k2 : (k == 0) = false := by simpa using hk
          clear hk hs hE hkk
          go_enter Tryd.func31, Tryd.ntmps31
          go_wp2_with (first | (go_at_call 48; refine (isRank_any _ _).mono ?_; rintro e w' ⟨rfl, rfl⟩) | (go_at_call 49; refine (HCk.out _).mono ?_; rintro e w' ⟨rfl, hb⟩; have HK2 := Lib.hid (HK.out.next hb); clear HK hb x0 x1 f0 f1; have HK := HK2; clear HK2; have x0 := HK.out.r0.c0; have x1 := HK.out.r0.c1; have f0 := HK.out.r0.f0; have f1 := HK.out.r0.f1))
          exact bodyPost_ret (v := .tuple #[P2 0 0, .int .i64 k]) (by simp [results, Tryd.results31, go_sem, HK.out.r0.s0, HK.out.r0.s1]) rfl ⟨ret_two (pv HV.out.2.1 HV.out.2.2) (iv HV.out.1), (HK.out.bel.setCell (Nat.le_refl _) _).setCell (Nat.le_refl _) _⟩
      · clear h hl
        obtain ⟨bk, off, rfl, hbk, hcell⟩ := hx (by simp)
        have u0 : w.cell? ⟨bk, off, none⟩ = some (.int .i64 x) := hcell 0 (by simp)
        clear hx hcell
        show Calls Tryd.prog 31 #[.int .i64 1, .slice (some ⟨bk, off, none⟩) 1 cap] w _
        have hE : lnE 1 [x] = ckS 1 x 0 := by unfold lnE; rw [if_neg (by decide), if_pos (by rfl)]; rfl
        have hcp := copy1 w hbk u0 (cap := cap)
        have HK := Lib.hid (K1.new w x 0)
        have x0 := HK.out.r0.c0; have x1 := HK.out.r0.c1; have f0 := HK.out.r0.f0; have f1 := HK.out.r0.f1
        rcases sh_dec 1 x 0 with ⟨hk, hs⟩ | ⟨hk, hs⟩
        · have HV : Hid (lnE 1 [x] = 0 ∧ ln0 1 [x] = x ∧ ln1 1 [x] = 0) := by
            unfold Hid ln0 ln1; rw [hE, hk]; exact ⟨rfl, rfl, rfl⟩
          have HCk : Hid (∀ W, Calls Tryd.prog 49 #[.int .i64 1, P2 x 0] W fun e w' => e = .returned (.int .i64 0) ∧ Below W.heap.size W w') := fun W => by have := check_any 1 x 0 W; rwa [hk] at this
          clear hk hs hE
          go_enter Tryd.func31, Tryd.ntmps31
          go_wp2_with (first | (go_at_call 48; refine (isRank_any _ _).mono ?_; rintro e w' ⟨rfl, rfl⟩) | (go_at_call 49; refine (HCk.out _).mono ?_; rintro e w' ⟨rfl, hb⟩; have HK2 := Lib.hid (HK.out.next hb); clear HK hb x0 x1 f0 f1; have HK := HK2; clear HK2; have x0 := HK.out.r0.c0; have x1 := HK.out.r0.c1; have f0 := HK.out.r0.f0; have f1 := HK.out.r0.f1))
          exact bodyPost_ret (v := .tuple #[P2 x 0, .int .i64 0]) (by simp [results, Tryd.results31, go_sem, HK.out.r0.s0, HK.out.r0.s1]) rfl ⟨ret_two (pv HV.out.2.1 HV.out.2.2) (iv HV.out.1), (HK.out.bel.setCell (Nat.le_refl _) _).setCell (Nat.le_refl _) _⟩
        · obtain ⟨k, hkk⟩ : ∃ k, k = ckS 1 x 0 := ⟨_, rfl⟩
          have HV : Hid (lnE 1 [x] = k ∧ ln0 1 [x] = 0 ∧ ln1 1 [x] = 0) := by
            unfold Hid ln0 ln1; rw [hE, if_neg hk, if_neg hk]; exact ⟨hkk.symm, rfl, rfl⟩
          have HCk : Hid (∀ W, Calls Tryd.prog 49 #[.int .i64 1, P2 x 0] W fun e w' => e = .returned (.int .i64 k) ∧ Below W.heap.size W w') := fun W => by rw [hkk]; exact check_any 1 x 0 W
          rw [← hkk] at hk
          have k1 : (k != 0) = true := by simpa using hk
          have k2 : (k == 0) = false := by simpa using hk
          clear hk hs hE hkk
          go_enter Tryd.func31, Tryd.ntmps31
          go_wp2_with (first | (go_at_call 48; refine (isRank_any _ _).mono ?_; rintro e w' ⟨rfl, rfl⟩) | (go_at_call 49; refine (HCk.out _).mono ?_; rintro e w' ⟨rfl, hb⟩; have HK2 := Lib.hid (HK.out.next hb); clear HK hb x0 x1 f0 f1; have HK := HK2; clear HK2; have x0 := HK.out.r0.c0; have x1 := HK.out.r0.c1; have f0 := HK.out.r0.f0; have f1 := HK.out.r0.f1))
          exact bodyPost_ret (v := .tuple #[P2 0 0, .int .i64 k]) (by simp [results, Tryd.results31, go_sem, HK.out.r0.s0, HK.out.r0.s1]) rfl ⟨ret_two (pv HV.out.2.1 HV.out.2.2) (iv HV.out.1), (HK.out.bel.setCell (Nat.le_refl _) _).setCell (Nat.le_refl _) _⟩
      · clear h hl
        obtain ⟨bk, off, rfl, hbk, hcell⟩ := hx (by simp)
        have u0 : w.cell? ⟨bk, off, none⟩ = some (.int .i64 x) := hcell 0 (by simp)
        have u1 : w.cell? ⟨bk, off + 1, none⟩ = some (.int .i64 y) := hcell 1 (by simp)
        clear hx hcell
        show Calls Tryd.prog 31 #[.int .i64 2, .slice (some ⟨bk, off, none⟩) 2 cap] w _
        have hE : lnE 2 [x, y] = ckS 2 x y := by unfold lnE; rw [if_neg (by decide), if_pos (by rfl)]; rfl
        have hcp := copy2 w hbk u0 u1 (cap := cap)
        have HK := Lib.hid (K1.new w x y)
        have x0 := HK.out.r0.c0; have x1 := HK.out.r0.c1; have f0 := HK.out.r0.f0; have f1 := HK.out.r0.f1
        rcases sh_dec 2 x y with ⟨hk, hs⟩ | ⟨hk, hs⟩
        · have HV : Hid (lnE 2 [x, y] = 0 ∧ ln0 2 [x, y] = x ∧ ln1 2 [x, y] = y) := by
            unfold Hid ln0 ln1; rw [hE, hk]; exact ⟨rfl, rfl, rfl⟩
          have HCk : Hid (∀ W, Calls Tryd.prog 49 #[.int .i64 2, P2 x y] W fun e w' => e = .returned (.int .i64 0) ∧ Below W.heap.size W w') := fun W => by have := check_any 2 x y W; rwa [hk] at this
          clear hk hs hE
          go_enter Tryd.func31, Tryd.ntmps31
          go_wp2_with (first | (go_at_call 48; refine (isRank_any _ _).mono ?_; rintro e w' ⟨rfl, rfl⟩) | (go_at_call 49; refine (HCk.out _).mono ?_; rintro e w' ⟨rfl, hb⟩; have HK2 := Lib.hid (HK.out.next hb); clear HK hb x0 x1 f0 f1; have HK := HK2; clear HK2; have x0 := HK.out.r0.c0; have x1 := HK.out.r0.c1; have f0 := HK.out.r0.f0; have f1 := HK.out.r0.f1))
          exact bodyPost_ret (v := .tuple #[P2 x y, .int .i64 0]) (by simp [results, Tryd.results31, go_sem, HK.out.r0.s0, HK.out.r0.s1]) rfl ⟨ret_two (pv HV.out.2.1 HV.out.2.2) (iv HV.out.1), (HK.out.bel.setCell (Nat.le_refl _) _).setCell (Nat.le_refl _) _⟩
        · obtain ⟨k, hkk⟩ : ∃ k, k = ckS 2 x y := ⟨_, rfl⟩
          have HV : Hid (lnE 2 [x, y] = k ∧ ln0 2 [x, y] = 0 ∧ ln1 2 [x, y] = 0) := by
            unfold Hid ln0 ln1; rw [hE, if_neg hk, if_neg hk]; exact ⟨hkk.symm, rfl, rfl⟩
          have HCk : Hid (∀ W, Calls Tryd.prog 49 #[.int .i64 2, P2 x y] W fun e w' => e = .returned (.int .i64 k) ∧ Below W.heap.size W w') := fun W => by rw [hkk]; exact check_any 2 x y W
          rw [← hkk] at hk
          have k1 : (k != 0) = true := by simpa using hk
          have k2 : (k == 0) = false := by simpa using hk
          clear hk hs hE hkk
          go_enter Tryd.func31, Tryd.ntmps31
          go_wp2_with (first | (go_at_call 48; refine (isRank_any _ _).mono ?_; rintro e w' ⟨rfl, rfl⟩) | (go_at_call 49; refine (HCk.out _).mono ?_; rintro e w' ⟨rfl, hb⟩; have HK2 := Lib.hid (HK.out.next hb); clear HK hb x0 x1 f0 f1; have HK := HK2; clear HK2; have x0 := HK.out.r0.c0; have x1 := HK.out.r0.c1; have f0 := HK.out.r0.f0; have f1 := HK.out.r0.f1))
          exact bodyPost_ret (v := .tuple #[P2 0 0, .int .i64 k]) (by simp [results, Tryd.results31, go_sem, HK.out.r0.s0, HK.out.r0.s1]) rfl ⟨ret_two (pv HV.out.2.1 HV.out.2.2) (iv HV.out.1), (HK.out.bel.setCell (Nat.le_refl _) _).setCell (Nat.le_refl _) _⟩
    · have HV : Hid (lnE r l = 6 ∧ ln0 r l = 0 ∧ ln1 r l = 0) := by
        have e : lnE r l = 6 := by unfold lnE; rw [if_neg h, if_neg hl]
        unfold Hid ln0 ln1; rw [e]; exact ⟨rfl, rfl, rfl⟩
      have hl1 : ((l.length : Int) != r) = true := by simpa using hl
      have hl2 : ((l.length : Int) == r) = false := by simpa using hl
      have g0 : 0 ≤ r := by omega
      have g1 : r ≤ 2 := by omega
      clear hx hl h
      go_enter Tryd.func31, Tryd.ntmps31
      go_wp2_with (go_at_call 48; refine (isRank_any _ _).mono ?_; rintro e w' ⟨rfl, rfl⟩)
      exact bodyPost_ret (v := .tuple #[P2 0 0, .int .i64 6]) (by simp [results, Tryd.results31, go_sem]) rfl ⟨ret_two (pv HV.out.2.1 HV.out.2.2) (iv HV.out.1), (Below.refl _ _).alloc (Nat.le_refl _) _⟩
end Go.Proofs.YtdbampgbbghfkaaDoor
