/- The functions that make a cell; the array that is made of them, with its panics and its recover. -/
import Derived.Test.YtpbfbejckhbijaaGreatDoorExB
import Derived.Test.YtpbfbejckhbijaaGreatDoorExT
import Derived.Test.YtpbfbejckhbijaaGreatDoorScX
import Derived.Test.YtpbfbejckhbijaaGreatDoorMvZ
import Derived.Recover
namespace Go.Proofs.YtpbfbejckhbijaaGreatDoor
open Go.RowKit

/-- A cell is returned, or its error panics. -/
def CloE (c : Int × Int) (w : World) (e : Ending) (w' : World) : Prop :=
  ((c.2 = 0 ∧ e = .returned (.int .i64 c.1)) ∨ (c.2 ≠ 0 ∧ e = .panicked [{ v := erV c.2, recovered := false }])) ∧ Below w.heap.size w w'
theorem clo_ok {n : Int} {w w' : World} (h : Below w.heap.size w w') : CloE (n, 0) w (.returned (.int .i64 n)) w' := ⟨.inl ⟨rfl, rfl⟩, h⟩
theorem clo_bad {n E : Int} {w w' : World} (hE : E ≠ 0) (h : Below w.heap.size w w') : CloE (n, E) w (.panicked [{ v := erV E, recovered := false }]) w' := ⟨.inr ⟨hE, rfl⟩, h⟩
theorem inr_lo {z : Int} (h : Sc.inr z = true) : -9223372036854775808 ≤ z := (Sc.inr_iff.1 h).1
theorem inr_hi {z : Int} (h : Sc.inr z = true) : z ≤ 9223372036854775807 := (Sc.inr_iff.1 h).2
/-- All cells are numbers of 64 bits. -/
def in64 (z : List Int) : Prop := ∀ x ∈ z, Sc.inr x = true
theorem in64.get {z : List Int} (h : in64 z) (i : Nat) : Sc.inr (z.getD i 0) = true := by
  rw [List.getD_eq_getElem?_getD]
  rcases Nat.lt_or_ge i z.length with hl | hl
  · rw [List.getElem?_eq_getElem hl]; exact h _ (List.getElem_mem hl)
  · rw [List.getElem?_eq_none hl]; decide
set_option maxRecDepth 100000 in
set_option maxHeartbeats 4000000 in
theorem one1_any (p : Int) (A : Ar) (v : Value) (gp ga j : Nat) (w : World) (hp : w.cell? ⟨gp, 0, none⟩ = some (.int .i64 p)) (h5 : R5 w ga A.k A.r A.a A.b v) (hv : RdI w.heap.size w v A.z) (hj : j < A.z.length) (h64 : in64 A.z) :
    Calls Tryz.prog 71 #[.int .i64 j, .pointer (some ⟨gp, 0, none⟩), .pointer (some ⟨ga, 0, none⟩)] w (CloE (Sc.oneV p (A.z.getD j 0)) w) := by
  have hgp : gp < w.heap.size := World.block_lt_of_cell? w _ hp
  have hn : A.z ≠ [] := by intro e; rw [e] at hj; simp at hj
  have hi := h64.get j
  obtain ⟨q, cap, rfl, hcap, hcap2, hcell⟩ := hv
  obtain ⟨bk, off, rfl, hbb, hc⟩ := hcell hn
  have hx := hc j hj
  clear hcell hc
  have hg : A.z.getD j 0 = A.z[j] := by rw [List.getD_eq_getElem?_getD, List.getElem?_eq_getElem hj]; rfl
  rw [hg] at hi ⊢
  generalize A.z[j] = x at hx hi ⊢
  have hlt : (j : Int) < (A.z.length : Int) := by omega
  have HC : Hid (∀ W, Calls Tryz.prog 73 #[.int .i64 p, .int .i64 x] W fun e w' => e = .returned (.tuple #[.int .i64 (Sc.oneV p x).1, .int .i64 (Sc.oneV p x).2]) ∧ Below W.heap.size W w') := fun W => Sc.sone_any p x W (inr_lo hi) (inr_hi hi)
  have HAll : Hid (∀ W, Below w.heap.size w W → (fun W => Below w.heap.size w W ∧ W.cell? ⟨gp, 0, none⟩ = some (.int .i64 p) ∧ W.cell? ⟨ga, 4, none⟩ = some (.slice (some ⟨bk, off, none⟩) A.z.length cap) ∧ W.cell? ⟨bk, off + j, none⟩ = some (.int .i64 x)) W) := fun W h => ⟨h, (h.cell (p := ⟨gp, 0, none⟩) hgp).trans hp, (h.cell (p := ⟨ga, 4, none⟩) h5.lt).trans h5.c4, (h.cell (p := ⟨bk, off + j, none⟩) hbb).trans hx⟩
  clear hi hg hn hp h5 hx hgp hbb h64
  generalize hV : Sc.oneV p x = c at HC ⊢
  obtain ⟨n, E⟩ := c
  clear hV
  simp only at HC
  have HB0 : Hid (Below w.heap.size w (World.drew w)) := (Below.refl _ _).drew
  by_cases hE : E = 0
  · subst hE
    go_enter Tryz.func71, Tryz.ntmps71
    go_wp2
    refine wp_region_held_drew (S := (fun W => Below w.heap.size w W ∧ W.cell? ⟨gp, 0, none⟩ = some (.int .i64 p) ∧ W.cell? ⟨ga, 4, none⟩ = some (.slice (some ⟨bk, off, none⟩) A.z.length cap) ∧ W.cell? ⟨bk, off + j, none⟩ = some (.int .i64 x))) (by kernel_rfl) ?_ (fun hHeld => ?_)
    · exact HAll.out _ HB0.out
    generalize World.drew w = wd at hHeld HB0 ⊢
    refine wpAnyH_take (i := 0) (v := ?_) rfl (by kernel_rfl) (by kernel_rfl) (by kernel_rfl) (fun _ _ _ h => h) (Or.inl ⟨by rfl, ?_⟩) (by assumption) ?_
    rotate_left
    · ((intro w0 hSw); (try dsimp only at hSw); go_simp; (try with_reducible rfl))
    change wpAnyH _ _ _ _ _ _ _ (Act.put _ (some 5) _) _
    try simp only [Act.put, List.setIfInBounds_toArray, List.set_cons_zero, List.set_cons_succ]
    refine wpAnyH_take (i := 1) (v := ?_) rfl (by kernel_rfl) (by kernel_rfl) (by kernel_rfl) (fun _ _ _ h => h) (Or.inl ⟨by rfl, ?_⟩) (by assumption) ?_
    rotate_left
    · ((intro w0 hSw); (try dsimp only at hSw); go_simp; (try with_reducible rfl))
    change wpAnyH _ _ _ _ _ _ _ (Act.put _ (some 6) _) _
    try simp only [Act.put, List.setIfInBounds_toArray, List.set_cons_zero, List.set_cons_succ]
    refine wpAnyH_take (i := 2) (v := ?_) rfl (by kernel_rfl) (by kernel_rfl) (by kernel_rfl) (fun _ _ _ h => h) (Or.inl ⟨by rfl, ?_⟩) (by assumption) ?_
    rotate_left
    · ((intro w0 hSw); (try dsimp only at hSw); go_simp; (try with_reducible rfl))
    change wpAnyH _ _ _ _ _ _ _ (Act.put _ (some 7) _) _
    try simp only [Act.put, List.setIfInBounds_toArray, List.set_cons_zero, List.set_cons_succ]
    refine wpAnyH_take (i := 3) (v := ?_) rfl (by kernel_rfl) (by kernel_rfl) (by kernel_rfl) (fun _ _ _ h => h) (Or.inl ⟨by rfl, ?_⟩) (by assumption) ?_
    rotate_left
    · ((intro w0 hSw); (try dsimp only at hSw); go_simp; (try with_reducible rfl))
    change wpAnyH _ _ _ _ _ _ _ (Act.put _ (some 8) _) _
    try simp only [Act.put, List.setIfInBounds_toArray, List.set_cons_zero, List.set_cons_succ]
    refine wpAnyH_take (i := 4) (v := ?_) rfl (by kernel_rfl) (by kernel_rfl) (by kernel_rfl) (fun _ _ _ h => h) (Or.inl ⟨by rfl, ?_⟩) (by assumption) ?_
    rotate_left
    · ((intro w0 hSw); (try dsimp only at hSw); go_simp; (try with_reducible rfl))
    change wpAnyH _ _ _ _ _ _ _ (Act.put _ (some 9) _) _
    try simp only [Act.put, List.setIfInBounds_toArray, List.set_cons_zero, List.set_cons_succ]
    refine wpAnyH_take (i := 5) (v := ?_) rfl (by kernel_rfl) (by kernel_rfl) (by kernel_rfl) (fun _ _ _ h => h) (Or.inl ⟨by rfl, ?_⟩) (by assumption) ?_
    rotate_left
    · ((intro w0 hSw); (try dsimp only at hSw); go_simp; (try with_reducible rfl))
    change wpAnyH _ _ _ _ _ _ _ (Act.put _ (some 10) _) _
    try simp only [Act.put, List.setIfInBounds_toArray, List.set_cons_zero, List.set_cons_succ]
    refine wpAnyH_ready (rs := [6]) (by kernel_rfl) (by simp) ?_
    refine AllReadyH.cons rfl (fun K hK => ?_) (AllReadyH.nil)
    go_simp
    go_at_call 73
    with_reducible refine (HC.out _).mono ?_
    rintro e wn ⟨rfl, hb⟩
    have HB1 := Lib.hid (HB0.out.trans (hb.mono HB0.out.size))
    clear hb
    refine hK.out _ _ ?_ (fun hHeld2 => ?_)
    · exact HAll.out _ HB1.out
    clear hK K hHeld
    have hHeld := hHeld2; clear hHeld2
    try change wpAnyH _ _ _ _ _ _ _ (Act.put _ (some 11) _) _
    try dsimp only
    try simp only [Act.put, List.setIfInBounds_toArray, List.set_cons_zero, List.set_cons_succ]
    refine wpAnyH_take (i := 7) (v := ?_) rfl (by kernel_rfl) (by kernel_rfl) (by kernel_rfl) (fun _ _ _ h => h) (Or.inl ⟨by rfl, ?_⟩) (by assumption) ?_
    rotate_left
    · ((intro w0 hSw); (try dsimp only at hSw); go_simp; (try with_reducible rfl))
    change wpAnyH _ _ _ _ _ _ _ (Act.put _ (some 12) _) _
    try simp only [Act.put, List.setIfInBounds_toArray, List.set_cons_zero, List.set_cons_succ]
    refine wpAnyH_take (i := 8) (v := ?_) rfl (by kernel_rfl) (by kernel_rfl) (by kernel_rfl) (fun _ _ _ h => h) (Or.inl ⟨by rfl, ?_⟩) (by assumption) ?_
    rotate_left
    · ((intro w0 hSw); (try dsimp only at hSw); go_simp; (try with_reducible rfl))
    change wpAnyH _ _ _ _ _ _ _ (Act.put _ (some 13) _) _
    try simp only [Act.put, List.setIfInBounds_toArray, List.set_cons_zero, List.set_cons_succ]
    refine wpAnyH_ready (rs := [9]) (by kernel_rfl) (by simp) ?_
    refine AllReadyH.cons rfl (fun K hK => ?_) (AllReadyH.nil)
    go_simp
    go_at_call 72
    with_reducible refine (sure_ok _ _).mono ?_
    rintro e wn2 ⟨rfl, rfl⟩
    refine hK.out _ _ ?_ (fun hHeld2 => ?_)
    · exact HAll.out _ HB1.out
    clear hK K hHeld
    have hHeld := hHeld2; clear hHeld2
    try change wpAnyH _ _ _ _ _ _ _ (Act.put _ (some 14) _) _
    try dsimp only
    try simp only [Act.put, List.setIfInBounds_toArray, List.set_cons_zero, List.set_cons_succ]
    refine wpAnyH_take (i := 10) (v := ?_) rfl (by kernel_rfl) (by kernel_rfl) (by kernel_rfl) (fun _ _ _ h => h) (Or.inl ⟨by rfl, ?_⟩) (by assumption) ?_
    rotate_left
    · ((intro w0 hSw); (try dsimp only at hSw); go_simp; (try with_reducible rfl))
    change wpAnyH _ _ _ _ _ _ _ (Act.put _ (some 4) _) _
    try simp only [Act.put, List.setIfInBounds_toArray, List.set_cons_zero, List.set_cons_succ]
    refine wpAnyH_done (by kernel_rfl) ?_ _
    go_wp2
    go_ret
    exact clo_ok HB1.out
  · go_enter Tryz.func71, Tryz.ntmps71
    go_wp2
    refine wp_region_held_drew (S := (fun W => Below w.heap.size w W ∧ W.cell? ⟨gp, 0, none⟩ = some (.int .i64 p) ∧ W.cell? ⟨ga, 4, none⟩ = some (.slice (some ⟨bk, off, none⟩) A.z.length cap) ∧ W.cell? ⟨bk, off + j, none⟩ = some (.int .i64 x))) (by kernel_rfl) ?_ (fun hHeld => ?_)
    · exact HAll.out _ HB0.out
    generalize World.drew w = wd at hHeld HB0 ⊢
    refine wpAnyH_take (i := 0) (v := ?_) rfl (by kernel_rfl) (by kernel_rfl) (by kernel_rfl) (fun _ _ _ h => h) (Or.inl ⟨by rfl, ?_⟩) (by assumption) ?_
    rotate_left
    · ((intro w0 hSw); (try dsimp only at hSw); go_simp; (try with_reducible rfl))
    change wpAnyH _ _ _ _ _ _ _ (Act.put _ (some 5) _) _
    try simp only [Act.put, List.setIfInBounds_toArray, List.set_cons_zero, List.set_cons_succ]
    refine wpAnyH_take (i := 1) (v := ?_) rfl (by kernel_rfl) (by kernel_rfl) (by kernel_rfl) (fun _ _ _ h => h) (Or.inl ⟨by rfl, ?_⟩) (by assumption) ?_
    rotate_left
    · ((intro w0 hSw); (try dsimp only at hSw); go_simp; (try with_reducible rfl))
    change wpAnyH _ _ _ _ _ _ _ (Act.put _ (some 6) _) _
    try simp only [Act.put, List.setIfInBounds_toArray, List.set_cons_zero, List.set_cons_succ]
    refine wpAnyH_take (i := 2) (v := ?_) rfl (by kernel_rfl) (by kernel_rfl) (by kernel_rfl) (fun _ _ _ h => h) (Or.inl ⟨by rfl, ?_⟩) (by assumption) ?_
    rotate_left
    · ((intro w0 hSw); (try dsimp only at hSw); go_simp; (try with_reducible rfl))
    change wpAnyH _ _ _ _ _ _ _ (Act.put _ (some 7) _) _
    try simp only [Act.put, List.setIfInBounds_toArray, List.set_cons_zero, List.set_cons_succ]
    refine wpAnyH_take (i := 3) (v := ?_) rfl (by kernel_rfl) (by kernel_rfl) (by kernel_rfl) (fun _ _ _ h => h) (Or.inl ⟨by rfl, ?_⟩) (by assumption) ?_
    rotate_left
    · ((intro w0 hSw); (try dsimp only at hSw); go_simp; (try with_reducible rfl))
    change wpAnyH _ _ _ _ _ _ _ (Act.put _ (some 8) _) _
    try simp only [Act.put, List.setIfInBounds_toArray, List.set_cons_zero, List.set_cons_succ]
    refine wpAnyH_take (i := 4) (v := ?_) rfl (by kernel_rfl) (by kernel_rfl) (by kernel_rfl) (fun _ _ _ h => h) (Or.inl ⟨by rfl, ?_⟩) (by assumption) ?_
    rotate_left
    · ((intro w0 hSw); (try dsimp only at hSw); go_simp; (try with_reducible rfl))
    change wpAnyH _ _ _ _ _ _ _ (Act.put _ (some 9) _) _
    try simp only [Act.put, List.setIfInBounds_toArray, List.set_cons_zero, List.set_cons_succ]
    refine wpAnyH_take (i := 5) (v := ?_) rfl (by kernel_rfl) (by kernel_rfl) (by kernel_rfl) (fun _ _ _ h => h) (Or.inl ⟨by rfl, ?_⟩) (by assumption) ?_
    rotate_left
    · ((intro w0 hSw); (try dsimp only at hSw); go_simp; (try with_reducible rfl))
    change wpAnyH _ _ _ _ _ _ _ (Act.put _ (some 10) _) _
    try simp only [Act.put, List.setIfInBounds_toArray, List.set_cons_zero, List.set_cons_succ]
    refine wpAnyH_ready (rs := [6]) (by kernel_rfl) (by simp) ?_
    refine AllReadyH.cons rfl (fun K hK => ?_) (AllReadyH.nil)
    go_simp
    go_at_call 73
    with_reducible refine (HC.out _).mono ?_
    rintro e wn ⟨rfl, hb⟩
    have HB1 := Lib.hid (HB0.out.trans (hb.mono HB0.out.size))
    clear hb
    refine hK.out _ _ ?_ (fun hHeld2 => ?_)
    · exact HAll.out _ HB1.out
    clear hK K hHeld
    have hHeld := hHeld2; clear hHeld2
    try change wpAnyH _ _ _ _ _ _ _ (Act.put _ (some 11) _) _
    try dsimp only
    try simp only [Act.put, List.setIfInBounds_toArray, List.set_cons_zero, List.set_cons_succ]
    refine wpAnyH_take (i := 7) (v := ?_) rfl (by kernel_rfl) (by kernel_rfl) (by kernel_rfl) (fun _ _ _ h => h) (Or.inl ⟨by rfl, ?_⟩) (by assumption) ?_
    rotate_left
    · ((intro w0 hSw); (try dsimp only at hSw); go_simp; (try with_reducible rfl))
    change wpAnyH _ _ _ _ _ _ _ (Act.put _ (some 12) _) _
    try simp only [Act.put, List.setIfInBounds_toArray, List.set_cons_zero, List.set_cons_succ]
    refine wpAnyH_take (i := 8) (v := ?_) rfl (by kernel_rfl) (by kernel_rfl) (by kernel_rfl) (fun _ _ _ h => h) (Or.inl ⟨by rfl, ?_⟩) (by assumption) ?_
    rotate_left
    · ((intro w0 hSw); (try dsimp only at hSw); go_simp; (try with_reducible rfl))
    change wpAnyH _ _ _ _ _ _ _ (Act.put _ (some 13) _) _
    try simp only [Act.put, List.setIfInBounds_toArray, List.set_cons_zero, List.set_cons_succ]
    refine wpAnyH_ready (rs := [9]) (by kernel_rfl) (by simp) ?_
    refine AllReadyH.cons rfl (fun K hK => ?_) (AllReadyH.nil)
    go_simp
    go_at_call 72
    with_reducible refine (sure_bad _ _ _ hE).mono ?_
    rintro e wn2 ⟨rfl, rfl⟩
    exact ⟨rfl, clo_bad hE HB1.out⟩
set_option maxRecDepth 100000 in
set_option maxHeartbeats 4000000 in
theorem two1_any (p : Int) (A B : Ar) (v u : Value) (gp ga gb j : Nat) (w : World) (hp : w.cell? ⟨gp, 0, none⟩ = some (.int .i64 p)) (h5 : R5 w ga A.k A.r A.a A.b v) (g5 : R5 w gb B.k B.r B.a B.b u) (hv : RdI w.heap.size w v A.z) (hu : RdI w.heap.size w u B.z) (hj : (if A.r = 0 then 0 else j) < A.z.length) (hj' : (if B.r = 0 then 0 else j) < B.z.length) (h64 : in64 A.z) (h64' : in64 B.z) :
    Calls Tryz.prog 77 #[.int .i64 j, .pointer (some ⟨gp, 0, none⟩), .pointer (some ⟨ga, 0, none⟩), .pointer (some ⟨gb, 0, none⟩)] w (CloE (Sc.twoV p (celI A j) (celI B j)) w) := by
  have hgp : gp < w.heap.size := World.block_lt_of_cell? w _ hp
  have hi : Sc.inr (celI A j) = true := h64.get _
  have hi' : Sc.inr (celI B j) = true := h64'.get _
  have HCa : Hid (∀ W, RdI W.heap.size W v A.z → Calls Tryz.prog 79 #[A5 A.k A.r A.a A.b v, .int .i64 j] W fun e w' => e = .returned (.int .i64 (celI A j)) ∧ Below W.heap.size W w') := fun W h => ecell_any A v j W h hj
  have HCb : Hid (∀ W, RdI W.heap.size W u B.z → Calls Tryz.prog 79 #[A5 B.k B.r B.a B.b u, .int .i64 j] W fun e w' => e = .returned (.int .i64 (celI B j)) ∧ Below W.heap.size W w') := fun W h => ecell_any B u j W h hj'
  have HVa : Hid (∀ W, Below w.heap.size w W → RdI W.heap.size W v A.z) := fun W h => hv.next h
  have HVb : Hid (∀ W, Below w.heap.size w W → RdI W.heap.size W u B.z) := fun W h => hu.next h
  obtain ⟨q, cap, rfl, _, _, _⟩ := hv
  obtain ⟨q', cap', rfl, _, _, _⟩ := hu
  have HAll : Hid (∀ W, Below w.heap.size w W → (fun W => Below w.heap.size w W ∧ W.cell? ⟨gp, 0, none⟩ = some (.int .i64 p) ∧ W.cell? ⟨ga, 0, none⟩ = some (.int .i64 A.k) ∧ W.cell? ⟨ga, 1, none⟩ = some (.int .i64 A.r) ∧ W.cell? ⟨ga, 2, none⟩ = some (.int .i64 A.a) ∧ W.cell? ⟨ga, 3, none⟩ = some (.int .i64 A.b) ∧ W.cell? ⟨ga, 4, none⟩ = some ((.slice q A.z.length cap)) ∧ W.cell? ⟨gb, 0, none⟩ = some (.int .i64 B.k) ∧ W.cell? ⟨gb, 1, none⟩ = some (.int .i64 B.r) ∧ W.cell? ⟨gb, 2, none⟩ = some (.int .i64 B.a) ∧ W.cell? ⟨gb, 3, none⟩ = some (.int .i64 B.b) ∧ W.cell? ⟨gb, 4, none⟩ = some ((.slice q' B.z.length cap'))) W) := fun W h => ⟨h, (h.cell (p := ⟨gp, 0, none⟩) hgp).trans hp, (h5.next h).c0, (h5.next h).c1, (h5.next h).c2, (h5.next h).c3, (h5.next h).c4, (g5.next h).c0, (g5.next h).c1, (g5.next h).c2, (g5.next h).c3, (g5.next h).c4⟩
  clear hp h5 g5 hgp h64 h64' hj hj'
  generalize celI A j = x at hi HCa ⊢
  generalize celI B j = y at hi' HCb ⊢
  have HC : Hid (∀ W, Calls Tryz.prog 78 #[.int .i64 p, .int .i64 x, .int .i64 y] W fun e w' => e = .returned (.tuple #[.int .i64 (Sc.twoV p x y).1, .int .i64 (Sc.twoV p x y).2]) ∧ Below W.heap.size W w') := fun W => Sc.stwo_any p x y W (inr_lo hi) (inr_hi hi) (inr_lo hi') (inr_hi hi')
  clear hi hi'
  generalize hV : Sc.twoV p x y = c at HC ⊢
  obtain ⟨n, E⟩ := c
  clear hV
  simp only at HC
  have HB0 : Hid (Below w.heap.size w (World.drew w)) := (Below.refl _ _).drew
  by_cases hE : E = 0
  · subst hE
    go_enter Tryz.func77, Tryz.ntmps77
    go_wp2
    refine wp_region_held_drew (S := (fun W => Below w.heap.size w W ∧ W.cell? ⟨gp, 0, none⟩ = some (.int .i64 p) ∧ W.cell? ⟨ga, 0, none⟩ = some (.int .i64 A.k) ∧ W.cell? ⟨ga, 1, none⟩ = some (.int .i64 A.r) ∧ W.cell? ⟨ga, 2, none⟩ = some (.int .i64 A.a) ∧ W.cell? ⟨ga, 3, none⟩ = some (.int .i64 A.b) ∧ W.cell? ⟨ga, 4, none⟩ = some ((.slice q A.z.length cap)) ∧ W.cell? ⟨gb, 0, none⟩ = some (.int .i64 B.k) ∧ W.cell? ⟨gb, 1, none⟩ = some (.int .i64 B.r) ∧ W.cell? ⟨gb, 2, none⟩ = some (.int .i64 B.a) ∧ W.cell? ⟨gb, 3, none⟩ = some (.int .i64 B.b) ∧ W.cell? ⟨gb, 4, none⟩ = some ((.slice q' B.z.length cap')))) (by kernel_rfl) ?_ (fun hHeld => ?_)
    · exact HAll.out _ HB0.out
    generalize World.drew w = wd at hHeld HB0 ⊢
    refine wpAnyH_take (i := 0) (v := ?_) rfl (by kernel_rfl) (by kernel_rfl) (by kernel_rfl) (fun _ _ _ h => h) (Or.inl ⟨by rfl, ?_⟩) (by assumption) ?_
    rotate_left
    · ((intro w0 hSw); (try dsimp only at hSw); go_simp; (try with_reducible rfl))
    change wpAnyH _ _ _ _ _ _ _ (Act.put _ (some 6) _) _
    try simp only [Act.put, List.setIfInBounds_toArray, List.set_cons_zero, List.set_cons_succ]
    refine wpAnyH_take (i := 1) (v := ?_) rfl (by kernel_rfl) (by kernel_rfl) (by kernel_rfl) (fun _ _ _ h => h) (Or.inl ⟨by rfl, ?_⟩) (by assumption) ?_
    rotate_left
    · ((intro w0 hSw); (try dsimp only at hSw); go_simp; (try with_reducible rfl))
    change wpAnyH _ _ _ _ _ _ _ (Act.put _ (some 7) _) _
    try simp only [Act.put, List.setIfInBounds_toArray, List.set_cons_zero, List.set_cons_succ]
    refine wpAnyH_take (i := 2) (v := ?_) rfl (by kernel_rfl) (by kernel_rfl) (by kernel_rfl) (fun _ _ _ h => h) (Or.inl ⟨by rfl, ?_⟩) (by assumption) ?_
    rotate_left
    · ((intro w0 hSw); (try dsimp only at hSw); go_simp; (try with_reducible rfl))
    change wpAnyH _ _ _ _ _ _ _ (Act.put _ (some 8) _) _
    try simp only [Act.put, List.setIfInBounds_toArray, List.set_cons_zero, List.set_cons_succ]
    refine wpAnyH_take (i := 4) (v := ?_) rfl (by kernel_rfl) (by kernel_rfl) (by kernel_rfl) (fun _ _ _ h => h) (Or.inl ⟨by rfl, ?_⟩) (by assumption) ?_
    rotate_left
    · ((intro w0 hSw); (try dsimp only at hSw); go_simp; (try with_reducible rfl))
    change wpAnyH _ _ _ _ _ _ _ (Act.put _ (some 10) _) _
    try simp only [Act.put, List.setIfInBounds_toArray, List.set_cons_zero, List.set_cons_succ]
    refine wpAnyH_take (i := 5) (v := ?_) rfl (by kernel_rfl) (by kernel_rfl) (by kernel_rfl) (fun _ _ _ h => h) (Or.inl ⟨by rfl, ?_⟩) (by assumption) ?_
    rotate_left
    · ((intro w0 hSw); (try dsimp only at hSw); go_simp; (try with_reducible rfl))
    change wpAnyH _ _ _ _ _ _ _ (Act.put _ (some 11) _) _
    try simp only [Act.put, List.setIfInBounds_toArray, List.set_cons_zero, List.set_cons_succ]
    refine wpAnyH_ready (rs := [3]) (by kernel_rfl) (by simp) ?_
    refine AllReadyH.cons rfl (fun K hK => ?_) (AllReadyH.nil)
    go_simp
    go_at_call 79
    with_reducible refine (HCa.out _ (HVa.out _ HB0.out)).mono ?_
    rintro e wn ⟨rfl, hb⟩
    have HB1 := Lib.hid (HB0.out.trans (hb.mono HB0.out.size))
    clear hb
    refine hK.out _ _ ?_ (fun hHeld2 => ?_)
    · exact HAll.out _ HB1.out
    clear hK K hHeld
    have hHeld := hHeld2; clear hHeld2
    try change wpAnyH _ _ _ _ _ _ _ (Act.put _ (some 9) _) _
    try dsimp only
    try simp only [Act.put, List.setIfInBounds_toArray, List.set_cons_zero, List.set_cons_succ]
    refine wpAnyH_ready (rs := [6]) (by kernel_rfl) (by simp) ?_
    refine AllReadyH.cons rfl (fun K hK => ?_) (AllReadyH.nil)
    go_simp
    go_at_call 79
    with_reducible refine (HCb.out _ (HVb.out _ HB1.out)).mono ?_
    rintro e wn ⟨rfl, hb⟩
    have HB2 := Lib.hid (HB1.out.trans (hb.mono HB1.out.size))
    clear hb
    refine hK.out _ _ ?_ (fun hHeld2 => ?_)
    · exact HAll.out _ HB2.out
    clear hK K hHeld
    have hHeld := hHeld2; clear hHeld2
    try change wpAnyH _ _ _ _ _ _ _ (Act.put _ (some 12) _) _
    try dsimp only
    try simp only [Act.put, List.setIfInBounds_toArray, List.set_cons_zero, List.set_cons_succ]
    refine wpAnyH_ready (rs := [7]) (by kernel_rfl) (by simp) ?_
    refine AllReadyH.cons rfl (fun K hK => ?_) (AllReadyH.nil)
    go_simp
    go_at_call 78
    with_reducible refine (HC.out _).mono ?_
    rintro e wn ⟨rfl, hb⟩
    have HB3 := Lib.hid (HB2.out.trans (hb.mono HB2.out.size))
    clear hb
    refine hK.out _ _ ?_ (fun hHeld2 => ?_)
    · exact HAll.out _ HB3.out
    clear hK K hHeld
    have hHeld := hHeld2; clear hHeld2
    try change wpAnyH _ _ _ _ _ _ _ (Act.put _ (some 13) _) _
    try dsimp only
    try simp only [Act.put, List.setIfInBounds_toArray, List.set_cons_zero, List.set_cons_succ]
    refine wpAnyH_take (i := 8) (v := ?_) rfl (by kernel_rfl) (by kernel_rfl) (by kernel_rfl) (fun _ _ _ h => h) (Or.inl ⟨by rfl, ?_⟩) (by assumption) ?_
    rotate_left
    · ((intro w0 hSw); (try dsimp only at hSw); go_simp; (try with_reducible rfl))
    change wpAnyH _ _ _ _ _ _ _ (Act.put _ (some 14) _) _
    try simp only [Act.put, List.setIfInBounds_toArray, List.set_cons_zero, List.set_cons_succ]
    refine wpAnyH_take (i := 9) (v := ?_) rfl (by kernel_rfl) (by kernel_rfl) (by kernel_rfl) (fun _ _ _ h => h) (Or.inl ⟨by rfl, ?_⟩) (by assumption) ?_
    rotate_left
    · ((intro w0 hSw); (try dsimp only at hSw); go_simp; (try with_reducible rfl))
    change wpAnyH _ _ _ _ _ _ _ (Act.put _ (some 15) _) _
    try simp only [Act.put, List.setIfInBounds_toArray, List.set_cons_zero, List.set_cons_succ]
    refine wpAnyH_ready (rs := [10]) (by kernel_rfl) (by simp) ?_
    refine AllReadyH.cons rfl (fun K hK => ?_) (AllReadyH.nil)
    go_simp
    go_at_call 72
    with_reducible refine (sure_ok _ _).mono ?_
    rintro e wn2 ⟨rfl, rfl⟩
    refine hK.out _ _ ?_ (fun hHeld2 => ?_)
    · exact HAll.out _ HB3.out
    clear hK K hHeld
    have hHeld := hHeld2; clear hHeld2
    try change wpAnyH _ _ _ _ _ _ _ (Act.put _ (some 16) _) _
    try dsimp only
    try simp only [Act.put, List.setIfInBounds_toArray, List.set_cons_zero, List.set_cons_succ]
    refine wpAnyH_take (i := 11) (v := ?_) rfl (by kernel_rfl) (by kernel_rfl) (by kernel_rfl) (fun _ _ _ h => h) (Or.inl ⟨by rfl, ?_⟩) (by assumption) ?_
    rotate_left
    · ((intro w0 hSw); (try dsimp only at hSw); go_simp; (try with_reducible rfl))
    change wpAnyH _ _ _ _ _ _ _ (Act.put _ (some 5) _) _
    try simp only [Act.put, List.setIfInBounds_toArray, List.set_cons_zero, List.set_cons_succ]
    refine wpAnyH_done (by kernel_rfl) ?_ _
    go_wp2
    go_ret
    exact clo_ok HB3.out
  · go_enter Tryz.func77, Tryz.ntmps77
    go_wp2
    refine wp_region_held_drew (S := (fun W => Below w.heap.size w W ∧ W.cell? ⟨gp, 0, none⟩ = some (.int .i64 p) ∧ W.cell? ⟨ga, 0, none⟩ = some (.int .i64 A.k) ∧ W.cell? ⟨ga, 1, none⟩ = some (.int .i64 A.r) ∧ W.cell? ⟨ga, 2, none⟩ = some (.int .i64 A.a) ∧ W.cell? ⟨ga, 3, none⟩ = some (.int .i64 A.b) ∧ W.cell? ⟨ga, 4, none⟩ = some ((.slice q A.z.length cap)) ∧ W.cell? ⟨gb, 0, none⟩ = some (.int .i64 B.k) ∧ W.cell? ⟨gb, 1, none⟩ = some (.int .i64 B.r) ∧ W.cell? ⟨gb, 2, none⟩ = some (.int .i64 B.a) ∧ W.cell? ⟨gb, 3, none⟩ = some (.int .i64 B.b) ∧ W.cell? ⟨gb, 4, none⟩ = some ((.slice q' B.z.length cap')))) (by kernel_rfl) ?_ (fun hHeld => ?_)
    · exact HAll.out _ HB0.out
    generalize World.drew w = wd at hHeld HB0 ⊢
    refine wpAnyH_take (i := 0) (v := ?_) rfl (by kernel_rfl) (by kernel_rfl) (by kernel_rfl) (fun _ _ _ h => h) (Or.inl ⟨by rfl, ?_⟩) (by assumption) ?_
    rotate_left
    · ((intro w0 hSw); (try dsimp only at hSw); go_simp; (try with_reducible rfl))
    change wpAnyH _ _ _ _ _ _ _ (Act.put _ (some 6) _) _
    try simp only [Act.put, List.setIfInBounds_toArray, List.set_cons_zero, List.set_cons_succ]
    refine wpAnyH_take (i := 1) (v := ?_) rfl (by kernel_rfl) (by kernel_rfl) (by kernel_rfl) (fun _ _ _ h => h) (Or.inl ⟨by rfl, ?_⟩) (by assumption) ?_
    rotate_left
    · ((intro w0 hSw); (try dsimp only at hSw); go_simp; (try with_reducible rfl))
    change wpAnyH _ _ _ _ _ _ _ (Act.put _ (some 7) _) _
    try simp only [Act.put, List.setIfInBounds_toArray, List.set_cons_zero, List.set_cons_succ]
    refine wpAnyH_take (i := 2) (v := ?_) rfl (by kernel_rfl) (by kernel_rfl) (by kernel_rfl) (fun _ _ _ h => h) (Or.inl ⟨by rfl, ?_⟩) (by assumption) ?_
    rotate_left
    · ((intro w0 hSw); (try dsimp only at hSw); go_simp; (try with_reducible rfl))
    change wpAnyH _ _ _ _ _ _ _ (Act.put _ (some 8) _) _
    try simp only [Act.put, List.setIfInBounds_toArray, List.set_cons_zero, List.set_cons_succ]
    refine wpAnyH_take (i := 4) (v := ?_) rfl (by kernel_rfl) (by kernel_rfl) (by kernel_rfl) (fun _ _ _ h => h) (Or.inl ⟨by rfl, ?_⟩) (by assumption) ?_
    rotate_left
    · ((intro w0 hSw); (try dsimp only at hSw); go_simp; (try with_reducible rfl))
    change wpAnyH _ _ _ _ _ _ _ (Act.put _ (some 10) _) _
    try simp only [Act.put, List.setIfInBounds_toArray, List.set_cons_zero, List.set_cons_succ]
    refine wpAnyH_take (i := 5) (v := ?_) rfl (by kernel_rfl) (by kernel_rfl) (by kernel_rfl) (fun _ _ _ h => h) (Or.inl ⟨by rfl, ?_⟩) (by assumption) ?_
    rotate_left
    · ((intro w0 hSw); (try dsimp only at hSw); go_simp; (try with_reducible rfl))
    change wpAnyH _ _ _ _ _ _ _ (Act.put _ (some 11) _) _
    try simp only [Act.put, List.setIfInBounds_toArray, List.set_cons_zero, List.set_cons_succ]
    refine wpAnyH_ready (rs := [3]) (by kernel_rfl) (by simp) ?_
    refine AllReadyH.cons rfl (fun K hK => ?_) (AllReadyH.nil)
    go_simp
    go_at_call 79
    with_reducible refine (HCa.out _ (HVa.out _ HB0.out)).mono ?_
    rintro e wn ⟨rfl, hb⟩
    have HB1 := Lib.hid (HB0.out.trans (hb.mono HB0.out.size))
    clear hb
    refine hK.out _ _ ?_ (fun hHeld2 => ?_)
    · exact HAll.out _ HB1.out
    clear hK K hHeld
    have hHeld := hHeld2; clear hHeld2
    try change wpAnyH _ _ _ _ _ _ _ (Act.put _ (some 9) _) _
    try dsimp only
    try simp only [Act.put, List.setIfInBounds_toArray, List.set_cons_zero, List.set_cons_succ]
    refine wpAnyH_ready (rs := [6]) (by kernel_rfl) (by simp) ?_
    refine AllReadyH.cons rfl (fun K hK => ?_) (AllReadyH.nil)
    go_simp
    go_at_call 79
    with_reducible refine (HCb.out _ (HVb.out _ HB1.out)).mono ?_
    rintro e wn ⟨rfl, hb⟩
    have HB2 := Lib.hid (HB1.out.trans (hb.mono HB1.out.size))
    clear hb
    refine hK.out _ _ ?_ (fun hHeld2 => ?_)
    · exact HAll.out _ HB2.out
    clear hK K hHeld
    have hHeld := hHeld2; clear hHeld2
    try change wpAnyH _ _ _ _ _ _ _ (Act.put _ (some 12) _) _
    try dsimp only
    try simp only [Act.put, List.setIfInBounds_toArray, List.set_cons_zero, List.set_cons_succ]
    refine wpAnyH_ready (rs := [7]) (by kernel_rfl) (by simp) ?_
    refine AllReadyH.cons rfl (fun K hK => ?_) (AllReadyH.nil)
    go_simp
    go_at_call 78
    with_reducible refine (HC.out _).mono ?_
    rintro e wn ⟨rfl, hb⟩
    have HB3 := Lib.hid (HB2.out.trans (hb.mono HB2.out.size))
    clear hb
    refine hK.out _ _ ?_ (fun hHeld2 => ?_)
    · exact HAll.out _ HB3.out
    clear hK K hHeld
    have hHeld := hHeld2; clear hHeld2
    try change wpAnyH _ _ _ _ _ _ _ (Act.put _ (some 13) _) _
    try dsimp only
    try simp only [Act.put, List.setIfInBounds_toArray, List.set_cons_zero, List.set_cons_succ]
    refine wpAnyH_take (i := 8) (v := ?_) rfl (by kernel_rfl) (by kernel_rfl) (by kernel_rfl) (fun _ _ _ h => h) (Or.inl ⟨by rfl, ?_⟩) (by assumption) ?_
    rotate_left
    · ((intro w0 hSw); (try dsimp only at hSw); go_simp; (try with_reducible rfl))
    change wpAnyH _ _ _ _ _ _ _ (Act.put _ (some 14) _) _
    try simp only [Act.put, List.setIfInBounds_toArray, List.set_cons_zero, List.set_cons_succ]
    refine wpAnyH_take (i := 9) (v := ?_) rfl (by kernel_rfl) (by kernel_rfl) (by kernel_rfl) (fun _ _ _ h => h) (Or.inl ⟨by rfl, ?_⟩) (by assumption) ?_
    rotate_left
    · ((intro w0 hSw); (try dsimp only at hSw); go_simp; (try with_reducible rfl))
    change wpAnyH _ _ _ _ _ _ _ (Act.put _ (some 15) _) _
    try simp only [Act.put, List.setIfInBounds_toArray, List.set_cons_zero, List.set_cons_succ]
    refine wpAnyH_ready (rs := [10]) (by kernel_rfl) (by simp) ?_
    refine AllReadyH.cons rfl (fun K hK => ?_) (AllReadyH.nil)
    go_simp
    go_at_call 72
    with_reducible refine (sure_bad _ _ _ hE).mono ?_
    rintro e wn2 ⟨rfl, rfl⟩
    exact ⟨rfl, clo_bad hE HB3.out⟩
end Go.Proofs.YtpbfbejckhbijaaGreatDoor
