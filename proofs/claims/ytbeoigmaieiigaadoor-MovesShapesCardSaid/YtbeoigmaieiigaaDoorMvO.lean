/- Cat of the code. -/
import Derived.Test.YtbeoigmaieiigaaDoorMvN
import Derived.Deep.DeepCutAuto
import Derived.StillTailTactics
namespace Go.Proofs.YtbeoigmaieiigaaDoor
open Go.RowKit

theorem MK2.cells {w W : World} {A B : Ar} {v u : Value} (h : MK2 w A v B u W) : MK2 w A v B u W ∧ W.cell? ⟨w.heap.size, 0, none⟩ = some (.int .i64 A.k) ∧ W.cell? ⟨w.heap.size, 1, none⟩ = some (.int .i64 A.r) ∧ W.cell? ⟨w.heap.size, 2, none⟩ = some (.int .i64 A.a) ∧ W.cell? ⟨w.heap.size, 3, none⟩ = some (.int .i64 A.b) ∧ W.cell? ⟨w.heap.size, 4, none⟩ = some v ∧
    W.cell? ⟨w.heap.size + 1, 0, none⟩ = some (.int .i64 B.k) ∧ W.cell? ⟨w.heap.size + 1, 1, none⟩ = some (.int .i64 B.r) ∧ W.cell? ⟨w.heap.size + 1, 2, none⟩ = some (.int .i64 B.a) ∧ W.cell? ⟨w.heap.size + 1, 3, none⟩ = some (.int .i64 B.b) ∧ W.cell? ⟨w.heap.size + 1, 4, none⟩ = some u :=
  ⟨h, h.c.boxA.c0, h.c.boxA.c1, h.c.boxA.c2, h.c.boxA.c3, h.c.boxA.c4, h.c.boxB.c0, h.c.boxB.c1, h.c.boxB.c2, h.c.boxB.c3, h.c.boxB.c4⟩
/-- The rows of both. -/
def Two2 (w : World) (A : Ar) (v : Value) (B : Ar) (u : Value) (p q : Option Addr) (s7 s8 : Value) (W : World) : Prop :=
  ∃ h1 h2, s7 = .slice (some ⟨h1, 0, none⟩) (rwN A) (rwN A) ∧ s8 = .slice (some ⟨h2, 0, none⟩) (rwN B) (rwN B) ∧ MK2 w A v B u W ∧ W.rowIs h1 23 (rwN A) (rp p (rwM A)) ∧ W.rowIs h2 23 (rwN B) (rp q (rwM B))
/-- What the loop of Cat keeps. -/
structure Kt (w : World) (A : Ar) (v : Value) (B : Ar) (u : Value) (p q : Option Addr) (h1 h2 h3 g gc n j : Nat) (W : World) : Prop where
  m : MK2 w A v B u W
  l1 : W.rowIs h1 23 (rwN A) (rp p (rwM A))
  l2 : W.rowIs h2 23 (rwN B) (rp q (rwM B))
  l3 : W.rowIs h3 23 (rwN A) (rp (some ⟨g, 0, none⟩) (rwM A + rwM B))
  bx : R5 W gc A.k A.r (ctA A B) (ctB A B) (.slice (some ⟨g, 0, none⟩) n n)
  row : rowZ W g n (ctF A B j)
theorem Kt.next {w W W' : World} {A B : Ar} {v u : Value} {p q : Option Addr} {h1 h2 h3 g gc n j : Nat} (k : Kt w A v B u p q h1 h2 h3 g gc n j W) (s3 : 0 + 1 ≤ w.heap.size) (hg : w.heap.size + 2 < g) (q1 : h1 ≠ g) (q2 : h2 ≠ g) (q3 : h3 ≠ g) (q4 : gc ≠ g) (gA : Good A) (gB : Good B) (hj : j < rwN A) (hj2 : j < rwN B) (hb : But g W W')
    (hr : rowZ W' g n (fun x => if j * (rwM A + rwM B) + rwM A ≤ x ∧ x < j * (rwM A + rwM B) + rwM A + rwM B then (rwI B j).getD (x - (j * (rwM A + rwM B) + rwM A)) 0 else
      if j * (rwM A + rwM B) ≤ x ∧ x < j * (rwM A + rwM B) + rwM A then (rwI A j).getD (x - j * (rwM A + rwM B)) 0 else ctF A B j x)) : Kt w A v B u p q h1 h2 h3 g gc n (j + 1) W' :=
  have hbl : Below (w.heap.size + 3) W W' := hb.below (by omega)
  ⟨k.m.far hbl (k.m.c.lay.below (by omega) hbl), k.l1.of_block (hb.block _ q1), k.l2.of_block (hb.block _ q2), k.l3.of_block (hb.block _ q3), (hb.block _ q4).trans k.bx, hr.congr fun x _ => ctF_next gA gB hj hj2 x⟩

set_option maxRecDepth 100000 in
set_option maxHeartbeats 32000000 in
theorem mcat_any (A B : Ar) (v u : Value) (w : World) (hw : Ru.Lay w) (hv : RdI w.heap.size w v A.z) (hu : RdI w.heap.size w u B.z) (hnv : Ru.NilC v) (hnu : Ru.NilC u) (hlA : A.z.length ≤ 1000000) (hlB : B.z.length ≤ 1000000) :
    Calls Tryd.prog 28 #[A5 A.k A.r A.a A.b v, A5 B.k B.r B.a B.b u] w (RetE (ctV A B) (ctE A B) w) := by
  have HFa := Lib.hid (fun W g hg h1 h2 h3 => fault2_any A B v u A.k 1 2 A.k A.r A.r W g hg h1 h2 h3 hlA hlB)
  have HK := Lib.hid (MK2.new (A := A) (B := B) hw hv hu)
  have HW3 := Lib.hid hw.size
  have x0 := HK.out.c.boxA.c0; have x1 := HK.out.c.boxA.c1; have x2 := HK.out.c.boxA.c2; have x3 := HK.out.c.boxA.c3; have x4 := HK.out.c.boxA.c4; have y0 := HK.out.c.boxB.c0; have y1 := HK.out.c.boxB.c1; have y2 := HK.out.c.boxB.c2; have y3 := HK.out.c.boxB.c3; have y4 := HK.out.c.boxB.c4
  by_cases h1 : twoE A B A.k A.k 1 2 A.r A.r = 0
  · have hc := ct_ok h1
    obtain ⟨p, cap, rfl, hRa⟩ := mrows_any A v w hc.gA hc.rank hv hnv
    obtain ⟨q, dap, rfl, hRb⟩ := mrows_any B u w hc.gB (by rw [hc.same]; exact hc.rank) hu hnu
    obtain ⟨hno, hyes⟩ := ct_rows h1
    have HRa := Lib.hid hRa
    have HRb := Lib.hid hRb
    have HC := Lib.hid hc
    have HT := Lib.hid h1
    rw [h1] at HFa
    clear h1 hc hRa hRb hv hu hnv hnu hw
    by_cases hN : rwN A = rwN B
    · obtain ⟨n, hn, hn6, hcnt, hEck, hVV⟩ := hyes hN
      have k3 : (((rwN A : Nat) : Int) != ((rwN A : Nat) : Int)) = false := by simp
      rw [← hN] at HRb
      have HN := Lib.hid hN
      have HAll := Lib.hid (And.intro hn (And.intro hcnt (And.intro hEck hVV)))
      clear hno hyes hN hn hcnt hEck hVV
      go_enter Tryd.func28, Tryd.ntmps28
      go_wp2_with (go_at_call 39; (with_reducible refine (HFa.out _ _ (by first | rfl | simp) HK.out.c.lay HK.out.c.rdnA HK.out.c.rdnB).mono ?_); rintro e w1 ⟨rfl, hb⟩; have HK2 := Lib.hid (HK.out.next hb); clear HK x0 x1 x2 x3 x4 y0 y1 y2 y3 y4; have HK := HK2; clear HK2; have x0 := HK.out.c.boxA.c0; have x1 := HK.out.c.boxA.c1; have x2 := HK.out.c.boxA.c2; have x3 := HK.out.c.boxA.c3; have x4 := HK.out.c.boxA.c4; have y0 := HK.out.c.boxB.c0; have y1 := HK.out.c.boxB.c1; have y2 := HK.out.c.boxB.c2; have y3 := HK.out.c.boxB.c3; have y4 := HK.out.c.boxB.c4; clear hb)
      refine wp_region_held_drew (S := (fun W => MK2 w A (.slice p A.z.length cap) B (.slice q B.z.length dap) W ∧ W.cell? ⟨w.heap.size, 0, none⟩ = some (.int .i64 A.k) ∧ W.cell? ⟨w.heap.size, 1, none⟩ = some (.int .i64 A.r) ∧ W.cell? ⟨w.heap.size, 2, none⟩ = some (.int .i64 A.a) ∧ W.cell? ⟨w.heap.size, 3, none⟩ = some (.int .i64 A.b) ∧ W.cell? ⟨w.heap.size, 4, none⟩ = some (.slice p A.z.length cap) ∧ W.cell? ⟨w.heap.size + 1, 0, none⟩ = some (.int .i64 B.k) ∧ W.cell? ⟨w.heap.size + 1, 1, none⟩ = some (.int .i64 B.r) ∧ W.cell? ⟨w.heap.size + 1, 2, none⟩ = some (.int .i64 B.a) ∧ W.cell? ⟨w.heap.size + 1, 3, none⟩ = some (.int .i64 B.b) ∧ W.cell? ⟨w.heap.size + 1, 4, none⟩ = some (.slice q B.z.length dap))) (by kernel_rfl) ?_ (fun hHeld => ?_)
      · exact (HK.out.next (Below.refl _ _).drew).cells
      generalize World.drew _ = wd at hHeld ⊢
      refine wpAnyH_take (i := 0) (v := ?_) rfl (by kernel_rfl) (by kernel_rfl) (by kernel_rfl) (fun _ _ _ h => h) (Or.inl ⟨by rfl, ?_⟩) (by assumption) ?_
      rotate_left
      · ((intro w0 hSw); (try dsimp only at hSw); go_simp; (try with_reducible rfl))
      change wpAnyH _ _ _ _ _ _ _ (Act.put _ (some 33) _) _
      try simp only [Act.put, List.setIfInBounds_toArray, List.set_cons_zero, List.set_cons_succ]
      refine wpAnyH_take (i := 2) (v := ?_) rfl (by kernel_rfl) (by kernel_rfl) (by kernel_rfl) (fun _ _ _ h => h) (Or.inl ⟨by rfl, ?_⟩) (by assumption) ?_
      rotate_left
      · ((intro w0 hSw); (try dsimp only at hSw); go_simp; (try with_reducible rfl))
      change wpAnyH _ _ _ _ _ _ _ (Act.put _ (some 35) _) _
      try simp only [Act.put, List.setIfInBounds_toArray, List.set_cons_zero, List.set_cons_succ]
      refine wpAnyH_ready (rs := [1]) (by kernel_rfl) (by simp) ?_
      refine AllReadyH.cons rfl (fun K hK => ?_) (AllReadyH.nil)
      go_simp
      go_at_call 42
      refine (HRa.out _).mono ?_
      rintro e w1 ⟨h1, rfl, hh1, hl1, hb1⟩
      have HL1 := Lib.hid hl1
      refine hK.out _ _ ?_ (fun hHeld2 => ?_)
      · exact (hHeld.1.next hb1).cells
      clear hK K hHeld
      have hHeld := hHeld2; clear hHeld2
      try change wpAnyH _ _ _ _ _ _ _ (Act.put _ (some 34) _) _
      try dsimp only
      try simp only [Act.put, List.setIfInBounds_toArray, List.set_cons_zero, List.set_cons_succ]
      refine wpAnyH_ready (rs := [3]) (by kernel_rfl) (by simp) ?_
      refine AllReadyH.cons rfl (fun K hK => ?_) (AllReadyH.nil)
      go_simp
      go_at_call 42
      refine (HRb.out _).mono ?_
      rintro e w2 ⟨h2, rfl, hh2, hl2, hb2⟩
      have HL2 := Lib.hid hl2
      have HL1b := Lib.hid (HL1.out.of_block (hb2.block _ HL1.out.lt))
      refine hK.out _ _ ?_ (fun hHeld2 => ?_)
      · exact (hHeld.1.next hb2).cells
      clear hK K hHeld
      have hHeld := hHeld2; clear hHeld2
      try change wpAnyH _ _ _ _ _ _ _ (Act.put _ (some 36) _) _
      try dsimp only
      try simp only [Act.put, List.setIfInBounds_toArray, List.set_cons_zero, List.set_cons_succ]
      refine wpAnyH_take (i := 4) (v := ?_) rfl (by kernel_rfl) (by kernel_rfl) (by kernel_rfl) (fun _ _ _ h => h) (Or.inl ⟨by rfl, ?_⟩) (by assumption) ?_
      rotate_left
      · ((intro w0 hSw); (try dsimp only at hSw); go_simp; (try with_reducible rfl))
      change wpAnyH _ _ _ _ _ _ _ (Act.put _ (some 7) _) _
      try simp only [Act.put, List.setIfInBounds_toArray, List.set_cons_zero, List.set_cons_succ]
      refine wpAnyH_take (i := 5) (v := ?_) rfl (by kernel_rfl) (by kernel_rfl) (by kernel_rfl) (fun _ _ _ h => h) (Or.inl ⟨by rfl, ?_⟩) (by assumption) ?_
      rotate_left
      · ((intro w0 hSw); (try dsimp only at hSw); go_simp; (try with_reducible rfl))
      change wpAnyH _ _ _ _ _ _ _ (Act.put _ (some 8) _) _
      try simp only [Act.put, List.setIfInBounds_toArray, List.set_cons_zero, List.set_cons_succ]
      refine wpAnyH_done (by kernel_rfl) ?_ _
      have HK2 := Lib.hid hHeld.1
      clear HK hHeld HL1 hh1 hl1 hb1 hh2 hl2 hb2 x0 x1 x2 x3 x4 y0 y1 y2 y3 y4
      have HK := HK2
      clear HK2
      have x0 := HK.out.c.boxA.c0; have x1 := HK.out.c.boxA.c1; have x2 := HK.out.c.boxA.c2; have x3 := HK.out.c.boxA.c3; have x4 := HK.out.c.boxA.c4; have y0 := HK.out.c.boxB.c0; have y1 := HK.out.c.boxB.c1; have y2 := HK.out.c.boxB.c2; have y3 := HK.out.c.boxB.c3; have y4 := HK.out.c.boxB.c4
      have HS2 : Hid (w.heap.size + 3 ≤ w2.heap.size) := HK.out.sz
      rcases HC.out.rank with hr | hr
      · go_wp2_with fail
        generalize hW : World.alloc w2 _ = W3
        have HK3 : Hid (MK2 w A (.slice p A.z.length cap) B (.slice q B.z.length dap) W3) := by rw [← hW]; exact HK.out.next (bel1 w2 _)
        have HG3 : Hid (R2 W3 w2.heap.size A.a A.b) := by rw [← hW]; exact R2.new w2 A.a A.b
        have hW3 : ∀ c, c < w2.heap.size → W3.heap[c]? = w2.heap[c]? := fun c hc => by rw [← hW]; exact Below.heap_alloc _ _ _ hc
        clear hW HK x0 x1 x2 x3 x4 y0 y1 y2 y3 y4
        have x1 := HK3.out.c.boxA.c1
        rw [hr] at x1
        have v0 := HG3.out.c0; have v1 := HG3.out.c1; have vf := HG3.out.fr 0
        have y2 := HK3.out.c.boxB.c2
        have hw0 : IntKind.i64.wrap 0 = 0 := by rw [IntKind.wrap_i64]; omega
        have hw1 : IntKind.i64.wrap 1 = 1 := by rw [IntKind.wrap_i64]; omega
        have hwr : IntKind.i64.wrap (A.a + B.a) = ctA A B := by have := HC.out.gA.sh; have hb := rw_vec HC.out.gA hr; have hb2 := rw_vec HC.out.gB (HC.out.same.trans hr); have h4 := HC.out.gA.len4; have h5 := HC.out.gB.len4; unfold ctA; rw [if_pos hr, IntKind.wrap_i64]; omega
        go_still_tail 13, (by kernel_rfl)
        change wpList _ _ _ _ _ W3.drew
        have HKd := Lib.hid (HK3.out.next (Below.refl W3.heap.size W3).drew)
        have HGd : Hid (R2 W3.drew w2.heap.size A.a A.b) := HG3.out.next (Below.refl _ _).drew
        have hWd : ∀ c, c < w2.heap.size → W3.drew.heap[c]? = w2.heap[c]? := hW3
        generalize W3.drew = Wd at HKd HGd hWd ⊢
        clear HK3 HG3 hW3 x1 v0 v1 vf y2 hw0 hw1
        have q0 := HGd.out.c0; have vf := HGd.out.fr 0
        have HG4 : Hid (R2 (Wd.setCell ⟨w2.heap.size, 0, none⟩ (.int .i64 (ctA A B))) w2.heap.size (ctA A B) (ctB A B)) := by have := HGd.out.put0 (ctA A B); unfold Hid; rwa [show A.b = ctB A B from (if_pos hr).symm] at this
        have hws : w.heap.size + 3 ≤ w2.heap.size := HS2.out
        have HB4 : Hid (Below (w.heap.size + 3) Wd (Wd.setCell ⟨w2.heap.size, 0, none⟩ (.int .i64 (ctA A B)))) := (Below.refl _ _).setCell (p := ⟨w2.heap.size, 0, none⟩) (by show w.heap.size + 3 ≤ w2.heap.size; omega) _
        have HK := Lib.hid (HKd.out.far HB4.out (HKd.out.c.lay.below (by have := HW3.out; omega) HB4.out))
        have HL1c : Hid ((Wd.setCell ⟨w2.heap.size, 0, none⟩ (.int .i64 (ctA A B))).rowIs h1 23 (rwN A) (rp p (rwM A))) := HL1b.out.of_block (by rw [← hWd h1 HL1b.out.lt]; exact (Below.heap_setCell _ _ _ _ (by show h1 ≠ w2.heap.size; have := HL1b.out.lt; omega)))
        have HL2c : Hid ((Wd.setCell ⟨w2.heap.size, 0, none⟩ (.int .i64 (ctA A B))).rowIs h2 23 (rwN A) (rp q (rwM B))) := HL2.out.of_block (by rw [← hWd h2 HL2.out.lt]; exact (Below.heap_setCell _ _ _ _ (by show h2 ≠ w2.heap.size; have := HL2.out.lt; omega)))
        have HG5 := HG4
        clear HGd HG4 HKd HB4 HL1b HL2 hWd hr
        have x0 := HK.out.c.boxA.c0; have x1 := HK.out.c.boxA.c1; have x2 := HK.out.c.boxA.c2; have x3 := HK.out.c.boxA.c3; have x4 := HK.out.c.boxA.c4; have y0 := HK.out.c.boxB.c0; have y1 := HK.out.c.boxB.c1; have y2 := HK.out.c.boxB.c2; have y3 := HK.out.c.boxB.c3; have y4 := HK.out.c.boxB.c4
        have v0 := HG5.out.c0; have v1 := HG5.out.c1
        obtain ⟨hn, hcnt, hEck, hVV⟩ := HAll.out
        by_cases hE : ctE A B = 0
        · obtain ⟨hV1, hn4⟩ := hVV hE
          have HBl := Lib.hid (fun W hw => blank_ok (by rw [← hEck]; exact hE) W hw hcnt hn6)
          have HRc := Lib.hid (fun g W => ct_mrows HC.out hn hn4 (ct_wide HT.out hE) g W)
          have HNn := Lib.hid hn
          have HEV := Lib.hid (And.intro hV1 hE)
          clear hV1 hE hEck hVV hcnt hn
          go_wp2_with (first
            | (go_at_call 45; (with_reducible refine (HBl.out _ HK.out.c.lay).mono ?_); rintro e w5 ⟨g, rfl, hg1, hg2, hrow, hb⟩; have hgg : w.heap.size + 2 < g := (by have := HK.out.sz; omega); have HRow := Lib.hid (hrow.alloc (.cells #[.int .i64 A.k, .int .i64 A.r, .int .i64 (ctA A B), .int .i64 (ctB A B), .slice (some ⟨g, 0, none⟩) n n] 25)); have HBx := Lib.hid (R5.new w5 A.k A.r (ctA A B) (ctB A B) (.slice (some ⟨g, 0, none⟩) n n)); have hs5 := hb.size; have HL1d := Lib.hid ((HL1c.out.of_block (hb.block h1 HL1c.out.lt)).alloc (.cells #[.int .i64 A.k, .int .i64 A.r, .int .i64 (ctA A B), .int .i64 (ctB A B), .slice (some ⟨g, 0, none⟩) n n] 25)); have HL2d := Lib.hid ((HL2c.out.of_block (hb.block h2 HL2c.out.lt)).alloc (.cells #[.int .i64 A.k, .int .i64 A.r, .int .i64 (ctA A B), .int .i64 (ctB A B), .slice (some ⟨g, 0, none⟩) n n] 25)); have hh1g : h1 ≠ g := (by have := HL1c.out.lt; omega); have hh2g : h2 ≠ g := (by have := HL2c.out.lt; omega); have HK2 := Lib.hid ((HK.out.next hb).next (bel1 w5 (.cells #[.int .i64 A.k, .int .i64 A.r, .int .i64 (ctA A B), .int .i64 (ctB A B), .slice (some ⟨g, 0, none⟩) n n] 25))); clear HK x0 x1 x2 x3 x4 y0 y1 y2 y3 y4 v0 v1 HG5 hb hrow hg1 HL1c HL2c; have HK := HK2; clear HK2; have b0 := HBx.out.c0; have b1 := HBx.out.c1; have b2 := HBx.out.c2; have b3 := HBx.out.c3; have b4 := HBx.out.c4)
            | (go_at_call 42; (with_reducible refine (HRc.out g _).mono ?_); rintro e w6 ⟨h3, rfl, hh3, hl3, hb⟩; have HRow2 := Lib.hid (HRow.out.of_block (hb.block g (by simp; omega))); have hh3g : h3 ≠ g := (by simp at hh3; omega); have HBx2 := Lib.hid (HBx.out.next hb); have HL1e := Lib.hid (HL1d.out.of_block (hb.block h1 HL1d.out.lt)); have HL2e := Lib.hid (HL2d.out.of_block (hb.block h2 HL2d.out.lt)); have HL3 := Lib.hid hl3; have HK2 := Lib.hid (HK.out.next hb); clear HK b0 b1 b2 b3 b4 hb hl3 hh3 HRow HBx HL1d HL2d; have HK := HK2; clear HK2))
          have HT0 : Hid (Kt w A (.slice p A.z.length cap) B (.slice q B.z.length dap) p q h1 h2 h3 g w5.heap.size n 0 w6) := ⟨HK.out, HL1e.out, by rw [← HN.out]; exact HL2e.out, HL3.out, HBx2.out, HRow2.out.congr fun x _ => by rw [ctF_zero]⟩
          have hgc : w5.heap.size ≠ g := by omega
          clear HK HL1e HL2e HL3 HBx2 HRow2
          obtain ⟨m, hm⟩ : ∃ m, rwN A = m := ⟨_, rfl⟩
          have HNm := Lib.hid hm
          have hm4 := (rw_good HC.out.gA).2.2.2.1
          rw [hm] at hm4 ⊢
          clear hm
          go_loopg [74] m (fun gk s wr => ∃ j : Nat, j + gk = m ∧ s = .int .i64 j ∧ Kt w A (.slice p A.z.length cap) B (.slice q B.z.length dap) p q h1 h2 h3 g w5.heap.size n j wr)
          case atStart => exact ⟨0, by omega, rfl, HT0.out⟩
          case round =>
            obtain ⟨j, hjg, rfl, hk⟩ := hrel
            have HV := Lib.hid hk
            clear hk HT0
            cases gk with
            | zero =>
              have hjz : ¬ ((j : Int) < (m : Int)) := by omega
              have HF : Hid (rowZ wr g n (fun x => (ctZ A B).getD x 0)) := HV.out.row.congr fun x hx => by unfold ctF; rw [if_pos (by rw [show j = rwN A by rw [HNm.out]; omega, ← HNn.out]; exact hx)]
              have b0 := HV.out.bx.c0; have b1 := HV.out.bx.c1; have b2 := HV.out.bx.c2; have b3 := HV.out.bx.c3; have b4 := HV.out.bx.c4
              have y0 := HV.out.m.res.c0; have y1 := HV.out.m.res.c1; have y2 := HV.out.m.res.c2; have y3 := HV.out.m.res.c3; have y4 := HV.out.m.res.c4; have f0 := HV.out.m.res.fr 0; have f1 := HV.out.m.res.fr 1; have f2 := HV.out.m.res.fr 2; have f3 := HV.out.m.res.fr 3; have f4 := HV.out.m.res.fr 4; have HS := Lib.hid (HV.out.m.res.set A.k A.r (ctA A B) (ctB A B) (.slice (some ⟨g, 0, none⟩) n n)); have z0 := HS.out.c0; have z1 := HS.out.c1; have z2 := HS.out.c2; have z3 := HS.out.c3; have z4 := HS.out.c4
              go_wp2
              refine bodyPost_ret (v := .tuple #[A5 A.k A.r (ctA A B) (ctB A B) (.slice (some ⟨g, 0, none⟩) n n), .int .i64 0]) (by simp [results, Tryd.results28, go_sem, z0, z1, z2, z3, z4]) rfl ?_
              rw [HEV.out.1, HEV.out.2]
              exact ⟨_, rfl, zf_new (by rw [HNn.out]; exact ctZ_len A B) (World.rowIs.of_block HF.out.zf (st5_other _ _ _ _ _ (by omega))) (by omega) (by omega), st5_below _ _ _ _ _ (by omega) HV.out.m.c.bel⟩
            | succ g2 =>
              have hjz : (j : Int) < (m : Int) := by omega
              have hj : j < rwN A := by rw [HNm.out]; omega
              have hj2 : j < rwN B := by rw [← HN.out]; exact hj
              have hle := Nat.mul_le_mul_right (rwM A + rwM B) (show j + 1 ≤ rwN A by omega)
              rw [Nat.add_mul, Nat.one_mul, ← HNn.out] at hle
              have HNx : ∀ W', But g wr W' → rowZ W' g n (fun x => if j * (rwM A + rwM B) + rwM A ≤ x ∧ x < j * (rwM A + rwM B) + rwM A + rwM B then (rwI B j).getD (x - (j * (rwM A + rwM B) + rwM A)) 0 else if j * (rwM A + rwM B) ≤ x ∧ x < j * (rwM A + rwM B) + rwM A then (rwI A j).getD (x - j * (rwM A + rwM B)) 0 else ctF A B j x) → Kt w A (.slice p A.z.length cap) B (.slice q B.z.length dap) p q h1 h2 h3 g w5.heap.size n (j + 1) W' := fun W' hb hr => HV.out.next HW3.out hgg hh1g hh2g hh3g hgc HC.out.gA HC.out.gB hj hj2 hb hr
              have HNx := Lib.hid HNx
              have x7 : wr.cell? ⟨h3, j, none⟩ = some (.slice (some ⟨g, j * (rwM A + rwM B), none⟩) (rwM A + rwM B) (rwM A + rwM B)) := by rw [HV.out.l3.cell hj, rp_some, Nat.zero_add]
              have x8 : wr.cell? ⟨h1, j, none⟩ = some (rp p (rwM A) j) := HV.out.l1.cell hj
              have hl1 := rwI_len HC.out.gA hj
              have hl2 := rwI_len HC.out.gB hj2
              obtain ⟨w7, hcp, hrow, hbut⟩ := copy_run HV.out.row (j * (rwM A + rwM B)) (rwM A + rwM B) (rwM A + rwM B) (rp_rd HC.out.gA HV.out.m.c.rdA hj) (rwM A) (by omega) (by omega)
              have x9 : w7.cell? ⟨h2, j, none⟩ = some (rp q (rwM B) j) := (HV.out.l2.of_block (hbut.block _ hh2g)).cell hj2
              have HRd2 := Lib.hid ((rp_rd HC.out.gB HV.out.m.c.rdB hj2).below (hbut.below (by omega)))
              have HRow := Lib.hid hrow
              have HBut := Lib.hid hbut
              have HL2n := Lib.hid hl2
              have hw0 : IntKind.i64.wrap ((j : Int) + 1) = (j : Int) + 1 := by rw [IntKind.wrap_i64]; omega
              clear hrow hbut hl1 hl2
              obtain ⟨m1, hm1⟩ : ∃ m1, rwM A = m1 := ⟨_, rfl⟩
              obtain ⟨m2, hm2⟩ : ∃ m2, rwM B = m2 := ⟨_, rfl⟩
              rw [hm1, hm2] at HNx x7 HRow hle hcp
              rw [hm1] at x8
              rw [hm2] at x9 HRd2 HL2n
              clear hm1 hm2
              generalize rp p m1 j = r1 at x8 hcp
              generalize rp q m2 j = r2 at x9 HRd2
              by_cases hz : m2 = 0
              · subst hz
                rw [Nat.add_zero] at HNx x7 HRow hle hcp
                go_wp2_with fail
                go_still_tail 7, (by kernel_rfl)
                change wpList _ _ _ _ _ w7.drew
                obtain ⟨w8, hcp2, hrow2, hbut2⟩ := copy_run (w := w7.drew) HRow.out (j * m1) 0 0 (HRd2.out.below (Below.refl w.heap.size w7).drew) 0 (by have := HL2n.out; omega) (by omega)
                have HB8 := Lib.hid ((HBut.out.drew).trans hbut2)
                have HRow8 := Lib.hid hrow2
                generalize w7.drew = wd at hcp2 ⊢
                have HNw := Lib.hid (HNx.out w8 HB8.out (HRow8.out.congr fun x _ => by rw [if_neg (by omega)]; symm; rw [if_neg (by omega)]))
                clear HRow8 HB8 hrow2 hbut2 x7 x8 x9 hcp HNx HRow HRd2 HBut
                go_wp2
                go_roundg g2
                case measure => omega
                case rel => exact ⟨j + 1, by omega, by go_num, HNw.out⟩
              · have hzp : 0 < m2 := by omega
                have hz2 : 0 < m1 + m2 - m1 := by omega
                have hz3 : m1 + m2 - m1 = m2 := by omega
                have hz4 : (m1 : Int) ≤ (m1 : Int) + (m2 : Int) := by omega
                clear hz
                go_wp2_with fail
                go_still_tail 7, (by kernel_rfl)
                change wpList _ _ _ _ _ w7.drew
                obtain ⟨w8, hcp2, hrow2, hbut2⟩ := copy_run (w := w7.drew) HRow.out (j * (m1 + m2) + m1) m2 m2 (HRd2.out.below (Below.refl w.heap.size w7).drew) m2 (by have := HL2n.out; omega) (by omega)
                have HB8 := Lib.hid ((HBut.out.drew).trans hbut2)
                have HRow8 := Lib.hid hrow2
                generalize w7.drew = wd at hcp2 ⊢
                have HNw := Lib.hid (HNx.out w8 HB8.out HRow8.out)
                clear HRow8 HB8 hrow2 hbut2 x7 x8 x9 hcp HNx HRow HRd2 HBut
                go_wp2
                go_roundg g2
                case measure => omega
                case rel => exact ⟨j + 1, by omega, by go_num, HNw.out⟩
        · have HBl := Lib.hid (fun W hw => blank_no (by rw [← hEck]; exact hE) W hw hcnt hn6)
          rw [← hEck] at HBl
          have HEV := Lib.hid hE
          have k1 : (ctE A B != 0) = true := by simpa using hE
          clear hE hEck hVV hcnt hn
          go_wp2_with (go_at_call 45; (with_reducible refine (HBl.out _ HK.out.c.lay).mono ?_); rintro e w5 ⟨qx, cx, rfl, hb⟩; have HK2 := Lib.hid ((HK.out.next hb).next (bel1 w5 (.cells #[.int .i64 0, .int .i64 0, .int .i64 0, .int .i64 0, .slice qx 0 cx] 25))); clear HK x0 x1 x2 x3 x4 y0 y1 y2 y3 y4 v0 v1 HG5 hb; have HK := HK2; clear HK2; have y0 := HK.out.res.c0; have y1 := HK.out.res.c1; have y2 := HK.out.res.c2; have y3 := HK.out.res.c3; have y4 := HK.out.res.c4; have f0 := HK.out.res.fr 0; have f1 := HK.out.res.fr 1; have f2 := HK.out.res.fr 2; have f3 := HK.out.res.fr 3; have f4 := HK.out.res.fr 4; have HS := Lib.hid (HK.out.res.set 0 0 0 0 (.slice none 0 0)); have z0 := HS.out.c0; have z1 := HS.out.c1; have z2 := HS.out.c2; have z3 := HS.out.c3; have z4 := HS.out.c4)
          refine bodyPost_ret (v := .tuple #[A5 0 0 0 0 (.slice none 0 0), .int .i64 (ctE A B)]) (by simp [results, Tryd.results28, go_sem, z0, z1, z2, z3, z4]) rfl ?_
          rw [show ctV A B = Ar.no from orNo_no HEV.out]
          exact retE_no _ (st5_below _ _ _ _ _ (by omega) HK.out.c.bel)
      · go_wp2_with fail
        generalize hW : World.alloc w2 _ = W3
        have HK3 : Hid (MK2 w A (.slice p A.z.length cap) B (.slice q B.z.length dap) W3) := by rw [← hW]; exact HK.out.next (bel1 w2 _)
        have HG3 : Hid (R2 W3 w2.heap.size A.a A.b) := by rw [← hW]; exact R2.new w2 A.a A.b
        have hW3 : ∀ c, c < w2.heap.size → W3.heap[c]? = w2.heap[c]? := fun c hc => by rw [← hW]; exact Below.heap_alloc _ _ _ hc
        clear hW HK x0 x1 x2 x3 x4 y0 y1 y2 y3 y4
        have x1 := HK3.out.c.boxA.c1
        rw [hr] at x1
        have v0 := HG3.out.c0; have v1 := HG3.out.c1; have vf := HG3.out.fr 1
        have y3 := HK3.out.c.boxB.c3
        have hw0 : IntKind.i64.wrap 0 = 0 := by rw [IntKind.wrap_i64]; omega
        have hw1 : IntKind.i64.wrap 1 = 1 := by rw [IntKind.wrap_i64]; omega
        have hwr : IntKind.i64.wrap (A.b + B.b) = ctB A B := by have hb := rw_mat HC.out.gA hr; have hb2 := rw_mat HC.out.gB (HC.out.same.trans hr); unfold ctB; rw [if_neg (by omega), IntKind.wrap_i64]; omega
        go_still_tail 13, (by kernel_rfl)
        change wpList _ _ _ _ _ W3.drew
        have HKd := Lib.hid (HK3.out.next (Below.refl W3.heap.size W3).drew)
        have HGd : Hid (R2 W3.drew w2.heap.size A.a A.b) := HG3.out.next (Below.refl _ _).drew
        have hWd : ∀ c, c < w2.heap.size → W3.drew.heap[c]? = w2.heap[c]? := hW3
        generalize W3.drew = Wd at HKd HGd hWd ⊢
        clear HK3 HG3 hW3 x1 v0 v1 vf y3 hw0 hw1
        have q1 := HGd.out.c1; have vf := HGd.out.fr 1
        have HG4 : Hid (R2 (Wd.setCell ⟨w2.heap.size, 1, none⟩ (.int .i64 (ctB A B))) w2.heap.size (ctA A B) (ctB A B)) := by have := HGd.out.put1 (ctB A B); unfold Hid; rwa [show A.a = ctA A B from (if_neg (by omega)).symm] at this
        have hws : w.heap.size + 3 ≤ w2.heap.size := HS2.out
        have HB4 : Hid (Below (w.heap.size + 3) Wd (Wd.setCell ⟨w2.heap.size, 1, none⟩ (.int .i64 (ctB A B)))) := (Below.refl _ _).setCell (p := ⟨w2.heap.size, 1, none⟩) (by show w.heap.size + 3 ≤ w2.heap.size; omega) _
        have HK := Lib.hid (HKd.out.far HB4.out (HKd.out.c.lay.below (by have := HW3.out; omega) HB4.out))
        have HL1c : Hid ((Wd.setCell ⟨w2.heap.size, 1, none⟩ (.int .i64 (ctB A B))).rowIs h1 23 (rwN A) (rp p (rwM A))) := HL1b.out.of_block (by rw [← hWd h1 HL1b.out.lt]; exact (Below.heap_setCell _ _ _ _ (by show h1 ≠ w2.heap.size; have := HL1b.out.lt; omega)))
        have HL2c : Hid ((Wd.setCell ⟨w2.heap.size, 1, none⟩ (.int .i64 (ctB A B))).rowIs h2 23 (rwN A) (rp q (rwM B))) := HL2.out.of_block (by rw [← hWd h2 HL2.out.lt]; exact (Below.heap_setCell _ _ _ _ (by show h2 ≠ w2.heap.size; have := HL2.out.lt; omega)))
        have HG5 := HG4
        clear HGd HG4 HKd HB4 HL1b HL2 hWd hr
        have x0 := HK.out.c.boxA.c0; have x1 := HK.out.c.boxA.c1; have x2 := HK.out.c.boxA.c2; have x3 := HK.out.c.boxA.c3; have x4 := HK.out.c.boxA.c4; have y0 := HK.out.c.boxB.c0; have y1 := HK.out.c.boxB.c1; have y2 := HK.out.c.boxB.c2; have y3 := HK.out.c.boxB.c3; have y4 := HK.out.c.boxB.c4
        have v0 := HG5.out.c0; have v1 := HG5.out.c1
        obtain ⟨hn, hcnt, hEck, hVV⟩ := HAll.out
        by_cases hE : ctE A B = 0
        · obtain ⟨hV1, hn4⟩ := hVV hE
          have HBl := Lib.hid (fun W hw => blank_ok (by rw [← hEck]; exact hE) W hw hcnt hn6)
          have HRc := Lib.hid (fun g W => ct_mrows HC.out hn hn4 (ct_wide HT.out hE) g W)
          have HNn := Lib.hid hn
          have HEV := Lib.hid (And.intro hV1 hE)
          clear hV1 hE hEck hVV hcnt hn
          go_wp2_with (first
            | (go_at_call 45; (with_reducible refine (HBl.out _ HK.out.c.lay).mono ?_); rintro e w5 ⟨g, rfl, hg1, hg2, hrow, hb⟩; have hgg : w.heap.size + 2 < g := (by have := HK.out.sz; omega); have HRow := Lib.hid (hrow.alloc (.cells #[.int .i64 A.k, .int .i64 A.r, .int .i64 (ctA A B), .int .i64 (ctB A B), .slice (some ⟨g, 0, none⟩) n n] 25)); have HBx := Lib.hid (R5.new w5 A.k A.r (ctA A B) (ctB A B) (.slice (some ⟨g, 0, none⟩) n n)); have hs5 := hb.size; have HL1d := Lib.hid ((HL1c.out.of_block (hb.block h1 HL1c.out.lt)).alloc (.cells #[.int .i64 A.k, .int .i64 A.r, .int .i64 (ctA A B), .int .i64 (ctB A B), .slice (some ⟨g, 0, none⟩) n n] 25)); have HL2d := Lib.hid ((HL2c.out.of_block (hb.block h2 HL2c.out.lt)).alloc (.cells #[.int .i64 A.k, .int .i64 A.r, .int .i64 (ctA A B), .int .i64 (ctB A B), .slice (some ⟨g, 0, none⟩) n n] 25)); have hh1g : h1 ≠ g := (by have := HL1c.out.lt; omega); have hh2g : h2 ≠ g := (by have := HL2c.out.lt; omega); have HK2 := Lib.hid ((HK.out.next hb).next (bel1 w5 (.cells #[.int .i64 A.k, .int .i64 A.r, .int .i64 (ctA A B), .int .i64 (ctB A B), .slice (some ⟨g, 0, none⟩) n n] 25))); clear HK x0 x1 x2 x3 x4 y0 y1 y2 y3 y4 v0 v1 HG5 hb hrow hg1 HL1c HL2c; have HK := HK2; clear HK2; have b0 := HBx.out.c0; have b1 := HBx.out.c1; have b2 := HBx.out.c2; have b3 := HBx.out.c3; have b4 := HBx.out.c4)
            | (go_at_call 42; (with_reducible refine (HRc.out g _).mono ?_); rintro e w6 ⟨h3, rfl, hh3, hl3, hb⟩; have HRow2 := Lib.hid (HRow.out.of_block (hb.block g (by simp; omega))); have hh3g : h3 ≠ g := (by simp at hh3; omega); have HBx2 := Lib.hid (HBx.out.next hb); have HL1e := Lib.hid (HL1d.out.of_block (hb.block h1 HL1d.out.lt)); have HL2e := Lib.hid (HL2d.out.of_block (hb.block h2 HL2d.out.lt)); have HL3 := Lib.hid hl3; have HK2 := Lib.hid (HK.out.next hb); clear HK b0 b1 b2 b3 b4 hb hl3 hh3 HRow HBx HL1d HL2d; have HK := HK2; clear HK2))
          have HT0 : Hid (Kt w A (.slice p A.z.length cap) B (.slice q B.z.length dap) p q h1 h2 h3 g w5.heap.size n 0 w6) := ⟨HK.out, HL1e.out, by rw [← HN.out]; exact HL2e.out, HL3.out, HBx2.out, HRow2.out.congr fun x _ => by rw [ctF_zero]⟩
          have hgc : w5.heap.size ≠ g := by omega
          clear HK HL1e HL2e HL3 HBx2 HRow2
          obtain ⟨m, hm⟩ : ∃ m, rwN A = m := ⟨_, rfl⟩
          have HNm := Lib.hid hm
          have hm4 := (rw_good HC.out.gA).2.2.2.1
          rw [hm] at hm4 ⊢
          clear hm
          go_loopg [74] m (fun gk s wr => ∃ j : Nat, j + gk = m ∧ s = .int .i64 j ∧ Kt w A (.slice p A.z.length cap) B (.slice q B.z.length dap) p q h1 h2 h3 g w5.heap.size n j wr)
          case atStart => exact ⟨0, by omega, rfl, HT0.out⟩
          case round =>
            obtain ⟨j, hjg, rfl, hk⟩ := hrel
            have HV := Lib.hid hk
            clear hk HT0
            cases gk with
            | zero =>
              have hjz : ¬ ((j : Int) < (m : Int)) := by omega
              have HF : Hid (rowZ wr g n (fun x => (ctZ A B).getD x 0)) := HV.out.row.congr fun x hx => by unfold ctF; rw [if_pos (by rw [show j = rwN A by rw [HNm.out]; omega, ← HNn.out]; exact hx)]
              have b0 := HV.out.bx.c0; have b1 := HV.out.bx.c1; have b2 := HV.out.bx.c2; have b3 := HV.out.bx.c3; have b4 := HV.out.bx.c4
              have y0 := HV.out.m.res.c0; have y1 := HV.out.m.res.c1; have y2 := HV.out.m.res.c2; have y3 := HV.out.m.res.c3; have y4 := HV.out.m.res.c4; have f0 := HV.out.m.res.fr 0; have f1 := HV.out.m.res.fr 1; have f2 := HV.out.m.res.fr 2; have f3 := HV.out.m.res.fr 3; have f4 := HV.out.m.res.fr 4; have HS := Lib.hid (HV.out.m.res.set A.k A.r (ctA A B) (ctB A B) (.slice (some ⟨g, 0, none⟩) n n)); have z0 := HS.out.c0; have z1 := HS.out.c1; have z2 := HS.out.c2; have z3 := HS.out.c3; have z4 := HS.out.c4
              go_wp2
              refine bodyPost_ret (v := .tuple #[A5 A.k A.r (ctA A B) (ctB A B) (.slice (some ⟨g, 0, none⟩) n n), .int .i64 0]) (by simp [results, Tryd.results28, go_sem, z0, z1, z2, z3, z4]) rfl ?_
              rw [HEV.out.1, HEV.out.2]
              exact ⟨_, rfl, zf_new (by rw [HNn.out]; exact ctZ_len A B) (World.rowIs.of_block HF.out.zf (st5_other _ _ _ _ _ (by omega))) (by omega) (by omega), st5_below _ _ _ _ _ (by omega) HV.out.m.c.bel⟩
            | succ g2 =>
              have hjz : (j : Int) < (m : Int) := by omega
              have hj : j < rwN A := by rw [HNm.out]; omega
              have hj2 : j < rwN B := by rw [← HN.out]; exact hj
              have hle := Nat.mul_le_mul_right (rwM A + rwM B) (show j + 1 ≤ rwN A by omega)
              rw [Nat.add_mul, Nat.one_mul, ← HNn.out] at hle
              have HNx : ∀ W', But g wr W' → rowZ W' g n (fun x => if j * (rwM A + rwM B) + rwM A ≤ x ∧ x < j * (rwM A + rwM B) + rwM A + rwM B then (rwI B j).getD (x - (j * (rwM A + rwM B) + rwM A)) 0 else if j * (rwM A + rwM B) ≤ x ∧ x < j * (rwM A + rwM B) + rwM A then (rwI A j).getD (x - j * (rwM A + rwM B)) 0 else ctF A B j x) → Kt w A (.slice p A.z.length cap) B (.slice q B.z.length dap) p q h1 h2 h3 g w5.heap.size n (j + 1) W' := fun W' hb hr => HV.out.next HW3.out hgg hh1g hh2g hh3g hgc HC.out.gA HC.out.gB hj hj2 hb hr
              have HNx := Lib.hid HNx
              have x7 : wr.cell? ⟨h3, j, none⟩ = some (.slice (some ⟨g, j * (rwM A + rwM B), none⟩) (rwM A + rwM B) (rwM A + rwM B)) := by rw [HV.out.l3.cell hj, rp_some, Nat.zero_add]
              have x8 : wr.cell? ⟨h1, j, none⟩ = some (rp p (rwM A) j) := HV.out.l1.cell hj
              have hl1 := rwI_len HC.out.gA hj
              have hl2 := rwI_len HC.out.gB hj2
              obtain ⟨w7, hcp, hrow, hbut⟩ := copy_run HV.out.row (j * (rwM A + rwM B)) (rwM A + rwM B) (rwM A + rwM B) (rp_rd HC.out.gA HV.out.m.c.rdA hj) (rwM A) (by omega) (by omega)
              have x9 : w7.cell? ⟨h2, j, none⟩ = some (rp q (rwM B) j) := (HV.out.l2.of_block (hbut.block _ hh2g)).cell hj2
              have HRd2 := Lib.hid ((rp_rd HC.out.gB HV.out.m.c.rdB hj2).below (hbut.below (by omega)))
              have HRow := Lib.hid hrow
              have HBut := Lib.hid hbut
              have HL2n := Lib.hid hl2
              have hw0 : IntKind.i64.wrap ((j : Int) + 1) = (j : Int) + 1 := by rw [IntKind.wrap_i64]; omega
              clear hrow hbut hl1 hl2
              obtain ⟨m1, hm1⟩ : ∃ m1, rwM A = m1 := ⟨_, rfl⟩
              obtain ⟨m2, hm2⟩ : ∃ m2, rwM B = m2 := ⟨_, rfl⟩
              rw [hm1, hm2] at HNx x7 HRow hle hcp
              rw [hm1] at x8
              rw [hm2] at x9 HRd2 HL2n
              clear hm1 hm2
              generalize rp p m1 j = r1 at x8 hcp
              generalize rp q m2 j = r2 at x9 HRd2
              by_cases hz : m2 = 0
              · subst hz
                rw [Nat.add_zero] at HNx x7 HRow hle hcp
                go_wp2_with fail
                go_still_tail 7, (by kernel_rfl)
                change wpList _ _ _ _ _ w7.drew
                obtain ⟨w8, hcp2, hrow2, hbut2⟩ := copy_run (w := w7.drew) HRow.out (j * m1) 0 0 (HRd2.out.below (Below.refl w.heap.size w7).drew) 0 (by have := HL2n.out; omega) (by omega)
                have HB8 := Lib.hid ((HBut.out.drew).trans hbut2)
                have HRow8 := Lib.hid hrow2
                generalize w7.drew = wd at hcp2 ⊢
                have HNw := Lib.hid (HNx.out w8 HB8.out (HRow8.out.congr fun x _ => by rw [if_neg (by omega)]; symm; rw [if_neg (by omega)]))
                clear HRow8 HB8 hrow2 hbut2 x7 x8 x9 hcp HNx HRow HRd2 HBut
                go_wp2
                go_roundg g2
                case measure => omega
                case rel => exact ⟨j + 1, by omega, by go_num, HNw.out⟩
              · have hzp : 0 < m2 := by omega
                have hz2 : 0 < m1 + m2 - m1 := by omega
                have hz3 : m1 + m2 - m1 = m2 := by omega
                have hz4 : (m1 : Int) ≤ (m1 : Int) + (m2 : Int) := by omega
                clear hz
                go_wp2_with fail
                go_still_tail 7, (by kernel_rfl)
                change wpList _ _ _ _ _ w7.drew
                obtain ⟨w8, hcp2, hrow2, hbut2⟩ := copy_run (w := w7.drew) HRow.out (j * (m1 + m2) + m1) m2 m2 (HRd2.out.below (Below.refl w.heap.size w7).drew) m2 (by have := HL2n.out; omega) (by omega)
                have HB8 := Lib.hid ((HBut.out.drew).trans hbut2)
                have HRow8 := Lib.hid hrow2
                generalize w7.drew = wd at hcp2 ⊢
                have HNw := Lib.hid (HNx.out w8 HB8.out HRow8.out)
                clear HRow8 HB8 hrow2 hbut2 x7 x8 x9 hcp HNx HRow HRd2 HBut
                go_wp2
                go_roundg g2
                case measure => omega
                case rel => exact ⟨j + 1, by omega, by go_num, HNw.out⟩
        · have HBl := Lib.hid (fun W hw => blank_no (by rw [← hEck]; exact hE) W hw hcnt hn6)
          rw [← hEck] at HBl
          have HEV := Lib.hid hE
          have k1 : (ctE A B != 0) = true := by simpa using hE
          clear hE hEck hVV hcnt hn
          go_wp2_with (go_at_call 45; (with_reducible refine (HBl.out _ HK.out.c.lay).mono ?_); rintro e w5 ⟨qx, cx, rfl, hb⟩; have HK2 := Lib.hid ((HK.out.next hb).next (bel1 w5 (.cells #[.int .i64 0, .int .i64 0, .int .i64 0, .int .i64 0, .slice qx 0 cx] 25))); clear HK x0 x1 x2 x3 x4 y0 y1 y2 y3 y4 v0 v1 HG5 hb; have HK := HK2; clear HK2; have y0 := HK.out.res.c0; have y1 := HK.out.res.c1; have y2 := HK.out.res.c2; have y3 := HK.out.res.c3; have y4 := HK.out.res.c4; have f0 := HK.out.res.fr 0; have f1 := HK.out.res.fr 1; have f2 := HK.out.res.fr 2; have f3 := HK.out.res.fr 3; have f4 := HK.out.res.fr 4; have HS := Lib.hid (HK.out.res.set 0 0 0 0 (.slice none 0 0)); have z0 := HS.out.c0; have z1 := HS.out.c1; have z2 := HS.out.c2; have z3 := HS.out.c3; have z4 := HS.out.c4)
          refine bodyPost_ret (v := .tuple #[A5 0 0 0 0 (.slice none 0 0), .int .i64 (ctE A B)]) (by simp [results, Tryd.results28, go_sem, z0, z1, z2, z3, z4]) rfl ?_
          rw [show ctV A B = Ar.no from orNo_no HEV.out]
          exact retE_no _ (st5_below _ _ _ _ _ (by omega) HK.out.c.bel)
    · have hE := hno hN
      rw [show ctV A B = Ar.no from orNo_no (by rw [hE]; decide), hE]
      have k3 : (((rwN A : Nat) : Int) != ((rwN B : Nat) : Int)) = true := by simpa using (show ¬ ((rwN A : Nat) : Int) = ((rwN B : Nat) : Int) by omega)
      clear hno hyes hE hN
      go_enter Tryd.func28, Tryd.ntmps28
      go_wp2_with (go_at_call 39; (with_reducible refine (HFa.out _ _ (by first | rfl | simp) HK.out.c.lay HK.out.c.rdnA HK.out.c.rdnB).mono ?_); rintro e w1 ⟨rfl, hb⟩; have HK2 := Lib.hid (HK.out.next hb); clear HK x0 x1 x2 x3 x4 y0 y1 y2 y3 y4; have HK := HK2; clear HK2; have x0 := HK.out.c.boxA.c0; have x1 := HK.out.c.boxA.c1; have x2 := HK.out.c.boxA.c2; have x3 := HK.out.c.boxA.c3; have x4 := HK.out.c.boxA.c4; have y0 := HK.out.c.boxB.c0; have y1 := HK.out.c.boxB.c1; have y2 := HK.out.c.boxB.c2; have y3 := HK.out.c.boxB.c3; have y4 := HK.out.c.boxB.c4; clear hb)
      refine wp_region_held_drew (S := (fun W => MK2 w A (.slice p A.z.length cap) B (.slice q B.z.length dap) W ∧ W.cell? ⟨w.heap.size, 0, none⟩ = some (.int .i64 A.k) ∧ W.cell? ⟨w.heap.size, 1, none⟩ = some (.int .i64 A.r) ∧ W.cell? ⟨w.heap.size, 2, none⟩ = some (.int .i64 A.a) ∧ W.cell? ⟨w.heap.size, 3, none⟩ = some (.int .i64 A.b) ∧ W.cell? ⟨w.heap.size, 4, none⟩ = some (.slice p A.z.length cap) ∧ W.cell? ⟨w.heap.size + 1, 0, none⟩ = some (.int .i64 B.k) ∧ W.cell? ⟨w.heap.size + 1, 1, none⟩ = some (.int .i64 B.r) ∧ W.cell? ⟨w.heap.size + 1, 2, none⟩ = some (.int .i64 B.a) ∧ W.cell? ⟨w.heap.size + 1, 3, none⟩ = some (.int .i64 B.b) ∧ W.cell? ⟨w.heap.size + 1, 4, none⟩ = some (.slice q B.z.length dap))) (by kernel_rfl) ?_ (fun hHeld => ?_)
      · exact (HK.out.next (Below.refl _ _).drew).cells
      generalize World.drew _ = wd at hHeld ⊢
      refine wpAnyH_take (i := 0) (v := ?_) rfl (by kernel_rfl) (by kernel_rfl) (by kernel_rfl) (fun _ _ _ h => h) (Or.inl ⟨by rfl, ?_⟩) (by assumption) ?_
      rotate_left
      · ((intro w0 hSw); (try dsimp only at hSw); go_simp; (try with_reducible rfl))
      change wpAnyH _ _ _ _ _ _ _ (Act.put _ (some 33) _) _
      try simp only [Act.put, List.setIfInBounds_toArray, List.set_cons_zero, List.set_cons_succ]
      refine wpAnyH_take (i := 2) (v := ?_) rfl (by kernel_rfl) (by kernel_rfl) (by kernel_rfl) (fun _ _ _ h => h) (Or.inl ⟨by rfl, ?_⟩) (by assumption) ?_
      rotate_left
      · ((intro w0 hSw); (try dsimp only at hSw); go_simp; (try with_reducible rfl))
      change wpAnyH _ _ _ _ _ _ _ (Act.put _ (some 35) _) _
      try simp only [Act.put, List.setIfInBounds_toArray, List.set_cons_zero, List.set_cons_succ]
      refine wpAnyH_ready (rs := [1]) (by kernel_rfl) (by simp) ?_
      refine AllReadyH.cons rfl (fun K hK => ?_) (AllReadyH.nil)
      go_simp
      go_at_call 42
      refine (HRa.out _).mono ?_
      rintro e w1 ⟨h1, rfl, hh1, hl1, hb1⟩
      have HL1 := Lib.hid hl1
      refine hK.out _ _ ?_ (fun hHeld2 => ?_)
      · exact (hHeld.1.next hb1).cells
      clear hK K hHeld
      have hHeld := hHeld2; clear hHeld2
      try change wpAnyH _ _ _ _ _ _ _ (Act.put _ (some 34) _) _
      try dsimp only
      try simp only [Act.put, List.setIfInBounds_toArray, List.set_cons_zero, List.set_cons_succ]
      refine wpAnyH_ready (rs := [3]) (by kernel_rfl) (by simp) ?_
      refine AllReadyH.cons rfl (fun K hK => ?_) (AllReadyH.nil)
      go_simp
      go_at_call 42
      refine (HRb.out _).mono ?_
      rintro e w2 ⟨h2, rfl, hh2, hl2, hb2⟩
      have HL2 := Lib.hid hl2
      have HL1b := Lib.hid (HL1.out.of_block (hb2.block _ HL1.out.lt))
      refine hK.out _ _ ?_ (fun hHeld2 => ?_)
      · exact (hHeld.1.next hb2).cells
      clear hK K hHeld
      have hHeld := hHeld2; clear hHeld2
      try change wpAnyH _ _ _ _ _ _ _ (Act.put _ (some 36) _) _
      try dsimp only
      try simp only [Act.put, List.setIfInBounds_toArray, List.set_cons_zero, List.set_cons_succ]
      refine wpAnyH_take (i := 4) (v := ?_) rfl (by kernel_rfl) (by kernel_rfl) (by kernel_rfl) (fun _ _ _ h => h) (Or.inl ⟨by rfl, ?_⟩) (by assumption) ?_
      rotate_left
      · ((intro w0 hSw); (try dsimp only at hSw); go_simp; (try with_reducible rfl))
      change wpAnyH _ _ _ _ _ _ _ (Act.put _ (some 7) _) _
      try simp only [Act.put, List.setIfInBounds_toArray, List.set_cons_zero, List.set_cons_succ]
      refine wpAnyH_take (i := 5) (v := ?_) rfl (by kernel_rfl) (by kernel_rfl) (by kernel_rfl) (fun _ _ _ h => h) (Or.inl ⟨by rfl, ?_⟩) (by assumption) ?_
      rotate_left
      · ((intro w0 hSw); (try dsimp only at hSw); go_simp; (try with_reducible rfl))
      change wpAnyH _ _ _ _ _ _ _ (Act.put _ (some 8) _) _
      try simp only [Act.put, List.setIfInBounds_toArray, List.set_cons_zero, List.set_cons_succ]
      refine wpAnyH_done (by kernel_rfl) ?_ _
      have HK2 := Lib.hid hHeld.1
      clear HK hHeld HL1 hh1 hl1 hb1 hh2 hl2 hb2 x0 x1 x2 x3 x4 y0 y1 y2 y3 y4
      have HK := HK2
      clear HK2
      have x0 := HK.out.c.boxA.c0; have x1 := HK.out.c.boxA.c1; have x2 := HK.out.c.boxA.c2; have x3 := HK.out.c.boxA.c3; have x4 := HK.out.c.boxA.c4; have y0 := HK.out.c.boxB.c0; have y1 := HK.out.c.boxB.c1; have y2 := HK.out.c.boxB.c2; have y3 := HK.out.c.boxB.c3; have y4 := HK.out.c.boxB.c4
      have y0 := HK.out.res.c0; have y1 := HK.out.res.c1; have y2 := HK.out.res.c2; have y3 := HK.out.res.c3; have y4 := HK.out.res.c4; have f0 := HK.out.res.fr 0; have f1 := HK.out.res.fr 1; have f2 := HK.out.res.fr 2; have f3 := HK.out.res.fr 3; have f4 := HK.out.res.fr 4; have HS := Lib.hid (HK.out.res.set 0 0 0 0 (.slice none 0 0)); have z0 := HS.out.c0; have z1 := HS.out.c1; have z2 := HS.out.c2; have z3 := HS.out.c3; have z4 := HS.out.c4
      go_wp2_with fail
      exact bodyPost_ret (v := .tuple #[A5 0 0 0 0 (.slice none 0 0), .int .i64 11]) (by simp [results, Tryd.results28, go_sem, z0, z1, z2, z3, z4]) rfl (retE_no _ (st5_below _ _ _ _ _ (by omega) HK.out.c.bel))
  · obtain ⟨p, cap, rfl, _, _, _⟩ := hv
    obtain ⟨q, dap, rfl, _, _, _⟩ := hu
    clear hw hnv hnu
    have hE : ctE A B = twoE A B A.k A.k 1 2 A.r A.r := if_neg h1
    rw [show ctV A B = Ar.no from orNo_no (by rw [hE]; exact h1), hE]
    clear hE
    generalize twoE A B A.k A.k 1 2 A.r A.r = E at h1 HFa ⊢
    have k1 : (E != 0) = true := by simpa using h1
    clear h1
    go_enter Tryd.func28, Tryd.ntmps28
    go_wp2_with (go_at_call 39; (with_reducible refine (HFa.out _ _ (by first | rfl | simp) HK.out.c.lay HK.out.c.rdnA HK.out.c.rdnB).mono ?_); rintro e w1 ⟨rfl, hb⟩; have HK2 := Lib.hid (HK.out.next hb); clear HK x0 x1 x2 x3 x4 y0 y1 y2 y3 y4; have HK := HK2; clear HK2; have x0 := HK.out.c.boxA.c0; have x1 := HK.out.c.boxA.c1; have x2 := HK.out.c.boxA.c2; have x3 := HK.out.c.boxA.c3; have x4 := HK.out.c.boxA.c4; have y0 := HK.out.c.boxB.c0; have y1 := HK.out.c.boxB.c1; have y2 := HK.out.c.boxB.c2; have y3 := HK.out.c.boxB.c3; have y4 := HK.out.c.boxB.c4; clear hb; have y0 := HK.out.res.c0; have y1 := HK.out.res.c1; have y2 := HK.out.res.c2; have y3 := HK.out.res.c3; have y4 := HK.out.res.c4; have f0 := HK.out.res.fr 0; have f1 := HK.out.res.fr 1; have f2 := HK.out.res.fr 2; have f3 := HK.out.res.fr 3; have f4 := HK.out.res.fr 4; have HS := Lib.hid (HK.out.res.set 0 0 0 0 (.slice none 0 0)); have z0 := HS.out.c0; have z1 := HS.out.c1; have z2 := HS.out.c2; have z3 := HS.out.c3; have z4 := HS.out.c4)
    exact bodyPost_ret (v := .tuple #[A5 0 0 0 0 (.slice none 0 0), .int .i64 E]) (by simp [results, Tryd.results28, go_sem, z0, z1, z2, z3, z4]) rfl (retE_no _ (st5_below _ _ _ _ _ (by omega) HK.out.c.bel))
end Go.Proofs.YtbeoigmaieiigaaDoor
