/- The array that is made cell by cell: making.array. -/
import Derived.Test.YtpbfbejckhbijaaGreatDoorExC
namespace Go.Proofs.YtpbfbejckhbijaaGreatDoor
open Go.RowKit

theorem exV_ok {L : Ar} {cs : List (Int × Int)} (h : feL cs = 0) : exV 0 L cs = ⟨1, L.r, L.a, L.b, vsL cs⟩ := by unfold exV exE; rw [if_pos rfl, h]; exact orNo_yes rfl
theorem exV_bad {L : Ar} {cs : List (Int × Int)} (h : feL cs ≠ 0) : exV 0 L cs = Ar.no := by unfold exV exE; rw [if_pos rfl]; exact orNo_no h
theorem R6c (w : World) (k r a b : Int) (v f : Value) : (w.alloc (.cells #[.int .i64 k, .int .i64 r, .int .i64 a, .int .i64 b, v, f] 92)).heap[w.heap.size]? = some (.cells #[.int .i64 k, .int .i64 r, .int .i64 a, .int .i64 b, v, f] 92 (0, 0)) := heap_alloc_last w _
/-- A block that holds a making: an array's five cells, and a function. -/
def Rm6 (w : World) (g : Nat) (k r a b : Int) (v f : Value) : Prop := w.heap[g]? = some (.cells #[.int .i64 k, .int .i64 r, .int .i64 a, .int .i64 b, v, f] 92 (0, 0))
/-- A block that holds an error. -/
def R1 (w : World) (g : Nat) (e : Int) : Prop := w.heap[g]? = some (.cells #[.int .i64 e] 23 (0, 0))
section
variable {w : World} {g : Nat} {k r a b e : Int} {v f : Value}
theorem Rm6.c1 (h : Rm6 w g k r a b v f) : w.cell? ⟨g, 1, none⟩ = some (.int .i64 r) := by unfold Rm6 at h; simp [World.cell?, h]
theorem Rm6.c2 (h : Rm6 w g k r a b v f) : w.cell? ⟨g, 2, none⟩ = some (.int .i64 a) := by unfold Rm6 at h; simp [World.cell?, h]
theorem Rm6.c3 (h : Rm6 w g k r a b v f) : w.cell? ⟨g, 3, none⟩ = some (.int .i64 b) := by unfold Rm6 at h; simp [World.cell?, h]
theorem Rm6.c4 (h : Rm6 w g k r a b v f) : w.cell? ⟨g, 4, none⟩ = some v := by unfold Rm6 at h; simp [World.cell?, h]
theorem Rm6.c5 (h : Rm6 w g k r a b v f) : w.cell? ⟨g, 5, none⟩ = some f := by unfold Rm6 at h; simp [World.cell?, h]
theorem Rm6.lt (h : Rm6 w g k r a b v f) : g < w.heap.size := by unfold Rm6 at h; exact (Array.getElem?_eq_some_iff.1 h).1
theorem Rm6.next {w' : World} (h : Rm6 w g k r a b v f) (hb : Below w.heap.size w w') : Rm6 w' g k r a b v f := (hb.block g h.lt).trans h
theorem Rm6.new (w : World) (k r a b : Int) (v f : Value) : Rm6 (w.alloc (.cells #[.int .i64 k, .int .i64 r, .int .i64 a, .int .i64 b, v, f] 92)) w.heap.size k r a b v f := heap_alloc_last w _
theorem Rm6.alloc (h : Rm6 w g k r a b v f) (o : Obj) : Rm6 (w.alloc o) g k r a b v f := h.next (bel1 _ _)
theorem R1.c0 (h : R1 w g e) : w.cell? ⟨g, 0, none⟩ = some (.int .i64 e) := by unfold R1 at h; simp [World.cell?, h]
theorem R1.fr (h : R1 w g e) : w.frozen? ⟨g, 0, none⟩ = false := Lib.frozen_of_heap h 0
theorem R1.lt (h : R1 w g e) : g < w.heap.size := by unfold R1 at h; exact (Array.getElem?_eq_some_iff.1 h).1
theorem R1.put (h : R1 w g e) (e' : Int) : R1 (w.setCell ⟨g, 0, none⟩ (.int .i64 e')) g e' := by
  unfold R1 at h ⊢
  simp [World.setCell, Array.getElem?_modify, h]
theorem R1.next {w' : World} (h : R1 w g e) (hb : Below w.heap.size w w') : R1 w' g e := (hb.block g h.lt).trans h
theorem R1.new (w : World) (e : Int) : R1 (w.alloc (.cells #[.int .i64 e] 23)) w.heap.size e := heap_alloc_last w _
theorem R5.setO {k r a b : Int} {v : Value} (h : R5 w g k r a b v) {g' : Nat} (hg : g' ≠ g) (i : Nat) (u : Value) : R5 (w.setCell ⟨g', i, none⟩ u) g k r a b v := (blkO w g' i u hg.symm).trans h
theorem RdN.put1 {B : Nat} {l : List Int} (h : RdN B w v l) (hg : g < B) (i : Nat) (u : Value) : RdN B (w.setCell ⟨g, i, none⟩ u) v l :=
  h.keep (Nat.le_of_eq (by simp)) fun c hc _ => blkO w g i u (by omega)
theorem R1.alloc (h : R1 w g e) (o : Obj) : R1 (w.alloc o) g e := h.next (bel1 _ _)
end
set_option maxRecDepth 100000 in
set_option maxHeartbeats 8000000 in
theorem earr1_any (L : Ar) (v : Value) (cs : List (Int × Int)) (g1 g2 : Nat) (w : World) (hw : Ru.Lay w) (hL : Good L) (hlen : cs.length = L.z.length) (hv : RdI w.heap.size w v L.z)
    (hcl : ∀ (j : Nat) (W : World) (c : Int × Int), cs[j]? = some c → Below w.heap.size w W → Calls Tryz.prog 71 #[.int .i64 j, .pointer (some ⟨g1, 0, none⟩), .pointer (some ⟨g2, 0, none⟩)] W (CloE c W)) :
    Calls Tryz.prog 74 #[.agg #[.int .i64 L.k, .int .i64 L.r, .int .i64 L.a, .int .i64 L.b, v, .func (.func 71) #[] #[.pointer (some ⟨g1, 0, none⟩), .pointer (some ⟨g2, 0, none⟩)]]] w (RetE (exV 0 L cs) (feL cs) w) := by
  have hmf : ∀ (fn : Fn) (first cap : Array Value) (w : World), (Instr.makeFunc fn first cap).run Tryz.prog w = .ok (.func fn first cap) w := fun _ _ _ _ => rfl
  have HCl := Lib.hid hcl
  have HLen := Lib.hid hlen
  have HCk : Hid (∀ z : List Int, z.length = L.z.length → ck ⟨1, L.r, L.a, L.b, z⟩ = 0) := fun z h => ex_ck hL h
  have h4 := hL.len4
  have HW0 := Lib.hid hw
  obtain ⟨p, cap, rfl, hcap, hcap2, hcell⟩ := hv
  clear hcell hcl hlen hL hw
  obtain ⟨n, hn⟩ : ∃ n, L.z.length = n := ⟨_, rfl⟩
  obtain ⟨i0, hi, hz0, hz1, hz2⟩ := info_parts info64
  have HOV : Hid (∀ h : feL cs = 0, exV 0 L cs = ⟨1, L.r, L.a, L.b, vsL cs⟩) := exV_ok
  have HOB : Hid (∀ h : feL cs ≠ 0, exV 0 L cs = Ar.no) := exV_bad
  generalize exV 0 L cs = X at HOV HOB ⊢
  generalize hF : feL cs = F at HOV HOB ⊢
  have HF := Lib.hid hF
  clear hF
  obtain ⟨k, r, a, b, z⟩ := L
  simp only at hn HCl HLen HCk HW0 HOV HOB h4 hcap ⊢
  rw [hn] at HLen HCk h4 hcap ⊢
  clear hn
  generalize hO0 : Obj.cells #[Value.int .i64 k, Value.int .i64 r, Value.int .i64 a, Value.int .i64 b, Value.slice p n cap, Value.func (.func 71) #[] #[.pointer (some ⟨g1, 0, none⟩), .pointer (some ⟨g2, 0, none⟩)]] 92 = O0
  generalize hO1 : Obj.cells #[Value.int .i64 0, Value.int .i64 0, Value.int .i64 0, Value.int .i64 0, Value.slice none 0 0] 43 = O1
  generalize hO2 : Obj.cells #[Value.int .i64 0] 23 = O2
  have e1 : (((w.alloc O0).alloc O1).alloc O2).heap.size = w.heap.size + 3 := by simp
  have hmk := run_make (P := Tryz.prog) (((w.alloc O0).alloc O1).alloc O2) 41 2 i0 (.int .i64 0) Tryz.underlying41 hi hz0 .i64 .i64 n n (by omega) (by omega) (by rw [hz2]; omega) (by omega)
  rw [Int.toNat_natCast, hz1, Nat.mul_one, e1] at hmk
  have hr0 : ((((w.alloc O0).alloc O1).alloc O2).alloc (.cells (madeCells (Value.int .i64 0).cells n) 2)).rowIs (w.heap.size + 3) 2 n (zf (vsL cs) 0) := by
    rw [← e1]
    exact (World.rowIs_made (((w.alloc O0).alloc O1).alloc O2) (.int .i64 0) n 2).congr fun i _ => by unfold zf; rw [if_neg (by omega)]
  have hb0 := bel1 (((w.alloc O0).alloc O1).alloc O2) (.cells (madeCells (Value.int .i64 0).cells n) 2)
  have hb00 : Below w.heap.size w (((w.alloc O0).alloc O1).alloc O2) := (bel1 w O0).trans (((bel1 _ O1).trans ((bel1 _ O2).mono (by simp))).mono (by simp))
  have HB0 := Lib.hid (hb00.trans (hb0.mono hb00.size))
  have hs1 : (w.alloc O0).heap.size = w.heap.size + 1 := by simp
  have hs2 : ((w.alloc O0).alloc O1).heap.size = w.heap.size + 2 := by simp
  have HM0 : Hid (Rm6 ((((w.alloc O0).alloc O1).alloc O2).alloc (.cells (madeCells (Value.int .i64 0).cells n) 2)) w.heap.size k r a b (.slice p n cap) (.func (.func 71) #[] #[.pointer (some ⟨g1, 0, none⟩), .pointer (some ⟨g2, 0, none⟩)])) := by
    unfold Hid; rw [← hO0]; exact (((Rm6.new w k r a b _ _).alloc _).alloc _).alloc _
  have HA0 : Hid (R5 ((((w.alloc O0).alloc O1).alloc O2).alloc (.cells (madeCells (Value.int .i64 0).cells n) 2)) (w.heap.size + 1) 0 0 0 0 (.slice none 0 0)) := by
    unfold Hid; rw [← hs1, ← hO1]; exact ((R5.new _ _ _ _ _ _).alloc _).alloc _
  have HE0 : Hid (R1 ((((w.alloc O0).alloc O1).alloc O2).alloc (.cells (madeCells (Value.int .i64 0).cells n) 2)) (w.heap.size + 2) 0) := by
    unfold Hid; rw [← hs2, ← hO2]; exact (R1.new _ _).alloc _
  have HR0 := Lib.hid hr0
  clear hr0 hb0 hb00 hs1 hs2
  generalize hW1 : (((w.alloc O0).alloc O1).alloc O2).alloc (.cells (madeCells (Value.int .i64 0).cells n) 2) = W1 at hmk HB0 HM0 HA0 HE0 HR0
  clear hW1
  subst hO0 hO1 hO2
  clear e1
  have x4 := HM0.out.c4
  go_enter_defers Tryz.func74, Tryz.ntmps74
  go_wp2
  clear hmk
  clear x4
  go_loopg [14] n (fun g i wr => ∃ j : Nat, j + g = n ∧ i = .int .i64 j ∧ okT cs j ∧ Below w.heap.size w wr ∧ Rm6 wr w.heap.size k r a b (.slice p n cap) (.func (.func 71) #[] #[.pointer (some ⟨g1, 0, none⟩), .pointer (some ⟨g2, 0, none⟩)]) ∧ R5 wr (w.heap.size + 1) 0 0 0 0 (.slice none 0 0) ∧ R1 wr (w.heap.size + 2) 0 ∧ wr.rowIs (w.heap.size + 3) 2 n (zf (vsL cs) j))
  case atStart => exact ⟨0, by omega, rfl, okT_zero _, HB0.out, HM0.out, HA0.out, HE0.out, HR0.out⟩
  case round =>
    obtain ⟨j, hjg, rfl, hok, hbl, hm, h5, h1, hrow⟩ := hrel
    have HOk := Lib.hid hok
    have HB := Lib.hid hbl
    have HM := Lib.hid hm
    have HA := Lib.hid h5
    have HE := Lib.hid h1
    have HRo := Lib.hid hrow
    clear hok hbl hm h5 h1 hrow HB0 HM0 HA0 HE0 HR0
    cases gk with
    | zero =>
      have hjz : ¬ ((j : Int) < (n : Int)) := by omega
      have HFz : Hid (F = 0) := by
        have h := HOk.out
        rw [show j = n by omega] at h
        exact HF.out.symm.trans (okT_all h HLen.out)
      have HRd : Hid (RdI wr.heap.size wr (.slice (some ⟨w.heap.size + 3, 0, none⟩) n n) (vsL cs)) := by
        have h := HRo.out
        rw [show j = n by omega] at h
        exact zf_all (by rw [vsL_len, HLen.out]) h (by omega)
      have HMk : Hid (∀ W, Ru.Lay W → RdI W.heap.size W (.slice (some ⟨w.heap.size + 3, 0, none⟩) n n) (vsL cs) → Calls Tryz.prog 107 #[.int .i64 1, .int .i64 r, P2 a b, .slice (some ⟨w.heap.size + 3, 0, none⟩) n n] W (RetE ⟨1, r, a, b, vsL cs⟩ 0 W)) := fun W h1 h2 => by
        have h := make_any 1 r a b (vsL cs) _ W h1 h2 (by rw [vsL_len, HLen.out]; omega)
        have hk := HCk.out (vsL cs) (by rw [vsL_len, HLen.out])
        rwa [mk_yes hk, hk] at h
      have HLay := Lib.hid (HW0.out.next HB.out)
      have x1 := HM.out.c1; have x2 := HM.out.c2; have x3 := HM.out.c3
      clear HOk HF HCl HCk HOB
      go_wp2_with (first
        | (go_at_call 107; (with_reducible refine (HMk.out _ HLay.out HRd.out).mono ?_); rintro e w2 ⟨u, rfl, hu, hb⟩; have HU := Lib.hid hu; have HB2 := Lib.hid (HB.out.trans (hb.mono HB.out.size)); have HA2 := Lib.hid (HA.out.next hb); have HE2 := Lib.hid (HE.out.next hb); have hlt := HA.out.lt; have hlt2 := HE.out.lt; clear hu hb HA HE HB x1 x2 x3; have y0 := HA2.out.c0; have y1 := HA2.out.c1; have y2 := HA2.out.c2; have y3 := HA2.out.c3; have y4 := HA2.out.c4; have f0 := HA2.out.fr 0; have f1 := HA2.out.fr 1; have f2 := HA2.out.fr 2; have f3 := HA2.out.fr 3; have f4 := HA2.out.fr 4; obtain ⟨qu, cu, hqu, _, _⟩ := HU.out.form; have hqu2 : u = .slice qu (vsL cs).length cu := hqu; subst hqu2; clear hqu; have HS := Lib.hid (HA2.out.set 1 r a b (.slice qu (vsL cs).length cu)); have HE3 : Hid (R1 (st5 w2 (w.heap.size + 1) 1 r a b (.slice qu (vsL cs).length cu)) (w.heap.size + 2) 0) := (st5_other _ _ _ _ _ (by omega)).trans HE2.out; have z0 := HE3.out.c0; have z1 := HE3.out.fr)
        | fail)
      refine leaves_cons (f := 128) (args := #[.pointer (some ⟨w.heap.size + 2, 0, none⟩)]) (by simp) (by simp [go_sem]) ?_
      refine (catch_ok _ _).mono ?_
      rintro e u' w'' ⟨rfl, rfl, rfl⟩
      have HS2 := Lib.hid (HS.out.setO (g' := w.heap.size + 2) (by omega) 0 (.int .i64 0))
      have HE4 := Lib.hid (HE3.out.put 0)
      have s0 := HS2.out.c0; have s1 := HS2.out.c1; have s2 := HS2.out.c2; have s3 := HS2.out.c3; have s4 := HS2.out.c4; have s5 := HE4.out.c0
      clear HS HE3 HA2 HE2 y0 y1 y2 y3 y4 f0 f1 f2 f3 f4 z0 z1
      exact ⟨.tuple #[A5 1 r a b (.slice qu (vsL cs).length cu), .int .i64 0], by simp [results, Tryz.results74, go_sem, s0, s1, s2, s3, s4, s5], by rw [HFz.out, HOV.out HFz.out]; exact ⟨_, rfl, ((HU.out.st5 hlt _ _ _ _ _).put1 hlt2 _ _).mono (by omega), (st5_below _ _ _ _ _ (by omega) HB2.out).setCell (p := ⟨w.heap.size + 2, 0, none⟩) (by show w.heap.size ≤ w.heap.size + 2; omega) _⟩⟩
    | succ g =>
      have hjz : (j : Int) < (n : Int) := by omega
      have hj : j < n := by omega
      obtain ⟨⟨x, E⟩, hc⟩ : ∃ c, cs[j]? = some c := ⟨_, List.getElem?_eq_getElem (by rw [HLen.out]; exact hj)⟩
      have HC1 := Lib.hid (HCl.out j wr (x, E) hc HB.out)
      have HGet : Hid ((vsL cs).getD j 0 = x) := vsL_at hc
      have x5 := HM.out.c5
      have HG3 : Hid (w.heap.size + 3 < wr.heap.size) := HRo.out.lt
      by_cases hE : E = 0
      · subst hE
        have HOk2 : Hid (okT cs (j + 1)) := okT_next HOk.out hc
        have HC2 : Hid (Calls Tryz.prog 71 #[.int .i64 j, .pointer (some ⟨g1, 0, none⟩), .pointer (some ⟨g2, 0, none⟩)] wr fun e w' => e = .returned (.int .i64 x) ∧ Below wr.heap.size wr w') := HC1.out.mono fun e w' h => ⟨by rcases h.1 with h | h; (exact h.2); exact absurd rfl h.1, h.2⟩
        clear HC1 hc HOk HCl HF HOV HOB HCk
        go_wp2_with (first
          | (go_at_call 71; (with_reducible refine HC2.out.mono ?_); rintro e w2 ⟨rfl, hb⟩; have HB2 := Lib.hid (HB.out.trans (hb.mono HB.out.size)); have HM2 := Lib.hid (HM.out.next hb); have HA2 := Lib.hid (HA.out.next hb); have HE2 := Lib.hid (HE.out.next hb); have HRo2 := Lib.hid (HRo.out.of_block (hb.block _ HG3.out)); clear hb HC2 x5; have hy : w2.cell? ⟨w.heap.size + 3, j, none⟩ = some (.int .i64 0) := (by rw [HRo2.out.cell hj]; unfold zf; rw [if_neg (by omega)]); have hyf : w2.frozen? ⟨w.heap.size + 3, j, none⟩ = false := HRo2.out.frozen j)
          | fail)
        go_roundg g
        case measure => omega
        case rel => exact ⟨j + 1, by omega, by go_num, HOk2.out, HB2.out.setCell (p := ⟨w.heap.size + 3, j, none⟩) (by show w.heap.size ≤ w.heap.size + 3; omega) _, (blkO _ _ _ _ (by omega)).trans HM2.out, (blkO _ _ _ _ (by omega)).trans HA2.out, (blkO _ _ _ _ (by omega)).trans HE2.out, zf_next HRo2.out HGet.out⟩
      · have HFe : Hid (F = E) := HF.out.symm.trans (okT_bad HOk.out hc hE)
        have HNz := Lib.hid hE
        have HC2 : Hid (Calls Tryz.prog 71 #[.int .i64 j, .pointer (some ⟨g1, 0, none⟩), .pointer (some ⟨g2, 0, none⟩)] wr fun e w' => e = .panicked [{ v := erV E, recovered := false }] ∧ Below wr.heap.size wr w') := HC1.out.mono fun e w' h => ⟨by rcases h.1 with h | h; (exact absurd h.1 HNz.out); exact h.2, h.2⟩
        clear HC1 hc HOk HCl HF HCk hE
        go_wp2_with (first
          | (go_at_call 71; (with_reducible refine HC2.out.mono ?_); rintro e w2 ⟨rfl, hb⟩; have HB2 := Lib.hid (HB.out.trans (hb.mono HB.out.size)); have HA2 := Lib.hid (HA.out.next hb); have HE2 := Lib.hid (HE.out.next hb); clear hb HC2 x5)
          | fail)
        have s5 := HE2.out.c0
        have f5 := HE2.out.fr
        refine leaves_cons (f := 128) (args := #[.pointer (some ⟨w.heap.size + 2, 0, none⟩)]) (by simp) (by simp [go_sem]) ?_
        refine (catch_bad _ 0 E [] _ s5 f5).mono ?_
        rintro e u' w'' ⟨rfl, rfl, rfl⟩
        have HS2 := Lib.hid (HA2.out.setO (g' := w.heap.size + 2) (by omega) 0 (.int .i64 E))
        have HE4 := Lib.hid (HE2.out.put E)
        clear s5
        have s0 := HS2.out.c0; have s1 := HS2.out.c1; have s2 := HS2.out.c2; have s3 := HS2.out.c3; have s4 := HS2.out.c4; have s5 := HE4.out.c0
        exact ⟨.tuple #[A5 0 0 0 0 (.slice none 0 0), .int .i64 E], by simp [results, Tryz.results74, go_sem, s0, s1, s2, s3, s4, s5], by rw [HFe.out, HOB.out (by rw [HFe.out]; exact HNz.out)]; exact ⟨_, rfl, RdN.nil _ _, HB2.out.setCell (p := ⟨w.heap.size + 2, 0, none⟩) (by show w.heap.size ≤ w.heap.size + 2; omega) _⟩⟩
set_option maxRecDepth 100000 in
set_option maxHeartbeats 8000000 in
theorem earr2_any (L : Ar) (v : Value) (cs : List (Int × Int)) (g1 g2 g3 : Nat) (w : World) (hw : Ru.Lay w) (hL : Good L) (hlen : cs.length = L.z.length) (hv : RdI w.heap.size w v L.z)
    (hcl : ∀ (j : Nat) (W : World) (c : Int × Int), cs[j]? = some c → Below w.heap.size w W → Calls Tryz.prog 77 #[.int .i64 j, .pointer (some ⟨g1, 0, none⟩), .pointer (some ⟨g2, 0, none⟩), .pointer (some ⟨g3, 0, none⟩)] W (CloE c W)) :
    Calls Tryz.prog 74 #[.agg #[.int .i64 L.k, .int .i64 L.r, .int .i64 L.a, .int .i64 L.b, v, .func (.func 77) #[] #[.pointer (some ⟨g1, 0, none⟩), .pointer (some ⟨g2, 0, none⟩), .pointer (some ⟨g3, 0, none⟩)]]] w (RetE (exV 0 L cs) (feL cs) w) := by
  have hmf : ∀ (fn : Fn) (first cap : Array Value) (w : World), (Instr.makeFunc fn first cap).run Tryz.prog w = .ok (.func fn first cap) w := fun _ _ _ _ => rfl
  have HCl := Lib.hid hcl
  have HLen := Lib.hid hlen
  have HCk : Hid (∀ z : List Int, z.length = L.z.length → ck ⟨1, L.r, L.a, L.b, z⟩ = 0) := fun z h => ex_ck hL h
  have h4 := hL.len4
  have HW0 := Lib.hid hw
  obtain ⟨p, cap, rfl, hcap, hcap2, hcell⟩ := hv
  clear hcell hcl hlen hL hw
  obtain ⟨n, hn⟩ : ∃ n, L.z.length = n := ⟨_, rfl⟩
  obtain ⟨i0, hi, hz0, hz1, hz2⟩ := info_parts info64
  have HOV : Hid (∀ h : feL cs = 0, exV 0 L cs = ⟨1, L.r, L.a, L.b, vsL cs⟩) := exV_ok
  have HOB : Hid (∀ h : feL cs ≠ 0, exV 0 L cs = Ar.no) := exV_bad
  generalize exV 0 L cs = X at HOV HOB ⊢
  generalize hF : feL cs = F at HOV HOB ⊢
  have HF := Lib.hid hF
  clear hF
  obtain ⟨k, r, a, b, z⟩ := L
  simp only at hn HCl HLen HCk HW0 HOV HOB h4 hcap ⊢
  rw [hn] at HLen HCk h4 hcap ⊢
  clear hn
  generalize hO0 : Obj.cells #[Value.int .i64 k, Value.int .i64 r, Value.int .i64 a, Value.int .i64 b, Value.slice p n cap, Value.func (.func 77) #[] #[.pointer (some ⟨g1, 0, none⟩), .pointer (some ⟨g2, 0, none⟩), .pointer (some ⟨g3, 0, none⟩)]] 92 = O0
  generalize hO1 : Obj.cells #[Value.int .i64 0, Value.int .i64 0, Value.int .i64 0, Value.int .i64 0, Value.slice none 0 0] 43 = O1
  generalize hO2 : Obj.cells #[Value.int .i64 0] 23 = O2
  have e1 : (((w.alloc O0).alloc O1).alloc O2).heap.size = w.heap.size + 3 := by simp
  have hmk := run_make (P := Tryz.prog) (((w.alloc O0).alloc O1).alloc O2) 41 2 i0 (.int .i64 0) Tryz.underlying41 hi hz0 .i64 .i64 n n (by omega) (by omega) (by rw [hz2]; omega) (by omega)
  rw [Int.toNat_natCast, hz1, Nat.mul_one, e1] at hmk
  have hr0 : ((((w.alloc O0).alloc O1).alloc O2).alloc (.cells (madeCells (Value.int .i64 0).cells n) 2)).rowIs (w.heap.size + 3) 2 n (zf (vsL cs) 0) := by
    rw [← e1]
    exact (World.rowIs_made (((w.alloc O0).alloc O1).alloc O2) (.int .i64 0) n 2).congr fun i _ => by unfold zf; rw [if_neg (by omega)]
  have hb0 := bel1 (((w.alloc O0).alloc O1).alloc O2) (.cells (madeCells (Value.int .i64 0).cells n) 2)
  have hb00 : Below w.heap.size w (((w.alloc O0).alloc O1).alloc O2) := (bel1 w O0).trans (((bel1 _ O1).trans ((bel1 _ O2).mono (by simp))).mono (by simp))
  have HB0 := Lib.hid (hb00.trans (hb0.mono hb00.size))
  have hs1 : (w.alloc O0).heap.size = w.heap.size + 1 := by simp
  have hs2 : ((w.alloc O0).alloc O1).heap.size = w.heap.size + 2 := by simp
  have HM0 : Hid (Rm6 ((((w.alloc O0).alloc O1).alloc O2).alloc (.cells (madeCells (Value.int .i64 0).cells n) 2)) w.heap.size k r a b (.slice p n cap) (.func (.func 77) #[] #[.pointer (some ⟨g1, 0, none⟩), .pointer (some ⟨g2, 0, none⟩), .pointer (some ⟨g3, 0, none⟩)])) := by
    unfold Hid; rw [← hO0]; exact (((Rm6.new w k r a b _ _).alloc _).alloc _).alloc _
  have HA0 : Hid (R5 ((((w.alloc O0).alloc O1).alloc O2).alloc (.cells (madeCells (Value.int .i64 0).cells n) 2)) (w.heap.size + 1) 0 0 0 0 (.slice none 0 0)) := by
    unfold Hid; rw [← hs1, ← hO1]; exact ((R5.new _ _ _ _ _ _).alloc _).alloc _
  have HE0 : Hid (R1 ((((w.alloc O0).alloc O1).alloc O2).alloc (.cells (madeCells (Value.int .i64 0).cells n) 2)) (w.heap.size + 2) 0) := by
    unfold Hid; rw [← hs2, ← hO2]; exact (R1.new _ _).alloc _
  have HR0 := Lib.hid hr0
  clear hr0 hb0 hb00 hs1 hs2
  generalize hW1 : (((w.alloc O0).alloc O1).alloc O2).alloc (.cells (madeCells (Value.int .i64 0).cells n) 2) = W1 at hmk HB0 HM0 HA0 HE0 HR0
  clear hW1
  subst hO0 hO1 hO2
  clear e1
  have x4 := HM0.out.c4
  go_enter_defers Tryz.func74, Tryz.ntmps74
  go_wp2
  clear hmk
  clear x4
  go_loopg [14] n (fun g i wr => ∃ j : Nat, j + g = n ∧ i = .int .i64 j ∧ okT cs j ∧ Below w.heap.size w wr ∧ Rm6 wr w.heap.size k r a b (.slice p n cap) (.func (.func 77) #[] #[.pointer (some ⟨g1, 0, none⟩), .pointer (some ⟨g2, 0, none⟩), .pointer (some ⟨g3, 0, none⟩)]) ∧ R5 wr (w.heap.size + 1) 0 0 0 0 (.slice none 0 0) ∧ R1 wr (w.heap.size + 2) 0 ∧ wr.rowIs (w.heap.size + 3) 2 n (zf (vsL cs) j))
  case atStart => exact ⟨0, by omega, rfl, okT_zero _, HB0.out, HM0.out, HA0.out, HE0.out, HR0.out⟩
  case round =>
    obtain ⟨j, hjg, rfl, hok, hbl, hm, h5, h1, hrow⟩ := hrel
    have HOk := Lib.hid hok
    have HB := Lib.hid hbl
    have HM := Lib.hid hm
    have HA := Lib.hid h5
    have HE := Lib.hid h1
    have HRo := Lib.hid hrow
    clear hok hbl hm h5 h1 hrow HB0 HM0 HA0 HE0 HR0
    cases gk with
    | zero =>
      have hjz : ¬ ((j : Int) < (n : Int)) := by omega
      have HFz : Hid (F = 0) := by
        have h := HOk.out
        rw [show j = n by omega] at h
        exact HF.out.symm.trans (okT_all h HLen.out)
      have HRd : Hid (RdI wr.heap.size wr (.slice (some ⟨w.heap.size + 3, 0, none⟩) n n) (vsL cs)) := by
        have h := HRo.out
        rw [show j = n by omega] at h
        exact zf_all (by rw [vsL_len, HLen.out]) h (by omega)
      have HMk : Hid (∀ W, Ru.Lay W → RdI W.heap.size W (.slice (some ⟨w.heap.size + 3, 0, none⟩) n n) (vsL cs) → Calls Tryz.prog 107 #[.int .i64 1, .int .i64 r, P2 a b, .slice (some ⟨w.heap.size + 3, 0, none⟩) n n] W (RetE ⟨1, r, a, b, vsL cs⟩ 0 W)) := fun W h1 h2 => by
        have h := make_any 1 r a b (vsL cs) _ W h1 h2 (by rw [vsL_len, HLen.out]; omega)
        have hk := HCk.out (vsL cs) (by rw [vsL_len, HLen.out])
        rwa [mk_yes hk, hk] at h
      have HLay := Lib.hid (HW0.out.next HB.out)
      have x1 := HM.out.c1; have x2 := HM.out.c2; have x3 := HM.out.c3
      clear HOk HF HCl HCk HOB
      go_wp2_with (first
        | (go_at_call 107; (with_reducible refine (HMk.out _ HLay.out HRd.out).mono ?_); rintro e w2 ⟨u, rfl, hu, hb⟩; have HU := Lib.hid hu; have HB2 := Lib.hid (HB.out.trans (hb.mono HB.out.size)); have HA2 := Lib.hid (HA.out.next hb); have HE2 := Lib.hid (HE.out.next hb); have hlt := HA.out.lt; have hlt2 := HE.out.lt; clear hu hb HA HE HB x1 x2 x3; have y0 := HA2.out.c0; have y1 := HA2.out.c1; have y2 := HA2.out.c2; have y3 := HA2.out.c3; have y4 := HA2.out.c4; have f0 := HA2.out.fr 0; have f1 := HA2.out.fr 1; have f2 := HA2.out.fr 2; have f3 := HA2.out.fr 3; have f4 := HA2.out.fr 4; obtain ⟨qu, cu, hqu, _, _⟩ := HU.out.form; have hqu2 : u = .slice qu (vsL cs).length cu := hqu; subst hqu2; clear hqu; have HS := Lib.hid (HA2.out.set 1 r a b (.slice qu (vsL cs).length cu)); have HE3 : Hid (R1 (st5 w2 (w.heap.size + 1) 1 r a b (.slice qu (vsL cs).length cu)) (w.heap.size + 2) 0) := (st5_other _ _ _ _ _ (by omega)).trans HE2.out; have z0 := HE3.out.c0; have z1 := HE3.out.fr)
        | fail)
      refine leaves_cons (f := 128) (args := #[.pointer (some ⟨w.heap.size + 2, 0, none⟩)]) (by simp) (by simp [go_sem]) ?_
      refine (catch_ok _ _).mono ?_
      rintro e u' w'' ⟨rfl, rfl, rfl⟩
      have HS2 := Lib.hid (HS.out.setO (g' := w.heap.size + 2) (by omega) 0 (.int .i64 0))
      have HE4 := Lib.hid (HE3.out.put 0)
      have s0 := HS2.out.c0; have s1 := HS2.out.c1; have s2 := HS2.out.c2; have s3 := HS2.out.c3; have s4 := HS2.out.c4; have s5 := HE4.out.c0
      clear HS HE3 HA2 HE2 y0 y1 y2 y3 y4 f0 f1 f2 f3 f4 z0 z1
      exact ⟨.tuple #[A5 1 r a b (.slice qu (vsL cs).length cu), .int .i64 0], by simp [results, Tryz.results74, go_sem, s0, s1, s2, s3, s4, s5], by rw [HFz.out, HOV.out HFz.out]; exact ⟨_, rfl, ((HU.out.st5 hlt _ _ _ _ _).put1 hlt2 _ _).mono (by omega), (st5_below _ _ _ _ _ (by omega) HB2.out).setCell (p := ⟨w.heap.size + 2, 0, none⟩) (by show w.heap.size ≤ w.heap.size + 2; omega) _⟩⟩
    | succ g =>
      have hjz : (j : Int) < (n : Int) := by omega
      have hj : j < n := by omega
      obtain ⟨⟨x, E⟩, hc⟩ : ∃ c, cs[j]? = some c := ⟨_, List.getElem?_eq_getElem (by rw [HLen.out]; exact hj)⟩
      have HC1 := Lib.hid (HCl.out j wr (x, E) hc HB.out)
      have HGet : Hid ((vsL cs).getD j 0 = x) := vsL_at hc
      have x5 := HM.out.c5
      have HG3 : Hid (w.heap.size + 3 < wr.heap.size) := HRo.out.lt
      by_cases hE : E = 0
      · subst hE
        have HOk2 : Hid (okT cs (j + 1)) := okT_next HOk.out hc
        have HC2 : Hid (Calls Tryz.prog 77 #[.int .i64 j, .pointer (some ⟨g1, 0, none⟩), .pointer (some ⟨g2, 0, none⟩), .pointer (some ⟨g3, 0, none⟩)] wr fun e w' => e = .returned (.int .i64 x) ∧ Below wr.heap.size wr w') := HC1.out.mono fun e w' h => ⟨by rcases h.1 with h | h; (exact h.2); exact absurd rfl h.1, h.2⟩
        clear HC1 hc HOk HCl HF HOV HOB HCk
        go_wp2_with (first
          | (go_at_call 77; (with_reducible refine HC2.out.mono ?_); rintro e w2 ⟨rfl, hb⟩; have HB2 := Lib.hid (HB.out.trans (hb.mono HB.out.size)); have HM2 := Lib.hid (HM.out.next hb); have HA2 := Lib.hid (HA.out.next hb); have HE2 := Lib.hid (HE.out.next hb); have HRo2 := Lib.hid (HRo.out.of_block (hb.block _ HG3.out)); clear hb HC2 x5; have hy : w2.cell? ⟨w.heap.size + 3, j, none⟩ = some (.int .i64 0) := (by rw [HRo2.out.cell hj]; unfold zf; rw [if_neg (by omega)]); have hyf : w2.frozen? ⟨w.heap.size + 3, j, none⟩ = false := HRo2.out.frozen j)
          | fail)
        go_roundg g
        case measure => omega
        case rel => exact ⟨j + 1, by omega, by go_num, HOk2.out, HB2.out.setCell (p := ⟨w.heap.size + 3, j, none⟩) (by show w.heap.size ≤ w.heap.size + 3; omega) _, (blkO _ _ _ _ (by omega)).trans HM2.out, (blkO _ _ _ _ (by omega)).trans HA2.out, (blkO _ _ _ _ (by omega)).trans HE2.out, zf_next HRo2.out HGet.out⟩
      · have HFe : Hid (F = E) := HF.out.symm.trans (okT_bad HOk.out hc hE)
        have HNz := Lib.hid hE
        have HC2 : Hid (Calls Tryz.prog 77 #[.int .i64 j, .pointer (some ⟨g1, 0, none⟩), .pointer (some ⟨g2, 0, none⟩), .pointer (some ⟨g3, 0, none⟩)] wr fun e w' => e = .panicked [{ v := erV E, recovered := false }] ∧ Below wr.heap.size wr w') := HC1.out.mono fun e w' h => ⟨by rcases h.1 with h | h; (exact absurd h.1 HNz.out); exact h.2, h.2⟩
        clear HC1 hc HOk HCl HF HCk hE
        go_wp2_with (first
          | (go_at_call 77; (with_reducible refine HC2.out.mono ?_); rintro e w2 ⟨rfl, hb⟩; have HB2 := Lib.hid (HB.out.trans (hb.mono HB.out.size)); have HA2 := Lib.hid (HA.out.next hb); have HE2 := Lib.hid (HE.out.next hb); clear hb HC2 x5)
          | fail)
        have s5 := HE2.out.c0
        have f5 := HE2.out.fr
        refine leaves_cons (f := 128) (args := #[.pointer (some ⟨w.heap.size + 2, 0, none⟩)]) (by simp) (by simp [go_sem]) ?_
        refine (catch_bad _ 0 E [] _ s5 f5).mono ?_
        rintro e u' w'' ⟨rfl, rfl, rfl⟩
        have HS2 := Lib.hid (HA2.out.setO (g' := w.heap.size + 2) (by omega) 0 (.int .i64 E))
        have HE4 := Lib.hid (HE2.out.put E)
        clear s5
        have s0 := HS2.out.c0; have s1 := HS2.out.c1; have s2 := HS2.out.c2; have s3 := HS2.out.c3; have s4 := HS2.out.c4; have s5 := HE4.out.c0
        exact ⟨.tuple #[A5 0 0 0 0 (.slice none 0 0), .int .i64 E], by simp [results, Tryz.results74, go_sem, s0, s1, s2, s3, s4, s5], by rw [HFe.out, HOB.out (by rw [HFe.out]; exact HNz.out)]; exact ⟨_, rfl, RdN.nil _ _, HB2.out.setCell (p := ⟨w.heap.size + 2, 0, none⟩) (by show w.heap.size ≤ w.heap.size + 2; omega) _⟩⟩
end Go.Proofs.YtpbfbejckhbijaaGreatDoor
