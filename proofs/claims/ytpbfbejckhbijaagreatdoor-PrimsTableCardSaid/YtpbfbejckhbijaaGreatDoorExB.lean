/- What extend and its reference say of operands: cell, kinds, both, fault; sure. -/
import Derived.Test.YtpbfbejckhbijaaGreatDoorExA
import Derived.Test.YtpbfbejckhbijaaGreatDoorMvKb
import Derived.Test.YtpbfbejckhbijaaGreatDoorMvP
namespace Go.Proofs.YtpbfbejckhbijaaGreatDoor
open Go.RowKit

/-- An array that can be read, and an error. -/
def RetR (A : Ar) (n : Int) (w : World) (e : Ending) (w' : World) : Prop := ∃ u, e = .returned (.tuple #[A5 A.k A.r A.a A.b u, .int .i64 n]) ∧ RdI w'.heap.size w' u A.z ∧ Below w.heap.size w w'
/-- What panics when a cell has an error. -/
abbrev erV (E : Int) : Value := .iface 23 (.int .i64 E)
theorem ret_int7 {a b : Int} (h : a = b) : Ending.returned (.int .i64 a) = .returned (.int .i64 b) := by rw [h]
theorem sure_ok (n : Int) (w : World) : Calls Tryz.prog 72 #[.int .i64 n, .int .i64 0] w fun e w' => e = .returned (.int .i64 n) ∧ w = w' := by
  go_enter Tryz.func72, Tryz.ntmps72
  go_wp2
  go_ret
  exact ⟨rfl, rfl⟩
theorem sure_bad (n E : Int) (w : World) (h : E ≠ 0) : Calls Tryz.prog 72 #[.int .i64 n, .int .i64 E] w fun e w' => e = .panicked [{ v := erV E, recovered := false }] ∧ w = w' := by
  have k1 : (E != 0) = true := by simpa using h
  clear h
  go_enter Tryz.func72, Tryz.ntmps72
  go_wp2
  exact ⟨rfl, rfl, rfl⟩
set_option maxRecDepth 100000 in
set_option maxHeartbeats 4000000 in
theorem ecell_any (A : Ar) (v : Value) (i : Nat) (w : World) (hv : RdI w.heap.size w v A.z) (hi : (if A.r = 0 then 0 else i) < A.z.length) :
    Calls Tryz.prog 79 #[A5 A.k A.r A.a A.b v, .int .i64 i] w fun e w' => e = .returned (.int .i64 (celI A i)) ∧ Below w.heap.size w w' := by
  obtain ⟨k, r, a, b, z⟩ := A
  unfold celI
  simp only at hv hi ⊢
  have hb := bel1 w (.cells #[.int .i64 k, .int .i64 r, .int .i64 a, .int .i64 b, v] 43)
  have h5 := R5.new w k r a b v
  have hv2 := hv.next hb
  obtain ⟨p, cap, rfl, hcap, hcap2, hcell⟩ := hv
  clear hcell
  obtain ⟨bk, off, rfl, hbb, hc⟩ := hv2.cells (by intro e; rw [e] at hi; simp at hi)
  have x1 := h5.c1; have x4 := h5.c4
  have HB := Lib.hid hb
  clear h5 hv2 hb hbb
  by_cases hr : r = 0
  · rw [if_pos hr] at hi ⊢
    have y0 := hc 0 hi
    simp only [Nat.add_zero] at y0
    have hg : z.getD 0 0 = z[0] := by rw [List.getD_eq_getElem?_getD, List.getElem?_eq_getElem hi]; rfl
    rw [hg]
    generalize z[0] = x at y0 ⊢
    have hlt : (0 : Int) < (z.length : Int) := by omega
    clear hc hg
    have k1 : (r == 0) = true := by simpa using hr
    clear hr
    go_enter Tryz.func79, Tryz.ntmps79
    go_wp2
    go_ret
    exact ⟨rfl, HB.out⟩
  · rw [if_neg hr] at hi ⊢
    have y0 := hc i hi
    have hg : z.getD i 0 = z[i] := by rw [List.getD_eq_getElem?_getD, List.getElem?_eq_getElem hi]; rfl
    rw [hg]
    generalize z[i] = x at y0 ⊢
    have hlt : (i : Int) < (z.length : Int) := by omega
    clear hc hg
    have k1 : (r == 0) = false := by simpa using hr
    clear hr
    go_enter Tryz.func79, Tryz.ntmps79
    go_wp2
    go_ret
    exact ⟨rfl, HB.out⟩
set_option maxRecDepth 100000 in
set_option maxHeartbeats 4000000 in
theorem rcell_any (A : Ar) (v : Value) (i : Nat) (w : World) (hv : RdI w.heap.size w v A.z) (hi : (if A.r = 0 then 0 else i) < A.z.length) :
    Calls Tryz.prog 145 #[A5 A.k A.r A.a A.b v, .int .i64 i] w fun e w' => e = .returned (.int .i64 (celI A i)) ∧ Below w.heap.size w w' := by
  obtain ⟨k, r, a, b, z⟩ := A
  unfold celI
  simp only at hv hi ⊢
  have hb := bel1 w (.cells #[.int .i64 k, .int .i64 r, .int .i64 a, .int .i64 b, v] 43)
  have h5 := R5.new w k r a b v
  have hv2 := hv.next hb
  obtain ⟨p, cap, rfl, hcap, hcap2, hcell⟩ := hv
  clear hcell
  obtain ⟨bk, off, rfl, hbb, hc⟩ := hv2.cells (by intro e; rw [e] at hi; simp at hi)
  have x1 := h5.c1; have x4 := h5.c4
  have HB := Lib.hid hb
  clear h5 hv2 hb hbb
  by_cases hr : r = 0
  · rw [if_pos hr] at hi ⊢
    have y0 := hc 0 hi
    simp only [Nat.add_zero] at y0
    have hg : z.getD 0 0 = z[0] := by rw [List.getD_eq_getElem?_getD, List.getElem?_eq_getElem hi]; rfl
    rw [hg]
    generalize z[0] = x at y0 ⊢
    have hlt : (0 : Int) < (z.length : Int) := by omega
    clear hc hg
    have k1 : (r == 0) = true := by simpa using hr
    clear hr
    go_enter Tryz.func145, Tryz.ntmps145
    go_wp2
    go_ret
    exact ⟨rfl, HB.out⟩
  · rw [if_neg hr] at hi ⊢
    have y0 := hc i hi
    have hg : z.getD i 0 = z[i] := by rw [List.getD_eq_getElem?_getD, List.getElem?_eq_getElem hi]; rfl
    rw [hg]
    generalize z[i] = x at y0 ⊢
    have hlt : (i : Int) < (z.length : Int) := by omega
    clear hc hg
    have k1 : (r == 0) = false := by simpa using hr
    clear hr
    go_enter Tryz.func145, Tryz.ntmps145
    go_wp2
    go_ret
    exact ⟨rfl, HB.out⟩
set_option maxRecDepth 100000 in
set_option maxHeartbeats 4000000 in
theorem ekinds_any (p : Int) (A B : Ar) (v u : Value) (w : World) (hv : RdI w.heap.size w v A.z) (hu : RdI w.heap.size w u B.z) :
    Calls Tryz.prog 75 #[.int .i64 p, A5 A.k A.r A.a A.b v, A5 B.k B.r B.a B.b u] w fun e w' => e = .returned (.bool (kdB p A B)) ∧ Below w.heap.size w w' := by
  have HK := Lib.hid (KD.new hv hu)
  have x0 := HK.out.b0.c0; have x1 := HK.out.b0.c1; have x2 := HK.out.b0.c2; have x3 := HK.out.b0.c3; have x4 := HK.out.b0.c4
  have y0 := HK.out.b1.c0; have y1 := HK.out.b1.c1; have y2 := HK.out.b1.c2; have y3 := HK.out.b1.c3; have y4 := HK.out.b1.c4
  obtain ⟨q, cap, rfl, _, _, _⟩ := hv
  obtain ⟨q', cap', rfl, _, _, _⟩ := hu
  unfold kdB
  by_cases h1 : p = 23
  · subst h1
    rw [if_pos (.inl rfl)]
    go_enter Tryz.func75, Tryz.ntmps75
    go_wp2
    go_ret
    exact ⟨rfl, HK.out.bel⟩
  · have k1 : (p == 23) = false := by simpa using h1
    by_cases h2 : p = 24
    · subst h2
      rw [if_pos (.inr rfl)]
      go_enter Tryz.func75, Tryz.ntmps75
      go_wp2
      go_ret
      exact ⟨rfl, HK.out.bel⟩
    · have k2 : (p == 24) = false := by simpa using h2
      rw [if_neg (fun h => h.elim h1 h2)]
      clear h1 h2
      by_cases h3 : A.k = 1
      · have k3 : (A.k == 1) = true := by simpa using h3
        rw [k3, Bool.true_and]
        clear h3
        go_enter Tryz.func75, Tryz.ntmps75
        go_wp2
        go_ret
        exact ⟨rfl, HK.out.bel⟩
      · have k3 : (A.k == 1) = false := by simpa using h3
        rw [k3, Bool.false_and]
        clear h3
        go_enter Tryz.func75, Tryz.ntmps75
        go_wp2
        go_ret
        exact ⟨rfl, HK.out.bel⟩
set_option maxRecDepth 100000 in
set_option maxHeartbeats 4000000 in
theorem rkinds_any (p : Int) (A B : Ar) (v u : Value) (w : World) (hv : RdI w.heap.size w v A.z) (hu : RdI w.heap.size w u B.z) :
    Calls Tryz.prog 142 #[.int .i64 p, A5 A.k A.r A.a A.b v, A5 B.k B.r B.a B.b u] w fun e w' => e = .returned (.int .i64 (if kdB p A B = true then 0 else 21)) ∧ Below w.heap.size w w' := by
  have HK := Lib.hid (KD.new hv hu)
  have x0 := HK.out.b0.c0; have x1 := HK.out.b0.c1; have x2 := HK.out.b0.c2; have x3 := HK.out.b0.c3; have x4 := HK.out.b0.c4
  have y0 := HK.out.b1.c0; have y1 := HK.out.b1.c1; have y2 := HK.out.b1.c2; have y3 := HK.out.b1.c3; have y4 := HK.out.b1.c4
  obtain ⟨q, cap, rfl, _, _, _⟩ := hv
  obtain ⟨q', cap', rfl, _, _, _⟩ := hu
  generalize hE : (if kdB p A B = true then (0 : Int) else 21) = E
  have HE := Lib.hid hE
  clear hE
  have hs : ∀ (a b : Bool), a = b → (if a = true then (0 : Int) else 21) = (if b = true then 0 else 21) := fun a b h => by rw [h]
  by_cases h3 : A.k = 1
  · have k3 : (A.k == 1) = true := by simpa using h3
    by_cases h4 : B.k = 1
    · have k4 : (B.k == 1) = true := by simpa using h4
      obtain rfl : E = 0 := by rw [← HE.out]; unfold kdB; rw [h3, h4]; simp
      clear h3 h4 hs
      go_enter Tryz.func142, Tryz.ntmps142
      go_wp2
      go_ret
      exact ⟨rfl, HK.out.bel⟩
    · have k4 : (B.k == 1) = false := by simpa using h4
      have k5 : (A.k == B.k) = false := by rw [h3]; simpa using fun e => h4 e.symm
      obtain rfl : E = 21 := by rw [← HE.out]; unfold kdB; rw [k4, k5]; simp
      clear h3 h4 hs
      go_enter Tryz.func142, Tryz.ntmps142
      go_wp2
      go_ret
      exact ⟨rfl, HK.out.bel⟩
  · have k3 : (A.k == 1) = false := by simpa using h3
    by_cases h4 : A.k = B.k
    · have k5 : (A.k == B.k) = true := by simpa using h4
      by_cases h1 : p = 23
      · obtain rfl : E = 0 := by rw [← HE.out, if_pos (show kdB p A B = true by unfold kdB; rw [if_pos (.inl h1), k5])]
        have k1 : (p == 23) = true := by simpa using h1
        clear h1 h3 h4 hs
        go_enter Tryz.func142, Tryz.ntmps142
        go_wp2
        go_ret
        exact ⟨rfl, HK.out.bel⟩
      · have k1 : (p == 23) = false := by simpa using h1
        by_cases h2 : p = 24
        · obtain rfl : E = 0 := by rw [← HE.out, if_pos (show kdB p A B = true by unfold kdB; rw [if_pos (.inr h2), k5])]
          have k2 : (p == 24) = true := by simpa using h2
          clear h1 h2 h3 h4 hs
          go_enter Tryz.func142, Tryz.ntmps142
          go_wp2
          go_ret
          exact ⟨rfl, HK.out.bel⟩
        · obtain rfl : E = 21 := by rw [← HE.out, if_neg (show ¬ kdB p A B = true by unfold kdB; rw [if_neg (fun h => h.elim h1 h2), k3]; simp)]
          have k2 : (p == 24) = false := by simpa using h2
          clear h1 h2 h3 h4 hs
          go_enter Tryz.func142, Tryz.ntmps142
          go_wp2
          go_ret
          exact ⟨rfl, HK.out.bel⟩
    · have k5 : (A.k == B.k) = false := by simpa using h4
      obtain rfl : E = 21 := by rw [← HE.out]; unfold kdB; rw [k3, k5]; simp
      clear h3 h4 hs
      go_enter Tryz.func142, Tryz.ntmps142
      go_wp2
      go_ret
      exact ⟨rfl, HK.out.bel⟩
set_option maxRecDepth 100000 in
set_option maxHeartbeats 4000000 in
theorem eboth_any (A B : Ar) (v u : Value) (w : World) (hv : RdI w.heap.size w v A.z) (hu : RdI w.heap.size w u B.z) :
    Calls Tryz.prog 76 #[A5 A.k A.r A.a A.b v, A5 B.k B.r B.a B.b u] w (RetR (orNo (boE A B) (boV A B)) (boE A B) w) := by
  have HQ := fun W => eq2 A.a A.b B.a B.b W
  have HF : ∀ Z, Below w.heap.size w (((w.alloc (.cells #[.int .i64 A.k, .int .i64 A.r, .int .i64 A.a, .int .i64 A.b, v] 43)).alloc (.cells #[.int .i64 B.k, .int .i64 B.r, .int .i64 B.a, .int .i64 B.b, u] 43)).alloc Z) := fun Z => (bel1 w _).trans (((bel1 _ _).trans ((bel1 _ Z).mono (by simp))).mono (by simp))
  have HRA := Lib.hid (fun Z => (hv.below (HF Z)).mono (HF Z).size)
  have HRB := Lib.hid (fun Z => (hu.below (HF Z)).mono (HF Z).size)
  have HB := Lib.hid HF
  clear HF
  obtain ⟨q, cap, rfl, _, _, _⟩ := hv
  obtain ⟨q', cap', rfl, _, _, _⟩ := hu
  unfold boE boV
  by_cases h1 : B.r = 0
  · rw [if_pos h1, if_pos h1, orNo_yes rfl]
    have k1 : (B.r == 0) = true := by simpa using h1
    clear h1
    go_enter Tryz.func76, Tryz.ntmps76
    go_wp2
    refine bodyPost_ret (v := .tuple #[A5 A.k A.r A.a A.b (.slice q A.z.length cap), .int .i64 0]) (by simp [results, Tryz.results76, go_sem]) rfl ?_
    exact ⟨_, rfl, HRA.out _, HB.out _⟩
  · rw [if_neg h1, if_neg h1]
    have k1 : (B.r == 0) = false := by simpa using h1
    clear h1
    by_cases h2 : A.r = 0
    · rw [if_pos h2, if_pos h2, orNo_yes rfl]
      have k2 : (A.r == 0) = true := by simpa using h2
      clear h2
      go_enter Tryz.func76, Tryz.ntmps76
      go_wp2
      refine bodyPost_ret (v := .tuple #[A5 B.k B.r B.a B.b (.slice q' B.z.length cap'), .int .i64 0]) (by simp [results, Tryz.results76, go_sem]) rfl ?_
      exact ⟨_, rfl, HRB.out _, HB.out _⟩
    · rw [if_neg h2, if_neg h2]
      have k2 : (A.r == 0) = false := by simpa using h2
      clear h2
      by_cases h3 : A.r = B.r
      · rw [if_neg (not_not_intro h3)]
        have k3 : (A.r != B.r) = false := by simpa using h3
        clear h3
        by_cases h4 : A.a ≠ B.a ∨ A.b ≠ B.b
        · rw [if_pos h4, orNo_no (by decide)]
          have h5 : decide (A.a = B.a ∧ A.b = B.b) = false := decide_eq_false (by omega)
          rw [h5] at HQ
          clear h4 h5
          go_enter Tryz.func76, Tryz.ntmps76
          go_wp2
          refine bodyPost_ret (v := .tuple #[A5 0 0 0 0 (.slice none 0 0), .int .i64 11]) (by simp [results, Tryz.results76, go_sem]) rfl ?_
          exact ⟨_, rfl, rd_nil _ _, HB.out _⟩
        · rw [if_neg h4, orNo_yes rfl]
          have h5 : decide (A.a = B.a ∧ A.b = B.b) = true := decide_eq_true (by omega)
          rw [h5] at HQ
          clear h4 h5
          go_enter Tryz.func76, Tryz.ntmps76
          go_wp2
          refine bodyPost_ret (v := .tuple #[A5 A.k A.r A.a A.b (.slice q A.z.length cap), .int .i64 0]) (by simp [results, Tryz.results76, go_sem]) rfl ?_
          exact ⟨_, rfl, HRA.out _, HB.out _⟩
      · rw [if_pos h3, orNo_no (by decide)]
        have k3 : (A.r != B.r) = true := by simpa using h3
        clear h3
        go_enter Tryz.func76, Tryz.ntmps76
        go_wp2
        refine bodyPost_ret (v := .tuple #[A5 0 0 0 0 (.slice none 0 0), .int .i64 22]) (by simp [results, Tryz.results76, go_sem]) rfl ?_
        exact ⟨_, rfl, rd_nil _ _, HB.out _⟩
/-- An array among the operands, in memory. -/
structure ArAt (w : World) (g o : Nat) (A : Ar) (v : Value) : Prop where
  c0 : w.cell? ⟨g, o, none⟩ = some (.int .i64 A.k)
  c1 : w.cell? ⟨g, o + 1, none⟩ = some (.int .i64 A.r)
  c2 : w.cell? ⟨g, o + 2, none⟩ = some (.int .i64 A.a)
  c3 : w.cell? ⟨g, o + 3, none⟩ = some (.int .i64 A.b)
  c4 : w.cell? ⟨g, o + 4, none⟩ = some v
theorem ArAt.below {w w' : World} {g o B : Nat} {A : Ar} {v : Value} (h : ArAt w g o A v) (hg : g < B) (hb : Below B w w') : ArAt w' g o A v :=
  ⟨(hb.cell (p := ⟨g, o, none⟩) hg).trans h.c0, (hb.cell (p := ⟨g, o + 1, none⟩) hg).trans h.c1, (hb.cell (p := ⟨g, o + 2, none⟩) hg).trans h.c2, (hb.cell (p := ⟨g, o + 3, none⟩) hg).trans h.c3, (hb.cell (p := ⟨g, o + 4, none⟩) hg).trans h.c4⟩
def ckL (L : List (Ar × Value)) : List (Int × Int) := L.map fun x => (0, ck x.1)
set_option maxRecDepth 100000 in
set_option maxHeartbeats 4000000 in
theorem efault_any (kd : Bool) (L : List (Ar × Value)) (g : Nat) (w : World) (hw : Ru.Lay w) (hL : L.length ≤ 10) (hg : g < w.heap.size)
    (hc : ∀ j (hj : j < L.length), ArAt w g (j * 5) L[j].1 L[j].2) (hr : ∀ j (hj : j < L.length), RdI w.heap.size w L[j].2 L[j].1.z ∧ L[j].1.z.length ≤ 1000000) :
    Calls Tryz.prog 70 #[.bool kd, .slice (some ⟨g, 0, none⟩) L.length L.length] w fun e w' => e = .returned (.int .i64 (faV kd (feL (ckL L)))) ∧ Below w.heap.size w w' := by
  have HC := Lib.hid hc
  have HR := Lib.hid hr
  have HW := Lib.hid hw
  have HCh := Lib.hid (fun A v W h1 h2 h3 => acheck_any A v W h1 h2 h3)
  have HLn : Hid ((ckL L).length = L.length) := by unfold Hid; simp [ckL]
  have HAt : Hid (∀ j (hj : j < L.length), (ckL L)[j]? = some (0, ck L[j].1)) := fun j hj => by simp [ckL, hj]
  clear hc hr hw
  generalize ckL L = cs at HLn HAt ⊢
  generalize hF : feL cs = F
  have HF := Lib.hid hF
  clear hF
  cases kd
  all_goals
    go_enter Tryz.func70, Tryz.ntmps70
    go_wp2
    go_loopg [10] L.length (fun gk i wr => ∃ j : Nat, j + gk = L.length ∧ i = .int .i64 j ∧ okT cs j ∧ Below w.heap.size w wr)
    case atStart => exact ⟨0, by omega, rfl, okT_zero _, Below.refl _ _⟩
    case round =>
      obtain ⟨j, hjg, rfl, hck, hbl⟩ := hrel
      have HCk := Lib.hid hck
      have HB := Lib.hid hbl
      clear hck hbl
      cases gk with
      | zero =>
        have hjz : ¬ ((j : Int) < (L.length : Int)) := by omega
        have HZ : Hid (F = 0) := by
          have h := HCk.out
          rw [show j = L.length by omega] at h
          exact HF.out.symm.trans (okT_all h HLn.out)
        clear HCk
        go_wp2
        go_ret
        exact ⟨by rw [HZ.out]; rfl, HB.out⟩
      | succ g2 =>
        have hjz : (j : Int) < (L.length : Int) := by omega
        have hj : j < L.length := by omega
        have HO := Lib.hid ((HC.out j hj).below hg HB.out)
        have HV := Lib.hid (((HR.out j hj).1.below HB.out).mono HB.out.size)
        have hz := (HR.out j hj).2
        have HEx : Hid (∀ (E : Int), ck L[j].1 = E → E ≠ 0 → F = E) := fun E e n => HF.out.symm.trans (okT_bad HCk.out (by rw [HAt.out j hj, e]) n)
        have HNx : Hid (ck L[j].1 = 0 → okT cs (j + 1)) := fun e => okT_next HCk.out (by rw [HAt.out j hj, e])
        generalize L[j] = x at HO HV hz HEx HNx
        obtain ⟨⟨k, r, a, b, z⟩, v⟩ := x
        simp only at HV hz HEx HNx
        have x0 := HO.out.c0; have x1 := HO.out.c1; have x2 := HO.out.c2; have x3 := HO.out.c3; have x4 := HO.out.c4
        simp only at x0 x1 x2 x3 x4
        have HV2 := Lib.hid HV.out
        obtain ⟨p, cap, rfl, hcap, hcap2, hcell⟩ := HV.out
        clear hcell HV
        have HA1 : Hid (Below wr.heap.size wr (wr.alloc (.cells #[.int .i64 k, .int .i64 r, .int .i64 a, .int .i64 b, .slice p z.length cap] 43))) := bel1 _ _
        have HB2 := Lib.hid (HB.out.trans (HA1.out.mono HB.out.size))
        have HLA := Lib.hid (HW.out.next HB2.out)
        have HRA := Lib.hid (HV2.out.next HA1.out)
        have HC1 := Lib.hid (fun W h1 h2 => HCh.out ⟨k, r, a, b, z⟩ (.slice p z.length cap) W h1 h2 hz)
        obtain ⟨E, hE⟩ : ∃ E, ck ⟨k, r, a, b, z⟩ = E := ⟨_, rfl⟩
        rw [hE] at HC1 HNx HEx
        clear hE hz
        by_cases h0 : E = 0
        · have HN2 := Lib.hid (HNx.out h0)
          subst h0
          go_wp2_with (go_at_call 103; (with_reducible refine (HC1.out _ HLA.out HRA.out).mono ?_); rintro e w' ⟨rfl, hb⟩; have HB3 := Lib.hid (HB2.out.trans (hb.mono HB2.out.size)); clear hb)
          go_roundg g2
          case measure => omega
          case rel => exact ⟨j + 1, by omega, by go_num, HN2.out, HB3.out⟩
        · have HFE := Lib.hid (HEx.out E rfl h0)
          have HNz := Lib.hid h0
          have k1 : (E != 0) = true := by simpa using h0
          clear h0
          go_wp2_with (go_at_call 103; (with_reducible refine (HC1.out _ HLA.out HRA.out).mono ?_); rintro e w' ⟨rfl, hb⟩; have HB3 := Lib.hid (HB2.out.trans (hb.mono HB2.out.size)); clear hb)
          go_ret
          exact ⟨ret_int7 (by rw [HFE.out]; unfold faV; rw [if_neg HNz.out]), HB3.out⟩
theorem efault1_any (kd : Bool) (A : Ar) (v : Value) (W : World) (g : Nat) (hg : W.heap.size = g) (hw : Ru.Lay W) (hv : RdI W.heap.size W v A.z) (hl : A.z.length ≤ 1000000) :
    Calls Tryz.prog 70 #[.bool kd, .slice (some ⟨g, 0, none⟩) 1 1] (W.alloc (.cells #[.int .i64 A.k, .int .i64 A.r, .int .i64 A.a, .int .i64 A.b, v] 43)) fun e w' => e = .returned (.int .i64 (faV kd (ck A))) ∧ Below W.heap.size W w' := by
  subst hg
  have hb := bel1 W (.cells #[.int .i64 A.k, .int .i64 A.r, .int .i64 A.a, .int .i64 A.b, v] 43)
  refine (efault_any kd [(A, v)] W.heap.size _ (hw.next hb) (by simp) (by simp) (fun j hj => ?_) (fun j hj => ?_)).mono fun e w' ⟨h1, h3⟩ => ⟨by rw [h1]; simp only [ckL, List.map_cons, List.map_nil, feL]; rw [show (if ck A = 0 then (0 : Int) else ck A) = ck A by split <;> simp_all], hb.trans (h3.mono hb.size)⟩
  all_goals
    obtain rfl : j = 0 := by simp at hj; omega
  · constructor <;> (unfold World.cell?; rw [heap_alloc_last]; rfl)
  · exact ⟨hv.next hb, hl⟩
theorem efault2_at (kd : Bool) (A B : Ar) (v u : Value) (W : World) (g : Nat) (hg : g < W.heap.size) (ha : ArAt W g 0 A v) (hb : ArAt W g 5 B u) (hw : Ru.Lay W) (hv : RdI W.heap.size W v A.z) (hu : RdI W.heap.size W u B.z) (hl : A.z.length ≤ 1000000) (hl' : B.z.length ≤ 1000000) :
    Calls Tryz.prog 70 #[.bool kd, .slice (some ⟨g, 0, none⟩) 2 2] W fun e w' => e = .returned (.int .i64 (faV kd (if ck A ≠ 0 then ck A else ck B))) ∧ Below W.heap.size W w' := by
  refine (efault_any kd [(A, v), (B, u)] g _ hw (by simp) hg (fun j hj => ?_) (fun j hj => ?_)).mono fun e w' ⟨h1, h3⟩ => ⟨by rw [h1]; simp only [ckL, List.map_cons, List.map_nil, feL]; rw [show (if ck A = 0 then (if ck B = 0 then (0 : Int) else ck B) else ck A) = (if ck A ≠ 0 then ck A else ck B) by split <;> simp_all], h3⟩
  · have : j = 0 ∨ j = 1 := by simp at hj; omega
    rcases this with rfl | rfl
    · exact ha
    · exact hb
  · have : j = 0 ∨ j = 1 := by simp at hj; omega
    rcases this with rfl | rfl
    · exact ⟨hv, hl⟩
    · exact ⟨hu, hl'⟩
theorem at2_new (A B : Ar) (v u : Value) (W : World) : ArAt (W.alloc (.cells #[.int .i64 A.k, .int .i64 A.r, .int .i64 A.a, .int .i64 A.b, v, .int .i64 B.k, .int .i64 B.r, .int .i64 B.a, .int .i64 B.b, u] 43)) W.heap.size 0 A v ∧ ArAt (W.alloc (.cells #[.int .i64 A.k, .int .i64 A.r, .int .i64 A.a, .int .i64 A.b, v, .int .i64 B.k, .int .i64 B.r, .int .i64 B.a, .int .i64 B.b, u] 43)) W.heap.size 5 B u := by
  constructor <;> constructor <;> (unfold World.cell?; rw [heap_alloc_last]; rfl)
end Go.Proofs.YtpbfbejckhbijaaGreatDoor
