/- cut of the moves; Take and Drop of the code. -/
import Derived.Test.YtbeoigmaieiigaaDoorMvI
namespace Go.Proofs.YtbeoigmaieiigaaDoor
open Go.RowKit

theorem rdI_take {B : Nat} {w : World} {p : Option Addr} {n cap : Nat} {z : List Int} (h : RdI B w (.slice p n cap) z) (k : Nat) (hk : k ≤ z.length) : RdI B w (.slice p k cap) (z.take k) := by
  obtain ⟨p', cap', e, h1, h2, h3⟩ := h
  cases e
  have hl : (z.take k).length = k := by rw [List.length_take]; omega
  refine ⟨p, cap, by rw [hl], by rw [hl]; omega, h2, fun hne => ?_⟩
  obtain ⟨b, off, e, hb, hc⟩ := h3 (by intro e; rw [e] at hne; simp at hne)
  refine ⟨b, off, e, hb, fun j hj => ?_⟩
  rw [hl] at hj
  rw [hc j (by omega), List.getElem_take]
theorem rdI_drop {B : Nat} {w : World} {ad : Addr} {n cap : Nat} {z : List Int} (h : RdI B w (.slice (some ad) n cap) z) (k : Nat) (hk : k ≤ z.length) : RdI B w (.slice (some (ad.add k)) (z.length - k) (cap - k)) (z.drop k) := by
  obtain ⟨p', cap', e, h1, h2, h3⟩ := h
  cases e
  have hl : (z.drop k).length = z.length - k := by simp
  refine ⟨_, _, by rw [hl], by rw [hl]; omega, by omega, fun hne => ?_⟩
  have hlt : k < z.length := by
    rcases Nat.lt_or_ge k z.length with h | h
    · exact h
    · exact absurd (List.drop_eq_nil_of_le h) hne
  obtain ⟨b', off', e, hb, hc⟩ := h3 (by intro e; subst e; simp at hlt)
  cases e
  refine ⟨b', off' + k, by simp [Addr.add], hb, fun j hj => ?_⟩
  rw [hl] at hj
  rw [Nat.add_assoc, hc (k + j) (by omega), List.getElem_drop]
theorem rdI_none {B : Nat} {w : World} {p : Option Addr} {cap : Nat} (h : cap ≤ 9223372036854775807) : RdI B w (.slice p 0 cap) [] := ⟨p, cap, rfl, Nat.zero_le _, h, fun h => absurd rfl h⟩
/-- What a walk over two arrays keeps. -/
structure MC2 (w : World) (A : Ar) (v : Value) (B : Ar) (u : Value) (W : World) : Prop where
  bel : Below w.heap.size w W
  sz : w.heap.size + 2 ≤ W.heap.size
  boxA : R5 W w.heap.size A.k A.r A.a A.b v
  boxB : R5 W (w.heap.size + 1) B.k B.r B.a B.b u
  rdA : RdI w.heap.size W v A.z
  rdB : RdI w.heap.size W u B.z
  lay : Ru.Lay W
theorem MC2.far {w W W' : World} {A B : Ar} {v u : Value} (h : MC2 w A v B u W) (hb : Below (w.heap.size + 2) W W') (hl : Ru.Lay W') : MC2 w A v B u W' :=
  ⟨h.bel.trans (hb.mono (by omega)), Nat.le_trans h.sz hb.size, (hb.block _ (by omega)).trans h.boxA, (hb.block _ (by omega)).trans h.boxB, h.rdA.below (hb.mono (by omega)), h.rdB.below (hb.mono (by omega)), hl⟩
theorem MC2.next {w W W' : World} {A B : Ar} {v u : Value} (h : MC2 w A v B u W) (hb : Below W.heap.size W W') : MC2 w A v B u W' := h.far (hb.mono h.sz) (h.lay.next hb)
theorem MC2.rdnA {w W : World} {A B : Ar} {v u : Value} (h : MC2 w A v B u W) : RdI W.heap.size W v A.z := h.rdA.mono h.bel.size
theorem MC2.rdnB {w W : World} {A B : Ar} {v u : Value} (h : MC2 w A v B u W) : RdI W.heap.size W u B.z := h.rdB.mono h.bel.size
theorem MC2.new {w : World} {A B : Ar} {v u : Value} (hw : Ru.Lay w) (hv : RdI w.heap.size w v A.z) (hu : RdI w.heap.size w u B.z) :
    MC2 w A v B u ((w.alloc (.cells #[.int .i64 A.k, .int .i64 A.r, .int .i64 A.a, .int .i64 A.b, v] 25)).alloc (.cells #[.int .i64 B.k, .int .i64 B.r, .int .i64 B.a, .int .i64 B.b, u] 25)) := by
  have e : (w.alloc (.cells #[.int .i64 A.k, .int .i64 A.r, .int .i64 A.a, .int .i64 A.b, v] 25)).heap.size = w.heap.size + 1 := by simp
  have hb : Below w.heap.size w ((w.alloc (.cells #[.int .i64 A.k, .int .i64 A.r, .int .i64 A.a, .int .i64 A.b, v] 25)).alloc (.cells #[.int .i64 B.k, .int .i64 B.r, .int .i64 B.a, .int .i64 B.b, u] 25)) := (bel1 _ _).trans ((bel1 _ _).mono (by simp))
  refine ⟨hb, by simp, (R5.new _ _ _ _ _ _).alloc _, ?_, hv.below hb, hu.below hb, (hw.alloc _).alloc _⟩
  rw [← e]; exact R5.new _ _ _ _ _ _
/-- A scalar has one cell. -/
theorem scalar_one {A : Ar} (h : Good A) (hr : A.r = 0) : A.z.length = 1 := by
  obtain ⟨k, r, a, b, z⟩ := A
  have hl := h.len
  simp only at hr hl
  subst hr
  simp [cn] at hl
  simp; omega
theorem fst1_cell {B : Nat} {w : World} {p : Option Addr} {n cap : Nat} {A : Ar} (h : RdI B w (.slice p n cap) A.z) (hl : 0 < A.z.length) : ∃ b off, p = some ⟨b, off, none⟩ ∧ b < B ∧ w.cell? ⟨b, off, none⟩ = some (.int .i64 (fst1 A)) := by
  obtain ⟨p', cap', e, h1, h2, h3⟩ := h
  cases e
  obtain ⟨b, off, e, hb, hc⟩ := h3 (List.length_pos_iff.1 hl)
  refine ⟨b, off, e, hb, ?_⟩
  have := hc 0 hl
  rw [Nat.add_zero] at this
  rw [this]
  unfold fst1
  rw [List.getD_eq_getElem?_getD, List.getElem?_eq_getElem hl]
  rfl
/-- What cut returns. -/
def CutR (E : Int) (n : Int) (z : List Int) (e : Ending) (w' : World) : Prop := ∃ t l, e = .returned (.tuple #[t, l, .int .i64 E]) ∧ (E = 0 → RdI w'.heap.size w' t (tkZ n z) ∧ RdI w'.heap.size w' l (drZ n z))
theorem tk_neg {n : Int} {z : List Int} {k : Nat} (hn : n < 0) (hk : (k : Int) = max ((z.length : Int) + n) 0) : tkZ n z = z.drop k ∧ drZ n z = z.take k := by
  unfold tkZ drZ
  rw [if_pos hn, if_pos hn]
  have : ((z.length : Int) + n).toNat = k := by omega
  rw [this]; exact ⟨rfl, rfl⟩
theorem tk_pos {n : Int} {z : List Int} {k : Nat} (hn : ¬ n < 0) (hk : (k : Int) = min n (z.length : Int)) : tkZ n z = z.take k ∧ drZ n z = z.drop k := by
  unfold tkZ drZ
  rw [if_neg hn, if_neg hn]
  by_cases h : n ≤ z.length
  · have : n.toNat = k := by omega
    rw [this]; exact ⟨rfl, rfl⟩
  · have h1 : k = z.length := by omega
    subst h1
    rw [List.take_of_length_le (by omega), List.drop_eq_nil_of_le (by omega), List.take_of_length_le (Nat.le_refl _), List.drop_eq_nil_of_le (Nat.le_refl _)]
    exact ⟨rfl, rfl⟩

set_option maxRecDepth 100000 in
set_option maxHeartbeats 16000000 in
theorem cut_any (N V : Ar) (u v : Value) (w : World) (hw : Ru.Lay w) (hu : RdI w.heap.size w u N.z) (hv : RdI w.heap.size w v V.z) (hnv : Ru.NilC v) (hlN : N.z.length ≤ 1000000) (hlV : V.z.length ≤ 1000000) (hbn : -9223372036854775808 ≤ fst1 N ∧ fst1 N ≤ 9223372036854775807) :
    Calls Tryd.prog 46 #[A5 N.k N.r N.a N.b u, A5 V.k V.r V.a V.b v] w fun e w' => CutR (tkE N V) (fst1 N) V.z e w' ∧ Below w.heap.size w w' := by
  have HFa : Hid (∀ W g, W.heap.size = g → Ru.Lay W → RdI W.heap.size W u N.z → RdI W.heap.size W v V.z → Calls Tryd.prog 39 #[.slice (some ⟨g, 0, none⟩) 2 2] (W.alloc (.cells #[.int .i64 N.k, .int .i64 N.r, .int .i64 N.a, .int .i64 N.b, u, .int .i64 1, .int .i64 0, .int .i64 0, .int .i64 V.k, .int .i64 V.r, .int .i64 V.a, .int .i64 V.b, v, .int .i64 V.k, .int .i64 1, .int .i64 1] 48)) fun e w' => e = .returned (.int .i64 (tkE N V)) ∧ Below W.heap.size W w') := fun W g hg h1 h2 h3 => fault2_any N V u v 1 0 0 V.k 1 1 W g hg h1 h2 h3 hlN hlV
  have HK := Lib.hid (MC2.new (A := N) (B := V) hw hu hv)
  have x0 := HK.out.boxA.c0; have x1 := HK.out.boxA.c1; have x2 := HK.out.boxA.c2; have x3 := HK.out.boxA.c3; have x4 := HK.out.boxA.c4; have y0 := HK.out.boxB.c0; have y1 := HK.out.boxB.c1; have y2 := HK.out.boxB.c2; have y3 := HK.out.boxB.c3; have y4 := HK.out.boxB.c4
  obtain ⟨pu, cu, rfl, hcu, hcu2, hcellu⟩ := hu
  obtain ⟨p, cap, rfl, hcap, hcap2, hcell⟩ := hv
  clear hcell hcellu hw
  have HNil := Lib.hid hnv
  clear hnv
  by_cases h1 : tkE N V = 0
  · obtain ⟨hN, hV, h3, h4, h5, h6, h7, h8⟩ := two_ok h1
    have HOne := Lib.hid (scalar_one hN (by omega))
    have hN0 : (0 : Int) < (N.z.length : Int) := by have := HOne.out; omega
    rw [h1] at HFa ⊢
    clear h1 hN hV h3 h4 h5 h6 h7 h8
    generalize hfn : fst1 N = n at hbn ⊢
    have HFn := Lib.hid hfn
    clear hfn
    have hV4 : (V.z.length : Int) ≤ 1000000 := by omega
    go_enter Tryd.func46, Tryd.ntmps46
    go_wp2_with (go_at_call 39; (with_reducible refine (HFa.out _ _ (by first | rfl | simp) HK.out.lay HK.out.rdnA HK.out.rdnB).mono ?_); rintro e w1 ⟨rfl, hb⟩; have HK2 := Lib.hid (HK.out.next hb); clear HK x0 x1 x2 x3 x4 y0 y1 y2 y3 y4; have HK := HK2; clear HK2; have x0 := HK.out.boxA.c0; have x1 := HK.out.boxA.c1; have x2 := HK.out.boxA.c2; have x3 := HK.out.boxA.c3; have x4 := HK.out.boxA.c4; have y0 := HK.out.boxB.c0; have y1 := HK.out.boxB.c1; have y2 := HK.out.boxB.c2; have y3 := HK.out.boxB.c3; have y4 := HK.out.boxB.c4; clear hb)
    obtain ⟨b1, o1, rfl, _, hn1⟩ := fst1_cell HK.out.rdnA (by omega)
    rw [HFn.out] at hn1
    go_quiet (fail)
    have HK2 := Lib.hid (HK.out.next (drewN_below _ nq))
    generalize World.drewN w1 nq = W2 at HK2 ⊢
    clear HK hn1 x0 x1 x2 x3 x4 y0 y1 y2 y3 y4
    have HK := HK2
    clear HK2
    have y0 := HK.out.boxB.c0; have y1 := HK.out.boxB.c1; have y2 := HK.out.boxB.c2; have y3 := HK.out.boxB.c3; have y4 := HK.out.boxB.c4
    by_cases hneg : n < 0
    · obtain ⟨k, hk⟩ : ∃ k : Nat, (k : Int) = max ((V.z.length : Int) + n) 0 := ⟨(max ((V.z.length : Int) + n) 0).toNat, by omega⟩
      have hkl : k ≤ V.z.length := by omega
      have HLaw := Lib.hid (tk_neg (z := V.z) hneg hk)
      have hw1 : IntKind.i64.wrap ((V.z.length : Int) + n) = (V.z.length : Int) + n := by rw [IntKind.wrap_i64]; omega
      have hmx : max ((V.z.length : Int) + n) 0 = (k : Int) := hk.symm
      clear hk
      go_wp2_with fail
      by_cases hck : cap = k
      · have hkv : V.z.length = k := by omega
        subst hck
        have HZ := Lib.hid hkv
        clear hkv
        go_quiet (fail)
        have HK2 := Lib.hid (HK.out.next (drewN_below _ nq))
        clear HK
        go_wp2
        go_ret3
        refine ⟨⟨_, _, rfl, fun _ => ?_⟩, HK2.out.bel⟩
        rw [(HLaw.out).1, (HLaw.out).2]
        exact ⟨(by rw [List.drop_eq_nil_of_le (by have := HZ.out; omega)]; exact rdI_none (by omega)), rdI_take HK2.out.rdnB cap hkl⟩
      · have hk3 : 0 < cap - k := by omega
        rcases p with _ | ⟨b2, o2, sp⟩
        · have := HNil.out _ _ rfl
          omega
        · go_quiet (fail)
          have HK2 := Lib.hid (HK.out.next (drewN_below _ nq))
          clear HK
          go_wp2
          go_ret3
          refine ⟨⟨_, _, rfl, fun _ => ?_⟩, HK2.out.bel⟩
          rw [(HLaw.out).1, (HLaw.out).2]
          exact ⟨rdI_drop HK2.out.rdnB k hkl, rdI_take HK2.out.rdnB k hkl⟩
    · obtain ⟨k, hk⟩ : ∃ k : Nat, (k : Int) = min n (V.z.length : Int) := ⟨(min n (V.z.length : Int)).toNat, by omega⟩
      have hkl : k ≤ V.z.length := by omega
      have HLaw := Lib.hid (tk_pos (z := V.z) hneg hk)
      have hmx : min n (V.z.length : Int) = (k : Int) := hk.symm
      clear hk
      go_wp2_with fail
      by_cases hck : cap = k
      · have hkv : V.z.length = k := by omega
        subst hck
        have HZ := Lib.hid hkv
        clear hkv
        go_quiet (fail)
        have HK2 := Lib.hid (HK.out.next (drewN_below _ nq))
        clear HK
        go_wp2
        go_ret3
        refine ⟨⟨_, _, rfl, fun _ => ?_⟩, HK2.out.bel⟩
        rw [(HLaw.out).1, (HLaw.out).2]
        exact ⟨rdI_take HK2.out.rdnB cap hkl, (by rw [List.drop_eq_nil_of_le (by have := HZ.out; omega)]; exact rdI_none (by omega))⟩
      · have hk3 : 0 < cap - k := by omega
        rcases p with _ | ⟨b2, o2, sp⟩
        · have := HNil.out _ _ rfl
          omega
        · go_quiet (fail)
          have HK2 := Lib.hid (HK.out.next (drewN_below _ nq))
          clear HK
          go_wp2
          go_ret3
          refine ⟨⟨_, _, rfl, fun _ => ?_⟩, HK2.out.bel⟩
          rw [(HLaw.out).1, (HLaw.out).2]
          exact ⟨rdI_take HK2.out.rdnB k hkl, rdI_drop HK2.out.rdnB k hkl⟩
  · have HBad : Hid (tkE N V ≠ 0) := h1
    generalize tkE N V = E at h1 HFa HBad ⊢
    have k1 : (E != 0) = true := by simpa using h1
    clear h1
    go_enter Tryd.func46, Tryd.ntmps46
    go_wp2_with (go_at_call 39; (with_reducible refine (HFa.out _ _ (by first | rfl | simp) HK.out.lay HK.out.rdnA HK.out.rdnB).mono ?_); rintro e w1 ⟨rfl, hb⟩; have HK2 := Lib.hid (HK.out.next hb); clear HK x0 x1 x2 x3 x4 y0 y1 y2 y3 y4; have HK := HK2; clear HK2; have x0 := HK.out.boxA.c0; have x1 := HK.out.boxA.c1; have x2 := HK.out.boxA.c2; have x3 := HK.out.boxA.c3; have x4 := HK.out.boxA.c4; have y0 := HK.out.boxB.c0; have y1 := HK.out.boxB.c1; have y2 := HK.out.boxB.c2; have y3 := HK.out.boxB.c3; have y4 := HK.out.boxB.c4; clear hb)
    go_ret3
    exact ⟨⟨_, _, rfl, fun h => absurd h HBad.out⟩, HK.out.bel⟩

/-- What a walk over two arrays keeps that lays a result. -/
structure MK2 (w : World) (A : Ar) (v : Value) (B : Ar) (u : Value) (W : World) : Prop where
  c : MC2 w A v B u W
  sz : w.heap.size + 3 ≤ W.heap.size
  res : R5 W (w.heap.size + 2) 0 0 0 0 (.slice none 0 0)
theorem MK2.far {w W W' : World} {A B : Ar} {v u : Value} (h : MK2 w A v B u W) (hb : Below (w.heap.size + 3) W W') (hl : Ru.Lay W') : MK2 w A v B u W' :=
  ⟨h.c.far (hb.mono (by omega)) hl, Nat.le_trans h.sz hb.size, (hb.block _ (by omega)).trans h.res⟩
theorem MK2.next {w W W' : World} {A B : Ar} {v u : Value} (h : MK2 w A v B u W) (hb : Below W.heap.size W W') : MK2 w A v B u W' := h.far (hb.mono h.sz) (h.c.lay.next hb)
theorem MK2.new {w : World} {A B : Ar} {v u : Value} (hw : Ru.Lay w) (hv : RdI w.heap.size w v A.z) (hu : RdI w.heap.size w u B.z) :
    MK2 w A v B u (((w.alloc (.cells #[.int .i64 A.k, .int .i64 A.r, .int .i64 A.a, .int .i64 A.b, v] 25)).alloc (.cells #[.int .i64 B.k, .int .i64 B.r, .int .i64 B.a, .int .i64 B.b, u] 25)).alloc (.cells #[.int .i64 0, .int .i64 0, .int .i64 0, .int .i64 0, .slice none 0 0] 25)) := by
  have e : ((w.alloc (.cells #[.int .i64 A.k, .int .i64 A.r, .int .i64 A.a, .int .i64 A.b, v] 25)).alloc (.cells #[.int .i64 B.k, .int .i64 B.r, .int .i64 B.a, .int .i64 B.b, u] 25)).heap.size = w.heap.size + 2 := by simp
  refine ⟨(MC2.new hw hv hu).next (bel1 _ _), by simp, ?_⟩
  rw [← e]; exact R5.new _ _ _ _ _ _
theorem tk_ok {N V : Ar} (h : tkE N V = 0) : ck (vecA V.k (tkZ (fst1 N) V.z)) = 0 ∧ ck (vecA V.k (drZ (fst1 N) V.z)) = 0 := by
  obtain ⟨_, hV, _⟩ := two_ok h
  exact ⟨good_vec hV (len_take _ _) fun _ => mem_take, good_vec hV (len_drop _ _) fun _ => mem_drop⟩

set_option maxRecDepth 100000 in
set_option maxHeartbeats 8000000 in
theorem mtake_any (N V : Ar) (u v : Value) (w : World) (hw : Ru.Lay w) (hu : RdI w.heap.size w u N.z) (hv : RdI w.heap.size w v V.z) (hnv : Ru.NilC v) (hlN : N.z.length ≤ 1000000) (hlV : V.z.length ≤ 1000000) (hbn : -9223372036854775808 ≤ fst1 N ∧ fst1 N ≤ 9223372036854775807) :
    Calls Tryd.prog 20 #[A5 N.k N.r N.a N.b u, A5 V.k V.r V.a V.b v] w (RetE (tkV N V) (tkE N V) w) := by
  have HCu := Lib.hid (fun W h1 h2 h3 => cut_any N V u v W h1 h2 h3 hnv hlN hlV hbn)
  have HK := Lib.hid (MK2.new (A := N) (B := V) hw hu hv)
  have x0 := HK.out.c.boxA.c0; have x1 := HK.out.c.boxA.c1; have x2 := HK.out.c.boxA.c2; have x3 := HK.out.c.boxA.c3; have x4 := HK.out.c.boxA.c4; have y0 := HK.out.c.boxB.c0; have y1 := HK.out.c.boxB.c1; have y2 := HK.out.c.boxB.c2; have y3 := HK.out.c.boxB.c3; have y4 := HK.out.c.boxB.c4
  have hfu := hu
  obtain ⟨pu, cu, rfl, _, _, _⟩ := hu
  obtain ⟨p, cap, rfl, _, _, _⟩ := hv
  clear hfu hw hnv hbn
  unfold tkV
  by_cases h1 : tkE N V = 0
  · have hck := (tk_ok h1).1
    have HVe := Lib.hid (fun v W h1 h2 => mvec_ok hck v W h1 h2 (by have := len_take (fst1 N) V.z; omega))
    rw [orNo_yes h1, h1]
    rw [h1] at HCu
    clear h1 hck
    generalize fst1 N = n at HCu HVe ⊢
    generalize hZ : tkZ n V.z = Z at HVe ⊢
    have HZ := Lib.hid hZ
    clear hZ
    go_enter Tryd.func20, Tryd.ntmps20
    go_wp2_with (first
      | (go_at_call 46; (with_reducible refine (HCu.out _ HK.out.c.lay HK.out.c.rdnA HK.out.c.rdnB).mono ?_); rintro e w1 ⟨⟨t, l, rfl, hrd⟩, hb⟩; have HRd := Lib.hid (by have := (hrd rfl).1; rw [HZ.out] at this; exact this : RdI w1.heap.size w1 t Z); have HK2 := Lib.hid (HK.out.next hb); clear HK x0 x1 x2 x3 x4 y0 y1 y2 y3 y4; have HK := HK2; clear HK2; have x0 := HK.out.c.boxA.c0; have x1 := HK.out.c.boxA.c1; have x2 := HK.out.c.boxA.c2; have x3 := HK.out.c.boxA.c3; have x4 := HK.out.c.boxA.c4; have y0 := HK.out.c.boxB.c0; have y1 := HK.out.c.boxB.c1; have y2 := HK.out.c.boxB.c2; have y3 := HK.out.c.boxB.c3; have y4 := HK.out.c.boxB.c4; clear hb hrd; obtain ⟨qt, ct, hqt, _, _, _⟩ := HRd.out; subst hqt)
      | (go_at_call 40; (with_reducible refine (HVe.out _ _ HK.out.c.lay HRd.out).mono ?_); rintro e w2 ⟨q, qc, rfl, hu, hb⟩; have HU := Lib.hid hu; have hlt := HK.out.sz; have HK2 := Lib.hid (HK.out.next hb); clear HK x0 x1 x2 x3 x4 y0 y1 y2 y3 y4; have HK := HK2; clear HK2; have x0 := HK.out.c.boxA.c0; have x1 := HK.out.c.boxA.c1; have x2 := HK.out.c.boxA.c2; have x3 := HK.out.c.boxA.c3; have x4 := HK.out.c.boxA.c4; have y0 := HK.out.c.boxB.c0; have y1 := HK.out.c.boxB.c1; have y2 := HK.out.c.boxB.c2; have y3 := HK.out.c.boxB.c3; have y4 := HK.out.c.boxB.c4; clear hu hb; have y0 := HK.out.res.c0; have y1 := HK.out.res.c1; have y2 := HK.out.res.c2; have y3 := HK.out.res.c3; have y4 := HK.out.res.c4; have f0 := HK.out.res.fr 0; have f1 := HK.out.res.fr 1; have f2 := HK.out.res.fr 2; have f3 := HK.out.res.fr 3; have f4 := HK.out.res.fr 4; have HS := Lib.hid (HK.out.res.set V.k 1 Z.length 0 (.slice q Z.length qc)); have z0 := HS.out.c0; have z1 := HS.out.c1; have z2 := HS.out.c2; have z3 := HS.out.c3; have z4 := HS.out.c4))
    refine bodyPost_ret (v := .tuple #[A5 V.k 1 Z.length 0 (.slice q Z.length qc), .int .i64 0]) (by simp [results, Tryd.results20, go_sem, z0, z1, z2, z3, z4]) rfl ?_
    exact ⟨_, rfl, (HU.out.st5 (by omega) _ _ _ _ _).mono (by omega), st5_below _ _ _ _ _ (by omega) HK.out.c.bel⟩
  · rw [orNo_no h1]
    generalize tkE N V = E at h1 HCu ⊢
    have k1 : (E != 0) = true := by simpa using h1
    clear h1
    go_enter Tryd.func20, Tryd.ntmps20
    go_wp2_with (go_at_call 46; (with_reducible refine (HCu.out _ HK.out.c.lay HK.out.c.rdnA HK.out.c.rdnB).mono ?_); rintro e w1 ⟨⟨t, l, rfl, hrd⟩, hb⟩; clear hrd; have HK2 := Lib.hid (HK.out.next hb); clear HK x0 x1 x2 x3 x4 y0 y1 y2 y3 y4; have HK := HK2; clear HK2; have x0 := HK.out.c.boxA.c0; have x1 := HK.out.c.boxA.c1; have x2 := HK.out.c.boxA.c2; have x3 := HK.out.c.boxA.c3; have x4 := HK.out.c.boxA.c4; have y0 := HK.out.c.boxB.c0; have y1 := HK.out.c.boxB.c1; have y2 := HK.out.c.boxB.c2; have y3 := HK.out.c.boxB.c3; have y4 := HK.out.c.boxB.c4; clear hb; have y0 := HK.out.res.c0; have y1 := HK.out.res.c1; have y2 := HK.out.res.c2; have y3 := HK.out.res.c3; have y4 := HK.out.res.c4; have f0 := HK.out.res.fr 0; have f1 := HK.out.res.fr 1; have f2 := HK.out.res.fr 2; have f3 := HK.out.res.fr 3; have f4 := HK.out.res.fr 4; have HS := Lib.hid (HK.out.res.set 0 0 0 0 (.slice none 0 0)); have z0 := HS.out.c0; have z1 := HS.out.c1; have z2 := HS.out.c2; have z3 := HS.out.c3; have z4 := HS.out.c4)
    exact bodyPost_ret (v := .tuple #[A5 0 0 0 0 (.slice none 0 0), .int .i64 E]) (by simp [results, Tryd.results20, go_sem, z0, z1, z2, z3, z4]) rfl (retE_no _ (st5_below _ _ _ _ _ (by omega) HK.out.c.bel))

set_option maxRecDepth 100000 in
set_option maxHeartbeats 8000000 in
theorem mdrop_any (N V : Ar) (u v : Value) (w : World) (hw : Ru.Lay w) (hu : RdI w.heap.size w u N.z) (hv : RdI w.heap.size w v V.z) (hnv : Ru.NilC v) (hlN : N.z.length ≤ 1000000) (hlV : V.z.length ≤ 1000000) (hbn : -9223372036854775808 ≤ fst1 N ∧ fst1 N ≤ 9223372036854775807) :
    Calls Tryd.prog 22 #[A5 N.k N.r N.a N.b u, A5 V.k V.r V.a V.b v] w (RetE (drV N V) (tkE N V) w) := by
  have HCu := Lib.hid (fun W h1 h2 h3 => cut_any N V u v W h1 h2 h3 hnv hlN hlV hbn)
  have HK := Lib.hid (MK2.new (A := N) (B := V) hw hu hv)
  have x0 := HK.out.c.boxA.c0; have x1 := HK.out.c.boxA.c1; have x2 := HK.out.c.boxA.c2; have x3 := HK.out.c.boxA.c3; have x4 := HK.out.c.boxA.c4; have y0 := HK.out.c.boxB.c0; have y1 := HK.out.c.boxB.c1; have y2 := HK.out.c.boxB.c2; have y3 := HK.out.c.boxB.c3; have y4 := HK.out.c.boxB.c4
  have hfu := hu
  obtain ⟨pu, cu, rfl, _, _, _⟩ := hu
  obtain ⟨p, cap, rfl, _, _, _⟩ := hv
  clear hfu hw hnv hbn
  unfold drV
  by_cases h1 : tkE N V = 0
  · have hck := (tk_ok h1).2
    have HVe := Lib.hid (fun v W h1 h2 => mvec_ok hck v W h1 h2 (by have := len_drop (fst1 N) V.z; omega))
    rw [orNo_yes h1, h1]
    rw [h1] at HCu
    clear h1 hck
    generalize fst1 N = n at HCu HVe ⊢
    generalize hZ : drZ n V.z = Z at HVe ⊢
    have HZ := Lib.hid hZ
    clear hZ
    go_enter Tryd.func22, Tryd.ntmps22
    go_wp2_with (first
      | (go_at_call 46; (with_reducible refine (HCu.out _ HK.out.c.lay HK.out.c.rdnA HK.out.c.rdnB).mono ?_); rintro e w1 ⟨⟨t, l, rfl, hrd⟩, hb⟩; have HRd := Lib.hid (by have := (hrd rfl).2; rw [HZ.out] at this; exact this : RdI w1.heap.size w1 l Z); have HK2 := Lib.hid (HK.out.next hb); clear HK x0 x1 x2 x3 x4 y0 y1 y2 y3 y4; have HK := HK2; clear HK2; have x0 := HK.out.c.boxA.c0; have x1 := HK.out.c.boxA.c1; have x2 := HK.out.c.boxA.c2; have x3 := HK.out.c.boxA.c3; have x4 := HK.out.c.boxA.c4; have y0 := HK.out.c.boxB.c0; have y1 := HK.out.c.boxB.c1; have y2 := HK.out.c.boxB.c2; have y3 := HK.out.c.boxB.c3; have y4 := HK.out.c.boxB.c4; clear hb hrd; obtain ⟨qt, ct, hqt, _, _, _⟩ := HRd.out; subst hqt)
      | (go_at_call 40; (with_reducible refine (HVe.out _ _ HK.out.c.lay HRd.out).mono ?_); rintro e w2 ⟨q, qc, rfl, hu, hb⟩; have HU := Lib.hid hu; have hlt := HK.out.sz; have HK2 := Lib.hid (HK.out.next hb); clear HK x0 x1 x2 x3 x4 y0 y1 y2 y3 y4; have HK := HK2; clear HK2; have x0 := HK.out.c.boxA.c0; have x1 := HK.out.c.boxA.c1; have x2 := HK.out.c.boxA.c2; have x3 := HK.out.c.boxA.c3; have x4 := HK.out.c.boxA.c4; have y0 := HK.out.c.boxB.c0; have y1 := HK.out.c.boxB.c1; have y2 := HK.out.c.boxB.c2; have y3 := HK.out.c.boxB.c3; have y4 := HK.out.c.boxB.c4; clear hu hb; have y0 := HK.out.res.c0; have y1 := HK.out.res.c1; have y2 := HK.out.res.c2; have y3 := HK.out.res.c3; have y4 := HK.out.res.c4; have f0 := HK.out.res.fr 0; have f1 := HK.out.res.fr 1; have f2 := HK.out.res.fr 2; have f3 := HK.out.res.fr 3; have f4 := HK.out.res.fr 4; have HS := Lib.hid (HK.out.res.set V.k 1 Z.length 0 (.slice q Z.length qc)); have z0 := HS.out.c0; have z1 := HS.out.c1; have z2 := HS.out.c2; have z3 := HS.out.c3; have z4 := HS.out.c4))
    refine bodyPost_ret (v := .tuple #[A5 V.k 1 Z.length 0 (.slice q Z.length qc), .int .i64 0]) (by simp [results, Tryd.results22, go_sem, z0, z1, z2, z3, z4]) rfl ?_
    exact ⟨_, rfl, (HU.out.st5 (by omega) _ _ _ _ _).mono (by omega), st5_below _ _ _ _ _ (by omega) HK.out.c.bel⟩
  · rw [orNo_no h1]
    generalize tkE N V = E at h1 HCu ⊢
    have k1 : (E != 0) = true := by simpa using h1
    clear h1
    go_enter Tryd.func22, Tryd.ntmps22
    go_wp2_with (go_at_call 46; (with_reducible refine (HCu.out _ HK.out.c.lay HK.out.c.rdnA HK.out.c.rdnB).mono ?_); rintro e w1 ⟨⟨t, l, rfl, hrd⟩, hb⟩; clear hrd; have HK2 := Lib.hid (HK.out.next hb); clear HK x0 x1 x2 x3 x4 y0 y1 y2 y3 y4; have HK := HK2; clear HK2; have x0 := HK.out.c.boxA.c0; have x1 := HK.out.c.boxA.c1; have x2 := HK.out.c.boxA.c2; have x3 := HK.out.c.boxA.c3; have x4 := HK.out.c.boxA.c4; have y0 := HK.out.c.boxB.c0; have y1 := HK.out.c.boxB.c1; have y2 := HK.out.c.boxB.c2; have y3 := HK.out.c.boxB.c3; have y4 := HK.out.c.boxB.c4; clear hb; have y0 := HK.out.res.c0; have y1 := HK.out.res.c1; have y2 := HK.out.res.c2; have y3 := HK.out.res.c3; have y4 := HK.out.res.c4; have f0 := HK.out.res.fr 0; have f1 := HK.out.res.fr 1; have f2 := HK.out.res.fr 2; have f3 := HK.out.res.fr 3; have f4 := HK.out.res.fr 4; have HS := Lib.hid (HK.out.res.set 0 0 0 0 (.slice none 0 0)); have z0 := HS.out.c0; have z1 := HS.out.c1; have z2 := HS.out.c2; have z3 := HS.out.c3; have z4 := HS.out.c4)
    exact bodyPost_ret (v := .tuple #[A5 0 0 0 0 (.slice none 0 0), .int .i64 E]) (by simp [results, Tryd.results22, go_sem, z0, z1, z2, z3, z4]) rfl (retE_no _ (st5_below _ _ _ _ _ (by omega) HK.out.c.bel))
end Go.Proofs.YtbeoigmaieiigaaDoor
