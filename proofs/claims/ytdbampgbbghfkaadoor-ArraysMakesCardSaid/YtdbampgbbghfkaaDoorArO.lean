/- slices.Clone; placeIn, At and With of the code. -/
import Derived.Test.YtdbampgbbghfkaaDoorArI
import Derived.Lib.SliceRun
namespace Go.Proofs.YtdbampgbbghfkaaDoor
open Go.RowKit

set_option maxRecDepth 100000 in
set_option maxHeartbeats 4000000 in
theorem clone_any (v : Value) (z : List Int) (w : World) (hv : RdI w.heap.size w v z) (hn : Ru.NilC v) (hl : z.length ≤ 100000) :
    Calls Tryd.prog 36 #[v] w fun e w' => ∃ u, e = .returned u ∧ Ru.Ins 2 w' w.heap.size u z ∧ Below w.heap.size w w' := by
  have HV := Lib.hid hv
  have HN := Lib.hid hn
  have HQ := fun (W : World) (a : Option Addr) (n c n' c' : Nat) => Lib.run_eql_slice_nil (P := Tryd.prog) W 22 2 a n c n' c' Tryd.underlying22
  obtain ⟨p, cap, rfl, hcap, hcap2, hcell⟩ := hv
  cases p with
  | none =>
    have hz : z = [] := by
      rcases z with _ | ⟨c, z⟩
      · rfl
      · obtain ⟨b, off, e, _⟩ := hcell (by simp); cases e
    subst hz
    clear hcell
    go_enter Tryd.func36, Tryd.ntmps36
    go_wp2
    go_ret
    exact ⟨_, rfl, World.ownsRow_nil _ _ _ _, Below.refl _ _⟩
  | some ad =>
    clear hcell
    have HO := Lib.hid (ins_lit w)
    have HR := Lib.hid (HV.out.below (bel1 w (.cells #[] 2)))
    go_enter Tryd.func36, Tryd.ntmps36
    go_wp2_with (at_builtin; refine Ru.wpList_append_is (by simp [Region.wanted]) _ _ rfl w.heap.size _ [] rfl HO.out _ z rfl _ HR.out.ru HN.out (by simp; omega) (by simp) ?_; intro u w2 hu hg; have HB2 := Lib.hid ((bel1 w (.cells #[] 2)).grown hg (by simp) (fun k e => (World.ownsRow.lt HO.out k e).1)); rw [List.nil_append] at hu; obtain ⟨ua, uc, hue, _, _⟩ := (ins_new hu).form; subst hue; have HU := Lib.hid hu; clear hu hg)
    go_ret
    exact ⟨_, rfl, HU.out, HB2.out⟩

/-- What At, With return. -/
def atE (A : Ar) (p q : Int) : Int := if ck A = 0 then plE A.r A.a A.b p q else ck A
def atP (A : Ar) (p q : Int) : Int := if ck A = 0 then plV A.r A.a A.b p q else 0
def atV (A : Ar) (p q : Int) : Int := if atE A p q = 0 then A.z.getD (atP A p q).toNat 0 else 0
def wtA (A : Ar) (p q v : Int) : Ar := ⟨A.k, A.r, A.a, A.b, A.z.set (atP A p q).toNat v⟩
def wtE (A : Ar) (p q v : Int) : Int := if atE A p q = 0 then (if A.k = 2 ∧ Ru.isR v = false then 7 else 0) else atE A p q
def wtV (A : Ar) (p q v : Int) : Ar := if wtE A p q v = 0 then wtA A p q v else Ar.no
theorem atE_ok {A : Ar} {p q : Int} (h : atE A p q = 0) : Good A ∧ 0 ≤ atP A p q ∧ atP A p q < A.z.length := by
  unfold atE at h
  by_cases hk : ck A = 0
  · rw [if_pos hk] at h
    have hg := ck_good hk
    unfold atP
    rw [if_pos hk]
    unfold plE at h
    rw [if_pos (sh_ok hg.sh)] at h
    unfold plV plE
    rw [if_pos (sh_ok hg.sh), h, if_pos rfl]
    have hh : 0 ≤ p ∧ p < mxa A.r A.a ∧ 0 ≤ q ∧ q < mxb A.r A.b := by
      by_cases hc : 0 ≤ p ∧ p < mxa A.r A.a ∧ 0 ≤ q ∧ q < mxb A.r A.b
      · exact hc
      · rw [if_neg hc] at h; cases h
    obtain ⟨p0, p1, q0, q1⟩ := hh
    have hm := mx_cn A.r A.a A.b hg.sh.bd.1
    have hl := hg.len
    have e1 : p * mxb A.r A.b ≤ (mxa A.r A.a - 1) * mxb A.r A.b := Int.mul_le_mul_of_nonneg_right (by omega) (by omega)
    have e2 : (mxa A.r A.a - 1) * mxb A.r A.b = mxa A.r A.a * mxb A.r A.b - mxb A.r A.b := by rw [Int.sub_mul]; omega
    have e0 := Int.mul_nonneg p0 (show 0 ≤ mxb A.r A.b by omega)
    exact ⟨hg, by omega, by omega⟩
  · rw [if_neg hk] at h; exact absurd h hk
theorem all_set {z : List Int} {i : Nat} (hi : i < z.length) {v : Int} (h : z.all Ru.isR = true) : (z.set i v).all Ru.isR = Ru.isR v := by
  cases hv : Ru.isR v
  · rw [List.all_eq_false]
    exact ⟨v, List.mem_set hi v, by simp [hv]⟩
  · rw [List.all_eq_true]
    intro x hx
    rcases List.mem_or_eq_of_mem_set hx with hx | rfl
    · exact List.all_eq_true.1 h x hx
    · exact hv
theorem wt_ck {A : Ar} {p q v : Int} (h : atE A p q = 0) : ck (wtA A p q v) = wtE A p q v ∧ mk (wtA A p q v) = wtV A p q v := by
  obtain ⟨hg, h0, h1⟩ := atE_ok h
  have e : ck (wtA A p q v) = wtE A p q v := by
    unfold wtE
    rw [if_pos h]
    by_cases hk : A.k = 2
    · have ha := all_set (i := (atP A p q).toNat) (by omega) (v := v) (hg.runes hk)
      cases hv : Ru.isR v
      · rw [if_pos ⟨hk, rfl⟩]
        unfold ck wtA
        simp only
        rw [if_neg (by omega), if_neg (by rw [sh_ok hg.sh]; decide), if_neg (by rw [List.length_set, hg.len]; simp), if_pos ⟨hk, by rw [ha, hv]⟩]
      · rw [if_neg (by simp)]
        exact good_ck ⟨hg.kind, hg.sh, by unfold wtA; simp only [List.length_set]; exact hg.len, fun _ => by unfold wtA; simp only; rw [ha, hv]⟩
    · rw [if_neg (by simp [hk])]
      exact good_ck ⟨hg.kind, hg.sh, by unfold wtA; simp only [List.length_set]; exact hg.len, fun e => absurd e hk⟩
  refine ⟨e, ?_⟩
  unfold mk wtV
  rw [e]

/-- What a walk over an array and an index keeps. -/
structure KP (w : World) (A : Ar) (v : Value) (p q : Int) (w' : World) : Prop where
  bel : Below w.heap.size w w'
  blk : R5 w' w.heap.size A.k A.r A.a A.b v
  idx : R2 w' (w.heap.size + 1) p q
  rd : RdI w.heap.size w' v A.z
  lay : Ru.Lay w'
theorem KP.next {w w' w'' : World} {A : Ar} {v : Value} {p q : Int} (h : KP w A v p q w') (hb : Below w'.heap.size w' w'') : KP w A v p q w'' :=
  ⟨h.bel.trans (hb.mono h.bel.size), h.blk.next hb, h.idx.next hb, h.rd.below (hb.mono h.bel.size), h.lay.next hb⟩
theorem KP.rdn {w w' : World} {A : Ar} {v : Value} {p q : Int} (h : KP w A v p q w') : RdI w'.heap.size w' v A.z := h.rd.mono h.bel.size
theorem KP.new {w : World} {A : Ar} {v : Value} (p q : Int) (hw : Ru.Lay w) (hv : RdI w.heap.size w v A.z) : KP w A v p q ((w.alloc (.cells #[.int .i64 A.k, .int .i64 A.r, .int .i64 A.a, .int .i64 A.b, v] 27)).alloc (.cells #[.int .i64 p, .int .i64 q] 25)) := by
  have hb : Below w.heap.size w ((w.alloc (.cells #[.int .i64 A.k, .int .i64 A.r, .int .i64 A.a, .int .i64 A.b, v] 27)).alloc (.cells #[.int .i64 p, .int .i64 q] 25)) := (bel1 _ _).trans ((bel1 _ _).mono (by simp))
  refine ⟨hb, (R5.new w _ _ _ _ _).alloc _, ?_, hv.below hb, (hw.alloc _).alloc _⟩
  have : (w.alloc (.cells #[.int .i64 A.k, .int .i64 A.r, .int .i64 A.a, .int .i64 A.b, v] 27)).heap.size = w.heap.size + 1 := by simp
  rw [← this]; exact R2.new _ _ _

set_option maxRecDepth 100000 in
set_option maxHeartbeats 4000000 in
theorem placeIn_any (A : Ar) (v : Value) (p q : Int) (w : World) (hw : Ru.Lay w) (hv : RdI w.heap.size w v A.z) (hl : A.z.length ≤ 1000000) :
    Calls Tryd.prog 38 #[A5 A.k A.r A.a A.b v, P2 p q] w fun e w' => e = .returned (.tuple #[.int .i64 (atP A p q), .int .i64 (atE A p q)]) ∧ Below w.heap.size w w' := by
  have HC := Lib.hid (fun W h1 h2 => acheck_any A v W h1 h2 hl)
  have HP := Lib.hid (fun W => place_any A.r A.a A.b p q W)
  have HK := Lib.hid (KP.new (A := A) p q hw hv)
  have x0 := HK.out.blk.c0; have x1 := HK.out.blk.c1; have x2 := HK.out.blk.c2; have x3 := HK.out.blk.c3; have x4 := HK.out.blk.c4
  have y0 := HK.out.idx.c0; have y1 := HK.out.idx.c1
  obtain ⟨t, cap, rfl, hcap, hcap2, hcell⟩ := hv
  clear hcell hw
  by_cases hk : ck A = 0
  · have HE : Hid (atE A p q = plE A.r A.a A.b p q ∧ atP A p q = plV A.r A.a A.b p q) := ⟨if_pos hk, if_pos hk⟩
    rw [HE.out.1, HE.out.2]
    rw [hk] at HC
    clear hk
    go_enter Tryd.func38, Tryd.ntmps38
    go_wp2_with (first
      | (go_at_call 17; refine (HC.out _ HK.out.lay HK.out.rdn).mono ?_; rintro e w' ⟨rfl, hb⟩; have HK2 := Lib.hid (HK.out.next hb); clear HK hb x0 x1 x2 x3 x4 y0 y1; have HK := HK2; clear HK2; have x0 := HK.out.blk.c0; have x1 := HK.out.blk.c1; have x2 := HK.out.blk.c2; have x3 := HK.out.blk.c3; have x4 := HK.out.blk.c4; have y0 := HK.out.idx.c0; have y1 := HK.out.idx.c1)
      | (go_at_call 58; refine (HP.out _).mono ?_; rintro e w' ⟨rfl, hb⟩; have HK2 := Lib.hid (HK.out.next hb); clear HK hb x0 x1 x2 x3 x4 y0 y1; have HK := HK2; clear HK2; have x0 := HK.out.blk.c0; have x1 := HK.out.blk.c1; have x2 := HK.out.blk.c2; have x3 := HK.out.blk.c3; have x4 := HK.out.blk.c4; have y0 := HK.out.idx.c0; have y1 := HK.out.idx.c1))
    go_ret2
    exact ⟨rfl, HK.out.bel⟩
  · have HE : Hid (atE A p q = ck A ∧ atP A p q = 0) := ⟨if_neg hk, if_neg hk⟩
    rw [HE.out.1, HE.out.2]
    obtain ⟨E, hE⟩ : ∃ E, ck A = E := ⟨_, rfl⟩
    rw [hE] at HC hk ⊢
    have k1 : (E != 0) = true := by simpa using hk
    clear hk hE HE
    go_enter Tryd.func38, Tryd.ntmps38
    go_wp2_with (go_at_call 17; refine (HC.out _ HK.out.lay HK.out.rdn).mono ?_; rintro e w' ⟨rfl, hb⟩; have HK2 := Lib.hid (HK.out.next hb); clear HK hb x0 x1 x2 x3 x4 y0 y1; have HK := HK2; clear HK2; have x0 := HK.out.blk.c0; have x1 := HK.out.blk.c1; have x2 := HK.out.blk.c2; have x3 := HK.out.blk.c3; have x4 := HK.out.blk.c4; have y0 := HK.out.idx.c0; have y1 := HK.out.idx.c1)
    go_ret2
    exact ⟨rfl, HK.out.bel⟩

set_option maxRecDepth 100000 in
set_option maxHeartbeats 4000000 in
theorem at_any (A : Ar) (v : Value) (p q : Int) (w : World) (hw : Ru.Lay w) (hv : RdI w.heap.size w v A.z) (hl : A.z.length ≤ 1000000) :
    Calls Tryd.prog 21 #[A5 A.k A.r A.a A.b v, P2 p q] w fun e w' => e = .returned (.tuple #[.int .i64 (atV A p q), .int .i64 (atE A p q)]) ∧ Below w.heap.size w w' := by
  have HP := Lib.hid (fun W h1 h2 => placeIn_any A v p q W h1 h2 hl)
  have HK := Lib.hid (KP.new (A := A) p q hw hv)
  have x0 := HK.out.blk.c0; have x1 := HK.out.blk.c1; have x2 := HK.out.blk.c2; have x3 := HK.out.blk.c3; have x4 := HK.out.blk.c4
  have y0 := HK.out.idx.c0; have y1 := HK.out.idx.c1
  obtain ⟨t, cap, rfl, hcap, hcap2, hcell⟩ := hv
  clear hcell hw
  by_cases hk : atE A p q = 0
  · obtain ⟨hg, h0, h1⟩ := atE_ok hk
    have HV : Hid (atV A p q = A.z.getD (atP A p q).toNat 0) := if_pos hk
    rw [HV.out, hk]
    rw [hk] at HP
    obtain ⟨j, hj⟩ : ∃ j : Nat, atP A p q = j := ⟨(atP A p q).toNat, by omega⟩
    rw [hj] at HP h1 ⊢
    have hjl : j < A.z.length := by omega
    have hji : (j : Int) < (A.z.length : Int) := by omega
    rw [Int.toNat_natCast]
    have HG : Hid (A.z.getD j 0 = A.z[j]) := by unfold Hid; rw [List.getD_eq_getElem?_getD, List.getElem?_eq_getElem hjl]; rfl
    clear h0 h1 hj hk HV
    obtain ⟨g, off, rfl, hbb, hc⟩ := HK.out.rd.cells (by intro e; rw [e] at hjl; simp at hjl)
    clear hc
    go_enter Tryd.func21, Tryd.ntmps21
    go_wp2_with (go_at_call 38; refine (HP.out _ HK.out.lay HK.out.rdn).mono ?_; rintro e w' ⟨rfl, hb⟩; have HK2 := Lib.hid (HK.out.next hb); clear HK hb x0 x1 x2 x3 x4 y0 y1; have HK := HK2; clear HK2; have x0 := HK.out.blk.c0; have x1 := HK.out.blk.c1; have x2 := HK.out.blk.c2; have x3 := HK.out.blk.c3; have x4 := HK.out.blk.c4; have y0 := HK.out.idx.c0; have y1 := HK.out.idx.c1; obtain ⟨g2, off2, hgo, hbb2, hc2⟩ := HK.out.rd.cells (by intro e; rw [e] at hjl; simp at hjl); cases hgo; have hd := hc2 j hjl; clear hc2)
    go_ret2
    rw [HG.out]
    exact ⟨rfl, HK.out.bel⟩
  · have HV : Hid (atV A p q = 0) := if_neg hk
    rw [HV.out]
    obtain ⟨E, hE⟩ : ∃ E, atE A p q = E := ⟨_, rfl⟩
    rw [hE] at HP hk ⊢
    have k1 : (E != 0) = true := by simpa using hk
    clear hk hE HV
    go_enter Tryd.func21, Tryd.ntmps21
    go_wp2_with (go_at_call 38; refine (HP.out _ HK.out.lay HK.out.rdn).mono ?_; rintro e w' ⟨rfl, hb⟩; have HK2 := Lib.hid (HK.out.next hb); clear HK hb x0 x1 x2 x3 x4 y0 y1; have HK := HK2; clear HK2; have x0 := HK.out.blk.c0; have x1 := HK.out.blk.c1; have x2 := HK.out.blk.c2; have x3 := HK.out.blk.c3; have x4 := HK.out.blk.c4; have y0 := HK.out.idx.c0; have y1 := HK.out.idx.c1)
    go_ret2
    exact ⟨rfl, HK.out.bel⟩
/-- A row of the call's own that is not empty. -/
theorem ins_some {W : World} {B : Nat} {u : Value} {z : List Int} (h : Ru.Ins 2 W B u z) (hz : z ≠ []) :
    ∃ g c, u = .slice (some ⟨g, 0, none⟩) z.length c ∧ (B ≤ g ∧ g < W.heap.size) ∧ (∀ j (hj : j < z.length), W.cell? ⟨g, j, none⟩ = some (.int .i64 z[j])) ∧ (∀ j, W.frozen? ⟨g, j, none⟩ = false) ∧ ∀ j v, j < z.length → Ru.Ins 2 (W.setCell ⟨g, j, none⟩ (.int .i64 v)) B u (z.set j v) := by
  have h' := h
  obtain ⟨h1, ⟨rfl, h0⟩ | ⟨g, cap, cur, rfl, hg, hh, r1, r2, r3, r4⟩⟩ := h
  · exact absurd (List.length_eq_zero_iff.1 h0) hz
  · refine ⟨g, cap, rfl, ⟨hg, (Array.getElem?_eq_some_iff.1 hh).1⟩, fun j hj => ?_, fun j => Lib.frozen_of_heap hh j, fun j v hj => ?_⟩
    · have := World.ownsRow.cellAt h' j (by omega)
      rw [this]
      simp [List.getElem?_eq_getElem hj]
    · refine ⟨by simp, .inr ⟨g, cap, cur.setIfInBounds j (.int .i64 v), by rw [List.length_set], hg, ?_, by rw [List.length_set]; exact r1, r2, by simpa using r3, ?_⟩⟩
      · simp [World.setCell, Array.getElem?_modify, hh]
      · rw [List.length_set, Array.toList_setIfInBounds, List.take_set, r4, List.map_set]
/-- What a walk of With keeps. -/
structure KW (w : World) (A : Ar) (v : Value) (p q : Int) (w' : World) : Prop where
  bel : Below w.heap.size w w'
  blk : R5 w' w.heap.size A.k A.r A.a A.b v
  idx : R2 w' (w.heap.size + 1) p q
  res : R5 w' (w.heap.size + 2) 0 0 0 0 (.slice none 0 0)
  rd : RdI w.heap.size w' v A.z
  lay : Ru.Lay w'
theorem KW.next {w w' w'' : World} {A : Ar} {v : Value} {p q : Int} (h : KW w A v p q w') (hb : Below w'.heap.size w' w'') : KW w A v p q w'' :=
  ⟨h.bel.trans (hb.mono h.bel.size), h.blk.next hb, h.idx.next hb, h.res.next hb, h.rd.below (hb.mono h.bel.size), h.lay.next hb⟩
theorem KW.rdn {w w' : World} {A : Ar} {v : Value} {p q : Int} (h : KW w A v p q w') : RdI w'.heap.size w' v A.z := h.rd.mono h.bel.size
theorem KW.put {w w' : World} {A : Ar} {v : Value} {p q : Int} (h : KW w A v p q w') (hs : 3 ≤ w.heap.size) {g : Nat} (hg : w.heap.size + 2 < g) (j : Nat) (x : Value) : KW w A v p q (w'.setCell ⟨g, j, none⟩ x) :=
  ⟨h.bel.setCell (p := ⟨g, j, none⟩) (by show w.heap.size ≤ g; omega) _, (blkO _ _ _ _ (by omega)).trans h.blk, (blkO _ _ _ _ (by omega)).trans h.idx, (blkO _ _ _ _ (by omega)).trans h.res,
    h.rd.below ((Below.refl _ w').setCell (p := ⟨g, j, none⟩) (by show w.heap.size ≤ g; omega) _), h.lay.below (B := w.heap.size + 2) (by omega) ((Below.refl _ w').setCell (p := ⟨g, j, none⟩) (by show w.heap.size + 2 ≤ g; omega) _)⟩
theorem KW.new {w : World} {A : Ar} {v : Value} (p q : Int) (hw : Ru.Lay w) (hv : RdI w.heap.size w v A.z) : KW w A v p q (((w.alloc (.cells #[.int .i64 A.k, .int .i64 A.r, .int .i64 A.a, .int .i64 A.b, v] 27)).alloc (.cells #[.int .i64 p, .int .i64 q] 25)).alloc (.cells #[.int .i64 0, .int .i64 0, .int .i64 0, .int .i64 0, .slice none 0 0] 27)) := by
  have h := KP.new (A := A) p q hw hv
  have h2 := h.next (bel1 _ (.cells #[.int .i64 0, .int .i64 0, .int .i64 0, .int .i64 0, .slice none 0 0] 27))
  refine ⟨h2.bel, h2.blk, h2.idx, ?_, h2.rd, h2.lay⟩
  have : ((w.alloc (.cells #[.int .i64 A.k, .int .i64 A.r, .int .i64 A.a, .int .i64 A.b, v] 27)).alloc (.cells #[.int .i64 p, .int .i64 q] 25)).heap.size = w.heap.size + 2 := by simp
  rw [← this]; exact R5.new _ _ _ _ _ _

set_option maxRecDepth 100000 in
set_option maxHeartbeats 4000000 in
theorem with_any (A : Ar) (v : Value) (p q x : Int) (w : World) (hw : Ru.Lay w) (hv : RdI w.heap.size w v A.z) (hn : Ru.NilC v) (hl : A.z.length ≤ 100000) :
    Calls Tryd.prog 20 #[A5 A.k A.r A.a A.b v, P2 p q, .int .i64 x] w (RetE (wtV A p q x) (wtE A p q x) w) := by
  have HP := Lib.hid (fun W h1 h2 => placeIn_any A v p q W h1 h2 (by omega))
  have HCl := Lib.hid (fun W h1 => clone_any v A.z W h1 hn hl)
  have HMk := Lib.hid (fun (z : List Int) u W h1 h2 (h3 : z.length ≤ 1000000) => make_any A.k A.r A.a A.b z u W h1 h2 h3)
  have hsz0 := hw.size
  have HK := Lib.hid (KW.new (A := A) p q hw hv)
  have x0 := HK.out.blk.c0; have x1 := HK.out.blk.c1; have x2 := HK.out.blk.c2; have x3 := HK.out.blk.c3; have x4 := HK.out.blk.c4
  have y0 := HK.out.idx.c0; have y1 := HK.out.idx.c1
  obtain ⟨t, cap, rfl, hcap, hcap2, hcell⟩ := hv
  clear hcell hw hn
  by_cases hk : atE A p q = 0
  · obtain ⟨hg, h0, h1⟩ := atE_ok hk
    have HV := Lib.hid (wt_ck (v := x) hk)
    rw [hk] at HP
    obtain ⟨j, hj⟩ : ∃ j : Nat, atP A p q = j := ⟨(atP A p q).toNat, by omega⟩
    unfold wtA at HV
    rw [hj] at HP h1 HV
    rw [Int.toNat_natCast] at HV
    have hjl : j < A.z.length := by omega
    have hji : (j : Int) < (A.z.length : Int) := by omega
    have hzn : A.z ≠ [] := by intro e; rw [e] at hjl; simp at hjl
    clear h0 h1 hj hk
    have HM2 : Hid (∀ u W, Ru.Lay W → RdI W.heap.size W u (A.z.set j x) → Calls Tryd.prog 39 #[.int .i64 A.k, .int .i64 A.r, P2 A.a A.b, u] W (RetE (wtV A p q x) (wtE A p q x) W)) := fun u W h1 h2 => by
      have := HMk.out (A.z.set j x) u W h1 h2 (by rw [List.length_set]; omega)
      rwa [HV.out.1, HV.out.2] at this
    generalize wtV A p q x = M at HM2 ⊢
    generalize wtE A p q x = E at HM2 ⊢
    obtain ⟨a1, a2, a3, a4, a5⟩ := M
    clear HMk HV
    go_enter Tryd.func20, Tryd.ntmps20
    go_wp2_with (first
      | (go_at_call 38; refine (HP.out _ HK.out.lay HK.out.rdn).mono ?_; rintro e w' ⟨rfl, hb⟩; have HK2 := Lib.hid (HK.out.next hb); clear HK hb x0 x1 x2 x3 x4 y0 y1; have HK := HK2; clear HK2; have x0 := HK.out.blk.c0; have x1 := HK.out.blk.c1; have x2 := HK.out.blk.c2; have x3 := HK.out.blk.c3; have x4 := HK.out.blk.c4; have y0 := HK.out.idx.c0; have y1 := HK.out.idx.c1)
      | (go_at_call 36; refine (HCl.out _ HK.out.rdn).mono ?_; rintro e w' ⟨u, rfl, hu, hb⟩; obtain ⟨g, uc, rfl, ⟨hg1, hg2⟩, hcs, hfs, hset⟩ := ins_some hu hzn; have hgl := HK.out.res.lt; have e1 := hcs j hjl; have e2 := hfs j; have HU := Lib.hid (hset j x hjl); clear hcs hfs hset hu; have HK3 := Lib.hid ((HK.out.next hb).put hsz0 (by omega : w.heap.size + 2 < g) j (.int .i64 x)); have HK2 := Lib.hid (HK.out.next hb); clear HK hb x0 x1 x2 x3 x4 y0 y1; have HK := HK2; clear HK2; have x0 := HK.out.blk.c0; have x1 := HK.out.blk.c1; have x2 := HK.out.blk.c2; have x3 := HK.out.blk.c3; have x4 := HK.out.blk.c4; have y0 := HK.out.idx.c0; have y1 := HK.out.idx.c1; clear x0 x1 x2 x3 x4 y0 y1; have x0 := HK3.out.blk.c0; have x1 := HK3.out.blk.c1; have x2 := HK3.out.blk.c2; have x3 := HK3.out.blk.c3; have x4 := HK3.out.blk.c4)
      | (go_at_call 39; refine (HM2.out _ _ HK3.out.lay (ins_new HU.out).rd).mono ?_; rintro e w9 ⟨u9, rfl, hu9, hb⟩; obtain ⟨r9, c9, rfl, hr1, hr2⟩ := hu9.form; have HU9 := Lib.hid hu9; have hlt9 := HK3.out.res.lt; have HR9 := Lib.hid (HK3.out.res.next hb); have HB9 := Lib.hid (HK3.out.bel.trans (hb.mono HK3.out.bel.size)); clear hu9 hb; have z0 := HR9.out.c0; have z1 := HR9.out.c1; have z2 := HR9.out.c2; have z3 := HR9.out.c3; have z4 := HR9.out.c4; have f0 := HR9.out.fr 0; have f1 := HR9.out.fr 1; have f2 := HR9.out.fr 2; have f3 := HR9.out.fr 3; have f4 := HR9.out.fr 4; have HS9 := Lib.hid (HR9.out.set a1 a2 a3 a4 (.slice r9 a5.length c9)); have s0 := HS9.out.c0; have s1 := HS9.out.c1; have s2 := HS9.out.c2; have s3 := HS9.out.c3; have s4 := HS9.out.c4))
    refine bodyPost_ret (v := .tuple #[A5 a1 a2 a3 a4 (.slice r9 a5.length c9), .int .i64 E]) (by simp [results, Tryd.results20, go_sem, s0, s1, s2, s3, s4]) rfl ?_
    exact ⟨_, rfl, (HU9.out.st5 hlt9 _ _ _ _ _).mono (by omega), st5_below _ _ _ _ _ (by omega) HB9.out⟩
  · have HV : Hid (wtE A p q x = atE A p q ∧ wtV A p q x = Ar.no) := by
      have e : wtE A p q x = atE A p q := by unfold wtE; exact if_neg hk
      exact ⟨e, by unfold wtV; rw [e]; exact if_neg hk⟩
    rw [HV.out.1, HV.out.2]
    obtain ⟨E, hE⟩ : ∃ E, atE A p q = E := ⟨_, rfl⟩
    rw [hE] at HP hk ⊢
    have k1 : (E != 0) = true := by simpa using hk
    clear hk hE HV
    go_enter Tryd.func20, Tryd.ntmps20
    go_wp2_with (go_at_call 38; refine (HP.out _ HK.out.lay HK.out.rdn).mono ?_; rintro e w' ⟨rfl, hb⟩; have HK2 := Lib.hid (HK.out.next hb); clear HK hb x0 x1 x2 x3 x4 y0 y1; have HK := HK2; clear HK2; have x0 := HK.out.blk.c0; have x1 := HK.out.blk.c1; have x2 := HK.out.blk.c2; have x3 := HK.out.blk.c3; have x4 := HK.out.blk.c4; have y0 := HK.out.idx.c0; have y1 := HK.out.idx.c1; have z0 := HK.out.res.c0; have z1 := HK.out.res.c1; have z2 := HK.out.res.c2; have z3 := HK.out.res.c3; have z4 := HK.out.res.c4; have f0 := HK.out.res.fr 0; have f1 := HK.out.res.fr 1; have f2 := HK.out.res.fr 2; have f3 := HK.out.res.fr 3; have f4 := HK.out.res.fr 4; have HS9 := Lib.hid (HK.out.res.set 0 0 0 0 (.slice none 0 0)); have s0 := HS9.out.c0; have s1 := HS9.out.c1; have s2 := HS9.out.c2; have s3 := HS9.out.c3; have s4 := HS9.out.c4)
    exact bodyPost_ret (v := .tuple #[A5 0 0 0 0 (.slice none 0 0), .int .i64 E]) (by simp [results, Tryd.results20, go_sem, s0, s1, s2, s3, s4]) rfl (retE_no E (st5_below _ _ _ _ _ (by omega) HK.out.bel))
end Go.Proofs.YtdbampgbbghfkaaDoor
