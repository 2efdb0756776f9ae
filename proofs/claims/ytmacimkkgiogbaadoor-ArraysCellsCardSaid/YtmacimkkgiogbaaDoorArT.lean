/- At and With of the reference. -/
import Derived.Test.YtmacimkkgiogbaaDoorArO
import Derived.Test.YtmacimkkgiogbaaDoorArF
namespace Go.Proofs.YtmacimkkgiogbaaDoor
open Go.RowKit

set_option maxRecDepth 100000 in
set_option maxHeartbeats 4000000 in
theorem rat_any (A : Ar) (v : Value) (p q : Int) (w : World) (hw : Ru.Lay w) (hv : RdI w.heap.size w v A.z) (hl : A.z.length ≤ 1000000) :
    Calls Tryd.prog 29 #[A5 A.k A.r A.a A.b v, P2 p q] w fun e w' => e = .returned (.tuple #[.int .i64 (atV A p q), .int .i64 (atE A p q)]) ∧ Below w.heap.size w w' := by
  have HC := Lib.hid (fun W h2 => archeck_any A v W h2 hl)
  have HP := Lib.hid (fun W => rplace_any A.r A.a A.b p q W)
  have HK := Lib.hid (KP.new (A := A) p q hw hv)
  have x0 := HK.out.blk.c0; have x1 := HK.out.blk.c1; have x2 := HK.out.blk.c2; have x3 := HK.out.blk.c3; have x4 := HK.out.blk.c4
  have y0 := HK.out.idx.c0; have y1 := HK.out.idx.c1
  obtain ⟨t, cap, rfl, hcap, hcap2, hcell⟩ := hv
  clear hcell hw
  by_cases hc : ck A = 0
  · by_cases hk : atE A p q = 0
    · obtain ⟨hg, h0, h1⟩ := atE_ok hk
      have HV : Hid (atV A p q = A.z.getD (atP A p q).toNat 0) := if_pos hk
      have e1 : plE A.r A.a A.b p q = 0 := by have := hk; unfold atE at this; rwa [if_pos hc] at this
      have e2 : plV A.r A.a A.b p q = atP A p q := by unfold atP; rw [if_pos hc]
      rw [HV.out, hk]
      rw [e1, e2] at HP
      rw [hc] at HC
      obtain ⟨j, hj⟩ : ∃ j : Nat, atP A p q = j := ⟨(atP A p q).toNat, by omega⟩
      rw [hj] at HP h1 ⊢
      have hjl : j < A.z.length := by omega
      have hji : (j : Int) < (A.z.length : Int) := by omega
      rw [Int.toNat_natCast]
      have HG : Hid (A.z.getD j 0 = A.z[j]) := by unfold Hid; rw [List.getD_eq_getElem?_getD, List.getElem?_eq_getElem hjl]; rfl
      clear h0 h1 hj hk HV e1 e2 hc
      obtain ⟨g, off, rfl, hbb, hcc⟩ := HK.out.rd.cells (by intro e; rw [e] at hjl; simp at hjl)
      clear hcc
      go_enter Tryd.func29, Tryd.ntmps29
      go_wp2_with (first
        | (go_at_call 18; refine (HC.out _ HK.out.rdn).mono ?_; rintro e w' ⟨rfl, hb⟩; have HK2 := Lib.hid (HK.out.next hb); clear HK hb x0 x1 x2 x3 x4 y0 y1; have HK := HK2; clear HK2; have x0 := HK.out.blk.c0; have x1 := HK.out.blk.c1; have x2 := HK.out.blk.c2; have x3 := HK.out.blk.c3; have x4 := HK.out.blk.c4; have y0 := HK.out.idx.c0; have y1 := HK.out.idx.c1)
        | (go_at_call 55; refine (HP.out _).mono ?_; rintro e w' ⟨rfl, hb⟩; have HK2 := Lib.hid (HK.out.next hb); clear HK hb x0 x1 x2 x3 x4 y0 y1; have HK := HK2; clear HK2; have x0 := HK.out.blk.c0; have x1 := HK.out.blk.c1; have x2 := HK.out.blk.c2; have x3 := HK.out.blk.c3; have x4 := HK.out.blk.c4; have y0 := HK.out.idx.c0; have y1 := HK.out.idx.c1; obtain ⟨g2, off2, hgo, hbb2, hc2⟩ := HK.out.rd.cells (by intro e; rw [e] at hjl; simp at hjl); cases hgo; have hd := hc2 j hjl; clear hc2))
      go_ret2
      rw [HG.out]
      exact ⟨rfl, HK.out.bel⟩
    · have HV : Hid (atV A p q = 0) := if_neg hk
      have e1 : atE A p q = plE A.r A.a A.b p q := if_pos hc
      rw [HV.out]
      rw [e1] at hk ⊢
      rw [hc] at HC
      obtain ⟨E, hE⟩ : ∃ E, plE A.r A.a A.b p q = E := ⟨_, rfl⟩
      rw [hE] at HP hk ⊢
      have k1 : (E != 0) = true := by simpa using hk
      clear hk hE HV e1 hc
      go_enter Tryd.func29, Tryd.ntmps29
      go_wp2_with (first
        | (go_at_call 18; refine (HC.out _ HK.out.rdn).mono ?_; rintro e w' ⟨rfl, hb⟩; have HK2 := Lib.hid (HK.out.next hb); clear HK hb x0 x1 x2 x3 x4 y0 y1; have HK := HK2; clear HK2; have x0 := HK.out.blk.c0; have x1 := HK.out.blk.c1; have x2 := HK.out.blk.c2; have x3 := HK.out.blk.c3; have x4 := HK.out.blk.c4; have y0 := HK.out.idx.c0; have y1 := HK.out.idx.c1)
        | (go_at_call 55; refine (HP.out _).mono ?_; rintro e w' ⟨rfl, hb⟩; have HK2 := Lib.hid (HK.out.next hb); clear HK hb x0 x1 x2 x3 x4 y0 y1; have HK := HK2; clear HK2; have x0 := HK.out.blk.c0; have x1 := HK.out.blk.c1; have x2 := HK.out.blk.c2; have x3 := HK.out.blk.c3; have x4 := HK.out.blk.c4; have y0 := HK.out.idx.c0; have y1 := HK.out.idx.c1))
      go_ret2
      exact ⟨rfl, HK.out.bel⟩
  · have e1 : atE A p q = ck A := if_neg hc
    have HV : Hid (atV A p q = 0) := if_neg (by rw [e1]; exact hc)
    rw [HV.out, e1]
    obtain ⟨E, hE⟩ : ∃ E, ck A = E := ⟨_, rfl⟩
    rw [hE] at HC hc ⊢
    have k1 : (E != 0) = true := by simpa using hc
    clear hc hE HV e1
    go_enter Tryd.func29, Tryd.ntmps29
    go_wp2_with (go_at_call 18; refine (HC.out _ HK.out.rdn).mono ?_; rintro e w' ⟨rfl, hb⟩; have HK2 := Lib.hid (HK.out.next hb); clear HK hb x0 x1 x2 x3 x4 y0 y1; have HK := HK2; clear HK2; have x0 := HK.out.blk.c0; have x1 := HK.out.blk.c1; have x2 := HK.out.blk.c2; have x3 := HK.out.blk.c3; have x4 := HK.out.blk.c4; have y0 := HK.out.idx.c0; have y1 := HK.out.idx.c1)
    go_ret2
    exact ⟨rfl, HK.out.bel⟩

/-- A row of the call's own is not the block of an array, and a store of an array there leaves it. -/
theorem ins_st5 {W : World} {g B : Nat} {v u : Value} {l : List Int} {k0 r0 a0 b0 : Int} (hi : Ru.Ins 2 W B v l) (hg : R5 W g k0 r0 a0 b0 u) (k r a b : Int) (x : Value) : Ru.Ins 2 (st5 W g k r a b x) B v l := by
  obtain ⟨h1, h2 | ⟨c, cap, cur, rfl, hc, hh, rest⟩⟩ := hi
  · exact ⟨h1, .inl h2⟩
  · have hne : c ≠ g := by
      intro e
      subst e
      unfold R5 at hg
      rw [hh] at hg
      simp at hg
    exact ⟨h1, .inr ⟨c, cap, cur, rfl, hc, (st5_other k r a b x hne).trans hh, rest⟩⟩
theorem ins_ne {W : World} {g B c n cap : Nat} {u : Value} {l : List Int} {k0 r0 a0 b0 : Int} (hi : Ru.Ins 2 W B (.slice (some ⟨c, 0, none⟩) n cap) l) (hg : R5 W g k0 r0 a0 b0 u) : g ≠ c := by
  rcases hi.2 with ⟨h, _⟩ | ⟨c', cap', cur, h, hc, hh, rest⟩
  · cases h
  · cases h
    intro e
    subst e
    unfold R5 at hg
    rw [hh] at hg
    simp at hg
/-- What the region of the reference's With keeps. -/
structure KE (w : World) (B : Nat) (A : Ar) (v : Value) (W : World) : Prop where
  bel : Below w.heap.size w W
  blk : R5 W w.heap.size A.k A.r A.a A.b v
  res : R5 W (w.heap.size + 2) 0 0 0 0 (.slice none 0 0)
  rd : RdI B W v A.z
  lt : w.heap.size + 2 < B
  sz : B ≤ W.heap.size
theorem KE.next {w W W' : World} {B : Nat} {A : Ar} {v : Value} (h : KE w B A v W) (hb : Below B W W') : KE w B A v W' :=
  ⟨h.bel.trans (hb.mono (by have := h.lt; omega)), (hb.block _ (by have := h.lt; omega)).trans h.blk, (hb.block _ h.lt).trans h.res, h.rd.below hb, h.lt, Nat.le_trans h.sz hb.size⟩
abbrev KE2 (w : World) (B : Nat) (A : Ar) (v : Value) (W : World) : Prop := KE w B A v W ∧ W.cell? ⟨w.heap.size, 0, none⟩ = some (.int .i64 A.k) ∧ W.cell? ⟨w.heap.size, 1, none⟩ = some (.int .i64 A.r) ∧ W.cell? ⟨w.heap.size, 2, none⟩ = some (.int .i64 A.a) ∧ W.cell? ⟨w.heap.size, 3, none⟩ = some (.int .i64 A.b) ∧ W.cell? ⟨w.heap.size, 4, none⟩ = some v
theorem KE.all {w W : World} {B : Nat} {A : Ar} {v : Value} (h : KE w B A v W) : KE2 w B A v W := ⟨h, h.blk.c0, h.blk.c1, h.blk.c2, h.blk.c3, h.blk.c4⟩
theorem KE.up {w W : World} {B : Nat} {A : Ar} {v : Value} (h : KE w B A v W) (o : Obj) : KE2 w B A v (W.alloc o) := (h.next ((Below.refl _ _).alloc h.sz o)).all
theorem KE.st {w W : World} {B g : Nat} {A : Ar} {v : Value} (h : KE w B A v W) (hg : B ≤ g) (k r x y : Int) (u : Value) : KE2 w B A v (st5 W g k r x y u) := (h.next (st5_below k r x y u hg (Below.refl _ _))).all
theorem KE.of {w W : World} {A : Ar} {v : Value} {p q : Int} (h : KW w A v p q W) : KE w W.heap.size A v W := ⟨h.bel, h.blk, h.res, h.rdn, h.res.lt, Nat.le_refl _⟩
theorem KE.drew {w W : World} {B : Nat} {A : Ar} {v : Value} (h : KE w B A v W) : KE w B A v W.drew := h.next (Below.refl _ _).drew

set_option maxRecDepth 100000 in
set_option maxHeartbeats 8000000 in
theorem rwith_bad (A : Ar) (v : Value) (p q x : Int) (w : World) (hw : Ru.Lay w) (hv : RdI w.heap.size w v A.z) (hn : Ru.NilC v) (hl : A.z.length ≤ 100000) (hk : atE A p q ≠ 0) :
    Calls Tryd.prog 31 #[A5 A.k A.r A.a A.b v, P2 p q, .int .i64 x] w (RetE (wtV A p q x) (wtE A p q x) w) := by
  have HA := Lib.hid (fun W h1 h2 => rat_any A v p q W h1 h2 (by omega))
  have HK := Lib.hid (KW.new (A := A) p q hw hv)
  have x0 := HK.out.blk.c0; have x1 := HK.out.blk.c1; have x2 := HK.out.blk.c2; have x3 := HK.out.blk.c3; have x4 := HK.out.blk.c4
  have y0 := HK.out.idx.c0; have y1 := HK.out.idx.c1
  have HV : Hid (wtE A p q x = atE A p q ∧ wtV A p q x = Ar.no) := by
    have e : wtE A p q x = atE A p q := by unfold wtE; exact if_neg hk
    exact ⟨e, by unfold wtV; rw [e]; exact if_neg hk⟩
  rw [HV.out.1, HV.out.2]
  obtain ⟨t, cap, rfl, hcap, hcap2, hcell⟩ := hv
  clear hcell hw hn
  obtain ⟨E, hE⟩ : ∃ E, atE A p q = E := ⟨_, rfl⟩
  rw [hE] at HA hk ⊢
  have k1 : (E != 0) = true := by simpa using hk
  have k2 : (E == 0) = false := by simpa using hk
  clear hk hE HV
  go_enter Tryd.func31, Tryd.ntmps31
  go_wp2_with (go_at_call 29; refine (HA.out _ HK.out.lay HK.out.rdn).mono ?_; rintro e w' ⟨rfl, hb⟩; have HK2 := Lib.hid (HK.out.next hb); clear HK hb x0 x1 x2 x3 x4 y0 y1; have HK := HK2; clear HK2; have x0 := HK.out.blk.c0; have x1 := HK.out.blk.c1; have x2 := HK.out.blk.c2; have x3 := HK.out.blk.c3; have x4 := HK.out.blk.c4; have y0 := HK.out.idx.c0; have y1 := HK.out.idx.c1; have s0 := HK.out.res.c0; have s1 := HK.out.res.c1; have s2 := HK.out.res.c2; have s3 := HK.out.res.c3; have s4 := HK.out.res.c4; have f0 := HK.out.res.fr 0; have f1 := HK.out.res.fr 1; have f2 := HK.out.res.fr 2; have f3 := HK.out.res.fr 3; have f4 := HK.out.res.fr 4; have HS := Lib.hid (HK.out.res.set 0 0 0 0 (.slice none 0 0)); have z0 := HS.out.c0; have z1 := HS.out.c1; have z2 := HS.out.c2; have z3 := HS.out.c3; have z4 := HS.out.c4)
  exact bodyPost_ret (v := .tuple #[A5 0 0 0 0 (.slice none 0 0), .int .i64 E]) (by simp [results, Tryd.results31, go_sem, z0, z1, z2, z3, z4]) rfl (retE_no E (st5_below _ _ _ _ _ (by omega) HK.out.bel))

set_option maxRecDepth 100000 in
set_option maxHeartbeats 8000000 in
theorem rwith_rune (A : Ar) (v : Value) (p q x : Int) (w : World) (hw : Ru.Lay w) (hv : RdI w.heap.size w v A.z) (hn : Ru.NilC v) (hl : A.z.length ≤ 100000) (hk : atE A p q = 0) (h2 : A.k = 2) (hr : Ru.isR x = false) :
    Calls Tryd.prog 31 #[A5 A.k A.r A.a A.b v, P2 p q, .int .i64 x] w (RetE (wtV A p q x) (wtE A p q x) w) := by
  have HA := Lib.hid (fun W h1 h2 => rat_any A v p q W h1 h2 (by omega))
  have HK := Lib.hid (KW.new (A := A) p q hw hv)
  have x0 := HK.out.blk.c0; have x1 := HK.out.blk.c1; have x2 := HK.out.blk.c2; have x3 := HK.out.blk.c3; have x4 := HK.out.blk.c4
  have y0 := HK.out.idx.c0; have y1 := HK.out.idx.c1
  have HV : Hid (wtE A p q x = 7 ∧ wtV A p q x = Ar.no) := by
    have e : wtE A p q x = 7 := by unfold wtE; rw [if_pos hk, if_pos ⟨h2, hr⟩]
    exact ⟨e, by unfold wtV; rw [e]; exact if_neg (by decide)⟩
  rw [HV.out.1, HV.out.2]
  have HRv := Lib.hid hr
  obtain ⟨t, cap, rfl, hcap, hcap2, hcell⟩ := hv
  clear hcell hw hn hr
  rw [hk] at HA
  have k2 : (A.k == 2) = true := by simpa using h2
  clear hk HV h2
  go_enter Tryd.func31, Tryd.ntmps31
  go_wp2_with (first
    | (go_at_call 47; refine (rune64_any x _).mono ?_; rw [HRv.out]; rintro e w' ⟨rfl, rfl⟩)
    | (go_at_call 29; refine (HA.out _ HK.out.lay HK.out.rdn).mono ?_; rintro e w' ⟨rfl, hb⟩; have HK2 := Lib.hid (HK.out.next hb); clear HK hb x0 x1 x2 x3 x4 y0 y1; have HK := HK2; clear HK2; have x0 := HK.out.blk.c0; have x1 := HK.out.blk.c1; have x2 := HK.out.blk.c2; have x3 := HK.out.blk.c3; have x4 := HK.out.blk.c4; have y0 := HK.out.idx.c0; have y1 := HK.out.idx.c1; have s0 := HK.out.res.c0; have s1 := HK.out.res.c1; have s2 := HK.out.res.c2; have s3 := HK.out.res.c3; have s4 := HK.out.res.c4; have f0 := HK.out.res.fr 0; have f1 := HK.out.res.fr 1; have f2 := HK.out.res.fr 2; have f3 := HK.out.res.fr 3; have f4 := HK.out.res.fr 4; have HS := Lib.hid (HK.out.res.set 0 0 0 0 (.slice none 0 0)); have z0 := HS.out.c0; have z1 := HS.out.c1; have z2 := HS.out.c2; have z3 := HS.out.c3; have z4 := HS.out.c4))
  exact bodyPost_ret (v := .tuple #[A5 0 0 0 0 (.slice none 0 0), .int .i64 7]) (by simp [results, Tryd.results31, go_sem, z0, z1, z2, z3, z4]) rfl (retE_no 7 (st5_below _ _ _ _ _ (by omega) HK.out.bel))

set_option maxRecDepth 100000 in
set_option maxHeartbeats 8000000 in
theorem rwith_int (A : Ar) (v : Value) (p q x : Int) (w : World) (hw : Ru.Lay w) (hv : RdI w.heap.size w v A.z) (hn : Ru.NilC v) (hl : A.z.length ≤ 100000) (hk : atE A p q = 0) (h2 : A.k ≠ 2) :
    Calls Tryd.prog 31 #[A5 A.k A.r A.a A.b v, P2 p q, .int .i64 x] w (RetE (wtV A p q x) (wtE A p q x) w) := by
  have HA := Lib.hid (fun W h1 h2 => rat_any A v p q W h1 h2 (by omega))
  have HK := Lib.hid (KW.new (A := A) p q hw hv)
  have x0 := HK.out.blk.c0; have x1 := HK.out.blk.c1; have x2 := HK.out.blk.c2; have x3 := HK.out.blk.c3; have x4 := HK.out.blk.c4
  have y0 := HK.out.idx.c0; have y1 := HK.out.idx.c1
  obtain ⟨hg, h0, h1⟩ := atE_ok hk
  have e1 : wtE A p q x = 0 := by unfold wtE; rw [if_pos hk, if_neg (fun h => h2 h.1)]
  have HV : Hid (wtV A p q x = wtA A p q x ∧ wtE A p q x = 0) := ⟨by unfold wtV; exact if_pos e1, e1⟩
  have HP := Lib.hid (fun W => rplace_any A.r A.a A.b p q W)
  have hp1 : plE A.r A.a A.b p q = 0 := by have := hk; unfold atE at this; rwa [if_pos (good_ck hg)] at this
  have hp2 : plV A.r A.a A.b p q = atP A p q := by unfold atP; rw [if_pos (good_ck hg)]
  rw [hp1, hp2] at HP
  rw [hk] at HA
  obtain ⟨j, hj⟩ : ∃ j : Nat, atP A p q = j := ⟨(atP A p q).toNat, by omega⟩
  unfold wtA at HV
  rw [hj] at HP h1 HV
  rw [Int.toNat_natCast] at HV
  have hjl : j < A.z.length := by omega
  have hji : (j : Int) < (A.z.length : Int) := by omega
  have hzn : A.z ≠ [] := by intro e; rw [e] at hjl; simp at hjl
  have HN := Lib.hid hn
  obtain ⟨t, cap, rfl, hcap, hcap2, hcell⟩ := hv
  clear hcell hw hn
  have k2 : (A.k == 2) = false := by simpa using h2
  clear h0 h1 hj hk e1 hp1 hp2 hg h2
  go_enter Tryd.func31, Tryd.ntmps31
  go_wp2_with (first
    | (go_at_call 29; refine (HA.out _ HK.out.lay HK.out.rdn).mono ?_; rintro e w' ⟨rfl, hb⟩; have HK2 := Lib.hid (HK.out.next hb); clear HK hb x0 x1 x2 x3 x4 y0 y1; have HK := HK2; clear HK2; have x0 := HK.out.blk.c0; have x1 := HK.out.blk.c1; have x2 := HK.out.blk.c2; have x3 := HK.out.blk.c3; have x4 := HK.out.blk.c4; have y0 := HK.out.idx.c0; have y1 := HK.out.idx.c1)
    | (go_at_call 55; refine (HP.out _).mono ?_; rintro e w' ⟨rfl, hb⟩; have HK2 := Lib.hid (HK.out.next hb); clear HK hb x0 x1 x2 x3 x4 y0 y1; have HK := HK2; clear HK2; have x0 := HK.out.blk.c0; have x1 := HK.out.blk.c1; have x2 := HK.out.blk.c2; have x3 := HK.out.blk.c3; have x4 := HK.out.blk.c4; have y0 := HK.out.idx.c0; have y1 := HK.out.idx.c1))
  have hS := (KE.of HK.out).drew
  obtain ⟨B, hB⟩ : ∃ B, B = w'.heap.size := ⟨_, rfl⟩
  rw [← hB] at hS
  clear HK hB
  have hlB : w.heap.size + 2 < B := hS.lt
  refine wp_region_held_drew (S := (KE2 w B A (.slice t A.z.length cap))) (by kernel_rfl) ?_ (fun hHeld => ?_)
  · exact KE.all hS
  generalize World.drew _ = wd at hHeld ⊢
  clear hS
  have hHB : B ≤ wd.heap.size := hHeld.1.sz
  refine wpAnyH_take (i := 0) (v := ?_) rfl (by kernel_rfl) (by kernel_rfl) (by kernel_rfl) (fun _ _ _ h => h) (Or.inl ⟨by rfl, ?_⟩) (by assumption) ?_
  rotate_left
  · ((intro w0 hSw); (try dsimp only at hSw); go_simp; (try with_reducible rfl))
  change wpAnyH _ _ _ _ _ _ _ (Act.put _ (some 44) _) _
  try simp only [Act.put, List.setIfInBounds_toArray, List.set_cons_zero, List.set_cons_succ]
  refine wpAnyH_take (i := 1) (v := ?_) rfl (by kernel_rfl) (by kernel_rfl) (by kernel_rfl) (fun _ _ _ h => h) (Or.inl ⟨by rfl, ?_⟩) (by assumption) ?_
  rotate_left
  · ((intro w0 hSw); (try dsimp only at hSw); go_simp; (try with_reducible rfl))
  change wpAnyH _ _ _ _ _ _ _ (Act.put _ (some 45) _) _
  try simp only [Act.put, List.setIfInBounds_toArray, List.set_cons_zero, List.set_cons_succ]
  refine wpAnyH_take (i := 2) (v := ?_) rfl (by kernel_rfl) (by kernel_rfl) (by kernel_rfl) (fun _ _ _ h => h) (Or.inl ⟨by rfl, ?_⟩) (by assumption) ?_
  rotate_left
  · ((intro w0 hSw); (try dsimp only at hSw); go_simp; (try with_reducible rfl))
  change wpAnyH _ _ _ _ _ _ _ (Act.put _ (some 46) _) _
  try simp only [Act.put, List.setIfInBounds_toArray, List.set_cons_zero, List.set_cons_succ]
  refine wpAnyH_take (i := 3) (v := ?_) rfl (by kernel_rfl) (by kernel_rfl) (by kernel_rfl) (fun _ _ _ h => h) (Or.inl ⟨by rfl, ?_⟩) (by assumption) ?_
  rotate_left
  · ((intro w0 hSw); (try dsimp only at hSw); go_simp; (try with_reducible rfl))
  change wpAnyH _ _ _ _ _ _ _ (Act.put _ (some 47) _) _
  try simp only [Act.put, List.setIfInBounds_toArray, List.set_cons_zero, List.set_cons_succ]
  refine wpAnyH_take (i := 4) (v := ?_) rfl (by kernel_rfl) (by kernel_rfl) (by kernel_rfl) (fun _ _ _ h => h) (Or.inl ⟨by rfl, ?_⟩) (by assumption) ?_
  rotate_left
  · ((intro w0 hSw); (try dsimp only at hSw); go_simp; (try with_reducible rfl))
  change wpAnyH _ _ _ _ _ _ _ (Act.put _ (some 48) _) _
  try simp only [Act.put, List.setIfInBounds_toArray, List.set_cons_zero, List.set_cons_succ]
  refine wpAnyH_take (i := 5) (v := ?_) rfl (by kernel_rfl) (by kernel_rfl) (by kernel_rfl) (fun _ _ _ h => h) (Or.inl ⟨by rfl, ?_⟩) (by assumption) ?_
  rotate_left
  · ((intro w0 hSw); (try dsimp only at hSw); go_simp; (try with_reducible rfl))
  change wpAnyH _ _ _ _ _ _ _ (Act.put _ (some 49) _) _
  try simp only [Act.put, List.setIfInBounds_toArray, List.set_cons_zero, List.set_cons_succ]
  refine wpAnyH_take (i := 7) (v := ?_) rfl (by kernel_rfl) (by kernel_rfl) (by kernel_rfl) (fun _ _ _ h => h) (Or.inl ⟨by rfl, ?_⟩) (by assumption) ?_
  rotate_left
  · ((intro w0 hSw); (try dsimp only at hSw); go_simp; (try with_reducible rfl))
  change wpAnyH _ _ _ _ _ _ _ (Act.put _ (some 51) _) _
  try simp only [Act.put, List.setIfInBounds_toArray, List.set_cons_zero, List.set_cons_succ]
  refine wpAnyH_take (i := 8) (v := ?_) rfl (by kernel_rfl) (by kernel_rfl) (by kernel_rfl) (fun _ _ _ h => h) (Or.inl ⟨by rfl, ?_⟩) (by assumption) ?_
  rotate_left
  · ((intro w0 hSw); (try dsimp only at hSw); go_simp; (try with_reducible rfl))
  change wpAnyH _ _ _ _ _ _ _ (Act.put _ (some 52) _) _
  try simp only [Act.put, List.setIfInBounds_toArray, List.set_cons_zero, List.set_cons_succ]
  refine wpAnyH_ready (rs := [6, 11]) (by kernel_rfl) (by simp) ?_
  refine AllReadyH.cons rfl (fun K hK => ?_) (AllReadyH.cons rfl (fun K hK => ?_) (AllReadyH.nil))
  · have HI : Hid (Ru.Ins 2 (wd.alloc (.cells #[] 2)) (wd.heap.size) (.slice (some ⟨wd.heap.size, 0, none⟩) 0 0) []) := by have := ins_lit wd; unfold Hid; simpa using this
    go_simp
    refine hK.out _ _ ?_ (fun hHeld2 => ?_)
    · exact hHeld.1.up _
    clear hK K hHeld
    have hHeld := hHeld2; clear hHeld2
    try change wpAnyH _ _ _ _ _ _ _ (Act.put _ (some 50) _) _
    try simp only [Act.put, List.setIfInBounds_toArray, List.set_cons_zero, List.set_cons_succ]
    refine wpAnyH_ready (rs := [9, 11]) (by kernel_rfl) (by simp) ?_
    refine AllReadyH.cons rfl (fun K hK => ?_) (AllReadyH.cons rfl (fun K hK => ?_) (AllReadyH.nil))
    · refine wp_append_is (.tmp 50) (.tmp 52) rfl (wd.heap.size) _ [] (by rfl) HI.out _ A.z (by rfl) B hHeld.1.rd HN.out (by simp; omega) (by first | omega | (simp; done) | (simp; omega)) ?_
      intro u w2 hu hg
      rw [List.nil_append] at hu
      have hgb := ins_grown HI.out (by first | omega | (simp; done) | (simp; omega)) hg
      obtain ⟨c, qc, rfl, _, _, _, _⟩ := ins_some hu hzn
      have hsz2 := hgb.size
      simp at hsz2
      clear HI
      have HI := Lib.hid hu
      clear hu hg
      go_simp
      refine hK.out _ _ ?_ (fun hHeld2 => ?_)
      · exact (hHeld.1.next (hgb.mono hHB)).all
      clear hK K hHeld
      have hHeld := hHeld2; clear hHeld2
      try change wpAnyH _ _ _ _ _ _ _ (Act.put _ (some 53) _) _
      try simp only [Act.put, List.setIfInBounds_toArray, List.set_cons_zero, List.set_cons_succ]
      clear hgb
      refine wpAnyH_take (i := 10) (v := ?_) rfl (by kernel_rfl) (by kernel_rfl) (by kernel_rfl) (fun _ _ _ h => h) (Or.inl ⟨by rfl, ?_⟩) (by assumption) ?_
      rotate_left
      · ((intro w0 hSw); (try dsimp only at hSw); go_simp; (try with_reducible rfl))
      change wpAnyH _ _ _ _ _ _ _ (Act.put _ (some 54) _) _
      try simp only [Act.put, List.setIfInBounds_toArray, List.set_cons_zero, List.set_cons_succ]
      have HI2 := Lib.hid (Ru.own_below HI.out (bel1 w2 (.cells #[.int .i64 0, .int .i64 0, .int .i64 0, .int .i64 0, .slice none 0 0] 25)))
      refine wpAnyH_ready (rs := [11]) (by kernel_rfl) (by simp) ?_
      refine AllReadyH.cons rfl (fun K hK => ?_) (AllReadyH.nil)
      have HG : Hid (R5 (w2.alloc (.cells #[.int .i64 0, .int .i64 0, .int .i64 0, .int .i64 0, .slice none 0 0] 25)) (w2.heap.size) 0 0 0 0 (.slice none 0 0)) := by have := R5.new w2 0 0 0 0 (.slice none 0 0); unfold Hid; simpa using this
      go_simp
      refine hK.out _ _ ?_ (fun hHeld2 => ?_)
      · exact hHeld.1.up _
      clear hK K hHeld
      have hHeld := hHeld2; clear hHeld2
      try change wpAnyH _ _ _ _ _ _ _ (Act.put _ (some 12) _) _
      try simp only [Act.put, List.setIfInBounds_toArray, List.set_cons_zero, List.set_cons_succ]
      clear HI
      have HI := HI2; clear HI2
      generalize hW4 : w2.alloc (.cells #[.int .i64 0, .int .i64 0, .int .i64 0, .int .i64 0, .slice none 0 0] 25) = w4 at hHeld HG HI ⊢
      clear hW4
      have g0 := HG.out.c0; have g1 := HG.out.c1; have g2 := HG.out.c2; have g3 := HG.out.c3; have g4 := HG.out.c4
      have f0 := HG.out.fr 0; have f1 := HG.out.fr 1; have f2 := HG.out.fr 2; have f3 := HG.out.fr 3; have f4 := HG.out.fr 4
      have hBg : B ≤ w2.heap.size := by omega
      refine wpAnyH_ready (rs := [12]) (by kernel_rfl) (by simp) ?_
      refine AllReadyH.cons rfl (fun K hK => ?_) (AllReadyH.nil)
      go_simp
      refine hK.out _ _ ?_ (fun hHeld2 => ?_)
      · exact hHeld.1.st hBg _ _ _ _ _
      clear hK K hHeld
      have hHeld := hHeld2; clear hHeld2
      try change wpAnyH _ _ _ _ _ _ _ (Act.put _ (none) _) _
      try simp only [Act.put, List.setIfInBounds_toArray, List.set_cons_zero, List.set_cons_succ]
      have HX := Lib.hid (HG.out.set A.k A.r A.a A.b (.slice (some ⟨c, 0, none⟩) A.z.length qc))
      have HJ := Lib.hid (ins_st5 HI.out HG.out A.k A.r A.a A.b (.slice (some ⟨c, 0, none⟩) A.z.length qc))
      clear g0 f0 g1 f1 g2 f2 g3 f3 g4 f4 HG HI
      refine wpAnyH_done (by kernel_rfl) ?_ _
      have HB := Lib.hid hHeld.1.bel
      have HR := Lib.hid hHeld.1.res
      clear hHeld
      have yy4 := HX.out.c4
      skip
      obtain ⟨c', qc', hcc, ⟨hc1, hc2⟩, hcs, hfs, hset⟩ := ins_some HJ.out hzn
      cases hcc
      have e1 := hcs j hjl
      have e2 := hfs j
      have HQ := Lib.hid (hset j x hjl)
      have hne := ins_ne HJ.out HX.out
      clear hcs hfs hset
      have HX2 := Lib.hid ((blkO _ c j (.int .i64 x) hne).trans HX.out)
      have HX3 : Hid (R5 _ _ _ _ _ _ _) := HX2
      clear HX2 HX
      have HR2 : Hid (R5 _ _ _ _ _ _ _) := Lib.hid ((blkO _ c j (.int .i64 x) (show w.heap.size + 2 ≠ c by omega)).trans HR.out)
      have HB2 := Lib.hid (HB.out.setCell (p := ⟨c, j, none⟩) (show w.heap.size ≤ c by omega) (.int .i64 x))
      clear HR HB HJ
      have y0 := HX3.out.c0; have y1 := HX3.out.c1; have y2 := HX3.out.c2; have y3 := HX3.out.c3; have y4 := HX3.out.c4
      have r0 := HR2.out.c0; have r1 := HR2.out.c1; have r2 := HR2.out.c2; have r3 := HR2.out.c3; have r4 := HR2.out.c4
      have f0 := HR2.out.fr 0; have f1 := HR2.out.fr 1; have f2 := HR2.out.fr 2; have f3 := HR2.out.fr 3; have f4 := HR2.out.fr 4
      have HS := Lib.hid (HR2.out.set A.k A.r A.a A.b (.slice (some ⟨c, 0, none⟩) A.z.length qc))
      have z0 := HS.out.c0; have z1 := HS.out.c1; have z2 := HS.out.c2; have z3 := HS.out.c3; have z4 := HS.out.c4
      go_wp2
      refine bodyPost_ret (v := .tuple #[A5 A.k A.r A.a A.b (.slice (some ⟨c, 0, none⟩) A.z.length qc), .int .i64 0]) (by simp [results, Tryd.results31, go_sem, z0, z1, z2, z3, z4]) rfl ?_
      rw [HV.out.1, HV.out.2]
      exact ⟨.slice (some ⟨c, 0, none⟩) A.z.length qc, rfl, (((ins_new HQ.out).mono hHB).st5 hlB _ _ _ _ _).mono (by omega), st5_below _ _ _ _ _ (by omega) HB2.out⟩
    · have HI2 := Lib.hid (Ru.own_below HI.out (bel1 (wd.alloc (.cells #[] 2)) (.cells #[.int .i64 0, .int .i64 0, .int .i64 0, .int .i64 0, .slice none 0 0] 25)))
      have HG : Hid (R5 ((wd.alloc (.cells #[] 2)).alloc (.cells #[.int .i64 0, .int .i64 0, .int .i64 0, .int .i64 0, .slice none 0 0] 25)) (wd.heap.size + 1) 0 0 0 0 (.slice none 0 0)) := by have := R5.new (wd.alloc (.cells #[] 2)) 0 0 0 0 (.slice none 0 0); unfold Hid; simpa using this
      go_simp
      refine hK.out _ _ ?_ (fun hHeld2 => ?_)
      · exact hHeld.1.up _
      clear hK K hHeld
      have hHeld := hHeld2; clear hHeld2
      try change wpAnyH _ _ _ _ _ _ _ (Act.put _ (some 12) _) _
      try simp only [Act.put, List.setIfInBounds_toArray, List.set_cons_zero, List.set_cons_succ]
      clear HI
      have HI := HI2; clear HI2
      refine wpAnyH_ready (rs := [9]) (by kernel_rfl) (by simp) ?_
      refine AllReadyH.cons rfl (fun K hK => ?_) (AllReadyH.nil)
      refine wp_append_is (.tmp 50) (.tmp 52) rfl (wd.heap.size) _ [] (by rfl) HI.out _ A.z (by rfl) B hHeld.1.rd HN.out (by simp; omega) (by first | omega | (simp; done) | (simp; omega)) ?_
      intro u w2 hu hg
      rw [List.nil_append] at hu
      have hgb := ins_grown HI.out (by first | omega | (simp; done) | (simp; omega)) hg
      have HG2 : Hid (R5 w2 (wd.heap.size + 1) 0 0 0 0 (.slice none 0 0)) := (hg.block _ HG.out.lt (by simp [Value.ownBlock])).trans HG.out
      clear HG
      have HG := HG2; clear HG2
      obtain ⟨c, qc, rfl, _, _, _, _⟩ := ins_some hu hzn
      have hsz2 := hgb.size
      simp at hsz2
      clear HI
      have HI := Lib.hid hu
      clear hu hg
      go_simp
      refine hK.out _ _ ?_ (fun hHeld2 => ?_)
      · exact (hHeld.1.next (hgb.mono hHB)).all
      clear hK K hHeld
      have hHeld := hHeld2; clear hHeld2
      try change wpAnyH _ _ _ _ _ _ _ (Act.put _ (some 53) _) _
      try simp only [Act.put, List.setIfInBounds_toArray, List.set_cons_zero, List.set_cons_succ]
      clear hgb
      refine wpAnyH_take (i := 10) (v := ?_) rfl (by kernel_rfl) (by kernel_rfl) (by kernel_rfl) (fun _ _ _ h => h) (Or.inl ⟨by rfl, ?_⟩) (by assumption) ?_
      rotate_left
      · ((intro w0 hSw); (try dsimp only at hSw); go_simp; (try with_reducible rfl))
      change wpAnyH _ _ _ _ _ _ _ (Act.put _ (some 54) _) _
      try simp only [Act.put, List.setIfInBounds_toArray, List.set_cons_zero, List.set_cons_succ]
      have g0 := HG.out.c0; have g1 := HG.out.c1; have g2 := HG.out.c2; have g3 := HG.out.c3; have g4 := HG.out.c4
      have f0 := HG.out.fr 0; have f1 := HG.out.fr 1; have f2 := HG.out.fr 2; have f3 := HG.out.fr 3; have f4 := HG.out.fr 4
      have hBg : B ≤ (wd.heap.size + 1) := by omega
      refine wpAnyH_ready (rs := [12]) (by kernel_rfl) (by simp) ?_
      refine AllReadyH.cons rfl (fun K hK => ?_) (AllReadyH.nil)
      go_simp
      refine hK.out _ _ ?_ (fun hHeld2 => ?_)
      · exact hHeld.1.st hBg _ _ _ _ _
      clear hK K hHeld
      have hHeld := hHeld2; clear hHeld2
      try change wpAnyH _ _ _ _ _ _ _ (Act.put _ (none) _) _
      try simp only [Act.put, List.setIfInBounds_toArray, List.set_cons_zero, List.set_cons_succ]
      have HX := Lib.hid (HG.out.set A.k A.r A.a A.b (.slice (some ⟨c, 0, none⟩) A.z.length qc))
      have HJ := Lib.hid (ins_st5 HI.out HG.out A.k A.r A.a A.b (.slice (some ⟨c, 0, none⟩) A.z.length qc))
      clear g0 f0 g1 f1 g2 f2 g3 f3 g4 f4 HG HI
      refine wpAnyH_done (by kernel_rfl) ?_ _
      have HB := Lib.hid hHeld.1.bel
      have HR := Lib.hid hHeld.1.res
      clear hHeld
      have yy4 := HX.out.c4
      skip
      obtain ⟨c', qc', hcc, ⟨hc1, hc2⟩, hcs, hfs, hset⟩ := ins_some HJ.out hzn
      cases hcc
      have e1 := hcs j hjl
      have e2 := hfs j
      have HQ := Lib.hid (hset j x hjl)
      have hne := ins_ne HJ.out HX.out
      clear hcs hfs hset
      have HX2 := Lib.hid ((blkO _ c j (.int .i64 x) hne).trans HX.out)
      have HX3 : Hid (R5 _ _ _ _ _ _ _) := HX2
      clear HX2 HX
      have HR2 : Hid (R5 _ _ _ _ _ _ _) := Lib.hid ((blkO _ c j (.int .i64 x) (show w.heap.size + 2 ≠ c by omega)).trans HR.out)
      have HB2 := Lib.hid (HB.out.setCell (p := ⟨c, j, none⟩) (show w.heap.size ≤ c by omega) (.int .i64 x))
      clear HR HB HJ
      have y0 := HX3.out.c0; have y1 := HX3.out.c1; have y2 := HX3.out.c2; have y3 := HX3.out.c3; have y4 := HX3.out.c4
      have r0 := HR2.out.c0; have r1 := HR2.out.c1; have r2 := HR2.out.c2; have r3 := HR2.out.c3; have r4 := HR2.out.c4
      have f0 := HR2.out.fr 0; have f1 := HR2.out.fr 1; have f2 := HR2.out.fr 2; have f3 := HR2.out.fr 3; have f4 := HR2.out.fr 4
      have HS := Lib.hid (HR2.out.set A.k A.r A.a A.b (.slice (some ⟨c, 0, none⟩) A.z.length qc))
      have z0 := HS.out.c0; have z1 := HS.out.c1; have z2 := HS.out.c2; have z3 := HS.out.c3; have z4 := HS.out.c4
      go_wp2
      refine bodyPost_ret (v := .tuple #[A5 A.k A.r A.a A.b (.slice (some ⟨c, 0, none⟩) A.z.length qc), .int .i64 0]) (by simp [results, Tryd.results31, go_sem, z0, z1, z2, z3, z4]) rfl ?_
      rw [HV.out.1, HV.out.2]
      exact ⟨.slice (some ⟨c, 0, none⟩) A.z.length qc, rfl, (((ins_new HQ.out).mono hHB).st5 hlB _ _ _ _ _).mono (by omega), st5_below _ _ _ _ _ (by omega) HB2.out⟩
  · have HG : Hid (R5 (wd.alloc (.cells #[.int .i64 0, .int .i64 0, .int .i64 0, .int .i64 0, .slice none 0 0] 25)) (wd.heap.size) 0 0 0 0 (.slice none 0 0)) := by have := R5.new wd 0 0 0 0 (.slice none 0 0); unfold Hid; simpa using this
    go_simp
    refine hK.out _ _ ?_ (fun hHeld2 => ?_)
    · exact hHeld.1.up _
    clear hK K hHeld
    have hHeld := hHeld2; clear hHeld2
    try change wpAnyH _ _ _ _ _ _ _ (Act.put _ (some 12) _) _
    try simp only [Act.put, List.setIfInBounds_toArray, List.set_cons_zero, List.set_cons_succ]
    refine wpAnyH_ready (rs := [6]) (by kernel_rfl) (by simp) ?_
    refine AllReadyH.cons rfl (fun K hK => ?_) (AllReadyH.nil)
    have HI : Hid (Ru.Ins 2 ((wd.alloc (.cells #[.int .i64 0, .int .i64 0, .int .i64 0, .int .i64 0, .slice none 0 0] 25)).alloc (.cells #[] 2)) (wd.heap.size + 1) (.slice (some ⟨wd.heap.size + 1, 0, none⟩) 0 0) []) := by have := ins_lit (wd.alloc (.cells #[.int .i64 0, .int .i64 0, .int .i64 0, .int .i64 0, .slice none 0 0] 25)); unfold Hid; simpa using this
    go_simp
    refine hK.out _ _ ?_ (fun hHeld2 => ?_)
    · exact hHeld.1.up _
    clear hK K hHeld
    have hHeld := hHeld2; clear hHeld2
    try change wpAnyH _ _ _ _ _ _ _ (Act.put _ (some 50) _) _
    try simp only [Act.put, List.setIfInBounds_toArray, List.set_cons_zero, List.set_cons_succ]
    have HG2 := Lib.hid (HG.out.alloc (.cells #[] 2))
    clear HG
    have HG := HG2; clear HG2
    have hHB1 := hHB
    clear hHB
    have hHB : B ≤ wd.heap.size + 1 := by omega
    refine wpAnyH_ready (rs := [9]) (by kernel_rfl) (by simp) ?_
    refine AllReadyH.cons rfl (fun K hK => ?_) (AllReadyH.nil)
    refine wp_append_is (.tmp 50) (.tmp 52) rfl (wd.heap.size + 1) _ [] (by rfl) HI.out _ A.z (by rfl) B hHeld.1.rd HN.out (by simp; omega) (by first | omega | (simp; done) | (simp; omega)) ?_
    intro u w2 hu hg
    rw [List.nil_append] at hu
    have hgb := ins_grown HI.out (by first | omega | (simp; done) | (simp; omega)) hg
    have HG2 : Hid (R5 w2 (wd.heap.size) 0 0 0 0 (.slice none 0 0)) := (hgb.block _ (by omega)).trans HG.out
    clear HG
    have HG := HG2; clear HG2
    obtain ⟨c, qc, rfl, _, _, _, _⟩ := ins_some hu hzn
    have hsz2 := hgb.size
    simp at hsz2
    clear HI
    have HI := Lib.hid hu
    clear hu hg
    go_simp
    refine hK.out _ _ ?_ (fun hHeld2 => ?_)
    · exact (hHeld.1.next (hgb.mono hHB)).all
    clear hK K hHeld
    have hHeld := hHeld2; clear hHeld2
    try change wpAnyH _ _ _ _ _ _ _ (Act.put _ (some 53) _) _
    try simp only [Act.put, List.setIfInBounds_toArray, List.set_cons_zero, List.set_cons_succ]
    clear hgb
    refine wpAnyH_take (i := 10) (v := ?_) rfl (by kernel_rfl) (by kernel_rfl) (by kernel_rfl) (fun _ _ _ h => h) (Or.inl ⟨by rfl, ?_⟩) (by assumption) ?_
    rotate_left
    · ((intro w0 hSw); (try dsimp only at hSw); go_simp; (try with_reducible rfl))
    change wpAnyH _ _ _ _ _ _ _ (Act.put _ (some 54) _) _
    try simp only [Act.put, List.setIfInBounds_toArray, List.set_cons_zero, List.set_cons_succ]
    have g0 := HG.out.c0; have g1 := HG.out.c1; have g2 := HG.out.c2; have g3 := HG.out.c3; have g4 := HG.out.c4
    have f0 := HG.out.fr 0; have f1 := HG.out.fr 1; have f2 := HG.out.fr 2; have f3 := HG.out.fr 3; have f4 := HG.out.fr 4
    have hBg : B ≤ wd.heap.size := by omega
    refine wpAnyH_ready (rs := [12]) (by kernel_rfl) (by simp) ?_
    refine AllReadyH.cons rfl (fun K hK => ?_) (AllReadyH.nil)
    go_simp
    refine hK.out _ _ ?_ (fun hHeld2 => ?_)
    · exact hHeld.1.st hBg _ _ _ _ _
    clear hK K hHeld
    have hHeld := hHeld2; clear hHeld2
    try change wpAnyH _ _ _ _ _ _ _ (Act.put _ (none) _) _
    try simp only [Act.put, List.setIfInBounds_toArray, List.set_cons_zero, List.set_cons_succ]
    have HX := Lib.hid (HG.out.set A.k A.r A.a A.b (.slice (some ⟨c, 0, none⟩) A.z.length qc))
    have HJ := Lib.hid (ins_st5 HI.out HG.out A.k A.r A.a A.b (.slice (some ⟨c, 0, none⟩) A.z.length qc))
    clear g0 f0 g1 f1 g2 f2 g3 f3 g4 f4 HG HI
    refine wpAnyH_done (by kernel_rfl) ?_ _
    have HB := Lib.hid hHeld.1.bel
    have HR := Lib.hid hHeld.1.res
    clear hHeld
    have yy4 := HX.out.c4
    skip
    obtain ⟨c', qc', hcc, ⟨hc1, hc2⟩, hcs, hfs, hset⟩ := ins_some HJ.out hzn
    cases hcc
    have e1 := hcs j hjl
    have e2 := hfs j
    have HQ := Lib.hid (hset j x hjl)
    have hne := ins_ne HJ.out HX.out
    clear hcs hfs hset
    have HX2 := Lib.hid ((blkO _ c j (.int .i64 x) hne).trans HX.out)
    have HX3 : Hid (R5 _ _ _ _ _ _ _) := HX2
    clear HX2 HX
    have HR2 : Hid (R5 _ _ _ _ _ _ _) := Lib.hid ((blkO _ c j (.int .i64 x) (show w.heap.size + 2 ≠ c by omega)).trans HR.out)
    have HB2 := Lib.hid (HB.out.setCell (p := ⟨c, j, none⟩) (show w.heap.size ≤ c by omega) (.int .i64 x))
    clear HR HB HJ
    have y0 := HX3.out.c0; have y1 := HX3.out.c1; have y2 := HX3.out.c2; have y3 := HX3.out.c3; have y4 := HX3.out.c4
    have r0 := HR2.out.c0; have r1 := HR2.out.c1; have r2 := HR2.out.c2; have r3 := HR2.out.c3; have r4 := HR2.out.c4
    have f0 := HR2.out.fr 0; have f1 := HR2.out.fr 1; have f2 := HR2.out.fr 2; have f3 := HR2.out.fr 3; have f4 := HR2.out.fr 4
    have HS := Lib.hid (HR2.out.set A.k A.r A.a A.b (.slice (some ⟨c, 0, none⟩) A.z.length qc))
    have z0 := HS.out.c0; have z1 := HS.out.c1; have z2 := HS.out.c2; have z3 := HS.out.c3; have z4 := HS.out.c4
    go_wp2
    refine bodyPost_ret (v := .tuple #[A5 A.k A.r A.a A.b (.slice (some ⟨c, 0, none⟩) A.z.length qc), .int .i64 0]) (by simp [results, Tryd.results31, go_sem, z0, z1, z2, z3, z4]) rfl ?_
    rw [HV.out.1, HV.out.2]
    exact ⟨.slice (some ⟨c, 0, none⟩) A.z.length qc, rfl, (((ins_new HQ.out).mono hHB).st5 hlB _ _ _ _ _).mono (by omega), st5_below _ _ _ _ _ (by omega) HB2.out⟩

set_option maxRecDepth 100000 in
set_option maxHeartbeats 8000000 in
theorem rwith_char (A : Ar) (v : Value) (p q x : Int) (w : World) (hw : Ru.Lay w) (hv : RdI w.heap.size w v A.z) (hn : Ru.NilC v) (hl : A.z.length ≤ 100000) (hk : atE A p q = 0) (h2 : A.k = 2) (hr : Ru.isR x = true) :
    Calls Tryd.prog 31 #[A5 A.k A.r A.a A.b v, P2 p q, .int .i64 x] w (RetE (wtV A p q x) (wtE A p q x) w) := by
  have HA := Lib.hid (fun W h1 h2 => rat_any A v p q W h1 h2 (by omega))
  have HK := Lib.hid (KW.new (A := A) p q hw hv)
  have x0 := HK.out.blk.c0; have x1 := HK.out.blk.c1; have x2 := HK.out.blk.c2; have x3 := HK.out.blk.c3; have x4 := HK.out.blk.c4
  have y0 := HK.out.idx.c0; have y1 := HK.out.idx.c1
  obtain ⟨hg, h0, h1⟩ := atE_ok hk
  have e1 : wtE A p q x = 0 := by unfold wtE; rw [if_pos hk, if_neg (fun h => by rw [hr] at h; cases h.2)]
  have HV : Hid (wtV A p q x = wtA A p q x ∧ wtE A p q x = 0) := ⟨by unfold wtV; exact if_pos e1, e1⟩
  have HP := Lib.hid (fun W => rplace_any A.r A.a A.b p q W)
  have hp1 : plE A.r A.a A.b p q = 0 := by have := hk; unfold atE at this; rwa [if_pos (good_ck hg)] at this
  have hp2 : plV A.r A.a A.b p q = atP A p q := by unfold atP; rw [if_pos (good_ck hg)]
  rw [hp1, hp2] at HP
  rw [hk] at HA
  obtain ⟨j, hj⟩ : ∃ j : Nat, atP A p q = j := ⟨(atP A p q).toNat, by omega⟩
  unfold wtA at HV
  rw [hj] at HP h1 HV
  rw [Int.toNat_natCast] at HV
  have hjl : j < A.z.length := by omega
  have hji : (j : Int) < (A.z.length : Int) := by omega
  have hzn : A.z ≠ [] := by intro e; rw [e] at hjl; simp at hjl
  have HN := Lib.hid hn
  obtain ⟨t, cap, rfl, hcap, hcap2, hcell⟩ := hv
  clear hcell hw hn
  have k2 : (A.k == 2) = true := by simpa using h2
  have HRv := Lib.hid hr
  clear hr
  clear h0 h1 hj hk e1 hp1 hp2 hg h2
  go_enter Tryd.func31, Tryd.ntmps31
  go_wp2_with (first
    | (go_at_call 47; refine (rune64_any x _).mono ?_; rw [HRv.out]; rintro e w' ⟨rfl, rfl⟩)
    | (go_at_call 29; refine (HA.out _ HK.out.lay HK.out.rdn).mono ?_; rintro e w' ⟨rfl, hb⟩; have HK2 := Lib.hid (HK.out.next hb); clear HK hb x0 x1 x2 x3 x4 y0 y1; have HK := HK2; clear HK2; have x0 := HK.out.blk.c0; have x1 := HK.out.blk.c1; have x2 := HK.out.blk.c2; have x3 := HK.out.blk.c3; have x4 := HK.out.blk.c4; have y0 := HK.out.idx.c0; have y1 := HK.out.idx.c1)
    | (go_at_call 55; refine (HP.out _).mono ?_; rintro e w' ⟨rfl, hb⟩; have HK2 := Lib.hid (HK.out.next hb); clear HK hb x0 x1 x2 x3 x4 y0 y1; have HK := HK2; clear HK2; have x0 := HK.out.blk.c0; have x1 := HK.out.blk.c1; have x2 := HK.out.blk.c2; have x3 := HK.out.blk.c3; have x4 := HK.out.blk.c4; have y0 := HK.out.idx.c0; have y1 := HK.out.idx.c1))
  have hS := (KE.of HK.out).drew
  obtain ⟨B, hB⟩ : ∃ B, B = w'.heap.size := ⟨_, rfl⟩
  rw [← hB] at hS
  clear HK hB
  have hlB : w.heap.size + 2 < B := hS.lt
  refine wp_region_held_drew (S := (KE2 w B A (.slice t A.z.length cap))) (by kernel_rfl) ?_ (fun hHeld => ?_)
  · exact KE.all hS
  generalize World.drew _ = wd at hHeld ⊢
  clear hS
  have hHB : B ≤ wd.heap.size := hHeld.1.sz
  refine wpAnyH_take (i := 0) (v := ?_) rfl (by kernel_rfl) (by kernel_rfl) (by kernel_rfl) (fun _ _ _ h => h) (Or.inl ⟨by rfl, ?_⟩) (by assumption) ?_
  rotate_left
  · ((intro w0 hSw); (try dsimp only at hSw); go_simp; (try with_reducible rfl))
  change wpAnyH _ _ _ _ _ _ _ (Act.put _ (some 44) _) _
  try simp only [Act.put, List.setIfInBounds_toArray, List.set_cons_zero, List.set_cons_succ]
  refine wpAnyH_take (i := 1) (v := ?_) rfl (by kernel_rfl) (by kernel_rfl) (by kernel_rfl) (fun _ _ _ h => h) (Or.inl ⟨by rfl, ?_⟩) (by assumption) ?_
  rotate_left
  · ((intro w0 hSw); (try dsimp only at hSw); go_simp; (try with_reducible rfl))
  change wpAnyH _ _ _ _ _ _ _ (Act.put _ (some 45) _) _
  try simp only [Act.put, List.setIfInBounds_toArray, List.set_cons_zero, List.set_cons_succ]
  refine wpAnyH_take (i := 2) (v := ?_) rfl (by kernel_rfl) (by kernel_rfl) (by kernel_rfl) (fun _ _ _ h => h) (Or.inl ⟨by rfl, ?_⟩) (by assumption) ?_
  rotate_left
  · ((intro w0 hSw); (try dsimp only at hSw); go_simp; (try with_reducible rfl))
  change wpAnyH _ _ _ _ _ _ _ (Act.put _ (some 46) _) _
  try simp only [Act.put, List.setIfInBounds_toArray, List.set_cons_zero, List.set_cons_succ]
  refine wpAnyH_take (i := 3) (v := ?_) rfl (by kernel_rfl) (by kernel_rfl) (by kernel_rfl) (fun _ _ _ h => h) (Or.inl ⟨by rfl, ?_⟩) (by assumption) ?_
  rotate_left
  · ((intro w0 hSw); (try dsimp only at hSw); go_simp; (try with_reducible rfl))
  change wpAnyH _ _ _ _ _ _ _ (Act.put _ (some 47) _) _
  try simp only [Act.put, List.setIfInBounds_toArray, List.set_cons_zero, List.set_cons_succ]
  refine wpAnyH_take (i := 4) (v := ?_) rfl (by kernel_rfl) (by kernel_rfl) (by kernel_rfl) (fun _ _ _ h => h) (Or.inl ⟨by rfl, ?_⟩) (by assumption) ?_
  rotate_left
  · ((intro w0 hSw); (try dsimp only at hSw); go_simp; (try with_reducible rfl))
  change wpAnyH _ _ _ _ _ _ _ (Act.put _ (some 48) _) _
  try simp only [Act.put, List.setIfInBounds_toArray, List.set_cons_zero, List.set_cons_succ]
  refine wpAnyH_take (i := 5) (v := ?_) rfl (by kernel_rfl) (by kernel_rfl) (by kernel_rfl) (fun _ _ _ h => h) (Or.inl ⟨by rfl, ?_⟩) (by assumption) ?_
  rotate_left
  · ((intro w0 hSw); (try dsimp only at hSw); go_simp; (try with_reducible rfl))
  change wpAnyH _ _ _ _ _ _ _ (Act.put _ (some 49) _) _
  try simp only [Act.put, List.setIfInBounds_toArray, List.set_cons_zero, List.set_cons_succ]
  refine wpAnyH_take (i := 7) (v := ?_) rfl (by kernel_rfl) (by kernel_rfl) (by kernel_rfl) (fun _ _ _ h => h) (Or.inl ⟨by rfl, ?_⟩) (by assumption) ?_
  rotate_left
  · ((intro w0 hSw); (try dsimp only at hSw); go_simp; (try with_reducible rfl))
  change wpAnyH _ _ _ _ _ _ _ (Act.put _ (some 51) _) _
  try simp only [Act.put, List.setIfInBounds_toArray, List.set_cons_zero, List.set_cons_succ]
  refine wpAnyH_take (i := 8) (v := ?_) rfl (by kernel_rfl) (by kernel_rfl) (by kernel_rfl) (fun _ _ _ h => h) (Or.inl ⟨by rfl, ?_⟩) (by assumption) ?_
  rotate_left
  · ((intro w0 hSw); (try dsimp only at hSw); go_simp; (try with_reducible rfl))
  change wpAnyH _ _ _ _ _ _ _ (Act.put _ (some 52) _) _
  try simp only [Act.put, List.setIfInBounds_toArray, List.set_cons_zero, List.set_cons_succ]
  refine wpAnyH_ready (rs := [6, 11]) (by kernel_rfl) (by simp) ?_
  refine AllReadyH.cons rfl (fun K hK => ?_) (AllReadyH.cons rfl (fun K hK => ?_) (AllReadyH.nil))
  · have HI : Hid (Ru.Ins 2 (wd.alloc (.cells #[] 2)) (wd.heap.size) (.slice (some ⟨wd.heap.size, 0, none⟩) 0 0) []) := by have := ins_lit wd; unfold Hid; simpa using this
    go_simp
    refine hK.out _ _ ?_ (fun hHeld2 => ?_)
    · exact hHeld.1.up _
    clear hK K hHeld
    have hHeld := hHeld2; clear hHeld2
    try change wpAnyH _ _ _ _ _ _ _ (Act.put _ (some 50) _) _
    try simp only [Act.put, List.setIfInBounds_toArray, List.set_cons_zero, List.set_cons_succ]
    refine wpAnyH_ready (rs := [9, 11]) (by kernel_rfl) (by simp) ?_
    refine AllReadyH.cons rfl (fun K hK => ?_) (AllReadyH.cons rfl (fun K hK => ?_) (AllReadyH.nil))
    · refine wp_append_is (.tmp 50) (.tmp 52) rfl (wd.heap.size) _ [] (by rfl) HI.out _ A.z (by rfl) B hHeld.1.rd HN.out (by simp; omega) (by first | omega | (simp; done) | (simp; omega)) ?_
      intro u w2 hu hg
      rw [List.nil_append] at hu
      have hgb := ins_grown HI.out (by first | omega | (simp; done) | (simp; omega)) hg
      obtain ⟨c, qc, rfl, _, _, _, _⟩ := ins_some hu hzn
      have hsz2 := hgb.size
      simp at hsz2
      clear HI
      have HI := Lib.hid hu
      clear hu hg
      go_simp
      refine hK.out _ _ ?_ (fun hHeld2 => ?_)
      · exact (hHeld.1.next (hgb.mono hHB)).all
      clear hK K hHeld
      have hHeld := hHeld2; clear hHeld2
      try change wpAnyH _ _ _ _ _ _ _ (Act.put _ (some 53) _) _
      try simp only [Act.put, List.setIfInBounds_toArray, List.set_cons_zero, List.set_cons_succ]
      clear hgb
      refine wpAnyH_take (i := 10) (v := ?_) rfl (by kernel_rfl) (by kernel_rfl) (by kernel_rfl) (fun _ _ _ h => h) (Or.inl ⟨by rfl, ?_⟩) (by assumption) ?_
      rotate_left
      · ((intro w0 hSw); (try dsimp only at hSw); go_simp; (try with_reducible rfl))
      change wpAnyH _ _ _ _ _ _ _ (Act.put _ (some 54) _) _
      try simp only [Act.put, List.setIfInBounds_toArray, List.set_cons_zero, List.set_cons_succ]
      have HI2 := Lib.hid (Ru.own_below HI.out (bel1 w2 (.cells #[.int .i64 0, .int .i64 0, .int .i64 0, .int .i64 0, .slice none 0 0] 25)))
      refine wpAnyH_ready (rs := [11]) (by kernel_rfl) (by simp) ?_
      refine AllReadyH.cons rfl (fun K hK => ?_) (AllReadyH.nil)
      have HG : Hid (R5 (w2.alloc (.cells #[.int .i64 0, .int .i64 0, .int .i64 0, .int .i64 0, .slice none 0 0] 25)) (w2.heap.size) 0 0 0 0 (.slice none 0 0)) := by have := R5.new w2 0 0 0 0 (.slice none 0 0); unfold Hid; simpa using this
      go_simp
      refine hK.out _ _ ?_ (fun hHeld2 => ?_)
      · exact hHeld.1.up _
      clear hK K hHeld
      have hHeld := hHeld2; clear hHeld2
      try change wpAnyH _ _ _ _ _ _ _ (Act.put _ (some 12) _) _
      try simp only [Act.put, List.setIfInBounds_toArray, List.set_cons_zero, List.set_cons_succ]
      clear HI
      have HI := HI2; clear HI2
      generalize hW4 : w2.alloc (.cells #[.int .i64 0, .int .i64 0, .int .i64 0, .int .i64 0, .slice none 0 0] 25) = w4 at hHeld HG HI ⊢
      clear hW4
      have g0 := HG.out.c0; have g1 := HG.out.c1; have g2 := HG.out.c2; have g3 := HG.out.c3; have g4 := HG.out.c4
      have f0 := HG.out.fr 0; have f1 := HG.out.fr 1; have f2 := HG.out.fr 2; have f3 := HG.out.fr 3; have f4 := HG.out.fr 4
      have hBg : B ≤ w2.heap.size := by omega
      refine wpAnyH_ready (rs := [12]) (by kernel_rfl) (by simp) ?_
      refine AllReadyH.cons rfl (fun K hK => ?_) (AllReadyH.nil)
      go_simp
      refine hK.out _ _ ?_ (fun hHeld2 => ?_)
      · exact hHeld.1.st hBg _ _ _ _ _
      clear hK K hHeld
      have hHeld := hHeld2; clear hHeld2
      try change wpAnyH _ _ _ _ _ _ _ (Act.put _ (none) _) _
      try simp only [Act.put, List.setIfInBounds_toArray, List.set_cons_zero, List.set_cons_succ]
      have HX := Lib.hid (HG.out.set A.k A.r A.a A.b (.slice (some ⟨c, 0, none⟩) A.z.length qc))
      have HJ := Lib.hid (ins_st5 HI.out HG.out A.k A.r A.a A.b (.slice (some ⟨c, 0, none⟩) A.z.length qc))
      clear g0 f0 g1 f1 g2 f2 g3 f3 g4 f4 HG HI
      refine wpAnyH_done (by kernel_rfl) ?_ _
      have HB := Lib.hid hHeld.1.bel
      have HR := Lib.hid hHeld.1.res
      clear hHeld
      have yy4 := HX.out.c4
      skip
      obtain ⟨c', qc', hcc, ⟨hc1, hc2⟩, hcs, hfs, hset⟩ := ins_some HJ.out hzn
      cases hcc
      have e1 := hcs j hjl
      have e2 := hfs j
      have HQ := Lib.hid (hset j x hjl)
      have hne := ins_ne HJ.out HX.out
      clear hcs hfs hset
      have HX2 := Lib.hid ((blkO _ c j (.int .i64 x) hne).trans HX.out)
      have HX3 : Hid (R5 _ _ _ _ _ _ _) := HX2
      clear HX2 HX
      have HR2 : Hid (R5 _ _ _ _ _ _ _) := Lib.hid ((blkO _ c j (.int .i64 x) (show w.heap.size + 2 ≠ c by omega)).trans HR.out)
      have HB2 := Lib.hid (HB.out.setCell (p := ⟨c, j, none⟩) (show w.heap.size ≤ c by omega) (.int .i64 x))
      clear HR HB HJ
      have y0 := HX3.out.c0; have y1 := HX3.out.c1; have y2 := HX3.out.c2; have y3 := HX3.out.c3; have y4 := HX3.out.c4
      have r0 := HR2.out.c0; have r1 := HR2.out.c1; have r2 := HR2.out.c2; have r3 := HR2.out.c3; have r4 := HR2.out.c4
      have f0 := HR2.out.fr 0; have f1 := HR2.out.fr 1; have f2 := HR2.out.fr 2; have f3 := HR2.out.fr 3; have f4 := HR2.out.fr 4
      have HS := Lib.hid (HR2.out.set A.k A.r A.a A.b (.slice (some ⟨c, 0, none⟩) A.z.length qc))
      have z0 := HS.out.c0; have z1 := HS.out.c1; have z2 := HS.out.c2; have z3 := HS.out.c3; have z4 := HS.out.c4
      go_wp2
      refine bodyPost_ret (v := .tuple #[A5 A.k A.r A.a A.b (.slice (some ⟨c, 0, none⟩) A.z.length qc), .int .i64 0]) (by simp [results, Tryd.results31, go_sem, z0, z1, z2, z3, z4]) rfl ?_
      rw [HV.out.1, HV.out.2]
      exact ⟨.slice (some ⟨c, 0, none⟩) A.z.length qc, rfl, (((ins_new HQ.out).mono hHB).st5 hlB _ _ _ _ _).mono (by omega), st5_below _ _ _ _ _ (by omega) HB2.out⟩
    · have HI2 := Lib.hid (Ru.own_below HI.out (bel1 (wd.alloc (.cells #[] 2)) (.cells #[.int .i64 0, .int .i64 0, .int .i64 0, .int .i64 0, .slice none 0 0] 25)))
      have HG : Hid (R5 ((wd.alloc (.cells #[] 2)).alloc (.cells #[.int .i64 0, .int .i64 0, .int .i64 0, .int .i64 0, .slice none 0 0] 25)) (wd.heap.size + 1) 0 0 0 0 (.slice none 0 0)) := by have := R5.new (wd.alloc (.cells #[] 2)) 0 0 0 0 (.slice none 0 0); unfold Hid; simpa using this
      go_simp
      refine hK.out _ _ ?_ (fun hHeld2 => ?_)
      · exact hHeld.1.up _
      clear hK K hHeld
      have hHeld := hHeld2; clear hHeld2
      try change wpAnyH _ _ _ _ _ _ _ (Act.put _ (some 12) _) _
      try simp only [Act.put, List.setIfInBounds_toArray, List.set_cons_zero, List.set_cons_succ]
      clear HI
      have HI := HI2; clear HI2
      refine wpAnyH_ready (rs := [9]) (by kernel_rfl) (by simp) ?_
      refine AllReadyH.cons rfl (fun K hK => ?_) (AllReadyH.nil)
      refine wp_append_is (.tmp 50) (.tmp 52) rfl (wd.heap.size) _ [] (by rfl) HI.out _ A.z (by rfl) B hHeld.1.rd HN.out (by simp; omega) (by first | omega | (simp; done) | (simp; omega)) ?_
      intro u w2 hu hg
      rw [List.nil_append] at hu
      have hgb := ins_grown HI.out (by first | omega | (simp; done) | (simp; omega)) hg
      have HG2 : Hid (R5 w2 (wd.heap.size + 1) 0 0 0 0 (.slice none 0 0)) := (hg.block _ HG.out.lt (by simp [Value.ownBlock])).trans HG.out
      clear HG
      have HG := HG2; clear HG2
      obtain ⟨c, qc, rfl, _, _, _, _⟩ := ins_some hu hzn
      have hsz2 := hgb.size
      simp at hsz2
      clear HI
      have HI := Lib.hid hu
      clear hu hg
      go_simp
      refine hK.out _ _ ?_ (fun hHeld2 => ?_)
      · exact (hHeld.1.next (hgb.mono hHB)).all
      clear hK K hHeld
      have hHeld := hHeld2; clear hHeld2
      try change wpAnyH _ _ _ _ _ _ _ (Act.put _ (some 53) _) _
      try simp only [Act.put, List.setIfInBounds_toArray, List.set_cons_zero, List.set_cons_succ]
      clear hgb
      refine wpAnyH_take (i := 10) (v := ?_) rfl (by kernel_rfl) (by kernel_rfl) (by kernel_rfl) (fun _ _ _ h => h) (Or.inl ⟨by rfl, ?_⟩) (by assumption) ?_
      rotate_left
      · ((intro w0 hSw); (try dsimp only at hSw); go_simp; (try with_reducible rfl))
      change wpAnyH _ _ _ _ _ _ _ (Act.put _ (some 54) _) _
      try simp only [Act.put, List.setIfInBounds_toArray, List.set_cons_zero, List.set_cons_succ]
      have g0 := HG.out.c0; have g1 := HG.out.c1; have g2 := HG.out.c2; have g3 := HG.out.c3; have g4 := HG.out.c4
      have f0 := HG.out.fr 0; have f1 := HG.out.fr 1; have f2 := HG.out.fr 2; have f3 := HG.out.fr 3; have f4 := HG.out.fr 4
      have hBg : B ≤ (wd.heap.size + 1) := by omega
      refine wpAnyH_ready (rs := [12]) (by kernel_rfl) (by simp) ?_
      refine AllReadyH.cons rfl (fun K hK => ?_) (AllReadyH.nil)
      go_simp
      refine hK.out _ _ ?_ (fun hHeld2 => ?_)
      · exact hHeld.1.st hBg _ _ _ _ _
      clear hK K hHeld
      have hHeld := hHeld2; clear hHeld2
      try change wpAnyH _ _ _ _ _ _ _ (Act.put _ (none) _) _
      try simp only [Act.put, List.setIfInBounds_toArray, List.set_cons_zero, List.set_cons_succ]
      have HX := Lib.hid (HG.out.set A.k A.r A.a A.b (.slice (some ⟨c, 0, none⟩) A.z.length qc))
      have HJ := Lib.hid (ins_st5 HI.out HG.out A.k A.r A.a A.b (.slice (some ⟨c, 0, none⟩) A.z.length qc))
      clear g0 f0 g1 f1 g2 f2 g3 f3 g4 f4 HG HI
      refine wpAnyH_done (by kernel_rfl) ?_ _
      have HB := Lib.hid hHeld.1.bel
      have HR := Lib.hid hHeld.1.res
      clear hHeld
      have yy4 := HX.out.c4
      skip
      obtain ⟨c', qc', hcc, ⟨hc1, hc2⟩, hcs, hfs, hset⟩ := ins_some HJ.out hzn
      cases hcc
      have e1 := hcs j hjl
      have e2 := hfs j
      have HQ := Lib.hid (hset j x hjl)
      have hne := ins_ne HJ.out HX.out
      clear hcs hfs hset
      have HX2 := Lib.hid ((blkO _ c j (.int .i64 x) hne).trans HX.out)
      have HX3 : Hid (R5 _ _ _ _ _ _ _) := HX2
      clear HX2 HX
      have HR2 : Hid (R5 _ _ _ _ _ _ _) := Lib.hid ((blkO _ c j (.int .i64 x) (show w.heap.size + 2 ≠ c by omega)).trans HR.out)
      have HB2 := Lib.hid (HB.out.setCell (p := ⟨c, j, none⟩) (show w.heap.size ≤ c by omega) (.int .i64 x))
      clear HR HB HJ
      have y0 := HX3.out.c0; have y1 := HX3.out.c1; have y2 := HX3.out.c2; have y3 := HX3.out.c3; have y4 := HX3.out.c4
      have r0 := HR2.out.c0; have r1 := HR2.out.c1; have r2 := HR2.out.c2; have r3 := HR2.out.c3; have r4 := HR2.out.c4
      have f0 := HR2.out.fr 0; have f1 := HR2.out.fr 1; have f2 := HR2.out.fr 2; have f3 := HR2.out.fr 3; have f4 := HR2.out.fr 4
      have HS := Lib.hid (HR2.out.set A.k A.r A.a A.b (.slice (some ⟨c, 0, none⟩) A.z.length qc))
      have z0 := HS.out.c0; have z1 := HS.out.c1; have z2 := HS.out.c2; have z3 := HS.out.c3; have z4 := HS.out.c4
      go_wp2
      refine bodyPost_ret (v := .tuple #[A5 A.k A.r A.a A.b (.slice (some ⟨c, 0, none⟩) A.z.length qc), .int .i64 0]) (by simp [results, Tryd.results31, go_sem, z0, z1, z2, z3, z4]) rfl ?_
      rw [HV.out.1, HV.out.2]
      exact ⟨.slice (some ⟨c, 0, none⟩) A.z.length qc, rfl, (((ins_new HQ.out).mono hHB).st5 hlB _ _ _ _ _).mono (by omega), st5_below _ _ _ _ _ (by omega) HB2.out⟩
  · have HG : Hid (R5 (wd.alloc (.cells #[.int .i64 0, .int .i64 0, .int .i64 0, .int .i64 0, .slice none 0 0] 25)) (wd.heap.size) 0 0 0 0 (.slice none 0 0)) := by have := R5.new wd 0 0 0 0 (.slice none 0 0); unfold Hid; simpa using this
    go_simp
    refine hK.out _ _ ?_ (fun hHeld2 => ?_)
    · exact hHeld.1.up _
    clear hK K hHeld
    have hHeld := hHeld2; clear hHeld2
    try change wpAnyH _ _ _ _ _ _ _ (Act.put _ (some 12) _) _
    try simp only [Act.put, List.setIfInBounds_toArray, List.set_cons_zero, List.set_cons_succ]
    refine wpAnyH_ready (rs := [6]) (by kernel_rfl) (by simp) ?_
    refine AllReadyH.cons rfl (fun K hK => ?_) (AllReadyH.nil)
    have HI : Hid (Ru.Ins 2 ((wd.alloc (.cells #[.int .i64 0, .int .i64 0, .int .i64 0, .int .i64 0, .slice none 0 0] 25)).alloc (.cells #[] 2)) (wd.heap.size + 1) (.slice (some ⟨wd.heap.size + 1, 0, none⟩) 0 0) []) := by have := ins_lit (wd.alloc (.cells #[.int .i64 0, .int .i64 0, .int .i64 0, .int .i64 0, .slice none 0 0] 25)); unfold Hid; simpa using this
    go_simp
    refine hK.out _ _ ?_ (fun hHeld2 => ?_)
    · exact hHeld.1.up _
    clear hK K hHeld
    have hHeld := hHeld2; clear hHeld2
    try change wpAnyH _ _ _ _ _ _ _ (Act.put _ (some 50) _) _
    try simp only [Act.put, List.setIfInBounds_toArray, List.set_cons_zero, List.set_cons_succ]
    have HG2 := Lib.hid (HG.out.alloc (.cells #[] 2))
    clear HG
    have HG := HG2; clear HG2
    have hHB1 := hHB
    clear hHB
    have hHB : B ≤ wd.heap.size + 1 := by omega
    refine wpAnyH_ready (rs := [9]) (by kernel_rfl) (by simp) ?_
    refine AllReadyH.cons rfl (fun K hK => ?_) (AllReadyH.nil)
    refine wp_append_is (.tmp 50) (.tmp 52) rfl (wd.heap.size + 1) _ [] (by rfl) HI.out _ A.z (by rfl) B hHeld.1.rd HN.out (by simp; omega) (by first | omega | (simp; done) | (simp; omega)) ?_
    intro u w2 hu hg
    rw [List.nil_append] at hu
    have hgb := ins_grown HI.out (by first | omega | (simp; done) | (simp; omega)) hg
    have HG2 : Hid (R5 w2 (wd.heap.size) 0 0 0 0 (.slice none 0 0)) := (hgb.block _ (by omega)).trans HG.out
    clear HG
    have HG := HG2; clear HG2
    obtain ⟨c, qc, rfl, _, _, _, _⟩ := ins_some hu hzn
    have hsz2 := hgb.size
    simp at hsz2
    clear HI
    have HI := Lib.hid hu
    clear hu hg
    go_simp
    refine hK.out _ _ ?_ (fun hHeld2 => ?_)
    · exact (hHeld.1.next (hgb.mono hHB)).all
    clear hK K hHeld
    have hHeld := hHeld2; clear hHeld2
    try change wpAnyH _ _ _ _ _ _ _ (Act.put _ (some 53) _) _
    try simp only [Act.put, List.setIfInBounds_toArray, List.set_cons_zero, List.set_cons_succ]
    clear hgb
    refine wpAnyH_take (i := 10) (v := ?_) rfl (by kernel_rfl) (by kernel_rfl) (by kernel_rfl) (fun _ _ _ h => h) (Or.inl ⟨by rfl, ?_⟩) (by assumption) ?_
    rotate_left
    · ((intro w0 hSw); (try dsimp only at hSw); go_simp; (try with_reducible rfl))
    change wpAnyH _ _ _ _ _ _ _ (Act.put _ (some 54) _) _
    try simp only [Act.put, List.setIfInBounds_toArray, List.set_cons_zero, List.set_cons_succ]
    have g0 := HG.out.c0; have g1 := HG.out.c1; have g2 := HG.out.c2; have g3 := HG.out.c3; have g4 := HG.out.c4
    have f0 := HG.out.fr 0; have f1 := HG.out.fr 1; have f2 := HG.out.fr 2; have f3 := HG.out.fr 3; have f4 := HG.out.fr 4
    have hBg : B ≤ wd.heap.size := by omega
    refine wpAnyH_ready (rs := [12]) (by kernel_rfl) (by simp) ?_
    refine AllReadyH.cons rfl (fun K hK => ?_) (AllReadyH.nil)
    go_simp
    refine hK.out _ _ ?_ (fun hHeld2 => ?_)
    · exact hHeld.1.st hBg _ _ _ _ _
    clear hK K hHeld
    have hHeld := hHeld2; clear hHeld2
    try change wpAnyH _ _ _ _ _ _ _ (Act.put _ (none) _) _
    try simp only [Act.put, List.setIfInBounds_toArray, List.set_cons_zero, List.set_cons_succ]
    have HX := Lib.hid (HG.out.set A.k A.r A.a A.b (.slice (some ⟨c, 0, none⟩) A.z.length qc))
    have HJ := Lib.hid (ins_st5 HI.out HG.out A.k A.r A.a A.b (.slice (some ⟨c, 0, none⟩) A.z.length qc))
    clear g0 f0 g1 f1 g2 f2 g3 f3 g4 f4 HG HI
    refine wpAnyH_done (by kernel_rfl) ?_ _
    have HB := Lib.hid hHeld.1.bel
    have HR := Lib.hid hHeld.1.res
    clear hHeld
    have yy4 := HX.out.c4
    skip
    obtain ⟨c', qc', hcc, ⟨hc1, hc2⟩, hcs, hfs, hset⟩ := ins_some HJ.out hzn
    cases hcc
    have e1 := hcs j hjl
    have e2 := hfs j
    have HQ := Lib.hid (hset j x hjl)
    have hne := ins_ne HJ.out HX.out
    clear hcs hfs hset
    have HX2 := Lib.hid ((blkO _ c j (.int .i64 x) hne).trans HX.out)
    have HX3 : Hid (R5 _ _ _ _ _ _ _) := HX2
    clear HX2 HX
    have HR2 : Hid (R5 _ _ _ _ _ _ _) := Lib.hid ((blkO _ c j (.int .i64 x) (show w.heap.size + 2 ≠ c by omega)).trans HR.out)
    have HB2 := Lib.hid (HB.out.setCell (p := ⟨c, j, none⟩) (show w.heap.size ≤ c by omega) (.int .i64 x))
    clear HR HB HJ
    have y0 := HX3.out.c0; have y1 := HX3.out.c1; have y2 := HX3.out.c2; have y3 := HX3.out.c3; have y4 := HX3.out.c4
    have r0 := HR2.out.c0; have r1 := HR2.out.c1; have r2 := HR2.out.c2; have r3 := HR2.out.c3; have r4 := HR2.out.c4
    have f0 := HR2.out.fr 0; have f1 := HR2.out.fr 1; have f2 := HR2.out.fr 2; have f3 := HR2.out.fr 3; have f4 := HR2.out.fr 4
    have HS := Lib.hid (HR2.out.set A.k A.r A.a A.b (.slice (some ⟨c, 0, none⟩) A.z.length qc))
    have z0 := HS.out.c0; have z1 := HS.out.c1; have z2 := HS.out.c2; have z3 := HS.out.c3; have z4 := HS.out.c4
    go_wp2
    refine bodyPost_ret (v := .tuple #[A5 A.k A.r A.a A.b (.slice (some ⟨c, 0, none⟩) A.z.length qc), .int .i64 0]) (by simp [results, Tryd.results31, go_sem, z0, z1, z2, z3, z4]) rfl ?_
    rw [HV.out.1, HV.out.2]
    exact ⟨.slice (some ⟨c, 0, none⟩) A.z.length qc, rfl, (((ins_new HQ.out).mono hHB).st5 hlB _ _ _ _ _).mono (by omega), st5_below _ _ _ _ _ (by omega) HB2.out⟩

theorem rwith_any (A : Ar) (v : Value) (p q x : Int) (w : World) (hw : Ru.Lay w) (hv : RdI w.heap.size w v A.z) (hn : Ru.NilC v) (hl : A.z.length ≤ 100000) :
    Calls Tryd.prog 31 #[A5 A.k A.r A.a A.b v, P2 p q, .int .i64 x] w (RetE (wtV A p q x) (wtE A p q x) w) := by
  by_cases hk : atE A p q = 0
  · by_cases h2 : A.k = 2
    · cases hr : Ru.isR x
      · exact rwith_rune A v p q x w hw hv hn hl hk h2 hr
      · exact rwith_char A v p q x w hw hv hn hl hk h2 hr
    · exact rwith_int A v p q x w hw hv hn hl hk h2
  · exact rwith_bad A v p q x w hw hv hn hl hk
end Go.Proofs.YtmacimkkgiogbaaDoor
