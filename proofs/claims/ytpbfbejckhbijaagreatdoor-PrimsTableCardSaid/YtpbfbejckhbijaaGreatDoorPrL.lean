/- The laws' awake. -/
import Derived.Test.YtpbfbejckhbijaaGreatDoorPrK
import Derived.Test.YtpbfbejckhbijaaGreatDoorMvP
import Derived.Test.YtpbfbejckhbijaaGreatDoorArR0
import Derived.Test.YtpbfbejckhbijaaGreatDoorPrF
import Derived.Deep.DeepCutAuto
import Derived.Deep.RegionHeld3
namespace Go.Proofs.YtpbfbejckhbijaaGreatDoor
open Go.RowKit

theorem ints_lit12 (z : List Int) (len : Nat) (hlen : z.length = len) (h4 : len ≤ 1000) (W : World) (g : Nat) (hg : W.heap.size = g) :
    Calls Tryz.prog 30 #[.slice (some ⟨g, 0, none⟩) len len] (W.alloc (.cells (z.map vi).toArray 2)) fun e w' => ∃ q c, e = .returned (A5 1 1 len 0 (.slice q len c)) ∧ RdN (g + 1) w' (.slice q len c) z ∧ Below W.heap.size W w' := by
  subst hg hlen
  have hb := bel1 W (.cells (z.map vi).toArray 2)
  refine (lints_any z (.slice (some ⟨W.heap.size, 0, none⟩) z.length z.length) _ (blk_rd rfl (by omega) (heap_alloc_last W _)) (nil_some _ _ _) (by omega)).mono ?_
  rintro e w' ⟨u, h1, h2, h3⟩
  obtain ⟨q, c, hq, _⟩ := h2.form
  have hq2 : u = .slice q z.length c := hq
  subst hq2
  exact ⟨q, c, h1, h2.mono (by simp), hb.trans (h3.mono hb.size)⟩
theorem ints_gen12 (z : List Int) (len : Nat) (hlen : z.length = len) (h4 : len ≤ 1000) (v : Value) (W : World) (hv : RdI W.heap.size W v z) (hn : Ru.NilC v) :
    Calls Tryz.prog 30 #[v] W fun e w' => ∃ q c, e = .returned (A5 1 1 len 0 (.slice q len c)) ∧ RdN W.heap.size w' (.slice q len c) z ∧ Below W.heap.size W w' := by
  subst hlen
  refine (lints_any z v W hv hn (by omega)).mono ?_
  rintro e w' ⟨u, h1, h2, h3⟩
  obtain ⟨q, c, hq, _⟩ := h2.form
  have hq2 : u = .slice q z.length c := hq
  subst hq2
  exact ⟨q, c, h1, h2, h3⟩
theorem in64_lit12 {z : List Int} (h : z.all Sc.inr = true) : in64 z := fun x hx => List.all_eq_true.1 h x hx
theorem find_lit (s : ByteArray) (k E : Int) (hk : ((fdP s : Nat) : Int) = k) (hE : fdE s = E) (W : World) : Calls Tryz.prog 12 #[.string s] W fun e w' => e = .returned (.tuple #[.int .i64 k, .int .i64 E]) ∧ Below W.heap.size W w' := by
  have h := find_any s W
  rwa [hk, hE] at h
/-- A slice of ints that is written out can be read. -/
theorem rd_lit12 {E : TypeId} {w : World} {g : Nat} {l : List Int} {cs : Array Value} (hcs : cs = (l.map vi).toArray) (hl : l.length ≤ 1000) (h : w.heap[g]? = some (.cells cs E (0, 0))) : RdI w.heap.size w (.slice (some ⟨g, 0, none⟩) l.length l.length) l := by
  subst hcs
  refine ⟨_, _, rfl, Nat.le_refl _, by omega, fun _ => ⟨g, 0, rfl, (Array.getElem?_eq_some_iff.1 h).1, fun j hj => ?_⟩⟩
  unfold World.cell?
  rw [h]
  simp [List.getElem?_eq_getElem hj]
theorem fits_lit (p k1 k2 r1 r2 : Int) (a b c : Int) (h : ftT p [k1, k2] [r1, r2] = (a, b, c)) (W : World) (g g' : Nat) (hg : W.heap.size = g) (hg' : g + 1 = g') :
    Calls Tryz.prog 21 #[.int .i64 p, .slice (some ⟨g, 0, none⟩) 2 2, .slice (some ⟨g', 0, none⟩) 2 2] ((W.alloc (.cells #[.int .i64 k1, .int .i64 k2] 3)).alloc (.cells #[.int .i64 r1, .int .i64 r2] 3)) fun e w' => e = .returned (.tuple #[.int .i64 a, .int .i64 b, .int .i64 c]) ∧ Below W.heap.size W w' := by
  subst hg hg'
  have b1 := bel1 W (.cells #[.int .i64 k1, .int .i64 k2] 3)
  have b2 := bel1 (W.alloc (.cells #[.int .i64 k1, .int .i64 k2] 3)) (.cells #[.int .i64 r1, .int .i64 r2] 3)
  have h1 := (rd_lit12 (l := [k1, k2]) rfl (by simp) (tab_new W (.cells #[.int .i64 k1, .int .i64 k2] 3))).next b2
  have h2 := rd_lit12 (l := [r1, r2]) rfl (by simp) (tab_new (W.alloc (.cells #[.int .i64 k1, .int .i64 k2] 3)) (.cells #[.int .i64 r1, .int .i64 r2] 3))
  rw [show (W.alloc (.cells #[.int .i64 k1, .int .i64 k2] 3)).heap.size = W.heap.size + 1 by simp] at h2
  have h3 := fits_any p [k1, k2] [r1, r2] _ _ _ h1 h2
  rw [h] at h3
  refine h3.mono ?_
  rintro e w' ⟨e1, e2⟩
  exact ⟨e1, (b1.trans (b2.mono b1.size)).trans (e2.mono (by simp; omega))⟩
theorem errs_lit (W : World) : Calls Tryz.prog 18 #[.int .i64 36] W fun e w' => ∃ u, e = .returned (.tuple #[u, .int .i64 0]) ∧ RdI w'.heap.size w' u [11, 13, 15] ∧ Below W.heap.size W w' := by
  refine (errors_any 36 W).mono ?_
  rintro e w' ⟨u, h1, h2, _, h4⟩
  exact ⟨u, h1, h2, h4⟩
theorem do_lit (v u : Value) (g : Nat) (W : World) (hw : Ru.Lay W) (hc : R10 W g ⟨1, 1, 2, 0, [1, 2]⟩ ⟨1, 1, 2, 0, [3, 4]⟩ v u) (hv : RdI W.heap.size W v [1, 2]) (hu : RdI W.heap.size W u [3, 4]) :
    Calls Tryz.prog 24 #[.int .i64 15, .slice (some ⟨g, 0, none⟩) 2 2] W fun e w' => ∃ q c, e = .returned (.tuple #[A5 1 1 2 0 (.slice q 2 c), .int .i64 0]) ∧ RdN W.heap.size w' (.slice q 2 c) [4, 6] ∧ Below W.heap.size W w' := by
  have h := doadd_any ⟨1, 1, 2, 0, [1, 2]⟩ ⟨1, 1, 2, 0, [3, 4]⟩ v u g W hw hc hv hu (by decide) (by decide) (in64_lit12 (by decide)) (in64_lit12 (by decide))
  rw [show twE 15 ⟨1, 1, 2, 0, [1, 2]⟩ ⟨1, 1, 2, 0, [3, 4]⟩ = 0 by decide, show twV 15 ⟨1, 1, 2, 0, [1, 2]⟩ ⟨1, 1, 2, 0, [3, 4]⟩ = ⟨1, 1, 2, 0, [4, 6]⟩ by rfl] at h
  refine h.mono ?_
  rintro e w' ⟨u, h1, h2, h3⟩
  obtain ⟨q, c, hq, _⟩ := h2.form
  have hq2 : u = .slice q 2 c := hq
  subst hq2
  exact ⟨q, c, h1, h2, h3⟩
theorem do_lit2 (q1 q2 : Option Addr) (c1 c2 : Nat) (W : World) (g : Nat) (hg : W.heap.size = g) (hw : Ru.Lay W) (hv : RdI W.heap.size W (.slice q1 2 c1) [1, 2]) (hu : RdI W.heap.size W (.slice q2 2 c2) [3, 4]) :
    Calls Tryz.prog 24 #[.int .i64 15, .slice (some ⟨g, 0, none⟩) 2 2] (W.alloc (.cells #[.int .i64 1, .int .i64 1, .int .i64 2, .int .i64 0, .slice q1 2 c1, .int .i64 1, .int .i64 1, .int .i64 2, .int .i64 0, .slice q2 2 c2] 43)) fun e w' => ∃ q c, e = .returned (.tuple #[A5 1 1 2 0 (.slice q 2 c), .int .i64 0]) ∧ RdI w'.heap.size w' (.slice q 2 c) [4, 6] ∧ Below W.heap.size W w' := by
  subst hg
  have b1 := bel1 W (.cells #[.int .i64 1, .int .i64 1, .int .i64 2, .int .i64 0, .slice q1 2 c1, .int .i64 1, .int .i64 1, .int .i64 2, .int .i64 0, .slice q2 2 c2] 43)
  refine (do_lit _ _ _ _ (hw.next b1) (tab_new W _) (hv.next b1) (hu.next b1)).mono ?_
  rintro e w' ⟨q, c, e1, e2, e3⟩
  exact ⟨q, c, e1, e2.rd, b1.trans (e3.mono b1.size)⟩
theorem do_one2 (q : Option Addr) (c : Nat) (W : World) (g : Nat) (hg : W.heap.size = g) :
    Calls Tryz.prog 24 #[.int .i64 15, .slice (some ⟨g, 0, none⟩) 1 1] (W.alloc (.cells #[.int .i64 1, .int .i64 1, .int .i64 2, .int .i64 0, .slice q 2 c] 43)) fun e w' => e = .returned (.tuple #[A5 0 0 0 0 (.slice none 0 0), .int .i64 23]) ∧ Below W.heap.size W w' := by
  subst hg
  have b1 := bel1 W (.cells #[.int .i64 1, .int .i64 1, .int .i64 2, .int .i64 0, .slice q 2 c] 43)
  refine (doone_any _ _ _).mono ?_
  rintro e w' ⟨e1, e3⟩
  exact ⟨e1, b1.trans (e3.mono b1.size)⟩
abbrev At12 (w W : World) : Prop := Below w.heap.size w W
theorem At12.next {w W W' : World} (h : At12 w W) (hb : Below W.heap.size W W') : At12 w W' := Below.trans h (hb.mono (Below.size h))
theorem fl1 : ftT 37 [2, 2] [1, 1] = (2, 1, 0) := by decide +kernel
theorem fl2 : ftT 37 [2, 1] [1, 1] = (0, 0, 21) := by decide +kernel
theorem fl3 : ftT 37 [1, 1] [1, 2] = (0, 0, 22) := by decide +kernel
theorem fn1 : ((fdP ⟨#[97, 100, 100]⟩ : Nat) : Int) = 15 ∧ fdE ⟨#[97, 100, 100]⟩ = 0 := by decide +kernel
theorem fn2 : ((fdP ⟨#[112, 108, 117, 115]⟩ : Nat) : Int) = 20 ∧ fdE ⟨#[112, 108, 117, 115]⟩ = 0 := by decide +kernel
theorem fn3 : ((fdP ⟨#[115, 117, 109, 115]⟩ : Nat) : Int) = 0 ∧ fdE ⟨#[115, 117, 109, 115]⟩ = 4 := by decide +kernel

set_option maxRecDepth 100000 in
set_option maxHeartbeats 32000000 in
theorem awake12_any (w : World) (hw : Ru.Lay w) : Calls Tryz.prog 11 #[] w fun e w' => e = .returned (.bool true) ∧ Below w.heap.size w w' := by
  have HL := Lib.hid hw
  have HA := Lib.hid (show At12 w w from Below.refl _ _)
  clear hw
  have HF1 := Lib.hid (fun W => find_lit ⟨#[97, 100, 100]⟩ 15 0 fn1.1 fn1.2 W)
  have HF2 := Lib.hid (fun W => find_lit ⟨#[112, 108, 117, 115]⟩ 20 0 fn2.1 fn2.2 W)
  have HF3 := Lib.hid (fun W => find_lit ⟨#[115, 117, 109, 115]⟩ 0 4 fn3.1 fn3.2 W)
  have HT1 := Lib.hid (fits_lit 37 2 2 1 1 2 1 0 fl1)
  have HT2 := Lib.hid (fits_lit 37 2 1 1 1 0 0 21 fl2)
  have HT3 := Lib.hid (fits_lit 37 1 1 1 2 0 0 22 fl3)
  have HI1 : Hid (∀ (W : World) (g : Nat), W.heap.size = g → Calls Tryz.prog 30 #[.slice (some ⟨g, 0, none⟩) 2 2] (W.alloc (.cells #[.int .i64 1, .int .i64 2] 2)) fun e w' => ∃ q c, e = .returned (A5 1 1 2 0 (.slice q 2 c)) ∧ RdN (g + 1) w' (.slice q 2 c) [1, 2] ∧ Below W.heap.size W w') := fun W g hg => ints_lit12 [1, 2] 2 rfl (by decide) W g hg
  have HI2 : Hid (∀ (W : World) (g : Nat), W.heap.size = g → Calls Tryz.prog 30 #[.slice (some ⟨g, 0, none⟩) 2 2] (W.alloc (.cells #[.int .i64 3, .int .i64 4] 2)) fun e w' => ∃ q c, e = .returned (A5 1 1 2 0 (.slice q 2 c)) ∧ RdN (g + 1) w' (.slice q 2 c) [3, 4] ∧ Below W.heap.size W w') := fun W g hg => ints_lit12 [3, 4] 2 rfl (by decide) W g hg
  have HD := Lib.hid do_lit2
  have HD1 := Lib.hid do_one2
  have HE := Lib.hid errs_lit
  go_enter Tryz.func11, Tryz.ntmps11
  go_upto_region 8 with (first
    | (go_at_call 12; (with_reducible refine (HF1.out _).mono ?_); rintro e wf1 ⟨rfl, hb⟩; have HA2 := Lib.hid (HA.out.next hb); clear HA hb; have HA := HA2; clear HA2)
    | (go_at_call 12; (with_reducible refine (HF2.out _).mono ?_); rintro e wf2 ⟨rfl, hb⟩; have HA2 := Lib.hid (HA.out.next hb); clear HA hb; have HA := HA2; clear HA2)
    | (go_at_call 12; (with_reducible refine (HF3.out _).mono ?_); rintro e wf3 ⟨rfl, hb⟩; have HA2 := Lib.hid (HA.out.next hb); clear HA hb; have HA := HA2; clear HA2)
    | (go_at_call 21; (with_reducible refine (HT1.out _ _ _ (by first | rfl | simp) (by first | rfl | simp)).mono ?_); rintro e wt1 ⟨rfl, hb⟩; have HA2 := Lib.hid (HA.out.next hb); clear HA hb; have HA := HA2; clear HA2)
    | (go_at_call 21; (with_reducible refine (HT2.out _ _ _ (by first | rfl | simp) (by first | rfl | simp)).mono ?_); rintro e wt2 ⟨rfl, hb⟩; have HA2 := Lib.hid (HA.out.next hb); clear HA hb; have HA := HA2; clear HA2)
    | (go_at_call 21; (with_reducible refine (HT3.out _ _ _ (by first | rfl | simp) (by first | rfl | simp)).mono ?_); rintro e wt3 ⟨rfl, hb⟩; have HA2 := Lib.hid (HA.out.next hb); clear HA hb; have HA := HA2; clear HA2)
    | (go_at_call 30; (with_reducible refine (HI1.out _ _ (by first | rfl | simp)).mono ?_); rintro e wi1 ⟨qi1, ci1, rfl, hu, hb⟩; have HUi1 := Lib.hid hu.rd; have HA2 := Lib.hid (HA.out.next hb); clear HA hb hu; have HA := HA2; clear HA2)
    | (go_at_call 30; (with_reducible refine (HI2.out _ _ (by first | rfl | simp)).mono ?_); rintro e wi2 ⟨qi2, ci2, rfl, hu, hb⟩; have HUi2 := Lib.hid hu.rd; have HA2 := Lib.hid (HA.out.next hb); have HUj1 := Lib.hid (HUi1.out.next hb); clear HA hb hu; have HA := HA2; clear HA2)
    | (go_at_call 24; (with_reducible refine (HD.out _ _ _ _ _ _ (by first | rfl | simp) (HL.out.next HA.out) HUj1.out HUi2.out).mono ?_); rintro e wD ⟨qa, ca, rfl, hu, hb⟩; have HUa := Lib.hid hu; have HA2 := Lib.hid (HA.out.next hb); clear HA hb hu HUj1 HUi2 HUi1; have HA := HA2; clear HA2)
    | fail)
  have HB := Lib.hid (HA.out.next (bel1 wD (.cells #[.int .i64 1, .int .i64 1, .int .i64 2, .int .i64 0, .slice qa 2 ca] 43)))
  have HR := Lib.hid (R5.new wD 1 1 2 0 (.slice qa 2 ca))
  have HUb := Lib.hid (HUa.out.next (bel1 wD (.cells #[.int .i64 1, .int .i64 1, .int .i64 2, .int .i64 0, .slice qa 2 ca] 43)))
  clear HA HUa HF1 HF2 HF3 HT1 HT2 HT3 HI2 HD
  obtain ⟨ga, hga⟩ : ∃ ga, ga = wD.heap.size := ⟨_, rfl⟩
  rw [← hga] at HR ⊢
  clear hga
  generalize wD.alloc _ = W8 at HB HR HUb ⊢
  have HA := HB
  clear HB
  go_upto_region 9 with (first
    | (go_at_call 30; (with_reducible refine (HI1.out _ _ (by first | rfl | simp)).mono ?_); rintro e wi3 ⟨qi3, ci3, rfl, hu, hb⟩; have HUi3 := Lib.hid hu.rd; have HA2 := Lib.hid (HA.out.next hb); have HR2 := Lib.hid (HR.out.next hb); have HUc := Lib.hid (HUb.out.next hb); clear HR HUb HUi3; clear HA hb hu; have HA := HA2; clear HA2)
    | (go_at_call 24; (with_reducible refine (HD1.out _ _ _ _ (by first | rfl | simp)).mono ?_); rintro e wE ⟨rfl, hb⟩; have HR3 := Lib.hid (HR2.out.next hb); have HUd := Lib.hid (HUc.out.next hb); have HA2 := Lib.hid (HA.out.next hb); clear HA hb HR2 HUc; have HA := HA2; clear HA2)
    | fail)
  have HB := Lib.hid (HA.out.next (bel1 wE (.cells #[.int .i64 0, .int .i64 0, .int .i64 0, .int .i64 0, .slice none 0 0] 43)))
  have HR := Lib.hid (HR3.out.next (bel1 wE (.cells #[.int .i64 0, .int .i64 0, .int .i64 0, .int .i64 0, .slice none 0 0] 43)))
  have HUb := Lib.hid (HUd.out.next (bel1 wE (.cells #[.int .i64 0, .int .i64 0, .int .i64 0, .int .i64 0, .slice none 0 0] 43)))
  clear HA HR3 HUd HI1 HD1
  obtain ⟨gb, hgb⟩ : ∃ gb, gb = wE.heap.size := ⟨_, rfl⟩
  rw [← hgb]
  clear hgb
  generalize wE.alloc _ = W9 at HB HR HUb ⊢
  go_upto_region 10 with (first | (go_at_call 18; (with_reducible refine (HE.out _).mono ?_); rintro e W10 ⟨un, rfl, hu, hb⟩; have HN := Lib.hid hu; have HR2 := Lib.hid (HR.out.next hb); have HUc := Lib.hid (HUb.out.next hb); have HA := Lib.hid (HB.out.next hb); clear HR HUb HB hu hb) | fail)
  clear HE HL
  have HI9 : Hid (∀ (W : World) (g : Nat), W.heap.size = g → Calls Tryz.prog 30 #[.slice (some ⟨g, 0, none⟩) 2 2] ((W.alloc (.cells #[.int .i64 4, .int .i64 6] 2))) fun e w' => ∃ q c, e = .returned (A5 1 1 2 0 (.slice q 2 c)) ∧ RdN ((W.alloc (.cells #[.int .i64 4, .int .i64 6] 2))).heap.size w' (.slice q 2 c) [4, 6] ∧ Below ((W.alloc (.cells #[.int .i64 4, .int .i64 6] 2))).heap.size ((W.alloc (.cells #[.int .i64 4, .int .i64 6] 2))) w') := fun W g hg => by subst hg; exact ints_gen12 [4, 6] 2 rfl (by decide) _ _ (blk_rd (l := [4, 6]) rfl (by decide) (heap_alloc_last W _)) (nil_some _ _ _)
  have HI9d : Hid (∀ (W : World) (g : Nat), W.heap.size = g → Calls Tryz.prog 30 #[.slice (some ⟨g, 0, none⟩) 2 2] ((W.alloc (.cells #[.int .i64 4, .int .i64 6] 2)).drew) fun e w' => ∃ q c, e = .returned (A5 1 1 2 0 (.slice q 2 c)) ∧ RdN ((W.alloc (.cells #[.int .i64 4, .int .i64 6] 2)).drew).heap.size w' (.slice q 2 c) [4, 6] ∧ Below ((W.alloc (.cells #[.int .i64 4, .int .i64 6] 2)).drew).heap.size ((W.alloc (.cells #[.int .i64 4, .int .i64 6] 2)).drew) w') := fun W g hg => by subst hg; exact ints_gen12 [4, 6] 2 rfl (by decide) _ _ ((blk_rd (l := [4, 6]) rfl (by decide) (heap_alloc_last W _)).next (Below.refl _ _).drew) (nil_some _ _ _)
  have HE9 : Hid (∀ (W : World) (g : Nat), W.heap.size = g → RdI ((W.alloc (.cells #[.int .i64 11, .int .i64 13, .int .i64 15] 23))).heap.size ((W.alloc (.cells #[.int .i64 11, .int .i64 13, .int .i64 15] 23))) un [11, 13, 15] → Calls Tryz.prog 20 #[un, .slice (some ⟨g, 0, none⟩) 3 3] ((W.alloc (.cells #[.int .i64 11, .int .i64 13, .int .i64 15] 23))) fun e w' => e = .returned (.bool true) ∧ Below ((W.alloc (.cells #[.int .i64 11, .int .i64 13, .int .i64 15] 23))).heap.size ((W.alloc (.cells #[.int .i64 11, .int .i64 13, .int .i64 15] 23))) w') := fun W g hg h => by subst hg; exact same12_eq [11, 13, 15] _ _ _ h ((rd_lit12 (l := [11, 13, 15]) rfl (by simp) (tab_new W _))) (by simp)
  have HE9d : Hid (∀ (W : World) (g : Nat), W.heap.size = g → RdI ((W.alloc (.cells #[.int .i64 11, .int .i64 13, .int .i64 15] 23)).drew).heap.size ((W.alloc (.cells #[.int .i64 11, .int .i64 13, .int .i64 15] 23)).drew) un [11, 13, 15] → Calls Tryz.prog 20 #[un, .slice (some ⟨g, 0, none⟩) 3 3] ((W.alloc (.cells #[.int .i64 11, .int .i64 13, .int .i64 15] 23)).drew) fun e w' => e = .returned (.bool true) ∧ Below ((W.alloc (.cells #[.int .i64 11, .int .i64 13, .int .i64 15] 23)).drew).heap.size ((W.alloc (.cells #[.int .i64 11, .int .i64 13, .int .i64 15] 23)).drew) w') := fun W g hg h => by subst hg; exact same12_eq [11, 13, 15] _ _ _ h ((rd_lit12 (l := [11, 13, 15]) rfl (by simp) (tab_new W _)).next (Below.refl _ _).drew) (by simp)
  have HQ : Hid (∀ (v u : Value) (W : World), RdI W.heap.size W v [4, 6] → RdI W.heap.size W u [4, 6] → Calls Tryz.prog 29 #[A5 1 1 2 0 v, A5 1 1 2 0 u] W fun e w' => e = .returned (.bool true) ∧ Below W.heap.size W w') := fun v u W h1 h2 => same_eq 1 1 2 0 [4, 6] v u W h1 h2 (by simp)
  have HAll : ∀ W, At12 W10 W → (fun W => At12 W10 W ∧ W.cell? ⟨ga, 0, none⟩ = some (.int .i64 1) ∧ W.cell? ⟨ga, 1, none⟩ = some (.int .i64 1) ∧ W.cell? ⟨ga, 2, none⟩ = some (.int .i64 2) ∧ W.cell? ⟨ga, 3, none⟩ = some (.int .i64 0) ∧ W.cell? ⟨ga, 4, none⟩ = some (.slice qa 2 ca)) W := fun W h => ⟨h, (HR2.out.next h).c0, (HR2.out.next h).c1, (HR2.out.next h).c2, (HR2.out.next h).c3, (HR2.out.next h).c4⟩
  have hS : At12 W10 W10 := Below.refl _ _
  go_region_held3 (fun W => At12 W10 W ∧ W.cell? ⟨ga, 0, none⟩ = some (.int .i64 1) ∧ W.cell? ⟨ga, 1, none⟩ = some (.int .i64 1) ∧ W.cell? ⟨ga, 2, none⟩ = some (.int .i64 2) ∧ W.cell? ⟨ga, 3, none⟩ = some (.int .i64 0) ∧ W.cell? ⟨ga, 4, none⟩ = some (.slice qa 2 ca))
    ((first | exact HAll _ ((by assumption : At12 _ _ ∧ _).1.next hbn) | exact HAll _ ((by assumption : At12 _ _ ∧ _).1.next (bel1 _ _)) | exact HAll _ (by assumption : At12 _ _ ∧ _).1 | exact HAll _ (hS.next (Below.refl _ _).drew) | fail))
    (first
      | (go_at_call 30; (with_reducible refine (HI9.out _ _ (by first | rfl | simp)).mono ?_); rintro e wn ⟨qn, cn, rfl, hrv, hbn⟩)
      | (go_at_call 30; (with_reducible refine (HI9d.out _ _ (by first | rfl | simp)).mono ?_); rintro e wn ⟨qn, cn, rfl, hrv, hbn⟩)
      | (go_at_call 29; (with_reducible refine (HQ.out _ _ _ (HUc.out.next (by assumption : At12 _ _ ∧ _).1) hrv.rd).mono ?_); rintro e wn ⟨rfl, hbn⟩)
      | (go_at_call 20; (with_reducible refine (HE9.out _ _ (by first | rfl | simp) (HN.out.next (by assumption : At12 _ _ ∧ _).1)).mono ?_); rintro e wn ⟨rfl, hbn⟩)
      | (go_at_call 20; (with_reducible refine (HE9d.out _ _ (by first | rfl | simp) (HN.out.next (by assumption : At12 _ _ ∧ _).1)).mono ?_); rintro e wn ⟨rfl, hbn⟩)
      | fail)
  all_goals
    have HB := Lib.hid (by assumption : At12 _ _ ∧ _).1
    go_wp2_with fail
    go_ret
    exact ⟨rfl, HA.out.next HB.out⟩
end Go.Proofs.YtpbfbejckhbijaaGreatDoor
