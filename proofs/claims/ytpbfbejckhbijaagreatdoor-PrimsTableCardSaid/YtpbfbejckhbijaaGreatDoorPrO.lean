/- The law of the table. -/
import Derived.Test.YtpbfbejckhbijaaGreatDoorPrN
namespace Go.Proofs.YtpbfbejckhbijaaGreatDoor
open Go.RowKit

theorem tb_all : (List.range 41).all (fun p => p == 0 || (decide (fdP (nmB p) = p) && decide (fdE (nmB p) = 0) && decide (2 ≤ (nmB p).size ∧ (nmB p).size ≤ 7) && (bys12 (nmB p)).all (fun c => decide (97 ≤ c ∧ c ≤ 122)))) = true := by decide +kernel
theorem tb_at {p : Nat} (h1 : 1 ≤ p) (h2 : p ≤ 40) : fdP (nmB p) = p ∧ fdE (nmB p) = 0 ∧ (2 ≤ (nmB p).size ∧ (nmB p).size ≤ 7) ∧ ∀ i (h : i < (nmB p).size), 97 ≤ (((nmB p)[i]'h).toNat : Int) ∧ (((nmB p)[i]'h).toNat : Int) ≤ 122 := by
  have h := List.all_eq_true.1 tb_all p (by simp; omega)
  have h0 : (p == 0) = false := by simp; omega
  rw [h0, Bool.false_or, Bool.and_eq_true, Bool.and_eq_true, Bool.and_eq_true] at h
  obtain ⟨⟨⟨e1, e2⟩, e3⟩, e4⟩ := h
  refine ⟨of_decide_eq_true e1, of_decide_eq_true e2, of_decide_eq_true e3, fun i hi => ?_⟩
  have h5 := of_decide_eq_true (List.all_eq_true.1 e4 _ (List.getElem_mem (show i < (bys12 (nmB p)).length by rw [bys12_len]; exact hi)))
  rwa [bys12_at _ i hi] at h5
theorem arN_at {p : Nat} (h1 : 1 ≤ p) (h2 : p ≤ 40) : arN (p : Int) = ((if p ≤ 14 then 1 else 2 : Nat) : Int) := by
  unfold arN
  rw [if_neg (show ¬ ((p : Int) < 1 ∨ 40 < (p : Int)) by omega)]
  by_cases h : p ≤ 14
  · rw [if_pos h, if_pos (by omega)]; rfl
  · rw [if_neg h, if_neg (by omega)]; rfl
def okT12 (t : Int × Int × Int) : Bool := decide (t.2.2 = 0 ∧ (t.1 = 1 ∨ t.1 = 2) ∧ 0 ≤ t.2.1 ∧ t.2.1 ≤ 2) || decide (t.2.2 = 21 ∨ t.2.2 = 22)
theorem tg_all : (List.range 41).all (fun p => p == 0 || ([1, 2] : List Int).all fun a => ([1, 2] : List Int).all fun b => ([0, 1, 2] : List Int).all fun c => ([0, 1, 2] : List Int).all fun d => okT12 (ftT p (([a, b] : List Int).take (if p ≤ 14 then 1 else 2)) (([c, d] : List Int).take (if p ≤ 14 then 1 else 2)))) = true := by decide +kernel
theorem tg_at {p : Nat} (h1 : 1 ≤ p) (h2 : p ≤ 40) {a b c d : Int} (ha : 1 ≤ a ∧ a ≤ 2) (hb : 1 ≤ b ∧ b ≤ 2) (hc : 0 ≤ c ∧ c ≤ 2) (hd : 0 ≤ d ∧ d ≤ 2) : okT12 (ftT p (([a, b] : List Int).take (if p ≤ 14 then 1 else 2)) (([c, d] : List Int).take (if p ≤ 14 then 1 else 2))) = true := by
  have h := List.all_eq_true.1 tg_all p (by simp; omega)
  have h0 : (p == 0) = false := by simp; omega
  rw [h0, Bool.false_or] at h
  exact List.all_eq_true.1 (List.all_eq_true.1 (List.all_eq_true.1 (List.all_eq_true.1 h _ (m2 ha)) _ (m2 hb)) _ (m3 hc)) _ (m3 hd)
theorem Sl2.part {W : World} {g : Nat} {a b : Int} (h : Sl2 W (.slice (some ⟨g, 0, none⟩) 2 2) a b) (n : Nat) (hn : n = 1 ∨ n = 2) : RdI W.heap.size W (.slice (some ⟨g, 0, none⟩) n 2) (([a, b] : List Int).take n) := by
  obtain ⟨g', e, h2⟩ := h
  cases e
  have hlt := (Array.getElem?_eq_some_iff.1 h2).1
  obtain ⟨c0, c1⟩ := Sl2.at h2
  rcases hn with rfl | rfl
  · refine ⟨_, _, rfl, by simp, by omega, fun _ => ⟨g, 0, rfl, hlt, fun j hj => ?_⟩⟩
    have hj0 : j = 0 := by simp at hj; omega
    subst hj0
    simpa using c0
  · refine ⟨_, _, rfl, by simp, by omega, fun _ => ⟨g, 0, rfl, hlt, fun j hj => ?_⟩⟩
    simp at hj
    match j, hj with
    | 0, _ => simpa using c0
    | 1, _ => simpa using c1
    | n + 2, h => omega
/-- The box of four bytes. -/
def Bx4 (W : World) (g : Nat) (x0 x1 x2 x3 : Int) : Prop := W.heap[g]? = some (.cells #[.int .u8 x0, .int .u8 x1, .int .u8 x2, .int .u8 x3] 50 (0, 0))
theorem Bx4.next {W W' : World} {g : Nat} {x0 x1 x2 x3 : Int} (h : Bx4 W g x0 x1 x2 x3) (hb : Below W.heap.size W W') : Bx4 W' g x0 x1 x2 x3 := (hb.block g (Array.getElem?_eq_some_iff.1 h).1).trans h
theorem Bx4.at {W : World} {g : Nat} {x0 x1 x2 x3 : Int} (h : Bx4 W g x0 x1 x2 x3) : W.cell? ⟨g, 0, none⟩ = some (.int .u8 x0) ∧ W.cell? ⟨g, 1, none⟩ = some (.int .u8 x1) ∧ W.cell? ⟨g, 2, none⟩ = some (.int .u8 x2) ∧ W.cell? ⟨g, 3, none⟩ = some (.int .u8 x3) := by
  unfold Bx4 at h
  refine ⟨?_, ?_, ?_, ?_⟩ <;> simp [World.cell?, h]
abbrev KT12 (w W : World) (g : Nat) (x0 x1 x2 x3 : Int) : Prop := At12 w W ∧ Bx4 W g x0 x1 x2 x3
theorem KT12.next {w W W' : World} {g : Nat} {x0 x1 x2 x3 : Int} (h : KT12 w W g x0 x1 x2 x3) (hb : Below W.heap.size W W') : KT12 w W' g x0 x1 x2 x3 := ⟨h.1.next hb, h.2.next hb⟩
set_option maxRecDepth 100000 in
set_option maxHeartbeats 16000000 in
theorem law_table (p : Int) (x0 x1 x2 x3 : Int) (h0 : 0 ≤ x0 ∧ x0 ≤ 255) (h1 : 0 ≤ x1 ∧ x1 ≤ 255) (h2 : 0 ≤ x2 ∧ x2 ≤ 255) (h3 : 0 ≤ x3 ∧ x3 ≤ 255) (w : World) (hw : Ru.Lay w) :
    Calls Tryz.prog 7 #[.int .i64 p, .agg #[.int .u8 x0, .int .u8 x1, .int .u8 x2, .int .u8 x3]] w fun e w' => e = .returned (.bool true) ∧ Below w.heap.size w w' := by
  have HL := Lib.hid hw
  have HAw := Lib.hid (fun W h => awake12_any W h)
  have HNp := Lib.hid (name_any p)
  have HX0 : Hid (KT12 w (w.alloc (.cells #[.int .u8 x0, .int .u8 x1, .int .u8 x2, .int .u8 x3] 50)) w.heap.size x0 x1 x2 x3) := ⟨bel1 _ _, tab_new w _⟩
  have HBd : Hid ((0 ≤ x0 ∧ x0 ≤ 255) ∧ (0 ≤ x1 ∧ x1 ≤ 255) ∧ (0 ≤ x2 ∧ x2 ≤ 255) ∧ (0 ≤ x3 ∧ x3 ≤ 255)) := ⟨h0, h1, h2, h3⟩
  clear hw h0 h1 h2 h3
  go_enter Tryz.func7, Tryz.ntmps7
  go_upto_region 1 with fail
  obtain ⟨gx, hgx⟩ : ∃ gx, gx = w.heap.size := ⟨_, rfl⟩
  rw [← hgx] at HX0 ⊢
  clear hgx
  generalize w.alloc _ = W1 at HX0 ⊢
  go_wp2_with fail
  go_loopg [5, 6, 7, 8, 9, 10, 11, 12, 13, 14, 15, 16, 17] 40 (fun gk q5 s6 s7 s8 s9 s10 s11 s12 s13 s14 s15 s16 s17 wr => ∃ (j : Nat), j + gk = 41 ∧ 1 ≤ j ∧ q5 = .int .i64 j ∧ KT12 w wr gx x0 x1 x2 x3)
  case atStart => exact ⟨1, by omega, by omega, rfl, HX0.out⟩
  case round =>
    obtain ⟨j, hjg, hj1, rfl, hk⟩ := hrel
    clear HX0
    have HK := Lib.hid hk
    clear hk
    cases gk with
    | zero =>
      have hjz : ¬ ((j : Int) ≤ 40) := by omega
      have H7 : Hid (∀ W, Calls Tryz.prog 14 #[.int .i64 p] W fun e w' => e = .returned (.tuple #[.string (nmS p), .int .i64 (arE p)]) ∧ Below W.heap.size W w') := HNp
      clear HNp HBd
      by_cases hp : p < 1 ∨ 40 < p
      · have n1 : nmS p = ⟨#[]⟩ := if_pos hp
        have n2 : arE p = 2 := if_pos hp
        rw [n1, n2] at H7
        have n3 : (((⟨#[]⟩ : ByteArray)).toList == ((⟨#[]⟩ : ByteArray)).toList) = true := by simp
        clear n1 n2
        by_cases hp1 : p < 1
        · have n4 : ¬ (1 ≤ p) := by omega
          clear hp
          go_wp2_with (first | (go_at_call 14; (with_reducible refine (H7.out _).mono ?_); rintro e wz ⟨rfl, hb⟩; have HK2 := Lib.hid (HK.out.next hb); clear HK hb; have HK := HK2; clear HK2) | (go_at_call 11; (with_reducible refine (HAw.out _ (HL.out.next HK.out.1)).mono ?_); rintro e wa ⟨rfl, hb⟩; have HB := Lib.hid (HK.out.1.next hb); clear hb) | fail)
          go_ret
          exact ⟨rfl, HB.out⟩
        · have n4 : 1 ≤ p := by omega
          have n5 : ¬ (p ≤ 40) := by omega
          clear hp
          go_wp2_with (first | (go_at_call 14; (with_reducible refine (H7.out _).mono ?_); rintro e wz ⟨rfl, hb⟩; have HK2 := Lib.hid (HK.out.next hb); clear HK hb; have HK := HK2; clear HK2) | (go_at_call 11; (with_reducible refine (HAw.out _ (HL.out.next HK.out.1)).mono ?_); rintro e wa ⟨rfl, hb⟩; have HB := Lib.hid (HK.out.1.next hb); clear hb) | fail)
          go_ret
          exact ⟨by show Ending.returned (Value.bool (!decide (p ≤ 40))) = _; rw [decide_eq_false (show ¬ p ≤ 40 by omega)]; rfl, HB.out⟩
      · have n2 : arE p = 0 := if_neg hp
        rw [n2] at H7
        have n4 : 1 ≤ p := by omega
        have n5 : p ≤ 40 := by omega
        clear hp n2
        generalize nmS p = s1 at H7
        go_wp2_with (first | (go_at_call 14; (with_reducible refine (H7.out _).mono ?_); rintro e wz ⟨rfl, hb⟩; have HK2 := Lib.hid (HK.out.next hb); clear HK hb; have HK := HK2; clear HK2) | (go_at_call 11; (with_reducible refine (HAw.out _ (HL.out.next HK.out.1)).mono ?_); rintro e wa ⟨rfl, hb⟩; have HB := Lib.hid (HK.out.1.next hb); clear hb) | fail)
        go_ret
        exact ⟨rfl, HB.out⟩
    | succ g2 =>
      have hjz : (j : Int) ≤ 40 := by omega
      have hj40 : j ≤ 40 := by omega
      have hwi : IntKind.i64.wrap ((j : Int) + 1) = (j : Int) + 1 := by rw [IntKind.wrap_i64]; omega
      obtain ⟨n, hn⟩ : ∃ n : Nat, n = if j ≤ 14 then 1 else 2 := ⟨_, rfl⟩
      have hn12 : n = 1 ∨ n = 2 := by by_cases h : j ≤ 14 <;> simp [h] at hn <;> omega
      have C1 : Hid (∀ W, Calls Tryz.prog 14 #[.int .i64 j] W fun e w' => e = .returned (.tuple #[.string (nmB j), .int .i64 0]) ∧ Below W.heap.size W w') := fun W => by
        have h := name_any j W
        rwa [show nmS j = nmB j from (if_neg (by omega)).trans (by rw [Int.toNat_natCast]), show arE j = 0 from if_neg (by omega)] at h
      have C3 : Hid (∀ W, Calls Tryz.prog 16 #[.int .i64 j] W fun e w' => e = .returned (.tuple #[.int .i64 n, .int .i64 0]) ∧ w' = W) := fun W => by
        have h := arity_any j W
        rwa [arN_at hj1 hj40, ← hn, show arE j = 0 from if_neg (by omega)] at h
      obtain ⟨e1, e2, ⟨e3, e4⟩, e5⟩ := tb_at hj1 hj40
      have C2 : Hid (∀ W, Calls Tryz.prog 12 #[.string (nmB j)] W fun e w' => e = .returned (.tuple #[.int .i64 j, .int .i64 0]) ∧ Below W.heap.size W w') := fun W => by
        have h := find_any (nmB j) W
        rwa [e1, e2] at h
      clear e1 e2
      have HN := Lib.hid (And.intro hn (And.intro hn12 (And.intro hj1 hj40)))
      generalize nmB j = s at C1 C2 e3 e4 e5
      have q1 : ((j : Int) != (j : Int)) = false := by simp
      have q2 : ¬ ((s.size : Int) < 2) := by omega
      have q3 : ¬ ((7 : Int) < (s.size : Int)) := by omega
      have q4 : ¬ ((n : Int) < 1) := by omega
      have q5 : ¬ ((2 : Int) < (n : Int)) := by omega
      clear e3 hn hn12
      have H5 := Lib.hid e5
      have H4 := Lib.hid e4
      clear e5 e4
      go_upto_region 9 with (first
        | (go_at_call 14; (with_reducible refine (C1.out _).mono ?_); rintro e wn1 ⟨rfl, hb⟩; have HK2 := Lib.hid (HK.out.next hb); clear HK hb; have HK := HK2; clear HK2)
        | (go_at_call 12; (with_reducible refine (C2.out _).mono ?_); rintro e wn2 ⟨rfl, hb⟩; have HK2 := Lib.hid (HK.out.next hb); clear HK hb; have HK := HK2; clear HK2)
        | (go_at_call 16; (with_reducible refine (C3.out _).mono ?_); rintro e wn3 ⟨rfl, rfl⟩)
        | fail)
      clear C1 C2 C3
      go_wp2_with fail
      go_loopg [12] s.size (fun gi q12 wq => ∃ (i : Nat), i + gi = s.size ∧ q12 = .int .i64 i ∧ KT12 w wq gx x0 x1 x2 x3)
      case atStart => exact ⟨0, by omega, rfl, HK.out⟩
      case round =>
        obtain ⟨i, hig, rfl, hk⟩ := hrel
        clear HK
        have HK := Lib.hid hk
        clear hk
        cases gk with
        | zero =>
          have hiz : ¬ ((i : Int) < (s.size : Int)) := by omega
          clear H5 H4 q1 q2 q3 q4
          obtain ⟨h0, h1, h2, h3⟩ := HBd.out
          obtain ⟨k0, hk0⟩ : ∃ k0, k0 = x0.tmod 2 := ⟨_, rfl⟩
          obtain ⟨k1, hk1⟩ : ∃ k1, k1 = x1.tmod 2 := ⟨_, rfl⟩
          obtain ⟨r0, hr0⟩ : ∃ r0, r0 = x2.tmod 3 := ⟨_, rfl⟩
          obtain ⟨r1, hr1⟩ : ∃ r1, r1 = x3.tmod 3 := ⟨_, rfl⟩
          have b0 : 0 ≤ k0 ∧ k0 ≤ 1 := by rw [hk0, Int.tmod_eq_emod_of_nonneg h0.1]; omega
          have b1 : 0 ≤ k1 ∧ k1 ≤ 1 := by rw [hk1, Int.tmod_eq_emod_of_nonneg h1.1]; omega
          have b2 : 0 ≤ r0 ∧ r0 ≤ 2 := by rw [hr0, Int.tmod_eq_emod_of_nonneg h2.1]; omega
          have b3 : 0 ≤ r1 ∧ r1 ≤ 2 := by rw [hr1, Int.tmod_eq_emod_of_nonneg h3.1]; omega
          have t0 := hk0.symm; have t1 := hk1.symm; have t2 := hr0.symm; have t3 := hr1.symm
          clear hk0 hk1 hr0 hr1 h0 h1 h2 h3
          have wa : ∀ z, 0 ≤ z ∧ z ≤ 2 → IntKind.u8.wrap z = z := fun z hz => by rw [IntKind.wrap_u8]; omega
          have wb : ∀ z, 0 ≤ z ∧ z ≤ 3 → IntKind.i64.wrap z = z := fun z hz => by rw [IntKind.wrap_i64]; omega
          have a0 := wa k0 (by omega); have a1 := wa k1 (by omega); have a2 := wa r0 b2; have a3 := wa r1 b3
          have d0 := wb k0 (by omega); have d1 := wb k1 (by omega); have d2 := wb r0 (by omega); have d3 := wb r1 (by omega)
          have e0 := wb (k0 + 1) (by omega); have e1 := wb (k1 + 1) (by omega)
          clear wa wb
          obtain ⟨c0, c1, c2, c3⟩ := HK.out.2.at
          have hgx : gx < wr.heap.size := (Array.getElem?_eq_some_iff.1 HK.out.2).1
          have g0 : ∀ o, (wr.alloc o).cell? ⟨gx, 0, none⟩ = some (.int .u8 x0) := fun o => ((bel1 wr o).cell (p := ⟨gx, 0, none⟩) hgx).trans c0
          have g1 : ∀ o, (wr.alloc o).cell? ⟨gx, 1, none⟩ = some (.int .u8 x1) := fun o => ((bel1 wr o).cell (p := ⟨gx, 1, none⟩) hgx).trans c1
          have g2' : ∀ o, (wr.alloc o).cell? ⟨gx, 2, none⟩ = some (.int .u8 x2) := fun o => ((bel1 wr o).cell (p := ⟨gx, 2, none⟩) hgx).trans c2
          have g3 : ∀ o, (wr.alloc o).cell? ⟨gx, 3, none⟩ = some (.int .u8 x3) := fun o => ((bel1 wr o).cell (p := ⟨gx, 3, none⟩) hgx).trans c3
          clear hgx
          go_upto_region 14 with fail
          go_cut [13, 14] (fun s13 s14 wx => Cut12 w (k0 + 1) (k1 + 1) r0 r1 s13 s14 wx ∧ Bx4 wx gx x0 x1 x2 x3)
          case first =>
            go_region
            all_goals (go_wp2_with fail; go_meet; case rel => first | exact ⟨cut12_ab HK.out.1 _ _ _ _, ((HK.out.2.next (bel1 _ _)).next (bel1 _ _)).next (Below.refl _ _).drew⟩ | exact ⟨cut12_ba HK.out.1 _ _ _ _, ((HK.out.2.next (bel1 _ _)).next (bel1 _ _)).next (Below.refl _ _).drew⟩)
          obtain ⟨hcut, hbx⟩ := hcut
          have HBx := Lib.hid hbx
          have HC := Lib.hid hcut
          obtain ⟨ga, hga, _⟩ := hcut.2.1
          obtain ⟨gb, hgb, _⟩ := hcut.2.2
          subst hga hgb
          have hT : okT12 (ftT j (([k0 + 1, k1 + 1] : List Int).take n) (([r0, r1] : List Int).take n)) = true := by
            rw [HN.out.1]
            exact tg_at HN.out.2.2.1 HN.out.2.2.2 (by omega) (by omega) b2 b3
          have C4 : Hid (∀ W, Cut12 w (k0 + 1) (k1 + 1) r0 r1 (.slice (some ⟨ga, 0, none⟩) 2 2) (.slice (some ⟨gb, 0, none⟩) 2 2) W → Calls Tryz.prog 21 #[.int .i64 j, .slice (some ⟨ga, 0, none⟩) n 2, .slice (some ⟨gb, 0, none⟩) n 2] W fun e w' => e = .returned (v3 (ftT j (([k0 + 1, k1 + 1] : List Int).take n) (([r0, r1] : List Int).take n))) ∧ Below W.heap.size W w') := fun W h => fits_any j _ _ _ _ W (h.2.1.part n HN.out.2.1) (h.2.2.part n HN.out.2.1)
          generalize ftT j (([k0 + 1, k1 + 1] : List Int).take n) (([r0, r1] : List Int).take n) = T at hT C4
          obtain ⟨t4, t5, t6⟩ := T
          have C5 : Hid (∀ W, Cut12 w (k0 + 1) (k1 + 1) r0 r1 (.slice (some ⟨ga, 0, none⟩) 2 2) (.slice (some ⟨gb, 0, none⟩) 2 2) W → Calls Tryz.prog 21 #[.int .i64 j, .slice (some ⟨ga, 0, none⟩) n 2, .slice (some ⟨gb, 0, none⟩) n 2] W fun e w' => e = .returned (.tuple #[.int .i64 t4, .int .i64 t5, .int .i64 t6]) ∧ Below W.heap.size W w') := C4
          have hT2 : (t6 = 0 ∧ (t4 = 1 ∨ t4 = 2) ∧ 0 ≤ t5 ∧ t5 ≤ 2) ∨ t6 = 21 ∨ t6 = 22 := by
            unfold okT12 at hT
            rw [Bool.or_eq_true] at hT
            exact hT.imp of_decide_eq_true of_decide_eq_true
          have hn2 : n ≤ 2 := by have := HN.out.2.1; omega
          have hn3 : (n : Int) ≤ 2 := by omega
          have hn4 : (0 : Int) ≤ (n : Int) := by omega
          clear hcut hbx C4 hT a0 a1 a2 a3 d0 d1 d2 d3 e0 e1 t0 t1 t2 t3 b0 b1 b2 b3 c0 c1 c2 c3 g0 g1 g2' g3 HK hiz q5
          have HT2 := Lib.hid hT2
          clear hT2
          go_upto_region 15 with fail
          go_cut [15, 16, 17] (fun s15 s16 s17 wx => s15 = .int .i64 t4 ∧ s16 = .int .i64 t5 ∧ s17 = .int .i64 t6 ∧ KT12 w wx gx x0 x1 x2 x3)
          case first =>
            have HCd := Lib.hid (HC.out.keep (Below.refl _ _).drew)
            have HXd : Hid (KT12 w wc.drew gx x0 x1 x2 x3) := ⟨HCd.out.1, HBx.out.next (Below.refl _ _).drew⟩
            go_region_with (first | (go_at_call 21; (with_reducible refine (C5.out _ HCd.out).mono ?_); rintro e wf ⟨rfl, hb⟩; have HKf := Lib.hid (HXd.out.next hb); clear hb) | fail)
            all_goals (go_wp2_with fail; go_meet; case rel => exact ⟨rfl, rfl, rfl, HKf.out⟩)
          obtain ⟨y1, y2, y3, hk⟩ := hcut
          subst y1 y2 y3
          have HK := Lib.hid hk
          have hT3 := HT2.out
          clear hk HC HBx C5 HT2 hn2 hn3 hn4
          rcases hT3 with ⟨h6, h45, h6a, h6b⟩ | h6 | h6
          · subst h6
            have u1 : ¬ (t5 < 0) := by omega
            have u2 : ¬ ((2 : Int) < t5) := by omega
            rcases h45 with h4 | h4
            · subst h4
              go_wp2_with fail
              go_roundg g2
              case measure => omega
              case rel => exact ⟨j + 1, by omega, by omega, by go_num, HK.out⟩
            · subst h4
              go_wp2_with fail
              go_roundg g2
              case measure => omega
              case rel => exact ⟨j + 1, by omega, by omega, by go_num, HK.out⟩
          · subst h6
            go_wp2_with fail
            go_roundg g2
            case measure => omega
            case rel => exact ⟨j + 1, by omega, by omega, by go_num, HK.out⟩
          · subst h6
            go_wp2_with fail
            go_roundg g2
            case measure => omega
            case rel => exact ⟨j + 1, by omega, by omega, by go_num, HK.out⟩
        | succ g3 =>
          have hiz : (i : Int) < (s.size : Int) := by omega
          have hi : i < s.size := by omega
          have hwj : IntKind.i64.wrap ((i : Int) + 1) = (i : Int) + 1 := by rw [IntKind.wrap_i64]; have := H4.out; omega
          obtain ⟨z1, z2⟩ := H5.out i hi
          have z3 : ¬ (((s[i]'hi).toNat : Int) < 97) := by omega
          have z4 : ¬ ((122 : Int) < ((s[i]'hi).toNat : Int)) := by omega
          go_wp2_with fail
          go_roundg g3
          case measure => omega
          case rel => exact ⟨i + 1, by omega, by go_num, HK.out⟩
end Go.Proofs.YtpbfbejckhbijaaGreatDoor
