/- The law of operands in the other order. -/
import Derived.Test.YtpbfbejckhbijaaGreatDoorPrL
import Derived.Deep.DeepCutAuto
import Derived.BigRegion
namespace Go.Proofs.YtpbfbejckhbijaaGreatDoor
open Go.RowKit

theorem sw_all : (List.range 41).all (fun p => (p < 15 || (32 < p && p != 37)) || ([1, 2] : List Int).all fun a => ([1, 2] : List Int).all fun b => ([0, 1, 2] : List Int).all fun c => ([0, 1, 2] : List Int).all fun d => decide (ftT p [a, b] [c, d] = ftT p [b, a] [d, c])) = true := by decide +kernel
theorem ta_all : ([1, 2] : List Int).all (fun a => ([1, 2] : List Int).all fun b => ([0, 1, 2] : List Int).all fun c => ([0, 1, 2] : List Int).all fun d => decide ((ftT 33 [a, b] [c, d]).2.2 ≠ 0 ∨ (ftT 38 [a, b] [c, d]).2.2 ≠ 0)) = true := by decide +kernel
theorem m2 {a : Int} (h : 1 ≤ a ∧ a ≤ 2) : a ∈ ([1, 2] : List Int) := by simp; omega
theorem m3 {a : Int} (h : 0 ≤ a ∧ a ≤ 2) : a ∈ ([0, 1, 2] : List Int) := by simp; omega
theorem sw_at {p : Nat} (hp : (15 ≤ p ∧ p ≤ 32) ∨ p = 37) {a b c d : Int} (ha : 1 ≤ a ∧ a ≤ 2) (hb : 1 ≤ b ∧ b ≤ 2) (hc : 0 ≤ c ∧ c ≤ 2) (hd : 0 ≤ d ∧ d ≤ 2) : ftT p [a, b] [c, d] = ftT p [b, a] [d, c] := by
  have h := List.all_eq_true.1 sw_all p (by simp; omega)
  have h0 : (decide (p < 15) || (decide (32 < p) && p != 37)) = false := by
    rcases hp with h | h
    · simp; omega
    · subst h; rfl
  rw [h0, Bool.false_or] at h
  exact of_decide_eq_true (List.all_eq_true.1 (List.all_eq_true.1 (List.all_eq_true.1 (List.all_eq_true.1 h _ (m2 ha)) _ (m2 hb)) _ (m3 hc)) _ (m3 hd))
theorem ta_at {a b c d : Int} (ha : 1 ≤ a ∧ a ≤ 2) (hb : 1 ≤ b ∧ b ≤ 2) (hc : 0 ≤ c ∧ c ≤ 2) (hd : 0 ≤ d ∧ d ≤ 2) : (ftT 33 [a, b] [c, d]).2.2 ≠ 0 ∨ (ftT 38 [a, b] [c, d]).2.2 ≠ 0 :=
  of_decide_eq_true (List.all_eq_true.1 (List.all_eq_true.1 (List.all_eq_true.1 (List.all_eq_true.1 ta_all _ (m2 ha)) _ (m2 hb)) _ (m3 hc)) _ (m3 hd))
/-- A slice of two ints, in a block of its own. -/
def Sl2 (W : World) (s : Value) (a b : Int) : Prop := ∃ g, s = .slice (some ⟨g, 0, none⟩) 2 2 ∧ W.heap[g]? = some (.cells #[.int .i64 a, .int .i64 b] 3 (0, 0))
theorem Sl2.next {W W' : World} {s : Value} {a b : Int} (h : Sl2 W s a b) (hb : Below W.heap.size W W') : Sl2 W' s a b := by
  obtain ⟨g, h1, h2⟩ := h
  exact ⟨g, h1, (hb.block g (Array.getElem?_eq_some_iff.1 h2).1).trans h2⟩
theorem Sl2.rd {W : World} {s : Value} {a b : Int} (h : Sl2 W s a b) : RdI W.heap.size W s [a, b] := by
  obtain ⟨g, rfl, h2⟩ := h
  exact rd_lit12 (l := [a, b]) rfl (by simp) h2
theorem Sl2.new (W : World) (a b : Int) : Sl2 (W.alloc (.cells #[.int .i64 a, .int .i64 b] 3)) (.slice (some ⟨W.heap.size, 0, none⟩) 2 2) a b := ⟨_, rfl, tab_new W _⟩
theorem Sl2.at {W : World} {g : Nat} {a b : Int} (h : W.heap[g]? = some (.cells #[.int .i64 a, .int .i64 b] 3 (0, 0))) : W.cell? ⟨g, 0, none⟩ = some (.int .i64 a) ∧ W.cell? ⟨g, 1, none⟩ = some (.int .i64 b) := by
  constructor <;> simp [World.cell?, h]
/-- Two slices of two ints. -/
def Cut12 (w : World) (a b c d : Int) (s t : Value) (W : World) : Prop := At12 w W ∧ Sl2 W s a b ∧ Sl2 W t c d
theorem Cut12.keep {w W W' : World} {a b c d : Int} {s t : Value} (h : Cut12 w a b c d s t W) (hb : Below W.heap.size W W') : Cut12 w a b c d s t W' := ⟨h.1.next hb, h.2.1.next hb, h.2.2.next hb⟩
theorem sl2_two (W : World) (a b c d : Int) : Sl2 ((W.alloc (.cells #[.int .i64 a, .int .i64 b] 3)).alloc (.cells #[.int .i64 c, .int .i64 d] 3)).drew (.slice (some ⟨W.heap.size, 0, none⟩) 2 2) a b ∧ Sl2 ((W.alloc (.cells #[.int .i64 a, .int .i64 b] 3)).alloc (.cells #[.int .i64 c, .int .i64 d] 3)).drew (.slice (some ⟨W.heap.size + 1, 0, none⟩) 2 2) c d := by
  have h1 := ((Sl2.new W a b).next (bel1 _ (.cells #[.int .i64 c, .int .i64 d] 3))).next (Below.refl _ _).drew
  have h2 := (Sl2.new (W.alloc (.cells #[.int .i64 a, .int .i64 b] 3)) c d).next (Below.refl _ _).drew
  rw [show (W.alloc (.cells #[.int .i64 a, .int .i64 b] 3)).heap.size = W.heap.size + 1 by simp] at h2
  exact ⟨h1, h2⟩
theorem cut12_ab {w W : World} (h : At12 w W) (a b c d : Int) : Cut12 w a b c d (.slice (some ⟨W.heap.size, 0, none⟩) 2 2) (.slice (some ⟨W.heap.size + 1, 0, none⟩) 2 2) ((W.alloc (.cells #[.int .i64 a, .int .i64 b] 3)).alloc (.cells #[.int .i64 c, .int .i64 d] 3)).drew :=
  ⟨((h.next (bel1 _ _)).next (bel1 _ _)).next (Below.refl _ _).drew, (sl2_two W a b c d).1, (sl2_two W a b c d).2⟩
theorem cut12_ba {w W : World} (h : At12 w W) (a b c d : Int) : Cut12 w a b c d (.slice (some ⟨W.heap.size + 1, 0, none⟩) 2 2) (.slice (some ⟨W.heap.size, 0, none⟩) 2 2) ((W.alloc (.cells #[.int .i64 c, .int .i64 d] 3)).alloc (.cells #[.int .i64 a, .int .i64 b] 3)).drew :=
  ⟨((h.next (bel1 _ _)).next (bel1 _ _)).next (Below.refl _ _).drew, (sl2_two W c d a b).2, (sl2_two W c d a b).1⟩
/-- The same, and two slices more, as the second cut leaves them. -/
def Cut24 (w : World) (a b c d : Int) (s t s' t' : Value) (W : World) : Prop := Cut12 w a b c d s t W ∧ Sl2 W s' b a ∧ Sl2 W t' d c
theorem Cut24.keep {w W W' : World} {a b c d : Int} {s t s' t' : Value} (h : Cut24 w a b c d s t s' t' W) (hb : Below W.heap.size W W') : Cut24 w a b c d s t s' t' W' := ⟨h.1.keep hb, h.2.1.next hb, h.2.2.next hb⟩
theorem Cut24.at12 {w W : World} {a b c d : Int} {s t s' t' : Value} (h : Cut24 w a b c d s t s' t' W) : At12 w W := h.1.1
theorem cut24_ab {w W : World} {a b c d : Int} {s t : Value} (h : Cut12 w a b c d s t W) : Cut24 w a b c d s t (.slice (some ⟨W.heap.size, 0, none⟩) 2 2) (.slice (some ⟨W.heap.size + 1, 0, none⟩) 2 2) ((W.alloc (.cells #[.int .i64 b, .int .i64 a] 3)).alloc (.cells #[.int .i64 d, .int .i64 c] 3)).drew :=
  ⟨((h.keep (bel1 _ _)).keep (bel1 _ _)).keep (Below.refl _ _).drew, (sl2_two W b a d c).1, (sl2_two W b a d c).2⟩
theorem cut24_ba {w W : World} {a b c d : Int} {s t : Value} (h : Cut12 w a b c d s t W) : Cut24 w a b c d s t (.slice (some ⟨W.heap.size + 1, 0, none⟩) 2 2) (.slice (some ⟨W.heap.size, 0, none⟩) 2 2) ((W.alloc (.cells #[.int .i64 d, .int .i64 c] 3)).alloc (.cells #[.int .i64 b, .int .i64 a] 3)).drew :=
  ⟨((h.keep (bel1 _ _)).keep (bel1 _ _)).keep (Below.refl _ _).drew, (sl2_two W d c b a).2, (sl2_two W d c b a).1⟩
theorem call1 {w W : World} {a b c d : Int} {s t s' t' : Value} {p : Int} {T : Int × Int × Int} (hT : ftT p [a, b] [c, d] = T) (h : Cut24 w a b c d s t s' t' W) : Calls Tryz.prog 21 #[.int .i64 p, s, t] W fun e w' => e = .returned (.tuple #[.int .i64 T.1, .int .i64 T.2.1, .int .i64 T.2.2]) ∧ Below W.heap.size W w' := by
  have h1 := fits_any p [a, b] [c, d] s t W h.1.2.1.rd h.1.2.2.rd
  rwa [hT] at h1
theorem call2 {w W : World} {a b c d : Int} {s t s' t' : Value} {p : Int} {T : Int × Int × Int} (hT : ftT p [b, a] [d, c] = T) (h : Cut24 w a b c d s t s' t' W) : Calls Tryz.prog 21 #[.int .i64 p, s', t'] W fun e w' => e = .returned (.tuple #[.int .i64 T.1, .int .i64 T.2.1, .int .i64 T.2.2]) ∧ Below W.heap.size W w' := by
  have h1 := fits_any p [b, a] [d, c] s' t' W h.2.1.rd h.2.2.rd
  rwa [hT] at h1
set_option maxRecDepth 100000 in
set_option maxHeartbeats 16000000 in
theorem law_swaps (x0 x1 x2 x3 : Int) (h0 : 0 ≤ x0 ∧ x0 ≤ 255) (h1 : 0 ≤ x1 ∧ x1 ≤ 255) (h2 : 0 ≤ x2 ∧ x2 ≤ 255) (h3 : 0 ≤ x3 ∧ x3 ≤ 255) (w : World) (hw : Ru.Lay w) :
    Calls Tryz.prog 10 #[.agg #[.int .u8 x0, .int .u8 x1, .int .u8 x2, .int .u8 x3]] w fun e w' => e = .returned (.bool true) ∧ Below w.heap.size w w' := by
  have HL := Lib.hid hw
  have HAw := Lib.hid (fun W h => awake12_any W h)
  have HFt := Lib.hid (fun p K R u v W h1 h2 => fits_any p K R u v W h1 h2)
  clear hw
  obtain ⟨k0, hk0⟩ : ∃ k0, k0 = x0.tmod 2 := ⟨_, rfl⟩
  obtain ⟨k1, hk1⟩ : ∃ k1, k1 = x1.tmod 2 := ⟨_, rfl⟩
  obtain ⟨r0, hr0⟩ : ∃ r0, r0 = x2.tmod 3 := ⟨_, rfl⟩
  obtain ⟨r1, hr1⟩ : ∃ r1, r1 = x3.tmod 3 := ⟨_, rfl⟩
  have b0 : 0 ≤ k0 ∧ k0 ≤ 1 := by rw [hk0, Int.tmod_eq_emod_of_nonneg h0.1]; omega
  have b1 : 0 ≤ k1 ∧ k1 ≤ 1 := by rw [hk1, Int.tmod_eq_emod_of_nonneg h1.1]; omega
  have b2 : 0 ≤ r0 ∧ r0 ≤ 2 := by rw [hr0, Int.tmod_eq_emod_of_nonneg h2.1]; omega
  have b3 : 0 ≤ r1 ∧ r1 ≤ 2 := by rw [hr1, Int.tmod_eq_emod_of_nonneg h3.1]; omega
  have t0 := hk0.symm; have t1 := hk1.symm; have t2 := hr0.symm; have t3 := hr1.symm
  clear hk0 hk1 hr0 hr1
  have wa : ∀ z, 0 ≤ z ∧ z ≤ 2 → IntKind.u8.wrap z = z := fun z hz => by rw [IntKind.wrap_u8]; omega
  have wb : ∀ z, 0 ≤ z ∧ z ≤ 3 → IntKind.i64.wrap z = z := fun z hz => by rw [IntKind.wrap_i64]; omega
  have a0 := wa k0 (by omega); have a1 := wa k1 (by omega); have a2 := wa r0 b2; have a3 := wa r1 b3
  have d0 := wb k0 (by omega); have d1 := wb k1 (by omega); have d2 := wb r0 (by omega); have d3 := wb r1 (by omega)
  have e0 := wb (k0 + 1) (by omega); have e1 := wb (k1 + 1) (by omega)
  clear wa wb
  go_enter Tryz.func10, Tryz.ntmps10
  go_upto_region 1 with fail
  have HA := Lib.hid (show At12 w (w.alloc (.cells #[.int .u8 x0, .int .u8 x1, .int .u8 x2, .int .u8 x3] 50)) from bel1 _ _)
  have HX := Lib.hid (tab_new w (.cells #[.int .u8 x0, .int .u8 x1, .int .u8 x2, .int .u8 x3] 50))
  obtain ⟨gx, hgx⟩ : ∃ gx, gx = w.heap.size := ⟨_, rfl⟩
  rw [← hgx] at HX ⊢
  clear hgx
  generalize w.alloc _ = W1 at HA HX ⊢
  have c0 : W1.cell? ⟨gx, 0, none⟩ = some (.int .u8 x0) := by have := HX.out; simp [World.cell?, this]
  have c1 : W1.cell? ⟨gx, 1, none⟩ = some (.int .u8 x1) := by have := HX.out; simp [World.cell?, this]
  have c2 : W1.cell? ⟨gx, 2, none⟩ = some (.int .u8 x2) := by have := HX.out; simp [World.cell?, this]
  have c3 : W1.cell? ⟨gx, 3, none⟩ = some (.int .u8 x3) := by have := HX.out; simp [World.cell?, this]
  have hgx : gx < W1.heap.size := (Array.getElem?_eq_some_iff.1 HX.out).1
  have g0 : ∀ o, (W1.alloc o).cell? ⟨gx, 0, none⟩ = some (.int .u8 x0) := fun o => ((bel1 W1 o).cell (p := ⟨gx, 0, none⟩) hgx).trans c0
  have g1 : ∀ o, (W1.alloc o).cell? ⟨gx, 1, none⟩ = some (.int .u8 x1) := fun o => ((bel1 W1 o).cell (p := ⟨gx, 1, none⟩) hgx).trans c1
  have g2 : ∀ o, (W1.alloc o).cell? ⟨gx, 2, none⟩ = some (.int .u8 x2) := fun o => ((bel1 W1 o).cell (p := ⟨gx, 2, none⟩) hgx).trans c2
  have g3 : ∀ o, (W1.alloc o).cell? ⟨gx, 3, none⟩ = some (.int .u8 x3) := fun o => ((bel1 W1 o).cell (p := ⟨gx, 3, none⟩) hgx).trans c3
  clear hgx
  go_cut [3, 4] (fun s3 s4 wx => Cut12 w (k0 + 1) (k1 + 1) r0 r1 s3 s4 wx)
  case first =>
    go_region
    all_goals (go_wp2_with fail; go_meet; case rel => first | exact cut12_ab HA.out _ _ _ _ | exact cut12_ba HA.out _ _ _ _)
  have HK := Lib.hid hcut
  clear hcut g0 g1 g2 g3 c0 c1 c2 c3 HX HA
  have A0 : 1 ≤ k0 + 1 ∧ k0 + 1 ≤ 2 := by omega
  have A1 : 1 ≤ k1 + 1 ∧ k1 + 1 ≤ 2 := by omega
  have HS : Hid (∀ p : Nat, ((15 ≤ p ∧ p ≤ 32) ∨ p = 37) → ftT p [k1 + 1, k0 + 1] [r1, r0] = ftT p [k0 + 1, k1 + 1] [r0, r1]) := fun p hp => (sw_at hp A0 A1 b2 b3).symm
  have HTa := Lib.hid (ta_at A0 A1 b2 b3)
  clear a0 a1 a2 a3 d0 d1 d2 d3 e0 e1 t0 t1 t2 t3 b0 b1 b2 b3 A0 A1 HFt
  generalize k0 + 1 = a at HK HS HTa
  generalize k1 + 1 = b at HK HS HTa
  generalize r0 = c at HK HS HTa
  generalize r1 = d at HK HS HTa
  obtain ⟨g3, hg3, hh3⟩ := HK.out.2.1
  obtain ⟨g4, hg4, hh4⟩ := HK.out.2.2
  subst hg3 hg4
  obtain ⟨c0, c1⟩ := Sl2.at hh3
  obtain ⟨c2, c3⟩ := Sl2.at hh4
  have l3 := (Array.getElem?_eq_some_iff.1 hh3).1
  have l4 := (Array.getElem?_eq_some_iff.1 hh4).1
  have f0 : ∀ o, (wc.alloc o).cell? ⟨g3, 0, none⟩ = some (.int .i64 a) := fun o => ((bel1 wc o).cell (p := ⟨g3, 0, none⟩) l3).trans c0
  have f1 : ∀ o, (wc.alloc o).cell? ⟨g3, 1, none⟩ = some (.int .i64 b) := fun o => ((bel1 wc o).cell (p := ⟨g3, 1, none⟩) l3).trans c1
  have f2 : ∀ o, (wc.alloc o).cell? ⟨g4, 0, none⟩ = some (.int .i64 c) := fun o => ((bel1 wc o).cell (p := ⟨g4, 0, none⟩) l4).trans c2
  have f3 : ∀ o, (wc.alloc o).cell? ⟨g4, 1, none⟩ = some (.int .i64 d) := fun o => ((bel1 wc o).cell (p := ⟨g4, 1, none⟩) l4).trans c3
  clear l3 l4 hh3 hh4
  obtain ⟨W2, hW2⟩ : ∃ W2, W2 = wc := ⟨_, rfl⟩
  subst hW2
  go_upto_region 2 with fail
  go_cut [5, 6] (fun s5 s6 wx => Cut24 w a b c d (.slice (some ⟨g3, 0, none⟩) 2 2) (.slice (some ⟨g4, 0, none⟩) 2 2) s5 s6 wx)
  case first =>
    go_region
    all_goals (go_wp2_with fail; go_meet; case rel => first | exact cut24_ab HK.out | exact cut24_ba HK.out)
  clear HK f0 f1 f2 f3 c0 c1 c2 c3
  have HK := Lib.hid hcut
  clear hcut
  go_wp2_with fail
  go_loopg [7, 8, 9, 10, 11, 12, 13] 18 (fun gk q7 s8 s9 s10 s11 s12 s13 wr => ∃ (j : Nat), j + gk = 33 ∧ 15 ≤ j ∧ q7 = .int .i64 j ∧ Cut24 w a b c d (.slice (some ⟨g3, 0, none⟩) 2 2) (.slice (some ⟨g4, 0, none⟩) 2 2) u5 u6 wr)
  case atStart => exact ⟨15, by omega, by omega, rfl, HK.out⟩
  case round =>
    obtain ⟨j, hjg, hj15, rfl, hk⟩ := hrel
    clear HK
    have HK := Lib.hid hk
    clear hk
    cases gk with
    | zero =>
      have hjz : ¬ ((j : Int) ≤ 32) := by omega
      have hS := HS.out 37 (.inr rfl)
      obtain ⟨T, hT⟩ : ∃ T, T = ftT (37 : Nat) [a, b] [c, d] := ⟨_, rfl⟩
      rw [← hT] at hS
      have C1 : Hid (∀ W, Cut24 w a b c d (.slice (some ⟨g3, 0, none⟩) 2 2) (.slice (some ⟨g4, 0, none⟩) 2 2) u5 u6 W → Calls Tryz.prog 21 #[.int .i64 37, .slice (some ⟨g3, 0, none⟩) 2 2, .slice (some ⟨g4, 0, none⟩) 2 2] W fun e w' => e = .returned (.tuple #[.int .i64 T.1, .int .i64 T.2.1, .int .i64 T.2.2]) ∧ Below W.heap.size W w') := fun W h => call1 hT.symm h
      have C2 : Hid (∀ W, Cut24 w a b c d (.slice (some ⟨g3, 0, none⟩) 2 2) (.slice (some ⟨g4, 0, none⟩) 2 2) u5 u6 W → Calls Tryz.prog 21 #[.int .i64 37, u5, u6] W fun e w' => e = .returned (.tuple #[.int .i64 T.1, .int .i64 T.2.1, .int .i64 T.2.2]) ∧ Below W.heap.size W w') := fun W h => call2 hS h
      obtain ⟨U, hU⟩ : ∃ U, U = ftT 33 [a, b] [c, d] := ⟨_, rfl⟩
      obtain ⟨V, hV⟩ : ∃ V, V = ftT 38 [a, b] [c, d] := ⟨_, rfl⟩
      have C3 : Hid (∀ W, Cut24 w a b c d (.slice (some ⟨g3, 0, none⟩) 2 2) (.slice (some ⟨g4, 0, none⟩) 2 2) u5 u6 W → Calls Tryz.prog 21 #[.int .i64 33, .slice (some ⟨g3, 0, none⟩) 2 2, .slice (some ⟨g4, 0, none⟩) 2 2] W fun e w' => e = .returned (.tuple #[.int .i64 U.1, .int .i64 U.2.1, .int .i64 U.2.2]) ∧ Below W.heap.size W w') := fun W h => call1 hU.symm h
      have C4 : Hid (∀ W, Cut24 w a b c d (.slice (some ⟨g3, 0, none⟩) 2 2) (.slice (some ⟨g4, 0, none⟩) 2 2) u5 u6 W → Calls Tryz.prog 21 #[.int .i64 38, .slice (some ⟨g3, 0, none⟩) 2 2, .slice (some ⟨g4, 0, none⟩) 2 2] W fun e w' => e = .returned (.tuple #[.int .i64 V.1, .int .i64 V.2.1, .int .i64 V.2.2]) ∧ Below W.heap.size W w') := fun W h => call1 hV.symm h
      have hta := HTa.out
      rw [← hU, ← hV] at hta
      clear hT hU hV hS HS HTa
      generalize T.1 = z1 at C1 C2
      generalize T.2.1 = z2 at C1 C2
      generalize T.2.2 = z3 at C1 C2
      generalize U.1 = z4 at C3
      generalize U.2.1 = z5 at C3
      generalize U.2.2 = z6 at C3 hta
      generalize V.1 = z7 at C4
      generalize V.2.1 = z8 at C4
      generalize V.2.2 = z9 at C4 hta
      have q1 : (z1 != z1) = false := by simp
      have q2 : (z2 != z2) = false := by simp
      have q3 : (z3 != z3) = false := by simp
      by_cases hz6 : z6 = 0
      · have hz9 : z9 ≠ 0 := by rcases hta with h | h
                                · exact absurd hz6 h
                                · exact h
        have q9 : (z9 != 0) = true := by simpa using hz9
        have q6 : (z6 != 0) = false := by simpa using hz6
        clear hta hz6 hz9
        go_wp2_with (first | (go_at_call 21; (with_reducible refine (C1.out _ HK.out).mono ?_); rintro e wf1 ⟨rfl, hb⟩; have HK2 := Lib.hid (HK.out.keep hb); clear HK hb; have HK := HK2; clear HK2) | (go_at_call 21; (with_reducible refine (C2.out _ HK.out).mono ?_); rintro e wf2 ⟨rfl, hb⟩; have HK2 := Lib.hid (HK.out.keep hb); clear HK hb; have HK := HK2; clear HK2) | (go_at_call 21; (with_reducible refine (C3.out _ HK.out).mono ?_); rintro e wf3 ⟨rfl, hb⟩; have HK2 := Lib.hid (HK.out.keep hb); clear HK hb; have HK := HK2; clear HK2) | (go_at_call 21; (with_reducible refine (C4.out _ HK.out).mono ?_); rintro e wf4 ⟨rfl, hb⟩; have HK2 := Lib.hid (HK.out.keep hb); clear HK hb; have HK := HK2; clear HK2) | (go_at_call 11; (with_reducible refine (HAw.out _ (HL.out.next HK.out.at12)).mono ?_); rintro e wa ⟨rfl, hb⟩; have HB := Lib.hid (At12.next HK.out.at12 hb); clear hb) | fail)
        go_ret
        exact ⟨rfl, HB.out⟩
      · have q6 : (z6 != 0) = true := by simpa using hz6
        clear hta hz6
        go_wp2_with (first | (go_at_call 21; (with_reducible refine (C1.out _ HK.out).mono ?_); rintro e wf1 ⟨rfl, hb⟩; have HK2 := Lib.hid (HK.out.keep hb); clear HK hb; have HK := HK2; clear HK2) | (go_at_call 21; (with_reducible refine (C2.out _ HK.out).mono ?_); rintro e wf2 ⟨rfl, hb⟩; have HK2 := Lib.hid (HK.out.keep hb); clear HK hb; have HK := HK2; clear HK2) | (go_at_call 21; (with_reducible refine (C3.out _ HK.out).mono ?_); rintro e wf3 ⟨rfl, hb⟩; have HK2 := Lib.hid (HK.out.keep hb); clear HK hb; have HK := HK2; clear HK2) | (go_at_call 21; (with_reducible refine (C4.out _ HK.out).mono ?_); rintro e wf4 ⟨rfl, hb⟩; have HK2 := Lib.hid (HK.out.keep hb); clear HK hb; have HK := HK2; clear HK2) | (go_at_call 11; (with_reducible refine (HAw.out _ (HL.out.next HK.out.at12)).mono ?_); rintro e wa ⟨rfl, hb⟩; have HB := Lib.hid (At12.next HK.out.at12 hb); clear hb) | fail)
        go_ret
        exact ⟨rfl, HB.out⟩
    | succ g2 =>
      have hjz : (j : Int) ≤ 32 := by omega
      have hwi : IntKind.i64.wrap ((j : Int) + 1) = (j : Int) + 1 := by rw [IntKind.wrap_i64]; omega
      have hS := HS.out j (.inl ⟨hj15, by omega⟩)
      obtain ⟨T, hT⟩ : ∃ T, T = ftT (j : Nat) [a, b] [c, d] := ⟨_, rfl⟩
      rw [← hT] at hS
      have C1 : Hid (∀ W, Cut24 w a b c d (.slice (some ⟨g3, 0, none⟩) 2 2) (.slice (some ⟨g4, 0, none⟩) 2 2) u5 u6 W → Calls Tryz.prog 21 #[.int .i64 j, .slice (some ⟨g3, 0, none⟩) 2 2, .slice (some ⟨g4, 0, none⟩) 2 2] W fun e w' => e = .returned (.tuple #[.int .i64 T.1, .int .i64 T.2.1, .int .i64 T.2.2]) ∧ Below W.heap.size W w') := fun W h => call1 hT.symm h
      have C2 : Hid (∀ W, Cut24 w a b c d (.slice (some ⟨g3, 0, none⟩) 2 2) (.slice (some ⟨g4, 0, none⟩) 2 2) u5 u6 W → Calls Tryz.prog 21 #[.int .i64 j, u5, u6] W fun e w' => e = .returned (.tuple #[.int .i64 T.1, .int .i64 T.2.1, .int .i64 T.2.2]) ∧ Below W.heap.size W w') := fun W h => call2 hS h
      clear hT hS
      generalize T.1 = z1 at C1 C2
      generalize T.2.1 = z2 at C1 C2
      generalize T.2.2 = z3 at C1 C2
      have q1 : (z1 != z1) = false := by simp
      have q2 : (z2 != z2) = false := by simp
      have q3 : (z3 != z3) = false := by simp
      go_wp2_with (first | (go_at_call 21; (with_reducible refine (C1.out _ HK.out).mono ?_); rintro e wf1 ⟨rfl, hb⟩; have HK2 := Lib.hid (HK.out.keep hb); clear HK hb; have HK := HK2; clear HK2) | (go_at_call 21; (with_reducible refine (C2.out _ HK.out).mono ?_); rintro e wf2 ⟨rfl, hb⟩; have HK2 := Lib.hid (HK.out.keep hb); clear HK hb; have HK := HK2; clear HK2) | fail)
      go_roundg g2
      case measure => omega
      case rel => exact ⟨j + 1, by omega, by omega, by go_num, HK.out⟩
end Go.Proofs.YtpbfbejckhbijaaGreatDoor
