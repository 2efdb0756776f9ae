/- Fits of the code. -/
import Derived.Test.YtpbfbejckhbijaaGreatDoorPrI
namespace Go.Proofs.YtpbfbejckhbijaaGreatDoor
open Go.RowKit

/-- The ways in which operands of a primitive fit. -/
def ways (p : Nat) : List (List Int × List Int) := rdF (bys12 (ftB p))
def okL (n : Nat) (l : List Int) : Bool := l.length == n + 1 && l.all fun c => decide (0 ≤ c) && decide (c < 128)
def okW (p : Nat) : Bool := decide ((ftB p).size ≤ 1000) && (bys12 (ftB p)).all (fun c => decide (c < 128)) && decide ((ways p).length ≤ 100) && (ways p).all fun f => okL (if p ≤ 14 then 1 else 2) f.1 && okL (if p ≤ 14 then 1 else 2) f.2
theorem okW_all : (List.range 41).all (fun p => p == 0 || okW p) = true := by decide +kernel
theorem okW_at {p : Nat} (h1 : 1 ≤ p) (h2 : p ≤ 40) : okW p = true := by
  have h := List.all_eq_true.1 okW_all p (by simp; omega)
  have h0 : (p == 0) = false := by simp; omega
  rwa [h0, Bool.false_or] at h
theorem okL_at {n : Nat} {l : List Int} (h : okL n l = true) : l.length = n + 1 ∧ ∀ c ∈ l, 0 ≤ c ∧ c < 128 := by
  unfold okL at h
  rw [Bool.and_eq_true] at h
  refine ⟨by simpa using h.1, fun c hc => ?_⟩
  simpa using List.all_eq_true.1 h.2 c hc
theorem ft_ascii {p : Nat} (h1 : 1 ≤ p) (h2 : p ≤ 40) : (∀ i (h : i < (ftB p).size), ((ftB p)[i]'h).toNat < 128) ∧ (ftB p).size ≤ 1000 := by
  have h := okW_at h1 h2
  unfold okW at h
  simp only [Bool.and_eq_true, decide_eq_true_eq] at h
  refine ⟨fun i hi => ?_, h.1.1.1⟩
  have h3 := List.all_eq_true.1 h.1.1.2 _ (List.getElem_mem (show i < (bys12 (ftB p)).length by rw [bys12_len]; exact hi))
  rw [bys12_at _ i hi] at h3
  have h4 := of_decide_eq_true h3
  omega
theorem ways_ok {p : Nat} (h1 : 1 ≤ p) (h2 : p ≤ 40) : (ways p).length ≤ 100 ∧ ∀ j (h : j < (ways p).length), (((ways p)[j]).1.length = (if p ≤ 14 then 1 else 2) + 1 ∧ ∀ c ∈ ((ways p)[j]).1, 0 ≤ c ∧ c < 128) ∧ (((ways p)[j]).2.length = (if p ≤ 14 then 1 else 2) + 1 ∧ ∀ c ∈ ((ways p)[j]).2, 0 ≤ c ∧ c < 128) := by
  have h := okW_at h1 h2
  unfold okW at h
  simp only [Bool.and_eq_true, decide_eq_true_eq] at h
  refine ⟨h.1.2, fun j hj => ?_⟩
  have h3 := List.all_eq_true.1 h.2 _ (List.getElem_mem hj)
  rw [Bool.and_eq_true] at h3
  exact ⟨okL_at h3.1, okL_at h3.2⟩
theorem flat12_at : ∀ (vals : List (Value × Value)) (j : Nat) (h : j < vals.length), (flat12 vals)[j * 2]? = some vals[j].1 ∧ (flat12 vals)[j * 2 + 1]? = some vals[j].2
  | [], j, h => absurd h (by simp)
  | x :: r, 0, _ => ⟨rfl, rfl⟩
  | x :: r, j + 1, h => by
    have h2 := flat12_at r j (by simpa using h)
    have e : flat12 (x :: r) = x.1 :: x.2 :: flat12 r := rfl
    rw [e, show (j + 1) * 2 = j * 2 + 1 + 1 by omega]
    simpa using h2
theorem FitW.next {W W' : World} {v : Value} {L : List (List Int × List Int)} (h : FitW W v L) (hb : Below W.heap.size W W') : FitW W' v L := by
  obtain ⟨vals, h1, h2, h3⟩ := h
  have key : ∀ (E : TypeId) (b n sz : Nat) (v : Value) (xs : List Value), W.ownsRow b E sz v n xs → W'.ownsRow b E sz v n xs := fun E b n sz v xs h => own_move h fun g e => by
    obtain ⟨_, _, hb2, hl⟩ := own_blk h e
    exact ⟨hb.block g hl, hb2⟩
  exact ⟨vals, key _ _ _ _ _ _ h1, h2, fun i i1 i2 => ⟨key _ _ _ _ _ _ (h3 i i1 i2).1, key _ _ _ _ _ _ (h3 i i1 i2).2⟩⟩
theorem FitW.cells {W : World} {a : Option Addr} {n c : Nat} {L : List (List Int × List Int)} (h : FitW W (.slice a n c) L) (j : Nat) (hj : j < L.length) :
    ∃ g vk vr, a = some ⟨g, 0, none⟩ ∧ W.cell? ⟨g, j * 2, none⟩ = some vk ∧ W.cell? ⟨g, j * 2 + 1, none⟩ = some vr ∧ g < W.heap.size ∧ RdL12 W.heap.size W vk (L[j]).1 ∧ RdL12 W.heap.size W vr (L[j]).2 := by
  obtain ⟨vals, h1, h2, h3⟩ := h
  have hjv : j < vals.length := by omega
  rcases own_form h1 with ⟨_, _, e⟩
  rcases id h1.2 with ⟨_, h0⟩ | ⟨g, cap, cur, e2, hg, hh, _⟩
  · omega
  · cases e2
    obtain ⟨f1, f2⟩ := flat12_at vals j hjv
    exact ⟨g, _, _, rfl, (World.ownsRow.cellAt h1 (j * 2) (by omega)).trans f1, (World.ownsRow.cellAt h1 (j * 2 + 1) (by omega)).trans f2, (Array.getElem?_eq_some_iff.1 hh).1, rwR_rdL (h3 j hjv hj).1, rwR_rdL (h3 j hjv hj).2⟩
theorem FitW.form {W : World} {v : Value} {L : List (List Int × List Int)} (h : FitW W v L) : ∃ a c, v = .slice a L.length c := by
  obtain ⟨vals, h1, _⟩ := h
  exact own_form h1

/-! What fits. -/
def ftW (K R : List Int) : List (List Int × List Int) → Int → Int × Int × Int
  | [], e => (0, 0, e)
  | f :: L, e => if (lsF 1 2 env0 f.1 K).isSome && (lsF 0 2 env0 f.2 R).isSome then ((lsF 1 2 env0 f.1 K).getD 0, (lsF 0 2 env0 f.2 R).getD 0, 0) else if (lsF 1 2 env0 f.1 K).isSome then ftW K R L 22 else ftW K R L e
def ftT (p : Int) (K R : List Int) : Int × Int × Int :=
  if p < 1 ∨ 40 < p then (0, 0, 2) else if (K.length : Int) ≠ arN p ∨ (R.length : Int) ≠ arN p then (0, 0, 23) else ftW K R (ways p.toNat) 21
def v3 (t : Int × Int × Int) : Value := .tuple #[.int .i64 t.1, .int .i64 t.2.1, .int .i64 t.2.2]
theorem lsV_eq (x : Option Int) : lsV x = .tuple #[.int .i64 (x.getD 0), .bool x.isSome] := by cases x <;> rfl
theorem ftW_cons (K R : List Int) (f : List Int × List Int) (L : List (List Int × List Int)) (e : Int) : ftW K R (f :: L) e = if (lsF 1 2 env0 f.1 K).isSome && (lsF 0 2 env0 f.2 R).isSome then ((lsF 1 2 env0 f.1 K).getD 0, (lsF 0 2 env0 f.2 R).getD 0, 0) else if (lsF 1 2 env0 f.1 K).isSome then ftW K R L 22 else ftW K R L e := rfl
set_option maxRecDepth 100000 in
set_option maxHeartbeats 16000000 in
theorem fits_ok (q : Nat) (h1 : 1 ≤ q) (h2 : q ≤ 40) (K R : List Int) (u v : Value) (w : World) (hu : RdI w.heap.size w u K) (hv : RdI w.heap.size w v R) (hK : (K.length : Int) = arN q) (hR : (R.length : Int) = arN q) :
    Calls Tryz.prog 21 #[.int .i64 q, u, v] w fun e w' => e = .returned (v3 (ftW K R (ways q) 21)) ∧ Below w.heap.size w w' := by
  have HR := Lib.hid (fun W => rowOf_ok q W h1 h2)
  have HA : Hid (∀ W, Calls Tryz.prog 16 #[.int .i64 q] W fun e w' => e = .returned (.tuple #[.int .i64 (K.length : Int), .int .i64 0]) ∧ w' = W) := fun W => by
    have h3 := arity_any q W
    rwa [show arE q = 0 from if_neg (by omega), ← hK] at h3
  have HRd : Hid (∀ W, Calls Tryz.prog 35 #[.string (ftB q)] W fun e w' => ∃ v, e = .returned v ∧ FitW w' v (ways q) ∧ Below W.heap.size W w') := fun W => read_any (ftB q) (ft_ascii h1 h2).1 (ft_ascii h1 h2).2 W
  have hn : ((if q ≤ 14 then 1 else 2 : Nat) : Int) = arN q := by
    unfold arN
    rw [if_neg (show ¬ ((q : Int) < 1 ∨ 40 < (q : Int)) by omega)]
    by_cases h : q ≤ 14
    · rw [if_pos h, if_pos (by omega)]; rfl
    · rw [if_neg h, if_neg (by omega)]; rfl
  have hw := ways_ok h1 h2
  rw [show (if q ≤ 14 then 1 else 2 : Nat) = K.length by omega] at hw
  have HW := Lib.hid hw
  have hRl : R.length = K.length := by omega
  have hKl : K.length ≤ 2 := by
    have : (if q ≤ 14 then 1 else 2 : Nat) ≤ 2 := by split <;> omega
    omega
  have HRl := Lib.hid hRl
  have hff := fun_forms q (by omega)
  have HU := Lib.hid hu
  have HV := Lib.hid hv
  obtain ⟨pu, cu, hpu, _⟩ := hu
  obtain ⟨pv, cv, hpv, _⟩ := hv
  subst hpu hpv
  rw [hRl] at HV ⊢
  clear hRl
  obtain ⟨X, hX⟩ : ∃ X, X = ftW K R (ways q) 21 := ⟨_, rfl⟩
  rw [← hX]
  have HX := Lib.hid hX
  clear hX hw hn hK hR
  generalize ways q = L at HRd HW HX
  unfold rowC at HR
  generalize ftB q = s2 at HR HRd ⊢
  have hff := fun_forms q (by omega)
  generalize nmB q = s1 at HR ⊢
  generalize e0P q = x0 at HR ⊢
  generalize e1P q = x1 at HR ⊢
  generalize e2P q = x2 at HR ⊢
  generalize f1P q = g1 at HR hff ⊢
  generalize f2P q = g2 at HR hff ⊢
  rcases hff with ⟨rfl, rfl⟩ | ⟨k9, rfl, rfl⟩ | ⟨k9, rfl, rfl⟩
  · go_enter Tryz.func21, Tryz.ntmps21
    go_wp2_with (first | (go_at_call 33; refine (HR.out _).mono ?_; rintro e w1 ⟨rfl, hb⟩; have HB1 := Lib.hid (hb.trans ((bel1 w1 (.cells #[.string s1, .string s2, .int .i64 x0, .int .i64 x1, .int .i64 x2, .nilFunc, .nilFunc] 61)).mono hb.size)); clear hb) | (go_at_call 16; refine (HA.out _).mono ?_; rintro e w2 ⟨rfl, rfl⟩) | (go_at_call 35; refine (HRd.out _).mono ?_; rintro e w3 ⟨v9, rfl, hf, hb⟩; have HB2 := Lib.hid (HB1.out.trans (hb.mono HB1.out.size)); obtain ⟨pf, cf, hv9⟩ := hf.form; subst hv9; have HF := Lib.hid hf; clear hf hb) | fail)
    clear HR HA HRd HB1
    have hLl : L.length ≤ 100 := HW.out.1
    go_loopg [8, 13, 14, 15, 16, 17, 45, 63, 70] L.length (fun gk s8 s13 s14 s15 s16 s17 q45 s63 s70 wr => ∃ (j : Nat) (e0 : Int), j + gk = L.length ∧ s8 = .int .i64 e0 ∧ q45 = .int .i64 j ∧ Below w.heap.size w wr ∧ FitW wr (.slice pf L.length cf) L ∧ X = ftW K R (L.drop j) e0)
    case atStart => exact ⟨0, 21, by omega, rfl, rfl, HB2.out, HF.out, HX.out⟩
    case round =>
      obtain ⟨j, e0, hjg, rfl, rfl, hb, hf, hx⟩ := hrel
      clear HB2 HF HX
      have HB := Lib.hid hb
      have HF := Lib.hid hf
      clear hb hf
      cases gk with
      | zero =>
        have hjz : ¬ ((j : Int) < (L.length : Int)) := by omega
        have hx2 : X = (0, 0, e0) := by rw [hx, show j = L.length by omega, List.drop_length]; rfl
        have HX := Lib.hid hx2
        clear hx hx2
        go_wp2_with fail
        refine bodyPost_ret (v := v3 (0, 0, e0)) (by simp [v3, results, Tryz.results21, go_sem]) rfl ⟨by rw [HX.out], HB.out⟩
      | succ g2 =>
        have hjz : (j : Int) < (L.length : Int) := by omega
        have hj : j < L.length := by omega
        have hwi : IntKind.i64.wrap ((j : Int) + 1) = (j : Int) + 1 := by rw [IntKind.wrap_i64]; omega
        obtain ⟨g, vk, vr, hpf, hc0, hc1, hlt, hk, hr⟩ := HF.out.cells j hj
        subst hpf
        have hx2 := hx
        rw [List.drop_eq_getElem_cons hj, ftW_cons] at hx2
        have hw2 := HW.out.2 j hj
        have HC1 : Hid (∀ W, RdL12 W.heap.size W vk (L[j]).1 → RdI W.heap.size W (.slice pu K.length cu) K → Calls Tryz.prog 36 #[vk, .slice pu K.length cu, .int .i64 1, .int .i64 2] W fun e w' => e = .returned (.tuple #[.int .i64 ((lsF 1 2 env0 (L[j]).1 K).getD 0), .bool (lsF 1 2 env0 (L[j]).1 K).isSome]) ∧ Below W.heap.size W w') := fun W a1 a2 => by
          have h := last_any (L[j]).1 K 1 2 vk (.slice pu K.length cu) W a1 a2 (by omega) (by omega) hw2.1.2 (by omega)
          rwa [lsV_eq] at h
        have HC2 : Hid (∀ W, RdL12 W.heap.size W vr (L[j]).2 → RdI W.heap.size W (.slice pv K.length cv) R → Calls Tryz.prog 36 #[vr, .slice pv K.length cv, .int .i64 0, .int .i64 2] W fun e w' => e = .returned (.tuple #[.int .i64 ((lsF 0 2 env0 (L[j]).2 R).getD 0), .bool (lsF 0 2 env0 (L[j]).2 R).isSome]) ∧ Below W.heap.size W w') := fun W a1 a2 => by
          have h := last_any (L[j]).2 R 0 2 vr (.slice pv K.length cv) W a1 a2 (by have := HRl.out; omega) (by omega) hw2.2.2 (by omega)
          rwa [lsV_eq] at h
        generalize (lsF 1 2 env0 (L[j]).1 K).getD 0 = a1 at HC1 hx2
        generalize (lsF 1 2 env0 (L[j]).1 K).isSome = b1 at HC1 hx2
        generalize (lsF 0 2 env0 (L[j]).2 R).getD 0 = a2 at HC2 hx2
        generalize (lsF 0 2 env0 (L[j]).2 R).isSome = b2 at HC2 hx2
        have HX := Lib.hid hx2
        have hk0 := hk
        have hr0 := hr
        obtain ⟨ak, ck9, hvk, _⟩ := hk0
        obtain ⟨ar, cr9, hvr, _⟩ := hr0
        subst hvk hvr
        clear hx hx2 hw2
        generalize (L[j]).1 = l1 at HC1 hk hc0
        generalize (L[j]).2 = l2 at HC2 hr hc1
        have HK := Lib.hid hk
        have HR2 := Lib.hid hr
        clear hk hr
        have hbw : wr.heap.size < (wr.alloc (.cells #[.slice ak l1.length ck9, .slice ar l2.length cr9] 72)).heap.size := by simp
        have hS1 : (wr.alloc (.cells #[.slice ak l1.length ck9, .slice ar l2.length cr9] 72)).cell? ⟨wr.heap.size, 1, none⟩ = some (.slice ar l2.length cr9) := blk_cell (tab_new wr _) (j := 1) (by simp)
        have HBx := Lib.hid (bel1 wr (.cells #[.slice ak l1.length ck9, .slice ar l2.length cr9] 72))
        have HQ1 := Lib.hid (HK.out.next HBx.out)
        have HQ2 := Lib.hid (HR2.out.next HBx.out)
        have HQ3 := Lib.hid ((HU.out.next HB.out).next HBx.out)
        have HQ4 := Lib.hid ((HV.out.next HB.out).next HBx.out)
        have HQ5 := Lib.hid (HF.out.next HBx.out)
        have HQ6 := Lib.hid (HB.out.trans (HBx.out.mono HB.out.size))
        have HS1 := Lib.hid (And.intro hS1 hbw)
        clear hS1 hbw HK HR2 HBx
        have hwl : w.heap.size ≤ wr.heap.size := HB.out.size
        generalize hB1 : wr.alloc (.cells #[.slice ak l1.length ck9, .slice ar l2.length cr9] 72) = B1 at HQ1 HQ2 HQ3 HQ4 HQ5 HQ6 HS1
        have HE := Lib.hid hB1
        clear hB1
        cases b1
        · go_wp2_with (first | (go_at_call 36; rw [HE.out]; refine (HC1.out _ HQ1.out HQ3.out).mono ?_; rintro e w4 ⟨rfl, hb4⟩; have HP2 := Lib.hid (HQ2.out.next hb4); have HP4 := Lib.hid (HQ4.out.next hb4); have HP5 := Lib.hid (HQ5.out.next hb4); have HP6 := Lib.hid (HQ6.out.trans (hb4.mono HQ6.out.size)); have y1 : w4.cell? ⟨wr.heap.size, 1, none⟩ = some (.slice ar l2.length cr9) := (hb4.cell (p := ⟨wr.heap.size, 1, none⟩) HS1.out.2).trans HS1.out.1; clear hb4) | (go_at_call 36; refine (HC2.out _ HP2.out HP4.out).mono ?_; rintro e w5 ⟨rfl, hb5⟩; have HF5 := Lib.hid (HP5.out.next hb5); have HB5 := Lib.hid (HP6.out.trans (hb5.mono HP6.out.size)); clear hb5) | fail)
          go_roundg g2
          case measure => omega
          case rel => exact ⟨j + 1, e0, by omega, rfl, by go_num, HB5.out, HF5.out, HX.out⟩ -- e0
        · cases b2
          · go_wp2_with (first | (go_at_call 36; rw [HE.out]; refine (HC1.out _ HQ1.out HQ3.out).mono ?_; rintro e w4 ⟨rfl, hb4⟩; have HP2 := Lib.hid (HQ2.out.next hb4); have HP4 := Lib.hid (HQ4.out.next hb4); have HP5 := Lib.hid (HQ5.out.next hb4); have HP6 := Lib.hid (HQ6.out.trans (hb4.mono HQ6.out.size)); have y1 : w4.cell? ⟨wr.heap.size, 1, none⟩ = some (.slice ar l2.length cr9) := (hb4.cell (p := ⟨wr.heap.size, 1, none⟩) HS1.out.2).trans HS1.out.1; clear hb4) | (go_at_call 36; refine (HC2.out _ HP2.out HP4.out).mono ?_; rintro e w5 ⟨rfl, hb5⟩; have HF5 := Lib.hid (HP5.out.next hb5); have HB5 := Lib.hid (HP6.out.trans (hb5.mono HP6.out.size)); clear hb5) | fail)
            go_roundg g2
            case measure => omega
            case rel => exact ⟨j + 1, 22, by omega, rfl, by go_num, HB5.out, HF5.out, HX.out⟩ -- 22
          · go_wp2_with (first | (go_at_call 36; rw [HE.out]; refine (HC1.out _ HQ1.out HQ3.out).mono ?_; rintro e w4 ⟨rfl, hb4⟩; have HP2 := Lib.hid (HQ2.out.next hb4); have HP4 := Lib.hid (HQ4.out.next hb4); have HP5 := Lib.hid (HQ5.out.next hb4); have HP6 := Lib.hid (HQ6.out.trans (hb4.mono HQ6.out.size)); have y1 : w4.cell? ⟨wr.heap.size, 1, none⟩ = some (.slice ar l2.length cr9) := (hb4.cell (p := ⟨wr.heap.size, 1, none⟩) HS1.out.2).trans HS1.out.1; clear hb4) | (go_at_call 36; refine (HC2.out _ HP2.out HP4.out).mono ?_; rintro e w5 ⟨rfl, hb5⟩; have HF5 := Lib.hid (HP5.out.next hb5); have HB5 := Lib.hid (HP6.out.trans (hb5.mono HP6.out.size)); clear hb5) | fail)
            refine bodyPost_ret (v := v3 (a1, a2, 0)) (by simp [v3, results, Tryz.results21, go_sem]) rfl ⟨by rw [HX.out]; rfl, HB5.out⟩
    
  · go_enter Tryz.func21, Tryz.ntmps21
    go_wp2_with (first | (go_at_call 33; refine (HR.out _).mono ?_; rintro e w1 ⟨rfl, hb⟩; have HB1 := Lib.hid (hb.trans ((bel1 w1 (.cells #[.string s1, .string s2, .int .i64 x0, .int .i64 x1, .int .i64 x2, .func (.func k9) #[] #[], .nilFunc] 61)).mono hb.size)); clear hb) | (go_at_call 16; refine (HA.out _).mono ?_; rintro e w2 ⟨rfl, rfl⟩) | (go_at_call 35; refine (HRd.out _).mono ?_; rintro e w3 ⟨v9, rfl, hf, hb⟩; have HB2 := Lib.hid (HB1.out.trans (hb.mono HB1.out.size)); obtain ⟨pf, cf, hv9⟩ := hf.form; subst hv9; have HF := Lib.hid hf; clear hf hb) | fail)
    clear HR HA HRd HB1
    have hLl : L.length ≤ 100 := HW.out.1
    go_loopg [8, 13, 14, 15, 16, 17, 45, 63, 70] L.length (fun gk s8 s13 s14 s15 s16 s17 q45 s63 s70 wr => ∃ (j : Nat) (e0 : Int), j + gk = L.length ∧ s8 = .int .i64 e0 ∧ q45 = .int .i64 j ∧ Below w.heap.size w wr ∧ FitW wr (.slice pf L.length cf) L ∧ X = ftW K R (L.drop j) e0)
    case atStart => exact ⟨0, 21, by omega, rfl, rfl, HB2.out, HF.out, HX.out⟩
    case round =>
      obtain ⟨j, e0, hjg, rfl, rfl, hb, hf, hx⟩ := hrel
      clear HB2 HF HX
      have HB := Lib.hid hb
      have HF := Lib.hid hf
      clear hb hf
      cases gk with
      | zero =>
        have hjz : ¬ ((j : Int) < (L.length : Int)) := by omega
        have hx2 : X = (0, 0, e0) := by rw [hx, show j = L.length by omega, List.drop_length]; rfl
        have HX := Lib.hid hx2
        clear hx hx2
        go_wp2_with fail
        refine bodyPost_ret (v := v3 (0, 0, e0)) (by simp [v3, results, Tryz.results21, go_sem]) rfl ⟨by rw [HX.out], HB.out⟩
      | succ g2 =>
        have hjz : (j : Int) < (L.length : Int) := by omega
        have hj : j < L.length := by omega
        have hwi : IntKind.i64.wrap ((j : Int) + 1) = (j : Int) + 1 := by rw [IntKind.wrap_i64]; omega
        obtain ⟨g, vk, vr, hpf, hc0, hc1, hlt, hk, hr⟩ := HF.out.cells j hj
        subst hpf
        have hx2 := hx
        rw [List.drop_eq_getElem_cons hj, ftW_cons] at hx2
        have hw2 := HW.out.2 j hj
        have HC1 : Hid (∀ W, RdL12 W.heap.size W vk (L[j]).1 → RdI W.heap.size W (.slice pu K.length cu) K → Calls Tryz.prog 36 #[vk, .slice pu K.length cu, .int .i64 1, .int .i64 2] W fun e w' => e = .returned (.tuple #[.int .i64 ((lsF 1 2 env0 (L[j]).1 K).getD 0), .bool (lsF 1 2 env0 (L[j]).1 K).isSome]) ∧ Below W.heap.size W w') := fun W a1 a2 => by
          have h := last_any (L[j]).1 K 1 2 vk (.slice pu K.length cu) W a1 a2 (by omega) (by omega) hw2.1.2 (by omega)
          rwa [lsV_eq] at h
        have HC2 : Hid (∀ W, RdL12 W.heap.size W vr (L[j]).2 → RdI W.heap.size W (.slice pv K.length cv) R → Calls Tryz.prog 36 #[vr, .slice pv K.length cv, .int .i64 0, .int .i64 2] W fun e w' => e = .returned (.tuple #[.int .i64 ((lsF 0 2 env0 (L[j]).2 R).getD 0), .bool (lsF 0 2 env0 (L[j]).2 R).isSome]) ∧ Below W.heap.size W w') := fun W a1 a2 => by
          have h := last_any (L[j]).2 R 0 2 vr (.slice pv K.length cv) W a1 a2 (by have := HRl.out; omega) (by omega) hw2.2.2 (by omega)
          rwa [lsV_eq] at h
        generalize (lsF 1 2 env0 (L[j]).1 K).getD 0 = a1 at HC1 hx2
        generalize (lsF 1 2 env0 (L[j]).1 K).isSome = b1 at HC1 hx2
        generalize (lsF 0 2 env0 (L[j]).2 R).getD 0 = a2 at HC2 hx2
        generalize (lsF 0 2 env0 (L[j]).2 R).isSome = b2 at HC2 hx2
        have HX := Lib.hid hx2
        have hk0 := hk
        have hr0 := hr
        obtain ⟨ak, ck9, hvk, _⟩ := hk0
        obtain ⟨ar, cr9, hvr, _⟩ := hr0
        subst hvk hvr
        clear hx hx2 hw2
        generalize (L[j]).1 = l1 at HC1 hk hc0
        generalize (L[j]).2 = l2 at HC2 hr hc1
        have HK := Lib.hid hk
        have HR2 := Lib.hid hr
        clear hk hr
        have hbw : wr.heap.size < (wr.alloc (.cells #[.slice ak l1.length ck9, .slice ar l2.length cr9] 72)).heap.size := by simp
        have hS1 : (wr.alloc (.cells #[.slice ak l1.length ck9, .slice ar l2.length cr9] 72)).cell? ⟨wr.heap.size, 1, none⟩ = some (.slice ar l2.length cr9) := blk_cell (tab_new wr _) (j := 1) (by simp)
        have HBx := Lib.hid (bel1 wr (.cells #[.slice ak l1.length ck9, .slice ar l2.length cr9] 72))
        have HQ1 := Lib.hid (HK.out.next HBx.out)
        have HQ2 := Lib.hid (HR2.out.next HBx.out)
        have HQ3 := Lib.hid ((HU.out.next HB.out).next HBx.out)
        have HQ4 := Lib.hid ((HV.out.next HB.out).next HBx.out)
        have HQ5 := Lib.hid (HF.out.next HBx.out)
        have HQ6 := Lib.hid (HB.out.trans (HBx.out.mono HB.out.size))
        have HS1 := Lib.hid (And.intro hS1 hbw)
        clear hS1 hbw HK HR2 HBx
        have hwl : w.heap.size ≤ wr.heap.size := HB.out.size
        generalize hB1 : wr.alloc (.cells #[.slice ak l1.length ck9, .slice ar l2.length cr9] 72) = B1 at HQ1 HQ2 HQ3 HQ4 HQ5 HQ6 HS1
        have HE := Lib.hid hB1
        clear hB1
        cases b1
        · go_wp2_with (first | (go_at_call 36; rw [HE.out]; refine (HC1.out _ HQ1.out HQ3.out).mono ?_; rintro e w4 ⟨rfl, hb4⟩; have HP2 := Lib.hid (HQ2.out.next hb4); have HP4 := Lib.hid (HQ4.out.next hb4); have HP5 := Lib.hid (HQ5.out.next hb4); have HP6 := Lib.hid (HQ6.out.trans (hb4.mono HQ6.out.size)); have y1 : w4.cell? ⟨wr.heap.size, 1, none⟩ = some (.slice ar l2.length cr9) := (hb4.cell (p := ⟨wr.heap.size, 1, none⟩) HS1.out.2).trans HS1.out.1; clear hb4) | (go_at_call 36; refine (HC2.out _ HP2.out HP4.out).mono ?_; rintro e w5 ⟨rfl, hb5⟩; have HF5 := Lib.hid (HP5.out.next hb5); have HB5 := Lib.hid (HP6.out.trans (hb5.mono HP6.out.size)); clear hb5) | fail)
          go_roundg g2
          case measure => omega
          case rel => exact ⟨j + 1, e0, by omega, rfl, by go_num, HB5.out, HF5.out, HX.out⟩ -- e0
        · cases b2
          · go_wp2_with (first | (go_at_call 36; rw [HE.out]; refine (HC1.out _ HQ1.out HQ3.out).mono ?_; rintro e w4 ⟨rfl, hb4⟩; have HP2 := Lib.hid (HQ2.out.next hb4); have HP4 := Lib.hid (HQ4.out.next hb4); have HP5 := Lib.hid (HQ5.out.next hb4); have HP6 := Lib.hid (HQ6.out.trans (hb4.mono HQ6.out.size)); have y1 : w4.cell? ⟨wr.heap.size, 1, none⟩ = some (.slice ar l2.length cr9) := (hb4.cell (p := ⟨wr.heap.size, 1, none⟩) HS1.out.2).trans HS1.out.1; clear hb4) | (go_at_call 36; refine (HC2.out _ HP2.out HP4.out).mono ?_; rintro e w5 ⟨rfl, hb5⟩; have HF5 := Lib.hid (HP5.out.next hb5); have HB5 := Lib.hid (HP6.out.trans (hb5.mono HP6.out.size)); clear hb5) | fail)
            go_roundg g2
            case measure => omega
            case rel => exact ⟨j + 1, 22, by omega, rfl, by go_num, HB5.out, HF5.out, HX.out⟩ -- 22
          · go_wp2_with (first | (go_at_call 36; rw [HE.out]; refine (HC1.out _ HQ1.out HQ3.out).mono ?_; rintro e w4 ⟨rfl, hb4⟩; have HP2 := Lib.hid (HQ2.out.next hb4); have HP4 := Lib.hid (HQ4.out.next hb4); have HP5 := Lib.hid (HQ5.out.next hb4); have HP6 := Lib.hid (HQ6.out.trans (hb4.mono HQ6.out.size)); have y1 : w4.cell? ⟨wr.heap.size, 1, none⟩ = some (.slice ar l2.length cr9) := (hb4.cell (p := ⟨wr.heap.size, 1, none⟩) HS1.out.2).trans HS1.out.1; clear hb4) | (go_at_call 36; refine (HC2.out _ HP2.out HP4.out).mono ?_; rintro e w5 ⟨rfl, hb5⟩; have HF5 := Lib.hid (HP5.out.next hb5); have HB5 := Lib.hid (HP6.out.trans (hb5.mono HP6.out.size)); clear hb5) | fail)
            refine bodyPost_ret (v := v3 (a1, a2, 0)) (by simp [v3, results, Tryz.results21, go_sem]) rfl ⟨by rw [HX.out]; rfl, HB5.out⟩
    
  · go_enter Tryz.func21, Tryz.ntmps21
    go_wp2_with (first | (go_at_call 33; refine (HR.out _).mono ?_; rintro e w1 ⟨rfl, hb⟩; have HB1 := Lib.hid (hb.trans ((bel1 w1 (.cells #[.string s1, .string s2, .int .i64 x0, .int .i64 x1, .int .i64 x2, .nilFunc, .func (.func k9) #[] #[]] 61)).mono hb.size)); clear hb) | (go_at_call 16; refine (HA.out _).mono ?_; rintro e w2 ⟨rfl, rfl⟩) | (go_at_call 35; refine (HRd.out _).mono ?_; rintro e w3 ⟨v9, rfl, hf, hb⟩; have HB2 := Lib.hid (HB1.out.trans (hb.mono HB1.out.size)); obtain ⟨pf, cf, hv9⟩ := hf.form; subst hv9; have HF := Lib.hid hf; clear hf hb) | fail)
    clear HR HA HRd HB1
    have hLl : L.length ≤ 100 := HW.out.1
    go_loopg [8, 13, 14, 15, 16, 17, 45, 63, 70] L.length (fun gk s8 s13 s14 s15 s16 s17 q45 s63 s70 wr => ∃ (j : Nat) (e0 : Int), j + gk = L.length ∧ s8 = .int .i64 e0 ∧ q45 = .int .i64 j ∧ Below w.heap.size w wr ∧ FitW wr (.slice pf L.length cf) L ∧ X = ftW K R (L.drop j) e0)
    case atStart => exact ⟨0, 21, by omega, rfl, rfl, HB2.out, HF.out, HX.out⟩
    case round =>
      obtain ⟨j, e0, hjg, rfl, rfl, hb, hf, hx⟩ := hrel
      clear HB2 HF HX
      have HB := Lib.hid hb
      have HF := Lib.hid hf
      clear hb hf
      cases gk with
      | zero =>
        have hjz : ¬ ((j : Int) < (L.length : Int)) := by omega
        have hx2 : X = (0, 0, e0) := by rw [hx, show j = L.length by omega, List.drop_length]; rfl
        have HX := Lib.hid hx2
        clear hx hx2
        go_wp2_with fail
        refine bodyPost_ret (v := v3 (0, 0, e0)) (by simp [v3, results, Tryz.results21, go_sem]) rfl ⟨by rw [HX.out], HB.out⟩
      | succ g2 =>
        have hjz : (j : Int) < (L.length : Int) := by omega
        have hj : j < L.length := by omega
        have hwi : IntKind.i64.wrap ((j : Int) + 1) = (j : Int) + 1 := by rw [IntKind.wrap_i64]; omega
        obtain ⟨g, vk, vr, hpf, hc0, hc1, hlt, hk, hr⟩ := HF.out.cells j hj
        subst hpf
        have hx2 := hx
        rw [List.drop_eq_getElem_cons hj, ftW_cons] at hx2
        have hw2 := HW.out.2 j hj
        have HC1 : Hid (∀ W, RdL12 W.heap.size W vk (L[j]).1 → RdI W.heap.size W (.slice pu K.length cu) K → Calls Tryz.prog 36 #[vk, .slice pu K.length cu, .int .i64 1, .int .i64 2] W fun e w' => e = .returned (.tuple #[.int .i64 ((lsF 1 2 env0 (L[j]).1 K).getD 0), .bool (lsF 1 2 env0 (L[j]).1 K).isSome]) ∧ Below W.heap.size W w') := fun W a1 a2 => by
          have h := last_any (L[j]).1 K 1 2 vk (.slice pu K.length cu) W a1 a2 (by omega) (by omega) hw2.1.2 (by omega)
          rwa [lsV_eq] at h
        have HC2 : Hid (∀ W, RdL12 W.heap.size W vr (L[j]).2 → RdI W.heap.size W (.slice pv K.length cv) R → Calls Tryz.prog 36 #[vr, .slice pv K.length cv, .int .i64 0, .int .i64 2] W fun e w' => e = .returned (.tuple #[.int .i64 ((lsF 0 2 env0 (L[j]).2 R).getD 0), .bool (lsF 0 2 env0 (L[j]).2 R).isSome]) ∧ Below W.heap.size W w') := fun W a1 a2 => by
          have h := last_any (L[j]).2 R 0 2 vr (.slice pv K.length cv) W a1 a2 (by have := HRl.out; omega) (by omega) hw2.2.2 (by omega)
          rwa [lsV_eq] at h
        generalize (lsF 1 2 env0 (L[j]).1 K).getD 0 = a1 at HC1 hx2
        generalize (lsF 1 2 env0 (L[j]).1 K).isSome = b1 at HC1 hx2
        generalize (lsF 0 2 env0 (L[j]).2 R).getD 0 = a2 at HC2 hx2
        generalize (lsF 0 2 env0 (L[j]).2 R).isSome = b2 at HC2 hx2
        have HX := Lib.hid hx2
        have hk0 := hk
        have hr0 := hr
        obtain ⟨ak, ck9, hvk, _⟩ := hk0
        obtain ⟨ar, cr9, hvr, _⟩ := hr0
        subst hvk hvr
        clear hx hx2 hw2
        generalize (L[j]).1 = l1 at HC1 hk hc0
        generalize (L[j]).2 = l2 at HC2 hr hc1
        have HK := Lib.hid hk
        have HR2 := Lib.hid hr
        clear hk hr
        have hbw : wr.heap.size < (wr.alloc (.cells #[.slice ak l1.length ck9, .slice ar l2.length cr9] 72)).heap.size := by simp
        have hS1 : (wr.alloc (.cells #[.slice ak l1.length ck9, .slice ar l2.length cr9] 72)).cell? ⟨wr.heap.size, 1, none⟩ = some (.slice ar l2.length cr9) := blk_cell (tab_new wr _) (j := 1) (by simp)
        have HBx := Lib.hid (bel1 wr (.cells #[.slice ak l1.length ck9, .slice ar l2.length cr9] 72))
        have HQ1 := Lib.hid (HK.out.next HBx.out)
        have HQ2 := Lib.hid (HR2.out.next HBx.out)
        have HQ3 := Lib.hid ((HU.out.next HB.out).next HBx.out)
        have HQ4 := Lib.hid ((HV.out.next HB.out).next HBx.out)
        have HQ5 := Lib.hid (HF.out.next HBx.out)
        have HQ6 := Lib.hid (HB.out.trans (HBx.out.mono HB.out.size))
        have HS1 := Lib.hid (And.intro hS1 hbw)
        clear hS1 hbw HK HR2 HBx
        have hwl : w.heap.size ≤ wr.heap.size := HB.out.size
        generalize hB1 : wr.alloc (.cells #[.slice ak l1.length ck9, .slice ar l2.length cr9] 72) = B1 at HQ1 HQ2 HQ3 HQ4 HQ5 HQ6 HS1
        have HE := Lib.hid hB1
        clear hB1
        cases b1
        · go_wp2_with (first | (go_at_call 36; rw [HE.out]; refine (HC1.out _ HQ1.out HQ3.out).mono ?_; rintro e w4 ⟨rfl, hb4⟩; have HP2 := Lib.hid (HQ2.out.next hb4); have HP4 := Lib.hid (HQ4.out.next hb4); have HP5 := Lib.hid (HQ5.out.next hb4); have HP6 := Lib.hid (HQ6.out.trans (hb4.mono HQ6.out.size)); have y1 : w4.cell? ⟨wr.heap.size, 1, none⟩ = some (.slice ar l2.length cr9) := (hb4.cell (p := ⟨wr.heap.size, 1, none⟩) HS1.out.2).trans HS1.out.1; clear hb4) | (go_at_call 36; refine (HC2.out _ HP2.out HP4.out).mono ?_; rintro e w5 ⟨rfl, hb5⟩; have HF5 := Lib.hid (HP5.out.next hb5); have HB5 := Lib.hid (HP6.out.trans (hb5.mono HP6.out.size)); clear hb5) | fail)
          go_roundg g2
          case measure => omega
          case rel => exact ⟨j + 1, e0, by omega, rfl, by go_num, HB5.out, HF5.out, HX.out⟩ -- e0
        · cases b2
          · go_wp2_with (first | (go_at_call 36; rw [HE.out]; refine (HC1.out _ HQ1.out HQ3.out).mono ?_; rintro e w4 ⟨rfl, hb4⟩; have HP2 := Lib.hid (HQ2.out.next hb4); have HP4 := Lib.hid (HQ4.out.next hb4); have HP5 := Lib.hid (HQ5.out.next hb4); have HP6 := Lib.hid (HQ6.out.trans (hb4.mono HQ6.out.size)); have y1 : w4.cell? ⟨wr.heap.size, 1, none⟩ = some (.slice ar l2.length cr9) := (hb4.cell (p := ⟨wr.heap.size, 1, none⟩) HS1.out.2).trans HS1.out.1; clear hb4) | (go_at_call 36; refine (HC2.out _ HP2.out HP4.out).mono ?_; rintro e w5 ⟨rfl, hb5⟩; have HF5 := Lib.hid (HP5.out.next hb5); have HB5 := Lib.hid (HP6.out.trans (hb5.mono HP6.out.size)); clear hb5) | fail)
            go_roundg g2
            case measure => omega
            case rel => exact ⟨j + 1, 22, by omega, rfl, by go_num, HB5.out, HF5.out, HX.out⟩ -- 22
          · go_wp2_with (first | (go_at_call 36; rw [HE.out]; refine (HC1.out _ HQ1.out HQ3.out).mono ?_; rintro e w4 ⟨rfl, hb4⟩; have HP2 := Lib.hid (HQ2.out.next hb4); have HP4 := Lib.hid (HQ4.out.next hb4); have HP5 := Lib.hid (HQ5.out.next hb4); have HP6 := Lib.hid (HQ6.out.trans (hb4.mono HQ6.out.size)); have y1 : w4.cell? ⟨wr.heap.size, 1, none⟩ = some (.slice ar l2.length cr9) := (hb4.cell (p := ⟨wr.heap.size, 1, none⟩) HS1.out.2).trans HS1.out.1; clear hb4) | (go_at_call 36; refine (HC2.out _ HP2.out HP4.out).mono ?_; rintro e w5 ⟨rfl, hb5⟩; have HF5 := Lib.hid (HP5.out.next hb5); have HB5 := Lib.hid (HP6.out.trans (hb5.mono HP6.out.size)); clear hb5) | fail)
            refine bodyPost_ret (v := v3 (a1, a2, 0)) (by simp [v3, results, Tryz.results21, go_sem]) rfl ⟨by rw [HX.out]; rfl, HB5.out⟩
    
set_option maxRecDepth 100000 in
set_option maxHeartbeats 16000000 in
theorem fits_len (q : Nat) (h1 : 1 ≤ q) (h2 : q ≤ 40) (a b : Nat) (pu pv : Option Addr) (cu cv : Nat) (w : World) (hn : (a : Int) ≠ arN q ∨ (b : Int) ≠ arN q) :
    Calls Tryz.prog 21 #[.int .i64 q, .slice pu a cu, .slice pv b cv] w fun e w' => e = .returned (v3 (0, 0, 23)) ∧ Below w.heap.size w w' := by
  have HR := Lib.hid (fun W => rowOf_ok q W h1 h2)
  have HA : Hid (∀ W, Calls Tryz.prog 16 #[.int .i64 q] W fun e w' => e = .returned (.tuple #[.int .i64 (arN q), .int .i64 0]) ∧ w' = W) := fun W => by
    have h3 := arity_any q W
    rwa [show arE q = 0 from if_neg (by omega)] at h3
  have hff := fun_forms q (by omega)
  generalize arN q = n at HA hn
  unfold rowC at HR
  generalize ftB q = s2 at HR ⊢
  have hff := fun_forms q (by omega)
  generalize nmB q = s1 at HR ⊢
  generalize e0P q = x0 at HR ⊢
  generalize e1P q = x1 at HR ⊢
  generalize e2P q = x2 at HR ⊢
  generalize f1P q = g1 at HR hff ⊢
  generalize f2P q = g2 at HR hff ⊢
  rcases hff with ⟨rfl, rfl⟩ | ⟨k9, rfl, rfl⟩ | ⟨k9, rfl, rfl⟩
  · by_cases ha : (a : Int) = n
    · subst ha
      have hb0 : ¬ ((b : Int) = (a : Int)) := by intro e; rcases hn with h | h <;> exact h (by omega)
      have q1 : ((b : Int) != (a : Int)) = true := by simpa using hb0
      have q0 : ((a : Int) != (a : Int)) = false := by simp
      clear hn
      go_enter Tryz.func21, Tryz.ntmps21
      go_wp2_with (first | (go_at_call 33; refine (HR.out _).mono ?_; rintro e w1 ⟨rfl, hb⟩; have HB1 := Lib.hid (hb.trans ((bel1 w1 (.cells #[.string s1, .string s2, .int .i64 x0, .int .i64 x1, .int .i64 x2, .nilFunc, .nilFunc] 61)).mono hb.size)); clear hb) | (go_at_call 16; refine (HA.out _).mono ?_; rintro e w2 ⟨rfl, rfl⟩) | fail)
      refine bodyPost_ret (v := v3 (0, 0, 23)) (by simp [v3, results, Tryz.results21, go_sem]) rfl ⟨rfl, HB1.out⟩
    · have q0 : ((a : Int) != n) = true := by simpa using ha
      clear hn
      go_enter Tryz.func21, Tryz.ntmps21
      go_wp2_with (first | (go_at_call 33; refine (HR.out _).mono ?_; rintro e w1 ⟨rfl, hb⟩; have HB1 := Lib.hid (hb.trans ((bel1 w1 (.cells #[.string s1, .string s2, .int .i64 x0, .int .i64 x1, .int .i64 x2, .nilFunc, .nilFunc] 61)).mono hb.size)); clear hb) | (go_at_call 16; refine (HA.out _).mono ?_; rintro e w2 ⟨rfl, rfl⟩) | fail)
      refine bodyPost_ret (v := v3 (0, 0, 23)) (by simp [v3, results, Tryz.results21, go_sem]) rfl ⟨rfl, HB1.out⟩
  · by_cases ha : (a : Int) = n
    · subst ha
      have hb0 : ¬ ((b : Int) = (a : Int)) := by intro e; rcases hn with h | h <;> exact h (by omega)
      have q1 : ((b : Int) != (a : Int)) = true := by simpa using hb0
      have q0 : ((a : Int) != (a : Int)) = false := by simp
      clear hn
      go_enter Tryz.func21, Tryz.ntmps21
      go_wp2_with (first | (go_at_call 33; refine (HR.out _).mono ?_; rintro e w1 ⟨rfl, hb⟩; have HB1 := Lib.hid (hb.trans ((bel1 w1 (.cells #[.string s1, .string s2, .int .i64 x0, .int .i64 x1, .int .i64 x2, .func (.func k9) #[] #[], .nilFunc] 61)).mono hb.size)); clear hb) | (go_at_call 16; refine (HA.out _).mono ?_; rintro e w2 ⟨rfl, rfl⟩) | fail)
      refine bodyPost_ret (v := v3 (0, 0, 23)) (by simp [v3, results, Tryz.results21, go_sem]) rfl ⟨rfl, HB1.out⟩
    · have q0 : ((a : Int) != n) = true := by simpa using ha
      clear hn
      go_enter Tryz.func21, Tryz.ntmps21
      go_wp2_with (first | (go_at_call 33; refine (HR.out _).mono ?_; rintro e w1 ⟨rfl, hb⟩; have HB1 := Lib.hid (hb.trans ((bel1 w1 (.cells #[.string s1, .string s2, .int .i64 x0, .int .i64 x1, .int .i64 x2, .func (.func k9) #[] #[], .nilFunc] 61)).mono hb.size)); clear hb) | (go_at_call 16; refine (HA.out _).mono ?_; rintro e w2 ⟨rfl, rfl⟩) | fail)
      refine bodyPost_ret (v := v3 (0, 0, 23)) (by simp [v3, results, Tryz.results21, go_sem]) rfl ⟨rfl, HB1.out⟩
  · by_cases ha : (a : Int) = n
    · subst ha
      have hb0 : ¬ ((b : Int) = (a : Int)) := by intro e; rcases hn with h | h <;> exact h (by omega)
      have q1 : ((b : Int) != (a : Int)) = true := by simpa using hb0
      have q0 : ((a : Int) != (a : Int)) = false := by simp
      clear hn
      go_enter Tryz.func21, Tryz.ntmps21
      go_wp2_with (first | (go_at_call 33; refine (HR.out _).mono ?_; rintro e w1 ⟨rfl, hb⟩; have HB1 := Lib.hid (hb.trans ((bel1 w1 (.cells #[.string s1, .string s2, .int .i64 x0, .int .i64 x1, .int .i64 x2, .nilFunc, .func (.func k9) #[] #[]] 61)).mono hb.size)); clear hb) | (go_at_call 16; refine (HA.out _).mono ?_; rintro e w2 ⟨rfl, rfl⟩) | fail)
      refine bodyPost_ret (v := v3 (0, 0, 23)) (by simp [v3, results, Tryz.results21, go_sem]) rfl ⟨rfl, HB1.out⟩
    · have q0 : ((a : Int) != n) = true := by simpa using ha
      clear hn
      go_enter Tryz.func21, Tryz.ntmps21
      go_wp2_with (first | (go_at_call 33; refine (HR.out _).mono ?_; rintro e w1 ⟨rfl, hb⟩; have HB1 := Lib.hid (hb.trans ((bel1 w1 (.cells #[.string s1, .string s2, .int .i64 x0, .int .i64 x1, .int .i64 x2, .nilFunc, .func (.func k9) #[] #[]] 61)).mono hb.size)); clear hb) | (go_at_call 16; refine (HA.out _).mono ?_; rintro e w2 ⟨rfl, rfl⟩) | fail)
      refine bodyPost_ret (v := v3 (0, 0, 23)) (by simp [v3, results, Tryz.results21, go_sem]) rfl ⟨rfl, HB1.out⟩
set_option maxRecDepth 100000 in
set_option maxHeartbeats 4000000 in
theorem fits_bad (p : Int) (h : p < 1 ∨ 40 < p) (u v : Value) (w : World) :
    Calls Tryz.prog 21 #[.int .i64 p, u, v] w fun e w' => e = .returned (v3 (0, 0, 2)) ∧ Below w.heap.size w w' := by
  have HR := Lib.hid (fun W => rowOf_bad p W h)
  clear h
  go_enter Tryz.func21, Tryz.ntmps21
  go_wp2_with (go_at_call 33; refine (HR.out _).mono ?_; rintro e w1 ⟨rfl, hb⟩; have HB1 := Lib.hid (hb.trans ((bel1 w1 (.cells #[.string ⟨#[]⟩, .string ⟨#[]⟩, .int .i64 0, .int .i64 0, .int .i64 0, .nilFunc, .nilFunc] 61)).mono hb.size)); clear hb)
  refine bodyPost_ret (v := v3 (0, 0, 2)) (by simp [v3, results, Tryz.results21, go_sem]) rfl ⟨rfl, HB1.out⟩
theorem fits_any (p : Int) (K R : List Int) (u v : Value) (w : World) (hu : RdI w.heap.size w u K) (hv : RdI w.heap.size w v R) :
    Calls Tryz.prog 21 #[.int .i64 p, u, v] w fun e w' => e = .returned (v3 (ftT p K R)) ∧ Below w.heap.size w w' := by
  unfold ftT
  by_cases h : p < 1 ∨ 40 < p
  · rw [if_pos h]
    exact fits_bad p h u v w
  · rw [if_neg h]
    obtain ⟨q, hq⟩ : ∃ q : Nat, p = (q : Int) := ⟨p.toNat, by omega⟩
    subst hq
    rw [Int.toNat_natCast]
    by_cases hn : (K.length : Int) ≠ arN q ∨ (R.length : Int) ≠ arN q
    · rw [if_pos hn]
      obtain ⟨pu, cu, rfl, _⟩ := hu
      obtain ⟨pv, cv, rfl, _⟩ := hv
      exact fits_len q (by omega) (by omega) K.length R.length pu pv cu cv w hn
    · rw [if_neg hn]
      exact fits_ok q (by omega) (by omega) K R u v w hu hv (by omega) (by omega)
end Go.Proofs.YtpbfbejckhbijaaGreatDoor
