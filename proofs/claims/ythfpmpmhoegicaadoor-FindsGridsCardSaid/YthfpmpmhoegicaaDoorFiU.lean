/- The law Grids. -/
import Derived.Test.YthfpmpmhoegicaaDoorFiT
import Derived.Test.YthfpmpmhoegicaaDoorMvU
import Derived.Test.YthfpmpmhoegicaaDoorMvXg
import Derived.Deep.DeepCutAuto
namespace Go.Proofs.YthfpmpmhoegicaaDoor
open Go.RowKit

theorem wf16 {x : Int} (h : (Lit.int .u16 x).wf = true) : 0 ≤ x ∧ x ≤ 65535 := by
  simp only [Lit.wf, IntKind.min, IntKind.max, IntKind.signed, IntKind.bits, Bool.and_eq_true] at h
  obtain ⟨h1, h2⟩ := h
  exact ⟨by simpa using h1, by simpa using h2⟩
theorem agn_self (z : List Int) : agn z.length z = z := by
  refine ext_getD (agn_len _ _) fun t ht => ?_
  rw [agn_len] at ht
  rw [agn_getD ht, Nat.mod_eq_of_lt ht]
/-- Grid of Shape and Ravel. -/
theorem grid8 {A : Ar} (h : ck A = 0) (hr : A.r = 2) : gdE (vecA 1 [A.a, A.b]) (raV A) = 0 ∧ gdV (vecA 1 [A.a, A.b]) (raV A) = A := by
  have hg := ck_good h
  obtain ⟨e1, e2⟩ := ra_vec hg
  have hra : raV A = vecA A.k A.z := orNo_yes h
  have hs := hg.sh
  have hl := hg.len
  have hb := hg.sh.bd
  have h4 := hg.len4
  have hab : 0 ≤ A.a ∧ 0 ≤ A.b ∧ A.a ≤ 400 ∧ A.b ≤ 400 ∧ A.a * A.b = (A.z.length : Int) := by
    obtain ⟨k, r, a, b, z⟩ := A
    simp only at hr hs hl hb ⊢
    subst hr
    cases hs with
    | s2 _ _ q1 q2 q3 q4 q5 => exact ⟨by assumption, by assumption, by omega, by omega, by rw [hl]; simp [cn]⟩
  have cl : ck (vecA 1 [A.a, A.b]) = 0 := ck_vec (.inl rfl) (by simp) (fun e => by cases e)
  have ht : twoE (vecA 1 [A.a, A.b]) (raV A) 1 (raV A).k 1 1 1 1 = 0 := by
    rw [hra]
    exact (if_pos cl).trans ((if_pos e1).trans ((if_pos ⟨rfl, rfl⟩).trans (if_neg (by show ¬ ((1 : Int) < 1 ∨ (1 : Int) < 1 ∨ (1 : Int) < 1 ∨ (1 : Int) < 1); omega))))
  obtain ⟨q1, q2, q3, q4, q5⟩ := hab
  have hz : (raV A).z = A.z := by rw [hra]; rfl
  have hE : gdE (vecA 1 [A.a, A.b]) (raV A) = 0 := by
    unfold gdE
    rw [if_pos ht]
    show (if (2 : Nat) = 2 then (if A.a < 0 ∨ A.b < 0 then 13 else if 400 < A.a ∨ 400 < A.b ∨ 400 < A.a * A.b then 15 else if (raV A).z.length = 0 ∧ 0 < A.a * A.b then 13 else 0) else 11) = (0 : Int)
    rw [if_pos rfl, if_neg (by omega), if_neg (by rw [q5]; omega), if_neg (by rw [hz, q5]; omega)]
  refine ⟨hE, ?_⟩
  unfold gdV
  rw [orNo_yes hE]
  show (⟨(raV A).k, 2, A.a, A.b, agn (A.a * A.b).toNat (raV A).z⟩ : Ar) = A
  rw [hz, q5, Int.toNat_natCast, agn_self, hra, ← hr]
  rfl
/-- The number of cells is the product of the lengths. -/
def prZ : List Int → Int
  | [] => 1
  | [a] => a
  | a :: b :: _ => a * b
theorem prZ_ok {A : Ar} (h : ck A = 0) : prZ (shZ A) = (A.z.length : Int) ∧ ((shZ A).length : Int) = A.r ∧ (∀ x ∈ shZ A, 0 ≤ x ∧ x ≤ 400) := by
  have hg := ck_good h
  have hs := hg.sh
  have hl := hg.len
  have hb := hg.sh.bd
  obtain ⟨k, r, a, b, z⟩ := A
  simp only at hs hl hb
  unfold shZ
  simp only
  cases hs with
  | s0 => simp [prZ, cn] at hl ⊢; omega
  | s1 _ q1 q2 => simp [prZ, cn] at hl ⊢; omega
  | s2 _ _ q1 q2 q3 q4 q5 => simp [prZ, cn] at hl ⊢; exact ⟨hl.symm, ⟨by omega, by omega⟩, by omega, by omega⟩
/-- Shape of Iota, and At of it. -/
theorem sh_up {m : Nat} (h : m ≤ 400) : ck ⟨1, 1, (upZ m).length, 0, upZ m⟩ = 0 ∧ shV ⟨1, 1, (upZ m).length, 0, upZ m⟩ = ⟨1, 1, 1, 0, [(m : Int)]⟩ ∧ lkE ⟨1, 1, 1, 0, [(m : Int)]⟩ ⟨1, 0, 0, 0, [0]⟩ = 0 ∧ lkV ⟨1, 1, 1, 0, [(m : Int)]⟩ ⟨1, 0, 0, 0, [0]⟩ = ⟨1, 0, 0, 0, [(m : Int)]⟩ := by
  have hc : ck ⟨1, 1, (upZ m).length, 0, upZ m⟩ = 0 := ck_vec (.inl rfl) (by rw [upZ_len]; exact h) (fun e => by cases e)
  have h1 : ck ⟨1, 1, 1, 0, [(m : Int)]⟩ = 0 := ck_vec (z := [(m : Int)]) (.inl rfl) (by simp) (fun e => by cases e)
  have h2 : ck ⟨1, 0, 0, 0, [0]⟩ = 0 := by decide
  have e0 : lkE ⟨1, 1, 1, 0, [(m : Int)]⟩ ⟨1, 0, 0, 0, [0]⟩ = 0 := by
    unfold lkE
    rw [if_pos (lkT_vec h1 h2 rfl rfl (.inl rfl))]
    rfl
  refine ⟨hc, ?_, e0, orNo_yes e0⟩
  unfold shV
  rw [orNo_yes hc]
  show vecA 1 [((upZ m).length : Int)] = _
  rw [upZ_len]
  rfl
set_option maxRecDepth 100000 in
set_option maxHeartbeats 64000000 in
theorem lawGrids8_any (A : Ar) (v : Value) (n : Int) (w : World) (hw : Ru.Lay w) (hv : RdI w.heap.size w v A.z) (hn : Ru.NilC v) (hn0 : 0 ≤ n) (hn1 : n ≤ 65535) (haw : ∀ W, Ru.Lay W → Calls Tryd.prog 21 #[] W fun e w' => e = .returned (.bool true) ∧ Below W.heap.size W w') :
    Calls Tryd.prog 11 #[A5 A.k A.r A.a A.b v, .int .u16 n] w fun e w' => e = .returned (.bool true) ∧ Below w.heap.size w w' := by
  have HF := Lib.hid (fun W h => far7_any A v W h)
  have HAw := Lib.hid haw
  clear haw
  have HK : Hid (KVar w [⟨w.heap.size, A, v⟩] (w.alloc (.cells #[.int .i64 A.k, .int .i64 A.r, .int .i64 A.a, .int .i64 A.b, v] 25))) := (KVar.start w hw).arg A hv hn
  obtain ⟨q, cap, rfl, hv1, hv2, hv3⟩ := hv
  clear hw hn hv1 hv2 hv3
  have x0 := (HK.out.a _ (.head _)).c0
  have x1 := (HK.out.a _ (.head _)).c1
  have x2 := (HK.out.a _ (.head _)).c2
  have x3 := (HK.out.a _ (.head _)).c3
  have x4 := (HK.out.a _ (.head _)).c4
  by_cases hf : 405 < A.z.length
  · rw [decide_eq_true hf] at HF
    clear hf hn0 hn1
    as_aux_lemma =>
      go_enter Tryd.func11, Tryd.ntmps11
      go_wp2_with (first
        | (go_at_call 20; (with_reducible refine (HF.out _ (by with_unfolding_all exact (HK.out.r _ (.head _)))).mono ?_); rintro e wz ⟨rfl, hb⟩; have HK2 := Lib.hid (HK.out.next hb); clear HK x0 x1 x2 x3 x4; have HK := HK2; clear HK2; clear hb; have x0 := (HK.out.a _ (.head _)).c0; have x1 := (HK.out.a _ (.head _)).c1; have x2 := (HK.out.a _ (.head _)).c2; have x3 := (HK.out.a _ (.head _)).c3; have x4 := (HK.out.a _ (.head _)).c4)
        | (go_at_call 21; (with_reducible refine (HAw.out _ (by with_unfolding_all exact HK.out.lay)).mono ?_); rintro e wz ⟨rfl, hb⟩; have HK2 := Lib.hid (HK.out.next hb); clear HK x0 x1 x2 x3 x4; have HK := HK2; clear HK2; clear hb; have x0 := (HK.out.a _ (.head _)).c0; have x1 := (HK.out.a _ (.head _)).c1; have x2 := (HK.out.a _ (.head _)).c2; have x3 := (HK.out.a _ (.head _)).c3; have x4 := (HK.out.a _ (.head _)).c4)
        | fail)
      go_ret
      exact ⟨rfl, HK.out.bel⟩
  rw [decide_eq_false hf] at HF
  have HC := Lib.hid (fun W h => archeck_any A (.slice q A.z.length cap) W h (by omega))
  by_cases hc : ck A ≠ 0
  · generalize ck A = E at HC hc
    have k1 : (E != 0) = true := by simpa using hc
    clear hf hc hn0 hn1
    as_aux_lemma =>
      go_enter Tryd.func11, Tryd.ntmps11
      go_wp2_with (first
        | (go_at_call 20; (with_reducible refine (HF.out _ (by with_unfolding_all exact (HK.out.r _ (.head _)))).mono ?_); rintro e wz ⟨rfl, hb⟩; have HK2 := Lib.hid (HK.out.next hb); clear HK x0 x1 x2 x3 x4; have HK := HK2; clear HK2; clear hb; have x0 := (HK.out.a _ (.head _)).c0; have x1 := (HK.out.a _ (.head _)).c1; have x2 := (HK.out.a _ (.head _)).c2; have x3 := (HK.out.a _ (.head _)).c3; have x4 := (HK.out.a _ (.head _)).c4)
        | (go_at_call 40; (with_reducible refine (HC.out _ (by with_unfolding_all exact (HK.out.r _ (.head _)))).mono ?_); rintro e wz ⟨rfl, hb⟩; have HK2 := Lib.hid (HK.out.next hb); clear HK x0 x1 x2 x3 x4; have HK := HK2; clear HK2; clear hb; have x0 := (HK.out.a _ (.head _)).c0; have x1 := (HK.out.a _ (.head _)).c1; have x2 := (HK.out.a _ (.head _)).c2; have x3 := (HK.out.a _ (.head _)).c3; have x4 := (HK.out.a _ (.head _)).c4)
        | (go_at_call 21; (with_reducible refine (HAw.out _ (by with_unfolding_all exact HK.out.lay)).mono ?_); rintro e wz ⟨rfl, hb⟩; have HK2 := Lib.hid (HK.out.next hb); clear HK x0 x1 x2 x3 x4; have HK := HK2; clear HK2; clear hb; have x0 := (HK.out.a _ (.head _)).c0; have x1 := (HK.out.a _ (.head _)).c1; have x2 := (HK.out.a _ (.head _)).c2; have x3 := (HK.out.a _ (.head _)).c3; have x4 := (HK.out.a _ (.head _)).c4)
        | fail)
      go_ret
      exact ⟨rfl, HK.out.bel⟩
  have hc0 : ck A = 0 := by omega
  have HSh := Lib.hid (fun W h0 h1 => ishape_any A (.slice q A.z.length cap) W h0 h1 (by omega))
  rw [hc0] at HC HSh
  have hsv : shV A = ⟨1, 1, (shZ A).length, 0, shZ A⟩ := orNo_yes hc0
  rw [hsv] at HSh
  obtain ⟨p1, p2, p3⟩ := prZ_ok hc0
  have hl4 := (ck_good hc0).len4
  have hr3 := (ck_good hc0).r3
  obtain ⟨m, hm⟩ : ∃ m : Nat, n = (m : Int) := ⟨n.toNat, by omega⟩
  subst hm
  obtain ⟨t, ht⟩ : ∃ t : Nat, m % 401 = t := ⟨_, rfl⟩
  have ht4 : t ≤ 400 := by omega
  have kt : ((m : Int).tmod 401) = (t : Int) := by rw [Int.tmod_eq_emod_of_nonneg (by omega)]; omega
  have kt2 : (m : Int) % 401 = (t : Int) := by omega
  obtain ⟨i1, i2⟩ := io_int ht4
  obtain ⟨j1, j2, j3, j4⟩ := sh_up ht4
  have HI : Hid (∀ x W, Calls Tryd.prog 36 #[.int .i64 x] W (RetA ⟨1, 0, 0, 0, [x]⟩ W)) := fun x W => lint_any _ W
  have HIo := Lib.hid (fun v W h0 h1 => iiota_any ⟨1, 0, 0, 0, [(t : Int)]⟩ v W h0 h1 (by simp))
  have HS2 := Lib.hid (fun v W h0 h1 => ishape_any ⟨1, 1, (upZ t).length, 0, upZ t⟩ v W h0 h1 (by show (upZ t).length ≤ _; rw [upZ_len]; omega))
  have HAt := Lib.hid (fun v u W h0 h1 h2 => iat_any ⟨1, 1, 1, 0, [(t : Int)]⟩ ⟨1, 0, 0, 0, [0]⟩ v u W h0 h1 h2 (by simp) (by simp))
  have HQt := Lib.hid (fun v u W h1 h2 => is8_eq ⟨1, 0, 0, 0, [(t : Int)]⟩ v u W h1 h2 (by simp))
  have HQa := Lib.hid (fun v u W h1 h2 => is8_eq A v u W h1 h2 (by omega))
  rw [i1, i2] at HIo
  rw [j1, j2] at HS2
  rw [j3, j4] at HAt
  have HRa : Hid (A.r = 2 → ∀ W, Ru.Lay W → RdI W.heap.size W (.slice q A.z.length cap) A.z → Ru.NilC (.slice q A.z.length cap) → Calls Tryd.prog 14 #[A5 A.k A.r A.a A.b (.slice q A.z.length cap)] W (RetE ⟨A.k, 1, A.z.length, 0, A.z⟩ 0 W)) := fun _ W h0 h1 h2 => by
    have h := rravel7_any A (.slice q A.z.length cap) W h0 h1 h2 (by omega)
    rwa [hc0, show raV A = ⟨A.k, 1, A.z.length, 0, A.z⟩ from orNo_yes hc0] at h
  have HGd : Hid (A.r = 2 → ∀ v u W, Ru.Lay W → RdI W.heap.size W v (shZ A) → RdI W.heap.size W u A.z → Calls Tryd.prog 41 #[A5 1 1 (shZ A).length 0 v, A5 A.k 1 A.z.length 0 u] W (RetE A 0 W)) := fun hr v u W h0 h1 h2 => by
    have hz : shZ A = [A.a, A.b] := by unfold shZ; rw [if_neg (by omega), if_neg (by omega)]
    obtain ⟨g1, g2⟩ := grid8 hc0 hr
    rw [hz] at h1 ⊢
    have h := rgrid7_any (vecA 1 [A.a, A.b]) (raV A) v u W h0 h1 (by rw [show raV A = ⟨A.k, 1, A.z.length, 0, A.z⟩ from orNo_yes hc0]; exact h2) (by simp [vecA]) (by rw [show raV A = ⟨A.k, 1, A.z.length, 0, A.z⟩ from orNo_yes hc0]; show A.z.length ≤ _; omega)
    rw [g1, g2, show raV A = ⟨A.k, 1, A.z.length, 0, A.z⟩ from orNo_yes hc0] at h
    exact h
  have k2 : (((shZ A).length : Int) != A.r) = false := by simp [p2]
  have HP1 := Lib.hid p1
  have HP2 := Lib.hid p2
  have HP3 := Lib.hid p3
  clear hf hc hc0 hsv p1 p2 p3 i1 i2 j1 j2 j3 j4 ht hn0 hn1
  generalize shZ A = Z at HSh HGd k2 HP1 HP2 HP3
  generalize upZ t = U at HIo HS2
  go_enter Tryd.func11, Tryd.ntmps11
  go_wp2_with (first
    | (go_at_call 22; (with_reducible refine (HSh.out _ (by with_unfolding_all exact HK.out.lay) (by with_unfolding_all exact (HK.out.r _ (.head _)))).mono ?_); rintro e wsh ⟨uwsh, rfl, hu, hb⟩; obtain ⟨pwsh, cwsh, hpwsh, _, _⟩ := hu.form; have hqwsh : uwsh = (.slice pwsh Z.length cwsh) := hpwsh; subst hqwsh; clear hpwsh; have hltxs : w.heap.size < wsh.heap.size := Nat.lt_of_lt_of_le (HK.out.lt _ (.head _)) hb.size; have HK2 := Lib.hid (HK.out.res hb ⟨1, 1, Z.length, 0, Z⟩ hu); clear HK x0 x1 x2 x3 x4; have HK := HK2; clear HK2; clear hb hu; have x0 := (HK.out.a _ (.tail _ (.head _))).c0; have x1 := (HK.out.a _ (.tail _ (.head _))).c1; have x2 := (HK.out.a _ (.tail _ (.head _))).c2; have x3 := (HK.out.a _ (.tail _ (.head _))).c3; have x4 := (HK.out.a _ (.tail _ (.head _))).c4; have s0 := (HK.out.a _ (.head _)).c0; have s1 := (HK.out.a _ (.head _)).c1; have s2 := (HK.out.a _ (.head _)).c2; have s3 := (HK.out.a _ (.head _)).c3; have s4 := (HK.out.a _ (.head _)).c4)
    | (go_at_call 40; (with_reducible refine (HC.out _ (by with_unfolding_all exact (HK.out.r _ (.head _)))).mono ?_); rintro e wz ⟨rfl, hb⟩; have HK2 := Lib.hid (HK.out.next hb); clear HK x0 x1 x2 x3 x4; have HK := HK2; clear HK2; clear hb; have x0 := (HK.out.a _ (.head _)).c0; have x1 := (HK.out.a _ (.head _)).c1; have x2 := (HK.out.a _ (.head _)).c2; have x3 := (HK.out.a _ (.head _)).c3; have x4 := (HK.out.a _ (.head _)).c4)
    | (go_at_call 20; (with_reducible refine (HF.out _ (by with_unfolding_all exact (HK.out.r _ (.head _)))).mono ?_); rintro e wz ⟨rfl, hb⟩; have HK2 := Lib.hid (HK.out.next hb); clear HK x0 x1 x2 x3 x4; have HK := HK2; clear HK2; clear hb; have x0 := (HK.out.a _ (.head _)).c0; have x1 := (HK.out.a _ (.head _)).c1; have x2 := (HK.out.a _ (.head _)).c2; have x3 := (HK.out.a _ (.head _)).c3; have x4 := (HK.out.a _ (.head _)).c4)
    | fail)
  clear HF HC HSh k2 x0 x1 x2 x3 x4 s0 s1 s2 s3 s4
  generalize hws : World.alloc wsh _ = ws at HK ⊢
  clear hws
  go_loopg [7, 8] Z.length (fun gk mn i wr => ∃ (j : Nat), j + gk = Z.length ∧ mn = .int .i64 (prZ (Z.take j)) ∧ i = .int .i64 j ∧ wr = ws)
  case atStart => exact ⟨0, by omega, rfl, rfl, rfl⟩
  case round =>
    obtain ⟨j, hjg, rfl, rfl, rfl⟩ := hrel
    cases gk with
    | zero =>
      have hjz : ¬ ((j : Int) < (Z.length : Int)) := by omega
      have hje : Z.take j = Z := List.take_of_length_le (by omega)
      have hpz : prZ (Z.take j) = (A.z.length : Int) := by rw [hje]; exact HP1.out
      rw [hpz]
      clear hje hpz HP1 HP2 HP3
      have x0 := (HK.out.a _ (.tail _ (.head _))).c0
      have x1 := (HK.out.a _ (.tail _ (.head _))).c1
      have x2 := (HK.out.a _ (.tail _ (.head _))).c2
      have x3 := (HK.out.a _ (.tail _ (.head _))).c3
      have x4 := (HK.out.a _ (.tail _ (.head _))).c4
      have s0 := (HK.out.a _ (.head _)).c0
      have s1 := (HK.out.a _ (.head _)).c1
      have s2 := (HK.out.a _ (.head _)).c2
      have s3 := (HK.out.a _ (.head _)).c3
      have s4 := (HK.out.a _ (.head _)).c4
      skip
      have HT : Hid (A.r = 2 ∨ A.r ≠ 2) := by unfold Hid; omega
      by_cases hr : A.r = 2
      · have k3 : (A.r == 2) = true := by simpa using hr
        have HRa2 := Lib.hid (HRa.out hr)
        have HGd2 := Lib.hid (HGd.out hr)
        clear hr HRa HGd HT
        go_upto_region 18 with (first
          | (go_at_call 37; (with_reducible refine (HQa.out _ _ _ (by with_unfolding_all exact (HK.out.r _ (.head _))) (by with_unfolding_all exact (HK.out.r _ (.tail _ (.tail _ (.tail _ (.head _))))))).mono ?_); rintro e wz ⟨rfl, hb⟩; have HK2 := Lib.hid (HK.out.next hb); clear HK x0 x1 x2 x3 x4 s0 s1 s2 s3 s4 r0 r1 r2 r3 r4 g0 g1 g2 g3 g4; have HK := HK2; clear HK2; clear hb; have x0 := (HK.out.a _ (.tail _ (.tail _ (.tail _ (.head _))))).c0; have x1 := (HK.out.a _ (.tail _ (.tail _ (.tail _ (.head _))))).c1; have x2 := (HK.out.a _ (.tail _ (.tail _ (.tail _ (.head _))))).c2; have x3 := (HK.out.a _ (.tail _ (.tail _ (.tail _ (.head _))))).c3; have x4 := (HK.out.a _ (.tail _ (.tail _ (.tail _ (.head _))))).c4; have s0 := (HK.out.a _ (.tail _ (.tail _ (.head _)))).c0; have s1 := (HK.out.a _ (.tail _ (.tail _ (.head _)))).c1; have s2 := (HK.out.a _ (.tail _ (.tail _ (.head _)))).c2; have s3 := (HK.out.a _ (.tail _ (.tail _ (.head _)))).c3; have s4 := (HK.out.a _ (.tail _ (.tail _ (.head _)))).c4; have r0 := (HK.out.a _ (.tail _ (.head _))).c0; have r1 := (HK.out.a _ (.tail _ (.head _))).c1; have r2 := (HK.out.a _ (.tail _ (.head _))).c2; have r3 := (HK.out.a _ (.tail _ (.head _))).c3; have r4 := (HK.out.a _ (.tail _ (.head _))).c4; have g0 := (HK.out.a _ (.head _)).c0; have g1 := (HK.out.a _ (.head _)).c1; have g2 := (HK.out.a _ (.head _)).c2; have g3 := (HK.out.a _ (.head _)).c3; have g4 := (HK.out.a _ (.head _)).c4)
          | (go_at_call 41; (with_reducible refine (HGd2.out _ _ _ (by with_unfolding_all exact HK.out.lay) (by with_unfolding_all exact (HK.out.r _ (.tail _ (.head _)))) (by with_unfolding_all exact (HK.out.r _ (.head _)))).mono ?_); rintro e wgd ⟨uwgd, rfl, hu, hb⟩; obtain ⟨pwgd, cwgd, hpwgd, _, _⟩ := hu.form; have hqwgd : uwgd = (.slice pwgd A.z.length cwgd) := hpwgd; subst hqwgd; clear hpwgd; have hltrg : wra.heap.size < wgd.heap.size := Nat.lt_of_lt_of_le (HK.out.lt _ (.head _)) hb.size; have hltsg : wsh.heap.size < wgd.heap.size := Nat.lt_of_lt_of_le (HK.out.lt _ (.tail _ (.head _))) hb.size; have hltxg : w.heap.size < wgd.heap.size := Nat.lt_of_lt_of_le (HK.out.lt _ (.tail _ (.tail _ (.head _)))) hb.size; have HK2 := Lib.hid (HK.out.res hb ⟨A.k, A.r, A.a, A.b, A.z⟩ hu); clear HK x0 x1 x2 x3 x4 s0 s1 s2 s3 s4 r0 r1 r2 r3 r4; have HK := HK2; clear HK2; clear hb hu; have x0 := (HK.out.a _ (.tail _ (.tail _ (.tail _ (.head _))))).c0; have x1 := (HK.out.a _ (.tail _ (.tail _ (.tail _ (.head _))))).c1; have x2 := (HK.out.a _ (.tail _ (.tail _ (.tail _ (.head _))))).c2; have x3 := (HK.out.a _ (.tail _ (.tail _ (.tail _ (.head _))))).c3; have x4 := (HK.out.a _ (.tail _ (.tail _ (.tail _ (.head _))))).c4; have s0 := (HK.out.a _ (.tail _ (.tail _ (.head _)))).c0; have s1 := (HK.out.a _ (.tail _ (.tail _ (.head _)))).c1; have s2 := (HK.out.a _ (.tail _ (.tail _ (.head _)))).c2; have s3 := (HK.out.a _ (.tail _ (.tail _ (.head _)))).c3; have s4 := (HK.out.a _ (.tail _ (.tail _ (.head _)))).c4; have r0 := (HK.out.a _ (.tail _ (.head _))).c0; have r1 := (HK.out.a _ (.tail _ (.head _))).c1; have r2 := (HK.out.a _ (.tail _ (.head _))).c2; have r3 := (HK.out.a _ (.tail _ (.head _))).c3; have r4 := (HK.out.a _ (.tail _ (.head _))).c4; have g0 := (HK.out.a _ (.head _)).c0; have g1 := (HK.out.a _ (.head _)).c1; have g2 := (HK.out.a _ (.head _)).c2; have g3 := (HK.out.a _ (.head _)).c3; have g4 := (HK.out.a _ (.head _)).c4)
          | (go_at_call 14; (with_reducible refine (HRa2.out _ (by with_unfolding_all exact HK.out.lay) (by with_unfolding_all exact (HK.out.r _ (.tail _ (.head _)))) (by with_unfolding_all exact HK.out.n _ (.tail _ (.head _)))).mono ?_); rintro e wra ⟨uwra, rfl, hu, hb⟩; obtain ⟨pwra, cwra, hpwra, _, _⟩ := hu.form; have hqwra : uwra = (.slice pwra A.z.length cwra) := hpwra; subst hqwra; clear hpwra; have hltsr : wsh.heap.size < wra.heap.size := Nat.lt_of_lt_of_le (HK.out.lt _ (.head _)) hb.size; have hltxr : w.heap.size < wra.heap.size := Nat.lt_of_lt_of_le (HK.out.lt _ (.tail _ (.head _))) hb.size; have HK2 := Lib.hid (HK.out.res hb ⟨A.k, 1, A.z.length, 0, A.z⟩ hu); clear HK x0 x1 x2 x3 x4 s0 s1 s2 s3 s4; have HK := HK2; clear HK2; clear hb hu; have x0 := (HK.out.a _ (.tail _ (.tail _ (.head _)))).c0; have x1 := (HK.out.a _ (.tail _ (.tail _ (.head _)))).c1; have x2 := (HK.out.a _ (.tail _ (.tail _ (.head _)))).c2; have x3 := (HK.out.a _ (.tail _ (.tail _ (.head _)))).c3; have x4 := (HK.out.a _ (.tail _ (.tail _ (.head _)))).c4; have s0 := (HK.out.a _ (.tail _ (.head _))).c0; have s1 := (HK.out.a _ (.tail _ (.head _))).c1; have s2 := (HK.out.a _ (.tail _ (.head _))).c2; have s3 := (HK.out.a _ (.tail _ (.head _))).c3; have s4 := (HK.out.a _ (.tail _ (.head _))).c4; have r0 := (HK.out.a _ (.head _)).c0; have r1 := (HK.out.a _ (.head _)).c1; have r2 := (HK.out.a _ (.head _)).c2; have r3 := (HK.out.a _ (.head _)).c3; have r4 := (HK.out.a _ (.head _)).c4)
          | fail)
        clear HRa2 HGd2 HQa k3
        go_upto_region 21 with (first
          | (go_at_call 22; (with_reducible refine (HS2.out _ _ (by with_unfolding_all exact HK.out.lay) (by with_unfolding_all exact (HK.out.r _ (.head _)))).mono ?_); rintro e wt ⟨uwt, rfl, hu, hb⟩; obtain ⟨pwt, cwt, hpwt, _, _⟩ := hu.form; have hqwt : uwt = (.slice pwt 1 cwt) := hpwt; subst hqwt; clear hpwt; have hltit : wio.heap.size < wt.heap.size := Nat.lt_of_lt_of_le (HK.out.lt _ (.head _)) hb.size; have hltnt : wi.heap.size < wt.heap.size := Nat.lt_of_lt_of_le (HK.out.lt _ (.tail _ (.head _))) hb.size; have hltgt : wgd.heap.size < wt.heap.size := Nat.lt_of_lt_of_le (HK.out.lt _ (.tail _ (.tail _ (.head _)))) hb.size; have hltrt : wra.heap.size < wt.heap.size := Nat.lt_of_lt_of_le (HK.out.lt _ (.tail _ (.tail _ (.tail _ (.head _))))) hb.size; have hltst : wsh.heap.size < wt.heap.size := Nat.lt_of_lt_of_le (HK.out.lt _ (.tail _ (.tail _ (.tail _ (.tail _ (.head _)))))) hb.size; have hltxt : w.heap.size < wt.heap.size := Nat.lt_of_lt_of_le (HK.out.lt _ (.tail _ (.tail _ (.tail _ (.tail _ (.tail _ (.head _))))))) hb.size; have HK2 := Lib.hid (HK.out.res hb ⟨1, 1, 1, 0, [(t : Int)]⟩ hu); clear HK n0 n1 n2 n3 n4 i0 i1 i2 i3 i4; have HK := HK2; clear HK2; clear hb hu; have n0 := (HK.out.a _ (.tail _ (.tail _ (.head _)))).c0; have n1 := (HK.out.a _ (.tail _ (.tail _ (.head _)))).c1; have n2 := (HK.out.a _ (.tail _ (.tail _ (.head _)))).c2; have n3 := (HK.out.a _ (.tail _ (.tail _ (.head _)))).c3; have n4 := (HK.out.a _ (.tail _ (.tail _ (.head _)))).c4; have i0 := (HK.out.a _ (.tail _ (.head _))).c0; have i1 := (HK.out.a _ (.tail _ (.head _))).c1; have i2 := (HK.out.a _ (.tail _ (.head _))).c2; have i3 := (HK.out.a _ (.tail _ (.head _))).c3; have i4 := (HK.out.a _ (.tail _ (.head _))).c4; have t0 := (HK.out.a _ (.head _)).c0; have t1 := (HK.out.a _ (.head _)).c1; have t2 := (HK.out.a _ (.head _)).c2; have t3 := (HK.out.a _ (.head _)).c3; have t4 := (HK.out.a _ (.head _)).c4)
          | (go_at_call 24; (with_reducible refine (HIo.out _ _ (by with_unfolding_all exact HK.out.lay) (by with_unfolding_all exact (HK.out.r _ (.head _)))).mono ?_); rintro e wio ⟨uwio, rfl, hu, hb⟩; obtain ⟨pwio, cwio, hpwio, _, _⟩ := hu.form; have hqwio : uwio = (.slice pwio U.length cwio) := hpwio; subst hqwio; clear hpwio; have hltni : wi.heap.size < wio.heap.size := Nat.lt_of_lt_of_le (HK.out.lt _ (.head _)) hb.size; have hltgi : wgd.heap.size < wio.heap.size := Nat.lt_of_lt_of_le (HK.out.lt _ (.tail _ (.head _))) hb.size; have hltri : wra.heap.size < wio.heap.size := Nat.lt_of_lt_of_le (HK.out.lt _ (.tail _ (.tail _ (.head _)))) hb.size; have hltsi : wsh.heap.size < wio.heap.size := Nat.lt_of_lt_of_le (HK.out.lt _ (.tail _ (.tail _ (.tail _ (.head _))))) hb.size; have hltxi : w.heap.size < wio.heap.size := Nat.lt_of_lt_of_le (HK.out.lt _ (.tail _ (.tail _ (.tail _ (.tail _ (.head _)))))) hb.size; have HK2 := Lib.hid (HK.out.res hb ⟨1, 1, U.length, 0, U⟩ hu); clear HK n0 n1 n2 n3 n4; have HK := HK2; clear HK2; clear hb hu; have n0 := (HK.out.a _ (.tail _ (.head _))).c0; have n1 := (HK.out.a _ (.tail _ (.head _))).c1; have n2 := (HK.out.a _ (.tail _ (.head _))).c2; have n3 := (HK.out.a _ (.tail _ (.head _))).c3; have n4 := (HK.out.a _ (.tail _ (.head _))).c4; have i0 := (HK.out.a _ (.head _)).c0; have i1 := (HK.out.a _ (.head _)).c1; have i2 := (HK.out.a _ (.head _)).c2; have i3 := (HK.out.a _ (.head _)).c3; have i4 := (HK.out.a _ (.head _)).c4)
          | (go_at_call 36; (with_reducible refine (HI.out (t : Int) _).mono ?_); rintro e wi ⟨ui, rfl, hu, hb⟩; obtain ⟨pwi, cwi, hpwi, _, _⟩ := hu.form; have hqwi : ui = (.slice pwi 1 cwi) := hpwi; subst hqwi; clear hpwi; have HK2 := Lib.hid (HK.out.res hb ⟨1, 0, 0, 0, [(t : Int)]⟩ hu); clear HK hb hu x0 x1 x2 x3 x4 s0 s1 s2 s3 s4 r0 r1 r2 r3 r4 g0 g1 g2 g3 g4; have HK := HK2; clear HK2; have n0 := (HK.out.a _ (.head _)).c0; have n1 := (HK.out.a _ (.head _)).c1; have n2 := (HK.out.a _ (.head _)).c2; have n3 := (HK.out.a _ (.head _)).c3; have n4 := (HK.out.a _ (.head _)).c4)
          | fail)
        generalize hwt : World.alloc wt _ = wy at HK n0 n1 n2 n3 n4 i0 i1 i2 i3 i4 t0 t1 t2 t3 t4 ⊢
        clear hwt
        clear HIo HS2
        go_cut [18, 19] (fun sp se wx => CutE w [⟨wt.heap.size, ⟨1, 1, 1, 0, [(t : Int)]⟩, (.slice pwt 1 cwt)⟩, ⟨wio.heap.size, ⟨1, 1, U.length, 0, U⟩, (.slice pwio U.length cwio)⟩, ⟨wi.heap.size, ⟨1, 0, 0, 0, [(t : Int)]⟩, (.slice pwi 1 cwi)⟩, ⟨wgd.heap.size, ⟨A.k, A.r, A.a, A.b, A.z⟩, (.slice pwgd A.z.length cwgd)⟩, ⟨wra.heap.size, ⟨A.k, 1, A.z.length, 0, A.z⟩, (.slice pwra A.z.length cwra)⟩, ⟨wsh.heap.size, ⟨1, 1, Z.length, 0, Z⟩, (.slice pwsh Z.length cwsh)⟩, ⟨w.heap.size, A, (.slice q A.z.length cap)⟩] sp se ⟨1, 0, 0, 0, [(t : Int)]⟩ 0 wx)
        case first =>
          as_aux_lemma =>
            clear n0 n1 n2 n3 n4 i0 i1 i2 i3 i4 t0 t1 t2 t3 t4
            have HLt : Hid (∀ g ∈ List.map Bk.g [⟨wt.heap.size, ⟨1, 1, 1, 0, [(t : Int)]⟩, (.slice pwt 1 cwt)⟩, ⟨wio.heap.size, ⟨1, 1, U.length, 0, U⟩, (.slice pwio U.length cwio)⟩, ⟨wi.heap.size, ⟨1, 0, 0, 0, [(t : Int)]⟩, (.slice pwi 1 cwi)⟩, ⟨wgd.heap.size, ⟨A.k, A.r, A.a, A.b, A.z⟩, (.slice pwgd A.z.length cwgd)⟩, ⟨wra.heap.size, ⟨A.k, 1, A.z.length, 0, A.z⟩, (.slice pwra A.z.length cwra)⟩, ⟨wsh.heap.size, ⟨1, 1, Z.length, 0, Z⟩, (.slice pwsh Z.length cwsh)⟩, ⟨w.heap.size, A, (.slice q A.z.length cap)⟩], g < wy.heap.size) := fun g hg => by obtain ⟨c, hc, rfl⟩ := List.mem_map.1 hg; exact HK.out.lt c hc
            have HAll : Hid (∀ W, Below wy.heap.size wy W → (fun W => Below wy.heap.size wy W ∧ W.cell? ⟨wt.heap.size, 0, none⟩ = some (.int .i64 1) ∧ W.cell? ⟨wt.heap.size, 1, none⟩ = some (.int .i64 1) ∧ W.cell? ⟨wt.heap.size, 2, none⟩ = some (.int .i64 1) ∧ W.cell? ⟨wt.heap.size, 3, none⟩ = some (.int .i64 0) ∧ W.cell? ⟨wt.heap.size, 4, none⟩ = some ((.slice pwt 1 cwt))) W) := fun W h => ⟨h, ((HK.out.next h).a _ (.head _)).c0, ((HK.out.next h).a _ (.head _)).c1, ((HK.out.next h).a _ (.head _)).c2, ((HK.out.next h).a _ (.head _)).c3, ((HK.out.next h).a _ (.head _)).c4⟩
            refine wp_region_held_drew (S := (fun W => Below wy.heap.size wy W ∧ W.cell? ⟨wt.heap.size, 0, none⟩ = some (.int .i64 1) ∧ W.cell? ⟨wt.heap.size, 1, none⟩ = some (.int .i64 1) ∧ W.cell? ⟨wt.heap.size, 2, none⟩ = some (.int .i64 1) ∧ W.cell? ⟨wt.heap.size, 3, none⟩ = some (.int .i64 0) ∧ W.cell? ⟨wt.heap.size, 4, none⟩ = some ((.slice pwt 1 cwt)))) (by kernel_rfl) ?_ (fun hHeld => ?_)
            · exact HAll.out _ (Below.refl _ _).drew
            have HB0 : Hid (Below wy.heap.size wy (World.drew wy)) := (Below.refl _ _).drew
            generalize World.drew wy = wd at hHeld HB0 ⊢
            refine wpAnyH_take (i := 0) (v := ?_) rfl (by kernel_rfl) (by kernel_rfl) (by kernel_rfl) (fun _ _ _ h => h) (Or.inl ⟨by rfl, ?_⟩) (by assumption) ?_
            rotate_left
            · ((intro w0 hSw); (try dsimp only at hSw); go_simp; (try with_reducible rfl))
            change wpAnyH _ _ _ _ _ _ _ (Act.put _ (some 110) _) _
            try simp only [Act.put, List.setIfInBounds_toArray, List.set_cons_zero, List.set_cons_succ]
            refine wpAnyH_ready (rs := [1, 6]) (by kernel_rfl) (by simp) ?_
            refine AllReadyH.cons rfl (fun K hK => ?_) (AllReadyH.cons rfl (fun K hK => ?_) (AllReadyH.nil))
            · go_simp
              go_at_call 36
              with_reducible refine (HI.out 0 _).mono ?_
              rintro e wn6 ⟨uz7, rfl, hu3, hb4⟩
              obtain ⟨qz1, cz2, hq8, _, _⟩ := hu3.form
              have hq82 : uz7 = (.slice qz1 1 cz2) := hq8
              subst hq82
              clear hq8
              have HB5 := Lib.hid (HB0.out.trans (hb4.mono HB0.out.size))
              refine hK.out _ _ ?_ (fun hHeld2 => ?_)
              · exact HAll.out _ HB5.out
              clear hK K hHeld
              have hHeld := hHeld2; clear hHeld2
              try change wpAnyH _ _ _ _ _ _ _ (Act.put _ (some 111) _) _
              try dsimp only
              try simp only [Act.put, List.setIfInBounds_toArray, List.set_cons_zero, List.set_cons_succ]
              have HU9 := Lib.hid hu3.rd
              have HU9n := Lib.hid hu3.nilC
              clear hu3 hb4
              refine wpAnyH_ready (rs := [2, 6]) (by kernel_rfl) (by simp) ?_
              refine AllReadyH.cons rfl (fun K hK => ?_) (AllReadyH.cons rfl (fun K hK => ?_) (AllReadyH.nil))
              · go_simp
                go_at_call 27
                with_reducible refine (HAt.out _ _ _ (HK.out.next HB5.out).lay (by with_unfolding_all exact ((HK.out.next HB5.out).r _ (.head _))) HU9.out).mono ?_
                rintro e wn15 ⟨uz16, rfl, hu12, hb13⟩
                obtain ⟨qz10, cz11, hq17, _, _⟩ := hu12.form
                have hq172 : uz16 = (.slice qz10 1 cz11) := hq17
                subst hq172
                clear hq17
                have HB14 := Lib.hid (HB5.out.trans (hb13.mono HB5.out.size))
                refine hK.out _ _ ?_ (fun hHeld2 => ?_)
                · exact HAll.out _ HB14.out
                clear hK K hHeld
                have hHeld := hHeld2; clear hHeld2
                try change wpAnyH _ _ _ _ _ _ _ (Act.put _ (some 112) _) _
                try dsimp only
                try simp only [Act.put, List.setIfInBounds_toArray, List.set_cons_zero, List.set_cons_succ]
                have HC18 := Lib.hid (HU9.out.next hb13)
                have HX19 : Hid (RdX (List.map Bk.g [⟨wt.heap.size, ⟨1, 1, 1, 0, [(t : Int)]⟩, (.slice pwt 1 cwt)⟩, ⟨wio.heap.size, ⟨1, 1, U.length, 0, U⟩, (.slice pwio U.length cwio)⟩, ⟨wi.heap.size, ⟨1, 0, 0, 0, [(t : Int)]⟩, (.slice pwi 1 cwi)⟩, ⟨wgd.heap.size, ⟨A.k, A.r, A.a, A.b, A.z⟩, (.slice pwgd A.z.length cwgd)⟩, ⟨wra.heap.size, ⟨A.k, 1, A.z.length, 0, A.z⟩, (.slice pwra A.z.length cwra)⟩, ⟨wsh.heap.size, ⟨1, 1, Z.length, 0, Z⟩, (.slice pwsh Z.length cwsh)⟩, ⟨w.heap.size, A, (.slice q A.z.length cap)⟩]) wn15 (.slice qz10 1 cz11) [(t : Int)]) := rdN_toX hu12 (fun g mg => Nat.lt_of_lt_of_le (HLt.out g mg) HB5.out.size)
                have HN20 := Lib.hid hu12.nilC
                clear hu12 hb13
                refine wpAnyH_take (i := 3) (v := ?_) rfl (by kernel_rfl) (by kernel_rfl) (by kernel_rfl) (fun _ _ _ h => h) (Or.inl ⟨by rfl, ?_⟩) (by assumption) ?_
                rotate_left
                · ((intro w0 hSw); (try dsimp only at hSw); go_simp; (try with_reducible rfl))
                change wpAnyH _ _ _ _ _ _ _ (Act.put _ (some 109) _) _
                try simp only [Act.put, List.setIfInBounds_toArray, List.set_cons_zero, List.set_cons_succ]
                refine wpAnyH_take (i := 4) (v := ?_) rfl (by kernel_rfl) (by kernel_rfl) (by kernel_rfl) (fun _ _ _ h => h) (Or.inl ⟨by rfl, ?_⟩) (by assumption) ?_
                rotate_left
                · ((intro w0 hSw); (try dsimp only at hSw); go_simp; (try with_reducible rfl))
                change wpAnyH _ _ _ _ _ _ _ (Act.put _ (some 113) _) _
                try simp only [Act.put, List.setIfInBounds_toArray, List.set_cons_zero, List.set_cons_succ]
                refine wpAnyH_take (i := 5) (v := ?_) rfl (by kernel_rfl) (by kernel_rfl) (by kernel_rfl) (fun _ _ _ h => h) (Or.inl ⟨by rfl, ?_⟩) (by assumption) ?_
                rotate_left
                · ((intro w0 hSw); (try dsimp only at hSw); go_simp; (try with_reducible rfl))
                change wpAnyH _ _ _ _ _ _ _ (Act.put _ (some 114) _) _
                try simp only [Act.put, List.setIfInBounds_toArray, List.set_cons_zero, List.set_cons_succ]
                refine wpAnyH_ready (rs := [6]) (by kernel_rfl) (by simp) ?_
                refine AllReadyH.cons rfl (fun K hK => ?_) (AllReadyH.nil)
                go_simp
                refine hK.out _ _ ?_ (fun hHeld2 => ?_)
                · exact HAll.out _ (HB14.out.trans ((bel1 wn15 _).mono HB14.out.size))
                clear hK K hHeld
                have hHeld := hHeld2; clear hHeld2
                try change wpAnyH _ _ _ _ _ _ _ (Act.put _ (some 18) _) _
                try simp only [Act.put, List.setIfInBounds_toArray, List.set_cons_zero, List.set_cons_succ]
                generalize hwx22 : World.alloc wn15 _ = wa21 at hHeld ⊢
                have HB23 : Hid (Below wy.heap.size wy wa21) := by rw [← hwx22]; exact HB14.out.trans ((bel1 wn15 _).mono HB14.out.size)
                have Hbx24 : Hid (Below wn15.heap.size wn15 wa21) := by rw [← hwx22]; exact bel1 _ _
                have HC25 := Lib.hid (HC18.out.next Hbx24.out)
                have HG26 : Hid (R5 wa21 wn15.heap.size 0 0 0 0 (.slice none 0 0)) := by rw [← hwx22]; exact R5.new _ _ _ _ _ _
                have hge : wy.heap.size ≤ wn15.heap.size := HB14.out.size
                have HX27 : Hid (RdX (wn15.heap.size :: List.map Bk.g [⟨wt.heap.size, ⟨1, 1, 1, 0, [(t : Int)]⟩, (.slice pwt 1 cwt)⟩, ⟨wio.heap.size, ⟨1, 1, U.length, 0, U⟩, (.slice pwio U.length cwio)⟩, ⟨wi.heap.size, ⟨1, 0, 0, 0, [(t : Int)]⟩, (.slice pwi 1 cwi)⟩, ⟨wgd.heap.size, ⟨A.k, A.r, A.a, A.b, A.z⟩, (.slice pwgd A.z.length cwgd)⟩, ⟨wra.heap.size, ⟨A.k, 1, A.z.length, 0, A.z⟩, (.slice pwra A.z.length cwra)⟩, ⟨wsh.heap.size, ⟨1, 1, Z.length, 0, Z⟩, (.slice pwsh Z.length cwsh)⟩, ⟨w.heap.size, A, (.slice q A.z.length cap)⟩]) wa21 (.slice qz10 1 cz11) [(t : Int)]) := (HX19.out.more (Nat.le_refl _)).keep Hbx24.out.size (fun c' _ hc' => Hbx24.out.block c' hc')
                clear hwx22
                as_aux_lemma =>
                  refine wpAnyH_ready (rs := [7]) (by kernel_rfl) (by simp) ?_
                  refine AllReadyH.cons rfl (fun K hK => ?_) (AllReadyH.nil)
                  have y0 := HG26.out.c0; have y1 := HG26.out.c1; have y2 := HG26.out.c2; have y3 := HG26.out.c3; have y4 := HG26.out.c4; have f0 := HG26.out.fr 0; have f1 := HG26.out.fr 1; have f2 := HG26.out.fr 2; have f3 := HG26.out.fr 3; have f4 := HG26.out.fr 4; have HS := Lib.hid (HG26.out.set 1 0 0 0 (.slice qz10 1 cz11)); have z0 := HS.out.c0; have z1 := HS.out.c1; have z2 := HS.out.c2; have z3 := HS.out.c3; have z4 := HS.out.c4
                  go_simp
                  refine hK.out _ _ ?_ (fun hHeld2 => ?_)
                  · exact HAll.out _ (st5_below _ _ _ _ _ hge HB23.out)
                  clear hK K hHeld
                  have hHeld := hHeld2; clear hHeld2
                  try simp only [Act.put, List.setIfInBounds_toArray, List.set_cons_zero, List.set_cons_succ]
                  refine wpAnyH_take (i := 8) (v := ?_) rfl (by kernel_rfl) (by kernel_rfl) (by kernel_rfl) (fun _ _ _ h => h) (Or.inl ⟨by rfl, ?_⟩) (by assumption) ?_
                  rotate_left
                  · ((intro w0 hSw); (try dsimp only at hSw); go_simp; (try with_reducible rfl))
                  change wpAnyH _ _ _ _ _ _ _ (Act.put _ (some 19) _) _
                  try simp only [Act.put, List.setIfInBounds_toArray, List.set_cons_zero, List.set_cons_succ]
                  refine wpAnyH_done (by kernel_rfl) ?_ _
                  go_wp2_with fail
                  go_meet
                  case rel => exact ⟨wn15.heap.size, qz10, cz11, rfl, rfl, HK.out.newAt HB23.out hge HG26.out ⟨1, 0, 0, 0, [(t : Int)]⟩ HX27.out HN20.out, fun b mb => Nat.lt_of_lt_of_le (HK.out.lt b mb) hge⟩
              · go_simp
                refine hK.out _ _ ?_ (fun hHeld2 => ?_)
                · exact HAll.out _ (HB5.out.trans ((bel1 wn6 _).mono HB5.out.size))
                clear hK K hHeld
                have hHeld := hHeld2; clear hHeld2
                try change wpAnyH _ _ _ _ _ _ _ (Act.put _ (some 18) _) _
                try simp only [Act.put, List.setIfInBounds_toArray, List.set_cons_zero, List.set_cons_succ]
                generalize hwx29 : World.alloc wn6 _ = wa28 at hHeld ⊢
                have HB30 : Hid (Below wy.heap.size wy wa28) := by rw [← hwx29]; exact HB5.out.trans ((bel1 wn6 _).mono HB5.out.size)
                have Hbx31 : Hid (Below wn6.heap.size wn6 wa28) := by rw [← hwx29]; exact bel1 _ _
                have HC32 := Lib.hid (HU9.out.next Hbx31.out)
                have HG33 : Hid (R5 wa28 wn6.heap.size 0 0 0 0 (.slice none 0 0)) := by rw [← hwx29]; exact R5.new _ _ _ _ _ _
                have hge : wy.heap.size ≤ wn6.heap.size := HB5.out.size
                clear hwx29
                refine wpAnyH_ready (rs := [2]) (by kernel_rfl) (by simp) ?_
                refine AllReadyH.cons rfl (fun K hK => ?_) (AllReadyH.nil)
                go_simp
                go_at_call 27
                with_reducible refine (HAt.out _ _ _ (HK.out.next HB30.out).lay (by with_unfolding_all exact ((HK.out.next HB30.out).r _ (.head _))) HC32.out).mono ?_
                rintro e wn39 ⟨uz40, rfl, hu36, hb37⟩
                obtain ⟨qz34, cz35, hq41, _, _⟩ := hu36.form
                have hq412 : uz40 = (.slice qz34 1 cz35) := hq41
                subst hq412
                clear hq41
                have HB38 := Lib.hid (HB30.out.trans (hb37.mono HB30.out.size))
                refine hK.out _ _ ?_ (fun hHeld2 => ?_)
                · exact HAll.out _ HB38.out
                clear hK K hHeld
                have hHeld := hHeld2; clear hHeld2
                try change wpAnyH _ _ _ _ _ _ _ (Act.put _ (some 112) _) _
                try dsimp only
                try simp only [Act.put, List.setIfInBounds_toArray, List.set_cons_zero, List.set_cons_succ]
                have HC42 := Lib.hid (HC32.out.next hb37)
                have HC43 := Lib.hid (HG33.out.next hb37)
                have HX44 : Hid (RdX (wn6.heap.size :: List.map Bk.g [⟨wt.heap.size, ⟨1, 1, 1, 0, [(t : Int)]⟩, (.slice pwt 1 cwt)⟩, ⟨wio.heap.size, ⟨1, 1, U.length, 0, U⟩, (.slice pwio U.length cwio)⟩, ⟨wi.heap.size, ⟨1, 0, 0, 0, [(t : Int)]⟩, (.slice pwi 1 cwi)⟩, ⟨wgd.heap.size, ⟨A.k, A.r, A.a, A.b, A.z⟩, (.slice pwgd A.z.length cwgd)⟩, ⟨wra.heap.size, ⟨A.k, 1, A.z.length, 0, A.z⟩, (.slice pwra A.z.length cwra)⟩, ⟨wsh.heap.size, ⟨1, 1, Z.length, 0, Z⟩, (.slice pwsh Z.length cwsh)⟩, ⟨w.heap.size, A, (.slice q A.z.length cap)⟩]) wn39 (.slice qz34 1 cz35) [(t : Int)]) := rdN_toX hu36 (fun g mg => by
                  rcases List.mem_cons.1 mg with rfl | mg
                  · exact HG33.out.lt
                  · exact Nat.lt_of_lt_of_le (HLt.out g mg) HB30.out.size)
                have HN45 := Lib.hid hu36.nilC
                clear hu36 hb37
                refine wpAnyH_take (i := 3) (v := ?_) rfl (by kernel_rfl) (by kernel_rfl) (by kernel_rfl) (fun _ _ _ h => h) (Or.inl ⟨by rfl, ?_⟩) (by assumption) ?_
                rotate_left
                · ((intro w0 hSw); (try dsimp only at hSw); go_simp; (try with_reducible rfl))
                change wpAnyH _ _ _ _ _ _ _ (Act.put _ (some 109) _) _
                try simp only [Act.put, List.setIfInBounds_toArray, List.set_cons_zero, List.set_cons_succ]
                refine wpAnyH_take (i := 4) (v := ?_) rfl (by kernel_rfl) (by kernel_rfl) (by kernel_rfl) (fun _ _ _ h => h) (Or.inl ⟨by rfl, ?_⟩) (by assumption) ?_
                rotate_left
                · ((intro w0 hSw); (try dsimp only at hSw); go_simp; (try with_reducible rfl))
                change wpAnyH _ _ _ _ _ _ _ (Act.put _ (some 113) _) _
                try simp only [Act.put, List.setIfInBounds_toArray, List.set_cons_zero, List.set_cons_succ]
                refine wpAnyH_take (i := 5) (v := ?_) rfl (by kernel_rfl) (by kernel_rfl) (by kernel_rfl) (fun _ _ _ h => h) (Or.inl ⟨by rfl, ?_⟩) (by assumption) ?_
                rotate_left
                · ((intro w0 hSw); (try dsimp only at hSw); go_simp; (try with_reducible rfl))
                change wpAnyH _ _ _ _ _ _ _ (Act.put _ (some 114) _) _
                try simp only [Act.put, List.setIfInBounds_toArray, List.set_cons_zero, List.set_cons_succ]
                as_aux_lemma =>
                  refine wpAnyH_ready (rs := [7]) (by kernel_rfl) (by simp) ?_
                  refine AllReadyH.cons rfl (fun K hK => ?_) (AllReadyH.nil)
                  have y0 := HC43.out.c0; have y1 := HC43.out.c1; have y2 := HC43.out.c2; have y3 := HC43.out.c3; have y4 := HC43.out.c4; have f0 := HC43.out.fr 0; have f1 := HC43.out.fr 1; have f2 := HC43.out.fr 2; have f3 := HC43.out.fr 3; have f4 := HC43.out.fr 4; have HS := Lib.hid (HC43.out.set 1 0 0 0 (.slice qz34 1 cz35)); have z0 := HS.out.c0; have z1 := HS.out.c1; have z2 := HS.out.c2; have z3 := HS.out.c3; have z4 := HS.out.c4
                  go_simp
                  refine hK.out _ _ ?_ (fun hHeld2 => ?_)
                  · exact HAll.out _ (st5_below _ _ _ _ _ hge HB38.out)
                  clear hK K hHeld
                  have hHeld := hHeld2; clear hHeld2
                  try simp only [Act.put, List.setIfInBounds_toArray, List.set_cons_zero, List.set_cons_succ]
                  refine wpAnyH_take (i := 8) (v := ?_) rfl (by kernel_rfl) (by kernel_rfl) (by kernel_rfl) (fun _ _ _ h => h) (Or.inl ⟨by rfl, ?_⟩) (by assumption) ?_
                  rotate_left
                  · ((intro w0 hSw); (try dsimp only at hSw); go_simp; (try with_reducible rfl))
                  change wpAnyH _ _ _ _ _ _ _ (Act.put _ (some 19) _) _
                  try simp only [Act.put, List.setIfInBounds_toArray, List.set_cons_zero, List.set_cons_succ]
                  refine wpAnyH_done (by kernel_rfl) ?_ _
                  go_wp2_with fail
                  go_meet
                  case rel => exact ⟨wn6.heap.size, qz34, cz35, rfl, rfl, HK.out.newAt HB38.out hge HC43.out ⟨1, 0, 0, 0, [(t : Int)]⟩ HX44.out HN45.out, fun b mb => Nat.lt_of_lt_of_le (HK.out.lt b mb) hge⟩
            · go_simp
              refine hK.out _ _ ?_ (fun hHeld2 => ?_)
              · exact HAll.out _ (HB0.out.trans ((bel1 wd _).mono HB0.out.size))
              clear hK K hHeld
              have hHeld := hHeld2; clear hHeld2
              try change wpAnyH _ _ _ _ _ _ _ (Act.put _ (some 18) _) _
              try simp only [Act.put, List.setIfInBounds_toArray, List.set_cons_zero, List.set_cons_succ]
              generalize hwx47 : World.alloc wd _ = wa46 at hHeld ⊢
              have HB48 : Hid (Below wy.heap.size wy wa46) := by rw [← hwx47]; exact HB0.out.trans ((bel1 wd _).mono HB0.out.size)
              have Hbx49 : Hid (Below wd.heap.size wd wa46) := by rw [← hwx47]; exact bel1 _ _
              have HG50 : Hid (R5 wa46 wd.heap.size 0 0 0 0 (.slice none 0 0)) := by rw [← hwx47]; exact R5.new _ _ _ _ _ _
              have hge : wy.heap.size ≤ wd.heap.size := HB0.out.size
              clear hwx47
              refine wpAnyH_ready (rs := [1]) (by kernel_rfl) (by simp) ?_
              refine AllReadyH.cons rfl (fun K hK => ?_) (AllReadyH.nil)
              go_simp
              go_at_call 36
              with_reducible refine (HI.out 0 _).mono ?_
              rintro e wn56 ⟨uz57, rfl, hu53, hb54⟩
              obtain ⟨qz51, cz52, hq58, _, _⟩ := hu53.form
              have hq582 : uz57 = (.slice qz51 1 cz52) := hq58
              subst hq582
              clear hq58
              have HB55 := Lib.hid (HB48.out.trans (hb54.mono HB48.out.size))
              refine hK.out _ _ ?_ (fun hHeld2 => ?_)
              · exact HAll.out _ HB55.out
              clear hK K hHeld
              have hHeld := hHeld2; clear hHeld2
              try change wpAnyH _ _ _ _ _ _ _ (Act.put _ (some 111) _) _
              try dsimp only
              try simp only [Act.put, List.setIfInBounds_toArray, List.set_cons_zero, List.set_cons_succ]
              have HC59 := Lib.hid (HG50.out.next hb54)
              have HU60 := Lib.hid hu53.rd
              have HU60n := Lib.hid hu53.nilC
              clear hu53 hb54
              refine wpAnyH_ready (rs := [2]) (by kernel_rfl) (by simp) ?_
              refine AllReadyH.cons rfl (fun K hK => ?_) (AllReadyH.nil)
              go_simp
              go_at_call 27
              with_reducible refine (HAt.out _ _ _ (HK.out.next HB55.out).lay (by with_unfolding_all exact ((HK.out.next HB55.out).r _ (.head _))) HU60.out).mono ?_
              rintro e wn66 ⟨uz67, rfl, hu63, hb64⟩
              obtain ⟨qz61, cz62, hq68, _, _⟩ := hu63.form
              have hq682 : uz67 = (.slice qz61 1 cz62) := hq68
              subst hq682
              clear hq68
              have HB65 := Lib.hid (HB55.out.trans (hb64.mono HB55.out.size))
              refine hK.out _ _ ?_ (fun hHeld2 => ?_)
              · exact HAll.out _ HB65.out
              clear hK K hHeld
              have hHeld := hHeld2; clear hHeld2
              try change wpAnyH _ _ _ _ _ _ _ (Act.put _ (some 112) _) _
              try dsimp only
              try simp only [Act.put, List.setIfInBounds_toArray, List.set_cons_zero, List.set_cons_succ]
              have HC69 := Lib.hid (HC59.out.next hb64)
              have HC70 := Lib.hid (HU60.out.next hb64)
              have HX71 : Hid (RdX (wd.heap.size :: List.map Bk.g [⟨wt.heap.size, ⟨1, 1, 1, 0, [(t : Int)]⟩, (.slice pwt 1 cwt)⟩, ⟨wio.heap.size, ⟨1, 1, U.length, 0, U⟩, (.slice pwio U.length cwio)⟩, ⟨wi.heap.size, ⟨1, 0, 0, 0, [(t : Int)]⟩, (.slice pwi 1 cwi)⟩, ⟨wgd.heap.size, ⟨A.k, A.r, A.a, A.b, A.z⟩, (.slice pwgd A.z.length cwgd)⟩, ⟨wra.heap.size, ⟨A.k, 1, A.z.length, 0, A.z⟩, (.slice pwra A.z.length cwra)⟩, ⟨wsh.heap.size, ⟨1, 1, Z.length, 0, Z⟩, (.slice pwsh Z.length cwsh)⟩, ⟨w.heap.size, A, (.slice q A.z.length cap)⟩]) wn66 (.slice qz61 1 cz62) [(t : Int)]) := rdN_toX hu63 (fun g mg => by
                rcases List.mem_cons.1 mg with rfl | mg
                · exact HC59.out.lt
                · exact Nat.lt_of_lt_of_le (HLt.out g mg) HB55.out.size)
              have HN72 := Lib.hid hu63.nilC
              clear hu63 hb64
              refine wpAnyH_take (i := 3) (v := ?_) rfl (by kernel_rfl) (by kernel_rfl) (by kernel_rfl) (fun _ _ _ h => h) (Or.inl ⟨by rfl, ?_⟩) (by assumption) ?_
              rotate_left
              · ((intro w0 hSw); (try dsimp only at hSw); go_simp; (try with_reducible rfl))
              change wpAnyH _ _ _ _ _ _ _ (Act.put _ (some 109) _) _
              try simp only [Act.put, List.setIfInBounds_toArray, List.set_cons_zero, List.set_cons_succ]
              refine wpAnyH_take (i := 4) (v := ?_) rfl (by kernel_rfl) (by kernel_rfl) (by kernel_rfl) (fun _ _ _ h => h) (Or.inl ⟨by rfl, ?_⟩) (by assumption) ?_
              rotate_left
              · ((intro w0 hSw); (try dsimp only at hSw); go_simp; (try with_reducible rfl))
              change wpAnyH _ _ _ _ _ _ _ (Act.put _ (some 113) _) _
              try simp only [Act.put, List.setIfInBounds_toArray, List.set_cons_zero, List.set_cons_succ]
              refine wpAnyH_take (i := 5) (v := ?_) rfl (by kernel_rfl) (by kernel_rfl) (by kernel_rfl) (fun _ _ _ h => h) (Or.inl ⟨by rfl, ?_⟩) (by assumption) ?_
              rotate_left
              · ((intro w0 hSw); (try dsimp only at hSw); go_simp; (try with_reducible rfl))
              change wpAnyH _ _ _ _ _ _ _ (Act.put _ (some 114) _) _
              try simp only [Act.put, List.setIfInBounds_toArray, List.set_cons_zero, List.set_cons_succ]
              as_aux_lemma =>
                refine wpAnyH_ready (rs := [7]) (by kernel_rfl) (by simp) ?_
                refine AllReadyH.cons rfl (fun K hK => ?_) (AllReadyH.nil)
                have y0 := HC69.out.c0; have y1 := HC69.out.c1; have y2 := HC69.out.c2; have y3 := HC69.out.c3; have y4 := HC69.out.c4; have f0 := HC69.out.fr 0; have f1 := HC69.out.fr 1; have f2 := HC69.out.fr 2; have f3 := HC69.out.fr 3; have f4 := HC69.out.fr 4; have HS := Lib.hid (HC69.out.set 1 0 0 0 (.slice qz61 1 cz62)); have z0 := HS.out.c0; have z1 := HS.out.c1; have z2 := HS.out.c2; have z3 := HS.out.c3; have z4 := HS.out.c4
                go_simp
                refine hK.out _ _ ?_ (fun hHeld2 => ?_)
                · exact HAll.out _ (st5_below _ _ _ _ _ hge HB65.out)
                clear hK K hHeld
                have hHeld := hHeld2; clear hHeld2
                try simp only [Act.put, List.setIfInBounds_toArray, List.set_cons_zero, List.set_cons_succ]
                refine wpAnyH_take (i := 8) (v := ?_) rfl (by kernel_rfl) (by kernel_rfl) (by kernel_rfl) (fun _ _ _ h => h) (Or.inl ⟨by rfl, ?_⟩) (by assumption) ?_
                rotate_left
                · ((intro w0 hSw); (try dsimp only at hSw); go_simp; (try with_reducible rfl))
                change wpAnyH _ _ _ _ _ _ _ (Act.put _ (some 19) _) _
                try simp only [Act.put, List.setIfInBounds_toArray, List.set_cons_zero, List.set_cons_succ]
                refine wpAnyH_done (by kernel_rfl) ?_ _
                go_wp2_with fail
                go_meet
                case rel => exact ⟨wd.heap.size, qz61, cz62, rfl, rfl, HK.out.newAt HB65.out hge HC69.out ⟨1, 0, 0, 0, [(t : Int)]⟩ HX71.out HN72.out, fun b mb => Nat.lt_of_lt_of_le (HK.out.lt b mb) hge⟩
        case rest =>
          obtain ⟨gl9, ql, cl, rfl, rfl, hk, _⟩ := hcut
          clear HK
          have HK : Hid (KVar w [⟨gl9, ⟨1, 0, 0, 0, [(t : Int)]⟩, (.slice ql 1 cl)⟩, ⟨wt.heap.size, ⟨1, 1, 1, 0, [(t : Int)]⟩, (.slice pwt 1 cwt)⟩, ⟨wio.heap.size, ⟨1, 1, U.length, 0, U⟩, (.slice pwio U.length cwio)⟩, ⟨wi.heap.size, ⟨1, 0, 0, 0, [(t : Int)]⟩, (.slice pwi 1 cwi)⟩, ⟨wgd.heap.size, ⟨A.k, A.r, A.a, A.b, A.z⟩, (.slice pwgd A.z.length cwgd)⟩, ⟨wra.heap.size, ⟨A.k, 1, A.z.length, 0, A.z⟩, (.slice pwra A.z.length cwra)⟩, ⟨wsh.heap.size, ⟨1, 1, Z.length, 0, Z⟩, (.slice pwsh Z.length cwsh)⟩, ⟨w.heap.size, A, (.slice q A.z.length cap)⟩] wc) := hk
          clear hk
          have n0 := (HK.out.a _ (.tail _ (.tail _ (.tail _ (.head _))))).c0
          have n1 := (HK.out.a _ (.tail _ (.tail _ (.tail _ (.head _))))).c1
          have n2 := (HK.out.a _ (.tail _ (.tail _ (.tail _ (.head _))))).c2
          have n3 := (HK.out.a _ (.tail _ (.tail _ (.tail _ (.head _))))).c3
          have n4 := (HK.out.a _ (.tail _ (.tail _ (.tail _ (.head _))))).c4
          have l0 := (HK.out.a _ (.head _)).c0
          have l1 := (HK.out.a _ (.head _)).c1
          have l2 := (HK.out.a _ (.head _)).c2
          have l3 := (HK.out.a _ (.head _)).c3
          have l4 := (HK.out.a _ (.head _)).c4
          go_wp2_with (first
            | (go_at_call 37; (with_reducible refine (HQt.out _ _ _ (by with_unfolding_all exact (HK.out.r _ (.head _))) (by with_unfolding_all exact (HK.out.r _ (.tail _ (.tail _ (.tail _ (.head _))))))).mono ?_); rintro e wz ⟨rfl, hb⟩; have HK2 := Lib.hid (HK.out.next hb); clear HK n0 n1 n2 n3 n4 l0 l1 l2 l3 l4; have HK := HK2; clear HK2; clear hb; have n0 := (HK.out.a _ (.tail _ (.tail _ (.tail _ (.head _))))).c0; have n1 := (HK.out.a _ (.tail _ (.tail _ (.tail _ (.head _))))).c1; have n2 := (HK.out.a _ (.tail _ (.tail _ (.tail _ (.head _))))).c2; have n3 := (HK.out.a _ (.tail _ (.tail _ (.tail _ (.head _))))).c3; have n4 := (HK.out.a _ (.tail _ (.tail _ (.tail _ (.head _))))).c4; have l0 := (HK.out.a _ (.head _)).c0; have l1 := (HK.out.a _ (.head _)).c1; have l2 := (HK.out.a _ (.head _)).c2; have l3 := (HK.out.a _ (.head _)).c3; have l4 := (HK.out.a _ (.head _)).c4)
            | (go_at_call 21; (with_reducible refine (HAw.out _ (by with_unfolding_all exact HK.out.lay)).mono ?_); rintro e wz ⟨rfl, hb⟩; have HK2 := Lib.hid (HK.out.next hb); clear HK n0 n1 n2 n3 n4 l0 l1 l2 l3 l4; have HK := HK2; clear HK2; clear hb; have n0 := (HK.out.a _ (.tail _ (.tail _ (.tail _ (.head _))))).c0; have n1 := (HK.out.a _ (.tail _ (.tail _ (.tail _ (.head _))))).c1; have n2 := (HK.out.a _ (.tail _ (.tail _ (.tail _ (.head _))))).c2; have n3 := (HK.out.a _ (.tail _ (.tail _ (.tail _ (.head _))))).c3; have n4 := (HK.out.a _ (.tail _ (.tail _ (.tail _ (.head _))))).c4; have l0 := (HK.out.a _ (.head _)).c0; have l1 := (HK.out.a _ (.head _)).c1; have l2 := (HK.out.a _ (.head _)).c2; have l3 := (HK.out.a _ (.head _)).c3; have l4 := (HK.out.a _ (.head _)).c4)
            | fail)
          go_ret
          exact ⟨rfl, HK.out.bel⟩
      · have k3 : (A.r == 2) = false := by simpa using hr
        clear hr HRa HGd HQa HT
        go_upto_region 18 with fail
        clear k3
        go_upto_region 21 with (first
          | (go_at_call 22; (with_reducible refine (HS2.out _ _ (by with_unfolding_all exact HK.out.lay) (by with_unfolding_all exact (HK.out.r _ (.head _)))).mono ?_); rintro e wt ⟨uwt, rfl, hu, hb⟩; obtain ⟨pwt, cwt, hpwt, _, _⟩ := hu.form; have hqwt : uwt = (.slice pwt 1 cwt) := hpwt; subst hqwt; clear hpwt; have hltit : wio.heap.size < wt.heap.size := Nat.lt_of_lt_of_le (HK.out.lt _ (.head _)) hb.size; have hltnt : wi.heap.size < wt.heap.size := Nat.lt_of_lt_of_le (HK.out.lt _ (.tail _ (.head _))) hb.size; have hltst : wsh.heap.size < wt.heap.size := Nat.lt_of_lt_of_le (HK.out.lt _ (.tail _ (.tail _ (.head _)))) hb.size; have hltxt : w.heap.size < wt.heap.size := Nat.lt_of_lt_of_le (HK.out.lt _ (.tail _ (.tail _ (.tail _ (.head _))))) hb.size; have HK2 := Lib.hid (HK.out.res hb ⟨1, 1, 1, 0, [(t : Int)]⟩ hu); clear HK n0 n1 n2 n3 n4 i0 i1 i2 i3 i4; have HK := HK2; clear HK2; clear hb hu; have n0 := (HK.out.a _ (.tail _ (.tail _ (.head _)))).c0; have n1 := (HK.out.a _ (.tail _ (.tail _ (.head _)))).c1; have n2 := (HK.out.a _ (.tail _ (.tail _ (.head _)))).c2; have n3 := (HK.out.a _ (.tail _ (.tail _ (.head _)))).c3; have n4 := (HK.out.a _ (.tail _ (.tail _ (.head _)))).c4; have i0 := (HK.out.a _ (.tail _ (.head _))).c0; have i1 := (HK.out.a _ (.tail _ (.head _))).c1; have i2 := (HK.out.a _ (.tail _ (.head _))).c2; have i3 := (HK.out.a _ (.tail _ (.head _))).c3; have i4 := (HK.out.a _ (.tail _ (.head _))).c4; have t0 := (HK.out.a _ (.head _)).c0; have t1 := (HK.out.a _ (.head _)).c1; have t2 := (HK.out.a _ (.head _)).c2; have t3 := (HK.out.a _ (.head _)).c3; have t4 := (HK.out.a _ (.head _)).c4)
          | (go_at_call 24; (with_reducible refine (HIo.out _ _ (by with_unfolding_all exact HK.out.lay) (by with_unfolding_all exact (HK.out.r _ (.head _)))).mono ?_); rintro e wio ⟨uwio, rfl, hu, hb⟩; obtain ⟨pwio, cwio, hpwio, _, _⟩ := hu.form; have hqwio : uwio = (.slice pwio U.length cwio) := hpwio; subst hqwio; clear hpwio; have hltni : wi.heap.size < wio.heap.size := Nat.lt_of_lt_of_le (HK.out.lt _ (.head _)) hb.size; have hltsi : wsh.heap.size < wio.heap.size := Nat.lt_of_lt_of_le (HK.out.lt _ (.tail _ (.head _))) hb.size; have hltxi : w.heap.size < wio.heap.size := Nat.lt_of_lt_of_le (HK.out.lt _ (.tail _ (.tail _ (.head _)))) hb.size; have HK2 := Lib.hid (HK.out.res hb ⟨1, 1, U.length, 0, U⟩ hu); clear HK n0 n1 n2 n3 n4; have HK := HK2; clear HK2; clear hb hu; have n0 := (HK.out.a _ (.tail _ (.head _))).c0; have n1 := (HK.out.a _ (.tail _ (.head _))).c1; have n2 := (HK.out.a _ (.tail _ (.head _))).c2; have n3 := (HK.out.a _ (.tail _ (.head _))).c3; have n4 := (HK.out.a _ (.tail _ (.head _))).c4; have i0 := (HK.out.a _ (.head _)).c0; have i1 := (HK.out.a _ (.head _)).c1; have i2 := (HK.out.a _ (.head _)).c2; have i3 := (HK.out.a _ (.head _)).c3; have i4 := (HK.out.a _ (.head _)).c4)
          | (go_at_call 36; (with_reducible refine (HI.out (t : Int) _).mono ?_); rintro e wi ⟨ui, rfl, hu, hb⟩; obtain ⟨pwi, cwi, hpwi, _, _⟩ := hu.form; have hqwi : ui = (.slice pwi 1 cwi) := hpwi; subst hqwi; clear hpwi; have HK2 := Lib.hid (HK.out.res hb ⟨1, 0, 0, 0, [(t : Int)]⟩ hu); clear HK hb hu x0 x1 x2 x3 x4 s0 s1 s2 s3 s4; have HK := HK2; clear HK2; have n0 := (HK.out.a _ (.head _)).c0; have n1 := (HK.out.a _ (.head _)).c1; have n2 := (HK.out.a _ (.head _)).c2; have n3 := (HK.out.a _ (.head _)).c3; have n4 := (HK.out.a _ (.head _)).c4)
          | fail)
        generalize hwt : World.alloc wt _ = wy at HK n0 n1 n2 n3 n4 i0 i1 i2 i3 i4 t0 t1 t2 t3 t4 ⊢
        clear hwt
        clear HIo HS2
        go_cut [18, 19] (fun sp se wx => CutE w [⟨wt.heap.size, ⟨1, 1, 1, 0, [(t : Int)]⟩, (.slice pwt 1 cwt)⟩, ⟨wio.heap.size, ⟨1, 1, U.length, 0, U⟩, (.slice pwio U.length cwio)⟩, ⟨wi.heap.size, ⟨1, 0, 0, 0, [(t : Int)]⟩, (.slice pwi 1 cwi)⟩, ⟨wsh.heap.size, ⟨1, 1, Z.length, 0, Z⟩, (.slice pwsh Z.length cwsh)⟩, ⟨w.heap.size, A, (.slice q A.z.length cap)⟩] sp se ⟨1, 0, 0, 0, [(t : Int)]⟩ 0 wx)
        case first =>
          as_aux_lemma =>
            clear n0 n1 n2 n3 n4 i0 i1 i2 i3 i4 t0 t1 t2 t3 t4
            have HLt : Hid (∀ g ∈ List.map Bk.g [⟨wt.heap.size, ⟨1, 1, 1, 0, [(t : Int)]⟩, (.slice pwt 1 cwt)⟩, ⟨wio.heap.size, ⟨1, 1, U.length, 0, U⟩, (.slice pwio U.length cwio)⟩, ⟨wi.heap.size, ⟨1, 0, 0, 0, [(t : Int)]⟩, (.slice pwi 1 cwi)⟩, ⟨wsh.heap.size, ⟨1, 1, Z.length, 0, Z⟩, (.slice pwsh Z.length cwsh)⟩, ⟨w.heap.size, A, (.slice q A.z.length cap)⟩], g < wy.heap.size) := fun g hg => by obtain ⟨c, hc, rfl⟩ := List.mem_map.1 hg; exact HK.out.lt c hc
            have HAll : Hid (∀ W, Below wy.heap.size wy W → (fun W => Below wy.heap.size wy W ∧ W.cell? ⟨wt.heap.size, 0, none⟩ = some (.int .i64 1) ∧ W.cell? ⟨wt.heap.size, 1, none⟩ = some (.int .i64 1) ∧ W.cell? ⟨wt.heap.size, 2, none⟩ = some (.int .i64 1) ∧ W.cell? ⟨wt.heap.size, 3, none⟩ = some (.int .i64 0) ∧ W.cell? ⟨wt.heap.size, 4, none⟩ = some ((.slice pwt 1 cwt))) W) := fun W h => ⟨h, ((HK.out.next h).a _ (.head _)).c0, ((HK.out.next h).a _ (.head _)).c1, ((HK.out.next h).a _ (.head _)).c2, ((HK.out.next h).a _ (.head _)).c3, ((HK.out.next h).a _ (.head _)).c4⟩
            refine wp_region_held_drew (S := (fun W => Below wy.heap.size wy W ∧ W.cell? ⟨wt.heap.size, 0, none⟩ = some (.int .i64 1) ∧ W.cell? ⟨wt.heap.size, 1, none⟩ = some (.int .i64 1) ∧ W.cell? ⟨wt.heap.size, 2, none⟩ = some (.int .i64 1) ∧ W.cell? ⟨wt.heap.size, 3, none⟩ = some (.int .i64 0) ∧ W.cell? ⟨wt.heap.size, 4, none⟩ = some ((.slice pwt 1 cwt)))) (by kernel_rfl) ?_ (fun hHeld => ?_)
            · exact HAll.out _ (Below.refl _ _).drew
            have HB0 : Hid (Below wy.heap.size wy (World.drew wy)) := (Below.refl _ _).drew
            generalize World.drew wy = wd at hHeld HB0 ⊢
            refine wpAnyH_take (i := 0) (v := ?_) rfl (by kernel_rfl) (by kernel_rfl) (by kernel_rfl) (fun _ _ _ h => h) (Or.inl ⟨by rfl, ?_⟩) (by assumption) ?_
            rotate_left
            · ((intro w0 hSw); (try dsimp only at hSw); go_simp; (try with_reducible rfl))
            change wpAnyH _ _ _ _ _ _ _ (Act.put _ (some 110) _) _
            try simp only [Act.put, List.setIfInBounds_toArray, List.set_cons_zero, List.set_cons_succ]
            refine wpAnyH_ready (rs := [1, 6]) (by kernel_rfl) (by simp) ?_
            refine AllReadyH.cons rfl (fun K hK => ?_) (AllReadyH.cons rfl (fun K hK => ?_) (AllReadyH.nil))
            · go_simp
              go_at_call 36
              with_reducible refine (HI.out 0 _).mono ?_
              rintro e wn78 ⟨uz79, rfl, hu75, hb76⟩
              obtain ⟨qz73, cz74, hq80, _, _⟩ := hu75.form
              have hq802 : uz79 = (.slice qz73 1 cz74) := hq80
              subst hq802
              clear hq80
              have HB77 := Lib.hid (HB0.out.trans (hb76.mono HB0.out.size))
              refine hK.out _ _ ?_ (fun hHeld2 => ?_)
              · exact HAll.out _ HB77.out
              clear hK K hHeld
              have hHeld := hHeld2; clear hHeld2
              try change wpAnyH _ _ _ _ _ _ _ (Act.put _ (some 111) _) _
              try dsimp only
              try simp only [Act.put, List.setIfInBounds_toArray, List.set_cons_zero, List.set_cons_succ]
              have HU81 := Lib.hid hu75.rd
              have HU81n := Lib.hid hu75.nilC
              clear hu75 hb76
              refine wpAnyH_ready (rs := [2, 6]) (by kernel_rfl) (by simp) ?_
              refine AllReadyH.cons rfl (fun K hK => ?_) (AllReadyH.cons rfl (fun K hK => ?_) (AllReadyH.nil))
              · go_simp
                go_at_call 27
                with_reducible refine (HAt.out _ _ _ (HK.out.next HB77.out).lay (by with_unfolding_all exact ((HK.out.next HB77.out).r _ (.head _))) HU81.out).mono ?_
                rintro e wn87 ⟨uz88, rfl, hu84, hb85⟩
                obtain ⟨qz82, cz83, hq89, _, _⟩ := hu84.form
                have hq892 : uz88 = (.slice qz82 1 cz83) := hq89
                subst hq892
                clear hq89
                have HB86 := Lib.hid (HB77.out.trans (hb85.mono HB77.out.size))
                refine hK.out _ _ ?_ (fun hHeld2 => ?_)
                · exact HAll.out _ HB86.out
                clear hK K hHeld
                have hHeld := hHeld2; clear hHeld2
                try change wpAnyH _ _ _ _ _ _ _ (Act.put _ (some 112) _) _
                try dsimp only
                try simp only [Act.put, List.setIfInBounds_toArray, List.set_cons_zero, List.set_cons_succ]
                have HC90 := Lib.hid (HU81.out.next hb85)
                have HX91 : Hid (RdX (List.map Bk.g [⟨wt.heap.size, ⟨1, 1, 1, 0, [(t : Int)]⟩, (.slice pwt 1 cwt)⟩, ⟨wio.heap.size, ⟨1, 1, U.length, 0, U⟩, (.slice pwio U.length cwio)⟩, ⟨wi.heap.size, ⟨1, 0, 0, 0, [(t : Int)]⟩, (.slice pwi 1 cwi)⟩, ⟨wsh.heap.size, ⟨1, 1, Z.length, 0, Z⟩, (.slice pwsh Z.length cwsh)⟩, ⟨w.heap.size, A, (.slice q A.z.length cap)⟩]) wn87 (.slice qz82 1 cz83) [(t : Int)]) := rdN_toX hu84 (fun g mg => Nat.lt_of_lt_of_le (HLt.out g mg) HB77.out.size)
                have HN92 := Lib.hid hu84.nilC
                clear hu84 hb85
                refine wpAnyH_take (i := 3) (v := ?_) rfl (by kernel_rfl) (by kernel_rfl) (by kernel_rfl) (fun _ _ _ h => h) (Or.inl ⟨by rfl, ?_⟩) (by assumption) ?_
                rotate_left
                · ((intro w0 hSw); (try dsimp only at hSw); go_simp; (try with_reducible rfl))
                change wpAnyH _ _ _ _ _ _ _ (Act.put _ (some 109) _) _
                try simp only [Act.put, List.setIfInBounds_toArray, List.set_cons_zero, List.set_cons_succ]
                refine wpAnyH_take (i := 4) (v := ?_) rfl (by kernel_rfl) (by kernel_rfl) (by kernel_rfl) (fun _ _ _ h => h) (Or.inl ⟨by rfl, ?_⟩) (by assumption) ?_
                rotate_left
                · ((intro w0 hSw); (try dsimp only at hSw); go_simp; (try with_reducible rfl))
                change wpAnyH _ _ _ _ _ _ _ (Act.put _ (some 113) _) _
                try simp only [Act.put, List.setIfInBounds_toArray, List.set_cons_zero, List.set_cons_succ]
                refine wpAnyH_take (i := 5) (v := ?_) rfl (by kernel_rfl) (by kernel_rfl) (by kernel_rfl) (fun _ _ _ h => h) (Or.inl ⟨by rfl, ?_⟩) (by assumption) ?_
                rotate_left
                · ((intro w0 hSw); (try dsimp only at hSw); go_simp; (try with_reducible rfl))
                change wpAnyH _ _ _ _ _ _ _ (Act.put _ (some 114) _) _
                try simp only [Act.put, List.setIfInBounds_toArray, List.set_cons_zero, List.set_cons_succ]
                refine wpAnyH_ready (rs := [6]) (by kernel_rfl) (by simp) ?_
                refine AllReadyH.cons rfl (fun K hK => ?_) (AllReadyH.nil)
                go_simp
                refine hK.out _ _ ?_ (fun hHeld2 => ?_)
                · exact HAll.out _ (HB86.out.trans ((bel1 wn87 _).mono HB86.out.size))
                clear hK K hHeld
                have hHeld := hHeld2; clear hHeld2
                try change wpAnyH _ _ _ _ _ _ _ (Act.put _ (some 18) _) _
                try simp only [Act.put, List.setIfInBounds_toArray, List.set_cons_zero, List.set_cons_succ]
                generalize hwx94 : World.alloc wn87 _ = wa93 at hHeld ⊢
                have HB95 : Hid (Below wy.heap.size wy wa93) := by rw [← hwx94]; exact HB86.out.trans ((bel1 wn87 _).mono HB86.out.size)
                have Hbx96 : Hid (Below wn87.heap.size wn87 wa93) := by rw [← hwx94]; exact bel1 _ _
                have HC97 := Lib.hid (HC90.out.next Hbx96.out)
                have HG98 : Hid (R5 wa93 wn87.heap.size 0 0 0 0 (.slice none 0 0)) := by rw [← hwx94]; exact R5.new _ _ _ _ _ _
                have hge : wy.heap.size ≤ wn87.heap.size := HB86.out.size
                have HX99 : Hid (RdX (wn87.heap.size :: List.map Bk.g [⟨wt.heap.size, ⟨1, 1, 1, 0, [(t : Int)]⟩, (.slice pwt 1 cwt)⟩, ⟨wio.heap.size, ⟨1, 1, U.length, 0, U⟩, (.slice pwio U.length cwio)⟩, ⟨wi.heap.size, ⟨1, 0, 0, 0, [(t : Int)]⟩, (.slice pwi 1 cwi)⟩, ⟨wsh.heap.size, ⟨1, 1, Z.length, 0, Z⟩, (.slice pwsh Z.length cwsh)⟩, ⟨w.heap.size, A, (.slice q A.z.length cap)⟩]) wa93 (.slice qz82 1 cz83) [(t : Int)]) := (HX91.out.more (Nat.le_refl _)).keep Hbx96.out.size (fun c' _ hc' => Hbx96.out.block c' hc')
                clear hwx94
                as_aux_lemma =>
                  refine wpAnyH_ready (rs := [7]) (by kernel_rfl) (by simp) ?_
                  refine AllReadyH.cons rfl (fun K hK => ?_) (AllReadyH.nil)
                  have y0 := HG98.out.c0; have y1 := HG98.out.c1; have y2 := HG98.out.c2; have y3 := HG98.out.c3; have y4 := HG98.out.c4; have f0 := HG98.out.fr 0; have f1 := HG98.out.fr 1; have f2 := HG98.out.fr 2; have f3 := HG98.out.fr 3; have f4 := HG98.out.fr 4; have HS := Lib.hid (HG98.out.set 1 0 0 0 (.slice qz82 1 cz83)); have z0 := HS.out.c0; have z1 := HS.out.c1; have z2 := HS.out.c2; have z3 := HS.out.c3; have z4 := HS.out.c4
                  go_simp
                  refine hK.out _ _ ?_ (fun hHeld2 => ?_)
                  · exact HAll.out _ (st5_below _ _ _ _ _ hge HB95.out)
                  clear hK K hHeld
                  have hHeld := hHeld2; clear hHeld2
                  try simp only [Act.put, List.setIfInBounds_toArray, List.set_cons_zero, List.set_cons_succ]
                  refine wpAnyH_take (i := 8) (v := ?_) rfl (by kernel_rfl) (by kernel_rfl) (by kernel_rfl) (fun _ _ _ h => h) (Or.inl ⟨by rfl, ?_⟩) (by assumption) ?_
                  rotate_left
                  · ((intro w0 hSw); (try dsimp only at hSw); go_simp; (try with_reducible rfl))
                  change wpAnyH _ _ _ _ _ _ _ (Act.put _ (some 19) _) _
                  try simp only [Act.put, List.setIfInBounds_toArray, List.set_cons_zero, List.set_cons_succ]
                  refine wpAnyH_done (by kernel_rfl) ?_ _
                  go_wp2_with fail
                  go_meet
                  case rel => exact ⟨wn87.heap.size, qz82, cz83, rfl, rfl, HK.out.newAt HB95.out hge HG98.out ⟨1, 0, 0, 0, [(t : Int)]⟩ HX99.out HN92.out, fun b mb => Nat.lt_of_lt_of_le (HK.out.lt b mb) hge⟩
              · go_simp
                refine hK.out _ _ ?_ (fun hHeld2 => ?_)
                · exact HAll.out _ (HB77.out.trans ((bel1 wn78 _).mono HB77.out.size))
                clear hK K hHeld
                have hHeld := hHeld2; clear hHeld2
                try change wpAnyH _ _ _ _ _ _ _ (Act.put _ (some 18) _) _
                try simp only [Act.put, List.setIfInBounds_toArray, List.set_cons_zero, List.set_cons_succ]
                generalize hwx101 : World.alloc wn78 _ = wa100 at hHeld ⊢
                have HB102 : Hid (Below wy.heap.size wy wa100) := by rw [← hwx101]; exact HB77.out.trans ((bel1 wn78 _).mono HB77.out.size)
                have Hbx103 : Hid (Below wn78.heap.size wn78 wa100) := by rw [← hwx101]; exact bel1 _ _
                have HC104 := Lib.hid (HU81.out.next Hbx103.out)
                have HG105 : Hid (R5 wa100 wn78.heap.size 0 0 0 0 (.slice none 0 0)) := by rw [← hwx101]; exact R5.new _ _ _ _ _ _
                have hge : wy.heap.size ≤ wn78.heap.size := HB77.out.size
                clear hwx101
                refine wpAnyH_ready (rs := [2]) (by kernel_rfl) (by simp) ?_
                refine AllReadyH.cons rfl (fun K hK => ?_) (AllReadyH.nil)
                go_simp
                go_at_call 27
                with_reducible refine (HAt.out _ _ _ (HK.out.next HB102.out).lay (by with_unfolding_all exact ((HK.out.next HB102.out).r _ (.head _))) HC104.out).mono ?_
                rintro e wn111 ⟨uz112, rfl, hu108, hb109⟩
                obtain ⟨qz106, cz107, hq113, _, _⟩ := hu108.form
                have hq1132 : uz112 = (.slice qz106 1 cz107) := hq113
                subst hq1132
                clear hq113
                have HB110 := Lib.hid (HB102.out.trans (hb109.mono HB102.out.size))
                refine hK.out _ _ ?_ (fun hHeld2 => ?_)
                · exact HAll.out _ HB110.out
                clear hK K hHeld
                have hHeld := hHeld2; clear hHeld2
                try change wpAnyH _ _ _ _ _ _ _ (Act.put _ (some 112) _) _
                try dsimp only
                try simp only [Act.put, List.setIfInBounds_toArray, List.set_cons_zero, List.set_cons_succ]
                have HC114 := Lib.hid (HC104.out.next hb109)
                have HC115 := Lib.hid (HG105.out.next hb109)
                have HX116 : Hid (RdX (wn78.heap.size :: List.map Bk.g [⟨wt.heap.size, ⟨1, 1, 1, 0, [(t : Int)]⟩, (.slice pwt 1 cwt)⟩, ⟨wio.heap.size, ⟨1, 1, U.length, 0, U⟩, (.slice pwio U.length cwio)⟩, ⟨wi.heap.size, ⟨1, 0, 0, 0, [(t : Int)]⟩, (.slice pwi 1 cwi)⟩, ⟨wsh.heap.size, ⟨1, 1, Z.length, 0, Z⟩, (.slice pwsh Z.length cwsh)⟩, ⟨w.heap.size, A, (.slice q A.z.length cap)⟩]) wn111 (.slice qz106 1 cz107) [(t : Int)]) := rdN_toX hu108 (fun g mg => by
                  rcases List.mem_cons.1 mg with rfl | mg
                  · exact HG105.out.lt
                  · exact Nat.lt_of_lt_of_le (HLt.out g mg) HB102.out.size)
                have HN117 := Lib.hid hu108.nilC
                clear hu108 hb109
                refine wpAnyH_take (i := 3) (v := ?_) rfl (by kernel_rfl) (by kernel_rfl) (by kernel_rfl) (fun _ _ _ h => h) (Or.inl ⟨by rfl, ?_⟩) (by assumption) ?_
                rotate_left
                · ((intro w0 hSw); (try dsimp only at hSw); go_simp; (try with_reducible rfl))
                change wpAnyH _ _ _ _ _ _ _ (Act.put _ (some 109) _) _
                try simp only [Act.put, List.setIfInBounds_toArray, List.set_cons_zero, List.set_cons_succ]
                refine wpAnyH_take (i := 4) (v := ?_) rfl (by kernel_rfl) (by kernel_rfl) (by kernel_rfl) (fun _ _ _ h => h) (Or.inl ⟨by rfl, ?_⟩) (by assumption) ?_
                rotate_left
                · ((intro w0 hSw); (try dsimp only at hSw); go_simp; (try with_reducible rfl))
                change wpAnyH _ _ _ _ _ _ _ (Act.put _ (some 113) _) _
                try simp only [Act.put, List.setIfInBounds_toArray, List.set_cons_zero, List.set_cons_succ]
                refine wpAnyH_take (i := 5) (v := ?_) rfl (by kernel_rfl) (by kernel_rfl) (by kernel_rfl) (fun _ _ _ h => h) (Or.inl ⟨by rfl, ?_⟩) (by assumption) ?_
                rotate_left
                · ((intro w0 hSw); (try dsimp only at hSw); go_simp; (try with_reducible rfl))
                change wpAnyH _ _ _ _ _ _ _ (Act.put _ (some 114) _) _
                try simp only [Act.put, List.setIfInBounds_toArray, List.set_cons_zero, List.set_cons_succ]
                as_aux_lemma =>
                  refine wpAnyH_ready (rs := [7]) (by kernel_rfl) (by simp) ?_
                  refine AllReadyH.cons rfl (fun K hK => ?_) (AllReadyH.nil)
                  have y0 := HC115.out.c0; have y1 := HC115.out.c1; have y2 := HC115.out.c2; have y3 := HC115.out.c3; have y4 := HC115.out.c4; have f0 := HC115.out.fr 0; have f1 := HC115.out.fr 1; have f2 := HC115.out.fr 2; have f3 := HC115.out.fr 3; have f4 := HC115.out.fr 4; have HS := Lib.hid (HC115.out.set 1 0 0 0 (.slice qz106 1 cz107)); have z0 := HS.out.c0; have z1 := HS.out.c1; have z2 := HS.out.c2; have z3 := HS.out.c3; have z4 := HS.out.c4
                  go_simp
                  refine hK.out _ _ ?_ (fun hHeld2 => ?_)
                  · exact HAll.out _ (st5_below _ _ _ _ _ hge HB110.out)
                  clear hK K hHeld
                  have hHeld := hHeld2; clear hHeld2
                  try simp only [Act.put, List.setIfInBounds_toArray, List.set_cons_zero, List.set_cons_succ]
                  refine wpAnyH_take (i := 8) (v := ?_) rfl (by kernel_rfl) (by kernel_rfl) (by kernel_rfl) (fun _ _ _ h => h) (Or.inl ⟨by rfl, ?_⟩) (by assumption) ?_
                  rotate_left
                  · ((intro w0 hSw); (try dsimp only at hSw); go_simp; (try with_reducible rfl))
                  change wpAnyH _ _ _ _ _ _ _ (Act.put _ (some 19) _) _
                  try simp only [Act.put, List.setIfInBounds_toArray, List.set_cons_zero, List.set_cons_succ]
                  refine wpAnyH_done (by kernel_rfl) ?_ _
                  go_wp2_with fail
                  go_meet
                  case rel => exact ⟨wn78.heap.size, qz106, cz107, rfl, rfl, HK.out.newAt HB110.out hge HC115.out ⟨1, 0, 0, 0, [(t : Int)]⟩ HX116.out HN117.out, fun b mb => Nat.lt_of_lt_of_le (HK.out.lt b mb) hge⟩
            · go_simp
              refine hK.out _ _ ?_ (fun hHeld2 => ?_)
              · exact HAll.out _ (HB0.out.trans ((bel1 wd _).mono HB0.out.size))
              clear hK K hHeld
              have hHeld := hHeld2; clear hHeld2
              try change wpAnyH _ _ _ _ _ _ _ (Act.put _ (some 18) _) _
              try simp only [Act.put, List.setIfInBounds_toArray, List.set_cons_zero, List.set_cons_succ]
              generalize hwx119 : World.alloc wd _ = wa118 at hHeld ⊢
              have HB120 : Hid (Below wy.heap.size wy wa118) := by rw [← hwx119]; exact HB0.out.trans ((bel1 wd _).mono HB0.out.size)
              have Hbx121 : Hid (Below wd.heap.size wd wa118) := by rw [← hwx119]; exact bel1 _ _
              have HG122 : Hid (R5 wa118 wd.heap.size 0 0 0 0 (.slice none 0 0)) := by rw [← hwx119]; exact R5.new _ _ _ _ _ _
              have hge : wy.heap.size ≤ wd.heap.size := HB0.out.size
              clear hwx119
              refine wpAnyH_ready (rs := [1]) (by kernel_rfl) (by simp) ?_
              refine AllReadyH.cons rfl (fun K hK => ?_) (AllReadyH.nil)
              go_simp
              go_at_call 36
              with_reducible refine (HI.out 0 _).mono ?_
              rintro e wn128 ⟨uz129, rfl, hu125, hb126⟩
              obtain ⟨qz123, cz124, hq130, _, _⟩ := hu125.form
              have hq1302 : uz129 = (.slice qz123 1 cz124) := hq130
              subst hq1302
              clear hq130
              have HB127 := Lib.hid (HB120.out.trans (hb126.mono HB120.out.size))
              refine hK.out _ _ ?_ (fun hHeld2 => ?_)
              · exact HAll.out _ HB127.out
              clear hK K hHeld
              have hHeld := hHeld2; clear hHeld2
              try change wpAnyH _ _ _ _ _ _ _ (Act.put _ (some 111) _) _
              try dsimp only
              try simp only [Act.put, List.setIfInBounds_toArray, List.set_cons_zero, List.set_cons_succ]
              have HC131 := Lib.hid (HG122.out.next hb126)
              have HU132 := Lib.hid hu125.rd
              have HU132n := Lib.hid hu125.nilC
              clear hu125 hb126
              refine wpAnyH_ready (rs := [2]) (by kernel_rfl) (by simp) ?_
              refine AllReadyH.cons rfl (fun K hK => ?_) (AllReadyH.nil)
              go_simp
              go_at_call 27
              with_reducible refine (HAt.out _ _ _ (HK.out.next HB127.out).lay (by with_unfolding_all exact ((HK.out.next HB127.out).r _ (.head _))) HU132.out).mono ?_
              rintro e wn138 ⟨uz139, rfl, hu135, hb136⟩
              obtain ⟨qz133, cz134, hq140, _, _⟩ := hu135.form
              have hq1402 : uz139 = (.slice qz133 1 cz134) := hq140
              subst hq1402
              clear hq140
              have HB137 := Lib.hid (HB127.out.trans (hb136.mono HB127.out.size))
              refine hK.out _ _ ?_ (fun hHeld2 => ?_)
              · exact HAll.out _ HB137.out
              clear hK K hHeld
              have hHeld := hHeld2; clear hHeld2
              try change wpAnyH _ _ _ _ _ _ _ (Act.put _ (some 112) _) _
              try dsimp only
              try simp only [Act.put, List.setIfInBounds_toArray, List.set_cons_zero, List.set_cons_succ]
              have HC141 := Lib.hid (HC131.out.next hb136)
              have HC142 := Lib.hid (HU132.out.next hb136)
              have HX143 : Hid (RdX (wd.heap.size :: List.map Bk.g [⟨wt.heap.size, ⟨1, 1, 1, 0, [(t : Int)]⟩, (.slice pwt 1 cwt)⟩, ⟨wio.heap.size, ⟨1, 1, U.length, 0, U⟩, (.slice pwio U.length cwio)⟩, ⟨wi.heap.size, ⟨1, 0, 0, 0, [(t : Int)]⟩, (.slice pwi 1 cwi)⟩, ⟨wsh.heap.size, ⟨1, 1, Z.length, 0, Z⟩, (.slice pwsh Z.length cwsh)⟩, ⟨w.heap.size, A, (.slice q A.z.length cap)⟩]) wn138 (.slice qz133 1 cz134) [(t : Int)]) := rdN_toX hu135 (fun g mg => by
                rcases List.mem_cons.1 mg with rfl | mg
                · exact HC131.out.lt
                · exact Nat.lt_of_lt_of_le (HLt.out g mg) HB127.out.size)
              have HN144 := Lib.hid hu135.nilC
              clear hu135 hb136
              refine wpAnyH_take (i := 3) (v := ?_) rfl (by kernel_rfl) (by kernel_rfl) (by kernel_rfl) (fun _ _ _ h => h) (Or.inl ⟨by rfl, ?_⟩) (by assumption) ?_
              rotate_left
              · ((intro w0 hSw); (try dsimp only at hSw); go_simp; (try with_reducible rfl))
              change wpAnyH _ _ _ _ _ _ _ (Act.put _ (some 109) _) _
              try simp only [Act.put, List.setIfInBounds_toArray, List.set_cons_zero, List.set_cons_succ]
              refine wpAnyH_take (i := 4) (v := ?_) rfl (by kernel_rfl) (by kernel_rfl) (by kernel_rfl) (fun _ _ _ h => h) (Or.inl ⟨by rfl, ?_⟩) (by assumption) ?_
              rotate_left
              · ((intro w0 hSw); (try dsimp only at hSw); go_simp; (try with_reducible rfl))
              change wpAnyH _ _ _ _ _ _ _ (Act.put _ (some 113) _) _
              try simp only [Act.put, List.setIfInBounds_toArray, List.set_cons_zero, List.set_cons_succ]
              refine wpAnyH_take (i := 5) (v := ?_) rfl (by kernel_rfl) (by kernel_rfl) (by kernel_rfl) (fun _ _ _ h => h) (Or.inl ⟨by rfl, ?_⟩) (by assumption) ?_
              rotate_left
              · ((intro w0 hSw); (try dsimp only at hSw); go_simp; (try with_reducible rfl))
              change wpAnyH _ _ _ _ _ _ _ (Act.put _ (some 114) _) _
              try simp only [Act.put, List.setIfInBounds_toArray, List.set_cons_zero, List.set_cons_succ]
              as_aux_lemma =>
                refine wpAnyH_ready (rs := [7]) (by kernel_rfl) (by simp) ?_
                refine AllReadyH.cons rfl (fun K hK => ?_) (AllReadyH.nil)
                have y0 := HC141.out.c0; have y1 := HC141.out.c1; have y2 := HC141.out.c2; have y3 := HC141.out.c3; have y4 := HC141.out.c4; have f0 := HC141.out.fr 0; have f1 := HC141.out.fr 1; have f2 := HC141.out.fr 2; have f3 := HC141.out.fr 3; have f4 := HC141.out.fr 4; have HS := Lib.hid (HC141.out.set 1 0 0 0 (.slice qz133 1 cz134)); have z0 := HS.out.c0; have z1 := HS.out.c1; have z2 := HS.out.c2; have z3 := HS.out.c3; have z4 := HS.out.c4
                go_simp
                refine hK.out _ _ ?_ (fun hHeld2 => ?_)
                · exact HAll.out _ (st5_below _ _ _ _ _ hge HB137.out)
                clear hK K hHeld
                have hHeld := hHeld2; clear hHeld2
                try simp only [Act.put, List.setIfInBounds_toArray, List.set_cons_zero, List.set_cons_succ]
                refine wpAnyH_take (i := 8) (v := ?_) rfl (by kernel_rfl) (by kernel_rfl) (by kernel_rfl) (fun _ _ _ h => h) (Or.inl ⟨by rfl, ?_⟩) (by assumption) ?_
                rotate_left
                · ((intro w0 hSw); (try dsimp only at hSw); go_simp; (try with_reducible rfl))
                change wpAnyH _ _ _ _ _ _ _ (Act.put _ (some 19) _) _
                try simp only [Act.put, List.setIfInBounds_toArray, List.set_cons_zero, List.set_cons_succ]
                refine wpAnyH_done (by kernel_rfl) ?_ _
                go_wp2_with fail
                go_meet
                case rel => exact ⟨wd.heap.size, qz133, cz134, rfl, rfl, HK.out.newAt HB137.out hge HC141.out ⟨1, 0, 0, 0, [(t : Int)]⟩ HX143.out HN144.out, fun b mb => Nat.lt_of_lt_of_le (HK.out.lt b mb) hge⟩
        case rest =>
          obtain ⟨gl9, ql, cl, rfl, rfl, hk, _⟩ := hcut
          clear HK
          have HK : Hid (KVar w [⟨gl9, ⟨1, 0, 0, 0, [(t : Int)]⟩, (.slice ql 1 cl)⟩, ⟨wt.heap.size, ⟨1, 1, 1, 0, [(t : Int)]⟩, (.slice pwt 1 cwt)⟩, ⟨wio.heap.size, ⟨1, 1, U.length, 0, U⟩, (.slice pwio U.length cwio)⟩, ⟨wi.heap.size, ⟨1, 0, 0, 0, [(t : Int)]⟩, (.slice pwi 1 cwi)⟩, ⟨wsh.heap.size, ⟨1, 1, Z.length, 0, Z⟩, (.slice pwsh Z.length cwsh)⟩, ⟨w.heap.size, A, (.slice q A.z.length cap)⟩] wc) := hk
          clear hk
          have n0 := (HK.out.a _ (.tail _ (.tail _ (.tail _ (.head _))))).c0
          have n1 := (HK.out.a _ (.tail _ (.tail _ (.tail _ (.head _))))).c1
          have n2 := (HK.out.a _ (.tail _ (.tail _ (.tail _ (.head _))))).c2
          have n3 := (HK.out.a _ (.tail _ (.tail _ (.tail _ (.head _))))).c3
          have n4 := (HK.out.a _ (.tail _ (.tail _ (.tail _ (.head _))))).c4
          have l0 := (HK.out.a _ (.head _)).c0
          have l1 := (HK.out.a _ (.head _)).c1
          have l2 := (HK.out.a _ (.head _)).c2
          have l3 := (HK.out.a _ (.head _)).c3
          have l4 := (HK.out.a _ (.head _)).c4
          go_wp2_with (first
            | (go_at_call 37; (with_reducible refine (HQt.out _ _ _ (by with_unfolding_all exact (HK.out.r _ (.head _))) (by with_unfolding_all exact (HK.out.r _ (.tail _ (.tail _ (.tail _ (.head _))))))).mono ?_); rintro e wz ⟨rfl, hb⟩; have HK2 := Lib.hid (HK.out.next hb); clear HK n0 n1 n2 n3 n4 l0 l1 l2 l3 l4; have HK := HK2; clear HK2; clear hb; have n0 := (HK.out.a _ (.tail _ (.tail _ (.tail _ (.head _))))).c0; have n1 := (HK.out.a _ (.tail _ (.tail _ (.tail _ (.head _))))).c1; have n2 := (HK.out.a _ (.tail _ (.tail _ (.tail _ (.head _))))).c2; have n3 := (HK.out.a _ (.tail _ (.tail _ (.tail _ (.head _))))).c3; have n4 := (HK.out.a _ (.tail _ (.tail _ (.tail _ (.head _))))).c4; have l0 := (HK.out.a _ (.head _)).c0; have l1 := (HK.out.a _ (.head _)).c1; have l2 := (HK.out.a _ (.head _)).c2; have l3 := (HK.out.a _ (.head _)).c3; have l4 := (HK.out.a _ (.head _)).c4)
            | (go_at_call 21; (with_reducible refine (HAw.out _ (by with_unfolding_all exact HK.out.lay)).mono ?_); rintro e wz ⟨rfl, hb⟩; have HK2 := Lib.hid (HK.out.next hb); clear HK n0 n1 n2 n3 n4 l0 l1 l2 l3 l4; have HK := HK2; clear HK2; clear hb; have n0 := (HK.out.a _ (.tail _ (.tail _ (.tail _ (.head _))))).c0; have n1 := (HK.out.a _ (.tail _ (.tail _ (.tail _ (.head _))))).c1; have n2 := (HK.out.a _ (.tail _ (.tail _ (.tail _ (.head _))))).c2; have n3 := (HK.out.a _ (.tail _ (.tail _ (.tail _ (.head _))))).c3; have n4 := (HK.out.a _ (.tail _ (.tail _ (.tail _ (.head _))))).c4; have l0 := (HK.out.a _ (.head _)).c0; have l1 := (HK.out.a _ (.head _)).c1; have l2 := (HK.out.a _ (.head _)).c2; have l3 := (HK.out.a _ (.head _)).c3; have l4 := (HK.out.a _ (.head _)).c4)
            | fail)
          go_ret
          exact ⟨rfl, HK.out.bel⟩
    | succ g2 =>
      have hjz : (j : Int) < (Z.length : Int) := by omega
      have hj : j < Z.length := by omega
      have hwi : IntKind.i64.wrap ((j : Int) + 1) = (j : Int) + 1 := by rw [IntKind.wrap_i64]; omega
      have x4 := (HK.out.a _ (.head _)).c4
      obtain ⟨bZ, oZ, hpZ, _, hcZ⟩ := (HK.out.r _ (.head _)).cells (by intro e; have e2 : Z = [] := e; rw [e2] at hj; simp at hj)
      subst hpZ
      have hxc : wr.cell? ⟨bZ, oZ + j, none⟩ = some (.int .i64 Z[j]) := hcZ j hj
      have hpn : prZ (Z.take (j + 1)) = prZ (Z.take j) * Z[j] ∧ 0 ≤ prZ (Z.take (j + 1)) ∧ prZ (Z.take (j + 1)) ≤ 160000 := by
        have h2 := HP2.out
        have h3 := HP3.out
        have hr := hr3
        match Z, hj, h2, h3 with
        | [a], hj, h2, h3 => obtain rfl : j = 0 := by simp at hj; omega
                             have := h3 a (by simp)
                             simp [prZ]; omega
        | [a, b], hj, h2, h3 => have ha := h3 a (by simp)
                                have hb := h3 b (by simp)
                                have hab : 0 ≤ a * b ∧ a * b ≤ 400 * 400 := ⟨Int.mul_nonneg ha.1 hb.1, Int.mul_le_mul ha.2 hb.2 hb.1 (by decide)⟩
                                have : j = 0 ∨ j = 1 := by simp at hj; omega
                                rcases this with rfl | rfl
                                · simp [prZ]; omega
                                · simp [prZ]; omega
        | _ :: _ :: _ :: _, hj, h2, h3 => simp at h2; omega
      have HPn := Lib.hid hpn.1
      have hwp : IntKind.i64.wrap (prZ (Z.take j) * Z[j]) = prZ (Z.take (j + 1)) := by rw [← hpn.1, IntKind.wrap_i64]; omega
      clear hcZ hpn
      generalize Z[j] = x at hxc hwp
      go_wp2_with fail
      go_roundg g2
      case measure => omega
      case rel => exact ⟨j + 1, by omega, by first | rfl | rw [hwp], by go_num, rfl⟩
end Go.Proofs.YthfpmpmhoegicaaDoor
