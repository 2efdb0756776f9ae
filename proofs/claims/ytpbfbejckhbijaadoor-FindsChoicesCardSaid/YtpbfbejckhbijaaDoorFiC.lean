/- Iota and Shape, of the code and of the reference. -/
import Derived.Test.YtpbfbejckhbijaaDoorFiB
import Derived.Test.YtpbfbejckhbijaaDoorMvX
namespace Go.Proofs.YtpbfbejckhbijaaDoor
open Go.RowKit

set_option maxRecDepth 100000 in
set_option maxHeartbeats 16000000 in
theorem iiota_any (A : Ar) (v : Value) (w : World) (hw : Ru.Lay w) (hv : RdI w.heap.size w v A.z) (hl : A.z.length ≤ 100000) :
    Calls Tryd.prog 14 #[A5 A.k A.r A.a A.b v] w (RetE (ioV A) (ioE A) w) := by
  have HFa : Hid (∀ W g, W.heap.size = g → Ru.Lay W → RdI W.heap.size W v A.z → Calls Tryd.prog 20 #[.bool (A.k == 1), .bool (A.r == 0), .slice (some ⟨g, 0, none⟩) 1 1] (W.alloc (.cells #[.int .i64 A.k, .int .i64 A.r, .int .i64 A.a, .int .i64 A.b, v] 25)) fun e w' => e = .returned (.int .i64 (oneF A 1 0)) ∧ Below W.heap.size W w') := fun W g hg h1 h2 => by
    have h := ifault1_any (A.k == 1) (A.r == 0) A v W g hg h1 h2 (by omega)
    rwa [fk_one] at h
  have HK := Lib.hid (MK1.new (A := A) hw hv)
  have HW3 := Lib.hid hw.size
  have x0 := HK.out.box.c0; have x1 := HK.out.box.c1; have x2 := HK.out.box.c2; have x3 := HK.out.box.c3; have x4 := HK.out.box.c4
  obtain ⟨p, cap, rfl, _, _, _⟩ := hv
  clear hw
  by_cases h1 : oneF A 1 0 = 0
  · have hE : ioE A = if fst1 A < 0 then 13 else if 400 < fst1 A then 15 else 0 := if_pos h1
    have hV : ioV A = orNo (ioE A) (vecA 1 (upZ (fst1 A).toNat)) := rfl
    rw [hV, hE]
    obtain ⟨hc, hk1, hr⟩ := oneF_ok h1
    have hz := scalar_one (ck_good hc) hr
    have HN1 : Hid (0 < A.z.length) := by unfold Hid; omega
    rw [h1] at HFa
    clear h1 hE hV hc hr hz hk1
    generalize hn : fst1 A = n
    have HFn := Lib.hid hn
    clear hn
    have hN0 : (0 : Int) < (A.z.length : Int) := by have := HN1.out; omega
    by_cases h1 : n < 0
    · rw [if_pos h1, orNo_no (by decide)]
      have k1 : decide (n < 0) = true := decide_eq_true h1
      go_enter Tryd.func14, Tryd.ntmps14
      go_wp2_with (go_at_call 20; (with_reducible refine (HFa.out _ _ (by first | rfl | simp) HK.out.lay HK.out.rdn).mono ?_); rintro e w1 ⟨rfl, hb⟩; have HK2 := Lib.hid (HK.out.next hb); clear HK x0 x1 x2 x3 x4; have HK := HK2; clear HK2; have x0 := HK.out.box.c0; have x1 := HK.out.box.c1; have x2 := HK.out.box.c2; have x3 := HK.out.box.c3; have x4 := HK.out.box.c4; clear hb; obtain ⟨b1, o1, hbe, _, hn1⟩ := fst1_cell HK.out.rdn HN1.out; cases hbe; rw [HFn.out] at hn1; have y0 := HK.out.res.c0; have y1 := HK.out.res.c1; have y2 := HK.out.res.c2; have y3 := HK.out.res.c3; have y4 := HK.out.res.c4; have f0 := HK.out.res.fr 0; have f1 := HK.out.res.fr 1; have f2 := HK.out.res.fr 2; have f3 := HK.out.res.fr 3; have f4 := HK.out.res.fr 4; have HS := Lib.hid (HK.out.res.set 0 0 0 0 (.slice none 0 0)); have z0 := HS.out.c0; have z1 := HS.out.c1; have z2 := HS.out.c2; have z3 := HS.out.c3; have z4 := HS.out.c4)
      exact bodyPost_ret (v := .tuple #[A5 0 0 0 0 (.slice none 0 0), .int .i64 13]) (by simp [results, Tryd.results14, go_sem, z0, z1, z2, z3, z4]) rfl (retE_no _ (st5_below _ _ _ _ _ (by omega) HK.out.bel))
    · rw [if_neg h1]
      by_cases h2 : 400 < n
      · rw [if_pos h2, orNo_no (by decide)]
        have k1 : decide (n < 0) = false := decide_eq_false h1
        have k2 : decide (400 < n) = true := decide_eq_true h2
        clear h1 h2
        go_enter Tryd.func14, Tryd.ntmps14
        go_wp2_with (go_at_call 20; (with_reducible refine (HFa.out _ _ (by first | rfl | simp) HK.out.lay HK.out.rdn).mono ?_); rintro e w1 ⟨rfl, hb⟩; have HK2 := Lib.hid (HK.out.next hb); clear HK x0 x1 x2 x3 x4; have HK := HK2; clear HK2; have x0 := HK.out.box.c0; have x1 := HK.out.box.c1; have x2 := HK.out.box.c2; have x3 := HK.out.box.c3; have x4 := HK.out.box.c4; clear hb; obtain ⟨b1, o1, hbe, _, hn1⟩ := fst1_cell HK.out.rdn HN1.out; cases hbe; rw [HFn.out] at hn1; have y0 := HK.out.res.c0; have y1 := HK.out.res.c1; have y2 := HK.out.res.c2; have y3 := HK.out.res.c3; have y4 := HK.out.res.c4; have f0 := HK.out.res.fr 0; have f1 := HK.out.res.fr 1; have f2 := HK.out.res.fr 2; have f3 := HK.out.res.fr 3; have f4 := HK.out.res.fr 4; have HS := Lib.hid (HK.out.res.set 0 0 0 0 (.slice none 0 0)); have z0 := HS.out.c0; have z1 := HS.out.c1; have z2 := HS.out.c2; have z3 := HS.out.c3; have z4 := HS.out.c4)
        exact bodyPost_ret (v := .tuple #[A5 0 0 0 0 (.slice none 0 0), .int .i64 15]) (by simp [results, Tryd.results14, go_sem, z0, z1, z2, z3, z4]) rfl (retE_no _ (st5_below _ _ _ _ _ (by omega) HK.out.bel))
      · rw [if_neg h2, orNo_yes rfl]
        obtain ⟨m, hm⟩ : ∃ m : Nat, n = (m : Int) := ⟨n.toNat, by omega⟩
        subst hm
        rw [Int.toNat_natCast]
        have hm4 : m ≤ 400 := by omega
        have k1 : decide ((m : Int) < 0) = false := decide_eq_false (by omega)
        have k2 : decide (400 < (m : Int)) = false := decide_eq_false (by omega)
        clear h1 h2
        have HPl := Lib.hid (fun W => places_any m W (by omega))
        have HIn : Hid (∀ W v, RdI W.heap.size W v (upZ m) → Calls Tryd.prog 28 #[v] W (RetE ⟨1, 1, (upZ m).length, 0, upZ m⟩ 0 W)) := fun W v h => by
          have h' := ints_any (upZ m) v W h
          rwa [show vcV 1 (upZ m) = ⟨1, 1, (upZ m).length, 0, upZ m⟩ from if_neg (by rw [upZ_len]; omega), show vcE (upZ m) = 0 from if_neg (by rw [upZ_len]; omega)] at h'
        have HZl := Lib.hid (upZ_len m)
        have HRd : Hid (∀ W g, W.rowIs g 2 m (zf (upZ m) m) → RdI W.heap.size W (.slice (some ⟨g, 0, none⟩) m m) (upZ m)) := fun W g h => zf_all (upZ_len m) h (by omega)
        generalize upZ m = Z at HPl HIn HZl HRd ⊢
        go_enter Tryd.func14, Tryd.ntmps14
        go_wp2_with (first
          | (go_at_call 20; (with_reducible refine (HFa.out _ _ (by first | rfl | simp) HK.out.lay HK.out.rdn).mono ?_); rintro e w1 ⟨rfl, hb⟩; have HK2 := Lib.hid (HK.out.next hb); clear HK x0 x1 x2 x3 x4; have HK := HK2; clear HK2; have x0 := HK.out.box.c0; have x1 := HK.out.box.c1; have x2 := HK.out.box.c2; have x3 := HK.out.box.c3; have x4 := HK.out.box.c4; clear hb; obtain ⟨b1, o1, hbe, _, hn1⟩ := fst1_cell HK.out.rdn HN1.out; cases hbe; rw [HFn.out] at hn1)
          | (go_at_call 24; (with_reducible refine (HPl.out _).mono ?_); rintro e w2 ⟨rfl, hr, hb⟩; have HRw := Lib.hid (HRd.out _ _ hr); clear hr; have HK2 := Lib.hid (HK.out.next hb); clear HK x0 x1 x2 x3 x4; have HK := HK2; clear HK2; have x0 := HK.out.box.c0; have x1 := HK.out.box.c1; have x2 := HK.out.box.c2; have x3 := HK.out.box.c3; have x4 := HK.out.box.c4; clear hb)
          | (go_at_call 28; (with_reducible refine (HIn.out _ _ HRw.out).mono ?_); rintro e w3 ⟨u, rfl, hu, hb⟩; obtain ⟨q, qc, hq, _, _⟩ := hu.form; have hq2 : u = .slice q Z.length qc := hq; subst hq2; clear hq; have HU : Hid (RdN w2.heap.size w3 (.slice q Z.length qc) Z) := hu; have hlt := HK.out.sz; have HK2 := Lib.hid (HK.out.next hb); clear HK x0 x1 x2 x3 x4; have HK := HK2; clear HK2; have x0 := HK.out.box.c0; have x1 := HK.out.box.c1; have x2 := HK.out.box.c2; have x3 := HK.out.box.c3; have x4 := HK.out.box.c4; clear hu hb; have y0 := HK.out.res.c0; have y1 := HK.out.res.c1; have y2 := HK.out.res.c2; have y3 := HK.out.res.c3; have y4 := HK.out.res.c4; have f0 := HK.out.res.fr 0; have f1 := HK.out.res.fr 1; have f2 := HK.out.res.fr 2; have f3 := HK.out.res.fr 3; have f4 := HK.out.res.fr 4; have HS := Lib.hid (HK.out.res.set 1 1 Z.length 0 (.slice q Z.length qc)); have z0 := HS.out.c0; have z1 := HS.out.c1; have z2 := HS.out.c2; have z3 := HS.out.c3; have z4 := HS.out.c4)
          | fail)
        refine bodyPost_ret (v := .tuple #[A5 1 1 Z.length 0 (.slice q Z.length qc), .int .i64 0]) (by simp [results, Tryd.results14, go_sem, z0, z1, z2, z3, z4]) rfl ?_
        exact ⟨_, rfl, (HU.out.st5 (by omega) _ _ _ _ _).mono (by omega), st5_below _ _ _ _ _ (by omega) HK.out.bel⟩
  · have hE : ioE A = oneF A 1 0 := if_neg h1
    rw [show ioV A = Ar.no from orNo_no (by rw [hE]; exact h1), hE]
    clear hE
    generalize oneF A 1 0 = E at h1 HFa ⊢
    have k1 : (E != 0) = true := by simpa using h1
    have k2 : (E == 0) = false := by simpa using h1
    clear h1
    go_enter Tryd.func14, Tryd.ntmps14
    go_wp2_with (go_at_call 20; (with_reducible refine (HFa.out _ _ (by first | rfl | simp) HK.out.lay HK.out.rdn).mono ?_); rintro e w1 ⟨rfl, hb⟩; have HK2 := Lib.hid (HK.out.next hb); clear HK x0 x1 x2 x3 x4; have HK := HK2; clear HK2; have x0 := HK.out.box.c0; have x1 := HK.out.box.c1; have x2 := HK.out.box.c2; have x3 := HK.out.box.c3; have x4 := HK.out.box.c4; clear hb; have y0 := HK.out.res.c0; have y1 := HK.out.res.c1; have y2 := HK.out.res.c2; have y3 := HK.out.res.c3; have y4 := HK.out.res.c4; have f0 := HK.out.res.fr 0; have f1 := HK.out.res.fr 1; have f2 := HK.out.res.fr 2; have f3 := HK.out.res.fr 3; have f4 := HK.out.res.fr 4; have HS := Lib.hid (HK.out.res.set 0 0 0 0 (.slice none 0 0)); have z0 := HS.out.c0; have z1 := HS.out.c1; have z2 := HS.out.c2; have z3 := HS.out.c3; have z4 := HS.out.c4)
    exact bodyPost_ret (v := .tuple #[A5 0 0 0 0 (.slice none 0 0), .int .i64 E]) (by simp [results, Tryd.results14, go_sem, z0, z1, z2, z3, z4]) rfl (retE_no _ (st5_below _ _ _ _ _ (by omega) HK.out.bel))
end Go.Proofs.YtpbfbejckhbijaaDoor
