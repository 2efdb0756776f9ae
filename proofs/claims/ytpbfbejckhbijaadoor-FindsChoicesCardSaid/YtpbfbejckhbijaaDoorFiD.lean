/- Shape, of the code and of the reference. -/
import Derived.Test.YtpbfbejckhbijaaDoorFiC
namespace Go.Proofs.YtpbfbejckhbijaaDoor
open Go.RowKit

set_option maxRecDepth 100000 in
set_option maxHeartbeats 16000000 in
theorem ishape_any (A : Ar) (v : Value) (w : World) (hw : Ru.Lay w) (hv : RdI w.heap.size w v A.z) (hl : A.z.length ≤ 100000) :
    Calls Tryd.prog 18 #[A5 A.k A.r A.a A.b v] w (RetE (shV A) (ck A) w) := by
  have HC := Lib.hid (fun W h0 h1 => acheck_any A v W h0 h1 (by omega))
  have HK := Lib.hid (MK1.new (A := A) hw hv)
  have HW3 := Lib.hid hw.size
  have x0 := HK.out.box.c0; have x1 := HK.out.box.c1; have x2 := HK.out.box.c2; have x3 := HK.out.box.c3; have x4 := HK.out.box.c4
  obtain ⟨p, cap, rfl, _, _, _⟩ := hv
  clear hw
  unfold shV
  by_cases h1 : ck A = 0
  · rw [orNo_yes h1, h1]
    rw [h1] at HC
    have hr3 := (ck_good h1).r3
    clear h1
    rcases hr3 with hr | hr | hr
    · rw [show shZ A = [] by unfold shZ; rw [if_pos hr]]
      rw [hr] at x1
      have HX1 : Hid (A.r = 0) := hr
      clear hr
      have HIn : Hid (∀ W u, RdI W.heap.size W u [] → Calls Tryd.prog 28 #[u] W (RetE ⟨1, 1, 0, 0, []⟩ 0 W)) := fun W u h => ints_any [] u W h
      go_enter Tryd.func18, Tryd.ntmps18
      go_wp2_with (go_at_call 33; (with_reducible refine (HC.out _ HK.out.lay HK.out.rdn).mono ?_); rintro e w1 ⟨rfl, hb⟩; have HK2 := Lib.hid (HK.out.next hb); clear HK x0 x1 x2 x3 x4; have HK := HK2; clear HK2; have x0 := HK.out.box.c0; have x1 := HK.out.box.c1; have x2 := HK.out.box.c2; have x3 := HK.out.box.c3; have x4 := HK.out.box.c4; clear hb; have hrx := HX1.out; rw [hrx] at x1; clear hrx)
      have HK0 : Hid (Kf7 w A (.slice p A.z.length cap) (.slice none 0 0) [] w1) := ⟨HK.out, ins_nil _ _⟩
      clear HK HC x0 x1 x2 x3 x4
      go_loopg [5, 7, 19] 0 (fun gk s x q wr => (gk = 0 ∧ q = .int .i64 0 ∧ ∃ U : Value, s = U ∧ Kf7 w A (.slice p A.z.length cap) U [] wr))
      case atStart => exact ⟨rfl, rfl, _, rfl, HK0.out⟩
      case round =>
        clear HK0
        rcases hrel with ⟨rfl, rfl, U, rfl, hk⟩
        · have HV := Lib.hid hk
          clear hk
          have HRd := Lib.hid (ins_new HV.out.own).rd
          have HNl := Lib.hid (ins_nilC HV.out.own)
          have HK := Lib.hid HV.out.m
          clear HV
          go_wp2_with (go_at_call 28; (with_reducible refine (HIn.out _ _ HRd.out).mono ?_); rintro e w3 ⟨u, rfl, hu, hb⟩; obtain ⟨q, qc, hq, _, _⟩ := hu.form; have hq2 : u = .slice q 0 qc := hq; subst hq2; clear hq; have HU : Hid (RdN wr.heap.size w3 (.slice q 0 qc) []) := hu; have hlt := HK.out.sz; have HK2 := Lib.hid (HK.out.next hb); clear hu hb HK; have HK := HK2; clear HK2; have y0 := HK.out.res.c0; have y1 := HK.out.res.c1; have y2 := HK.out.res.c2; have y3 := HK.out.res.c3; have y4 := HK.out.res.c4; have f0 := HK.out.res.fr 0; have f1 := HK.out.res.fr 1; have f2 := HK.out.res.fr 2; have f3 := HK.out.res.fr 3; have f4 := HK.out.res.fr 4; have HS := Lib.hid (HK.out.res.set 1 1 0 0 (.slice q 0 qc)); have z0 := HS.out.c0; have z1 := HS.out.c1; have z2 := HS.out.c2; have z3 := HS.out.c3; have z4 := HS.out.c4)
          refine bodyPost_ret (v := .tuple #[A5 1 1 0 0 (.slice q 0 qc), .int .i64 0]) (by simp [results, Tryd.results18, go_sem, z0, z1, z2, z3, z4]) rfl ?_
          exact ⟨_, rfl, (HU.out.st5 (by omega) _ _ _ _ _).mono (by omega), st5_below _ _ _ _ _ (by omega) HK.out.bel⟩
    · rw [show shZ A = [A.a] by unfold shZ; rw [if_neg (by omega), if_pos hr]]
      rw [hr] at x1
      have HX1 : Hid (A.r = 1) := hr
      clear hr
      have HIn : Hid (∀ W u, RdI W.heap.size W u [A.a] → Calls Tryd.prog 28 #[u] W (RetE ⟨1, 1, 1, 0, [A.a]⟩ 0 W)) := fun W u h => ints_any [A.a] u W h
      go_enter Tryd.func18, Tryd.ntmps18
      go_wp2_with (go_at_call 33; (with_reducible refine (HC.out _ HK.out.lay HK.out.rdn).mono ?_); rintro e w1 ⟨rfl, hb⟩; have HK2 := Lib.hid (HK.out.next hb); clear HK x0 x1 x2 x3 x4; have HK := HK2; clear HK2; have x0 := HK.out.box.c0; have x1 := HK.out.box.c1; have x2 := HK.out.box.c2; have x3 := HK.out.box.c3; have x4 := HK.out.box.c4; clear hb; have hrx := HX1.out; rw [hrx] at x1; clear hrx)
      have HK0 : Hid (Kf7 w A (.slice p A.z.length cap) (.slice none 0 0) [] w1) := ⟨HK.out, ins_nil _ _⟩
      clear HK HC x0 x1 x2 x3 x4
      go_loopg [5, 7, 19] 1 (fun gk s x q wr => (gk = 1 ∧ q = .int .i64 0 ∧ ∃ U : Value, s = U ∧ Kf7 w A (.slice p A.z.length cap) U [] wr) ∨ (gk = 0 ∧ q = .int .i64 1 ∧ ∃ U : Value, s = U ∧ Kf7 w A (.slice p A.z.length cap) U [A.a] wr))
      case atStart => exact (Or.inl ⟨rfl, rfl, _, rfl, HK0.out⟩)
      case round =>
        clear HK0
        rcases hrel with ⟨rfl, rfl, U, rfl, hk⟩ | ⟨rfl, rfl, U, rfl, hk⟩
        · have HV := Lib.hid hk
          clear hk
          have x1 := HV.out.m.box.c1
          have x2 := HV.out.m.box.c2
          rw [HX1.out] at x1
          have hsz : w.heap.size + 2 ≤ wr.heap.size := HV.out.m.sz
          go_wp2_with (at_builtin; refine wpList_app1 (by simp [Region.wanted]) _ _ rfl (w.heap.size + 2) _ [] rfl HV.out.own A.a rfl (by simp) hsz ?_; intro u2 w2 hu2 hb2; have HV2 : Hid (Kf7 w A (.slice p A.z.length cap) u2 [A.a] w2) := HV.out.step HW3.out hu2 hb2; clear hu2 hb2)
          go_roundg 0
          case measure => omega
          case rel => exact (Or.inr ⟨rfl, by go_num, _, rfl, HV2.out⟩)
        · have HV := Lib.hid hk
          clear hk
          have HRd := Lib.hid (ins_new HV.out.own).rd
          have HNl := Lib.hid (ins_nilC HV.out.own)
          have HK := Lib.hid HV.out.m
          clear HV
          go_wp2_with (go_at_call 28; (with_reducible refine (HIn.out _ _ HRd.out).mono ?_); rintro e w3 ⟨u, rfl, hu, hb⟩; obtain ⟨q, qc, hq, _, _⟩ := hu.form; have hq2 : u = .slice q 1 qc := hq; subst hq2; clear hq; have HU : Hid (RdN wr.heap.size w3 (.slice q 1 qc) [A.a]) := hu; have hlt := HK.out.sz; have HK2 := Lib.hid (HK.out.next hb); clear hu hb HK; have HK := HK2; clear HK2; have y0 := HK.out.res.c0; have y1 := HK.out.res.c1; have y2 := HK.out.res.c2; have y3 := HK.out.res.c3; have y4 := HK.out.res.c4; have f0 := HK.out.res.fr 0; have f1 := HK.out.res.fr 1; have f2 := HK.out.res.fr 2; have f3 := HK.out.res.fr 3; have f4 := HK.out.res.fr 4; have HS := Lib.hid (HK.out.res.set 1 1 1 0 (.slice q 1 qc)); have z0 := HS.out.c0; have z1 := HS.out.c1; have z2 := HS.out.c2; have z3 := HS.out.c3; have z4 := HS.out.c4)
          refine bodyPost_ret (v := .tuple #[A5 1 1 1 0 (.slice q 1 qc), .int .i64 0]) (by simp [results, Tryd.results18, go_sem, z0, z1, z2, z3, z4]) rfl ?_
          exact ⟨_, rfl, (HU.out.st5 (by omega) _ _ _ _ _).mono (by omega), st5_below _ _ _ _ _ (by omega) HK.out.bel⟩
    · rw [show shZ A = [A.a, A.b] by unfold shZ; rw [if_neg (by omega), if_neg (by omega)]]
      rw [hr] at x1
      have HX1 : Hid (A.r = 2) := hr
      clear hr
      have HIn : Hid (∀ W u, RdI W.heap.size W u [A.a, A.b] → Calls Tryd.prog 28 #[u] W (RetE ⟨1, 1, 2, 0, [A.a, A.b]⟩ 0 W)) := fun W u h => ints_any [A.a, A.b] u W h
      go_enter Tryd.func18, Tryd.ntmps18
      go_wp2_with (go_at_call 33; (with_reducible refine (HC.out _ HK.out.lay HK.out.rdn).mono ?_); rintro e w1 ⟨rfl, hb⟩; have HK2 := Lib.hid (HK.out.next hb); clear HK x0 x1 x2 x3 x4; have HK := HK2; clear HK2; have x0 := HK.out.box.c0; have x1 := HK.out.box.c1; have x2 := HK.out.box.c2; have x3 := HK.out.box.c3; have x4 := HK.out.box.c4; clear hb; have hrx := HX1.out; rw [hrx] at x1; clear hrx)
      have HK0 : Hid (Kf7 w A (.slice p A.z.length cap) (.slice none 0 0) [] w1) := ⟨HK.out, ins_nil _ _⟩
      clear HK HC x0 x1 x2 x3 x4
      go_loopg [5, 7, 19] 2 (fun gk s x q wr => (gk = 2 ∧ q = .int .i64 0 ∧ ∃ U : Value, s = U ∧ Kf7 w A (.slice p A.z.length cap) U [] wr) ∨ (gk = 1 ∧ q = .int .i64 1 ∧ ∃ U : Value, s = U ∧ Kf7 w A (.slice p A.z.length cap) U [A.a] wr) ∨ (gk = 0 ∧ q = .int .i64 2 ∧ ∃ U : Value, s = U ∧ Kf7 w A (.slice p A.z.length cap) U [A.a, A.b] wr))
      case atStart => exact (Or.inl ⟨rfl, rfl, _, rfl, HK0.out⟩)
      case round =>
        clear HK0
        rcases hrel with ⟨rfl, rfl, U, rfl, hk⟩ | ⟨rfl, rfl, U, rfl, hk⟩ | ⟨rfl, rfl, U, rfl, hk⟩
        · have HV := Lib.hid hk
          clear hk
          have x1 := HV.out.m.box.c1
          have x2 := HV.out.m.box.c2
          rw [HX1.out] at x1
          have hsz : w.heap.size + 2 ≤ wr.heap.size := HV.out.m.sz
          go_wp2_with (at_builtin; refine wpList_app1 (by simp [Region.wanted]) _ _ rfl (w.heap.size + 2) _ [] rfl HV.out.own A.a rfl (by simp) hsz ?_; intro u2 w2 hu2 hb2; have HV2 : Hid (Kf7 w A (.slice p A.z.length cap) u2 [A.a] w2) := HV.out.step HW3.out hu2 hb2; clear hu2 hb2)
          go_roundg 1
          case measure => omega
          case rel => exact (Or.inr (Or.inl ⟨rfl, by go_num, _, rfl, HV2.out⟩))
        · have HV := Lib.hid hk
          clear hk
          have x1 := HV.out.m.box.c1
          have x2 := HV.out.m.box.c3
          rw [HX1.out] at x1
          have hsz : w.heap.size + 2 ≤ wr.heap.size := HV.out.m.sz
          go_wp2_with (at_builtin; refine wpList_app1 (by simp [Region.wanted]) _ _ rfl (w.heap.size + 2) _ [A.a] rfl HV.out.own A.b rfl (by simp) hsz ?_; intro u2 w2 hu2 hb2; have HV2 : Hid (Kf7 w A (.slice p A.z.length cap) u2 [A.a, A.b] w2) := HV.out.step HW3.out hu2 hb2; clear hu2 hb2)
          go_roundg 0
          case measure => omega
          case rel => exact (Or.inr (Or.inr ⟨rfl, by go_num, _, rfl, HV2.out⟩))
        · have HV := Lib.hid hk
          clear hk
          have HRd := Lib.hid (ins_new HV.out.own).rd
          have HNl := Lib.hid (ins_nilC HV.out.own)
          have HK := Lib.hid HV.out.m
          clear HV
          go_wp2_with (go_at_call 28; (with_reducible refine (HIn.out _ _ HRd.out).mono ?_); rintro e w3 ⟨u, rfl, hu, hb⟩; obtain ⟨q, qc, hq, _, _⟩ := hu.form; have hq2 : u = .slice q 2 qc := hq; subst hq2; clear hq; have HU : Hid (RdN wr.heap.size w3 (.slice q 2 qc) [A.a, A.b]) := hu; have hlt := HK.out.sz; have HK2 := Lib.hid (HK.out.next hb); clear hu hb HK; have HK := HK2; clear HK2; have y0 := HK.out.res.c0; have y1 := HK.out.res.c1; have y2 := HK.out.res.c2; have y3 := HK.out.res.c3; have y4 := HK.out.res.c4; have f0 := HK.out.res.fr 0; have f1 := HK.out.res.fr 1; have f2 := HK.out.res.fr 2; have f3 := HK.out.res.fr 3; have f4 := HK.out.res.fr 4; have HS := Lib.hid (HK.out.res.set 1 1 2 0 (.slice q 2 qc)); have z0 := HS.out.c0; have z1 := HS.out.c1; have z2 := HS.out.c2; have z3 := HS.out.c3; have z4 := HS.out.c4)
          refine bodyPost_ret (v := .tuple #[A5 1 1 2 0 (.slice q 2 qc), .int .i64 0]) (by simp [results, Tryd.results18, go_sem, z0, z1, z2, z3, z4]) rfl ?_
          exact ⟨_, rfl, (HU.out.st5 (by omega) _ _ _ _ _).mono (by omega), st5_below _ _ _ _ _ (by omega) HK.out.bel⟩
  · rw [orNo_no h1]
    generalize ck A = E at h1 HC ⊢
    have k1 : (E != 0) = true := by simpa using h1
    have k2 : (E == 0) = false := by simpa using h1
    clear h1
    go_enter Tryd.func18, Tryd.ntmps18
    go_wp2_with (go_at_call 33; (with_reducible refine (HC.out _ HK.out.lay HK.out.rdn).mono ?_); rintro e w1 ⟨rfl, hb⟩; have HK2 := Lib.hid (HK.out.next hb); clear HK x0 x1 x2 x3 x4; have HK := HK2; clear HK2; have x0 := HK.out.box.c0; have x1 := HK.out.box.c1; have x2 := HK.out.box.c2; have x3 := HK.out.box.c3; have x4 := HK.out.box.c4; clear hb; have y0 := HK.out.res.c0; have y1 := HK.out.res.c1; have y2 := HK.out.res.c2; have y3 := HK.out.res.c3; have y4 := HK.out.res.c4; have f0 := HK.out.res.fr 0; have f1 := HK.out.res.fr 1; have f2 := HK.out.res.fr 2; have f3 := HK.out.res.fr 3; have f4 := HK.out.res.fr 4; have HS := Lib.hid (HK.out.res.set 0 0 0 0 (.slice none 0 0)); have z0 := HS.out.c0; have z1 := HS.out.c1; have z2 := HS.out.c2; have z3 := HS.out.c3; have z4 := HS.out.c4)
    exact bodyPost_ret (v := .tuple #[A5 0 0 0 0 (.slice none 0 0), .int .i64 E]) (by simp [results, Tryd.results18, go_sem, z0, z1, z2, z3, z4]) rfl (retE_no _ (st5_below _ _ _ _ _ (by omega) HK.out.bel))
end Go.Proofs.YtpbfbejckhbijaaDoor
