/- primitive, Sum, Least, Most, Count of the code. -/
import Derived.Test.YtokmdgiialcokaaDoorFoC
import Derived.Test.YtokmdgiialcokaaDoorExE
namespace Go.Proofs.YtokmdgiialcokaaDoor
open Go.RowKit

theorem RetE.lit {R : Ar} {E : Int} {w : World} {e : Ending} {w' : World} (h : RetE R E w e w') : ∃ q c, e = .returned (.tuple #[A5 R.k R.r R.a R.b (.slice q R.z.length c), .int .i64 E]) ∧ RdN w.heap.size w' (.slice q R.z.length c) R.z ∧ Below w.heap.size w w' := by
  obtain ⟨u, h1, h2, h3⟩ := h
  obtain ⟨q, c, e2, _⟩ := h2.form
  have e3 : u = .slice q R.z.length c := e2
  subst e3
  exact ⟨q, c, h1, h2, h3⟩

set_option maxRecDepth 100000 in
set_option maxHeartbeats 8000000 in
theorem fprim_any (p b : Int) (A : Ar) (v : Value) (w : World) (hw : Ru.Lay w) (hA : ck A = 0) (hr : A.r = 1 ∨ A.r = 2) (hv : RdI w.heap.size w v A.z) (hn : Ru.NilC v) (h64 : in64 A.z) (hb : Sc.inr b = true)
    (hst : ∀ x c, Sc.inr x = true → Sc.inr c = true → Sc.inr (Sc.twoV p x c).1 = true) :
    Calls Tryd.prog 63 #[.int .i64 p, .int .i64 b, A5 A.k A.r A.a A.b v] w (RetE (orNo (feL (csF (Sc.twoV p) b A)) (ofR A (vsL (csF (Sc.twoV p) b A)))) (feL (csF (Sc.twoV p) b A)) w) := by
  have HFd : Hid (∀ W, W.cell? ⟨w.heap.size, 0, none⟩ = some (.int .i64 p) → RdI W.heap.size W v A.z → Calls Tryd.prog 73 #[A5 A.k A.r A.a A.b v, .int .i64 b, .func (.func 85) #[] #[.pointer (some ⟨w.heap.size, 0, none⟩)]] W fun e w' => FdE W.heap.size (csF (Sc.twoV p) b A) e w' ∧ Below W.heap.size W w') := fun W h1 h2 => foldp_any p b w.heap.size A v W hA hr h2 hn h64 hb h1 hst
  have hln : (vsL (csF (Sc.twoV p) b A)).length = rwN A := by rw [vsL_len, csF_len hA]
  have hlz : (vsL (csF (Sc.twoV p) b A)).length ≤ 1000000 := by obtain ⟨_, _, _, q4, _⟩ := rw_good (ck_good hA); omega
  have hck := ofR_ck (ck_good hA) hr hln
  have HOr : Hid (∀ (u : Value) W, Ru.Lay W → RdI W.heap.size W v A.z → RdI W.heap.size W u (vsL (csF (Sc.twoV p) b A)) → Calls Tryd.prog 75 #[A5 A.k A.r A.a A.b v, u] W (RetE (ofR A (vsL (csF (Sc.twoV p) b A))) 0 W)) := fun u W h1 h2 h3 => ofrows_any A v u _ W h1 h2 h3 hlz hck
  have HK := Lib.hid (KOn.new (A := A) p hw hv)
  have x0 := HK.out.box.c0; have x1 := HK.out.box.c1; have x2 := HK.out.box.c2; have x3 := HK.out.box.c3; have x4 := HK.out.box.c4; have xp := HK.out.pb
  clear hA hr hn h64 hb hst hln hlz hck hw
  obtain ⟨p0, cap, rfl, hcap, hcap2, hcell⟩ := hv
  clear hcell
  generalize csF (Sc.twoV p) b A = cs at HFd HOr ⊢
  generalize ofR A (vsL cs) = R at HOr ⊢
  unfold FdE at HFd
  by_cases h1 : feL cs = 0
  · rw [orNo_yes h1, h1]
    rw [h1] at HFd
    clear h1
    obtain ⟨R1, R2, R3, R4, rz⟩ := R
    go_enter Tryd.func63, Tryd.ntmps63
    go_wp2_with (first
      | (go_at_call 73; (with_reducible refine (HFd.out _ HK.out.pb HK.out.rd).mono ?_); rintro e w1 ⟨⟨u, rfl, hu⟩, hb⟩; have HU := Lib.hid ((hu rfl).rd); have HK2 := Lib.hid (HK.out.next hb); clear HK x0 x1 x2 x3 x4; have HK := HK2; clear HK2; have x0 := HK.out.box.c0; have x1 := HK.out.box.c1; have x2 := HK.out.box.c2; have x3 := HK.out.box.c3; have x4 := HK.out.box.c4; clear hu hb xp)
      | (go_at_call 75; (with_reducible refine (HOr.out _ _ HK.out.lay HK.out.rd HU.out).mono ?_); intro e w2 hret; obtain ⟨q, qc, rfl, hu, hb⟩ := hret.lit; have HR := Lib.hid hu; have hlt := HK.out.res.lt; have hge := HK.out.bel.size; have HK2 := Lib.hid (HK.out.next hb); clear HK x0 x1 x2 x3 x4; have HK := HK2; clear HK2; have x0 := HK.out.box.c0; have x1 := HK.out.box.c1; have x2 := HK.out.box.c2; have x3 := HK.out.box.c3; have x4 := HK.out.box.c4; clear hu hb HU hret; have y0 := HK.out.res.c0; have y1 := HK.out.res.c1; have y2 := HK.out.res.c2; have y3 := HK.out.res.c3; have y4 := HK.out.res.c4; have f0 := HK.out.res.fr 0; have f1 := HK.out.res.fr 1; have f2 := HK.out.res.fr 2; have f3 := HK.out.res.fr 3; have f4 := HK.out.res.fr 4; have HS := Lib.hid (HK.out.res.set R1 R2 R3 R4 (.slice q rz.length qc)); have z0 := HS.out.c0; have z1 := HS.out.c1; have z2 := HS.out.c2; have z3 := HS.out.c3; have z4 := HS.out.c4)
      | fail)
    refine bodyPost_ret (v := .tuple #[A5 R1 R2 R3 R4 (.slice q rz.length qc), .int .i64 0]) (by simp [results, Tryd.results63, go_sem, z0, z1, z2, z3, z4]) rfl ?_
    exact ⟨_, rfl, (HR.out.st5 (by omega) _ _ _ _ _).mono (by omega), st5_below _ _ _ _ _ (by omega) HK.out.bel⟩
  · rw [orNo_no h1]
    generalize feL cs = E at HFd h1 ⊢
    have k1 : (E != 0) = true := by simpa using h1
    clear h1 HOr
    go_enter Tryd.func63, Tryd.ntmps63
    go_wp2_with (first | (go_at_call 73; (with_reducible refine (HFd.out _ HK.out.pb HK.out.rd).mono ?_); rintro e w1 ⟨⟨u, rfl, hu⟩, hb⟩; have HK2 := Lib.hid (HK.out.next hb); clear HK x0 x1 x2 x3 x4; have HK := HK2; clear HK2; have x0 := HK.out.box.c0; have x1 := HK.out.box.c1; have x2 := HK.out.box.c2; have x3 := HK.out.box.c3; have x4 := HK.out.box.c4; clear hu hb xp; have y0 := HK.out.res.c0; have y1 := HK.out.res.c1; have y2 := HK.out.res.c2; have y3 := HK.out.res.c3; have y4 := HK.out.res.c4; have f0 := HK.out.res.fr 0; have f1 := HK.out.res.fr 1; have f2 := HK.out.res.fr 2; have f3 := HK.out.res.fr 3; have f4 := HK.out.res.fr 4; have HS := Lib.hid (HK.out.res.set 0 0 0 0 (.slice none 0 0)); have z0 := HS.out.c0; have z1 := HS.out.c1; have z2 := HS.out.c2; have z3 := HS.out.c3; have z4 := HS.out.c4) | fail)
    exact bodyPost_ret (v := .tuple #[A5 0 0 0 0 (.slice none 0 0), .int .i64 E]) (by simp [results, Tryd.results63, go_sem, z0, z1, z2, z3, z4]) rfl (retE_no _ (st5_below _ _ _ _ _ (by omega) HK.out.bel))

theorem st_sum (x c : Int) (_ : Sc.inr x = true) (_ : Sc.inr c = true) : Sc.inr (Sc.twoV 15 x c).1 = true := by
  show Sc.inr (Sc.fit (x + c)) = true
  unfold Sc.fit; split
  · assumption
  · decide
theorem st_mm {p : Int} (hp : p = 31 ∨ p = 32) (x c : Int) (hx : Sc.inr x = true) (hc : Sc.inr c = true) : Sc.inr (Sc.twoV p x c).1 = true := by
  rw [mm_two hp]
  show Sc.inr (mm p x c) = true
  unfold mm
  have h1 := Sc.inr_iff.1 hx
  have h2 := Sc.inr_iff.1 hc
  rw [Sc.inr_iff]
  split <;> omega
set_option maxRecDepth 100000 in
set_option maxHeartbeats 8000000 in
theorem fsum_any (A : Ar) (v : Value) (w : World) (hw : Ru.Lay w) (hv : RdI w.heap.size w v A.z) (hn : Ru.NilC v) (hl : A.z.length ≤ 1000000) (h64 : in64 A.z) :
    Calls Tryd.prog 26 #[A5 A.k A.r A.a A.b v] w (RetE (smV A) (smE A) w) := by
  have HFa := Lib.hid (fun W h1 h2 => ffault_any (A.k == 1) A v W h1 h2 hl)
  have HK := Lib.hid (MK1.new (A := A) hw hv)
  have x0 := HK.out.box.c0; have x1 := HK.out.box.c1; have x2 := HK.out.box.c2; have x3 := HK.out.box.c3; have x4 := HK.out.box.c4
  unfold smV
  by_cases h1 : faE (A.k == 1) A = 0
  · obtain ⟨hA, hk, hr⟩ := faE_ok h1
    clear hk
    have HPr : Hid (∀ W, Ru.Lay W → RdI W.heap.size W v A.z → Calls Tryd.prog 63 #[.int .i64 15, .int .i64 0, A5 A.k A.r A.a A.b v] W (RetE (orNo (smE A) (ofR A (vsL ((rwL A).map sm1)))) (smE A) W)) := fun W h2 h3 => by
      have h := fprim_any 15 0 A v W h2 hA hr h3 hn h64 (by decide) st_sum
      rw [cs_sum] at h
      have e : smE A = feL ((rwL A).map sm1) := if_pos h1
      rw [e]; exact h
    rw [h1] at HFa
    generalize orNo (smE A) (ofR A (vsL ((rwL A).map sm1))) = R at HPr ⊢
    generalize smE A = E at HPr ⊢
    clear h1 hA hr hn h64 hw
    obtain ⟨p0, cap, rfl, hcap, hcap2, hcell⟩ := hv
    clear hcell
    obtain ⟨R1, R2, R3, R4, rz⟩ := R
    go_enter Tryd.func26, Tryd.ntmps26
    go_wp2_with (first
      | (go_at_call 62; (with_reducible refine (HFa.out _ HK.out.lay HK.out.rdn).mono ?_); rintro e w1 ⟨rfl, hb⟩; have HK2 := Lib.hid (HK.out.next hb); clear HK x0 x1 x2 x3 x4; have HK := HK2; clear HK2; have x0 := HK.out.box.c0; have x1 := HK.out.box.c1; have x2 := HK.out.box.c2; have x3 := HK.out.box.c3; have x4 := HK.out.box.c4; clear hb)
      | (go_at_call 63; (with_reducible refine (HPr.out _ HK.out.lay HK.out.rdn).mono ?_); intro e w2 hret; obtain ⟨q, qc, rfl, hu, hb⟩ := hret.lit; have HR := Lib.hid hu; have hlt := HK.out.res.lt; have hge := HK.out.bel.size; have HK2 := Lib.hid (HK.out.next hb); clear HK x0 x1 x2 x3 x4; have HK := HK2; clear HK2; have x0 := HK.out.box.c0; have x1 := HK.out.box.c1; have x2 := HK.out.box.c2; have x3 := HK.out.box.c3; have x4 := HK.out.box.c4; clear hu hb hret; have y0 := HK.out.res.c0; have y1 := HK.out.res.c1; have y2 := HK.out.res.c2; have y3 := HK.out.res.c3; have y4 := HK.out.res.c4; have f0 := HK.out.res.fr 0; have f1 := HK.out.res.fr 1; have f2 := HK.out.res.fr 2; have f3 := HK.out.res.fr 3; have f4 := HK.out.res.fr 4; have HS := Lib.hid (HK.out.res.set R1 R2 R3 R4 (.slice q rz.length qc)); have z0 := HS.out.c0; have z1 := HS.out.c1; have z2 := HS.out.c2; have z3 := HS.out.c3; have z4 := HS.out.c4)
      | fail)
    refine bodyPost_ret (v := .tuple #[A5 R1 R2 R3 R4 (.slice q rz.length qc), .int .i64 E]) (by simp [results, Tryd.results26, go_sem, z0, z1, z2, z3, z4]) rfl ?_
    exact ⟨_, rfl, (HR.out.st5 (by omega) _ _ _ _ _).mono (by omega), st5_below _ _ _ _ _ (by omega) HK.out.bel⟩
  · have e : smE A = faE (A.k == 1) A := if_neg h1
    rw [e, orNo_no h1]
    generalize faE (A.k == 1) A = E at HFa h1 ⊢
    have k1 : (E != 0) = true := by simpa using h1
    clear h1 e hn h64 hw
    obtain ⟨p0, cap, rfl, hcap, hcap2, hcell⟩ := hv
    clear hcell
    go_enter Tryd.func26, Tryd.ntmps26
    go_wp2_with (first | (go_at_call 62; (with_reducible refine (HFa.out _ HK.out.lay HK.out.rdn).mono ?_); rintro e w1 ⟨rfl, hb⟩; have HK2 := Lib.hid (HK.out.next hb); clear HK x0 x1 x2 x3 x4; have HK := HK2; clear HK2; have x0 := HK.out.box.c0; have x1 := HK.out.box.c1; have x2 := HK.out.box.c2; have x3 := HK.out.box.c3; have x4 := HK.out.box.c4; clear hb; have y0 := HK.out.res.c0; have y1 := HK.out.res.c1; have y2 := HK.out.res.c2; have y3 := HK.out.res.c3; have y4 := HK.out.res.c4; have f0 := HK.out.res.fr 0; have f1 := HK.out.res.fr 1; have f2 := HK.out.res.fr 2; have f3 := HK.out.res.fr 3; have f4 := HK.out.res.fr 4; have HS := Lib.hid (HK.out.res.set 0 0 0 0 (.slice none 0 0)); have z0 := HS.out.c0; have z1 := HS.out.c1; have z2 := HS.out.c2; have z3 := HS.out.c3; have z4 := HS.out.c4) | fail)
    exact bodyPost_ret (v := .tuple #[A5 0 0 0 0 (.slice none 0 0), .int .i64 E]) (by simp [results, Tryd.results26, go_sem, z0, z1, z2, z3, z4]) rfl (retE_no _ (st5_below _ _ _ _ _ (by omega) HK.out.bel))

set_option maxRecDepth 100000 in
set_option maxHeartbeats 8000000 in
theorem fend_any {p b : Int} (hp : p = 31 ∨ p = 32) (hbg : b = bgn p) (A : Ar) (v : Value) (w : World) (hw : Ru.Lay w) (hv : RdI w.heap.size w v A.z) (hn : Ru.NilC v) (hl : A.z.length ≤ 1000000) (h64 : in64 A.z) :
    Calls Tryd.prog 71 #[.int .i64 p, .int .i64 b, A5 A.k A.r A.a A.b v] w (RetE (enV p A) (enE A) w) := by
  subst hbg
  have HFa := Lib.hid (fun W h1 h2 => ffault_any (A.k == 1) A v W h1 h2 hl)
  have HK := Lib.hid (MK1.new (A := A) hw hv)
  have x0 := HK.out.box.c0; have x1 := HK.out.box.c1; have x2 := HK.out.box.c2; have x3 := HK.out.box.c3; have x4 := HK.out.box.c4
  unfold enV
  by_cases h1 : faE (A.k == 1) A = 0
  · obtain ⟨hA, hk, hr⟩ := faE_ok h1
    clear hk
    obtain ⟨_, _, r2, r3, r4⟩ := rw_good (ck_good hA)
    have e0 : enE A = (if 0 < rwN A ∧ rwM A = 0 then 13 else 0) := if_pos h1
    have HPr : Hid (∀ W, ¬ (0 < rwN A ∧ rwM A = 0) → Ru.Lay W → RdI W.heap.size W v A.z → Calls Tryd.prog 63 #[.int .i64 p, .int .i64 (bgn p), A5 A.k A.r A.a A.b v] W (RetE (ofR A ((rwL A).map (en1 p))) 0 W)) := fun W hm h2 h3 => by
      have h := fprim_any p (bgn p) A v W h2 hA hr h3 hn h64 (by rcases hp with rfl | rfl <;> decide) (st_mm hp)
      rw [cs_end hp hA h64 hm, feL_pure, vsL_pure, orNo_yes rfl] at h
      exact h
    rw [e0]
    rw [h1] at HFa
    obtain ⟨p0, cap, rfl, hrw⟩ := frows_any A v w (ck_good hA) hr hv hn
    have HRw := Lib.hid hrw
    have hpos : ∀ j, j < rwN A → ∃ q, rp p0 (rwM A) j = .slice q (rwM A) (rwM A) := fun j hj => by
      obtain ⟨q, hq, _⟩ := frp_rd hA hv hj
      exact ⟨q, hq⟩
    have HPos := Lib.hid hpos
    clear hrw hpos
    obtain ⟨n, hn'⟩ : ∃ n, rwN A = n := ⟨_, rfl⟩
    obtain ⟨m, hm'⟩ : ∃ m, rwM A = m := ⟨_, rfl⟩
    rw [hn'] at r3 HRw HPr HPos ⊢
    rw [hm'] at r4 HRw HPr HPos ⊢
    clear hn' hm' h1 hA hr hn h64 hw e0 r2
    obtain ⟨p', cap', hpe, hcap, hcap2, hcell⟩ := hv
    cases hpe
    clear hcell
    by_cases hz : 0 < n ∧ m = 0
    · obtain ⟨hn0, rfl⟩ := hz
      rw [if_pos ⟨hn0, rfl⟩, orNo_no (by decide)]
      clear HPr
      go_enter Tryd.func71, Tryd.ntmps71
      go_wp2_with (first | (go_at_call 62; (with_reducible refine (HFa.out _ HK.out.lay HK.out.rdn).mono ?_); rintro e w1 ⟨rfl, hb⟩; have HK2 := Lib.hid (HK.out.next hb); clear HK x0 x1 x2 x3 x4; have HK := HK2; clear HK2; have x0 := HK.out.box.c0; have x1 := HK.out.box.c1; have x2 := HK.out.box.c2; have x3 := HK.out.box.c3; have x4 := HK.out.box.c4; clear hb) | (go_at_call 86; (with_reducible refine (HRw.out _).mono ?_); rintro e w2 ⟨h, rfl, hh, hrow, hb⟩; have HRow := Lib.hid hrow; have HK2 := Lib.hid (HK.out.next hb); clear HK x0 x1 x2 x3 x4; have HK := HK2; clear HK2; have x0 := HK.out.box.c0; have x1 := HK.out.box.c1; have x2 := HK.out.box.c2; have x3 := HK.out.box.c3; have x4 := HK.out.box.c4; clear hb hrow hh) | fail)
      go_loopg [23] n (fun gk i wr => i = .int .i64 0 ∧ gk = n ∧ w2 = wr)
      case atStart => exact ⟨rfl, rfl, rfl⟩
      case round =>
        obtain ⟨rfl, hgk, rfl⟩ := hrel
        cases gk with
        | zero => omega
        | succ g2 =>
          have hjz : (0 : Int) < (n : Int) := by omega
          obtain ⟨q, hq⟩ := HPos.out 0 hn0
          have y0 : w2.cell? ⟨h, 0, none⟩ = some (.slice q 0 0) := by rw [HRow.out.cell hn0, hq]
          clear hq hgk
          have v0 := HK.out.res.c0; have v1 := HK.out.res.c1; have v2 := HK.out.res.c2; have v3 := HK.out.res.c3; have v4 := HK.out.res.c4; have f0 := HK.out.res.fr 0; have f1 := HK.out.res.fr 1; have f2 := HK.out.res.fr 2; have f3 := HK.out.res.fr 3; have f4 := HK.out.res.fr 4; have HS := Lib.hid (HK.out.res.set 0 0 0 0 (.slice none 0 0)); have z0 := HS.out.c0; have z1 := HS.out.c1; have z2 := HS.out.c2; have z3 := HS.out.c3; have z4 := HS.out.c4
          go_wp2_with fail
          exact bodyPost_ret (v := .tuple #[A5 0 0 0 0 (.slice none 0 0), .int .i64 13]) (by simp [results, Tryd.results71, go_sem, z0, z1, z2, z3, z4]) rfl (retE_no _ (st5_below _ _ _ _ _ (by omega) HK.out.bel))
    · rw [if_neg hz, orNo_yes rfl]
      have HPr2 : Hid (∀ W, Ru.Lay W → RdI W.heap.size W (.slice p0 A.z.length cap) A.z → Calls Tryd.prog 63 #[.int .i64 p, .int .i64 (bgn p), A5 A.k A.r A.a A.b (.slice p0 A.z.length cap)] W (RetE (ofR A ((rwL A).map (en1 p))) 0 W)) := fun W => HPr.out W hz
      generalize ofR A ((rwL A).map (en1 p)) = R at HPr2 ⊢
      obtain ⟨R1, R2, R3, R4, rz⟩ := R
      clear HPr
      generalize bgn p = bg at HPr2 ⊢
      go_enter Tryd.func71, Tryd.ntmps71
      go_wp2_with (first | (go_at_call 62; (with_reducible refine (HFa.out _ HK.out.lay HK.out.rdn).mono ?_); rintro e w1 ⟨rfl, hb⟩; have HK2 := Lib.hid (HK.out.next hb); clear HK x0 x1 x2 x3 x4; have HK := HK2; clear HK2; have x0 := HK.out.box.c0; have x1 := HK.out.box.c1; have x2 := HK.out.box.c2; have x3 := HK.out.box.c3; have x4 := HK.out.box.c4; clear hb) | (go_at_call 86; (with_reducible refine (HRw.out _).mono ?_); rintro e w2 ⟨h, rfl, hh, hrow, hb⟩; have HRow := Lib.hid hrow; have HK2 := Lib.hid (HK.out.next hb); clear HK x0 x1 x2 x3 x4; have HK := HK2; clear HK2; have x0 := HK.out.box.c0; have x1 := HK.out.box.c1; have x2 := HK.out.box.c2; have x3 := HK.out.box.c3; have x4 := HK.out.box.c4; clear hb hrow hh) | fail)
      go_loopg [23] n (fun gk i wr => ∃ j : Nat, j + gk = n ∧ i = .int .i64 j ∧ w2 = wr)
      case atStart => exact ⟨0, by omega, rfl, rfl⟩
      case round =>
        obtain ⟨j, hjg, rfl, rfl⟩ := hrel
        cases gk with
        | zero =>
          have hjz : ¬ ((j : Int) < (n : Int)) := by omega
          clear hz HRow HPos
          go_wp2_with (first | (go_at_call 63; (with_reducible refine (HPr2.out _ HK.out.lay HK.out.rdn).mono ?_); intro e w3 hret; obtain ⟨q, qc, rfl, hu, hb⟩ := hret.lit; have HR := Lib.hid hu; have hlt := HK.out.res.lt; have hge := HK.out.bel.size; have HK2 := Lib.hid (HK.out.next hb); clear HK x0 x1 x2 x3 x4; have HK := HK2; clear HK2; have x0 := HK.out.box.c0; have x1 := HK.out.box.c1; have x2 := HK.out.box.c2; have x3 := HK.out.box.c3; have x4 := HK.out.box.c4; clear hu hb hret; have y0 := HK.out.res.c0; have y1 := HK.out.res.c1; have y2 := HK.out.res.c2; have y3 := HK.out.res.c3; have y4 := HK.out.res.c4; have f0 := HK.out.res.fr 0; have f1 := HK.out.res.fr 1; have f2 := HK.out.res.fr 2; have f3 := HK.out.res.fr 3; have f4 := HK.out.res.fr 4; have HS := Lib.hid (HK.out.res.set R1 R2 R3 R4 (.slice q rz.length qc)); have z0 := HS.out.c0; have z1 := HS.out.c1; have z2 := HS.out.c2; have z3 := HS.out.c3; have z4 := HS.out.c4) | fail)
          refine bodyPost_ret (v := .tuple #[A5 R1 R2 R3 R4 (.slice q rz.length qc), .int .i64 0]) (by simp [results, Tryd.results71, go_sem, z0, z1, z2, z3, z4]) rfl ?_
          exact ⟨_, rfl, (HR.out.st5 (by omega) _ _ _ _ _).mono (by omega), st5_below _ _ _ _ _ (by omega) HK.out.bel⟩
        | succ g2 =>
          have hjz : (j : Int) < (n : Int) := by omega
          have hj : j < n := by omega
          have hm0 : ¬ m = 0 := fun e => hz ⟨by omega, e⟩
          have k3 : ((m : Int) == 0) = false := by rw [beq_eq_false_iff_ne]; omega
          obtain ⟨q, hq⟩ := HPos.out j hj
          have y0 : w2.cell? ⟨h, j, none⟩ = some (.slice q m m) := by rw [HRow.out.cell hj, hq]
          have hw0 : IntKind.i64.wrap ((j : Int) + 1) = (j : Int) + 1 := by rw [IntKind.wrap_i64]; omega
          clear hq hz hm0
          go_wp2_with fail
          go_roundg g2
          case measure => omega
          case rel => exact ⟨j + 1, by omega, by go_num, rfl⟩
  · have e : enE A = faE (A.k == 1) A := if_neg h1
    rw [e, orNo_no h1]
    generalize faE (A.k == 1) A = E at HFa h1 ⊢
    have k1 : (E != 0) = true := by simpa using h1
    clear h1 e hn h64 hw
    obtain ⟨p0, cap, rfl, hcap, hcap2, hcell⟩ := hv
    clear hcell
    go_enter Tryd.func71, Tryd.ntmps71
    go_wp2_with (first | (go_at_call 62; (with_reducible refine (HFa.out _ HK.out.lay HK.out.rdn).mono ?_); rintro e w1 ⟨rfl, hb⟩; have HK2 := Lib.hid (HK.out.next hb); clear HK x0 x1 x2 x3 x4; have HK := HK2; clear HK2; have x0 := HK.out.box.c0; have x1 := HK.out.box.c1; have x2 := HK.out.box.c2; have x3 := HK.out.box.c3; have x4 := HK.out.box.c4; clear hb; have y0 := HK.out.res.c0; have y1 := HK.out.res.c1; have y2 := HK.out.res.c2; have y3 := HK.out.res.c3; have y4 := HK.out.res.c4; have f0 := HK.out.res.fr 0; have f1 := HK.out.res.fr 1; have f2 := HK.out.res.fr 2; have f3 := HK.out.res.fr 3; have f4 := HK.out.res.fr 4; have HS := Lib.hid (HK.out.res.set 0 0 0 0 (.slice none 0 0)); have z0 := HS.out.c0; have z1 := HS.out.c1; have z2 := HS.out.c2; have z3 := HS.out.c3; have z4 := HS.out.c4) | fail)
    exact bodyPost_ret (v := .tuple #[A5 0 0 0 0 (.slice none 0 0), .int .i64 E]) (by simp [results, Tryd.results71, go_sem, z0, z1, z2, z3, z4]) rfl (retE_no _ (st5_below _ _ _ _ _ (by omega) HK.out.bel))

set_option maxRecDepth 100000 in
set_option maxHeartbeats 8000000 in
theorem fleast_any (A : Ar) (v : Value) (w : World) (hw : Ru.Lay w) (hv : RdI w.heap.size w v A.z) (hn : Ru.NilC v) (hl : A.z.length ≤ 1000000) (h64 : in64 A.z) :
    Calls Tryd.prog 30 #[A5 A.k A.r A.a A.b v] w (RetE (enV 31 A) (enE A) w) := by
  have HPr : Hid (∀ W, Ru.Lay W → RdI W.heap.size W v A.z → Calls Tryd.prog 71 #[.int .i64 31, .int .i64 9223372036854775807, A5 A.k A.r A.a A.b v] W (RetE (enV 31 A) (enE A) W)) := fun W h2 h3 => fend_any (p := 31) (by omega) rfl A v W h2 h3 hn hl h64
  have HK := Lib.hid (MK1.new (A := A) hw hv)
  have x0 := HK.out.box.c0; have x1 := HK.out.box.c1; have x2 := HK.out.box.c2; have x3 := HK.out.box.c3; have x4 := HK.out.box.c4
  generalize enV 31 A = R at HPr ⊢
  generalize enE A = E at HPr ⊢
  clear hn h64 hw
  obtain ⟨p0, cap, rfl, hcap, hcap2, hcell⟩ := hv
  clear hcell
  obtain ⟨R1, R2, R3, R4, rz⟩ := R
  go_enter Tryd.func30, Tryd.ntmps30
  go_wp2_with (first
    | (go_at_call 71; (with_reducible refine (HPr.out _ HK.out.lay HK.out.rdn).mono ?_); intro e w2 hret; obtain ⟨q, qc, rfl, hu, hb⟩ := hret.lit; have HR := Lib.hid hu; have hlt := HK.out.res.lt; have hge := HK.out.bel.size; have HK2 := Lib.hid (HK.out.next hb); clear HK x0 x1 x2 x3 x4; have HK := HK2; clear HK2; have x0 := HK.out.box.c0; have x1 := HK.out.box.c1; have x2 := HK.out.box.c2; have x3 := HK.out.box.c3; have x4 := HK.out.box.c4; clear hu hb hret; have y0 := HK.out.res.c0; have y1 := HK.out.res.c1; have y2 := HK.out.res.c2; have y3 := HK.out.res.c3; have y4 := HK.out.res.c4; have f0 := HK.out.res.fr 0; have f1 := HK.out.res.fr 1; have f2 := HK.out.res.fr 2; have f3 := HK.out.res.fr 3; have f4 := HK.out.res.fr 4; have HS := Lib.hid (HK.out.res.set R1 R2 R3 R4 (.slice q rz.length qc)); have z0 := HS.out.c0; have z1 := HS.out.c1; have z2 := HS.out.c2; have z3 := HS.out.c3; have z4 := HS.out.c4)
    | fail)
  refine bodyPost_ret (v := .tuple #[A5 R1 R2 R3 R4 (.slice q rz.length qc), .int .i64 E]) (by simp [results, Tryd.results30, go_sem, z0, z1, z2, z3, z4]) rfl ?_
  exact ⟨_, rfl, (HR.out.st5 (by omega) _ _ _ _ _).mono (by omega), st5_below _ _ _ _ _ (by omega) HK.out.bel⟩

set_option maxRecDepth 100000 in
set_option maxHeartbeats 8000000 in
theorem fmost_any (A : Ar) (v : Value) (w : World) (hw : Ru.Lay w) (hv : RdI w.heap.size w v A.z) (hn : Ru.NilC v) (hl : A.z.length ≤ 1000000) (h64 : in64 A.z) :
    Calls Tryd.prog 32 #[A5 A.k A.r A.a A.b v] w (RetE (enV 32 A) (enE A) w) := by
  have HPr : Hid (∀ W, Ru.Lay W → RdI W.heap.size W v A.z → Calls Tryd.prog 71 #[.int .i64 32, .int .i64 (-9223372036854775808), A5 A.k A.r A.a A.b v] W (RetE (enV 32 A) (enE A) W)) := fun W h2 h3 => fend_any (p := 32) (by omega) rfl A v W h2 h3 hn hl h64
  have HK := Lib.hid (MK1.new (A := A) hw hv)
  have x0 := HK.out.box.c0; have x1 := HK.out.box.c1; have x2 := HK.out.box.c2; have x3 := HK.out.box.c3; have x4 := HK.out.box.c4
  generalize enV 32 A = R at HPr ⊢
  generalize enE A = E at HPr ⊢
  clear hn h64 hw
  obtain ⟨p0, cap, rfl, hcap, hcap2, hcell⟩ := hv
  clear hcell
  obtain ⟨R1, R2, R3, R4, rz⟩ := R
  go_enter Tryd.func32, Tryd.ntmps32
  go_wp2_with (first
    | (go_at_call 71; (with_reducible refine (HPr.out _ HK.out.lay HK.out.rdn).mono ?_); intro e w2 hret; obtain ⟨q, qc, rfl, hu, hb⟩ := hret.lit; have HR := Lib.hid hu; have hlt := HK.out.res.lt; have hge := HK.out.bel.size; have HK2 := Lib.hid (HK.out.next hb); clear HK x0 x1 x2 x3 x4; have HK := HK2; clear HK2; have x0 := HK.out.box.c0; have x1 := HK.out.box.c1; have x2 := HK.out.box.c2; have x3 := HK.out.box.c3; have x4 := HK.out.box.c4; clear hu hb hret; have y0 := HK.out.res.c0; have y1 := HK.out.res.c1; have y2 := HK.out.res.c2; have y3 := HK.out.res.c3; have y4 := HK.out.res.c4; have f0 := HK.out.res.fr 0; have f1 := HK.out.res.fr 1; have f2 := HK.out.res.fr 2; have f3 := HK.out.res.fr 3; have f4 := HK.out.res.fr 4; have HS := Lib.hid (HK.out.res.set R1 R2 R3 R4 (.slice q rz.length qc)); have z0 := HS.out.c0; have z1 := HS.out.c1; have z2 := HS.out.c2; have z3 := HS.out.c3; have z4 := HS.out.c4)
    | fail)
  refine bodyPost_ret (v := .tuple #[A5 R1 R2 R3 R4 (.slice q rz.length qc), .int .i64 E]) (by simp [results, Tryd.results32, go_sem, z0, z1, z2, z3, z4]) rfl ?_
  exact ⟨_, rfl, (HR.out.st5 (by omega) _ _ _ _ _).mono (by omega), st5_below _ _ _ _ _ (by omega) HK.out.bel⟩

set_option maxRecDepth 100000 in
set_option maxHeartbeats 8000000 in
theorem fcount_any (A : Ar) (v : Value) (w : World) (hw : Ru.Lay w) (hv : RdI w.heap.size w v A.z) (hn : Ru.NilC v) (hl : A.z.length ≤ 1000000) :
    Calls Tryd.prog 34 #[A5 A.k A.r A.a A.b v] w (RetE (cntV A) (cntE A) w) := by
  have HFa := Lib.hid (fun W h1 h2 => ffault_any true A v W h1 h2 hl)
  have HK := Lib.hid (MK1.new (A := A) hw hv)
  have x0 := HK.out.box.c0; have x1 := HK.out.box.c1; have x2 := HK.out.box.c2; have x3 := HK.out.box.c3; have x4 := HK.out.box.c4
  unfold cntV cntE
  by_cases h1 : faE true A = 0
  · obtain ⟨hA, _, hr⟩ := faE_ok h1
    have HFd : Hid (∀ W, RdI W.heap.size W v A.z → Calls Tryd.prog 73 #[A5 A.k A.r A.a A.b v, .int .i64 0, .func (.func 74) #[] #[]] W fun e w' => (∃ u, e = .returned (.tuple #[u, .int .i64 0]) ∧ RdN W.heap.size w' u (List.replicate (rwN A) (rwM A : Int))) ∧ Below W.heap.size W w') := fun W h2 => by
      refine (foldc_any A v W hA hr h2 hn).mono ?_
      rintro e w' ⟨⟨u, h3, h4⟩, hb⟩
      rw [cs_cnt hA, feL_pure (List.range (rwN A)) (fun _ => (rwM A : Int)), vsL_pure (List.range (rwN A)) (fun _ => (rwM A : Int)), List.map_const', List.length_range] at h4
      rw [cs_cnt hA, feL_pure (List.range (rwN A)) (fun _ => (rwM A : Int))] at h3
      exact ⟨⟨u, h3, h4 rfl⟩, hb⟩
    have hln : (List.replicate (rwN A) (rwM A : Int)).length = rwN A := List.length_replicate
    have hlz : (List.replicate (rwN A) (rwM A : Int)).length ≤ 1000000 := by obtain ⟨_, _, _, q4, _⟩ := rw_good (ck_good hA); omega
    have hck := ofR_ck (ck_good hA) hr hln
    have HOr : Hid (∀ (u : Value) W, Ru.Lay W → RdI W.heap.size W v A.z → RdI W.heap.size W u (List.replicate (rwN A) (rwM A : Int)) → Calls Tryd.prog 75 #[A5 A.k A.r A.a A.b v, u] W (RetE (ofR A (List.replicate (rwN A) (rwM A : Int))) 0 W)) := fun u W h1 h2 h3 => ofrows_any A v u _ W h1 h2 h3 hlz hck
    rw [orNo_yes h1, h1]
    rw [h1] at HFa
    generalize List.replicate (rwN A) (rwM A : Int) = L at HFd HOr ⊢
    generalize ofR A L = R at HOr ⊢
    clear h1 hA hr hn hw hln hlz hck
    obtain ⟨p0, cap, rfl, hcap, hcap2, hcell⟩ := hv
    clear hcell
    obtain ⟨R1, R2, R3, R4, rz⟩ := R
    go_enter Tryd.func34, Tryd.ntmps34
    go_wp2_with (first
      | (go_at_call 62; (with_reducible refine (HFa.out _ HK.out.lay HK.out.rdn).mono ?_); rintro e w1 ⟨rfl, hb⟩; have HK2 := Lib.hid (HK.out.next hb); clear HK x0 x1 x2 x3 x4; have HK := HK2; clear HK2; have x0 := HK.out.box.c0; have x1 := HK.out.box.c1; have x2 := HK.out.box.c2; have x3 := HK.out.box.c3; have x4 := HK.out.box.c4; clear hb)
      | (go_at_call 73; (with_reducible refine (HFd.out _ HK.out.rdn).mono ?_); rintro e w1 ⟨⟨u, rfl, hu⟩, hb⟩; have HU := Lib.hid hu.rd; have HK2 := Lib.hid (HK.out.next hb); clear HK x0 x1 x2 x3 x4; have HK := HK2; clear HK2; have x0 := HK.out.box.c0; have x1 := HK.out.box.c1; have x2 := HK.out.box.c2; have x3 := HK.out.box.c3; have x4 := HK.out.box.c4; clear hu hb)
      | (go_at_call 75; (with_reducible refine (HOr.out _ _ HK.out.lay HK.out.rdn HU.out).mono ?_); intro e w2 hret; obtain ⟨q, qc, rfl, hu, hb⟩ := hret.lit; have HR := Lib.hid hu; have hlt := HK.out.res.lt; have hge := HK.out.bel.size; have HK2 := Lib.hid (HK.out.next hb); clear HK x0 x1 x2 x3 x4; have HK := HK2; clear HK2; have x0 := HK.out.box.c0; have x1 := HK.out.box.c1; have x2 := HK.out.box.c2; have x3 := HK.out.box.c3; have x4 := HK.out.box.c4; clear hu hb HU hret; have y0 := HK.out.res.c0; have y1 := HK.out.res.c1; have y2 := HK.out.res.c2; have y3 := HK.out.res.c3; have y4 := HK.out.res.c4; have f0 := HK.out.res.fr 0; have f1 := HK.out.res.fr 1; have f2 := HK.out.res.fr 2; have f3 := HK.out.res.fr 3; have f4 := HK.out.res.fr 4; have HS := Lib.hid (HK.out.res.set R1 R2 R3 R4 (.slice q rz.length qc)); have z0 := HS.out.c0; have z1 := HS.out.c1; have z2 := HS.out.c2; have z3 := HS.out.c3; have z4 := HS.out.c4)
      | fail)
    refine bodyPost_ret (v := .tuple #[A5 R1 R2 R3 R4 (.slice q rz.length qc), .int .i64 0]) (by simp [results, Tryd.results34, go_sem, z0, z1, z2, z3, z4]) rfl ?_
    exact ⟨_, rfl, (HR.out.st5 (by omega) _ _ _ _ _).mono (by omega), st5_below _ _ _ _ _ (by omega) HK.out.bel⟩
  · rw [orNo_no h1]
    generalize faE true A = E at HFa h1 ⊢
    have k1 : (E != 0) = true := by simpa using h1
    clear h1 hn hw
    obtain ⟨p0, cap, rfl, hcap, hcap2, hcell⟩ := hv
    clear hcell
    go_enter Tryd.func34, Tryd.ntmps34
    go_wp2_with (first | (go_at_call 62; (with_reducible refine (HFa.out _ HK.out.lay HK.out.rdn).mono ?_); rintro e w1 ⟨rfl, hb⟩; have HK2 := Lib.hid (HK.out.next hb); clear HK x0 x1 x2 x3 x4; have HK := HK2; clear HK2; have x0 := HK.out.box.c0; have x1 := HK.out.box.c1; have x2 := HK.out.box.c2; have x3 := HK.out.box.c3; have x4 := HK.out.box.c4; clear hb; have y0 := HK.out.res.c0; have y1 := HK.out.res.c1; have y2 := HK.out.res.c2; have y3 := HK.out.res.c3; have y4 := HK.out.res.c4; have f0 := HK.out.res.fr 0; have f1 := HK.out.res.fr 1; have f2 := HK.out.res.fr 2; have f3 := HK.out.res.fr 3; have f4 := HK.out.res.fr 4; have HS := Lib.hid (HK.out.res.set 0 0 0 0 (.slice none 0 0)); have z0 := HS.out.c0; have z1 := HS.out.c1; have z2 := HS.out.c2; have z3 := HS.out.c3; have z4 := HS.out.c4) | fail)
    exact bodyPost_ret (v := .tuple #[A5 0 0 0 0 (.slice none 0 0), .int .i64 E]) (by simp [results, Tryd.results34, go_sem, z0, z1, z2, z3, z4]) rfl (retE_no _ (st5_below _ _ _ _ _ (by omega) HK.out.bel))
end Go.Proofs.YtokmdgiialcokaaDoor
