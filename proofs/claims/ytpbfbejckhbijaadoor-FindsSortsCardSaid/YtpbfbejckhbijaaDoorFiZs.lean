/- The law Sorts. -/
import Derived.Test.YtpbfbejckhbijaaDoorFiZp
import Derived.Test.YtpbfbejckhbijaaDoorFiY
import Derived.Test.YtpbfbejckhbijaaDoorFiQ
import Derived.Test.YtpbfbejckhbijaaDoorMvKc
import Derived.Deep.DeepCutAuto
import Derived.BigQuiet
namespace Go.Proofs.YtpbfbejckhbijaaDoor
open Go.RowKit

theorem infoB8 : (Tryd.prog.info? 4).map (fun i => (i.zero, i.size, i.bytes)) = some (some (.bool false), 1, 1) := by kernel_rfl
/-- The places met so far. -/
def mtf (R : Nat → Nat) (i t : Nat) : Value := .bool (decide (R t < i))
theorem mtf_next {w : World} {g n i p : Nat} {R F : Nat → Nat} (h : w.rowIs g 4 n (mtf R i)) (hR : ∀ t, t < n → (R t = i ↔ t = p)) : (w.setCell ⟨g, p, none⟩ (.bool true)).rowIs g 4 n (mtf R (i + 1)) := by
  have _ := F
  refine (h.set p _).congr fun t ht => ?_
  show (if t = p then Value.bool true else mtf R i t) = mtf R (i + 1) t
  unfold mtf
  by_cases e : t = p
  · have := (hR t ht).2 e
    rw [if_pos e, decide_eq_true (by omega)]
  · have hne : R t ≠ i := fun h2 => e ((hR t ht).1 h2)
    rw [if_neg e]
    by_cases h3 : R t < i
    · rw [decide_eq_true h3, decide_eq_true (by omega)]
    · rw [decide_eq_false h3, decide_eq_false (by omega)]
theorem grade8 (k : Int) (z : List Int) (m : Int) (hk : k = 1) (hc : ck ⟨k, 1, m, 0, z⟩ = 0) (v : Value) (W : World) (h0 : Ru.Lay W) (h1 : RdI W.heap.size W v z) (hl : z.length ≤ 100000) :
    Calls Tryd.prog 9 #[A5 k 1 m 0 v] W (RetE ⟨1, 1, (grS z).length, 0, grS z⟩ 0 W) := by
  have h := igrade_any ⟨k, 1, m, 0, z⟩ v W h0 h1 hl
  have e : grE ⟨k, 1, m, 0, z⟩ = 0 := by unfold grE oneF; rw [if_pos hc, if_pos hk, if_pos rfl]
  rwa [show grV ⟨k, 1, m, 0, z⟩ = ⟨1, 1, (grS z).length, 0, grS z⟩ from orNo_yes e, e] at h
set_option maxRecDepth 100000 in
set_option maxHeartbeats 64000000 in
theorem lawSorts8_any (A : Ar) (v : Value) (w : World) (hw : Ru.Lay w) (hv : RdI w.heap.size w v A.z) (hn : Ru.NilC v) (haw : ∀ W, Ru.Lay W → Calls Tryd.prog 6 #[] W fun e w' => e = .returned (.bool true) ∧ Below W.heap.size W w') :
    Calls Tryd.prog 4 #[A5 A.k A.r A.a A.b v] w fun e w' => e = .returned (.bool true) ∧ Below w.heap.size w w' := by
  have HV1 := Lib.hid (fun W h => vec8_any A v W h)
  have HAw := Lib.hid haw
  clear haw
  have HK : Hid (KVar w [⟨w.heap.size, A, v⟩] (w.alloc (.cells #[.int .i64 A.k, .int .i64 A.r, .int .i64 A.a, .int .i64 A.b, v] 25))) := (KVar.start w hw).arg A hv hn
  obtain ⟨qa, ca, rfl, hv1, hv2, hv3⟩ := hv
  clear hw hn hv1 hv2 hv3
  have x0 := (HK.out.a _ (.head _)).c0
  have x1 := (HK.out.a _ (.head _)).c1
  have x2 := (HK.out.a _ (.head _)).c2
  have x3 := (HK.out.a _ (.head _)).c3
  have x4 := (HK.out.a _ (.head _)).c4
  by_cases hf : vcB A = true
  rotate_left
  · have hf' : vcB A = false := by simpa using hf
    rw [hf'] at HV1
    clear hf hf'
    as_aux_lemma =>
      go_enter Tryd.func4, Tryd.ntmps4
      go_wp2_with (first
        | (go_at_call 12; (with_reducible refine (HV1.out _ (by with_unfolding_all exact (HK.out.r _ (.head _)))).mono ?_); rintro e wz ⟨rfl, hb⟩; have HK2 := Lib.hid (HK.out.next hb); clear HK x0 x1 x2 x3 x4; have HK := HK2; clear HK2; clear hb; have x0 := (HK.out.a _ (.head _)).c0; have x1 := (HK.out.a _ (.head _)).c1; have x2 := (HK.out.a _ (.head _)).c2; have x3 := (HK.out.a _ (.head _)).c3; have x4 := (HK.out.a _ (.head _)).c4)
        | (go_at_call 6; (with_reducible refine (HAw.out _ (by with_unfolding_all exact HK.out.lay)).mono ?_); rintro e wz ⟨rfl, hb⟩; have HK2 := Lib.hid (HK.out.next hb); clear HK x0 x1 x2 x3 x4; have HK := HK2; clear HK2; clear hb; have x0 := (HK.out.a _ (.head _)).c0; have x1 := (HK.out.a _ (.head _)).c1; have x2 := (HK.out.a _ (.head _)).c2; have x3 := (HK.out.a _ (.head _)).c3; have x4 := (HK.out.a _ (.head _)).c4)
        | fail)
      go_ret
      exact ⟨rfl, HK.out.bel⟩
  rw [hf] at HV1
  obtain ⟨_, cA, rA⟩ := vcB_yes hf
  by_cases hk : A.k = 1
  rotate_left
  · have k1 : (A.k != 1) = true := by simpa using hk
    clear hk cA rA hf
    as_aux_lemma =>
      go_enter Tryd.func4, Tryd.ntmps4
      go_wp2_with (first
        | (go_at_call 12; (with_reducible refine (HV1.out _ (by with_unfolding_all exact (HK.out.r _ (.head _)))).mono ?_); rintro e wz ⟨rfl, hb⟩; have HK2 := Lib.hid (HK.out.next hb); clear HK x0 x1 x2 x3 x4; have HK := HK2; clear HK2; clear hb; have x0 := (HK.out.a _ (.head _)).c0; have x1 := (HK.out.a _ (.head _)).c1; have x2 := (HK.out.a _ (.head _)).c2; have x3 := (HK.out.a _ (.head _)).c3; have x4 := (HK.out.a _ (.head _)).c4)
        | (go_at_call 6; (with_reducible refine (HAw.out _ (by with_unfolding_all exact HK.out.lay)).mono ?_); rintro e wz ⟨rfl, hb⟩; have HK2 := Lib.hid (HK.out.next hb); clear HK x0 x1 x2 x3 x4; have HK := HK2; clear HK2; clear hb; have x0 := (HK.out.a _ (.head _)).c0; have x1 := (HK.out.a _ (.head _)).c1; have x2 := (HK.out.a _ (.head _)).c2; have x3 := (HK.out.a _ (.head _)).c3; have x4 := (HK.out.a _ (.head _)).c4)
        | fail)
      go_ret
      exact ⟨rfl, HK.out.bel⟩
  have k1 : (A.k != 1) = false := by simpa using hk
  have hl4 := (ck_good cA).len4
  have hform := vec_form cA rA
  obtain ⟨F, R, hS⟩ := srt_of A.z
  have HG1 := Lib.hid (fun W h0 h1 => igrade_any A (.slice qa A.z.length ca) W h0 h1 (by omega))
  have eA : grE A = 0 := by unfold grE oneF; rw [if_pos cA, if_pos hk, if_pos rA]
  rw [show grV A = ⟨1, 1, (grS A.z).length, 0, grS A.z⟩ from orNo_yes eA, eA] at HG1
  generalize grS A.z = G at HG1 hS
  have gl := hS.gl
  have sl := hS.sl
  have bl := hS.bl
  have HA1 := Lib.hid (fun u W h0 h1 h2 => lat8A A cA rA G (by omega) hS.gin (.slice qa A.z.length ca) u W h0 h1 h2)
  have cf : ck ⟨A.k, 1, A.z.length, 0, A.z⟩ = 0 := by rw [← hform]; exact cA
  have cS : ck ⟨A.k, 1, (plZ A.z G).length, 0, plZ A.z G⟩ = 0 := (at_vec rfl cf (ints_ck (by omega)) hS.gin).2.2
  have HG2 := Lib.hid (fun v W h0 h1 => grade8 A.k (plZ A.z G) (plZ A.z G).length hk cS v W h0 h1 (by omega))
  rw [hS.again] at HG2
  have HG3 := Lib.hid (fun v W h0 h1 => grade8 1 G G.length rfl (ints_ck (by omega)) v W h0 h1 (by omega))
  have HA2 := Lib.hid (fun v u W h0 h1 h2 => lat8 A.k (plZ A.z G) (grS G) (plZ A.z G).length rfl cS (by omega) (by omega) (by rw [sl]; exact hS.back) v u W h0 h1 h2)
  rw [hS.old, ← hform] at HA2
  obtain ⟨i1, i2⟩ := io_int (n := A.z.length) hl4
  have HI : Hid (∀ W, Calls Tryd.prog 15 #[.int .i64 (A.z.length : Int)] W (RetA ⟨1, 0, 0, 0, [(A.z.length : Int)]⟩ W)) := fun W => lint_any _ W
  have HIo := Lib.hid (fun v W h0 h1 => iiota_any ⟨1, 0, 0, 0, [(A.z.length : Int)]⟩ v W h0 h1 (by simp))
  rw [i1, i2] at HIo
  have HQ1 := Lib.hid (fun v u W h1 h2 => is8_eq ⟨1, 1, (upZ A.z.length).length, 0, upZ A.z.length⟩ v u W h1 h2 (by show (upZ _).length ≤ _; rw [upZ_len]; omega))
  have HQ2 := Lib.hid (fun v u W h1 h2 => is8_eq A v u W h1 h2 (by omega))
  have HS := Lib.hid hS
  have HSl := Lib.hid sl
  have HGl := Lib.hid gl
  have kg : ((G.length : Int) != (A.z.length : Int)) = false := by rw [gl]; simp
  have ks : (((plZ A.z G).length : Int) != (A.z.length : Int)) = false := by rw [sl]; simp
  clear hS hf gl sl bl cf cS i1 i2 eA hform cA rA hk
  generalize plZ A.z G = S at HA1 HG2 HA2 HS HSl ks
  generalize grS G = B at HG3 HA2
  generalize upZ A.z.length = U at HIo HQ1 HG2
  obtain ⟨i0, hi, hz0, hz1, hz2⟩ := info_parts infoB8
  have hmk := fun (W : World) => run_make (P := Tryd.prog) W 34 4 i0 (.bool false) Tryd.underlying34 hi hz0 .i64 .i64 A.z.length A.z.length (by omega) (by omega) (by rw [hz2]; omega) (by omega)
  have hmk2 : ∀ W, _ := fun W => by have h := hmk W; rw [Int.toNat_natCast, hz1, Nat.mul_one] at h; exact h
  clear hmk
  have HR0 : Hid (∀ W : World, (W.alloc (.cells (madeCells #[.bool false] A.z.length) 4)).rowIs W.heap.size 4 A.z.length (mtf R 0)) := fun W => (World.rowIs_made W (.bool false) A.z.length 4).congr fun i _ => by unfold mtf; rw [decide_eq_false (by omega)]
  go_enter Tryd.func4, Tryd.ntmps4
  go_upto_region 9 with (first
    | (go_at_call 13; (with_reducible refine (HA1.out _ _ (by with_unfolding_all exact HK.out.lay) (by with_unfolding_all exact (HK.out.r _ (.tail _ (.head _)))) (by with_unfolding_all exact (HK.out.r _ (.head _)))).mono ?_); rintro e wat ⟨uwat, rfl, hu, hb⟩; obtain ⟨pwat, cwat, hpwat, _, _⟩ := hu.form; have hqwat : uwat = (.slice pwat S.length cwat) := hpwat; subst hqwat; clear hpwat; have hltgs : wgr.heap.size < wat.heap.size := Nat.lt_of_lt_of_le (HK.out.lt _ (.head _)) hb.size; have hltxs : w.heap.size < wat.heap.size := Nat.lt_of_lt_of_le (HK.out.lt _ (.tail _ (.head _))) hb.size; have HK2 := Lib.hid (HK.out.res hb ⟨A.k, 1, S.length, 0, S⟩ hu); clear HK x0 x1 x2 x3 x4 g0 g1 g2 g3 g4; have HK := HK2; clear HK2; clear hb hu; have x0 := (HK.out.a _ (.tail _ (.tail _ (.head _)))).c0; have x1 := (HK.out.a _ (.tail _ (.tail _ (.head _)))).c1; have x2 := (HK.out.a _ (.tail _ (.tail _ (.head _)))).c2; have x3 := (HK.out.a _ (.tail _ (.tail _ (.head _)))).c3; have x4 := (HK.out.a _ (.tail _ (.tail _ (.head _)))).c4; have g0 := (HK.out.a _ (.tail _ (.head _))).c0; have g1 := (HK.out.a _ (.tail _ (.head _))).c1; have g2 := (HK.out.a _ (.tail _ (.head _))).c2; have g3 := (HK.out.a _ (.tail _ (.head _))).c3; have g4 := (HK.out.a _ (.tail _ (.head _))).c4; have s0 := (HK.out.a _ (.head _)).c0; have s1 := (HK.out.a _ (.head _)).c1; have s2 := (HK.out.a _ (.head _)).c2; have s3 := (HK.out.a _ (.head _)).c3; have s4 := (HK.out.a _ (.head _)).c4)
    | (go_at_call 9; (with_reducible refine (HG1.out _ (by with_unfolding_all exact HK.out.lay) (by with_unfolding_all exact (HK.out.r _ (.head _)))).mono ?_); rintro e wgr ⟨uwgr, rfl, hu, hb⟩; obtain ⟨pwgr, cwgr, hpwgr, _, _⟩ := hu.form; have hqwgr : uwgr = (.slice pwgr G.length cwgr) := hpwgr; subst hqwgr; clear hpwgr; have hltxg : w.heap.size < wgr.heap.size := Nat.lt_of_lt_of_le (HK.out.lt _ (.head _)) hb.size; have HK2 := Lib.hid (HK.out.res hb ⟨1, 1, G.length, 0, G⟩ hu); clear HK x0 x1 x2 x3 x4; have HK := HK2; clear HK2; clear hb hu; have x0 := (HK.out.a _ (.tail _ (.head _))).c0; have x1 := (HK.out.a _ (.tail _ (.head _))).c1; have x2 := (HK.out.a _ (.tail _ (.head _))).c2; have x3 := (HK.out.a _ (.tail _ (.head _))).c3; have x4 := (HK.out.a _ (.tail _ (.head _))).c4; have g0 := (HK.out.a _ (.head _)).c0; have g1 := (HK.out.a _ (.head _)).c1; have g2 := (HK.out.a _ (.head _)).c2; have g3 := (HK.out.a _ (.head _)).c3; have g4 := (HK.out.a _ (.head _)).c4)
    | (go_at_call 12; (with_reducible refine (HV1.out _ (by with_unfolding_all exact (HK.out.r _ (.head _)))).mono ?_); rintro e wz ⟨rfl, hb⟩; have HK2 := Lib.hid (HK.out.next hb); clear HK x0 x1 x2 x3 x4; have HK := HK2; clear HK2; clear hb; have x0 := (HK.out.a _ (.head _)).c0; have x1 := (HK.out.a _ (.head _)).c1; have x2 := (HK.out.a _ (.head _)).c2; have x3 := (HK.out.a _ (.head _)).c3; have x4 := (HK.out.a _ (.head _)).c4)
    | fail)
  clear HV1 HG1 HA1 hmk2 kg ks k1 hi hz0 hz1 hz2 x0 x1 x2 x3 x4 g0 g1 g2 g3 g4 s0 s1 s2 s3 s4
  generalize hW1 : World.alloc wat _ = W1 at HK ⊢
  have hgm : W1.heap.size = wat.heap.size + 1 := by rw [← hW1]; simp
  have HRm := Lib.hid (HR0.out W1)
  rw [hgm] at HRm
  have HB0 : Hid (Below (wat.heap.size + 1) W1 (World.alloc W1 (.cells (madeCells #[.bool false] A.z.length) 4))) := by rw [← hgm]; exact bel1 _ _
  generalize hW2 : World.alloc W1 _ = W2 at HRm HB0 ⊢
  clear hW1 hW2 HR0
  obtain ⟨gm, hg⟩ : ∃ gm, gm = wat.heap.size + 1 := ⟨_, rfl⟩
  rw [← hg] at hgm HRm HB0 ⊢
  have HGm := Lib.hid hgm
  clear hgm hg
  obtain ⟨W0, hW0⟩ : ∃ W0, W0 = W2 := ⟨_, rfl⟩
  rw [← hW0] at HRm HB0 ⊢
  clear hW0
  go_wp2_with fail
  go_loopg [9] A.z.length (fun gk vi wr => ∃ (i : Nat), i + gk = A.z.length ∧ vi = .int .i64 i ∧ Below gm W1 wr ∧ wr.rowIs gm 4 A.z.length (mtf R i))
  case atStart => exact ⟨0, by omega, rfl, HB0.out, HRm.out⟩
  case round =>
    obtain ⟨i, hig, rfl, hbl, hr⟩ := hrel
    clear HB0 HRm
    have HB := Lib.hid hbl
    have HR := Lib.hid hr
    clear hbl hr
    cases gk with
    | zero =>
      have hiz : ¬ ((i : Int) < (A.z.length : Int)) := by omega
      have HKr := Lib.hid (HK.out.next (by rw [HGm.out]; exact HB.out))
      clear HK HB HR HS HGm
      have HK := HKr
      clear HKr
      have x0 := (HK.out.a _ (.tail _ (.tail _ (.head _)))).c0
      have x1 := (HK.out.a _ (.tail _ (.tail _ (.head _)))).c1
      have x2 := (HK.out.a _ (.tail _ (.tail _ (.head _)))).c2
      have x3 := (HK.out.a _ (.tail _ (.tail _ (.head _)))).c3
      have x4 := (HK.out.a _ (.tail _ (.tail _ (.head _)))).c4
      have g0 := (HK.out.a _ (.tail _ (.head _))).c0
      have g1 := (HK.out.a _ (.tail _ (.head _))).c1
      have g2 := (HK.out.a _ (.tail _ (.head _))).c2
      have g3 := (HK.out.a _ (.tail _ (.head _))).c3
      have g4 := (HK.out.a _ (.tail _ (.head _))).c4
      have s0 := (HK.out.a _ (.head _)).c0
      have s1 := (HK.out.a _ (.head _)).c1
      have s2 := (HK.out.a _ (.head _)).c2
      have s3 := (HK.out.a _ (.head _)).c3
      have s4 := (HK.out.a _ (.head _)).c4
      go_wp2_with (first
        | (go_at_call 6; (with_reducible refine (HAw.out _ (by with_unfolding_all exact HK.out.lay)).mono ?_); rintro e wz ⟨rfl, hb⟩; have HK2 := Lib.hid (HK.out.next hb); clear HK x0 x1 x2 x3 x4 g0 g1 g2 g3 g4 s0 s1 s2 s3 s4 ag0 ag1 ag2 ag3 ag4 al0 al1 al2 al3 al4 ba0 ba1 ba2 ba3 ba4 ol0 ol1 ol2 ol3 ol4; have HK := HK2; clear HK2; clear hb; have x0 := (HK.out.a _ (.tail _ (.tail _ (.tail _ (.tail _ (.tail _ (.tail _ (.head _)))))))).c0; have x1 := (HK.out.a _ (.tail _ (.tail _ (.tail _ (.tail _ (.tail _ (.tail _ (.head _)))))))).c1; have x2 := (HK.out.a _ (.tail _ (.tail _ (.tail _ (.tail _ (.tail _ (.tail _ (.head _)))))))).c2; have x3 := (HK.out.a _ (.tail _ (.tail _ (.tail _ (.tail _ (.tail _ (.tail _ (.head _)))))))).c3; have x4 := (HK.out.a _ (.tail _ (.tail _ (.tail _ (.tail _ (.tail _ (.tail _ (.head _)))))))).c4; have g0 := (HK.out.a _ (.tail _ (.tail _ (.tail _ (.tail _ (.tail _ (.head _))))))).c0; have g1 := (HK.out.a _ (.tail _ (.tail _ (.tail _ (.tail _ (.tail _ (.head _))))))).c1; have g2 := (HK.out.a _ (.tail _ (.tail _ (.tail _ (.tail _ (.tail _ (.head _))))))).c2; have g3 := (HK.out.a _ (.tail _ (.tail _ (.tail _ (.tail _ (.tail _ (.head _))))))).c3; have g4 := (HK.out.a _ (.tail _ (.tail _ (.tail _ (.tail _ (.tail _ (.head _))))))).c4; have s0 := (HK.out.a _ (.tail _ (.tail _ (.tail _ (.tail _ (.head _)))))).c0; have s1 := (HK.out.a _ (.tail _ (.tail _ (.tail _ (.tail _ (.head _)))))).c1; have s2 := (HK.out.a _ (.tail _ (.tail _ (.tail _ (.tail _ (.head _)))))).c2; have s3 := (HK.out.a _ (.tail _ (.tail _ (.tail _ (.tail _ (.head _)))))).c3; have s4 := (HK.out.a _ (.tail _ (.tail _ (.tail _ (.tail _ (.head _)))))).c4; have ag0 := (HK.out.a _ (.tail _ (.tail _ (.tail _ (.head _))))).c0; have ag1 := (HK.out.a _ (.tail _ (.tail _ (.tail _ (.head _))))).c1; have ag2 := (HK.out.a _ (.tail _ (.tail _ (.tail _ (.head _))))).c2; have ag3 := (HK.out.a _ (.tail _ (.tail _ (.tail _ (.head _))))).c3; have ag4 := (HK.out.a _ (.tail _ (.tail _ (.tail _ (.head _))))).c4; have al0 := (HK.out.a _ (.tail _ (.tail _ (.head _)))).c0; have al1 := (HK.out.a _ (.tail _ (.tail _ (.head _)))).c1; have al2 := (HK.out.a _ (.tail _ (.tail _ (.head _)))).c2; have al3 := (HK.out.a _ (.tail _ (.tail _ (.head _)))).c3; have al4 := (HK.out.a _ (.tail _ (.tail _ (.head _)))).c4; have ba0 := (HK.out.a _ (.tail _ (.head _))).c0; have ba1 := (HK.out.a _ (.tail _ (.head _))).c1; have ba2 := (HK.out.a _ (.tail _ (.head _))).c2; have ba3 := (HK.out.a _ (.tail _ (.head _))).c3; have ba4 := (HK.out.a _ (.tail _ (.head _))).c4; have ol0 := (HK.out.a _ (.head _)).c0; have ol1 := (HK.out.a _ (.head _)).c1; have ol2 := (HK.out.a _ (.head _)).c2; have ol3 := (HK.out.a _ (.head _)).c3; have ol4 := (HK.out.a _ (.head _)).c4)
        | (go_at_call 16; (with_reducible refine (HQ2.out _ _ _ (by with_unfolding_all exact (HK.out.r _ (.head _))) (by with_unfolding_all exact (HK.out.r _ (.tail _ (.tail _ (.tail _ (.tail _ (.tail _ (.tail _ (.head _)))))))))).mono ?_); rintro e wz ⟨rfl, hb⟩; have HK2 := Lib.hid (HK.out.next hb); clear HK x0 x1 x2 x3 x4 g0 g1 g2 g3 g4 s0 s1 s2 s3 s4 ag0 ag1 ag2 ag3 ag4 al0 al1 al2 al3 al4 ba0 ba1 ba2 ba3 ba4 ol0 ol1 ol2 ol3 ol4; have HK := HK2; clear HK2; clear hb; have x0 := (HK.out.a _ (.tail _ (.tail _ (.tail _ (.tail _ (.tail _ (.tail _ (.head _)))))))).c0; have x1 := (HK.out.a _ (.tail _ (.tail _ (.tail _ (.tail _ (.tail _ (.tail _ (.head _)))))))).c1; have x2 := (HK.out.a _ (.tail _ (.tail _ (.tail _ (.tail _ (.tail _ (.tail _ (.head _)))))))).c2; have x3 := (HK.out.a _ (.tail _ (.tail _ (.tail _ (.tail _ (.tail _ (.tail _ (.head _)))))))).c3; have x4 := (HK.out.a _ (.tail _ (.tail _ (.tail _ (.tail _ (.tail _ (.tail _ (.head _)))))))).c4; have g0 := (HK.out.a _ (.tail _ (.tail _ (.tail _ (.tail _ (.tail _ (.head _))))))).c0; have g1 := (HK.out.a _ (.tail _ (.tail _ (.tail _ (.tail _ (.tail _ (.head _))))))).c1; have g2 := (HK.out.a _ (.tail _ (.tail _ (.tail _ (.tail _ (.tail _ (.head _))))))).c2; have g3 := (HK.out.a _ (.tail _ (.tail _ (.tail _ (.tail _ (.tail _ (.head _))))))).c3; have g4 := (HK.out.a _ (.tail _ (.tail _ (.tail _ (.tail _ (.tail _ (.head _))))))).c4; have s0 := (HK.out.a _ (.tail _ (.tail _ (.tail _ (.tail _ (.head _)))))).c0; have s1 := (HK.out.a _ (.tail _ (.tail _ (.tail _ (.tail _ (.head _)))))).c1; have s2 := (HK.out.a _ (.tail _ (.tail _ (.tail _ (.tail _ (.head _)))))).c2; have s3 := (HK.out.a _ (.tail _ (.tail _ (.tail _ (.tail _ (.head _)))))).c3; have s4 := (HK.out.a _ (.tail _ (.tail _ (.tail _ (.tail _ (.head _)))))).c4; have ag0 := (HK.out.a _ (.tail _ (.tail _ (.tail _ (.head _))))).c0; have ag1 := (HK.out.a _ (.tail _ (.tail _ (.tail _ (.head _))))).c1; have ag2 := (HK.out.a _ (.tail _ (.tail _ (.tail _ (.head _))))).c2; have ag3 := (HK.out.a _ (.tail _ (.tail _ (.tail _ (.head _))))).c3; have ag4 := (HK.out.a _ (.tail _ (.tail _ (.tail _ (.head _))))).c4; have al0 := (HK.out.a _ (.tail _ (.tail _ (.head _)))).c0; have al1 := (HK.out.a _ (.tail _ (.tail _ (.head _)))).c1; have al2 := (HK.out.a _ (.tail _ (.tail _ (.head _)))).c2; have al3 := (HK.out.a _ (.tail _ (.tail _ (.head _)))).c3; have al4 := (HK.out.a _ (.tail _ (.tail _ (.head _)))).c4; have ba0 := (HK.out.a _ (.tail _ (.head _))).c0; have ba1 := (HK.out.a _ (.tail _ (.head _))).c1; have ba2 := (HK.out.a _ (.tail _ (.head _))).c2; have ba3 := (HK.out.a _ (.tail _ (.head _))).c3; have ba4 := (HK.out.a _ (.tail _ (.head _))).c4; have ol0 := (HK.out.a _ (.head _)).c0; have ol1 := (HK.out.a _ (.head _)).c1; have ol2 := (HK.out.a _ (.head _)).c2; have ol3 := (HK.out.a _ (.head _)).c3; have ol4 := (HK.out.a _ (.head _)).c4)
        | (go_at_call 16; (with_reducible refine (HQ1.out _ _ _ (by with_unfolding_all exact (HK.out.r _ (.tail _ (.tail _ (.tail _ (.head _)))))) (by with_unfolding_all exact (HK.out.r _ (.tail _ (.tail _ (.head _)))))).mono ?_); rintro e wz ⟨rfl, hb⟩; have HK2 := Lib.hid (HK.out.next hb); clear HK x0 x1 x2 x3 x4 g0 g1 g2 g3 g4 s0 s1 s2 s3 s4 ag0 ag1 ag2 ag3 ag4 al0 al1 al2 al3 al4 ba0 ba1 ba2 ba3 ba4 ol0 ol1 ol2 ol3 ol4; have HK := HK2; clear HK2; clear hb; have x0 := (HK.out.a _ (.tail _ (.tail _ (.tail _ (.tail _ (.tail _ (.tail _ (.head _)))))))).c0; have x1 := (HK.out.a _ (.tail _ (.tail _ (.tail _ (.tail _ (.tail _ (.tail _ (.head _)))))))).c1; have x2 := (HK.out.a _ (.tail _ (.tail _ (.tail _ (.tail _ (.tail _ (.tail _ (.head _)))))))).c2; have x3 := (HK.out.a _ (.tail _ (.tail _ (.tail _ (.tail _ (.tail _ (.tail _ (.head _)))))))).c3; have x4 := (HK.out.a _ (.tail _ (.tail _ (.tail _ (.tail _ (.tail _ (.tail _ (.head _)))))))).c4; have g0 := (HK.out.a _ (.tail _ (.tail _ (.tail _ (.tail _ (.tail _ (.head _))))))).c0; have g1 := (HK.out.a _ (.tail _ (.tail _ (.tail _ (.tail _ (.tail _ (.head _))))))).c1; have g2 := (HK.out.a _ (.tail _ (.tail _ (.tail _ (.tail _ (.tail _ (.head _))))))).c2; have g3 := (HK.out.a _ (.tail _ (.tail _ (.tail _ (.tail _ (.tail _ (.head _))))))).c3; have g4 := (HK.out.a _ (.tail _ (.tail _ (.tail _ (.tail _ (.tail _ (.head _))))))).c4; have s0 := (HK.out.a _ (.tail _ (.tail _ (.tail _ (.tail _ (.head _)))))).c0; have s1 := (HK.out.a _ (.tail _ (.tail _ (.tail _ (.tail _ (.head _)))))).c1; have s2 := (HK.out.a _ (.tail _ (.tail _ (.tail _ (.tail _ (.head _)))))).c2; have s3 := (HK.out.a _ (.tail _ (.tail _ (.tail _ (.tail _ (.head _)))))).c3; have s4 := (HK.out.a _ (.tail _ (.tail _ (.tail _ (.tail _ (.head _)))))).c4; have ag0 := (HK.out.a _ (.tail _ (.tail _ (.tail _ (.head _))))).c0; have ag1 := (HK.out.a _ (.tail _ (.tail _ (.tail _ (.head _))))).c1; have ag2 := (HK.out.a _ (.tail _ (.tail _ (.tail _ (.head _))))).c2; have ag3 := (HK.out.a _ (.tail _ (.tail _ (.tail _ (.head _))))).c3; have ag4 := (HK.out.a _ (.tail _ (.tail _ (.tail _ (.head _))))).c4; have al0 := (HK.out.a _ (.tail _ (.tail _ (.head _)))).c0; have al1 := (HK.out.a _ (.tail _ (.tail _ (.head _)))).c1; have al2 := (HK.out.a _ (.tail _ (.tail _ (.head _)))).c2; have al3 := (HK.out.a _ (.tail _ (.tail _ (.head _)))).c3; have al4 := (HK.out.a _ (.tail _ (.tail _ (.head _)))).c4; have ba0 := (HK.out.a _ (.tail _ (.head _))).c0; have ba1 := (HK.out.a _ (.tail _ (.head _))).c1; have ba2 := (HK.out.a _ (.tail _ (.head _))).c2; have ba3 := (HK.out.a _ (.tail _ (.head _))).c3; have ba4 := (HK.out.a _ (.tail _ (.head _))).c4; have ol0 := (HK.out.a _ (.head _)).c0; have ol1 := (HK.out.a _ (.head _)).c1; have ol2 := (HK.out.a _ (.head _)).c2; have ol3 := (HK.out.a _ (.head _)).c3; have ol4 := (HK.out.a _ (.head _)).c4)
        | (go_at_call 13; (with_reducible refine (HA2.out _ _ _ (by with_unfolding_all exact HK.out.lay) (by with_unfolding_all exact (HK.out.r _ (.tail _ (.tail _ (.tail _ (.head _)))))) (by with_unfolding_all exact (HK.out.r _ (.head _)))).mono ?_); rintro e wol ⟨uwol, rfl, hu, hb⟩; obtain ⟨pwol, cwol, hpwol, _, _⟩ := hu.form; have hqwol : uwol = (.slice pwol A.z.length cwol) := hpwol; subst hqwol; clear hpwol; have hltbaol : wba.heap.size < wol.heap.size := Nat.lt_of_lt_of_le (HK.out.lt _ (.head _)) hb.size; have hltalol : wio.heap.size < wol.heap.size := Nat.lt_of_lt_of_le (HK.out.lt _ (.tail _ (.head _))) hb.size; have hltagol : wag.heap.size < wol.heap.size := Nat.lt_of_lt_of_le (HK.out.lt _ (.tail _ (.tail _ (.head _)))) hb.size; have hltsol : wat.heap.size < wol.heap.size := Nat.lt_of_lt_of_le (HK.out.lt _ (.tail _ (.tail _ (.tail _ (.head _))))) hb.size; have hltgol : wgr.heap.size < wol.heap.size := Nat.lt_of_lt_of_le (HK.out.lt _ (.tail _ (.tail _ (.tail _ (.tail _ (.head _)))))) hb.size; have hltxol : w.heap.size < wol.heap.size := Nat.lt_of_lt_of_le (HK.out.lt _ (.tail _ (.tail _ (.tail _ (.tail _ (.tail _ (.head _))))))) hb.size; have HK2 := Lib.hid (HK.out.res hb ⟨A.k, A.r, A.a, A.b, A.z⟩ hu); clear HK x0 x1 x2 x3 x4 g0 g1 g2 g3 g4 s0 s1 s2 s3 s4 ag0 ag1 ag2 ag3 ag4 al0 al1 al2 al3 al4 ba0 ba1 ba2 ba3 ba4; have HK := HK2; clear HK2; clear hb hu; have x0 := (HK.out.a _ (.tail _ (.tail _ (.tail _ (.tail _ (.tail _ (.tail _ (.head _)))))))).c0; have x1 := (HK.out.a _ (.tail _ (.tail _ (.tail _ (.tail _ (.tail _ (.tail _ (.head _)))))))).c1; have x2 := (HK.out.a _ (.tail _ (.tail _ (.tail _ (.tail _ (.tail _ (.tail _ (.head _)))))))).c2; have x3 := (HK.out.a _ (.tail _ (.tail _ (.tail _ (.tail _ (.tail _ (.tail _ (.head _)))))))).c3; have x4 := (HK.out.a _ (.tail _ (.tail _ (.tail _ (.tail _ (.tail _ (.tail _ (.head _)))))))).c4; have g0 := (HK.out.a _ (.tail _ (.tail _ (.tail _ (.tail _ (.tail _ (.head _))))))).c0; have g1 := (HK.out.a _ (.tail _ (.tail _ (.tail _ (.tail _ (.tail _ (.head _))))))).c1; have g2 := (HK.out.a _ (.tail _ (.tail _ (.tail _ (.tail _ (.tail _ (.head _))))))).c2; have g3 := (HK.out.a _ (.tail _ (.tail _ (.tail _ (.tail _ (.tail _ (.head _))))))).c3; have g4 := (HK.out.a _ (.tail _ (.tail _ (.tail _ (.tail _ (.tail _ (.head _))))))).c4; have s0 := (HK.out.a _ (.tail _ (.tail _ (.tail _ (.tail _ (.head _)))))).c0; have s1 := (HK.out.a _ (.tail _ (.tail _ (.tail _ (.tail _ (.head _)))))).c1; have s2 := (HK.out.a _ (.tail _ (.tail _ (.tail _ (.tail _ (.head _)))))).c2; have s3 := (HK.out.a _ (.tail _ (.tail _ (.tail _ (.tail _ (.head _)))))).c3; have s4 := (HK.out.a _ (.tail _ (.tail _ (.tail _ (.tail _ (.head _)))))).c4; have ag0 := (HK.out.a _ (.tail _ (.tail _ (.tail _ (.head _))))).c0; have ag1 := (HK.out.a _ (.tail _ (.tail _ (.tail _ (.head _))))).c1; have ag2 := (HK.out.a _ (.tail _ (.tail _ (.tail _ (.head _))))).c2; have ag3 := (HK.out.a _ (.tail _ (.tail _ (.tail _ (.head _))))).c3; have ag4 := (HK.out.a _ (.tail _ (.tail _ (.tail _ (.head _))))).c4; have al0 := (HK.out.a _ (.tail _ (.tail _ (.head _)))).c0; have al1 := (HK.out.a _ (.tail _ (.tail _ (.head _)))).c1; have al2 := (HK.out.a _ (.tail _ (.tail _ (.head _)))).c2; have al3 := (HK.out.a _ (.tail _ (.tail _ (.head _)))).c3; have al4 := (HK.out.a _ (.tail _ (.tail _ (.head _)))).c4; have ba0 := (HK.out.a _ (.tail _ (.head _))).c0; have ba1 := (HK.out.a _ (.tail _ (.head _))).c1; have ba2 := (HK.out.a _ (.tail _ (.head _))).c2; have ba3 := (HK.out.a _ (.tail _ (.head _))).c3; have ba4 := (HK.out.a _ (.tail _ (.head _))).c4; have ol0 := (HK.out.a _ (.head _)).c0; have ol1 := (HK.out.a _ (.head _)).c1; have ol2 := (HK.out.a _ (.head _)).c2; have ol3 := (HK.out.a _ (.head _)).c3; have ol4 := (HK.out.a _ (.head _)).c4)
        | (go_at_call 9; (with_reducible refine (HG3.out _ _ (by with_unfolding_all exact HK.out.lay) (by with_unfolding_all exact (HK.out.r _ (.tail _ (.tail _ (.tail _ (.head _))))))).mono ?_); rintro e wba ⟨uwba, rfl, hu, hb⟩; obtain ⟨pwba, cwba, hpwba, _, _⟩ := hu.form; have hqwba : uwba = (.slice pwba B.length cwba) := hpwba; subst hqwba; clear hpwba; have hltalba : wio.heap.size < wba.heap.size := Nat.lt_of_lt_of_le (HK.out.lt _ (.head _)) hb.size; have hltagba : wag.heap.size < wba.heap.size := Nat.lt_of_lt_of_le (HK.out.lt _ (.tail _ (.head _))) hb.size; have hltsba : wat.heap.size < wba.heap.size := Nat.lt_of_lt_of_le (HK.out.lt _ (.tail _ (.tail _ (.head _)))) hb.size; have hltgba : wgr.heap.size < wba.heap.size := Nat.lt_of_lt_of_le (HK.out.lt _ (.tail _ (.tail _ (.tail _ (.head _))))) hb.size; have hltxba : w.heap.size < wba.heap.size := Nat.lt_of_lt_of_le (HK.out.lt _ (.tail _ (.tail _ (.tail _ (.tail _ (.head _)))))) hb.size; have HK2 := Lib.hid (HK.out.res hb ⟨1, 1, B.length, 0, B⟩ hu); clear HK x0 x1 x2 x3 x4 g0 g1 g2 g3 g4 s0 s1 s2 s3 s4 ag0 ag1 ag2 ag3 ag4 al0 al1 al2 al3 al4; have HK := HK2; clear HK2; clear hb hu; have x0 := (HK.out.a _ (.tail _ (.tail _ (.tail _ (.tail _ (.tail _ (.head _))))))).c0; have x1 := (HK.out.a _ (.tail _ (.tail _ (.tail _ (.tail _ (.tail _ (.head _))))))).c1; have x2 := (HK.out.a _ (.tail _ (.tail _ (.tail _ (.tail _ (.tail _ (.head _))))))).c2; have x3 := (HK.out.a _ (.tail _ (.tail _ (.tail _ (.tail _ (.tail _ (.head _))))))).c3; have x4 := (HK.out.a _ (.tail _ (.tail _ (.tail _ (.tail _ (.tail _ (.head _))))))).c4; have g0 := (HK.out.a _ (.tail _ (.tail _ (.tail _ (.tail _ (.head _)))))).c0; have g1 := (HK.out.a _ (.tail _ (.tail _ (.tail _ (.tail _ (.head _)))))).c1; have g2 := (HK.out.a _ (.tail _ (.tail _ (.tail _ (.tail _ (.head _)))))).c2; have g3 := (HK.out.a _ (.tail _ (.tail _ (.tail _ (.tail _ (.head _)))))).c3; have g4 := (HK.out.a _ (.tail _ (.tail _ (.tail _ (.tail _ (.head _)))))).c4; have s0 := (HK.out.a _ (.tail _ (.tail _ (.tail _ (.head _))))).c0; have s1 := (HK.out.a _ (.tail _ (.tail _ (.tail _ (.head _))))).c1; have s2 := (HK.out.a _ (.tail _ (.tail _ (.tail _ (.head _))))).c2; have s3 := (HK.out.a _ (.tail _ (.tail _ (.tail _ (.head _))))).c3; have s4 := (HK.out.a _ (.tail _ (.tail _ (.tail _ (.head _))))).c4; have ag0 := (HK.out.a _ (.tail _ (.tail _ (.head _)))).c0; have ag1 := (HK.out.a _ (.tail _ (.tail _ (.head _)))).c1; have ag2 := (HK.out.a _ (.tail _ (.tail _ (.head _)))).c2; have ag3 := (HK.out.a _ (.tail _ (.tail _ (.head _)))).c3; have ag4 := (HK.out.a _ (.tail _ (.tail _ (.head _)))).c4; have al0 := (HK.out.a _ (.tail _ (.head _))).c0; have al1 := (HK.out.a _ (.tail _ (.head _))).c1; have al2 := (HK.out.a _ (.tail _ (.head _))).c2; have al3 := (HK.out.a _ (.tail _ (.head _))).c3; have al4 := (HK.out.a _ (.tail _ (.head _))).c4; have ba0 := (HK.out.a _ (.head _)).c0; have ba1 := (HK.out.a _ (.head _)).c1; have ba2 := (HK.out.a _ (.head _)).c2; have ba3 := (HK.out.a _ (.head _)).c3; have ba4 := (HK.out.a _ (.head _)).c4)
        | (go_at_call 14; (with_reducible refine (HIo.out _ _ (by with_unfolding_all exact HK.out.lay) HTi.out).mono ?_); rintro e wio ⟨uwio, rfl, hu, hb⟩; obtain ⟨pwio, cwio, hpwio, _, _⟩ := hu.form; have hqwio : uwio = (.slice pwio U.length cwio) := hpwio; subst hqwio; clear hpwio; have hltagal : wag.heap.size < wio.heap.size := Nat.lt_of_lt_of_le (HK.out.lt _ (.head _)) hb.size; have hltsal : wat.heap.size < wio.heap.size := Nat.lt_of_lt_of_le (HK.out.lt _ (.tail _ (.head _))) hb.size; have hltgal : wgr.heap.size < wio.heap.size := Nat.lt_of_lt_of_le (HK.out.lt _ (.tail _ (.tail _ (.head _)))) hb.size; have hltxal : w.heap.size < wio.heap.size := Nat.lt_of_lt_of_le (HK.out.lt _ (.tail _ (.tail _ (.tail _ (.head _))))) hb.size; have HK2 := Lib.hid (HK.out.res hb ⟨1, 1, U.length, 0, U⟩ hu); clear HK x0 x1 x2 x3 x4 g0 g1 g2 g3 g4 s0 s1 s2 s3 s4 ag0 ag1 ag2 ag3 ag4; have HK := HK2; clear HK2; clear hb hu; have x0 := (HK.out.a _ (.tail _ (.tail _ (.tail _ (.tail _ (.head _)))))).c0; have x1 := (HK.out.a _ (.tail _ (.tail _ (.tail _ (.tail _ (.head _)))))).c1; have x2 := (HK.out.a _ (.tail _ (.tail _ (.tail _ (.tail _ (.head _)))))).c2; have x3 := (HK.out.a _ (.tail _ (.tail _ (.tail _ (.tail _ (.head _)))))).c3; have x4 := (HK.out.a _ (.tail _ (.tail _ (.tail _ (.tail _ (.head _)))))).c4; have g0 := (HK.out.a _ (.tail _ (.tail _ (.tail _ (.head _))))).c0; have g1 := (HK.out.a _ (.tail _ (.tail _ (.tail _ (.head _))))).c1; have g2 := (HK.out.a _ (.tail _ (.tail _ (.tail _ (.head _))))).c2; have g3 := (HK.out.a _ (.tail _ (.tail _ (.tail _ (.head _))))).c3; have g4 := (HK.out.a _ (.tail _ (.tail _ (.tail _ (.head _))))).c4; have s0 := (HK.out.a _ (.tail _ (.tail _ (.head _)))).c0; have s1 := (HK.out.a _ (.tail _ (.tail _ (.head _)))).c1; have s2 := (HK.out.a _ (.tail _ (.tail _ (.head _)))).c2; have s3 := (HK.out.a _ (.tail _ (.tail _ (.head _)))).c3; have s4 := (HK.out.a _ (.tail _ (.tail _ (.head _)))).c4; have ag0 := (HK.out.a _ (.tail _ (.head _))).c0; have ag1 := (HK.out.a _ (.tail _ (.head _))).c1; have ag2 := (HK.out.a _ (.tail _ (.head _))).c2; have ag3 := (HK.out.a _ (.tail _ (.head _))).c3; have ag4 := (HK.out.a _ (.tail _ (.head _))).c4; have al0 := (HK.out.a _ (.head _)).c0; have al1 := (HK.out.a _ (.head _)).c1; have al2 := (HK.out.a _ (.head _)).c2; have al3 := (HK.out.a _ (.head _)).c3; have al4 := (HK.out.a _ (.head _)).c4)
        | (go_at_call 15; (with_reducible refine (HI.out _).mono ?_); rintro e wi ⟨ui, rfl, hu, hb⟩; have HTi := Lib.hid hu.rd; have HK2 := Lib.hid (HK.out.next hb); clear HK hu hb x0 x1 x2 x3 x4 g0 g1 g2 g3 g4 s0 s1 s2 s3 s4 ag0 ag1 ag2 ag3 ag4; have HK := HK2; clear HK2; have x0 := (HK.out.a _ (.tail _ (.tail _ (.tail _ (.head _))))).c0; have x1 := (HK.out.a _ (.tail _ (.tail _ (.tail _ (.head _))))).c1; have x2 := (HK.out.a _ (.tail _ (.tail _ (.tail _ (.head _))))).c2; have x3 := (HK.out.a _ (.tail _ (.tail _ (.tail _ (.head _))))).c3; have x4 := (HK.out.a _ (.tail _ (.tail _ (.tail _ (.head _))))).c4; have g0 := (HK.out.a _ (.tail _ (.tail _ (.head _)))).c0; have g1 := (HK.out.a _ (.tail _ (.tail _ (.head _)))).c1; have g2 := (HK.out.a _ (.tail _ (.tail _ (.head _)))).c2; have g3 := (HK.out.a _ (.tail _ (.tail _ (.head _)))).c3; have g4 := (HK.out.a _ (.tail _ (.tail _ (.head _)))).c4; have s0 := (HK.out.a _ (.tail _ (.head _))).c0; have s1 := (HK.out.a _ (.tail _ (.head _))).c1; have s2 := (HK.out.a _ (.tail _ (.head _))).c2; have s3 := (HK.out.a _ (.tail _ (.head _))).c3; have s4 := (HK.out.a _ (.tail _ (.head _))).c4; have ag0 := (HK.out.a _ (.head _)).c0; have ag1 := (HK.out.a _ (.head _)).c1; have ag2 := (HK.out.a _ (.head _)).c2; have ag3 := (HK.out.a _ (.head _)).c3; have ag4 := (HK.out.a _ (.head _)).c4)
        | (go_at_call 9; (with_reducible refine (HG2.out _ _ (by with_unfolding_all exact HK.out.lay) (by with_unfolding_all exact (HK.out.r _ (.head _)))).mono ?_); rintro e wag ⟨uwag, rfl, hu, hb⟩; obtain ⟨pwag, cwag, hpwag, _, _⟩ := hu.form; have hqwag : uwag = (.slice pwag U.length cwag) := hpwag; subst hqwag; clear hpwag; have hltsag : wat.heap.size < wag.heap.size := Nat.lt_of_lt_of_le (HK.out.lt _ (.head _)) hb.size; have hltgag : wgr.heap.size < wag.heap.size := Nat.lt_of_lt_of_le (HK.out.lt _ (.tail _ (.head _))) hb.size; have hltxag : w.heap.size < wag.heap.size := Nat.lt_of_lt_of_le (HK.out.lt _ (.tail _ (.tail _ (.head _)))) hb.size; have HK2 := Lib.hid (HK.out.res hb ⟨1, 1, U.length, 0, U⟩ hu); clear HK x0 x1 x2 x3 x4 g0 g1 g2 g3 g4 s0 s1 s2 s3 s4; have HK := HK2; clear HK2; clear hb hu; have x0 := (HK.out.a _ (.tail _ (.tail _ (.tail _ (.head _))))).c0; have x1 := (HK.out.a _ (.tail _ (.tail _ (.tail _ (.head _))))).c1; have x2 := (HK.out.a _ (.tail _ (.tail _ (.tail _ (.head _))))).c2; have x3 := (HK.out.a _ (.tail _ (.tail _ (.tail _ (.head _))))).c3; have x4 := (HK.out.a _ (.tail _ (.tail _ (.tail _ (.head _))))).c4; have g0 := (HK.out.a _ (.tail _ (.tail _ (.head _)))).c0; have g1 := (HK.out.a _ (.tail _ (.tail _ (.head _)))).c1; have g2 := (HK.out.a _ (.tail _ (.tail _ (.head _)))).c2; have g3 := (HK.out.a _ (.tail _ (.tail _ (.head _)))).c3; have g4 := (HK.out.a _ (.tail _ (.tail _ (.head _)))).c4; have s0 := (HK.out.a _ (.tail _ (.head _))).c0; have s1 := (HK.out.a _ (.tail _ (.head _))).c1; have s2 := (HK.out.a _ (.tail _ (.head _))).c2; have s3 := (HK.out.a _ (.tail _ (.head _))).c3; have s4 := (HK.out.a _ (.tail _ (.head _))).c4; have ag0 := (HK.out.a _ (.head _)).c0; have ag1 := (HK.out.a _ (.head _)).c1; have ag2 := (HK.out.a _ (.head _)).c2; have ag3 := (HK.out.a _ (.head _)).c3; have ag4 := (HK.out.a _ (.head _)).c4)
        | fail)
      go_ret
      exact ⟨rfl, HK.out.bel⟩
    | succ gk1 =>
      have hiz : (i : Int) < (A.z.length : Int) := by omega
      have hi : i < A.z.length := by omega
      have hiG : i < G.length := by have := HGl.out; omega
      have hiS : i < S.length := by have := HSl.out; omega
      have hiGz : (i : Int) < (G.length : Int) := by omega
      have hiSz : (i : Int) < (S.length : Int) := by omega
      have hwi : IntKind.i64.wrap ((i : Int) + 1) = (i : Int) + 1 := by rw [IntKind.wrap_i64]; omega
      have HKr := Lib.hid (HK.out.next (by rw [HGm.out]; exact HB.out))
      have HRg : Hid (RdI W1.heap.size W1 (.slice pwgr G.length cwgr) G) := (by with_unfolding_all exact HK.out.r _ (.tail _ (.head _)))
      have HRs : Hid (RdI W1.heap.size W1 (.slice pwat S.length cwat) S) := (by with_unfolding_all exact HK.out.r _ (.head _))
      obtain ⟨bG, oG, hpG, hbG, hcG⟩ := HRg.out.cells (by intro e; rw [e] at hiG; simp at hiG)
      obtain ⟨bS, oS, hpS, hbS, hcS⟩ := HRs.out.cells (by intro e; rw [e] at hiS; simp at hiS)
      subst hpG
      subst hpS
      rw [HGm.out] at hbG hbS
      have HCg : Hid (∀ W, Below gm W1 W → ∀ t (ht : t < G.length), W.cell? ⟨bG, oG + t, none⟩ = some (.int .i64 G[t])) := fun W h t ht => (h.cell (p := ⟨bG, oG + t, none⟩) hbG).trans (hcG t ht)
      have HCs : Hid (∀ W, Below gm W1 W → ∀ t (ht : t < S.length), W.cell? ⟨bS, oS + t, none⟩ = some (.int .i64 S[t])) := fun W h t ht => (h.cell (p := ⟨bS, oS + t, none⟩) hbS).trans (hcS t ht)
      clear hcG hcS hbG hbS HRg HRs
      obtain ⟨f1, f2⟩ := HS.out.gf i hi
      obtain ⟨f3, f4⟩ := HS.out.fr (F i) f1
      have f5 : R (F i) = i := ((f4 i hi).1 rfl).symm
      have hgi : G[i] = (F i : Int) := by rw [List.getD_eq_getElem?_getD, List.getElem?_eq_getElem hiG] at f2; exact f2
      have hx := HCg.out wr HB.out i hiG
      rw [hgi] at hx
      have hm : wr.cell? ⟨gm, F i, none⟩ = some (.bool false) := by rw [HR.out.cell f1]; unfold mtf; rw [f5, decide_eq_false (by omega)]
      have hmf : wr.frozen? ⟨gm, F i, none⟩ = false := HR.out.frozen (F i)
      have HNx : Hid ((wr.setCell ⟨gm, F i, none⟩ (.bool true)).rowIs gm 4 A.z.length (mtf R (i + 1))) := mtf_next (F := F) HR.out fun t ht => ⟨fun h => by have h6 := (HS.out.fr t ht).2 i hi; have := h6.2 h.symm; exact this.symm, fun h => by rw [h]; exact f5⟩
      have HBn : Hid (Below gm W1 (wr.setCell ⟨gm, F i, none⟩ (.bool true))) := HB.out.setCell (p := ⟨gm, F i, none⟩) (Nat.le_refl _) _
      have HUp : Hid (∀ t, t + 1 = i → ∃ (h1 : t < S.length) (h2 : t < G.length), (S[t] < S[i] ∨ (S[t] = S[i] ∧ F t < F i)) ∧ G[t] = (F t : Int)) := fun t ht => by
        have h1 : t < S.length := by omega
        have h2 : t < G.length := by omega
        have h3 := HS.out.up t (by omega)
        have h4 := (HS.out.gf t (by omega)).2
        rw [ht, List.getD_eq_getElem?_getD, List.getD_eq_getElem?_getD, List.getElem?_eq_getElem h1, List.getElem?_eq_getElem hiS] at h3
        rw [List.getD_eq_getElem?_getD, List.getElem?_eq_getElem h2] at h4
        exact ⟨h1, h2, h3, h4⟩
      obtain ⟨fi, hfi⟩ : ∃ fi, fi = F i := ⟨_, rfl⟩
      rw [← hfi] at f1 hx hm hmf HNx HBn
      have HFi := Lib.hid hfi
      have kf0 : decide ((fi : Int) < 0) = false := decide_eq_false (by omega)
      have kf1 : decide ((A.z.length : Int) ≤ (fi : Int)) = false := decide_eq_false (by omega)
      have kf2 : (fi : Int) < (A.z.length : Int) := by omega
      clear f2 f3 f4 f5 hgi HB HR hfi
      have g0 := (HKr.out.a _ (.tail _ (.head _))).c0
      have g1 := (HKr.out.a _ (.tail _ (.head _))).c1
      have g2 := (HKr.out.a _ (.tail _ (.head _))).c2
      have g3 := (HKr.out.a _ (.tail _ (.head _))).c3
      have g4 := (HKr.out.a _ (.tail _ (.head _))).c4
      have s0 := (HKr.out.a _ (.head _)).c0
      have s1 := (HKr.out.a _ (.head _)).c1
      have s2 := (HKr.out.a _ (.head _)).c2
      have s3 := (HKr.out.a _ (.head _)).c3
      have s4 := (HKr.out.a _ (.head _)).c4
      go_upto_region 16 with fail
      clear hm hmf hx g0 g1 g2 g3 g4 s0 s1 s2 s3 s4
      generalize hW3 : World.setCell wr _ _ = W3 at HNx HBn ⊢
      have HKr := Lib.hid (HK.out.next (by rw [HGm.out]; exact HBn.out))
      clear hW3
      have g0 := (HKr.out.a _ (.tail _ (.head _))).c0
      have g1 := (HKr.out.a _ (.tail _ (.head _))).c1
      have g2 := (HKr.out.a _ (.tail _ (.head _))).c2
      have g3 := (HKr.out.a _ (.tail _ (.head _))).c3
      have g4 := (HKr.out.a _ (.tail _ (.head _))).c4
      have s0 := (HKr.out.a _ (.head _)).c0
      have s1 := (HKr.out.a _ (.head _)).c1
      have s2 := (HKr.out.a _ (.head _)).c2
      have s3 := (HKr.out.a _ (.head _)).c3
      have s4 := (HKr.out.a _ (.head _)).c4
      have hS4 := HCs.out W3 HBn.out i hiS
      by_cases hi0 : i = 0
      · have q1 : decide ((0 : Int) < (i : Int)) = false := decide_eq_false (by omega)
        have q1n : decide (0 < i) = false := decide_eq_false (by omega)
        clear HUp HCg HCs HS hi0 hS4
        go_wp2_with fail
        go_quiet (fail)
        go_wp2_with fail
        go_roundg gk1
        case measure => omega
        case rel => exact ⟨i + 1, by omega, by go_num, (HBn.out.trans (below_drewN (Below.refl _ _) _)), HNx.out⟩
      · obtain ⟨t, ht⟩ : ∃ t, t + 1 = i := ⟨i - 1, by omega⟩
        obtain ⟨h1, h2, h3, h4⟩ := HUp.out t ht
        have hS5 := HCs.out W3 HBn.out t h1
        have hG5 := HCg.out W3 HBn.out t h2
        rw [h4] at hG5
        have q1 : decide ((0 : Int) < (i : Int)) = true := decide_eq_true (by omega)
        have q1n : decide (0 < i) = true := decide_eq_true (by omega)
        have kw : IntKind.i64.wrap ((i : Int) - 1) = (t : Int) := by rw [IntKind.wrap_i64]; omega
        have kw2 : (i : Int) - 1 = (t : Int) := by omega
        have ktG : (t : Int) < (G.length : Int) := by omega
        have ktS : (t : Int) < (S.length : Int) := by omega
        have HTi := Lib.hid ht
        rw [← HFi.out] at h3
        generalize S[i] = y at hS4 h3
        generalize S[t] = x at hS5 h3
        generalize F t = ft at hG5 h3
        have q2 : decide (y < x) = false := decide_eq_false (by omega)
        clear HUp HCg HCs HS hi0 h4 ht
        by_cases hxy : y = x
        · have q3 : (y == x) = true := by simpa using hxy
          have q4 : decide ((fi : Int) < (ft : Int)) = false := decide_eq_false (by omega)
          have q4n : decide (fi < ft) = false := decide_eq_false (by omega)
          clear hxy h3
          go_wp2_with fail
          go_quiet (fail)
          go_wp2_with fail
          go_roundg gk1
          case measure => omega
          case rel => exact ⟨i + 1, by omega, by go_num, (HBn.out.trans (below_drewN (Below.refl _ _) _)), HNx.out⟩
        · have q3 : (y == x) = false := by simpa using hxy
          clear hxy h3
          go_wp2_with fail
          go_quiet (fail)
          go_wp2_with fail
          go_roundg gk1
          case measure => omega
          case rel => exact ⟨i + 1, by omega, by go_num, (HBn.out.trans (below_drewN (Below.refl _ _) _)), HNx.out⟩
end Go.Proofs.YtpbfbejckhbijaaDoor
