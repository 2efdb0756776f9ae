/- The law Looks. -/
import Derived.Test.YthfpmpmhoegicaaDoorFiX
import Derived.Test.YthfpmpmhoegicaaDoorFiT
import Derived.Test.YthfpmpmhoegicaaDoorFiF
import Derived.Test.YthfpmpmhoegicaaDoorFiQ
import Derived.Test.YthfpmpmhoegicaaDoorMvKc
import Derived.Deep.DeepCutAuto
import Derived.BigQuiet
namespace Go.Proofs.YthfpmpmhoegicaaDoor
open Go.RowKit

theorem lat8 (k : Int) (z a : List Int) (m : Int) (hm : m = z.length) (hz : ck ⟨k, 1, m, 0, z⟩ = 0) (hzl : z.length ≤ 100000) (ha : a.length ≤ 400) (h : a.all (inS z.length) = true) (v u : Value) (W : World) (h0 : Ru.Lay W) (h1 : RdI W.heap.size W v z) (h2 : RdI W.heap.size W u a) :
    Calls Tryd.prog 27 #[A5 k 1 m 0 v, A5 1 1 a.length 0 u] W (RetE ⟨k, 1, (plZ z a).length, 0, plZ z a⟩ 0 W) := by
  have h3 := iat_any ⟨k, 1, m, 0, z⟩ ⟨1, 1, a.length, 0, a⟩ v u W h0 h1 h2 hzl (by show a.length ≤ _; omega)
  obtain ⟨e1, e2, _⟩ := at_vec hm hz (ints_ck ha) h
  rwa [e1, e2] at h3
theorem lat8A (A : Ar) (cA : ck A = 0) (rA : A.r = 1) (a : List Int) (ha : a.length ≤ 400) (h : a.all (inS A.z.length) = true) (v u : Value) (W : World) (h0 : Ru.Lay W) (h1 : RdI W.heap.size W v A.z) (h2 : RdI W.heap.size W u a) :
    Calls Tryd.prog 27 #[A5 A.k A.r A.a A.b v, A5 1 1 a.length 0 u] W (RetE ⟨A.k, 1, (plZ A.z a).length, 0, plZ A.z a⟩ 0 W) := by
  have hf := vec_form cA rA
  have e1 : A.a = (A.z.length : Int) := vec_ab cA rA
  have e2 : A.b = 0 := congrArg Ar.b hf
  have hc : ck ⟨A.k, 1, A.z.length, 0, A.z⟩ = 0 := by rw [← hf]; exact cA
  rw [rA, e1, e2]
  exact lat8 A.k A.z a A.z.length rfl hc (by have := (ck_good cA).len4; omega) ha h v u W h0 h1 h2
theorem plZ_all {z b : List Int} {n : Nat} (h : z.all (inS n) = true) (hb : b.all (inS z.length) = true) : (plZ z b).all (inS n) = true := by
  refine List.all_eq_true.2 fun x hx => ?_
  unfold plZ at hx
  obtain ⟨y, hy, rfl⟩ := List.mem_map.1 hx
  have h2 := inS_nat (List.all_eq_true.1 hb y hy)
  rw [List.getD_eq_getElem?_getD, List.getElem?_eq_getElem h2.2]
  exact List.all_eq_true.1 h _ (List.getElem_mem _)
set_option maxRecDepth 100000 in
set_option maxHeartbeats 64000000 in
theorem lawLooks8_any (A : Ar) (p q : List Int) (v u t : Value) (w : World) (hw : Ru.Lay w) (hv : RdI w.heap.size w v A.z) (hn : Ru.NilC v) (ia : in64 A.z) (hu : RdU w.heap.size w u p) (hp : ∀ x ∈ p, 0 ≤ x ∧ x ≤ 65535) (ht : RdU w.heap.size w t q) (hq : ∀ x ∈ q, 0 ≤ x ∧ x ≤ 65535) (haw : ∀ W, Ru.Lay W → Calls Tryd.prog 21 #[] W fun e w' => e = .returned (.bool true) ∧ Below W.heap.size W w') :
    Calls Tryd.prog 8 #[A5 A.k A.r A.a A.b v, u, t] w fun e w' => e = .returned (.bool true) ∧ Below w.heap.size w w' := by
  have HV1 := Lib.hid (fun W h => vec8_any A v W h)
  have HAw := Lib.hid haw
  clear haw
  have HK : Hid (KVar w [⟨w.heap.size, A, v⟩] (w.alloc (.cells #[.int .i64 A.k, .int .i64 A.r, .int .i64 A.a, .int .i64 A.b, v] 25))) := (KVar.start w hw).arg A hv hn
  have HV0 := Lib.hid hv
  have HN0 := Lib.hid hn
  obtain ⟨qa, ca, rfl, hv1, hv2, hv3⟩ := hv
  have HU := Lib.hid hu
  have HT := Lib.hid ht
  obtain ⟨qp, cp, rfl, hu1, _⟩ := hu
  obtain ⟨qq, cq, rfl, ht1, _⟩ := ht
  have HPb := Lib.hid hp
  have HQb := Lib.hid hq
  clear hw hn hv1 hv2 hv3 hu1 ht1 hp hq
  have x0 := (HK.out.a _ (.head _)).c0
  have x1 := (HK.out.a _ (.head _)).c1
  have x2 := (HK.out.a _ (.head _)).c2
  have x3 := (HK.out.a _ (.head _)).c3
  have x4 := (HK.out.a _ (.head _)).c4
  by_cases hf : vcB A = true
  rotate_left
  · have hf' : vcB A = false := by simpa using hf
    rw [hf'] at HV1
    clear hf hf' HU HT HPb HQb HV0 HN0 ia
    as_aux_lemma =>
      go_enter Tryd.func8, Tryd.ntmps8
      go_wp2_with (first
        | (go_at_call 35; (with_reducible refine (HV1.out _ (by with_unfolding_all exact (HK.out.r _ (.head _)))).mono ?_); rintro e wz ⟨rfl, hb⟩; have HK2 := Lib.hid (HK.out.next hb); clear HK x0 x1 x2 x3 x4; have HK := HK2; clear HK2; clear hb; have x0 := (HK.out.a _ (.head _)).c0; have x1 := (HK.out.a _ (.head _)).c1; have x2 := (HK.out.a _ (.head _)).c2; have x3 := (HK.out.a _ (.head _)).c3; have x4 := (HK.out.a _ (.head _)).c4)
        | (go_at_call 21; (with_reducible refine (HAw.out _ (by with_unfolding_all exact HK.out.lay)).mono ?_); rintro e wz ⟨rfl, hb⟩; have HK2 := Lib.hid (HK.out.next hb); clear HK x0 x1 x2 x3 x4; have HK := HK2; clear HK2; clear hb; have x0 := (HK.out.a _ (.head _)).c0; have x1 := (HK.out.a _ (.head _)).c1; have x2 := (HK.out.a _ (.head _)).c2; have x3 := (HK.out.a _ (.head _)).c3; have x4 := (HK.out.a _ (.head _)).c4)
        | fail)
      go_ret
      exact ⟨rfl, HK.out.bel⟩
  rw [hf] at HV1
  obtain ⟨lA, cA, rA⟩ := vcB_yes hf
  clear hf
  by_cases hp1 : 100 < p.length
  · have kp : (100 : Int) < (p.length : Int) := by omega
    clear lA cA rA HU HT HPb HQb HV0 HN0 ia
    as_aux_lemma =>
      go_enter Tryd.func8, Tryd.ntmps8
      go_wp2_with (first
        | (go_at_call 35; (with_reducible refine (HV1.out _ (by with_unfolding_all exact (HK.out.r _ (.head _)))).mono ?_); rintro e wz ⟨rfl, hb⟩; have HK2 := Lib.hid (HK.out.next hb); clear HK x0 x1 x2 x3 x4; have HK := HK2; clear HK2; clear hb; have x0 := (HK.out.a _ (.head _)).c0; have x1 := (HK.out.a _ (.head _)).c1; have x2 := (HK.out.a _ (.head _)).c2; have x3 := (HK.out.a _ (.head _)).c3; have x4 := (HK.out.a _ (.head _)).c4)
        | (go_at_call 21; (with_reducible refine (HAw.out _ (by with_unfolding_all exact HK.out.lay)).mono ?_); rintro e wz ⟨rfl, hb⟩; have HK2 := Lib.hid (HK.out.next hb); clear HK x0 x1 x2 x3 x4; have HK := HK2; clear HK2; clear hb; have x0 := (HK.out.a _ (.head _)).c0; have x1 := (HK.out.a _ (.head _)).c1; have x2 := (HK.out.a _ (.head _)).c2; have x3 := (HK.out.a _ (.head _)).c3; have x4 := (HK.out.a _ (.head _)).c4)
        | fail)
      go_ret
      exact ⟨rfl, HK.out.bel⟩
  by_cases hq1 : 100 < q.length
  · have kp : ¬ ((100 : Int) < (p.length : Int)) := by omega
    have kq : (100 : Int) < (q.length : Int) := by omega
    clear lA cA rA HU HT HPb HQb HV0 HN0 ia
    as_aux_lemma =>
      go_enter Tryd.func8, Tryd.ntmps8
      go_wp2_with (first
        | (go_at_call 35; (with_reducible refine (HV1.out _ (by with_unfolding_all exact (HK.out.r _ (.head _)))).mono ?_); rintro e wz ⟨rfl, hb⟩; have HK2 := Lib.hid (HK.out.next hb); clear HK x0 x1 x2 x3 x4; have HK := HK2; clear HK2; clear hb; have x0 := (HK.out.a _ (.head _)).c0; have x1 := (HK.out.a _ (.head _)).c1; have x2 := (HK.out.a _ (.head _)).c2; have x3 := (HK.out.a _ (.head _)).c3; have x4 := (HK.out.a _ (.head _)).c4)
        | (go_at_call 21; (with_reducible refine (HAw.out _ (by with_unfolding_all exact HK.out.lay)).mono ?_); rintro e wz ⟨rfl, hb⟩; have HK2 := Lib.hid (HK.out.next hb); clear HK x0 x1 x2 x3 x4; have HK := HK2; clear HK2; clear hb; have x0 := (HK.out.a _ (.head _)).c0; have x1 := (HK.out.a _ (.head _)).c1; have x2 := (HK.out.a _ (.head _)).c2; have x3 := (HK.out.a _ (.head _)).c3; have x4 := (HK.out.a _ (.head _)).c4)
        | fail)
      go_ret
      exact ⟨rfl, HK.out.bel⟩
  have kp : ¬ ((100 : Int) < (p.length : Int)) := by omega
  have kq : ¬ ((100 : Int) < (q.length : Int)) := by omega
  have hl4 := (ck_good cA).len4
  obtain ⟨i1, i2⟩ := io_int (n := A.z.length) hl4
  have HI : Hid (∀ W, Calls Tryd.prog 36 #[.int .i64 (A.z.length : Int)] W (RetA ⟨1, 0, 0, 0, [(A.z.length : Int)]⟩ W)) := fun W => lint_any _ W
  have HIo := Lib.hid (fun v W h0 h1 => iiota_any ⟨1, 0, 0, 0, [(A.z.length : Int)]⟩ v W h0 h1 (by simp))
  rw [i1, i2] at HIo
  have hself : (⟨A.k, 1, (plZ A.z (upZ A.z.length)).length, 0, plZ A.z (upZ A.z.length)⟩ : Ar) = A := by
    rw [show plZ A.z (upZ A.z.length) = A.z from up_look A.z]; exact (vec_form cA rA).symm
  have HAt0 := Lib.hid (fun u W h0 h1 h2 => lat8A A cA rA (upZ A.z.length) (by rw [upZ_len]; exact hl4) (List.all_eq_true.2 fun _ h => up_in h) (.slice qa A.z.length ca) u W h0 h1 h2)
  rw [hself] at HAt0
  have HQ1 := Lib.hid (fun v u W h1 h2 => is8_eq A v u W h1 h2 (by omega))
  have hm := mbE_vec cA cA rfl rA rA
  have HIn := Lib.hid (fun W h0 h1 h2 => iin_any A A (.slice qa A.z.length ca) (.slice qa A.z.length ca) W h0 h1 h2 (by omega) (by omega) ia ia)
  rw [hm, show mbV A A = ⟨1, A.r, A.a, A.b, mbZ A A⟩ from orNo_yes hm] at HIn
  have HJ1 : Hid (∀ t (ht : t < (mbZ A A).length), (mbZ A A)[t] = 1) := fun t ht => mb_self ht
  have HJl := Lib.hid (mbZ_len A A)
  have k3 : (((mbZ A A).length : Int) != (A.z.length : Int)) = false := by rw [mbZ_len]; simp
  have HC := Lib.hid (And.intro cA rA)
  have HL : Hid (A.z.length ≤ 400 ∧ p.length ≤ 100 ∧ q.length ≤ 100) := ⟨hl4, by omega, by omega⟩
  clear ia lA cA rA hp1 hq1 i1 i2 hself hm hl4
  generalize mbZ A A = J at HIn HJ1 HJl k3
  generalize upZ A.z.length = U at HIo HAt0
  go_enter Tryd.func8, Tryd.ntmps8
  go_wp2_with (first
    | (go_at_call 37; (with_reducible refine (HQ1.out _ _ _ (by with_unfolding_all exact (HK.out.r _ (.tail _ (.head _)))) (by with_unfolding_all exact (HK.out.r _ (.tail _ (.tail _ (.tail _ (.head _))))))).mono ?_); rintro e wz ⟨rfl, hb⟩; have HK2 := Lib.hid (HK.out.next hb); clear HK x0 x1 x2 x3 x4 i0 i1 i2 i3 i4 s0 s1 s2 s3 s4 j0 j1 j2 j3 j4; have HK := HK2; clear HK2; clear hb; have x0 := (HK.out.a _ (.tail _ (.tail _ (.tail _ (.head _))))).c0; have x1 := (HK.out.a _ (.tail _ (.tail _ (.tail _ (.head _))))).c1; have x2 := (HK.out.a _ (.tail _ (.tail _ (.tail _ (.head _))))).c2; have x3 := (HK.out.a _ (.tail _ (.tail _ (.tail _ (.head _))))).c3; have x4 := (HK.out.a _ (.tail _ (.tail _ (.tail _ (.head _))))).c4; have i0 := (HK.out.a _ (.tail _ (.tail _ (.head _)))).c0; have i1 := (HK.out.a _ (.tail _ (.tail _ (.head _)))).c1; have i2 := (HK.out.a _ (.tail _ (.tail _ (.head _)))).c2; have i3 := (HK.out.a _ (.tail _ (.tail _ (.head _)))).c3; have i4 := (HK.out.a _ (.tail _ (.tail _ (.head _)))).c4; have s0 := (HK.out.a _ (.tail _ (.head _))).c0; have s1 := (HK.out.a _ (.tail _ (.head _))).c1; have s2 := (HK.out.a _ (.tail _ (.head _))).c2; have s3 := (HK.out.a _ (.tail _ (.head _))).c3; have s4 := (HK.out.a _ (.tail _ (.head _))).c4; have j0 := (HK.out.a _ (.head _)).c0; have j1 := (HK.out.a _ (.head _)).c1; have j2 := (HK.out.a _ (.head _)).c2; have j3 := (HK.out.a _ (.head _)).c3; have j4 := (HK.out.a _ (.head _)).c4)
    | (go_at_call 29; (with_reducible refine (HIn.out _ (by with_unfolding_all exact HK.out.lay) (by with_unfolding_all exact (HK.out.r _ (.tail _ (.tail _ (.head _))))) (by with_unfolding_all exact (HK.out.r _ (.tail _ (.tail _ (.head _)))))).mono ?_); rintro e win ⟨uwin, rfl, hu, hb⟩; obtain ⟨pwin, cwin, hpwin, _, _⟩ := hu.form; have hqwin : uwin = (.slice pwin J.length cwin) := hpwin; subst hqwin; clear hpwin; have hltsj : wat.heap.size < win.heap.size := Nat.lt_of_lt_of_le (HK.out.lt _ (.head _)) hb.size; have hltij : wio.heap.size < win.heap.size := Nat.lt_of_lt_of_le (HK.out.lt _ (.tail _ (.head _))) hb.size; have hltxj : w.heap.size < win.heap.size := Nat.lt_of_lt_of_le (HK.out.lt _ (.tail _ (.tail _ (.head _)))) hb.size; have HK2 := Lib.hid (HK.out.res hb ⟨1, A.r, A.a, A.b, J⟩ hu); clear HK x0 x1 x2 x3 x4 i0 i1 i2 i3 i4 s0 s1 s2 s3 s4; have HK := HK2; clear HK2; clear hb hu; have x0 := (HK.out.a _ (.tail _ (.tail _ (.tail _ (.head _))))).c0; have x1 := (HK.out.a _ (.tail _ (.tail _ (.tail _ (.head _))))).c1; have x2 := (HK.out.a _ (.tail _ (.tail _ (.tail _ (.head _))))).c2; have x3 := (HK.out.a _ (.tail _ (.tail _ (.tail _ (.head _))))).c3; have x4 := (HK.out.a _ (.tail _ (.tail _ (.tail _ (.head _))))).c4; have i0 := (HK.out.a _ (.tail _ (.tail _ (.head _)))).c0; have i1 := (HK.out.a _ (.tail _ (.tail _ (.head _)))).c1; have i2 := (HK.out.a _ (.tail _ (.tail _ (.head _)))).c2; have i3 := (HK.out.a _ (.tail _ (.tail _ (.head _)))).c3; have i4 := (HK.out.a _ (.tail _ (.tail _ (.head _)))).c4; have s0 := (HK.out.a _ (.tail _ (.head _))).c0; have s1 := (HK.out.a _ (.tail _ (.head _))).c1; have s2 := (HK.out.a _ (.tail _ (.head _))).c2; have s3 := (HK.out.a _ (.tail _ (.head _))).c3; have s4 := (HK.out.a _ (.tail _ (.head _))).c4; have j0 := (HK.out.a _ (.head _)).c0; have j1 := (HK.out.a _ (.head _)).c1; have j2 := (HK.out.a _ (.head _)).c2; have j3 := (HK.out.a _ (.head _)).c3; have j4 := (HK.out.a _ (.head _)).c4)
    | (go_at_call 27; (with_reducible refine (HAt0.out _ _ (by with_unfolding_all exact HK.out.lay) (by with_unfolding_all exact (HK.out.r _ (.tail _ (.head _)))) (by with_unfolding_all exact (HK.out.r _ (.head _)))).mono ?_); rintro e wat ⟨uwat, rfl, hu, hb⟩; obtain ⟨pwat, cwat, hpwat, _, _⟩ := hu.form; have hqwat : uwat = (.slice pwat A.z.length cwat) := hpwat; subst hqwat; clear hpwat; have hltis : wio.heap.size < wat.heap.size := Nat.lt_of_lt_of_le (HK.out.lt _ (.head _)) hb.size; have hltxs : w.heap.size < wat.heap.size := Nat.lt_of_lt_of_le (HK.out.lt _ (.tail _ (.head _))) hb.size; have HK2 := Lib.hid (HK.out.res hb ⟨A.k, A.r, A.a, A.b, A.z⟩ hu); clear HK x0 x1 x2 x3 x4 i0 i1 i2 i3 i4; have HK := HK2; clear HK2; clear hb hu; have x0 := (HK.out.a _ (.tail _ (.tail _ (.head _)))).c0; have x1 := (HK.out.a _ (.tail _ (.tail _ (.head _)))).c1; have x2 := (HK.out.a _ (.tail _ (.tail _ (.head _)))).c2; have x3 := (HK.out.a _ (.tail _ (.tail _ (.head _)))).c3; have x4 := (HK.out.a _ (.tail _ (.tail _ (.head _)))).c4; have i0 := (HK.out.a _ (.tail _ (.head _))).c0; have i1 := (HK.out.a _ (.tail _ (.head _))).c1; have i2 := (HK.out.a _ (.tail _ (.head _))).c2; have i3 := (HK.out.a _ (.tail _ (.head _))).c3; have i4 := (HK.out.a _ (.tail _ (.head _))).c4; have s0 := (HK.out.a _ (.head _)).c0; have s1 := (HK.out.a _ (.head _)).c1; have s2 := (HK.out.a _ (.head _)).c2; have s3 := (HK.out.a _ (.head _)).c3; have s4 := (HK.out.a _ (.head _)).c4)
    | (go_at_call 24; (with_reducible refine (HIo.out _ _ (by with_unfolding_all exact HK.out.lay) HTi.out).mono ?_); rintro e wio ⟨uwio, rfl, hu, hb⟩; obtain ⟨pwio, cwio, hpwio, _, _⟩ := hu.form; have hqwio : uwio = (.slice pwio U.length cwio) := hpwio; subst hqwio; clear hpwio; have hltxi : w.heap.size < wio.heap.size := Nat.lt_of_lt_of_le (HK.out.lt _ (.head _)) hb.size; have HK2 := Lib.hid (HK.out.res hb ⟨1, 1, U.length, 0, U⟩ hu); clear HK x0 x1 x2 x3 x4; have HK := HK2; clear HK2; clear hb hu; have x0 := (HK.out.a _ (.tail _ (.head _))).c0; have x1 := (HK.out.a _ (.tail _ (.head _))).c1; have x2 := (HK.out.a _ (.tail _ (.head _))).c2; have x3 := (HK.out.a _ (.tail _ (.head _))).c3; have x4 := (HK.out.a _ (.tail _ (.head _))).c4; have i0 := (HK.out.a _ (.head _)).c0; have i1 := (HK.out.a _ (.head _)).c1; have i2 := (HK.out.a _ (.head _)).c2; have i3 := (HK.out.a _ (.head _)).c3; have i4 := (HK.out.a _ (.head _)).c4)
    | (go_at_call 36; (with_reducible refine (HI.out _).mono ?_); rintro e wi ⟨ui, rfl, hu, hb⟩; have HTi := Lib.hid hu.rd; have HK2 := Lib.hid (HK.out.next hb); clear HK hu hb x0 x1 x2 x3 x4; have HK := HK2; clear HK2; have x0 := (HK.out.a _ (.head _)).c0; have x1 := (HK.out.a _ (.head _)).c1; have x2 := (HK.out.a _ (.head _)).c2; have x3 := (HK.out.a _ (.head _)).c3; have x4 := (HK.out.a _ (.head _)).c4)
    | (go_at_call 35; (with_reducible refine (HV1.out _ (by with_unfolding_all exact (HK.out.r _ (.head _)))).mono ?_); rintro e wz ⟨rfl, hb⟩; have HK2 := Lib.hid (HK.out.next hb); clear HK x0 x1 x2 x3 x4; have HK := HK2; clear HK2; clear hb; have x0 := (HK.out.a _ (.head _)).c0; have x1 := (HK.out.a _ (.head _)).c1; have x2 := (HK.out.a _ (.head _)).c2; have x3 := (HK.out.a _ (.head _)).c3; have x4 := (HK.out.a _ (.head _)).c4)
    | fail)
  clear HV1 HI HIo HAt0 HQ1 HIn HTi k3 kp kq x0 x1 x2 x3 x4 i0 i1 i2 i3 i4 s0 s1 s2 s3 s4 j0 j1 j2 j3 j4
  skip
  skip
  go_loopg [14] A.z.length (fun gk i wr => ∃ j : Nat, j + gk = A.z.length ∧ i = .int .i64 j ∧ Below wz.heap.size wz wr)
  case atStart => exact ⟨0, by omega, rfl, Below.refl _ _⟩
  case round =>
    obtain ⟨j, hjg, rfl, hbl⟩ := hrel
    have HKr := Lib.hid (HK.out.next hbl)
    have HB1 := Lib.hid hbl
    clear hbl
    cases gk with
    | zero =>
      have hjz : ¬ ((j : Int) < (A.z.length : Int)) := by omega
      clear HJ1 HJl HK HB1 hjg
      have HK := HKr
      clear HKr
      by_cases hn0 : A.z.length = 0
      · have kn : ((A.z.length : Int) == 0) = true := by rw [hn0]; rfl
        clear HC HL HU HT HPb HQb HV0 HN0
        go_wp2_with (first
          | (go_at_call 21; (with_reducible refine (HAw.out _ (by with_unfolding_all exact HK.out.lay)).mono ?_); rintro e wz ⟨rfl, hb⟩; have HK2 := Lib.hid (HK.out.next hb); clear HK ; have HK := HK2; clear HK2; clear hb)
          | fail)
        go_ret
        exact ⟨rfl, HK.out.bel⟩
      have kn : ((A.z.length : Int) == 0) = false := by rw [beq_eq_false_iff_ne]; omega
      have kn2 : ¬ ((A.z.length : Int) = 0) := by omega
      by_cases hp0 : p.length = 0
      · have km : ((p.length : Int) == 0) = true := by rw [hp0]; rfl
        clear HC HL HU HT HPb HQb HV0 HN0
        go_wp2_with (first
          | (go_at_call 21; (with_reducible refine (HAw.out _ (by with_unfolding_all exact HK.out.lay)).mono ?_); rintro e wz ⟨rfl, hb⟩; have HK2 := Lib.hid (HK.out.next hb); clear HK ; have HK := HK2; clear HK2; clear hb)
          | fail)
        go_ret
        exact ⟨rfl, HK.out.bel⟩
      have km : ((p.length : Int) == 0) = false := by rw [beq_eq_false_iff_ne]; omega
      have km2 : ¬ ((p.length : Int) = 0) := by omega
      obtain ⟨cA, rA⟩ := HC.out
      obtain ⟨l1, l2, l3⟩ := HL.out
      have hb1 : (rmZ A.z.length p).all (inS A.z.length) = true := List.all_eq_true.2 fun x hx => rmZ_in hn0 p hx
      have hb2 : (rmZ p.length q).all (inS (rmZ A.z.length p).length) = true := by rw [rmZ_len]; exact List.all_eq_true.2 fun x hx => rmZ_in hp0 q hx
      have HSa : Hid (∀ j (hj : j < p.length), (rmZ A.z.length p).take j ++ [p[j] % (A.z.length : Int)] = (rmZ A.z.length p).take (j + 1)) := fun j hj => rmZ_snoc hj
      have HSb : Hid (∀ j (hj : j < q.length), (rmZ p.length q).take j ++ [q[j] % (p.length : Int)] = (rmZ p.length q).take (j + 1)) := fun j hj => rmZ_snoc hj
      have HLa := Lib.hid (rmZ_len A.z.length p)
      have HLb := Lib.hid (rmZ_len p.length q)
      have la : (rmZ A.z.length p).length ≤ 100 := by rw [rmZ_len]; exact l2
      have lb : (rmZ p.length q).length ≤ 100 := by rw [rmZ_len]; exact l3
      generalize rmZ A.z.length p = aZ at hb1 hb2 HSa HLa la
      generalize rmZ p.length q = bZ at hb2 HSb HLb lb
      have hf := vec_form cA rA
      have c1 : ck ⟨A.k, 1, (plZ A.z aZ).length, 0, plZ A.z aZ⟩ = 0 := (at_vec rfl (by rw [← hf]; exact cA) (ints_ck (by omega)) hb1).2.2
      have HIa := Lib.hid (fun v W h1 h2 => lints8 aZ v W h1 h2 (by omega))
      have HIb := Lib.hid (fun v W h1 h2 => lints8 bZ v W h1 h2 (by omega))
      have HAt1 := Lib.hid (fun u W h0 h1 h2 => lat8A A cA rA aZ (by omega) hb1 (.slice qa A.z.length ca) u W h0 h1 h2)
      have HAt2 := Lib.hid (fun v u W h0 h1 h2 => lat8 A.k (plZ A.z aZ) bZ (plZ A.z aZ).length rfl c1 (by rw [plZ_len]; omega) (by omega) (by rw [plZ_len]; exact hb2) v u W h0 h1 h2)
      have HAt3 := Lib.hid (fun v u W h0 h1 h2 => lat8 1 aZ bZ aZ.length rfl (ints_ck (by omega)) (by omega) (by omega) hb2 v u W h0 h1 h2)
      have HAt4 := Lib.hid (fun u W h0 h1 h2 => lat8A A cA rA (plZ aZ bZ) (by rw [plZ_len]; omega) (plZ_all hb1 hb2) (.slice qa A.z.length ca) u W h0 h1 h2)
      rw [← plZ_plZ hb2] at HAt4
      have HQ2 := Lib.hid (fun v u W h1 h2 => is8_eq ⟨A.k, 1, (plZ (plZ A.z aZ) bZ).length, 0, plZ (plZ A.z aZ) bZ⟩ v u W h1 h2 (by show (plZ _ _).length ≤ _; rw [plZ_len]; omega))
      clear cA rA l1 l2 l3 hb1 hb2 la lb hf c1 HC
      generalize plZ (plZ A.z aZ) bZ = G at HAt2 HAt4 HQ2
      generalize plZ aZ bZ = Q at HAt3 HAt4
      generalize plZ A.z aZ = F at HAt1 HAt2
      go_wp2_with fail
      clear kn km hjz
      rename World => w1
      have HS0 : Hid (Ru.Ins 2 w1 w1.heap.size (.slice none 0 0) []) := ins_nil _ _
      go_loopg [15, 17] p.length (fun gk s i wr => ∃ (j : Nat) (V : Value), j + gk = p.length ∧ s = V ∧ i = .int .i64 j ∧ Below w1.heap.size w1 wr ∧ Ru.Ins 2 wr w1.heap.size V (aZ.take j))
      case atStart => exact ⟨0, _, by omega, rfl, rfl, Below.refl _ _, by simpa using HS0.out⟩
      case round =>
        obtain ⟨j, V, hjg, rfl, rfl, hbl, hin⟩ := hrel
        have HB := Lib.hid hbl
        have HN := Lib.hid hin
        have HKr := Lib.hid (HK.out.next hbl)
        clear hbl hin HS0
        cases gk with
        | zero =>
          have hjz : ¬ ((j : Int) < (p.length : Int)) := by omega
          have hje : aZ.take j = aZ := List.take_of_length_le (by rw [HLa.out]; omega)
          rw [hje] at HN
          rename World => w2
          have HRa2 := Lib.hid (ins_new HN.out).rd
          have HNa := Lib.hid (ins_nilC HN.out)
          clear HK HN HB HSa HLa HU HPb hje
          have HK := HKr
          clear HKr
          go_wp2_with fail
          have HS0 : Hid (Ru.Ins 2 w2 w2.heap.size (.slice none 0 0) []) := ins_nil _ _
          go_loopg [16, 18] q.length (fun gk s i wr => ∃ (j : Nat) (V : Value), j + gk = q.length ∧ s = V ∧ i = .int .i64 j ∧ Below w2.heap.size w2 wr ∧ Ru.Ins 2 wr w2.heap.size V (bZ.take j))
          case atStart => exact ⟨0, _, by omega, rfl, rfl, Below.refl _ _, by simpa using HS0.out⟩
          case round =>
            obtain ⟨j, V, hjg, rfl, rfl, hbl, hin⟩ := hrel
            have HB := Lib.hid hbl
            have HN := Lib.hid hin
            have HKr := Lib.hid (HK.out.next hbl)
            clear hbl hin HS0
            cases gk with
            | zero =>
              have hjz : ¬ ((j : Int) < (q.length : Int)) := by omega
              have hje : bZ.take j = bZ := List.take_of_length_le (by rw [HLb.out]; omega)
              rw [hje] at HN
              rename World => w3
              have HRb := Lib.hid (ins_new HN.out).rd
              have HNb := Lib.hid (ins_nilC HN.out)
              have HRa := Lib.hid (HRa2.out.next HB.out)
              clear HK HRa2 HN HB HSb HLb HT HQb hje
              have HK := HKr
              clear HKr
              have HX5 := Lib.hid (HK.out.a _ (.tail _ (.tail _ (.tail _ (.head _)))))
              have HXr : Hid (RdI w3.heap.size w3 (.slice qa A.z.length ca) A.z) := HV0.out.next HK.out.bel
              have HXn : Hid (Ru.NilC (.slice qa A.z.length ca)) := HN0.out
              have HBw : Hid (Below w.heap.size w w3) := HK.out.bel
              have HK2 := Lib.hid (KVar.start w3 HK.out.lay)
              clear HK HV0 HN0
              have HK := HK2
              clear HK2
              have x0 := (HX5.out.next HK.out.bel).c0
              have x1 := (HX5.out.next HK.out.bel).c1
              have x2 := (HX5.out.next HK.out.bel).c2
              have x3 := (HX5.out.next HK.out.bel).c3
              have x4 := (HX5.out.next HK.out.bel).c4
              go_wp2_with fail
              go_cut [19, 20] (fun sp se wx => CutE w3 [] sp se ⟨A.k, 1, F.length, 0, F⟩ 0 wx)
              case first =>
                as_aux_lemma =>
                  clear x0 x1 x2 x3 x4
                  have HLt : Hid (∀ g ∈ List.map Bk.g [], g < w3.heap.size) := fun g hg => by obtain ⟨c, hc, rfl⟩ := List.mem_map.1 hg; exact HK.out.lt c hc
                  have HAll : Hid (∀ W, Below w3.heap.size w3 W → (fun W => Below w3.heap.size w3 W ∧ W.cell? ⟨w.heap.size, 0, none⟩ = some (.int .i64 A.k) ∧ W.cell? ⟨w.heap.size, 1, none⟩ = some (.int .i64 A.r) ∧ W.cell? ⟨w.heap.size, 2, none⟩ = some (.int .i64 A.a) ∧ W.cell? ⟨w.heap.size, 3, none⟩ = some (.int .i64 A.b) ∧ W.cell? ⟨w.heap.size, 4, none⟩ = some ((.slice qa A.z.length ca))) W) := fun W h => ⟨h, (HX5.out.next (HK.out.next h).bel).c0, (HX5.out.next (HK.out.next h).bel).c1, (HX5.out.next (HK.out.next h).bel).c2, (HX5.out.next (HK.out.next h).bel).c3, (HX5.out.next (HK.out.next h).bel).c4⟩
                  refine wp_region_held_drew (S := (fun W => Below w3.heap.size w3 W ∧ W.cell? ⟨w.heap.size, 0, none⟩ = some (.int .i64 A.k) ∧ W.cell? ⟨w.heap.size, 1, none⟩ = some (.int .i64 A.r) ∧ W.cell? ⟨w.heap.size, 2, none⟩ = some (.int .i64 A.a) ∧ W.cell? ⟨w.heap.size, 3, none⟩ = some (.int .i64 A.b) ∧ W.cell? ⟨w.heap.size, 4, none⟩ = some ((.slice qa A.z.length ca)))) (by kernel_rfl) ?_ (fun hHeld => ?_)
                  · exact HAll.out _ (Below.refl _ _).drew
                  have HB0 : Hid (Below w3.heap.size w3 (World.drew w3)) := (Below.refl _ _).drew
                  generalize World.drew w3 = wd at hHeld HB0 ⊢
                  refine wpAnyH_take (i := 0) (v := ?_) rfl (by kernel_rfl) (by kernel_rfl) (by kernel_rfl) (fun _ _ _ h => h) (Or.inl ⟨by rfl, ?_⟩) (by assumption) ?_
                  rotate_left
                  · ((intro w0 hSw); (try dsimp only at hSw); go_simp; (try with_reducible rfl))
                  change wpAnyH _ _ _ _ _ _ _ (Act.put _ (some 135) _) _
                  try simp only [Act.put, List.setIfInBounds_toArray, List.set_cons_zero, List.set_cons_succ]
                  refine wpAnyH_take (i := 1) (v := ?_) rfl (by kernel_rfl) (by kernel_rfl) (by kernel_rfl) (fun _ _ _ h => h) (Or.inl ⟨by rfl, ?_⟩) (by assumption) ?_
                  rotate_left
                  · ((intro w0 hSw); (try dsimp only at hSw); go_simp; (try with_reducible rfl))
                  change wpAnyH _ _ _ _ _ _ _ (Act.put _ (some 136) _) _
                  try simp only [Act.put, List.setIfInBounds_toArray, List.set_cons_zero, List.set_cons_succ]
                  refine wpAnyH_ready (rs := [2, 7]) (by kernel_rfl) (by simp) ?_
                  refine AllReadyH.cons rfl (fun K hK => ?_) (AllReadyH.cons rfl (fun K hK => ?_) (AllReadyH.nil))
                  · go_simp
                    go_at_call 38
                    with_reducible refine (HIa.out _ _ (HRa.out.next HB0.out) HNa.out).mono ?_
                    rintro e wn6 ⟨uz7, rfl, hu3, hb4⟩
                    obtain ⟨qz1, cz2, hq8, _, _⟩ := hu3.form
                    have hq82 : uz7 = (.slice qz1 aZ.length cz2) := hq8
                    subst hq82
                    clear hq8
                    have HB5 := Lib.hid (HB0.out.trans (hb4.mono HB0.out.size))
                    refine hK.out _ _ ?_ (fun hHeld2 => ?_)
                    · exact HAll.out _ HB5.out
                    clear hK K hHeld
                    have hHeld := hHeld2; clear hHeld2
                    try change wpAnyH _ _ _ _ _ _ _ (Act.put _ (some 137) _) _
                    try dsimp only
                    try simp only [Act.put, List.setIfInBounds_toArray, List.set_cons_zero, List.set_cons_succ]
                    have HU9 := Lib.hid hu3.rd
                    have HU9n := Lib.hid hu3.nilC
                    clear hu3 hb4
                    refine wpAnyH_ready (rs := [3, 7]) (by kernel_rfl) (by simp) ?_
                    refine AllReadyH.cons rfl (fun K hK => ?_) (AllReadyH.cons rfl (fun K hK => ?_) (AllReadyH.nil))
                    · go_simp
                      go_at_call 27
                      with_reducible refine (HAt1.out _ _ (HK.out.next HB5.out).lay (by with_unfolding_all exact (HXr.out.next (HK.out.next HB5.out).bel)) HU9.out).mono ?_
                      rintro e wn15 ⟨uz16, rfl, hu12, hb13⟩
                      obtain ⟨qz10, cz11, hq17, _, _⟩ := hu12.form
                      have hq172 : uz16 = (.slice qz10 F.length cz11) := hq17
                      subst hq172
                      clear hq17
                      have HB14 := Lib.hid (HB5.out.trans (hb13.mono HB5.out.size))
                      refine hK.out _ _ ?_ (fun hHeld2 => ?_)
                      · exact HAll.out _ HB14.out
                      clear hK K hHeld
                      have hHeld := hHeld2; clear hHeld2
                      try change wpAnyH _ _ _ _ _ _ _ (Act.put _ (some 138) _) _
                      try dsimp only
                      try simp only [Act.put, List.setIfInBounds_toArray, List.set_cons_zero, List.set_cons_succ]
                      have HC18 := Lib.hid (HU9.out.next hb13)
                      have HX19 : Hid (RdX (List.map Bk.g []) wn15 (.slice qz10 F.length cz11) F) := rdN_toX hu12 (fun g mg => Nat.lt_of_lt_of_le (HLt.out g mg) HB5.out.size)
                      have HN20 := Lib.hid hu12.nilC
                      clear hu12 hb13
                      refine wpAnyH_take (i := 4) (v := ?_) rfl (by kernel_rfl) (by kernel_rfl) (by kernel_rfl) (fun _ _ _ h => h) (Or.inl ⟨by rfl, ?_⟩) (by assumption) ?_
                      rotate_left
                      · ((intro w0 hSw); (try dsimp only at hSw); go_simp; (try with_reducible rfl))
                      change wpAnyH _ _ _ _ _ _ _ (Act.put _ (some 134) _) _
                      try simp only [Act.put, List.setIfInBounds_toArray, List.set_cons_zero, List.set_cons_succ]
                      refine wpAnyH_take (i := 5) (v := ?_) rfl (by kernel_rfl) (by kernel_rfl) (by kernel_rfl) (fun _ _ _ h => h) (Or.inl ⟨by rfl, ?_⟩) (by assumption) ?_
                      rotate_left
                      · ((intro w0 hSw); (try dsimp only at hSw); go_simp; (try with_reducible rfl))
                      change wpAnyH _ _ _ _ _ _ _ (Act.put _ (some 139) _) _
                      try simp only [Act.put, List.setIfInBounds_toArray, List.set_cons_zero, List.set_cons_succ]
                      refine wpAnyH_take (i := 6) (v := ?_) rfl (by kernel_rfl) (by kernel_rfl) (by kernel_rfl) (fun _ _ _ h => h) (Or.inl ⟨by rfl, ?_⟩) (by assumption) ?_
                      rotate_left
                      · ((intro w0 hSw); (try dsimp only at hSw); go_simp; (try with_reducible rfl))
                      change wpAnyH _ _ _ _ _ _ _ (Act.put _ (some 140) _) _
                      try simp only [Act.put, List.setIfInBounds_toArray, List.set_cons_zero, List.set_cons_succ]
                      refine wpAnyH_ready (rs := [7]) (by kernel_rfl) (by simp) ?_
                      refine AllReadyH.cons rfl (fun K hK => ?_) (AllReadyH.nil)
                      go_simp
                      refine hK.out _ _ ?_ (fun hHeld2 => ?_)
                      · exact HAll.out _ (HB14.out.trans ((bel1 wn15 _).mono HB14.out.size))
                      clear hK K hHeld
                      have hHeld := hHeld2; clear hHeld2
                      try change wpAnyH _ _ _ _ _ _ _ (Act.put _ (some 19) _) _
                      try simp only [Act.put, List.setIfInBounds_toArray, List.set_cons_zero, List.set_cons_succ]
                      generalize hwx22 : World.alloc wn15 _ = wa21 at hHeld ⊢
                      have HB23 : Hid (Below w3.heap.size w3 wa21) := by rw [← hwx22]; exact HB14.out.trans ((bel1 wn15 _).mono HB14.out.size)
                      have Hbx24 : Hid (Below wn15.heap.size wn15 wa21) := by rw [← hwx22]; exact bel1 _ _
                      have HC25 := Lib.hid (HC18.out.next Hbx24.out)
                      have HG26 : Hid (R5 wa21 wn15.heap.size 0 0 0 0 (.slice none 0 0)) := by rw [← hwx22]; exact R5.new _ _ _ _ _ _
                      have hge : w3.heap.size ≤ wn15.heap.size := HB14.out.size
                      have HX27 : Hid (RdX (wn15.heap.size :: List.map Bk.g []) wa21 (.slice qz10 F.length cz11) F) := (HX19.out.more (Nat.le_refl _)).keep Hbx24.out.size (fun c' _ hc' => Hbx24.out.block c' hc')
                      clear hwx22
                      as_aux_lemma =>
                        refine wpAnyH_ready (rs := [8]) (by kernel_rfl) (by simp) ?_
                        refine AllReadyH.cons rfl (fun K hK => ?_) (AllReadyH.nil)
                        have y0 := HG26.out.c0; have y1 := HG26.out.c1; have y2 := HG26.out.c2; have y3 := HG26.out.c3; have y4 := HG26.out.c4; have f0 := HG26.out.fr 0; have f1 := HG26.out.fr 1; have f2 := HG26.out.fr 2; have f3 := HG26.out.fr 3; have f4 := HG26.out.fr 4; have HS := Lib.hid (HG26.out.set A.k 1 F.length 0 (.slice qz10 F.length cz11)); have z0 := HS.out.c0; have z1 := HS.out.c1; have z2 := HS.out.c2; have z3 := HS.out.c3; have z4 := HS.out.c4
                        go_simp
                        refine hK.out _ _ ?_ (fun hHeld2 => ?_)
                        · exact HAll.out _ (st5_below _ _ _ _ _ hge HB23.out)
                        clear hK K hHeld
                        have hHeld := hHeld2; clear hHeld2
                        try simp only [Act.put, List.setIfInBounds_toArray, List.set_cons_zero, List.set_cons_succ]
                        refine wpAnyH_take (i := 9) (v := ?_) rfl (by kernel_rfl) (by kernel_rfl) (by kernel_rfl) (fun _ _ _ h => h) (Or.inl ⟨by rfl, ?_⟩) (by assumption) ?_
                        rotate_left
                        · ((intro w0 hSw); (try dsimp only at hSw); go_simp; (try with_reducible rfl))
                        change wpAnyH _ _ _ _ _ _ _ (Act.put _ (some 20) _) _
                        try simp only [Act.put, List.setIfInBounds_toArray, List.set_cons_zero, List.set_cons_succ]
                        refine wpAnyH_done (by kernel_rfl) ?_ _
                        go_wp2_with fail
                        go_meet
                        case rel => exact ⟨wn15.heap.size, qz10, cz11, rfl, rfl, HK.out.newAt HB23.out hge HG26.out ⟨A.k, 1, F.length, 0, F⟩ HX27.out HN20.out, fun b mb => Nat.lt_of_lt_of_le (HK.out.lt b mb) hge⟩
                    · go_simp
                      refine hK.out _ _ ?_ (fun hHeld2 => ?_)
                      · exact HAll.out _ (HB5.out.trans ((bel1 wn6 _).mono HB5.out.size))
                      clear hK K hHeld
                      have hHeld := hHeld2; clear hHeld2
                      try change wpAnyH _ _ _ _ _ _ _ (Act.put _ (some 19) _) _
                      try simp only [Act.put, List.setIfInBounds_toArray, List.set_cons_zero, List.set_cons_succ]
                      generalize hwx29 : World.alloc wn6 _ = wa28 at hHeld ⊢
                      have HB30 : Hid (Below w3.heap.size w3 wa28) := by rw [← hwx29]; exact HB5.out.trans ((bel1 wn6 _).mono HB5.out.size)
                      have Hbx31 : Hid (Below wn6.heap.size wn6 wa28) := by rw [← hwx29]; exact bel1 _ _
                      have HC32 := Lib.hid (HU9.out.next Hbx31.out)
                      have HG33 : Hid (R5 wa28 wn6.heap.size 0 0 0 0 (.slice none 0 0)) := by rw [← hwx29]; exact R5.new _ _ _ _ _ _
                      have hge : w3.heap.size ≤ wn6.heap.size := HB5.out.size
                      clear hwx29
                      refine wpAnyH_ready (rs := [3]) (by kernel_rfl) (by simp) ?_
                      refine AllReadyH.cons rfl (fun K hK => ?_) (AllReadyH.nil)
                      go_simp
                      go_at_call 27
                      with_reducible refine (HAt1.out _ _ (HK.out.next HB30.out).lay (by with_unfolding_all exact (HXr.out.next (HK.out.next HB30.out).bel)) HC32.out).mono ?_
                      rintro e wn39 ⟨uz40, rfl, hu36, hb37⟩
                      obtain ⟨qz34, cz35, hq41, _, _⟩ := hu36.form
                      have hq412 : uz40 = (.slice qz34 F.length cz35) := hq41
                      subst hq412
                      clear hq41
                      have HB38 := Lib.hid (HB30.out.trans (hb37.mono HB30.out.size))
                      refine hK.out _ _ ?_ (fun hHeld2 => ?_)
                      · exact HAll.out _ HB38.out
                      clear hK K hHeld
                      have hHeld := hHeld2; clear hHeld2
                      try change wpAnyH _ _ _ _ _ _ _ (Act.put _ (some 138) _) _
                      try dsimp only
                      try simp only [Act.put, List.setIfInBounds_toArray, List.set_cons_zero, List.set_cons_succ]
                      have HC42 := Lib.hid (HC32.out.next hb37)
                      have HC43 := Lib.hid (HG33.out.next hb37)
                      have HX44 : Hid (RdX (wn6.heap.size :: List.map Bk.g []) wn39 (.slice qz34 F.length cz35) F) := rdN_toX hu36 (fun g mg => by
                        rcases List.mem_cons.1 mg with rfl | mg
                        · exact HG33.out.lt
                        · exact Nat.lt_of_lt_of_le (HLt.out g mg) HB30.out.size)
                      have HN45 := Lib.hid hu36.nilC
                      clear hu36 hb37
                      refine wpAnyH_take (i := 4) (v := ?_) rfl (by kernel_rfl) (by kernel_rfl) (by kernel_rfl) (fun _ _ _ h => h) (Or.inl ⟨by rfl, ?_⟩) (by assumption) ?_
                      rotate_left
                      · ((intro w0 hSw); (try dsimp only at hSw); go_simp; (try with_reducible rfl))
                      change wpAnyH _ _ _ _ _ _ _ (Act.put _ (some 134) _) _
                      try simp only [Act.put, List.setIfInBounds_toArray, List.set_cons_zero, List.set_cons_succ]
                      refine wpAnyH_take (i := 5) (v := ?_) rfl (by kernel_rfl) (by kernel_rfl) (by kernel_rfl) (fun _ _ _ h => h) (Or.inl ⟨by rfl, ?_⟩) (by assumption) ?_
                      rotate_left
                      · ((intro w0 hSw); (try dsimp only at hSw); go_simp; (try with_reducible rfl))
                      change wpAnyH _ _ _ _ _ _ _ (Act.put _ (some 139) _) _
                      try simp only [Act.put, List.setIfInBounds_toArray, List.set_cons_zero, List.set_cons_succ]
                      refine wpAnyH_take (i := 6) (v := ?_) rfl (by kernel_rfl) (by kernel_rfl) (by kernel_rfl) (fun _ _ _ h => h) (Or.inl ⟨by rfl, ?_⟩) (by assumption) ?_
                      rotate_left
                      · ((intro w0 hSw); (try dsimp only at hSw); go_simp; (try with_reducible rfl))
                      change wpAnyH _ _ _ _ _ _ _ (Act.put _ (some 140) _) _
                      try simp only [Act.put, List.setIfInBounds_toArray, List.set_cons_zero, List.set_cons_succ]
                      as_aux_lemma =>
                        refine wpAnyH_ready (rs := [8]) (by kernel_rfl) (by simp) ?_
                        refine AllReadyH.cons rfl (fun K hK => ?_) (AllReadyH.nil)
                        have y0 := HC43.out.c0; have y1 := HC43.out.c1; have y2 := HC43.out.c2; have y3 := HC43.out.c3; have y4 := HC43.out.c4; have f0 := HC43.out.fr 0; have f1 := HC43.out.fr 1; have f2 := HC43.out.fr 2; have f3 := HC43.out.fr 3; have f4 := HC43.out.fr 4; have HS := Lib.hid (HC43.out.set A.k 1 F.length 0 (.slice qz34 F.length cz35)); have z0 := HS.out.c0; have z1 := HS.out.c1; have z2 := HS.out.c2; have z3 := HS.out.c3; have z4 := HS.out.c4
                        go_simp
                        refine hK.out _ _ ?_ (fun hHeld2 => ?_)
                        · exact HAll.out _ (st5_below _ _ _ _ _ hge HB38.out)
                        clear hK K hHeld
                        have hHeld := hHeld2; clear hHeld2
                        try simp only [Act.put, List.setIfInBounds_toArray, List.set_cons_zero, List.set_cons_succ]
                        refine wpAnyH_take (i := 9) (v := ?_) rfl (by kernel_rfl) (by kernel_rfl) (by kernel_rfl) (fun _ _ _ h => h) (Or.inl ⟨by rfl, ?_⟩) (by assumption) ?_
                        rotate_left
                        · ((intro w0 hSw); (try dsimp only at hSw); go_simp; (try with_reducible rfl))
                        change wpAnyH _ _ _ _ _ _ _ (Act.put _ (some 20) _) _
                        try simp only [Act.put, List.setIfInBounds_toArray, List.set_cons_zero, List.set_cons_succ]
                        refine wpAnyH_done (by kernel_rfl) ?_ _
                        go_wp2_with fail
                        go_meet
                        case rel => exact ⟨wn6.heap.size, qz34, cz35, rfl, rfl, HK.out.newAt HB38.out hge HC43.out ⟨A.k, 1, F.length, 0, F⟩ HX44.out HN45.out, fun b mb => Nat.lt_of_lt_of_le (HK.out.lt b mb) hge⟩
                  · go_simp
                    refine hK.out _ _ ?_ (fun hHeld2 => ?_)
                    · exact HAll.out _ (HB0.out.trans ((bel1 wd _).mono HB0.out.size))
                    clear hK K hHeld
                    have hHeld := hHeld2; clear hHeld2
                    try change wpAnyH _ _ _ _ _ _ _ (Act.put _ (some 19) _) _
                    try simp only [Act.put, List.setIfInBounds_toArray, List.set_cons_zero, List.set_cons_succ]
                    generalize hwx47 : World.alloc wd _ = wa46 at hHeld ⊢
                    have HB48 : Hid (Below w3.heap.size w3 wa46) := by rw [← hwx47]; exact HB0.out.trans ((bel1 wd _).mono HB0.out.size)
                    have Hbx49 : Hid (Below wd.heap.size wd wa46) := by rw [← hwx47]; exact bel1 _ _
                    have HG50 : Hid (R5 wa46 wd.heap.size 0 0 0 0 (.slice none 0 0)) := by rw [← hwx47]; exact R5.new _ _ _ _ _ _
                    have hge : w3.heap.size ≤ wd.heap.size := HB0.out.size
                    clear hwx47
                    refine wpAnyH_ready (rs := [2]) (by kernel_rfl) (by simp) ?_
                    refine AllReadyH.cons rfl (fun K hK => ?_) (AllReadyH.nil)
                    go_simp
                    go_at_call 38
                    with_reducible refine (HIa.out _ _ (HRa.out.next HB48.out) HNa.out).mono ?_
                    rintro e wn56 ⟨uz57, rfl, hu53, hb54⟩
                    obtain ⟨qz51, cz52, hq58, _, _⟩ := hu53.form
                    have hq582 : uz57 = (.slice qz51 aZ.length cz52) := hq58
                    subst hq582
                    clear hq58
                    have HB55 := Lib.hid (HB48.out.trans (hb54.mono HB48.out.size))
                    refine hK.out _ _ ?_ (fun hHeld2 => ?_)
                    · exact HAll.out _ HB55.out
                    clear hK K hHeld
                    have hHeld := hHeld2; clear hHeld2
                    try change wpAnyH _ _ _ _ _ _ _ (Act.put _ (some 137) _) _
                    try dsimp only
                    try simp only [Act.put, List.setIfInBounds_toArray, List.set_cons_zero, List.set_cons_succ]
                    have HC59 := Lib.hid (HG50.out.next hb54)
                    have HU60 := Lib.hid hu53.rd
                    have HU60n := Lib.hid hu53.nilC
                    clear hu53 hb54
                    refine wpAnyH_ready (rs := [3]) (by kernel_rfl) (by simp) ?_
                    refine AllReadyH.cons rfl (fun K hK => ?_) (AllReadyH.nil)
                    go_simp
                    go_at_call 27
                    with_reducible refine (HAt1.out _ _ (HK.out.next HB55.out).lay (by with_unfolding_all exact (HXr.out.next (HK.out.next HB55.out).bel)) HU60.out).mono ?_
                    rintro e wn66 ⟨uz67, rfl, hu63, hb64⟩
                    obtain ⟨qz61, cz62, hq68, _, _⟩ := hu63.form
                    have hq682 : uz67 = (.slice qz61 F.length cz62) := hq68
                    subst hq682
                    clear hq68
                    have HB65 := Lib.hid (HB55.out.trans (hb64.mono HB55.out.size))
                    refine hK.out _ _ ?_ (fun hHeld2 => ?_)
                    · exact HAll.out _ HB65.out
                    clear hK K hHeld
                    have hHeld := hHeld2; clear hHeld2
                    try change wpAnyH _ _ _ _ _ _ _ (Act.put _ (some 138) _) _
                    try dsimp only
                    try simp only [Act.put, List.setIfInBounds_toArray, List.set_cons_zero, List.set_cons_succ]
                    have HC69 := Lib.hid (HC59.out.next hb64)
                    have HC70 := Lib.hid (HU60.out.next hb64)
                    have HX71 : Hid (RdX (wd.heap.size :: List.map Bk.g []) wn66 (.slice qz61 F.length cz62) F) := rdN_toX hu63 (fun g mg => by
                      rcases List.mem_cons.1 mg with rfl | mg
                      · exact HC59.out.lt
                      · exact Nat.lt_of_lt_of_le (HLt.out g mg) HB55.out.size)
                    have HN72 := Lib.hid hu63.nilC
                    clear hu63 hb64
                    refine wpAnyH_take (i := 4) (v := ?_) rfl (by kernel_rfl) (by kernel_rfl) (by kernel_rfl) (fun _ _ _ h => h) (Or.inl ⟨by rfl, ?_⟩) (by assumption) ?_
                    rotate_left
                    · ((intro w0 hSw); (try dsimp only at hSw); go_simp; (try with_reducible rfl))
                    change wpAnyH _ _ _ _ _ _ _ (Act.put _ (some 134) _) _
                    try simp only [Act.put, List.setIfInBounds_toArray, List.set_cons_zero, List.set_cons_succ]
                    refine wpAnyH_take (i := 5) (v := ?_) rfl (by kernel_rfl) (by kernel_rfl) (by kernel_rfl) (fun _ _ _ h => h) (Or.inl ⟨by rfl, ?_⟩) (by assumption) ?_
                    rotate_left
                    · ((intro w0 hSw); (try dsimp only at hSw); go_simp; (try with_reducible rfl))
                    change wpAnyH _ _ _ _ _ _ _ (Act.put _ (some 139) _) _
                    try simp only [Act.put, List.setIfInBounds_toArray, List.set_cons_zero, List.set_cons_succ]
                    refine wpAnyH_take (i := 6) (v := ?_) rfl (by kernel_rfl) (by kernel_rfl) (by kernel_rfl) (fun _ _ _ h => h) (Or.inl ⟨by rfl, ?_⟩) (by assumption) ?_
                    rotate_left
                    · ((intro w0 hSw); (try dsimp only at hSw); go_simp; (try with_reducible rfl))
                    change wpAnyH _ _ _ _ _ _ _ (Act.put _ (some 140) _) _
                    try simp only [Act.put, List.setIfInBounds_toArray, List.set_cons_zero, List.set_cons_succ]
                    as_aux_lemma =>
                      refine wpAnyH_ready (rs := [8]) (by kernel_rfl) (by simp) ?_
                      refine AllReadyH.cons rfl (fun K hK => ?_) (AllReadyH.nil)
                      have y0 := HC69.out.c0; have y1 := HC69.out.c1; have y2 := HC69.out.c2; have y3 := HC69.out.c3; have y4 := HC69.out.c4; have f0 := HC69.out.fr 0; have f1 := HC69.out.fr 1; have f2 := HC69.out.fr 2; have f3 := HC69.out.fr 3; have f4 := HC69.out.fr 4; have HS := Lib.hid (HC69.out.set A.k 1 F.length 0 (.slice qz61 F.length cz62)); have z0 := HS.out.c0; have z1 := HS.out.c1; have z2 := HS.out.c2; have z3 := HS.out.c3; have z4 := HS.out.c4
                      go_simp
                      refine hK.out _ _ ?_ (fun hHeld2 => ?_)
                      · exact HAll.out _ (st5_below _ _ _ _ _ hge HB65.out)
                      clear hK K hHeld
                      have hHeld := hHeld2; clear hHeld2
                      try simp only [Act.put, List.setIfInBounds_toArray, List.set_cons_zero, List.set_cons_succ]
                      refine wpAnyH_take (i := 9) (v := ?_) rfl (by kernel_rfl) (by kernel_rfl) (by kernel_rfl) (fun _ _ _ h => h) (Or.inl ⟨by rfl, ?_⟩) (by assumption) ?_
                      rotate_left
                      · ((intro w0 hSw); (try dsimp only at hSw); go_simp; (try with_reducible rfl))
                      change wpAnyH _ _ _ _ _ _ _ (Act.put _ (some 20) _) _
                      try simp only [Act.put, List.setIfInBounds_toArray, List.set_cons_zero, List.set_cons_succ]
                      refine wpAnyH_done (by kernel_rfl) ?_ _
                      go_wp2_with fail
                      go_meet
                      case rel => exact ⟨wd.heap.size, qz61, cz62, rfl, rfl, HK.out.newAt HB65.out hge HC69.out ⟨A.k, 1, F.length, 0, F⟩ HX71.out HN72.out, fun b mb => Nat.lt_of_lt_of_le (HK.out.lt b mb) hge⟩
              case rest =>
                skip
                obtain ⟨gf, qf, cf, rfl, rfl, hk, _⟩ := hcut
                clear HK
                rename World => w4
                have HK : Hid (KVar w3 [⟨gf, ⟨A.k, 1, F.length, 0, F⟩, (.slice qf F.length cf)⟩] w4) := hk
                clear hk
                have f0 := (HK.out.a _ (.head _)).c0
                have f1 := (HK.out.a _ (.head _)).c1
                have f2 := (HK.out.a _ (.head _)).c2
                have f3 := (HK.out.a _ (.head _)).c3
                have f4 := (HK.out.a _ (.head _)).c4
                have HRa4 := Lib.hid (HRa.out.next HK.out.bel)
                have HRb4 := Lib.hid (HRb.out.next HK.out.bel)
                try go_wp2_with fail
                go_cut [21, 22] (fun sp se wx => CutE w3 [⟨gf, ⟨A.k, 1, F.length, 0, F⟩, (.slice qf F.length cf)⟩] sp se ⟨A.k, 1, G.length, 0, G⟩ 0 wx)
                case first =>
                  as_aux_lemma =>
                    clear f0 f1 f2 f3 f4
                    have HLt : Hid (∀ g ∈ List.map Bk.g [⟨gf, ⟨A.k, 1, F.length, 0, F⟩, (.slice qf F.length cf)⟩], g < w4.heap.size) := fun g hg => by obtain ⟨c, hc, rfl⟩ := List.mem_map.1 hg; exact HK.out.lt c hc
                    have HAll : Hid (∀ W, Below w4.heap.size w4 W → (fun W => Below w4.heap.size w4 W ∧ W.cell? ⟨gf, 0, none⟩ = some (.int .i64 A.k) ∧ W.cell? ⟨gf, 1, none⟩ = some (.int .i64 1) ∧ W.cell? ⟨gf, 2, none⟩ = some (.int .i64 F.length) ∧ W.cell? ⟨gf, 3, none⟩ = some (.int .i64 0) ∧ W.cell? ⟨gf, 4, none⟩ = some ((.slice qf F.length cf))) W) := fun W h => ⟨h, ((HK.out.next h).a _ (.head _)).c0, ((HK.out.next h).a _ (.head _)).c1, ((HK.out.next h).a _ (.head _)).c2, ((HK.out.next h).a _ (.head _)).c3, ((HK.out.next h).a _ (.head _)).c4⟩
                    refine wp_region_held_drew (S := (fun W => Below w4.heap.size w4 W ∧ W.cell? ⟨gf, 0, none⟩ = some (.int .i64 A.k) ∧ W.cell? ⟨gf, 1, none⟩ = some (.int .i64 1) ∧ W.cell? ⟨gf, 2, none⟩ = some (.int .i64 F.length) ∧ W.cell? ⟨gf, 3, none⟩ = some (.int .i64 0) ∧ W.cell? ⟨gf, 4, none⟩ = some ((.slice qf F.length cf)))) (by kernel_rfl) ?_ (fun hHeld => ?_)
                    · exact HAll.out _ (Below.refl _ _).drew
                    have HB0 : Hid (Below w4.heap.size w4 (World.drew w4)) := (Below.refl _ _).drew
                    generalize World.drew w4 = wd at hHeld HB0 ⊢
                    refine wpAnyH_take (i := 0) (v := ?_) rfl (by kernel_rfl) (by kernel_rfl) (by kernel_rfl) (fun _ _ _ h => h) (Or.inl ⟨by rfl, ?_⟩) (by assumption) ?_
                    rotate_left
                    · ((intro w0 hSw); (try dsimp only at hSw); go_simp; (try with_reducible rfl))
                    change wpAnyH _ _ _ _ _ _ _ (Act.put _ (some 142) _) _
                    try simp only [Act.put, List.setIfInBounds_toArray, List.set_cons_zero, List.set_cons_succ]
                    refine wpAnyH_take (i := 1) (v := ?_) rfl (by kernel_rfl) (by kernel_rfl) (by kernel_rfl) (fun _ _ _ h => h) (Or.inl ⟨by rfl, ?_⟩) (by assumption) ?_
                    rotate_left
                    · ((intro w0 hSw); (try dsimp only at hSw); go_simp; (try with_reducible rfl))
                    change wpAnyH _ _ _ _ _ _ _ (Act.put _ (some 143) _) _
                    try simp only [Act.put, List.setIfInBounds_toArray, List.set_cons_zero, List.set_cons_succ]
                    refine wpAnyH_ready (rs := [2, 7]) (by kernel_rfl) (by simp) ?_
                    refine AllReadyH.cons rfl (fun K hK => ?_) (AllReadyH.cons rfl (fun K hK => ?_) (AllReadyH.nil))
                    · go_simp
                      go_at_call 38
                      with_reducible refine (HIb.out _ _ (HRb4.out.next HB0.out) HNb.out).mono ?_
                      rintro e wn78 ⟨uz79, rfl, hu75, hb76⟩
                      obtain ⟨qz73, cz74, hq80, _, _⟩ := hu75.form
                      have hq802 : uz79 = (.slice qz73 bZ.length cz74) := hq80
                      subst hq802
                      clear hq80
                      have HB77 := Lib.hid (HB0.out.trans (hb76.mono HB0.out.size))
                      refine hK.out _ _ ?_ (fun hHeld2 => ?_)
                      · exact HAll.out _ HB77.out
                      clear hK K hHeld
                      have hHeld := hHeld2; clear hHeld2
                      try change wpAnyH _ _ _ _ _ _ _ (Act.put _ (some 144) _) _
                      try dsimp only
                      try simp only [Act.put, List.setIfInBounds_toArray, List.set_cons_zero, List.set_cons_succ]
                      have HU81 := Lib.hid hu75.rd
                      have HU81n := Lib.hid hu75.nilC
                      clear hu75 hb76
                      refine wpAnyH_ready (rs := [3, 7]) (by kernel_rfl) (by simp) ?_
                      refine AllReadyH.cons rfl (fun K hK => ?_) (AllReadyH.cons rfl (fun K hK => ?_) (AllReadyH.nil))
                      · go_simp
                        go_at_call 27
                        with_reducible refine (HAt2.out _ _ _ (HK.out.next HB77.out).lay (by with_unfolding_all exact ((HK.out.next HB77.out).r _ (.head _))) HU81.out).mono ?_
                        rintro e wn87 ⟨uz88, rfl, hu84, hb85⟩
                        obtain ⟨qz82, cz83, hq89, _, _⟩ := hu84.form
                        have hq892 : uz88 = (.slice qz82 G.length cz83) := hq89
                        subst hq892
                        clear hq89
                        have HB86 := Lib.hid (HB77.out.trans (hb85.mono HB77.out.size))
                        refine hK.out _ _ ?_ (fun hHeld2 => ?_)
                        · exact HAll.out _ HB86.out
                        clear hK K hHeld
                        have hHeld := hHeld2; clear hHeld2
                        try change wpAnyH _ _ _ _ _ _ _ (Act.put _ (some 145) _) _
                        try dsimp only
                        try simp only [Act.put, List.setIfInBounds_toArray, List.set_cons_zero, List.set_cons_succ]
                        have HC90 := Lib.hid (HU81.out.next hb85)
                        have HX91 : Hid (RdX (List.map Bk.g [⟨gf, ⟨A.k, 1, F.length, 0, F⟩, (.slice qf F.length cf)⟩]) wn87 (.slice qz82 G.length cz83) G) := rdN_toX hu84 (fun g mg => Nat.lt_of_lt_of_le (HLt.out g mg) HB77.out.size)
                        have HN92 := Lib.hid hu84.nilC
                        clear hu84 hb85
                        refine wpAnyH_take (i := 4) (v := ?_) rfl (by kernel_rfl) (by kernel_rfl) (by kernel_rfl) (fun _ _ _ h => h) (Or.inl ⟨by rfl, ?_⟩) (by assumption) ?_
                        rotate_left
                        · ((intro w0 hSw); (try dsimp only at hSw); go_simp; (try with_reducible rfl))
                        change wpAnyH _ _ _ _ _ _ _ (Act.put _ (some 141) _) _
                        try simp only [Act.put, List.setIfInBounds_toArray, List.set_cons_zero, List.set_cons_succ]
                        refine wpAnyH_take (i := 5) (v := ?_) rfl (by kernel_rfl) (by kernel_rfl) (by kernel_rfl) (fun _ _ _ h => h) (Or.inl ⟨by rfl, ?_⟩) (by assumption) ?_
                        rotate_left
                        · ((intro w0 hSw); (try dsimp only at hSw); go_simp; (try with_reducible rfl))
                        change wpAnyH _ _ _ _ _ _ _ (Act.put _ (some 146) _) _
                        try simp only [Act.put, List.setIfInBounds_toArray, List.set_cons_zero, List.set_cons_succ]
                        refine wpAnyH_take (i := 6) (v := ?_) rfl (by kernel_rfl) (by kernel_rfl) (by kernel_rfl) (fun _ _ _ h => h) (Or.inl ⟨by rfl, ?_⟩) (by assumption) ?_
                        rotate_left
                        · ((intro w0 hSw); (try dsimp only at hSw); go_simp; (try with_reducible rfl))
                        change wpAnyH _ _ _ _ _ _ _ (Act.put _ (some 147) _) _
                        try simp only [Act.put, List.setIfInBounds_toArray, List.set_cons_zero, List.set_cons_succ]
                        refine wpAnyH_ready (rs := [7]) (by kernel_rfl) (by simp) ?_
                        refine AllReadyH.cons rfl (fun K hK => ?_) (AllReadyH.nil)
                        go_simp
                        refine hK.out _ _ ?_ (fun hHeld2 => ?_)
                        · exact HAll.out _ (HB86.out.trans ((bel1 wn87 _).mono HB86.out.size))
                        clear hK K hHeld
                        have hHeld := hHeld2; clear hHeld2
                        try change wpAnyH _ _ _ _ _ _ _ (Act.put _ (some 21) _) _
                        try simp only [Act.put, List.setIfInBounds_toArray, List.set_cons_zero, List.set_cons_succ]
                        generalize hwx94 : World.alloc wn87 _ = wa93 at hHeld ⊢
                        have HB95 : Hid (Below w4.heap.size w4 wa93) := by rw [← hwx94]; exact HB86.out.trans ((bel1 wn87 _).mono HB86.out.size)
                        have Hbx96 : Hid (Below wn87.heap.size wn87 wa93) := by rw [← hwx94]; exact bel1 _ _
                        have HC97 := Lib.hid (HC90.out.next Hbx96.out)
                        have HG98 : Hid (R5 wa93 wn87.heap.size 0 0 0 0 (.slice none 0 0)) := by rw [← hwx94]; exact R5.new _ _ _ _ _ _
                        have hge : w4.heap.size ≤ wn87.heap.size := HB86.out.size
                        have HX99 : Hid (RdX (wn87.heap.size :: List.map Bk.g [⟨gf, ⟨A.k, 1, F.length, 0, F⟩, (.slice qf F.length cf)⟩]) wa93 (.slice qz82 G.length cz83) G) := (HX91.out.more (Nat.le_refl _)).keep Hbx96.out.size (fun c' _ hc' => Hbx96.out.block c' hc')
                        clear hwx94
                        as_aux_lemma =>
                          refine wpAnyH_ready (rs := [8]) (by kernel_rfl) (by simp) ?_
                          refine AllReadyH.cons rfl (fun K hK => ?_) (AllReadyH.nil)
                          have y0 := HG98.out.c0; have y1 := HG98.out.c1; have y2 := HG98.out.c2; have y3 := HG98.out.c3; have y4 := HG98.out.c4; have f0 := HG98.out.fr 0; have f1 := HG98.out.fr 1; have f2 := HG98.out.fr 2; have f3 := HG98.out.fr 3; have f4 := HG98.out.fr 4; have HS := Lib.hid (HG98.out.set A.k 1 G.length 0 (.slice qz82 G.length cz83)); have z0 := HS.out.c0; have z1 := HS.out.c1; have z2 := HS.out.c2; have z3 := HS.out.c3; have z4 := HS.out.c4
                          go_simp
                          refine hK.out _ _ ?_ (fun hHeld2 => ?_)
                          · exact HAll.out _ (st5_below _ _ _ _ _ hge HB95.out)
                          clear hK K hHeld
                          have hHeld := hHeld2; clear hHeld2
                          try simp only [Act.put, List.setIfInBounds_toArray, List.set_cons_zero, List.set_cons_succ]
                          refine wpAnyH_take (i := 9) (v := ?_) rfl (by kernel_rfl) (by kernel_rfl) (by kernel_rfl) (fun _ _ _ h => h) (Or.inl ⟨by rfl, ?_⟩) (by assumption) ?_
                          rotate_left
                          · ((intro w0 hSw); (try dsimp only at hSw); go_simp; (try with_reducible rfl))
                          change wpAnyH _ _ _ _ _ _ _ (Act.put _ (some 22) _) _
                          try simp only [Act.put, List.setIfInBounds_toArray, List.set_cons_zero, List.set_cons_succ]
                          refine wpAnyH_done (by kernel_rfl) ?_ _
                          go_wp2_with fail
                          go_meet
                          case rel => exact ⟨wn87.heap.size, qz82, cz83, rfl, rfl, HK.out.newAt HB95.out hge HG98.out ⟨A.k, 1, G.length, 0, G⟩ HX99.out HN92.out, fun b mb => Nat.lt_of_lt_of_le (HK.out.lt b mb) hge⟩
                      · go_simp
                        refine hK.out _ _ ?_ (fun hHeld2 => ?_)
                        · exact HAll.out _ (HB77.out.trans ((bel1 wn78 _).mono HB77.out.size))
                        clear hK K hHeld
                        have hHeld := hHeld2; clear hHeld2
                        try change wpAnyH _ _ _ _ _ _ _ (Act.put _ (some 21) _) _
                        try simp only [Act.put, List.setIfInBounds_toArray, List.set_cons_zero, List.set_cons_succ]
                        generalize hwx101 : World.alloc wn78 _ = wa100 at hHeld ⊢
                        have HB102 : Hid (Below w4.heap.size w4 wa100) := by rw [← hwx101]; exact HB77.out.trans ((bel1 wn78 _).mono HB77.out.size)
                        have Hbx103 : Hid (Below wn78.heap.size wn78 wa100) := by rw [← hwx101]; exact bel1 _ _
                        have HC104 := Lib.hid (HU81.out.next Hbx103.out)
                        have HG105 : Hid (R5 wa100 wn78.heap.size 0 0 0 0 (.slice none 0 0)) := by rw [← hwx101]; exact R5.new _ _ _ _ _ _
                        have hge : w4.heap.size ≤ wn78.heap.size := HB77.out.size
                        clear hwx101
                        refine wpAnyH_ready (rs := [3]) (by kernel_rfl) (by simp) ?_
                        refine AllReadyH.cons rfl (fun K hK => ?_) (AllReadyH.nil)
                        go_simp
                        go_at_call 27
                        with_reducible refine (HAt2.out _ _ _ (HK.out.next HB102.out).lay (by with_unfolding_all exact ((HK.out.next HB102.out).r _ (.head _))) HC104.out).mono ?_
                        rintro e wn111 ⟨uz112, rfl, hu108, hb109⟩
                        obtain ⟨qz106, cz107, hq113, _, _⟩ := hu108.form
                        have hq1132 : uz112 = (.slice qz106 G.length cz107) := hq113
                        subst hq1132
                        clear hq113
                        have HB110 := Lib.hid (HB102.out.trans (hb109.mono HB102.out.size))
                        refine hK.out _ _ ?_ (fun hHeld2 => ?_)
                        · exact HAll.out _ HB110.out
                        clear hK K hHeld
                        have hHeld := hHeld2; clear hHeld2
                        try change wpAnyH _ _ _ _ _ _ _ (Act.put _ (some 145) _) _
                        try dsimp only
                        try simp only [Act.put, List.setIfInBounds_toArray, List.set_cons_zero, List.set_cons_succ]
                        have HC114 := Lib.hid (HC104.out.next hb109)
                        have HC115 := Lib.hid (HG105.out.next hb109)
                        have HX116 : Hid (RdX (wn78.heap.size :: List.map Bk.g [⟨gf, ⟨A.k, 1, F.length, 0, F⟩, (.slice qf F.length cf)⟩]) wn111 (.slice qz106 G.length cz107) G) := rdN_toX hu108 (fun g mg => by
                          rcases List.mem_cons.1 mg with rfl | mg
                          · exact HG105.out.lt
                          · exact Nat.lt_of_lt_of_le (HLt.out g mg) HB102.out.size)
                        have HN117 := Lib.hid hu108.nilC
                        clear hu108 hb109
                        refine wpAnyH_take (i := 4) (v := ?_) rfl (by kernel_rfl) (by kernel_rfl) (by kernel_rfl) (fun _ _ _ h => h) (Or.inl ⟨by rfl, ?_⟩) (by assumption) ?_
                        rotate_left
                        · ((intro w0 hSw); (try dsimp only at hSw); go_simp; (try with_reducible rfl))
                        change wpAnyH _ _ _ _ _ _ _ (Act.put _ (some 141) _) _
                        try simp only [Act.put, List.setIfInBounds_toArray, List.set_cons_zero, List.set_cons_succ]
                        refine wpAnyH_take (i := 5) (v := ?_) rfl (by kernel_rfl) (by kernel_rfl) (by kernel_rfl) (fun _ _ _ h => h) (Or.inl ⟨by rfl, ?_⟩) (by assumption) ?_
                        rotate_left
                        · ((intro w0 hSw); (try dsimp only at hSw); go_simp; (try with_reducible rfl))
                        change wpAnyH _ _ _ _ _ _ _ (Act.put _ (some 146) _) _
                        try simp only [Act.put, List.setIfInBounds_toArray, List.set_cons_zero, List.set_cons_succ]
                        refine wpAnyH_take (i := 6) (v := ?_) rfl (by kernel_rfl) (by kernel_rfl) (by kernel_rfl) (fun _ _ _ h => h) (Or.inl ⟨by rfl, ?_⟩) (by assumption) ?_
                        rotate_left
                        · ((intro w0 hSw); (try dsimp only at hSw); go_simp; (try with_reducible rfl))
                        change wpAnyH _ _ _ _ _ _ _ (Act.put _ (some 147) _) _
                        try simp only [Act.put, List.setIfInBounds_toArray, List.set_cons_zero, List.set_cons_succ]
                        as_aux_lemma =>
                          refine wpAnyH_ready (rs := [8]) (by kernel_rfl) (by simp) ?_
                          refine AllReadyH.cons rfl (fun K hK => ?_) (AllReadyH.nil)
                          have y0 := HC115.out.c0; have y1 := HC115.out.c1; have y2 := HC115.out.c2; have y3 := HC115.out.c3; have y4 := HC115.out.c4; have f0 := HC115.out.fr 0; have f1 := HC115.out.fr 1; have f2 := HC115.out.fr 2; have f3 := HC115.out.fr 3; have f4 := HC115.out.fr 4; have HS := Lib.hid (HC115.out.set A.k 1 G.length 0 (.slice qz106 G.length cz107)); have z0 := HS.out.c0; have z1 := HS.out.c1; have z2 := HS.out.c2; have z3 := HS.out.c3; have z4 := HS.out.c4
                          go_simp
                          refine hK.out _ _ ?_ (fun hHeld2 => ?_)
                          · exact HAll.out _ (st5_below _ _ _ _ _ hge HB110.out)
                          clear hK K hHeld
                          have hHeld := hHeld2; clear hHeld2
                          try simp only [Act.put, List.setIfInBounds_toArray, List.set_cons_zero, List.set_cons_succ]
                          refine wpAnyH_take (i := 9) (v := ?_) rfl (by kernel_rfl) (by kernel_rfl) (by kernel_rfl) (fun _ _ _ h => h) (Or.inl ⟨by rfl, ?_⟩) (by assumption) ?_
                          rotate_left
                          · ((intro w0 hSw); (try dsimp only at hSw); go_simp; (try with_reducible rfl))
                          change wpAnyH _ _ _ _ _ _ _ (Act.put _ (some 22) _) _
                          try simp only [Act.put, List.setIfInBounds_toArray, List.set_cons_zero, List.set_cons_succ]
                          refine wpAnyH_done (by kernel_rfl) ?_ _
                          go_wp2_with fail
                          go_meet
                          case rel => exact ⟨wn78.heap.size, qz106, cz107, rfl, rfl, HK.out.newAt HB110.out hge HC115.out ⟨A.k, 1, G.length, 0, G⟩ HX116.out HN117.out, fun b mb => Nat.lt_of_lt_of_le (HK.out.lt b mb) hge⟩
                    · go_simp
                      refine hK.out _ _ ?_ (fun hHeld2 => ?_)
                      · exact HAll.out _ (HB0.out.trans ((bel1 wd _).mono HB0.out.size))
                      clear hK K hHeld
                      have hHeld := hHeld2; clear hHeld2
                      try change wpAnyH _ _ _ _ _ _ _ (Act.put _ (some 21) _) _
                      try simp only [Act.put, List.setIfInBounds_toArray, List.set_cons_zero, List.set_cons_succ]
                      generalize hwx119 : World.alloc wd _ = wa118 at hHeld ⊢
                      have HB120 : Hid (Below w4.heap.size w4 wa118) := by rw [← hwx119]; exact HB0.out.trans ((bel1 wd _).mono HB0.out.size)
                      have Hbx121 : Hid (Below wd.heap.size wd wa118) := by rw [← hwx119]; exact bel1 _ _
                      have HG122 : Hid (R5 wa118 wd.heap.size 0 0 0 0 (.slice none 0 0)) := by rw [← hwx119]; exact R5.new _ _ _ _ _ _
                      have hge : w4.heap.size ≤ wd.heap.size := HB0.out.size
                      clear hwx119
                      refine wpAnyH_ready (rs := [2]) (by kernel_rfl) (by simp) ?_
                      refine AllReadyH.cons rfl (fun K hK => ?_) (AllReadyH.nil)
                      go_simp
                      go_at_call 38
                      with_reducible refine (HIb.out _ _ (HRb4.out.next HB120.out) HNb.out).mono ?_
                      rintro e wn128 ⟨uz129, rfl, hu125, hb126⟩
                      obtain ⟨qz123, cz124, hq130, _, _⟩ := hu125.form
                      have hq1302 : uz129 = (.slice qz123 bZ.length cz124) := hq130
                      subst hq1302
                      clear hq130
                      have HB127 := Lib.hid (HB120.out.trans (hb126.mono HB120.out.size))
                      refine hK.out _ _ ?_ (fun hHeld2 => ?_)
                      · exact HAll.out _ HB127.out
                      clear hK K hHeld
                      have hHeld := hHeld2; clear hHeld2
                      try change wpAnyH _ _ _ _ _ _ _ (Act.put _ (some 144) _) _
                      try dsimp only
                      try simp only [Act.put, List.setIfInBounds_toArray, List.set_cons_zero, List.set_cons_succ]
                      have HC131 := Lib.hid (HG122.out.next hb126)
                      have HU132 := Lib.hid hu125.rd
                      have HU132n := Lib.hid hu125.nilC
                      clear hu125 hb126
                      refine wpAnyH_ready (rs := [3]) (by kernel_rfl) (by simp) ?_
                      refine AllReadyH.cons rfl (fun K hK => ?_) (AllReadyH.nil)
                      go_simp
                      go_at_call 27
                      with_reducible refine (HAt2.out _ _ _ (HK.out.next HB127.out).lay (by with_unfolding_all exact ((HK.out.next HB127.out).r _ (.head _))) HU132.out).mono ?_
                      rintro e wn138 ⟨uz139, rfl, hu135, hb136⟩
                      obtain ⟨qz133, cz134, hq140, _, _⟩ := hu135.form
                      have hq1402 : uz139 = (.slice qz133 G.length cz134) := hq140
                      subst hq1402
                      clear hq140
                      have HB137 := Lib.hid (HB127.out.trans (hb136.mono HB127.out.size))
                      refine hK.out _ _ ?_ (fun hHeld2 => ?_)
                      · exact HAll.out _ HB137.out
                      clear hK K hHeld
                      have hHeld := hHeld2; clear hHeld2
                      try change wpAnyH _ _ _ _ _ _ _ (Act.put _ (some 145) _) _
                      try dsimp only
                      try simp only [Act.put, List.setIfInBounds_toArray, List.set_cons_zero, List.set_cons_succ]
                      have HC141 := Lib.hid (HC131.out.next hb136)
                      have HC142 := Lib.hid (HU132.out.next hb136)
                      have HX143 : Hid (RdX (wd.heap.size :: List.map Bk.g [⟨gf, ⟨A.k, 1, F.length, 0, F⟩, (.slice qf F.length cf)⟩]) wn138 (.slice qz133 G.length cz134) G) := rdN_toX hu135 (fun g mg => by
                        rcases List.mem_cons.1 mg with rfl | mg
                        · exact HC131.out.lt
                        · exact Nat.lt_of_lt_of_le (HLt.out g mg) HB127.out.size)
                      have HN144 := Lib.hid hu135.nilC
                      clear hu135 hb136
                      refine wpAnyH_take (i := 4) (v := ?_) rfl (by kernel_rfl) (by kernel_rfl) (by kernel_rfl) (fun _ _ _ h => h) (Or.inl ⟨by rfl, ?_⟩) (by assumption) ?_
                      rotate_left
                      · ((intro w0 hSw); (try dsimp only at hSw); go_simp; (try with_reducible rfl))
                      change wpAnyH _ _ _ _ _ _ _ (Act.put _ (some 141) _) _
                      try simp only [Act.put, List.setIfInBounds_toArray, List.set_cons_zero, List.set_cons_succ]
                      refine wpAnyH_take (i := 5) (v := ?_) rfl (by kernel_rfl) (by kernel_rfl) (by kernel_rfl) (fun _ _ _ h => h) (Or.inl ⟨by rfl, ?_⟩) (by assumption) ?_
                      rotate_left
                      · ((intro w0 hSw); (try dsimp only at hSw); go_simp; (try with_reducible rfl))
                      change wpAnyH _ _ _ _ _ _ _ (Act.put _ (some 146) _) _
                      try simp only [Act.put, List.setIfInBounds_toArray, List.set_cons_zero, List.set_cons_succ]
                      refine wpAnyH_take (i := 6) (v := ?_) rfl (by kernel_rfl) (by kernel_rfl) (by kernel_rfl) (fun _ _ _ h => h) (Or.inl ⟨by rfl, ?_⟩) (by assumption) ?_
                      rotate_left
                      · ((intro w0 hSw); (try dsimp only at hSw); go_simp; (try with_reducible rfl))
                      change wpAnyH _ _ _ _ _ _ _ (Act.put _ (some 147) _) _
                      try simp only [Act.put, List.setIfInBounds_toArray, List.set_cons_zero, List.set_cons_succ]
                      as_aux_lemma =>
                        refine wpAnyH_ready (rs := [8]) (by kernel_rfl) (by simp) ?_
                        refine AllReadyH.cons rfl (fun K hK => ?_) (AllReadyH.nil)
                        have y0 := HC141.out.c0; have y1 := HC141.out.c1; have y2 := HC141.out.c2; have y3 := HC141.out.c3; have y4 := HC141.out.c4; have f0 := HC141.out.fr 0; have f1 := HC141.out.fr 1; have f2 := HC141.out.fr 2; have f3 := HC141.out.fr 3; have f4 := HC141.out.fr 4; have HS := Lib.hid (HC141.out.set A.k 1 G.length 0 (.slice qz133 G.length cz134)); have z0 := HS.out.c0; have z1 := HS.out.c1; have z2 := HS.out.c2; have z3 := HS.out.c3; have z4 := HS.out.c4
                        go_simp
                        refine hK.out _ _ ?_ (fun hHeld2 => ?_)
                        · exact HAll.out _ (st5_below _ _ _ _ _ hge HB137.out)
                        clear hK K hHeld
                        have hHeld := hHeld2; clear hHeld2
                        try simp only [Act.put, List.setIfInBounds_toArray, List.set_cons_zero, List.set_cons_succ]
                        refine wpAnyH_take (i := 9) (v := ?_) rfl (by kernel_rfl) (by kernel_rfl) (by kernel_rfl) (fun _ _ _ h => h) (Or.inl ⟨by rfl, ?_⟩) (by assumption) ?_
                        rotate_left
                        · ((intro w0 hSw); (try dsimp only at hSw); go_simp; (try with_reducible rfl))
                        change wpAnyH _ _ _ _ _ _ _ (Act.put _ (some 22) _) _
                        try simp only [Act.put, List.setIfInBounds_toArray, List.set_cons_zero, List.set_cons_succ]
                        refine wpAnyH_done (by kernel_rfl) ?_ _
                        go_wp2_with fail
                        go_meet
                        case rel => exact ⟨wd.heap.size, qz133, cz134, rfl, rfl, HK.out.newAt HB137.out hge HC141.out ⟨A.k, 1, G.length, 0, G⟩ HX143.out HN144.out, fun b mb => Nat.lt_of_lt_of_le (HK.out.lt b mb) hge⟩
                case rest =>
                  skip
                  obtain ⟨gg, qg, cg, rfl, rfl, hk, _⟩ := hcut
                  clear HK HRa4 HRb4
                  have HK : Hid (KVar w3 [⟨gg, ⟨A.k, 1, G.length, 0, G⟩, (.slice qg G.length cg)⟩, ⟨gf, ⟨A.k, 1, F.length, 0, F⟩, (.slice qf F.length cf)⟩] _) := hk
                  clear hk
                  have x0 := (HX5.out.next HK.out.bel).c0
                  have x1 := (HX5.out.next HK.out.bel).c1
                  have x2 := (HX5.out.next HK.out.bel).c2
                  have x3 := (HX5.out.next HK.out.bel).c3
                  have x4 := (HX5.out.next HK.out.bel).c4
                  have g0 := (HK.out.a _ (.head _)).c0
                  have g1 := (HK.out.a _ (.head _)).c1
                  have g2 := (HK.out.a _ (.head _)).c2
                  have g3 := (HK.out.a _ (.head _)).c3
                  have g4 := (HK.out.a _ (.head _)).c4
                  go_wp2_with (first
                    | (go_at_call 21; (with_reducible refine (HAw.out _ (by with_unfolding_all exact HK.out.lay)).mono ?_); rintro e wz ⟨rfl, hb⟩; have HK2 := Lib.hid (HK.out.next hb); clear HK x0 x1 x2 x3 x4 g0 g1 g2 g3 g4 l0 l1 l2 l3 l4 o0 o1 o2 o3 o4; have HK := HK2; clear HK2; clear hb; have x0 := (HX5.out.next HK.out.bel).c0; have x1 := (HX5.out.next HK.out.bel).c1; have x2 := (HX5.out.next HK.out.bel).c2; have x3 := (HX5.out.next HK.out.bel).c3; have x4 := (HX5.out.next HK.out.bel).c4; have g0 := (HK.out.a _ (.tail _ (.tail _ (.head _)))).c0; have g1 := (HK.out.a _ (.tail _ (.tail _ (.head _)))).c1; have g2 := (HK.out.a _ (.tail _ (.tail _ (.head _)))).c2; have g3 := (HK.out.a _ (.tail _ (.tail _ (.head _)))).c3; have g4 := (HK.out.a _ (.tail _ (.tail _ (.head _)))).c4; have l0 := (HK.out.a _ (.tail _ (.head _))).c0; have l1 := (HK.out.a _ (.tail _ (.head _))).c1; have l2 := (HK.out.a _ (.tail _ (.head _))).c2; have l3 := (HK.out.a _ (.tail _ (.head _))).c3; have l4 := (HK.out.a _ (.tail _ (.head _))).c4; have o0 := (HK.out.a _ (.head _)).c0; have o1 := (HK.out.a _ (.head _)).c1; have o2 := (HK.out.a _ (.head _)).c2; have o3 := (HK.out.a _ (.head _)).c3; have o4 := (HK.out.a _ (.head _)).c4)
                    | (go_at_call 37; (with_reducible refine (HQ2.out _ _ _ (by with_unfolding_all exact (HK.out.r _ (.tail _ (.tail _ (.head _))))) (by with_unfolding_all exact (HK.out.r _ (.head _)))).mono ?_); rintro e wz ⟨rfl, hb⟩; have HK2 := Lib.hid (HK.out.next hb); clear HK x0 x1 x2 x3 x4 g0 g1 g2 g3 g4 l0 l1 l2 l3 l4 o0 o1 o2 o3 o4; have HK := HK2; clear HK2; clear hb; have x0 := (HX5.out.next HK.out.bel).c0; have x1 := (HX5.out.next HK.out.bel).c1; have x2 := (HX5.out.next HK.out.bel).c2; have x3 := (HX5.out.next HK.out.bel).c3; have x4 := (HX5.out.next HK.out.bel).c4; have g0 := (HK.out.a _ (.tail _ (.tail _ (.head _)))).c0; have g1 := (HK.out.a _ (.tail _ (.tail _ (.head _)))).c1; have g2 := (HK.out.a _ (.tail _ (.tail _ (.head _)))).c2; have g3 := (HK.out.a _ (.tail _ (.tail _ (.head _)))).c3; have g4 := (HK.out.a _ (.tail _ (.tail _ (.head _)))).c4; have l0 := (HK.out.a _ (.tail _ (.head _))).c0; have l1 := (HK.out.a _ (.tail _ (.head _))).c1; have l2 := (HK.out.a _ (.tail _ (.head _))).c2; have l3 := (HK.out.a _ (.tail _ (.head _))).c3; have l4 := (HK.out.a _ (.tail _ (.head _))).c4; have o0 := (HK.out.a _ (.head _)).c0; have o1 := (HK.out.a _ (.head _)).c1; have o2 := (HK.out.a _ (.head _)).c2; have o3 := (HK.out.a _ (.head _)).c3; have o4 := (HK.out.a _ (.head _)).c4)
                    | (go_at_call 27; (with_reducible refine (HAt4.out _ _ (by with_unfolding_all exact HK.out.lay) (by with_unfolding_all exact (HXr.out.next HK.out.bel)) (by with_unfolding_all exact (HK.out.r _ (.head _)))).mono ?_); rintro e wo ⟨uwo, rfl, hu, hb⟩; obtain ⟨pwo, cwo, hpwo, _, _⟩ := hu.form; have hqwo : uwo = (.slice pwo G.length cwo) := hpwo; subst hqwo; clear hpwo; have hltlo : wl.heap.size < wo.heap.size := Nat.lt_of_lt_of_le (HK.out.lt _ (.head _)) hb.size; have hltgo : gg < wo.heap.size := Nat.lt_of_lt_of_le (HK.out.lt _ (.tail _ (.head _))) hb.size; have hltfo : gf < wo.heap.size := Nat.lt_of_lt_of_le (HK.out.lt _ (.tail _ (.tail _ (.head _)))) hb.size; have HK2 := Lib.hid (HK.out.res hb ⟨A.k, 1, G.length, 0, G⟩ hu); clear HK x0 x1 x2 x3 x4 g0 g1 g2 g3 g4 l0 l1 l2 l3 l4; have HK := HK2; clear HK2; clear hb hu; have x0 := (HX5.out.next HK.out.bel).c0; have x1 := (HX5.out.next HK.out.bel).c1; have x2 := (HX5.out.next HK.out.bel).c2; have x3 := (HX5.out.next HK.out.bel).c3; have x4 := (HX5.out.next HK.out.bel).c4; have g0 := (HK.out.a _ (.tail _ (.tail _ (.head _)))).c0; have g1 := (HK.out.a _ (.tail _ (.tail _ (.head _)))).c1; have g2 := (HK.out.a _ (.tail _ (.tail _ (.head _)))).c2; have g3 := (HK.out.a _ (.tail _ (.tail _ (.head _)))).c3; have g4 := (HK.out.a _ (.tail _ (.tail _ (.head _)))).c4; have l0 := (HK.out.a _ (.tail _ (.head _))).c0; have l1 := (HK.out.a _ (.tail _ (.head _))).c1; have l2 := (HK.out.a _ (.tail _ (.head _))).c2; have l3 := (HK.out.a _ (.tail _ (.head _))).c3; have l4 := (HK.out.a _ (.tail _ (.head _))).c4; have o0 := (HK.out.a _ (.head _)).c0; have o1 := (HK.out.a _ (.head _)).c1; have o2 := (HK.out.a _ (.head _)).c2; have o3 := (HK.out.a _ (.head _)).c3; have o4 := (HK.out.a _ (.head _)).c4)
                    | (go_at_call 27; (with_reducible refine (HAt3.out _ _ _ (by with_unfolding_all exact HK.out.lay) HT3.out HT2.out).mono ?_); rintro e wl ⟨uwl, rfl, hu, hb⟩; obtain ⟨pwl, cwl, hpwl, _, _⟩ := hu.form; have hqwl : uwl = (.slice pwl Q.length cwl) := hpwl; subst hqwl; clear hpwl; have hltgl : gg < wl.heap.size := Nat.lt_of_lt_of_le (HK.out.lt _ (.head _)) hb.size; have hltfl : gf < wl.heap.size := Nat.lt_of_lt_of_le (HK.out.lt _ (.tail _ (.head _))) hb.size; have HK2 := Lib.hid (HK.out.res hb ⟨1, 1, Q.length, 0, Q⟩ hu); clear HK x0 x1 x2 x3 x4 g0 g1 g2 g3 g4; have HK := HK2; clear HK2; clear hb hu; have x0 := (HX5.out.next HK.out.bel).c0; have x1 := (HX5.out.next HK.out.bel).c1; have x2 := (HX5.out.next HK.out.bel).c2; have x3 := (HX5.out.next HK.out.bel).c3; have x4 := (HX5.out.next HK.out.bel).c4; have g0 := (HK.out.a _ (.tail _ (.head _))).c0; have g1 := (HK.out.a _ (.tail _ (.head _))).c1; have g2 := (HK.out.a _ (.tail _ (.head _))).c2; have g3 := (HK.out.a _ (.tail _ (.head _))).c3; have g4 := (HK.out.a _ (.tail _ (.head _))).c4; have l0 := (HK.out.a _ (.head _)).c0; have l1 := (HK.out.a _ (.head _)).c1; have l2 := (HK.out.a _ (.head _)).c2; have l3 := (HK.out.a _ (.head _)).c3; have l4 := (HK.out.a _ (.head _)).c4)
                    | (go_at_call 38; (with_reducible refine (HIb.out _ _ (HRb.out.next HK.out.bel) HNb.out).mono ?_); rintro e wj ⟨uj, rfl, hu, hb⟩; have HT2 := Lib.hid hu.rd; have HT3 := Lib.hid (HT1.out.next hb); have HK2 := Lib.hid (HK.out.next hb); clear HK hu hb x0 x1 x2 x3 x4 g0 g1 g2 g3 g4; have HK := HK2; clear HK2; have x0 := (HX5.out.next HK.out.bel).c0; have x1 := (HX5.out.next HK.out.bel).c1; have x2 := (HX5.out.next HK.out.bel).c2; have x3 := (HX5.out.next HK.out.bel).c3; have x4 := (HX5.out.next HK.out.bel).c4; have g0 := (HK.out.a _ (.head _)).c0; have g1 := (HK.out.a _ (.head _)).c1; have g2 := (HK.out.a _ (.head _)).c2; have g3 := (HK.out.a _ (.head _)).c3; have g4 := (HK.out.a _ (.head _)).c4)
                    | (go_at_call 38; (with_reducible refine (HIa.out _ _ (HRa.out.next HK.out.bel) HNa.out).mono ?_); rintro e wi ⟨ui, rfl, hu, hb⟩; have HT1 := Lib.hid hu.rd; have HK2 := Lib.hid (HK.out.next hb); clear HK hu hb x0 x1 x2 x3 x4 g0 g1 g2 g3 g4; have HK := HK2; clear HK2; have x0 := (HX5.out.next HK.out.bel).c0; have x1 := (HX5.out.next HK.out.bel).c1; have x2 := (HX5.out.next HK.out.bel).c2; have x3 := (HX5.out.next HK.out.bel).c3; have x4 := (HX5.out.next HK.out.bel).c4; have g0 := (HK.out.a _ (.head _)).c0; have g1 := (HK.out.a _ (.head _)).c1; have g2 := (HK.out.a _ (.head _)).c2; have g3 := (HK.out.a _ (.head _)).c3; have g4 := (HK.out.a _ (.head _)).c4)
                    | fail)
                  go_ret
                  exact ⟨rfl, HBw.out.trans (HK.out.bel.mono HBw.out.size)⟩
            | succ g2 =>
              have hjz : (j : Int) < (q.length : Int) := by omega
              have hj : j < q.length := by omega
              have hwi : IntKind.i64.wrap ((j : Int) + 1) = (j : Int) + 1 := by rw [IntKind.wrap_i64]; have := HL.out; omega
              obtain ⟨bP, oP, hpP, hxc⟩ := HT.out.at (HKr.out.bel) hj
              subst hpP
              have hbd := HQb.out _ (List.getElem_mem hj)
              have HS1 := Lib.hid (HSb.out j hj)
              generalize q[j] = x at hxc hbd HS1
              obtain ⟨hx0, hx1⟩ := hbd
              obtain ⟨m, hm⟩ : ∃ m : Int, x % (p.length : Int) = m := ⟨_, rfl⟩
              rw [hm] at HS1
              have hm0 : 0 ≤ m := by rw [← hm]; exact Int.emod_nonneg _ (by omega)
              have hm1 : m < (p.length : Int) := by rw [← hm]; exact Int.emod_lt_of_pos _ (by omega)
              have htm : Int.tmod x (p.length : Int) = m := by rw [Int.tmod_eq_emod_of_nonneg hx0, hm]
              have hn9 : (p.length : Int) ≤ 400 := by have := HL.out; omega
              have hwm : IntKind.i64.wrap m = m := by rw [IntKind.wrap_i64]; omega
              have hwx : IntKind.i64.wrap x = x := by rw [IntKind.wrap_i64]; omega
              have hlen : (bZ.take j).length + 1 ≤ 1000000 := by rw [List.length_take]; have := HL.out; omega
              have hsz := HB.out.size
              go_wp2_with (at_builtin; refine wpList_app1 (by simp [Region.wanted]) _ _ rfl w2.heap.size _ _ rfl HN.out m rfl hlen hsz ?_; intro u2 w2 hu2 hb2; have HB2 := Lib.hid (HB.out.trans hb2); have HN2 := Lib.hid hu2; clear hu2 hb2)
              rw [HS1.out] at HN2
              go_roundg g2
              case measure => omega
              case rel => exact ⟨j + 1, _, by omega, rfl, by go_num, HB2.out, HN2.out⟩
        | succ g2 =>
          have hjz : (j : Int) < (p.length : Int) := by omega
          have hj : j < p.length := by omega
          have hwi : IntKind.i64.wrap ((j : Int) + 1) = (j : Int) + 1 := by rw [IntKind.wrap_i64]; have := HL.out; omega
          obtain ⟨bP, oP, hpP, hxc⟩ := HU.out.at (HKr.out.bel) hj
          subst hpP
          have hbd := HPb.out _ (List.getElem_mem hj)
          have HS1 := Lib.hid (HSa.out j hj)
          generalize p[j] = x at hxc hbd HS1
          obtain ⟨hx0, hx1⟩ := hbd
          obtain ⟨m, hm⟩ : ∃ m : Int, x % (A.z.length : Int) = m := ⟨_, rfl⟩
          rw [hm] at HS1
          have hm0 : 0 ≤ m := by rw [← hm]; exact Int.emod_nonneg _ (by omega)
          have hm1 : m < (A.z.length : Int) := by rw [← hm]; exact Int.emod_lt_of_pos _ (by omega)
          have htm : Int.tmod x (A.z.length : Int) = m := by rw [Int.tmod_eq_emod_of_nonneg hx0, hm]
          have hn9 : (A.z.length : Int) ≤ 400 := by have := HL.out; omega
          have hwm : IntKind.i64.wrap m = m := by rw [IntKind.wrap_i64]; omega
          have hwx : IntKind.i64.wrap x = x := by rw [IntKind.wrap_i64]; omega
          have hlen : (aZ.take j).length + 1 ≤ 1000000 := by rw [List.length_take]; have := HL.out; omega
          have hsz := HB.out.size
          go_wp2_with (at_builtin; refine wpList_app1 (by simp [Region.wanted]) _ _ rfl w1.heap.size _ _ rfl HN.out m rfl hlen hsz ?_; intro u2 w2 hu2 hb2; have HB2 := Lib.hid (HB.out.trans hb2); have HN2 := Lib.hid hu2; clear hu2 hb2)
          rw [HS1.out] at HN2
          go_roundg g2
          case measure => omega
          case rel => exact ⟨j + 1, _, by omega, rfl, by go_num, HB2.out, HN2.out⟩
    | succ g2 =>
      have hjz : (j : Int) < (A.z.length : Int) := by omega
      have hj : j < J.length := by rw [HJl.out]; omega
      have hzj : (j : Int) < (J.length : Int) := by omega
      have hwi : IntKind.i64.wrap ((j : Int) + 1) = (j : Int) + 1 := by rw [IntKind.wrap_i64]; have := HL.out; omega
      obtain ⟨bJ, oJ, hpJ, _, hcJ⟩ := (HKr.out.r _ (.head _)).cells (by intro e; have e2 : J = [] := e; rw [e2] at hj; simp at hj)
      subst hpJ
      have hxc : wr.cell? ⟨bJ, oJ + j, none⟩ = some (.int .i64 J[j]) := hcJ j hj
      rw [HJ1.out j hj] at hxc
      have j4 := (HKr.out.a _ (.head _)).c4
      clear hcJ
      go_wp2_with fail
      go_roundg g2
      case measure => omega
      case rel => exact ⟨j + 1, by omega, by go_num, HB1.out⟩
end Go.Proofs.YthfpmpmhoegicaaDoor
