/- The law Members. -/
import Derived.Test.YthfpmpmhoegicaaDoorFiV
import Derived.Test.YthfpmpmhoegicaaDoorFiF
import Derived.Test.YthfpmpmhoegicaaDoorMvY
import Derived.Test.YthfpmpmhoegicaaDoorFiQ
import Derived.Deep.DeepCutAuto
import Derived.BigQuiet
namespace Go.Proofs.YthfpmpmhoegicaaDoor
open Go.RowKit

theorem KVar.three8 {w : World} {A B C : Ar} {v u t : Value} (hw : Ru.Lay w) (hv : RdI w.heap.size w v A.z) (hu : RdI w.heap.size w u B.z) (ht : RdI w.heap.size w t C.z) (hn : Ru.NilC v) (hn' : Ru.NilC u) (hn2 : Ru.NilC t) :
    KVar w [⟨w.heap.size + 2, C, t⟩, ⟨w.heap.size + 1, B, u⟩, ⟨w.heap.size, A, v⟩] (((w.alloc (.cells #[.int .i64 A.k, .int .i64 A.r, .int .i64 A.a, .int .i64 A.b, v] 25)).alloc (.cells #[.int .i64 B.k, .int .i64 B.r, .int .i64 B.a, .int .i64 B.b, u] 25)).alloc (.cells #[.int .i64 C.k, .int .i64 C.r, .int .i64 C.a, .int .i64 C.b, t] 25)) := by
  have h := (KVar.two8 hw hv hu hn hn').arg C ht hn2
  have e : ((w.alloc (.cells #[.int .i64 A.k, .int .i64 A.r, .int .i64 A.a, .int .i64 A.b, v] 25)).alloc (.cells #[.int .i64 B.k, .int .i64 B.r, .int .i64 B.a, .int .i64 B.b, u] 25)).heap.size = w.heap.size + 2 := by simp
  rw [e] at h
  exact h
set_option maxRecDepth 100000 in
set_option maxHeartbeats 64000000 in
theorem lawMembers8_any (A B C : Ar) (v u t : Value) (w : World) (hw : Ru.Lay w) (hv : RdI w.heap.size w v A.z) (hu : RdI w.heap.size w u B.z) (ht : RdI w.heap.size w t C.z) (hn : Ru.NilC v) (hn' : Ru.NilC u) (hn2 : Ru.NilC t) (ia : in64 A.z) (ib : in64 B.z) (ic : in64 C.z) (haw : ∀ W, Ru.Lay W → Calls Tryd.prog 21 #[] W fun e w' => e = .returned (.bool true) ∧ Below W.heap.size W w') :
    Calls Tryd.prog 9 #[A5 A.k A.r A.a A.b v, A5 B.k B.r B.a B.b u, A5 C.k C.r C.a C.b t] w fun e w' => e = .returned (.bool true) ∧ Below w.heap.size w w' := by
  have HV1 := Lib.hid (fun W h => vec8_any A v W h)
  have HV2 := Lib.hid (fun W h => vec8_any B u W h)
  have HV3 := Lib.hid (fun W h => vec8_any C t W h)
  have HAw := Lib.hid haw
  clear haw
  have HK := Lib.hid (KVar.three8 hw hv hu ht hn hn' hn2)
  obtain ⟨qa, ca, rfl, hv1, hv2, hv3⟩ := hv
  obtain ⟨qb, cb, rfl, hu1, hu2, hu3⟩ := hu
  obtain ⟨qc, cc, rfl, ht1, ht2, ht3⟩ := ht
  clear hw hn hn' hn2 hv1 hv2 hv3 hu1 hu2 hu3 ht1 ht2 ht3
  have a0 := (HK.out.a _ (.tail _ (.tail _ (.head _)))).c0
  have a1 := (HK.out.a _ (.tail _ (.tail _ (.head _)))).c1
  have a2 := (HK.out.a _ (.tail _ (.tail _ (.head _)))).c2
  have a3 := (HK.out.a _ (.tail _ (.tail _ (.head _)))).c3
  have a4 := (HK.out.a _ (.tail _ (.tail _ (.head _)))).c4
  have b0 := (HK.out.a _ (.tail _ (.head _))).c0
  have b1 := (HK.out.a _ (.tail _ (.head _))).c1
  have b2 := (HK.out.a _ (.tail _ (.head _))).c2
  have b3 := (HK.out.a _ (.tail _ (.head _))).c3
  have b4 := (HK.out.a _ (.tail _ (.head _))).c4
  have c0 := (HK.out.a _ (.head _)).c0
  have c1 := (HK.out.a _ (.head _)).c1
  have c2 := (HK.out.a _ (.head _)).c2
  have c3 := (HK.out.a _ (.head _)).c3
  have c4 := (HK.out.a _ (.head _)).c4
  by_cases hf : vcB A = true
  rotate_left
  · have hf' : vcB A = false := by simpa using hf
    rw [hf'] at HV1
    clear hf hf' ia ib ic
    as_aux_lemma =>
      go_enter Tryd.func9, Tryd.ntmps9
      go_wp2_with (first
        | (go_at_call 35; (with_reducible refine (HV1.out _ (by with_unfolding_all exact (HK.out.r _ (.tail _ (.tail _ (.head _)))))).mono ?_); rintro e wz ⟨rfl, hb⟩; have HK2 := Lib.hid (HK.out.next hb); clear HK a0 a1 a2 a3 a4 b0 b1 b2 b3 b4 c0 c1 c2 c3 c4; have HK := HK2; clear HK2; clear hb; have a0 := (HK.out.a _ (.tail _ (.tail _ (.head _)))).c0; have a1 := (HK.out.a _ (.tail _ (.tail _ (.head _)))).c1; have a2 := (HK.out.a _ (.tail _ (.tail _ (.head _)))).c2; have a3 := (HK.out.a _ (.tail _ (.tail _ (.head _)))).c3; have a4 := (HK.out.a _ (.tail _ (.tail _ (.head _)))).c4; have b0 := (HK.out.a _ (.tail _ (.head _))).c0; have b1 := (HK.out.a _ (.tail _ (.head _))).c1; have b2 := (HK.out.a _ (.tail _ (.head _))).c2; have b3 := (HK.out.a _ (.tail _ (.head _))).c3; have b4 := (HK.out.a _ (.tail _ (.head _))).c4; have c0 := (HK.out.a _ (.head _)).c0; have c1 := (HK.out.a _ (.head _)).c1; have c2 := (HK.out.a _ (.head _)).c2; have c3 := (HK.out.a _ (.head _)).c3; have c4 := (HK.out.a _ (.head _)).c4)
        | (go_at_call 35; (with_reducible refine (HV2.out _ (by with_unfolding_all exact (HK.out.r _ (.tail _ (.head _))))).mono ?_); rintro e wz ⟨rfl, hb⟩; have HK2 := Lib.hid (HK.out.next hb); clear HK a0 a1 a2 a3 a4 b0 b1 b2 b3 b4 c0 c1 c2 c3 c4; have HK := HK2; clear HK2; clear hb; have a0 := (HK.out.a _ (.tail _ (.tail _ (.head _)))).c0; have a1 := (HK.out.a _ (.tail _ (.tail _ (.head _)))).c1; have a2 := (HK.out.a _ (.tail _ (.tail _ (.head _)))).c2; have a3 := (HK.out.a _ (.tail _ (.tail _ (.head _)))).c3; have a4 := (HK.out.a _ (.tail _ (.tail _ (.head _)))).c4; have b0 := (HK.out.a _ (.tail _ (.head _))).c0; have b1 := (HK.out.a _ (.tail _ (.head _))).c1; have b2 := (HK.out.a _ (.tail _ (.head _))).c2; have b3 := (HK.out.a _ (.tail _ (.head _))).c3; have b4 := (HK.out.a _ (.tail _ (.head _))).c4; have c0 := (HK.out.a _ (.head _)).c0; have c1 := (HK.out.a _ (.head _)).c1; have c2 := (HK.out.a _ (.head _)).c2; have c3 := (HK.out.a _ (.head _)).c3; have c4 := (HK.out.a _ (.head _)).c4)
        | (go_at_call 35; (with_reducible refine (HV3.out _ (by with_unfolding_all exact (HK.out.r _ (.head _)))).mono ?_); rintro e wz ⟨rfl, hb⟩; have HK2 := Lib.hid (HK.out.next hb); clear HK a0 a1 a2 a3 a4 b0 b1 b2 b3 b4 c0 c1 c2 c3 c4; have HK := HK2; clear HK2; clear hb; have a0 := (HK.out.a _ (.tail _ (.tail _ (.head _)))).c0; have a1 := (HK.out.a _ (.tail _ (.tail _ (.head _)))).c1; have a2 := (HK.out.a _ (.tail _ (.tail _ (.head _)))).c2; have a3 := (HK.out.a _ (.tail _ (.tail _ (.head _)))).c3; have a4 := (HK.out.a _ (.tail _ (.tail _ (.head _)))).c4; have b0 := (HK.out.a _ (.tail _ (.head _))).c0; have b1 := (HK.out.a _ (.tail _ (.head _))).c1; have b2 := (HK.out.a _ (.tail _ (.head _))).c2; have b3 := (HK.out.a _ (.tail _ (.head _))).c3; have b4 := (HK.out.a _ (.tail _ (.head _))).c4; have c0 := (HK.out.a _ (.head _)).c0; have c1 := (HK.out.a _ (.head _)).c1; have c2 := (HK.out.a _ (.head _)).c2; have c3 := (HK.out.a _ (.head _)).c3; have c4 := (HK.out.a _ (.head _)).c4)
        | (go_at_call 21; (with_reducible refine (HAw.out _ (by with_unfolding_all exact HK.out.lay)).mono ?_); rintro e wz ⟨rfl, hb⟩; have HK2 := Lib.hid (HK.out.next hb); clear HK a0 a1 a2 a3 a4 b0 b1 b2 b3 b4 c0 c1 c2 c3 c4; have HK := HK2; clear HK2; clear hb; have a0 := (HK.out.a _ (.tail _ (.tail _ (.head _)))).c0; have a1 := (HK.out.a _ (.tail _ (.tail _ (.head _)))).c1; have a2 := (HK.out.a _ (.tail _ (.tail _ (.head _)))).c2; have a3 := (HK.out.a _ (.tail _ (.tail _ (.head _)))).c3; have a4 := (HK.out.a _ (.tail _ (.tail _ (.head _)))).c4; have b0 := (HK.out.a _ (.tail _ (.head _))).c0; have b1 := (HK.out.a _ (.tail _ (.head _))).c1; have b2 := (HK.out.a _ (.tail _ (.head _))).c2; have b3 := (HK.out.a _ (.tail _ (.head _))).c3; have b4 := (HK.out.a _ (.tail _ (.head _))).c4; have c0 := (HK.out.a _ (.head _)).c0; have c1 := (HK.out.a _ (.head _)).c1; have c2 := (HK.out.a _ (.head _)).c2; have c3 := (HK.out.a _ (.head _)).c3; have c4 := (HK.out.a _ (.head _)).c4)
        | fail)
      go_ret
      exact ⟨rfl, HK.out.bel⟩
  rw [hf] at HV1
  obtain ⟨lA, cA, rA⟩ := vcB_yes hf
  clear hf
  by_cases hf : vcB B = true
  rotate_left
  · have hf' : vcB B = false := by simpa using hf
    rw [hf'] at HV2
    clear hf hf' ia ib ic lA cA rA
    as_aux_lemma =>
      go_enter Tryd.func9, Tryd.ntmps9
      go_wp2_with (first
        | (go_at_call 35; (with_reducible refine (HV1.out _ (by with_unfolding_all exact (HK.out.r _ (.tail _ (.tail _ (.head _)))))).mono ?_); rintro e wz ⟨rfl, hb⟩; have HK2 := Lib.hid (HK.out.next hb); clear HK a0 a1 a2 a3 a4 b0 b1 b2 b3 b4 c0 c1 c2 c3 c4; have HK := HK2; clear HK2; clear hb; have a0 := (HK.out.a _ (.tail _ (.tail _ (.head _)))).c0; have a1 := (HK.out.a _ (.tail _ (.tail _ (.head _)))).c1; have a2 := (HK.out.a _ (.tail _ (.tail _ (.head _)))).c2; have a3 := (HK.out.a _ (.tail _ (.tail _ (.head _)))).c3; have a4 := (HK.out.a _ (.tail _ (.tail _ (.head _)))).c4; have b0 := (HK.out.a _ (.tail _ (.head _))).c0; have b1 := (HK.out.a _ (.tail _ (.head _))).c1; have b2 := (HK.out.a _ (.tail _ (.head _))).c2; have b3 := (HK.out.a _ (.tail _ (.head _))).c3; have b4 := (HK.out.a _ (.tail _ (.head _))).c4; have c0 := (HK.out.a _ (.head _)).c0; have c1 := (HK.out.a _ (.head _)).c1; have c2 := (HK.out.a _ (.head _)).c2; have c3 := (HK.out.a _ (.head _)).c3; have c4 := (HK.out.a _ (.head _)).c4)
        | (go_at_call 35; (with_reducible refine (HV2.out _ (by with_unfolding_all exact (HK.out.r _ (.tail _ (.head _))))).mono ?_); rintro e wz ⟨rfl, hb⟩; have HK2 := Lib.hid (HK.out.next hb); clear HK a0 a1 a2 a3 a4 b0 b1 b2 b3 b4 c0 c1 c2 c3 c4; have HK := HK2; clear HK2; clear hb; have a0 := (HK.out.a _ (.tail _ (.tail _ (.head _)))).c0; have a1 := (HK.out.a _ (.tail _ (.tail _ (.head _)))).c1; have a2 := (HK.out.a _ (.tail _ (.tail _ (.head _)))).c2; have a3 := (HK.out.a _ (.tail _ (.tail _ (.head _)))).c3; have a4 := (HK.out.a _ (.tail _ (.tail _ (.head _)))).c4; have b0 := (HK.out.a _ (.tail _ (.head _))).c0; have b1 := (HK.out.a _ (.tail _ (.head _))).c1; have b2 := (HK.out.a _ (.tail _ (.head _))).c2; have b3 := (HK.out.a _ (.tail _ (.head _))).c3; have b4 := (HK.out.a _ (.tail _ (.head _))).c4; have c0 := (HK.out.a _ (.head _)).c0; have c1 := (HK.out.a _ (.head _)).c1; have c2 := (HK.out.a _ (.head _)).c2; have c3 := (HK.out.a _ (.head _)).c3; have c4 := (HK.out.a _ (.head _)).c4)
        | (go_at_call 35; (with_reducible refine (HV3.out _ (by with_unfolding_all exact (HK.out.r _ (.head _)))).mono ?_); rintro e wz ⟨rfl, hb⟩; have HK2 := Lib.hid (HK.out.next hb); clear HK a0 a1 a2 a3 a4 b0 b1 b2 b3 b4 c0 c1 c2 c3 c4; have HK := HK2; clear HK2; clear hb; have a0 := (HK.out.a _ (.tail _ (.tail _ (.head _)))).c0; have a1 := (HK.out.a _ (.tail _ (.tail _ (.head _)))).c1; have a2 := (HK.out.a _ (.tail _ (.tail _ (.head _)))).c2; have a3 := (HK.out.a _ (.tail _ (.tail _ (.head _)))).c3; have a4 := (HK.out.a _ (.tail _ (.tail _ (.head _)))).c4; have b0 := (HK.out.a _ (.tail _ (.head _))).c0; have b1 := (HK.out.a _ (.tail _ (.head _))).c1; have b2 := (HK.out.a _ (.tail _ (.head _))).c2; have b3 := (HK.out.a _ (.tail _ (.head _))).c3; have b4 := (HK.out.a _ (.tail _ (.head _))).c4; have c0 := (HK.out.a _ (.head _)).c0; have c1 := (HK.out.a _ (.head _)).c1; have c2 := (HK.out.a _ (.head _)).c2; have c3 := (HK.out.a _ (.head _)).c3; have c4 := (HK.out.a _ (.head _)).c4)
        | (go_at_call 21; (with_reducible refine (HAw.out _ (by with_unfolding_all exact HK.out.lay)).mono ?_); rintro e wz ⟨rfl, hb⟩; have HK2 := Lib.hid (HK.out.next hb); clear HK a0 a1 a2 a3 a4 b0 b1 b2 b3 b4 c0 c1 c2 c3 c4; have HK := HK2; clear HK2; clear hb; have a0 := (HK.out.a _ (.tail _ (.tail _ (.head _)))).c0; have a1 := (HK.out.a _ (.tail _ (.tail _ (.head _)))).c1; have a2 := (HK.out.a _ (.tail _ (.tail _ (.head _)))).c2; have a3 := (HK.out.a _ (.tail _ (.tail _ (.head _)))).c3; have a4 := (HK.out.a _ (.tail _ (.tail _ (.head _)))).c4; have b0 := (HK.out.a _ (.tail _ (.head _))).c0; have b1 := (HK.out.a _ (.tail _ (.head _))).c1; have b2 := (HK.out.a _ (.tail _ (.head _))).c2; have b3 := (HK.out.a _ (.tail _ (.head _))).c3; have b4 := (HK.out.a _ (.tail _ (.head _))).c4; have c0 := (HK.out.a _ (.head _)).c0; have c1 := (HK.out.a _ (.head _)).c1; have c2 := (HK.out.a _ (.head _)).c2; have c3 := (HK.out.a _ (.head _)).c3; have c4 := (HK.out.a _ (.head _)).c4)
        | fail)
      go_ret
      exact ⟨rfl, HK.out.bel⟩
  rw [hf] at HV2
  obtain ⟨lB, cB, rB⟩ := vcB_yes hf
  clear hf
  by_cases hf : vcB C = true
  rotate_left
  · have hf' : vcB C = false := by simpa using hf
    rw [hf'] at HV3
    clear hf hf' ia ib ic lA cA rA lB cB rB
    as_aux_lemma =>
      go_enter Tryd.func9, Tryd.ntmps9
      go_wp2_with (first
        | (go_at_call 35; (with_reducible refine (HV1.out _ (by with_unfolding_all exact (HK.out.r _ (.tail _ (.tail _ (.head _)))))).mono ?_); rintro e wz ⟨rfl, hb⟩; have HK2 := Lib.hid (HK.out.next hb); clear HK a0 a1 a2 a3 a4 b0 b1 b2 b3 b4 c0 c1 c2 c3 c4; have HK := HK2; clear HK2; clear hb; have a0 := (HK.out.a _ (.tail _ (.tail _ (.head _)))).c0; have a1 := (HK.out.a _ (.tail _ (.tail _ (.head _)))).c1; have a2 := (HK.out.a _ (.tail _ (.tail _ (.head _)))).c2; have a3 := (HK.out.a _ (.tail _ (.tail _ (.head _)))).c3; have a4 := (HK.out.a _ (.tail _ (.tail _ (.head _)))).c4; have b0 := (HK.out.a _ (.tail _ (.head _))).c0; have b1 := (HK.out.a _ (.tail _ (.head _))).c1; have b2 := (HK.out.a _ (.tail _ (.head _))).c2; have b3 := (HK.out.a _ (.tail _ (.head _))).c3; have b4 := (HK.out.a _ (.tail _ (.head _))).c4; have c0 := (HK.out.a _ (.head _)).c0; have c1 := (HK.out.a _ (.head _)).c1; have c2 := (HK.out.a _ (.head _)).c2; have c3 := (HK.out.a _ (.head _)).c3; have c4 := (HK.out.a _ (.head _)).c4)
        | (go_at_call 35; (with_reducible refine (HV2.out _ (by with_unfolding_all exact (HK.out.r _ (.tail _ (.head _))))).mono ?_); rintro e wz ⟨rfl, hb⟩; have HK2 := Lib.hid (HK.out.next hb); clear HK a0 a1 a2 a3 a4 b0 b1 b2 b3 b4 c0 c1 c2 c3 c4; have HK := HK2; clear HK2; clear hb; have a0 := (HK.out.a _ (.tail _ (.tail _ (.head _)))).c0; have a1 := (HK.out.a _ (.tail _ (.tail _ (.head _)))).c1; have a2 := (HK.out.a _ (.tail _ (.tail _ (.head _)))).c2; have a3 := (HK.out.a _ (.tail _ (.tail _ (.head _)))).c3; have a4 := (HK.out.a _ (.tail _ (.tail _ (.head _)))).c4; have b0 := (HK.out.a _ (.tail _ (.head _))).c0; have b1 := (HK.out.a _ (.tail _ (.head _))).c1; have b2 := (HK.out.a _ (.tail _ (.head _))).c2; have b3 := (HK.out.a _ (.tail _ (.head _))).c3; have b4 := (HK.out.a _ (.tail _ (.head _))).c4; have c0 := (HK.out.a _ (.head _)).c0; have c1 := (HK.out.a _ (.head _)).c1; have c2 := (HK.out.a _ (.head _)).c2; have c3 := (HK.out.a _ (.head _)).c3; have c4 := (HK.out.a _ (.head _)).c4)
        | (go_at_call 35; (with_reducible refine (HV3.out _ (by with_unfolding_all exact (HK.out.r _ (.head _)))).mono ?_); rintro e wz ⟨rfl, hb⟩; have HK2 := Lib.hid (HK.out.next hb); clear HK a0 a1 a2 a3 a4 b0 b1 b2 b3 b4 c0 c1 c2 c3 c4; have HK := HK2; clear HK2; clear hb; have a0 := (HK.out.a _ (.tail _ (.tail _ (.head _)))).c0; have a1 := (HK.out.a _ (.tail _ (.tail _ (.head _)))).c1; have a2 := (HK.out.a _ (.tail _ (.tail _ (.head _)))).c2; have a3 := (HK.out.a _ (.tail _ (.tail _ (.head _)))).c3; have a4 := (HK.out.a _ (.tail _ (.tail _ (.head _)))).c4; have b0 := (HK.out.a _ (.tail _ (.head _))).c0; have b1 := (HK.out.a _ (.tail _ (.head _))).c1; have b2 := (HK.out.a _ (.tail _ (.head _))).c2; have b3 := (HK.out.a _ (.tail _ (.head _))).c3; have b4 := (HK.out.a _ (.tail _ (.head _))).c4; have c0 := (HK.out.a _ (.head _)).c0; have c1 := (HK.out.a _ (.head _)).c1; have c2 := (HK.out.a _ (.head _)).c2; have c3 := (HK.out.a _ (.head _)).c3; have c4 := (HK.out.a _ (.head _)).c4)
        | (go_at_call 21; (with_reducible refine (HAw.out _ (by with_unfolding_all exact HK.out.lay)).mono ?_); rintro e wz ⟨rfl, hb⟩; have HK2 := Lib.hid (HK.out.next hb); clear HK a0 a1 a2 a3 a4 b0 b1 b2 b3 b4 c0 c1 c2 c3 c4; have HK := HK2; clear HK2; clear hb; have a0 := (HK.out.a _ (.tail _ (.tail _ (.head _)))).c0; have a1 := (HK.out.a _ (.tail _ (.tail _ (.head _)))).c1; have a2 := (HK.out.a _ (.tail _ (.tail _ (.head _)))).c2; have a3 := (HK.out.a _ (.tail _ (.tail _ (.head _)))).c3; have a4 := (HK.out.a _ (.tail _ (.tail _ (.head _)))).c4; have b0 := (HK.out.a _ (.tail _ (.head _))).c0; have b1 := (HK.out.a _ (.tail _ (.head _))).c1; have b2 := (HK.out.a _ (.tail _ (.head _))).c2; have b3 := (HK.out.a _ (.tail _ (.head _))).c3; have b4 := (HK.out.a _ (.tail _ (.head _))).c4; have c0 := (HK.out.a _ (.head _)).c0; have c1 := (HK.out.a _ (.head _)).c1; have c2 := (HK.out.a _ (.head _)).c2; have c3 := (HK.out.a _ (.head _)).c3; have c4 := (HK.out.a _ (.head _)).c4)
        | fail)
      go_ret
      exact ⟨rfl, HK.out.bel⟩
  rw [hf] at HV3
  obtain ⟨lC, cC, rC⟩ := vcB_yes hf
  clear hf
  by_cases hk1 : A.k = B.k
  rotate_left
  · have k1 : (A.k != B.k) = true := by simpa using hk1
    clear hk1 ia ib ic lA cA rA lB cB rB lC cC rC
    as_aux_lemma =>
      go_enter Tryd.func9, Tryd.ntmps9
      go_wp2_with (first
        | (go_at_call 35; (with_reducible refine (HV1.out _ (by with_unfolding_all exact (HK.out.r _ (.tail _ (.tail _ (.head _)))))).mono ?_); rintro e wz ⟨rfl, hb⟩; have HK2 := Lib.hid (HK.out.next hb); clear HK a0 a1 a2 a3 a4 b0 b1 b2 b3 b4 c0 c1 c2 c3 c4; have HK := HK2; clear HK2; clear hb; have a0 := (HK.out.a _ (.tail _ (.tail _ (.head _)))).c0; have a1 := (HK.out.a _ (.tail _ (.tail _ (.head _)))).c1; have a2 := (HK.out.a _ (.tail _ (.tail _ (.head _)))).c2; have a3 := (HK.out.a _ (.tail _ (.tail _ (.head _)))).c3; have a4 := (HK.out.a _ (.tail _ (.tail _ (.head _)))).c4; have b0 := (HK.out.a _ (.tail _ (.head _))).c0; have b1 := (HK.out.a _ (.tail _ (.head _))).c1; have b2 := (HK.out.a _ (.tail _ (.head _))).c2; have b3 := (HK.out.a _ (.tail _ (.head _))).c3; have b4 := (HK.out.a _ (.tail _ (.head _))).c4; have c0 := (HK.out.a _ (.head _)).c0; have c1 := (HK.out.a _ (.head _)).c1; have c2 := (HK.out.a _ (.head _)).c2; have c3 := (HK.out.a _ (.head _)).c3; have c4 := (HK.out.a _ (.head _)).c4)
        | (go_at_call 35; (with_reducible refine (HV2.out _ (by with_unfolding_all exact (HK.out.r _ (.tail _ (.head _))))).mono ?_); rintro e wz ⟨rfl, hb⟩; have HK2 := Lib.hid (HK.out.next hb); clear HK a0 a1 a2 a3 a4 b0 b1 b2 b3 b4 c0 c1 c2 c3 c4; have HK := HK2; clear HK2; clear hb; have a0 := (HK.out.a _ (.tail _ (.tail _ (.head _)))).c0; have a1 := (HK.out.a _ (.tail _ (.tail _ (.head _)))).c1; have a2 := (HK.out.a _ (.tail _ (.tail _ (.head _)))).c2; have a3 := (HK.out.a _ (.tail _ (.tail _ (.head _)))).c3; have a4 := (HK.out.a _ (.tail _ (.tail _ (.head _)))).c4; have b0 := (HK.out.a _ (.tail _ (.head _))).c0; have b1 := (HK.out.a _ (.tail _ (.head _))).c1; have b2 := (HK.out.a _ (.tail _ (.head _))).c2; have b3 := (HK.out.a _ (.tail _ (.head _))).c3; have b4 := (HK.out.a _ (.tail _ (.head _))).c4; have c0 := (HK.out.a _ (.head _)).c0; have c1 := (HK.out.a _ (.head _)).c1; have c2 := (HK.out.a _ (.head _)).c2; have c3 := (HK.out.a _ (.head _)).c3; have c4 := (HK.out.a _ (.head _)).c4)
        | (go_at_call 35; (with_reducible refine (HV3.out _ (by with_unfolding_all exact (HK.out.r _ (.head _)))).mono ?_); rintro e wz ⟨rfl, hb⟩; have HK2 := Lib.hid (HK.out.next hb); clear HK a0 a1 a2 a3 a4 b0 b1 b2 b3 b4 c0 c1 c2 c3 c4; have HK := HK2; clear HK2; clear hb; have a0 := (HK.out.a _ (.tail _ (.tail _ (.head _)))).c0; have a1 := (HK.out.a _ (.tail _ (.tail _ (.head _)))).c1; have a2 := (HK.out.a _ (.tail _ (.tail _ (.head _)))).c2; have a3 := (HK.out.a _ (.tail _ (.tail _ (.head _)))).c3; have a4 := (HK.out.a _ (.tail _ (.tail _ (.head _)))).c4; have b0 := (HK.out.a _ (.tail _ (.head _))).c0; have b1 := (HK.out.a _ (.tail _ (.head _))).c1; have b2 := (HK.out.a _ (.tail _ (.head _))).c2; have b3 := (HK.out.a _ (.tail _ (.head _))).c3; have b4 := (HK.out.a _ (.tail _ (.head _))).c4; have c0 := (HK.out.a _ (.head _)).c0; have c1 := (HK.out.a _ (.head _)).c1; have c2 := (HK.out.a _ (.head _)).c2; have c3 := (HK.out.a _ (.head _)).c3; have c4 := (HK.out.a _ (.head _)).c4)
        | (go_at_call 21; (with_reducible refine (HAw.out _ (by with_unfolding_all exact HK.out.lay)).mono ?_); rintro e wz ⟨rfl, hb⟩; have HK2 := Lib.hid (HK.out.next hb); clear HK a0 a1 a2 a3 a4 b0 b1 b2 b3 b4 c0 c1 c2 c3 c4; have HK := HK2; clear HK2; clear hb; have a0 := (HK.out.a _ (.tail _ (.tail _ (.head _)))).c0; have a1 := (HK.out.a _ (.tail _ (.tail _ (.head _)))).c1; have a2 := (HK.out.a _ (.tail _ (.tail _ (.head _)))).c2; have a3 := (HK.out.a _ (.tail _ (.tail _ (.head _)))).c3; have a4 := (HK.out.a _ (.tail _ (.tail _ (.head _)))).c4; have b0 := (HK.out.a _ (.tail _ (.head _))).c0; have b1 := (HK.out.a _ (.tail _ (.head _))).c1; have b2 := (HK.out.a _ (.tail _ (.head _))).c2; have b3 := (HK.out.a _ (.tail _ (.head _))).c3; have b4 := (HK.out.a _ (.tail _ (.head _))).c4; have c0 := (HK.out.a _ (.head _)).c0; have c1 := (HK.out.a _ (.head _)).c1; have c2 := (HK.out.a _ (.head _)).c2; have c3 := (HK.out.a _ (.head _)).c3; have c4 := (HK.out.a _ (.head _)).c4)
        | fail)
      go_ret
      exact ⟨rfl, HK.out.bel⟩
  have k1 : (A.k != B.k) = false := by simpa using hk1
  by_cases hk2 : B.k = C.k
  rotate_left
  · have k2 : (B.k != C.k) = true := by simpa using hk2
    clear hk2 ia ib ic lA cA rA lB cB rB lC cC rC hk1
    as_aux_lemma =>
      go_enter Tryd.func9, Tryd.ntmps9
      go_wp2_with (first
        | (go_at_call 35; (with_reducible refine (HV1.out _ (by with_unfolding_all exact (HK.out.r _ (.tail _ (.tail _ (.head _)))))).mono ?_); rintro e wz ⟨rfl, hb⟩; have HK2 := Lib.hid (HK.out.next hb); clear HK a0 a1 a2 a3 a4 b0 b1 b2 b3 b4 c0 c1 c2 c3 c4; have HK := HK2; clear HK2; clear hb; have a0 := (HK.out.a _ (.tail _ (.tail _ (.head _)))).c0; have a1 := (HK.out.a _ (.tail _ (.tail _ (.head _)))).c1; have a2 := (HK.out.a _ (.tail _ (.tail _ (.head _)))).c2; have a3 := (HK.out.a _ (.tail _ (.tail _ (.head _)))).c3; have a4 := (HK.out.a _ (.tail _ (.tail _ (.head _)))).c4; have b0 := (HK.out.a _ (.tail _ (.head _))).c0; have b1 := (HK.out.a _ (.tail _ (.head _))).c1; have b2 := (HK.out.a _ (.tail _ (.head _))).c2; have b3 := (HK.out.a _ (.tail _ (.head _))).c3; have b4 := (HK.out.a _ (.tail _ (.head _))).c4; have c0 := (HK.out.a _ (.head _)).c0; have c1 := (HK.out.a _ (.head _)).c1; have c2 := (HK.out.a _ (.head _)).c2; have c3 := (HK.out.a _ (.head _)).c3; have c4 := (HK.out.a _ (.head _)).c4)
        | (go_at_call 35; (with_reducible refine (HV2.out _ (by with_unfolding_all exact (HK.out.r _ (.tail _ (.head _))))).mono ?_); rintro e wz ⟨rfl, hb⟩; have HK2 := Lib.hid (HK.out.next hb); clear HK a0 a1 a2 a3 a4 b0 b1 b2 b3 b4 c0 c1 c2 c3 c4; have HK := HK2; clear HK2; clear hb; have a0 := (HK.out.a _ (.tail _ (.tail _ (.head _)))).c0; have a1 := (HK.out.a _ (.tail _ (.tail _ (.head _)))).c1; have a2 := (HK.out.a _ (.tail _ (.tail _ (.head _)))).c2; have a3 := (HK.out.a _ (.tail _ (.tail _ (.head _)))).c3; have a4 := (HK.out.a _ (.tail _ (.tail _ (.head _)))).c4; have b0 := (HK.out.a _ (.tail _ (.head _))).c0; have b1 := (HK.out.a _ (.tail _ (.head _))).c1; have b2 := (HK.out.a _ (.tail _ (.head _))).c2; have b3 := (HK.out.a _ (.tail _ (.head _))).c3; have b4 := (HK.out.a _ (.tail _ (.head _))).c4; have c0 := (HK.out.a _ (.head _)).c0; have c1 := (HK.out.a _ (.head _)).c1; have c2 := (HK.out.a _ (.head _)).c2; have c3 := (HK.out.a _ (.head _)).c3; have c4 := (HK.out.a _ (.head _)).c4)
        | (go_at_call 35; (with_reducible refine (HV3.out _ (by with_unfolding_all exact (HK.out.r _ (.head _)))).mono ?_); rintro e wz ⟨rfl, hb⟩; have HK2 := Lib.hid (HK.out.next hb); clear HK a0 a1 a2 a3 a4 b0 b1 b2 b3 b4 c0 c1 c2 c3 c4; have HK := HK2; clear HK2; clear hb; have a0 := (HK.out.a _ (.tail _ (.tail _ (.head _)))).c0; have a1 := (HK.out.a _ (.tail _ (.tail _ (.head _)))).c1; have a2 := (HK.out.a _ (.tail _ (.tail _ (.head _)))).c2; have a3 := (HK.out.a _ (.tail _ (.tail _ (.head _)))).c3; have a4 := (HK.out.a _ (.tail _ (.tail _ (.head _)))).c4; have b0 := (HK.out.a _ (.tail _ (.head _))).c0; have b1 := (HK.out.a _ (.tail _ (.head _))).c1; have b2 := (HK.out.a _ (.tail _ (.head _))).c2; have b3 := (HK.out.a _ (.tail _ (.head _))).c3; have b4 := (HK.out.a _ (.tail _ (.head _))).c4; have c0 := (HK.out.a _ (.head _)).c0; have c1 := (HK.out.a _ (.head _)).c1; have c2 := (HK.out.a _ (.head _)).c2; have c3 := (HK.out.a _ (.head _)).c3; have c4 := (HK.out.a _ (.head _)).c4)
        | (go_at_call 21; (with_reducible refine (HAw.out _ (by with_unfolding_all exact HK.out.lay)).mono ?_); rintro e wz ⟨rfl, hb⟩; have HK2 := Lib.hid (HK.out.next hb); clear HK a0 a1 a2 a3 a4 b0 b1 b2 b3 b4 c0 c1 c2 c3 c4; have HK := HK2; clear HK2; clear hb; have a0 := (HK.out.a _ (.tail _ (.tail _ (.head _)))).c0; have a1 := (HK.out.a _ (.tail _ (.tail _ (.head _)))).c1; have a2 := (HK.out.a _ (.tail _ (.tail _ (.head _)))).c2; have a3 := (HK.out.a _ (.tail _ (.tail _ (.head _)))).c3; have a4 := (HK.out.a _ (.tail _ (.tail _ (.head _)))).c4; have b0 := (HK.out.a _ (.tail _ (.head _))).c0; have b1 := (HK.out.a _ (.tail _ (.head _))).c1; have b2 := (HK.out.a _ (.tail _ (.head _))).c2; have b3 := (HK.out.a _ (.tail _ (.head _))).c3; have b4 := (HK.out.a _ (.tail _ (.head _))).c4; have c0 := (HK.out.a _ (.head _)).c0; have c1 := (HK.out.a _ (.head _)).c1; have c2 := (HK.out.a _ (.head _)).c2; have c3 := (HK.out.a _ (.head _)).c3; have c4 := (HK.out.a _ (.head _)).c4)
        | fail)
      go_ret
      exact ⟨rfl, HK.out.bel⟩
  have k2 : (B.k != C.k) = false := by simpa using hk2
  have x1 := mbE_vec cA cB hk1 rA rB
  have y1 := mbE_vec cA cC (hk1.trans hk2) rA rC
  have px := pkT_vec (mb_ck x1) cA rfl rA rA
  have p1 : pkE ⟨1, A.r, A.a, A.b, mbZ A B⟩ A = 0 := by unfold pkE; rw [if_pos px]; exact if_pos (mbZ_len A B)
  have p2 : pkV ⟨1, A.r, A.a, A.b, mbZ A B⟩ A = ⟨A.k, 1, (mem8 B.z A.z).length, 0, mem8 B.z A.z⟩ := by
    unfold pkV
    rw [orNo_yes p1, show (⟨1, A.r, A.a, A.b, mbZ A B⟩ : Ar).z = A.z.map (fun x => if x ∈ B.z then 1 else 0) from rfl, pk_mb]
    rfl
  have HIx := Lib.hid (fun W h0 h1 h2 => iin_any A B (.slice qa A.z.length ca) (.slice qb B.z.length cb) W h0 h1 h2 (by omega) (by omega) ia ib)
  have HIy := Lib.hid (fun W h0 h1 h2 => iin_any A C (.slice qa A.z.length ca) (.slice qc C.z.length cc) W h0 h1 h2 (by omega) (by omega) ia ic)
  have HPk := Lib.hid (fun v W h0 h1 h2 => ipick_any ⟨1, A.r, A.a, A.b, mbZ A B⟩ A v (.slice qa A.z.length ca) W h0 h1 h2 (by rw [mbZ_len]; omega) (by omega))
  rw [x1, show mbV A B = ⟨1, A.r, A.a, A.b, mbZ A B⟩ from orNo_yes x1] at HIx
  rw [y1, show mbV A C = ⟨1, A.r, A.a, A.b, mbZ A C⟩ from orNo_yes y1] at HIy
  rw [p1, p2] at HPk
  obtain ⟨M, hM⟩ : ∃ M : Nat → Nat, ∀ j, M j = (mem8 B.z (A.z.take j)).length := ⟨_, fun _ => rfl⟩
  have HM0 : Hid (M 0 = 0) := by unfold Hid; rw [hM]; rfl
  have HMn : Hid (M A.z.length = (mem8 B.z A.z).length) := by unfold Hid; rw [hM, List.take_length]
  have HMl : Hid (∀ j, M j ≤ 405) := fun j => by rw [hM]; have := mem8_le B.z (A.z.take j); rw [List.length_take] at this; omega
  have HMh : Hid (∀ j (hj : j < A.z.length), A.z[j] ∈ B.z → M j < (mem8 B.z A.z).length ∧ (mem8 B.z A.z)[M j]? = some A.z[j] ∧ M (j + 1) = M j + 1) := fun j hj h => by
    rw [hM, hM]; exact mem8_hit hj h
  have HMm : Hid (∀ j (hj : j < A.z.length), ¬ A.z[j] ∈ B.z → M (j + 1) = M j) := fun j hj h => by
    rw [hM, hM]; exact mem8_miss hj h
  have HCt := Lib.hid (fun W h0 h1 h2 h3 h4 => rcat7_any B C (.slice qb B.z.length cb) (.slice qc C.z.length cc) W h0 h1 h2 h3 h4 (by omega) (by omega))
  have HXl := Lib.hid (mbZ_len A B)
  have HYl := Lib.hid (mbZ_len A C)
  have k3 : (((mbZ A B).length : Int) != (A.z.length : Int)) = false := by rw [mbZ_len]; simp
  have k4 : (((mbZ A C).length : Int) != (A.z.length : Int)) = false := by rw [mbZ_len]; simp
  have hpl := mem8_le B.z A.z
  clear hM x1 y1 px p1 p2
  generalize mem8 B.z A.z = P at HPk HMn HMh hpl
  by_cases hE : ctE B C = 0
  rotate_left
  · rw [show ctV B C = ⟨0, 0, 0, 0, []⟩ from orNo_no hE] at HCt
    have k5 : (ctE B C == 0) = false := by simpa using hE
    generalize ctE B C = E at HCt k5
    clear ia ib ic hk1 hk2 hE cA cB cC rA rB rC
    generalize mbZ A B = X at HIx HPk HXl k3
    generalize mbZ A C = Y at HIy HYl k4
    go_enter Tryd.func9, Tryd.ntmps9
    go_upto_region 7 with (first
      | (go_at_call 29; (with_reducible refine (HIy.out _ (by with_unfolding_all exact HK.out.lay) (by with_unfolding_all exact (HK.out.r _ (.tail _ (.tail _ (.tail _ (.head _)))))) (by with_unfolding_all exact (HK.out.r _ (.tail _ (.head _))))).mono ?_); rintro e wiy ⟨uwiy, rfl, hu, hb⟩; obtain ⟨pwiy, cwiy, hpwiy, _, _⟩ := hu.form; have hqwiy : uwiy = (.slice pwiy Y.length cwiy) := hpwiy; subst hqwiy; clear hpwiy; have hltxy : wix.heap.size < wiy.heap.size := Nat.lt_of_lt_of_le (HK.out.lt _ (.head _)) hb.size; have hltcy : (w.heap.size + 2) < wiy.heap.size := Nat.lt_of_lt_of_le (HK.out.lt _ (.tail _ (.head _))) hb.size; have hltby : (w.heap.size + 1) < wiy.heap.size := Nat.lt_of_lt_of_le (HK.out.lt _ (.tail _ (.tail _ (.head _)))) hb.size; have hltay : w.heap.size < wiy.heap.size := Nat.lt_of_lt_of_le (HK.out.lt _ (.tail _ (.tail _ (.tail _ (.head _))))) hb.size; have HK2 := Lib.hid (HK.out.res hb ⟨1, A.r, A.a, A.b, Y⟩ hu); clear HK a0 a1 a2 a3 a4 b0 b1 b2 b3 b4 c0 c1 c2 c3 c4 x0 x1 x2 x3 x4; have HK := HK2; clear HK2; clear hb hu; have a0 := (HK.out.a _ (.tail _ (.tail _ (.tail _ (.tail _ (.head _)))))).c0; have a1 := (HK.out.a _ (.tail _ (.tail _ (.tail _ (.tail _ (.head _)))))).c1; have a2 := (HK.out.a _ (.tail _ (.tail _ (.tail _ (.tail _ (.head _)))))).c2; have a3 := (HK.out.a _ (.tail _ (.tail _ (.tail _ (.tail _ (.head _)))))).c3; have a4 := (HK.out.a _ (.tail _ (.tail _ (.tail _ (.tail _ (.head _)))))).c4; have b0 := (HK.out.a _ (.tail _ (.tail _ (.tail _ (.head _))))).c0; have b1 := (HK.out.a _ (.tail _ (.tail _ (.tail _ (.head _))))).c1; have b2 := (HK.out.a _ (.tail _ (.tail _ (.tail _ (.head _))))).c2; have b3 := (HK.out.a _ (.tail _ (.tail _ (.tail _ (.head _))))).c3; have b4 := (HK.out.a _ (.tail _ (.tail _ (.tail _ (.head _))))).c4; have c0 := (HK.out.a _ (.tail _ (.tail _ (.head _)))).c0; have c1 := (HK.out.a _ (.tail _ (.tail _ (.head _)))).c1; have c2 := (HK.out.a _ (.tail _ (.tail _ (.head _)))).c2; have c3 := (HK.out.a _ (.tail _ (.tail _ (.head _)))).c3; have c4 := (HK.out.a _ (.tail _ (.tail _ (.head _)))).c4; have x0 := (HK.out.a _ (.tail _ (.head _))).c0; have x1 := (HK.out.a _ (.tail _ (.head _))).c1; have x2 := (HK.out.a _ (.tail _ (.head _))).c2; have x3 := (HK.out.a _ (.tail _ (.head _))).c3; have x4 := (HK.out.a _ (.tail _ (.head _))).c4; have y0 := (HK.out.a _ (.head _)).c0; have y1 := (HK.out.a _ (.head _)).c1; have y2 := (HK.out.a _ (.head _)).c2; have y3 := (HK.out.a _ (.head _)).c3; have y4 := (HK.out.a _ (.head _)).c4)
      | (go_at_call 29; (with_reducible refine (HIx.out _ (by with_unfolding_all exact HK.out.lay) (by with_unfolding_all exact (HK.out.r _ (.tail _ (.tail _ (.head _))))) (by with_unfolding_all exact (HK.out.r _ (.tail _ (.head _))))).mono ?_); rintro e wix ⟨uwix, rfl, hu, hb⟩; obtain ⟨pwix, cwix, hpwix, _, _⟩ := hu.form; have hqwix : uwix = (.slice pwix X.length cwix) := hpwix; subst hqwix; clear hpwix; have hltcx : (w.heap.size + 2) < wix.heap.size := Nat.lt_of_lt_of_le (HK.out.lt _ (.head _)) hb.size; have hltbx : (w.heap.size + 1) < wix.heap.size := Nat.lt_of_lt_of_le (HK.out.lt _ (.tail _ (.head _))) hb.size; have hltax : w.heap.size < wix.heap.size := Nat.lt_of_lt_of_le (HK.out.lt _ (.tail _ (.tail _ (.head _)))) hb.size; have HK2 := Lib.hid (HK.out.res hb ⟨1, A.r, A.a, A.b, X⟩ hu); clear HK a0 a1 a2 a3 a4 b0 b1 b2 b3 b4 c0 c1 c2 c3 c4; have HK := HK2; clear HK2; clear hb hu; have a0 := (HK.out.a _ (.tail _ (.tail _ (.tail _ (.head _))))).c0; have a1 := (HK.out.a _ (.tail _ (.tail _ (.tail _ (.head _))))).c1; have a2 := (HK.out.a _ (.tail _ (.tail _ (.tail _ (.head _))))).c2; have a3 := (HK.out.a _ (.tail _ (.tail _ (.tail _ (.head _))))).c3; have a4 := (HK.out.a _ (.tail _ (.tail _ (.tail _ (.head _))))).c4; have b0 := (HK.out.a _ (.tail _ (.tail _ (.head _)))).c0; have b1 := (HK.out.a _ (.tail _ (.tail _ (.head _)))).c1; have b2 := (HK.out.a _ (.tail _ (.tail _ (.head _)))).c2; have b3 := (HK.out.a _ (.tail _ (.tail _ (.head _)))).c3; have b4 := (HK.out.a _ (.tail _ (.tail _ (.head _)))).c4; have c0 := (HK.out.a _ (.tail _ (.head _))).c0; have c1 := (HK.out.a _ (.tail _ (.head _))).c1; have c2 := (HK.out.a _ (.tail _ (.head _))).c2; have c3 := (HK.out.a _ (.tail _ (.head _))).c3; have c4 := (HK.out.a _ (.tail _ (.head _))).c4; have x0 := (HK.out.a _ (.head _)).c0; have x1 := (HK.out.a _ (.head _)).c1; have x2 := (HK.out.a _ (.head _)).c2; have x3 := (HK.out.a _ (.head _)).c3; have x4 := (HK.out.a _ (.head _)).c4)
      | (go_at_call 35; (with_reducible refine (HV3.out _ (by with_unfolding_all exact (HK.out.r _ (.head _)))).mono ?_); rintro e wz ⟨rfl, hb⟩; have HK2 := Lib.hid (HK.out.next hb); clear HK a0 a1 a2 a3 a4 b0 b1 b2 b3 b4 c0 c1 c2 c3 c4; have HK := HK2; clear HK2; clear hb; have a0 := (HK.out.a _ (.tail _ (.tail _ (.head _)))).c0; have a1 := (HK.out.a _ (.tail _ (.tail _ (.head _)))).c1; have a2 := (HK.out.a _ (.tail _ (.tail _ (.head _)))).c2; have a3 := (HK.out.a _ (.tail _ (.tail _ (.head _)))).c3; have a4 := (HK.out.a _ (.tail _ (.tail _ (.head _)))).c4; have b0 := (HK.out.a _ (.tail _ (.head _))).c0; have b1 := (HK.out.a _ (.tail _ (.head _))).c1; have b2 := (HK.out.a _ (.tail _ (.head _))).c2; have b3 := (HK.out.a _ (.tail _ (.head _))).c3; have b4 := (HK.out.a _ (.tail _ (.head _))).c4; have c0 := (HK.out.a _ (.head _)).c0; have c1 := (HK.out.a _ (.head _)).c1; have c2 := (HK.out.a _ (.head _)).c2; have c3 := (HK.out.a _ (.head _)).c3; have c4 := (HK.out.a _ (.head _)).c4)
      | (go_at_call 35; (with_reducible refine (HV2.out _ (by with_unfolding_all exact (HK.out.r _ (.tail _ (.head _))))).mono ?_); rintro e wz ⟨rfl, hb⟩; have HK2 := Lib.hid (HK.out.next hb); clear HK a0 a1 a2 a3 a4 b0 b1 b2 b3 b4 c0 c1 c2 c3 c4; have HK := HK2; clear HK2; clear hb; have a0 := (HK.out.a _ (.tail _ (.tail _ (.head _)))).c0; have a1 := (HK.out.a _ (.tail _ (.tail _ (.head _)))).c1; have a2 := (HK.out.a _ (.tail _ (.tail _ (.head _)))).c2; have a3 := (HK.out.a _ (.tail _ (.tail _ (.head _)))).c3; have a4 := (HK.out.a _ (.tail _ (.tail _ (.head _)))).c4; have b0 := (HK.out.a _ (.tail _ (.head _))).c0; have b1 := (HK.out.a _ (.tail _ (.head _))).c1; have b2 := (HK.out.a _ (.tail _ (.head _))).c2; have b3 := (HK.out.a _ (.tail _ (.head _))).c3; have b4 := (HK.out.a _ (.tail _ (.head _))).c4; have c0 := (HK.out.a _ (.head _)).c0; have c1 := (HK.out.a _ (.head _)).c1; have c2 := (HK.out.a _ (.head _)).c2; have c3 := (HK.out.a _ (.head _)).c3; have c4 := (HK.out.a _ (.head _)).c4)
      | (go_at_call 35; (with_reducible refine (HV1.out _ (by with_unfolding_all exact (HK.out.r _ (.tail _ (.tail _ (.head _)))))).mono ?_); rintro e wz ⟨rfl, hb⟩; have HK2 := Lib.hid (HK.out.next hb); clear HK a0 a1 a2 a3 a4 b0 b1 b2 b3 b4 c0 c1 c2 c3 c4; have HK := HK2; clear HK2; clear hb; have a0 := (HK.out.a _ (.tail _ (.tail _ (.head _)))).c0; have a1 := (HK.out.a _ (.tail _ (.tail _ (.head _)))).c1; have a2 := (HK.out.a _ (.tail _ (.tail _ (.head _)))).c2; have a3 := (HK.out.a _ (.tail _ (.tail _ (.head _)))).c3; have a4 := (HK.out.a _ (.tail _ (.tail _ (.head _)))).c4; have b0 := (HK.out.a _ (.tail _ (.head _))).c0; have b1 := (HK.out.a _ (.tail _ (.head _))).c1; have b2 := (HK.out.a _ (.tail _ (.head _))).c2; have b3 := (HK.out.a _ (.tail _ (.head _))).c3; have b4 := (HK.out.a _ (.tail _ (.head _))).c4; have c0 := (HK.out.a _ (.head _)).c0; have c1 := (HK.out.a _ (.head _)).c1; have c2 := (HK.out.a _ (.head _)).c2; have c3 := (HK.out.a _ (.head _)).c3; have c4 := (HK.out.a _ (.head _)).c4)
      | fail)
    clear HV1 HV2 HV3 HIx HIy k1 k2 k3 k4 a0 a1 a2 a3 a4 b0 b1 b2 b3 b4 c0 c1 c2 c3 c4 x0 x1 x2 x3 x4 y0 y1 y2 y3 y4
    have a0 := (HK.out.a _ (.tail _ (.tail _ (.tail _ (.tail _ (.head _)))))).c0
    have a1 := (HK.out.a _ (.tail _ (.tail _ (.tail _ (.tail _ (.head _)))))).c1
    have a2 := (HK.out.a _ (.tail _ (.tail _ (.tail _ (.tail _ (.head _)))))).c2
    have a3 := (HK.out.a _ (.tail _ (.tail _ (.tail _ (.tail _ (.head _)))))).c3
    have a4 := (HK.out.a _ (.tail _ (.tail _ (.tail _ (.tail _ (.head _)))))).c4
    have b0 := (HK.out.a _ (.tail _ (.tail _ (.tail _ (.head _))))).c0
    have b1 := (HK.out.a _ (.tail _ (.tail _ (.tail _ (.head _))))).c1
    have b2 := (HK.out.a _ (.tail _ (.tail _ (.tail _ (.head _))))).c2
    have b3 := (HK.out.a _ (.tail _ (.tail _ (.tail _ (.head _))))).c3
    have b4 := (HK.out.a _ (.tail _ (.tail _ (.tail _ (.head _))))).c4
    have c0 := (HK.out.a _ (.tail _ (.tail _ (.head _)))).c0
    have c1 := (HK.out.a _ (.tail _ (.tail _ (.head _)))).c1
    have c2 := (HK.out.a _ (.tail _ (.tail _ (.head _)))).c2
    have c3 := (HK.out.a _ (.tail _ (.tail _ (.head _)))).c3
    have c4 := (HK.out.a _ (.tail _ (.tail _ (.head _)))).c4
    go_upto_region 17 with (first
      | (go_at_call 39; (with_reducible refine (HCt.out _ (by with_unfolding_all exact HK.out.lay) (by with_unfolding_all exact (HK.out.r _ (.tail _ (.tail _ (.tail _ (.head _)))))) (by with_unfolding_all exact (HK.out.r _ (.tail _ (.tail _ (.head _))))) (by with_unfolding_all exact HK.out.n _ (.tail _ (.tail _ (.tail _ (.head _))))) (by with_unfolding_all exact HK.out.n _ (.tail _ (.tail _ (.head _))))).mono ?_); rintro e wct ⟨uwct, rfl, hu, hb⟩; obtain ⟨pwct, cwct, hpwct, _, _⟩ := hu.form; have hqwct : uwct = (.slice pwct 0 cwct) := hpwct; subst hqwct; clear hpwct; have hltyo : wiy.heap.size < wct.heap.size := Nat.lt_of_lt_of_le (HK.out.lt _ (.head _)) hb.size; have hltxo : wix.heap.size < wct.heap.size := Nat.lt_of_lt_of_le (HK.out.lt _ (.tail _ (.head _))) hb.size; have hltco : (w.heap.size + 2) < wct.heap.size := Nat.lt_of_lt_of_le (HK.out.lt _ (.tail _ (.tail _ (.head _)))) hb.size; have hltbo : (w.heap.size + 1) < wct.heap.size := Nat.lt_of_lt_of_le (HK.out.lt _ (.tail _ (.tail _ (.tail _ (.head _))))) hb.size; have hltao : w.heap.size < wct.heap.size := Nat.lt_of_lt_of_le (HK.out.lt _ (.tail _ (.tail _ (.tail _ (.tail _ (.head _)))))) hb.size; have HK2 := Lib.hid (HK.out.res hb ⟨0, 0, 0, 0, []⟩ hu); clear HK a0 a1 a2 a3 a4 b0 b1 b2 b3 b4 c0 c1 c2 c3 c4; have HK := HK2; clear HK2; clear hb hu; have a0 := (HK.out.a _ (.tail _ (.tail _ (.tail _ (.tail _ (.tail _ (.head _))))))).c0; have a1 := (HK.out.a _ (.tail _ (.tail _ (.tail _ (.tail _ (.tail _ (.head _))))))).c1; have a2 := (HK.out.a _ (.tail _ (.tail _ (.tail _ (.tail _ (.tail _ (.head _))))))).c2; have a3 := (HK.out.a _ (.tail _ (.tail _ (.tail _ (.tail _ (.tail _ (.head _))))))).c3; have a4 := (HK.out.a _ (.tail _ (.tail _ (.tail _ (.tail _ (.tail _ (.head _))))))).c4; have b0 := (HK.out.a _ (.tail _ (.tail _ (.tail _ (.tail _ (.head _)))))).c0; have b1 := (HK.out.a _ (.tail _ (.tail _ (.tail _ (.tail _ (.head _)))))).c1; have b2 := (HK.out.a _ (.tail _ (.tail _ (.tail _ (.tail _ (.head _)))))).c2; have b3 := (HK.out.a _ (.tail _ (.tail _ (.tail _ (.tail _ (.head _)))))).c3; have b4 := (HK.out.a _ (.tail _ (.tail _ (.tail _ (.tail _ (.head _)))))).c4; have c0 := (HK.out.a _ (.tail _ (.tail _ (.tail _ (.head _))))).c0; have c1 := (HK.out.a _ (.tail _ (.tail _ (.tail _ (.head _))))).c1; have c2 := (HK.out.a _ (.tail _ (.tail _ (.tail _ (.head _))))).c2; have c3 := (HK.out.a _ (.tail _ (.tail _ (.tail _ (.head _))))).c3; have c4 := (HK.out.a _ (.tail _ (.tail _ (.tail _ (.head _))))).c4; have o0 := (HK.out.a _ (.head _)).c0; have o1 := (HK.out.a _ (.head _)).c1; have o2 := (HK.out.a _ (.head _)).c2; have o3 := (HK.out.a _ (.head _)).c3; have o4 := (HK.out.a _ (.head _)).c4)
      | fail)
    clear k5 HCt
    clear a0 a1 a2 a3 a4 b0 b1 b2 b3 b4 c0 c1 c2 c3 c4 o0 o1 o2 o3 o4
    have a0 := (HK.out.a _ (.tail _ (.tail _ (.tail _ (.tail _ (.tail _ (.head _))))))).c0
    have a1 := (HK.out.a _ (.tail _ (.tail _ (.tail _ (.tail _ (.tail _ (.head _))))))).c1
    have a2 := (HK.out.a _ (.tail _ (.tail _ (.tail _ (.tail _ (.tail _ (.head _))))))).c2
    have a3 := (HK.out.a _ (.tail _ (.tail _ (.tail _ (.tail _ (.tail _ (.head _))))))).c3
    have a4 := (HK.out.a _ (.tail _ (.tail _ (.tail _ (.tail _ (.tail _ (.head _))))))).c4
    have x0 := (HK.out.a _ (.tail _ (.tail _ (.head _)))).c0
    have x1 := (HK.out.a _ (.tail _ (.tail _ (.head _)))).c1
    have x2 := (HK.out.a _ (.tail _ (.tail _ (.head _)))).c2
    have x3 := (HK.out.a _ (.tail _ (.tail _ (.head _)))).c3
    have x4 := (HK.out.a _ (.tail _ (.tail _ (.head _)))).c4
    go_wp2_with (first
      | (go_at_call 31; (with_reducible refine (HPk.out _ _ (by with_unfolding_all exact HK.out.lay) (by with_unfolding_all exact (HK.out.r _ (.tail _ (.tail _ (.head _))))) (by with_unfolding_all exact (HK.out.r _ (.tail _ (.tail _ (.tail _ (.tail _ (.tail _ (.head _))))))))).mono ?_); rintro e wpk ⟨uwpk, rfl, hu, hb⟩; obtain ⟨pwpk, cwpk, hpwpk, _, _⟩ := hu.form; have hqwpk : uwpk = (.slice pwpk P.length cwpk) := hpwpk; subst hqwpk; clear hpwpk; have hltop : wct.heap.size < wpk.heap.size := Nat.lt_of_lt_of_le (HK.out.lt _ (.head _)) hb.size; have hltyp : wiy.heap.size < wpk.heap.size := Nat.lt_of_lt_of_le (HK.out.lt _ (.tail _ (.head _))) hb.size; have hltxp : wix.heap.size < wpk.heap.size := Nat.lt_of_lt_of_le (HK.out.lt _ (.tail _ (.tail _ (.head _)))) hb.size; have hltcp : (w.heap.size + 2) < wpk.heap.size := Nat.lt_of_lt_of_le (HK.out.lt _ (.tail _ (.tail _ (.tail _ (.head _))))) hb.size; have hltbp : (w.heap.size + 1) < wpk.heap.size := Nat.lt_of_lt_of_le (HK.out.lt _ (.tail _ (.tail _ (.tail _ (.tail _ (.head _)))))) hb.size; have hltap : w.heap.size < wpk.heap.size := Nat.lt_of_lt_of_le (HK.out.lt _ (.tail _ (.tail _ (.tail _ (.tail _ (.tail _ (.head _))))))) hb.size; have HK2 := Lib.hid (HK.out.res hb ⟨A.k, 1, P.length, 0, P⟩ hu); clear HK a0 a1 a2 a3 a4 x0 x1 x2 x3 x4; have HK := HK2; clear HK2; clear hb hu; have a0 := (HK.out.a _ (.tail _ (.tail _ (.tail _ (.tail _ (.tail _ (.tail _ (.head _)))))))).c0; have a1 := (HK.out.a _ (.tail _ (.tail _ (.tail _ (.tail _ (.tail _ (.tail _ (.head _)))))))).c1; have a2 := (HK.out.a _ (.tail _ (.tail _ (.tail _ (.tail _ (.tail _ (.tail _ (.head _)))))))).c2; have a3 := (HK.out.a _ (.tail _ (.tail _ (.tail _ (.tail _ (.tail _ (.tail _ (.head _)))))))).c3; have a4 := (HK.out.a _ (.tail _ (.tail _ (.tail _ (.tail _ (.tail _ (.tail _ (.head _)))))))).c4; have x0 := (HK.out.a _ (.tail _ (.tail _ (.tail _ (.head _))))).c0; have x1 := (HK.out.a _ (.tail _ (.tail _ (.tail _ (.head _))))).c1; have x2 := (HK.out.a _ (.tail _ (.tail _ (.tail _ (.head _))))).c2; have x3 := (HK.out.a _ (.tail _ (.tail _ (.tail _ (.head _))))).c3; have x4 := (HK.out.a _ (.tail _ (.tail _ (.tail _ (.head _))))).c4; have p0 := (HK.out.a _ (.head _)).c0; have p1 := (HK.out.a _ (.head _)).c1; have p2 := (HK.out.a _ (.head _)).c2; have p3 := (HK.out.a _ (.head _)).c3; have p4 := (HK.out.a _ (.head _)).c4)
      | fail)
    clear HPk a0 a1 a2 a3 a4 x0 x1 x2 x3 x4 p0 p1 p2 p3 p4
    generalize hws : World.alloc wpk _ = ws at HK ⊢
    clear hws
    go_loopg [18, 19] A.z.length (fun gk k i wr => ∃ j : Nat, j + gk = A.z.length ∧ k = .int .i64 (M j) ∧ i = .int .i64 j ∧ Below ws.heap.size ws wr)
    case atStart => exact ⟨0, by omega, by rw [HM0.out]; rfl, rfl, Below.refl _ _⟩
    case round =>
      obtain ⟨j, hjg, rfl, rfl, hbl⟩ := hrel
      have HB := Lib.hid hbl
      have HKr := Lib.hid (HK.out.next hbl)
      clear hbl HM0
      cases gk with
      | zero =>
        have hjz : ¬ ((j : Int) < (A.z.length : Int)) := by omega
        have hje : j = A.z.length := by omega
        have kf : ((M j : Int) == (P.length : Int)) = true := by rw [hje, HMn.out]; simp
        clear HK HMh HMm hje HMn HMl HB
        have HK := HKr
        clear HKr
        have a0 := (HK.out.a _ (.tail _ (.tail _ (.tail _ (.tail _ (.tail _ (.tail _ (.head _)))))))).c0
        have a1 := (HK.out.a _ (.tail _ (.tail _ (.tail _ (.tail _ (.tail _ (.tail _ (.head _)))))))).c1
        have a2 := (HK.out.a _ (.tail _ (.tail _ (.tail _ (.tail _ (.tail _ (.tail _ (.head _)))))))).c2
        have a3 := (HK.out.a _ (.tail _ (.tail _ (.tail _ (.tail _ (.tail _ (.tail _ (.head _)))))))).c3
        have a4 := (HK.out.a _ (.tail _ (.tail _ (.tail _ (.tail _ (.tail _ (.tail _ (.head _)))))))).c4
        have p0 := (HK.out.a _ (.head _)).c0
        have p1 := (HK.out.a _ (.head _)).c1
        have p2 := (HK.out.a _ (.head _)).c2
        have p3 := (HK.out.a _ (.head _)).c3
        have p4 := (HK.out.a _ (.head _)).c4
        go_wp2_with (first
          | (go_at_call 21; (with_reducible refine (HAw.out _ (by with_unfolding_all exact HK.out.lay)).mono ?_); rintro e wz ⟨rfl, hb⟩; have HK2 := Lib.hid (HK.out.next hb); clear HK a0 a1 a2 a3 a4 p0 p1 p2 p3 p4; have HK := HK2; clear HK2; clear hb; have a0 := (HK.out.a _ (.tail _ (.tail _ (.tail _ (.tail _ (.tail _ (.tail _ (.head _)))))))).c0; have a1 := (HK.out.a _ (.tail _ (.tail _ (.tail _ (.tail _ (.tail _ (.tail _ (.head _)))))))).c1; have a2 := (HK.out.a _ (.tail _ (.tail _ (.tail _ (.tail _ (.tail _ (.tail _ (.head _)))))))).c2; have a3 := (HK.out.a _ (.tail _ (.tail _ (.tail _ (.tail _ (.tail _ (.tail _ (.head _)))))))).c3; have a4 := (HK.out.a _ (.tail _ (.tail _ (.tail _ (.tail _ (.tail _ (.tail _ (.head _)))))))).c4; have p0 := (HK.out.a _ (.head _)).c0; have p1 := (HK.out.a _ (.head _)).c1; have p2 := (HK.out.a _ (.head _)).c2; have p3 := (HK.out.a _ (.head _)).c3; have p4 := (HK.out.a _ (.head _)).c4)
          | fail)
        go_ret
        exact ⟨rfl, HK.out.bel⟩
      | succ g2 =>
        have hjz : (j : Int) < (A.z.length : Int) := by omega
        have hj : j < A.z.length := by omega
        have hwi : IntKind.i64.wrap ((j : Int) + 1) = (j : Int) + 1 := by rw [IntKind.wrap_i64]; omega
        have hml := HMl.out j
        have hwm : IntKind.i64.wrap ((M j : Int) + 1) = ((M j + 1 : Nat) : Int) := by rw [IntKind.wrap_i64]; omega
        have HH := Lib.hid (HMh.out j hj)
        have HN := Lib.hid (HMm.out j hj)
        obtain ⟨bA, oA, hpA, _, hcA⟩ := (HKr.out.r _ (.tail _ (.tail _ (.tail _ (.tail _ (.tail _ (.tail _ (.head _)))))))).cells (by intro e; have e2 : A.z = [] := e; rw [e2] at hj; simp at hj)
        subst hpA
        have HcA : Hid (∀ W, Below ws.heap.size ws W → W.cell? ⟨bA, oA + j, none⟩ = some (.int .i64 A.z[j])) := fun W h => by
          obtain ⟨b2, o2, hp2, _, hc2⟩ := ((HK.out.next h).r _ (.tail _ (.tail _ (.tail _ (.tail _ (.tail _ (.tail _ (.head _)))))))).cells (by intro e; have e2 : A.z = [] := e; rw [e2] at hj; simp at hj)
          cases hp2; exact hc2 j hj
        clear hcA HMh HMm HMn HMl
        generalize A.z[j] = x at HcA HH HN
        have a4 := (HKr.out.a _ (.tail _ (.tail _ (.tail _ (.tail _ (.tail _ (.tail _ (.head _)))))))).c4
        go_wp2_with fail
        clear a4
        go_loopg [20, 21] B.z.length (fun gk f n wq => ∃ l : Nat, l + gk = B.z.length ∧ f = .bool (metB B.z x l) ∧ n = .int .i64 l ∧ Below ws.heap.size ws wq)
        case atStart => exact ⟨0, by omega, by rw [metB_zero], rfl, HB.out⟩
        case round =>
          obtain ⟨l, hlg, rfl, rfl, hbl⟩ := hrel
          have HBq := Lib.hid hbl
          have HKq := Lib.hid (HK.out.next hbl)
          have hxa := HcA.out _ hbl
          clear hbl
          cases gk with
          | zero =>
            have hlz : ¬ ((l : Int) < (B.z.length : Int)) := by omega
            have hle : l = B.z.length := by omega
            have b4 := (HKq.out.a _ (.tail _ (.tail _ (.tail _ (.tail _ (.tail _ (.head _))))))).c4
            rw [hle, metB_all]
            rw [hle] at hlz
            clear hle hlg
            by_cases hx : x ∈ B.z
            · obtain ⟨m1, m2, m3⟩ := HH.out hx
              rw [decide_eq_true hx]
              have hm1 : ¬ ((P.length : Int) ≤ (M j : Int)) := by omega
              have hm2 : (M j : Int) < (P.length : Int) := by omega
              obtain ⟨bP, oP, hpP, _, hcP⟩ := (HKq.out.r _ (.head _)).cells (by intro e; have e2 : P = [] := e; rw [e2] at m1; simp at m1)
              subst hpP
              have hxp : wr.cell? ⟨bP, oP + M j, none⟩ = some (.int .i64 x) := by have h := hcP (M j) m1; rw [List.getElem?_eq_getElem m1] at m2; rw [← Option.some.inj m2]; exact h
              have a4 := (HKq.out.a _ (.tail _ (.tail _ (.tail _ (.tail _ (.tail _ (.tail _ (.head _)))))))).c4
              have p4 := (HKq.out.a _ (.head _)).c4
              clear hcP hx HH HN m2 hm1
              go_wp2_with fail
              go_quiet (fail)
              go_wp2_with fail
              go_roundg g2
              case measure => omega
              case rel => exact ⟨j + 1, by omega, by rw [m3]; (try go_num), by go_num, by first | exact HBq.out | exact below_drewN HBq.out _⟩
            · have m3 := HN.out hx
              rw [decide_eq_false hx]
              clear hx HH HN
              go_wp2_with fail
              go_roundg g2
              case measure => omega
              case rel => exact ⟨j + 1, by omega, by rw [m3], by go_num, by first | exact HBq.out | exact below_drewN HBq.out _⟩
          | succ g3 =>
            have hlz : (l : Int) < (B.z.length : Int) := by omega
            have hl : l < B.z.length := by omega
            have hwl : IntKind.i64.wrap ((l : Int) + 1) = (l : Int) + 1 := by rw [IntKind.wrap_i64]; omega
            have hmt := metB_snoc (x := x) hl
            obtain ⟨bB, oB, hpB, _, hcB⟩ := (HKq.out.r _ (.tail _ (.tail _ (.tail _ (.tail _ (.tail _ (.head _))))))).cells (by intro e; have e2 : B.z = [] := e; rw [e2] at hl; simp at hl)
            subst hpB
            have hyb := hcB l hl
            have a4 := (HKq.out.a _ (.tail _ (.tail _ (.tail _ (.tail _ (.tail _ (.tail _ (.head _)))))))).c4
            have b4 := (HKq.out.a _ (.tail _ (.tail _ (.tail _ (.tail _ (.tail _ (.head _))))))).c4
            change wr.cell? ⟨bB, oB + l, none⟩ = some (.int .i64 B.z[l]) at hyb
            have HMt := Lib.hid hmt
            clear hcB HH HN hmt
            generalize B.z[l] = y at hyb HMt
            cases hf : metB B.z x l with
            | true =>
              rw [hf] at HMt
              clear hf
              go_wp2_with fail
              go_quiet (fail)
              go_wp2_with fail
              go_roundg g3
              case measure => omega
              case rel => exact ⟨l + 1, by omega, by rw [HMt.out]; first | rfl | simp, by go_num, by first | exact HBq.out | exact below_drewN HBq.out _⟩
            | false =>
              rw [hf] at HMt
              clear hf
              go_wp2_with fail
              go_quiet (fail)
              go_wp2_with fail
              go_roundg g3
              case measure => omega
              case rel => exact ⟨l + 1, by omega, by rw [HMt.out]; first | rfl | simp, by go_num, by first | exact HBq.out | exact below_drewN HBq.out _⟩
  obtain ⟨e1, e2⟩ := ct_vec cB cC rB rC hk2 hE
  have iz : in64 (B.z ++ C.z) := fun x hx => (List.mem_append.1 hx).elim (ib x) (ic x)
  have z1 := mbE_vec cA e2 hk1 rA rfl
  have lD : (B.z ++ C.z).length ≤ 810 := by rw [List.length_append]; omega
  have HIz := Lib.hid (fun u W h0 h1 h2 => iin_any A ⟨B.k, 1, (B.z ++ C.z).length, 0, B.z ++ C.z⟩ (.slice qa A.z.length ca) u W h0 h1 h2 (by omega) (by show (B.z ++ C.z).length ≤ _; omega) ia iz)
  rw [z1, show mbV A ⟨B.k, 1, (B.z ++ C.z).length, 0, B.z ++ C.z⟩ = ⟨1, A.r, A.a, A.b, mbZ A ⟨B.k, 1, (B.z ++ C.z).length, 0, B.z ++ C.z⟩⟩ from orNo_yes z1] at HIz
  rw [e1, hE] at HCt
  have HZl := Lib.hid (mbZ_len A ⟨B.k, 1, (B.z ++ C.z).length, 0, B.z ++ C.z⟩)
  have k5 : (((mbZ A ⟨B.k, 1, (B.z ++ C.z).length, 0, B.z ++ C.z⟩).length : Int) != (A.z.length : Int)) = false := by rw [mbZ_len]; simp
  have HMx : Hid (∀ t, t < A.z.length → (mbZ A ⟨B.k, 1, (B.z ++ C.z).length, 0, B.z ++ C.z⟩).getD t 0 = if (mbZ A C).getD t 0 > (mbZ A B).getD t 0 then (mbZ A C).getD t 0 else (mbZ A B).getD t 0) := fun t ht => mb_max A B C ht
  clear ia ib ic iz e1 e2 z1 lD hk1 hk2 hE cA cB cC rA rB rC
  generalize mbZ A ⟨B.k, 1, (B.z ++ C.z).length, 0, B.z ++ C.z⟩ = Z at HIz HZl k5 HMx
  generalize B.z ++ C.z = D at HCt HIz
  generalize mbZ A B = X at HIx HPk HXl k3 HMx
  generalize mbZ A C = Y at HIy HYl k4 HMx
  go_enter Tryd.func9, Tryd.ntmps9
  go_upto_region 7 with (first
    | (go_at_call 29; (with_reducible refine (HIy.out _ (by with_unfolding_all exact HK.out.lay) (by with_unfolding_all exact (HK.out.r _ (.tail _ (.tail _ (.tail _ (.head _)))))) (by with_unfolding_all exact (HK.out.r _ (.tail _ (.head _))))).mono ?_); rintro e wiy ⟨uwiy, rfl, hu, hb⟩; obtain ⟨pwiy, cwiy, hpwiy, _, _⟩ := hu.form; have hqwiy : uwiy = (.slice pwiy Y.length cwiy) := hpwiy; subst hqwiy; clear hpwiy; have hltxy : wix.heap.size < wiy.heap.size := Nat.lt_of_lt_of_le (HK.out.lt _ (.head _)) hb.size; have hltcy : (w.heap.size + 2) < wiy.heap.size := Nat.lt_of_lt_of_le (HK.out.lt _ (.tail _ (.head _))) hb.size; have hltby : (w.heap.size + 1) < wiy.heap.size := Nat.lt_of_lt_of_le (HK.out.lt _ (.tail _ (.tail _ (.head _)))) hb.size; have hltay : w.heap.size < wiy.heap.size := Nat.lt_of_lt_of_le (HK.out.lt _ (.tail _ (.tail _ (.tail _ (.head _))))) hb.size; have HK2 := Lib.hid (HK.out.res hb ⟨1, A.r, A.a, A.b, Y⟩ hu); clear HK a0 a1 a2 a3 a4 b0 b1 b2 b3 b4 c0 c1 c2 c3 c4 x0 x1 x2 x3 x4; have HK := HK2; clear HK2; clear hb hu; have a0 := (HK.out.a _ (.tail _ (.tail _ (.tail _ (.tail _ (.head _)))))).c0; have a1 := (HK.out.a _ (.tail _ (.tail _ (.tail _ (.tail _ (.head _)))))).c1; have a2 := (HK.out.a _ (.tail _ (.tail _ (.tail _ (.tail _ (.head _)))))).c2; have a3 := (HK.out.a _ (.tail _ (.tail _ (.tail _ (.tail _ (.head _)))))).c3; have a4 := (HK.out.a _ (.tail _ (.tail _ (.tail _ (.tail _ (.head _)))))).c4; have b0 := (HK.out.a _ (.tail _ (.tail _ (.tail _ (.head _))))).c0; have b1 := (HK.out.a _ (.tail _ (.tail _ (.tail _ (.head _))))).c1; have b2 := (HK.out.a _ (.tail _ (.tail _ (.tail _ (.head _))))).c2; have b3 := (HK.out.a _ (.tail _ (.tail _ (.tail _ (.head _))))).c3; have b4 := (HK.out.a _ (.tail _ (.tail _ (.tail _ (.head _))))).c4; have c0 := (HK.out.a _ (.tail _ (.tail _ (.head _)))).c0; have c1 := (HK.out.a _ (.tail _ (.tail _ (.head _)))).c1; have c2 := (HK.out.a _ (.tail _ (.tail _ (.head _)))).c2; have c3 := (HK.out.a _ (.tail _ (.tail _ (.head _)))).c3; have c4 := (HK.out.a _ (.tail _ (.tail _ (.head _)))).c4; have x0 := (HK.out.a _ (.tail _ (.head _))).c0; have x1 := (HK.out.a _ (.tail _ (.head _))).c1; have x2 := (HK.out.a _ (.tail _ (.head _))).c2; have x3 := (HK.out.a _ (.tail _ (.head _))).c3; have x4 := (HK.out.a _ (.tail _ (.head _))).c4; have y0 := (HK.out.a _ (.head _)).c0; have y1 := (HK.out.a _ (.head _)).c1; have y2 := (HK.out.a _ (.head _)).c2; have y3 := (HK.out.a _ (.head _)).c3; have y4 := (HK.out.a _ (.head _)).c4)
    | (go_at_call 29; (with_reducible refine (HIx.out _ (by with_unfolding_all exact HK.out.lay) (by with_unfolding_all exact (HK.out.r _ (.tail _ (.tail _ (.head _))))) (by with_unfolding_all exact (HK.out.r _ (.tail _ (.head _))))).mono ?_); rintro e wix ⟨uwix, rfl, hu, hb⟩; obtain ⟨pwix, cwix, hpwix, _, _⟩ := hu.form; have hqwix : uwix = (.slice pwix X.length cwix) := hpwix; subst hqwix; clear hpwix; have hltcx : (w.heap.size + 2) < wix.heap.size := Nat.lt_of_lt_of_le (HK.out.lt _ (.head _)) hb.size; have hltbx : (w.heap.size + 1) < wix.heap.size := Nat.lt_of_lt_of_le (HK.out.lt _ (.tail _ (.head _))) hb.size; have hltax : w.heap.size < wix.heap.size := Nat.lt_of_lt_of_le (HK.out.lt _ (.tail _ (.tail _ (.head _)))) hb.size; have HK2 := Lib.hid (HK.out.res hb ⟨1, A.r, A.a, A.b, X⟩ hu); clear HK a0 a1 a2 a3 a4 b0 b1 b2 b3 b4 c0 c1 c2 c3 c4; have HK := HK2; clear HK2; clear hb hu; have a0 := (HK.out.a _ (.tail _ (.tail _ (.tail _ (.head _))))).c0; have a1 := (HK.out.a _ (.tail _ (.tail _ (.tail _ (.head _))))).c1; have a2 := (HK.out.a _ (.tail _ (.tail _ (.tail _ (.head _))))).c2; have a3 := (HK.out.a _ (.tail _ (.tail _ (.tail _ (.head _))))).c3; have a4 := (HK.out.a _ (.tail _ (.tail _ (.tail _ (.head _))))).c4; have b0 := (HK.out.a _ (.tail _ (.tail _ (.head _)))).c0; have b1 := (HK.out.a _ (.tail _ (.tail _ (.head _)))).c1; have b2 := (HK.out.a _ (.tail _ (.tail _ (.head _)))).c2; have b3 := (HK.out.a _ (.tail _ (.tail _ (.head _)))).c3; have b4 := (HK.out.a _ (.tail _ (.tail _ (.head _)))).c4; have c0 := (HK.out.a _ (.tail _ (.head _))).c0; have c1 := (HK.out.a _ (.tail _ (.head _))).c1; have c2 := (HK.out.a _ (.tail _ (.head _))).c2; have c3 := (HK.out.a _ (.tail _ (.head _))).c3; have c4 := (HK.out.a _ (.tail _ (.head _))).c4; have x0 := (HK.out.a _ (.head _)).c0; have x1 := (HK.out.a _ (.head _)).c1; have x2 := (HK.out.a _ (.head _)).c2; have x3 := (HK.out.a _ (.head _)).c3; have x4 := (HK.out.a _ (.head _)).c4)
    | (go_at_call 35; (with_reducible refine (HV3.out _ (by with_unfolding_all exact (HK.out.r _ (.head _)))).mono ?_); rintro e wz ⟨rfl, hb⟩; have HK2 := Lib.hid (HK.out.next hb); clear HK a0 a1 a2 a3 a4 b0 b1 b2 b3 b4 c0 c1 c2 c3 c4; have HK := HK2; clear HK2; clear hb; have a0 := (HK.out.a _ (.tail _ (.tail _ (.head _)))).c0; have a1 := (HK.out.a _ (.tail _ (.tail _ (.head _)))).c1; have a2 := (HK.out.a _ (.tail _ (.tail _ (.head _)))).c2; have a3 := (HK.out.a _ (.tail _ (.tail _ (.head _)))).c3; have a4 := (HK.out.a _ (.tail _ (.tail _ (.head _)))).c4; have b0 := (HK.out.a _ (.tail _ (.head _))).c0; have b1 := (HK.out.a _ (.tail _ (.head _))).c1; have b2 := (HK.out.a _ (.tail _ (.head _))).c2; have b3 := (HK.out.a _ (.tail _ (.head _))).c3; have b4 := (HK.out.a _ (.tail _ (.head _))).c4; have c0 := (HK.out.a _ (.head _)).c0; have c1 := (HK.out.a _ (.head _)).c1; have c2 := (HK.out.a _ (.head _)).c2; have c3 := (HK.out.a _ (.head _)).c3; have c4 := (HK.out.a _ (.head _)).c4)
    | (go_at_call 35; (with_reducible refine (HV2.out _ (by with_unfolding_all exact (HK.out.r _ (.tail _ (.head _))))).mono ?_); rintro e wz ⟨rfl, hb⟩; have HK2 := Lib.hid (HK.out.next hb); clear HK a0 a1 a2 a3 a4 b0 b1 b2 b3 b4 c0 c1 c2 c3 c4; have HK := HK2; clear HK2; clear hb; have a0 := (HK.out.a _ (.tail _ (.tail _ (.head _)))).c0; have a1 := (HK.out.a _ (.tail _ (.tail _ (.head _)))).c1; have a2 := (HK.out.a _ (.tail _ (.tail _ (.head _)))).c2; have a3 := (HK.out.a _ (.tail _ (.tail _ (.head _)))).c3; have a4 := (HK.out.a _ (.tail _ (.tail _ (.head _)))).c4; have b0 := (HK.out.a _ (.tail _ (.head _))).c0; have b1 := (HK.out.a _ (.tail _ (.head _))).c1; have b2 := (HK.out.a _ (.tail _ (.head _))).c2; have b3 := (HK.out.a _ (.tail _ (.head _))).c3; have b4 := (HK.out.a _ (.tail _ (.head _))).c4; have c0 := (HK.out.a _ (.head _)).c0; have c1 := (HK.out.a _ (.head _)).c1; have c2 := (HK.out.a _ (.head _)).c2; have c3 := (HK.out.a _ (.head _)).c3; have c4 := (HK.out.a _ (.head _)).c4)
    | (go_at_call 35; (with_reducible refine (HV1.out _ (by with_unfolding_all exact (HK.out.r _ (.tail _ (.tail _ (.head _)))))).mono ?_); rintro e wz ⟨rfl, hb⟩; have HK2 := Lib.hid (HK.out.next hb); clear HK a0 a1 a2 a3 a4 b0 b1 b2 b3 b4 c0 c1 c2 c3 c4; have HK := HK2; clear HK2; clear hb; have a0 := (HK.out.a _ (.tail _ (.tail _ (.head _)))).c0; have a1 := (HK.out.a _ (.tail _ (.tail _ (.head _)))).c1; have a2 := (HK.out.a _ (.tail _ (.tail _ (.head _)))).c2; have a3 := (HK.out.a _ (.tail _ (.tail _ (.head _)))).c3; have a4 := (HK.out.a _ (.tail _ (.tail _ (.head _)))).c4; have b0 := (HK.out.a _ (.tail _ (.head _))).c0; have b1 := (HK.out.a _ (.tail _ (.head _))).c1; have b2 := (HK.out.a _ (.tail _ (.head _))).c2; have b3 := (HK.out.a _ (.tail _ (.head _))).c3; have b4 := (HK.out.a _ (.tail _ (.head _))).c4; have c0 := (HK.out.a _ (.head _)).c0; have c1 := (HK.out.a _ (.head _)).c1; have c2 := (HK.out.a _ (.head _)).c2; have c3 := (HK.out.a _ (.head _)).c3; have c4 := (HK.out.a _ (.head _)).c4)
    | fail)
  clear HV1 HV2 HV3 HIx HIy k1 k2 k3 k4 a0 a1 a2 a3 a4 b0 b1 b2 b3 b4 c0 c1 c2 c3 c4 x0 x1 x2 x3 x4 y0 y1 y2 y3 y4
  have a0 := (HK.out.a _ (.tail _ (.tail _ (.tail _ (.tail _ (.head _)))))).c0
  have a1 := (HK.out.a _ (.tail _ (.tail _ (.tail _ (.tail _ (.head _)))))).c1
  have a2 := (HK.out.a _ (.tail _ (.tail _ (.tail _ (.tail _ (.head _)))))).c2
  have a3 := (HK.out.a _ (.tail _ (.tail _ (.tail _ (.tail _ (.head _)))))).c3
  have a4 := (HK.out.a _ (.tail _ (.tail _ (.tail _ (.tail _ (.head _)))))).c4
  have b0 := (HK.out.a _ (.tail _ (.tail _ (.tail _ (.head _))))).c0
  have b1 := (HK.out.a _ (.tail _ (.tail _ (.tail _ (.head _))))).c1
  have b2 := (HK.out.a _ (.tail _ (.tail _ (.tail _ (.head _))))).c2
  have b3 := (HK.out.a _ (.tail _ (.tail _ (.tail _ (.head _))))).c3
  have b4 := (HK.out.a _ (.tail _ (.tail _ (.tail _ (.head _))))).c4
  have c0 := (HK.out.a _ (.tail _ (.tail _ (.head _)))).c0
  have c1 := (HK.out.a _ (.tail _ (.tail _ (.head _)))).c1
  have c2 := (HK.out.a _ (.tail _ (.tail _ (.head _)))).c2
  have c3 := (HK.out.a _ (.tail _ (.tail _ (.head _)))).c3
  have c4 := (HK.out.a _ (.tail _ (.tail _ (.head _)))).c4
  go_wp2_with (first
    | (go_at_call 29; (with_reducible refine (HIz.out _ _ (by with_unfolding_all exact HK.out.lay) (by with_unfolding_all exact (HK.out.r _ (.tail _ (.tail _ (.tail _ (.tail _ (.tail _ (.head _)))))))) (by with_unfolding_all exact (HK.out.r _ (.head _)))).mono ?_); rintro e wiz ⟨uwiz, rfl, hu, hb⟩; obtain ⟨pwiz, cwiz, hpwiz, _, _⟩ := hu.form; have hqwiz : uwiz = (.slice pwiz Z.length cwiz) := hpwiz; subst hqwiz; clear hpwiz; have hltoz : wct.heap.size < wiz.heap.size := Nat.lt_of_lt_of_le (HK.out.lt _ (.head _)) hb.size; have hltyz : wiy.heap.size < wiz.heap.size := Nat.lt_of_lt_of_le (HK.out.lt _ (.tail _ (.head _))) hb.size; have hltxz : wix.heap.size < wiz.heap.size := Nat.lt_of_lt_of_le (HK.out.lt _ (.tail _ (.tail _ (.head _)))) hb.size; have hltcz : (w.heap.size + 2) < wiz.heap.size := Nat.lt_of_lt_of_le (HK.out.lt _ (.tail _ (.tail _ (.tail _ (.head _))))) hb.size; have hltbz : (w.heap.size + 1) < wiz.heap.size := Nat.lt_of_lt_of_le (HK.out.lt _ (.tail _ (.tail _ (.tail _ (.tail _ (.head _)))))) hb.size; have hltaz : w.heap.size < wiz.heap.size := Nat.lt_of_lt_of_le (HK.out.lt _ (.tail _ (.tail _ (.tail _ (.tail _ (.tail _ (.head _))))))) hb.size; have HK2 := Lib.hid (HK.out.res hb ⟨1, A.r, A.a, A.b, Z⟩ hu); clear HK a0 a1 a2 a3 a4 b0 b1 b2 b3 b4 c0 c1 c2 c3 c4 o0 o1 o2 o3 o4; have HK := HK2; clear HK2; clear hb hu; have a0 := (HK.out.a _ (.tail _ (.tail _ (.tail _ (.tail _ (.tail _ (.tail _ (.head _)))))))).c0; have a1 := (HK.out.a _ (.tail _ (.tail _ (.tail _ (.tail _ (.tail _ (.tail _ (.head _)))))))).c1; have a2 := (HK.out.a _ (.tail _ (.tail _ (.tail _ (.tail _ (.tail _ (.tail _ (.head _)))))))).c2; have a3 := (HK.out.a _ (.tail _ (.tail _ (.tail _ (.tail _ (.tail _ (.tail _ (.head _)))))))).c3; have a4 := (HK.out.a _ (.tail _ (.tail _ (.tail _ (.tail _ (.tail _ (.tail _ (.head _)))))))).c4; have b0 := (HK.out.a _ (.tail _ (.tail _ (.tail _ (.tail _ (.tail _ (.head _))))))).c0; have b1 := (HK.out.a _ (.tail _ (.tail _ (.tail _ (.tail _ (.tail _ (.head _))))))).c1; have b2 := (HK.out.a _ (.tail _ (.tail _ (.tail _ (.tail _ (.tail _ (.head _))))))).c2; have b3 := (HK.out.a _ (.tail _ (.tail _ (.tail _ (.tail _ (.tail _ (.head _))))))).c3; have b4 := (HK.out.a _ (.tail _ (.tail _ (.tail _ (.tail _ (.tail _ (.head _))))))).c4; have c0 := (HK.out.a _ (.tail _ (.tail _ (.tail _ (.tail _ (.head _)))))).c0; have c1 := (HK.out.a _ (.tail _ (.tail _ (.tail _ (.tail _ (.head _)))))).c1; have c2 := (HK.out.a _ (.tail _ (.tail _ (.tail _ (.tail _ (.head _)))))).c2; have c3 := (HK.out.a _ (.tail _ (.tail _ (.tail _ (.tail _ (.head _)))))).c3; have c4 := (HK.out.a _ (.tail _ (.tail _ (.tail _ (.tail _ (.head _)))))).c4; have o0 := (HK.out.a _ (.tail _ (.head _))).c0; have o1 := (HK.out.a _ (.tail _ (.head _))).c1; have o2 := (HK.out.a _ (.tail _ (.head _))).c2; have o3 := (HK.out.a _ (.tail _ (.head _))).c3; have o4 := (HK.out.a _ (.tail _ (.head _))).c4; have z0 := (HK.out.a _ (.head _)).c0; have z1 := (HK.out.a _ (.head _)).c1; have z2 := (HK.out.a _ (.head _)).c2; have z3 := (HK.out.a _ (.head _)).c3; have z4 := (HK.out.a _ (.head _)).c4)
    | (go_at_call 39; (with_reducible refine (HCt.out _ (by with_unfolding_all exact HK.out.lay) (by with_unfolding_all exact (HK.out.r _ (.tail _ (.tail _ (.tail _ (.head _)))))) (by with_unfolding_all exact (HK.out.r _ (.tail _ (.tail _ (.head _))))) (by with_unfolding_all exact HK.out.n _ (.tail _ (.tail _ (.tail _ (.head _))))) (by with_unfolding_all exact HK.out.n _ (.tail _ (.tail _ (.head _))))).mono ?_); rintro e wct ⟨uwct, rfl, hu, hb⟩; obtain ⟨pwct, cwct, hpwct, _, _⟩ := hu.form; have hqwct : uwct = (.slice pwct D.length cwct) := hpwct; subst hqwct; clear hpwct; have hltyo : wiy.heap.size < wct.heap.size := Nat.lt_of_lt_of_le (HK.out.lt _ (.head _)) hb.size; have hltxo : wix.heap.size < wct.heap.size := Nat.lt_of_lt_of_le (HK.out.lt _ (.tail _ (.head _))) hb.size; have hltco : (w.heap.size + 2) < wct.heap.size := Nat.lt_of_lt_of_le (HK.out.lt _ (.tail _ (.tail _ (.head _)))) hb.size; have hltbo : (w.heap.size + 1) < wct.heap.size := Nat.lt_of_lt_of_le (HK.out.lt _ (.tail _ (.tail _ (.tail _ (.head _))))) hb.size; have hltao : w.heap.size < wct.heap.size := Nat.lt_of_lt_of_le (HK.out.lt _ (.tail _ (.tail _ (.tail _ (.tail _ (.head _)))))) hb.size; have HK2 := Lib.hid (HK.out.res hb ⟨B.k, 1, D.length, 0, D⟩ hu); clear HK a0 a1 a2 a3 a4 b0 b1 b2 b3 b4 c0 c1 c2 c3 c4; have HK := HK2; clear HK2; clear hb hu; have a0 := (HK.out.a _ (.tail _ (.tail _ (.tail _ (.tail _ (.tail _ (.head _))))))).c0; have a1 := (HK.out.a _ (.tail _ (.tail _ (.tail _ (.tail _ (.tail _ (.head _))))))).c1; have a2 := (HK.out.a _ (.tail _ (.tail _ (.tail _ (.tail _ (.tail _ (.head _))))))).c2; have a3 := (HK.out.a _ (.tail _ (.tail _ (.tail _ (.tail _ (.tail _ (.head _))))))).c3; have a4 := (HK.out.a _ (.tail _ (.tail _ (.tail _ (.tail _ (.tail _ (.head _))))))).c4; have b0 := (HK.out.a _ (.tail _ (.tail _ (.tail _ (.tail _ (.head _)))))).c0; have b1 := (HK.out.a _ (.tail _ (.tail _ (.tail _ (.tail _ (.head _)))))).c1; have b2 := (HK.out.a _ (.tail _ (.tail _ (.tail _ (.tail _ (.head _)))))).c2; have b3 := (HK.out.a _ (.tail _ (.tail _ (.tail _ (.tail _ (.head _)))))).c3; have b4 := (HK.out.a _ (.tail _ (.tail _ (.tail _ (.tail _ (.head _)))))).c4; have c0 := (HK.out.a _ (.tail _ (.tail _ (.tail _ (.head _))))).c0; have c1 := (HK.out.a _ (.tail _ (.tail _ (.tail _ (.head _))))).c1; have c2 := (HK.out.a _ (.tail _ (.tail _ (.tail _ (.head _))))).c2; have c3 := (HK.out.a _ (.tail _ (.tail _ (.tail _ (.head _))))).c3; have c4 := (HK.out.a _ (.tail _ (.tail _ (.tail _ (.head _))))).c4; have o0 := (HK.out.a _ (.head _)).c0; have o1 := (HK.out.a _ (.head _)).c1; have o2 := (HK.out.a _ (.head _)).c2; have o3 := (HK.out.a _ (.head _)).c3; have o4 := (HK.out.a _ (.head _)).c4)
    | fail)
  clear HCt HIz k5 a0 a1 a2 a3 a4 b0 b1 b2 b3 b4 c0 c1 c2 c3 c4 o0 o1 o2 o3 o4 z0 z1 z2 z3 z4
  generalize hwl : World.alloc wiz _ = wl at HK ⊢
  clear hwl
  go_loopg [15] A.z.length (fun gk i wr => ∃ j : Nat, j + gk = A.z.length ∧ i = .int .i64 j ∧ Below wl.heap.size wl wr)
  case atStart => exact ⟨0, by omega, rfl, Below.refl _ _⟩
  case round =>
    obtain ⟨j, hjg, rfl, hbl⟩ := hrel
    have HB := Lib.hid hbl
    have HKr := Lib.hid (HK.out.next hbl)
    clear hbl
    cases gk with
    | zero =>
      have hjz : ¬ ((j : Int) < (A.z.length : Int)) := by omega
      clear HMx HK HB
      have HK := HKr
      clear HKr
      have a0 := (HK.out.a _ (.tail _ (.tail _ (.tail _ (.tail _ (.tail _ (.tail _ (.head _)))))))).c0
      have a1 := (HK.out.a _ (.tail _ (.tail _ (.tail _ (.tail _ (.tail _ (.tail _ (.head _)))))))).c1
      have a2 := (HK.out.a _ (.tail _ (.tail _ (.tail _ (.tail _ (.tail _ (.tail _ (.head _)))))))).c2
      have a3 := (HK.out.a _ (.tail _ (.tail _ (.tail _ (.tail _ (.tail _ (.tail _ (.head _)))))))).c3
      have a4 := (HK.out.a _ (.tail _ (.tail _ (.tail _ (.tail _ (.tail _ (.tail _ (.head _)))))))).c4
      go_upto_region 17 with fail
      clear hjz hjg
      clear a0 a1 a2 a3 a4
      have a0 := (HK.out.a _ (.tail _ (.tail _ (.tail _ (.tail _ (.tail _ (.tail _ (.head _)))))))).c0
      have a1 := (HK.out.a _ (.tail _ (.tail _ (.tail _ (.tail _ (.tail _ (.tail _ (.head _)))))))).c1
      have a2 := (HK.out.a _ (.tail _ (.tail _ (.tail _ (.tail _ (.tail _ (.tail _ (.head _)))))))).c2
      have a3 := (HK.out.a _ (.tail _ (.tail _ (.tail _ (.tail _ (.tail _ (.tail _ (.head _)))))))).c3
      have a4 := (HK.out.a _ (.tail _ (.tail _ (.tail _ (.tail _ (.tail _ (.tail _ (.head _)))))))).c4
      have x0 := (HK.out.a _ (.tail _ (.tail _ (.tail _ (.head _))))).c0
      have x1 := (HK.out.a _ (.tail _ (.tail _ (.tail _ (.head _))))).c1
      have x2 := (HK.out.a _ (.tail _ (.tail _ (.tail _ (.head _))))).c2
      have x3 := (HK.out.a _ (.tail _ (.tail _ (.tail _ (.head _))))).c3
      have x4 := (HK.out.a _ (.tail _ (.tail _ (.tail _ (.head _))))).c4
      go_wp2_with (first
        | (go_at_call 31; (with_reducible refine (HPk.out _ _ (by with_unfolding_all exact HK.out.lay) (by with_unfolding_all exact (HK.out.r _ (.tail _ (.tail _ (.tail _ (.head _)))))) (by with_unfolding_all exact (HK.out.r _ (.tail _ (.tail _ (.tail _ (.tail _ (.tail _ (.tail _ (.head _)))))))))).mono ?_); rintro e wpk ⟨uwpk, rfl, hu, hb⟩; obtain ⟨pwpk, cwpk, hpwpk, _, _⟩ := hu.form; have hqwpk : uwpk = (.slice pwpk P.length cwpk) := hpwpk; subst hqwpk; clear hpwpk; have hltzp : wiz.heap.size < wpk.heap.size := Nat.lt_of_lt_of_le (HK.out.lt _ (.head _)) hb.size; have hltop : wct.heap.size < wpk.heap.size := Nat.lt_of_lt_of_le (HK.out.lt _ (.tail _ (.head _))) hb.size; have hltyp : wiy.heap.size < wpk.heap.size := Nat.lt_of_lt_of_le (HK.out.lt _ (.tail _ (.tail _ (.head _)))) hb.size; have hltxp : wix.heap.size < wpk.heap.size := Nat.lt_of_lt_of_le (HK.out.lt _ (.tail _ (.tail _ (.tail _ (.head _))))) hb.size; have hltcp : (w.heap.size + 2) < wpk.heap.size := Nat.lt_of_lt_of_le (HK.out.lt _ (.tail _ (.tail _ (.tail _ (.tail _ (.head _)))))) hb.size; have hltbp : (w.heap.size + 1) < wpk.heap.size := Nat.lt_of_lt_of_le (HK.out.lt _ (.tail _ (.tail _ (.tail _ (.tail _ (.tail _ (.head _))))))) hb.size; have hltap : w.heap.size < wpk.heap.size := Nat.lt_of_lt_of_le (HK.out.lt _ (.tail _ (.tail _ (.tail _ (.tail _ (.tail _ (.tail _ (.head _)))))))) hb.size; have HK2 := Lib.hid (HK.out.res hb ⟨A.k, 1, P.length, 0, P⟩ hu); clear HK a0 a1 a2 a3 a4 x0 x1 x2 x3 x4; have HK := HK2; clear HK2; clear hb hu; have a0 := (HK.out.a _ (.tail _ (.tail _ (.tail _ (.tail _ (.tail _ (.tail _ (.tail _ (.head _))))))))).c0; have a1 := (HK.out.a _ (.tail _ (.tail _ (.tail _ (.tail _ (.tail _ (.tail _ (.tail _ (.head _))))))))).c1; have a2 := (HK.out.a _ (.tail _ (.tail _ (.tail _ (.tail _ (.tail _ (.tail _ (.tail _ (.head _))))))))).c2; have a3 := (HK.out.a _ (.tail _ (.tail _ (.tail _ (.tail _ (.tail _ (.tail _ (.tail _ (.head _))))))))).c3; have a4 := (HK.out.a _ (.tail _ (.tail _ (.tail _ (.tail _ (.tail _ (.tail _ (.tail _ (.head _))))))))).c4; have x0 := (HK.out.a _ (.tail _ (.tail _ (.tail _ (.tail _ (.head _)))))).c0; have x1 := (HK.out.a _ (.tail _ (.tail _ (.tail _ (.tail _ (.head _)))))).c1; have x2 := (HK.out.a _ (.tail _ (.tail _ (.tail _ (.tail _ (.head _)))))).c2; have x3 := (HK.out.a _ (.tail _ (.tail _ (.tail _ (.tail _ (.head _)))))).c3; have x4 := (HK.out.a _ (.tail _ (.tail _ (.tail _ (.tail _ (.head _)))))).c4; have p0 := (HK.out.a _ (.head _)).c0; have p1 := (HK.out.a _ (.head _)).c1; have p2 := (HK.out.a _ (.head _)).c2; have p3 := (HK.out.a _ (.head _)).c3; have p4 := (HK.out.a _ (.head _)).c4)
        | fail)
      clear HPk a0 a1 a2 a3 a4 x0 x1 x2 x3 x4 p0 p1 p2 p3 p4
      generalize hws : World.alloc wpk _ = ws at HK ⊢
      clear hws
      go_loopg [18, 19] A.z.length (fun gk k i wr => ∃ j : Nat, j + gk = A.z.length ∧ k = .int .i64 (M j) ∧ i = .int .i64 j ∧ Below ws.heap.size ws wr)
      case atStart => exact ⟨0, by omega, by rw [HM0.out]; rfl, rfl, Below.refl _ _⟩
      case round =>
        obtain ⟨j, hjg, rfl, rfl, hbl⟩ := hrel
        have HB := Lib.hid hbl
        have HKr := Lib.hid (HK.out.next hbl)
        clear hbl HM0
        cases gk with
        | zero =>
          have hjz : ¬ ((j : Int) < (A.z.length : Int)) := by omega
          have hje : j = A.z.length := by omega
          have kf : ((M j : Int) == (P.length : Int)) = true := by rw [hje, HMn.out]; simp
          clear HK HMh HMm hje HMn HMl HB
          have HK := HKr
          clear HKr
          have a0 := (HK.out.a _ (.tail _ (.tail _ (.tail _ (.tail _ (.tail _ (.tail _ (.tail _ (.head _))))))))).c0
          have a1 := (HK.out.a _ (.tail _ (.tail _ (.tail _ (.tail _ (.tail _ (.tail _ (.tail _ (.head _))))))))).c1
          have a2 := (HK.out.a _ (.tail _ (.tail _ (.tail _ (.tail _ (.tail _ (.tail _ (.tail _ (.head _))))))))).c2
          have a3 := (HK.out.a _ (.tail _ (.tail _ (.tail _ (.tail _ (.tail _ (.tail _ (.tail _ (.head _))))))))).c3
          have a4 := (HK.out.a _ (.tail _ (.tail _ (.tail _ (.tail _ (.tail _ (.tail _ (.tail _ (.head _))))))))).c4
          have p0 := (HK.out.a _ (.head _)).c0
          have p1 := (HK.out.a _ (.head _)).c1
          have p2 := (HK.out.a _ (.head _)).c2
          have p3 := (HK.out.a _ (.head _)).c3
          have p4 := (HK.out.a _ (.head _)).c4
          go_wp2_with (first
            | (go_at_call 21; (with_reducible refine (HAw.out _ (by with_unfolding_all exact HK.out.lay)).mono ?_); rintro e wz ⟨rfl, hb⟩; have HK2 := Lib.hid (HK.out.next hb); clear HK a0 a1 a2 a3 a4 p0 p1 p2 p3 p4; have HK := HK2; clear HK2; clear hb; have a0 := (HK.out.a _ (.tail _ (.tail _ (.tail _ (.tail _ (.tail _ (.tail _ (.tail _ (.head _))))))))).c0; have a1 := (HK.out.a _ (.tail _ (.tail _ (.tail _ (.tail _ (.tail _ (.tail _ (.tail _ (.head _))))))))).c1; have a2 := (HK.out.a _ (.tail _ (.tail _ (.tail _ (.tail _ (.tail _ (.tail _ (.tail _ (.head _))))))))).c2; have a3 := (HK.out.a _ (.tail _ (.tail _ (.tail _ (.tail _ (.tail _ (.tail _ (.tail _ (.head _))))))))).c3; have a4 := (HK.out.a _ (.tail _ (.tail _ (.tail _ (.tail _ (.tail _ (.tail _ (.tail _ (.head _))))))))).c4; have p0 := (HK.out.a _ (.head _)).c0; have p1 := (HK.out.a _ (.head _)).c1; have p2 := (HK.out.a _ (.head _)).c2; have p3 := (HK.out.a _ (.head _)).c3; have p4 := (HK.out.a _ (.head _)).c4)
            | fail)
          go_ret
          exact ⟨rfl, HK.out.bel⟩
        | succ g2 =>
          have hjz : (j : Int) < (A.z.length : Int) := by omega
          have hj : j < A.z.length := by omega
          have hwi : IntKind.i64.wrap ((j : Int) + 1) = (j : Int) + 1 := by rw [IntKind.wrap_i64]; omega
          have hml := HMl.out j
          have hwm : IntKind.i64.wrap ((M j : Int) + 1) = ((M j + 1 : Nat) : Int) := by rw [IntKind.wrap_i64]; omega
          have HH := Lib.hid (HMh.out j hj)
          have HN := Lib.hid (HMm.out j hj)
          obtain ⟨bA, oA, hpA, _, hcA⟩ := (HKr.out.r _ (.tail _ (.tail _ (.tail _ (.tail _ (.tail _ (.tail _ (.tail _ (.head _))))))))).cells (by intro e; have e2 : A.z = [] := e; rw [e2] at hj; simp at hj)
          subst hpA
          have HcA : Hid (∀ W, Below ws.heap.size ws W → W.cell? ⟨bA, oA + j, none⟩ = some (.int .i64 A.z[j])) := fun W h => by
            obtain ⟨b2, o2, hp2, _, hc2⟩ := ((HK.out.next h).r _ (.tail _ (.tail _ (.tail _ (.tail _ (.tail _ (.tail _ (.tail _ (.head _))))))))).cells (by intro e; have e2 : A.z = [] := e; rw [e2] at hj; simp at hj)
            cases hp2; exact hc2 j hj
          clear hcA HMh HMm HMn HMl
          generalize A.z[j] = x at HcA HH HN
          have a4 := (HKr.out.a _ (.tail _ (.tail _ (.tail _ (.tail _ (.tail _ (.tail _ (.tail _ (.head _))))))))).c4
          go_wp2_with fail
          clear a4
          go_loopg [20, 21] B.z.length (fun gk f n wq => ∃ l : Nat, l + gk = B.z.length ∧ f = .bool (metB B.z x l) ∧ n = .int .i64 l ∧ Below ws.heap.size ws wq)
          case atStart => exact ⟨0, by omega, by rw [metB_zero], rfl, HB.out⟩
          case round =>
            obtain ⟨l, hlg, rfl, rfl, hbl⟩ := hrel
            have HBq := Lib.hid hbl
            have HKq := Lib.hid (HK.out.next hbl)
            have hxa := HcA.out _ hbl
            clear hbl
            cases gk with
            | zero =>
              have hlz : ¬ ((l : Int) < (B.z.length : Int)) := by omega
              have hle : l = B.z.length := by omega
              have b4 := (HKq.out.a _ (.tail _ (.tail _ (.tail _ (.tail _ (.tail _ (.tail _ (.head _)))))))).c4
              rw [hle, metB_all]
              rw [hle] at hlz
              clear hle hlg
              by_cases hx : x ∈ B.z
              · obtain ⟨m1, m2, m3⟩ := HH.out hx
                rw [decide_eq_true hx]
                have hm1 : ¬ ((P.length : Int) ≤ (M j : Int)) := by omega
                have hm2 : (M j : Int) < (P.length : Int) := by omega
                obtain ⟨bP, oP, hpP, _, hcP⟩ := (HKq.out.r _ (.head _)).cells (by intro e; have e2 : P = [] := e; rw [e2] at m1; simp at m1)
                subst hpP
                have hxp : wr.cell? ⟨bP, oP + M j, none⟩ = some (.int .i64 x) := by have h := hcP (M j) m1; rw [List.getElem?_eq_getElem m1] at m2; rw [← Option.some.inj m2]; exact h
                have a4 := (HKq.out.a _ (.tail _ (.tail _ (.tail _ (.tail _ (.tail _ (.tail _ (.tail _ (.head _))))))))).c4
                have p4 := (HKq.out.a _ (.head _)).c4
                clear hcP hx HH HN m2 hm1
                go_wp2_with fail
                go_quiet (fail)
                go_wp2_with fail
                go_roundg g2
                case measure => omega
                case rel => exact ⟨j + 1, by omega, by rw [m3]; (try go_num), by go_num, by first | exact HBq.out | exact below_drewN HBq.out _⟩
              · have m3 := HN.out hx
                rw [decide_eq_false hx]
                clear hx HH HN
                go_wp2_with fail
                go_roundg g2
                case measure => omega
                case rel => exact ⟨j + 1, by omega, by rw [m3], by go_num, by first | exact HBq.out | exact below_drewN HBq.out _⟩
            | succ g3 =>
              have hlz : (l : Int) < (B.z.length : Int) := by omega
              have hl : l < B.z.length := by omega
              have hwl : IntKind.i64.wrap ((l : Int) + 1) = (l : Int) + 1 := by rw [IntKind.wrap_i64]; omega
              have hmt := metB_snoc (x := x) hl
              obtain ⟨bB, oB, hpB, _, hcB⟩ := (HKq.out.r _ (.tail _ (.tail _ (.tail _ (.tail _ (.tail _ (.tail _ (.head _)))))))).cells (by intro e; have e2 : B.z = [] := e; rw [e2] at hl; simp at hl)
              subst hpB
              have hyb := hcB l hl
              have a4 := (HKq.out.a _ (.tail _ (.tail _ (.tail _ (.tail _ (.tail _ (.tail _ (.tail _ (.head _))))))))).c4
              have b4 := (HKq.out.a _ (.tail _ (.tail _ (.tail _ (.tail _ (.tail _ (.tail _ (.head _)))))))).c4
              change wr.cell? ⟨bB, oB + l, none⟩ = some (.int .i64 B.z[l]) at hyb
              have HMt := Lib.hid hmt
              clear hcB HH HN hmt
              generalize B.z[l] = y at hyb HMt
              cases hf : metB B.z x l with
              | true =>
                rw [hf] at HMt
                clear hf
                go_wp2_with fail
                go_quiet (fail)
                go_wp2_with fail
                go_roundg g3
                case measure => omega
                case rel => exact ⟨l + 1, by omega, by rw [HMt.out]; first | rfl | simp, by go_num, by first | exact HBq.out | exact below_drewN HBq.out _⟩
              | false =>
                rw [hf] at HMt
                clear hf
                go_wp2_with fail
                go_quiet (fail)
                go_wp2_with fail
                go_roundg g3
                case measure => omega
                case rel => exact ⟨l + 1, by omega, by rw [HMt.out]; first | rfl | simp, by go_num, by first | exact HBq.out | exact below_drewN HBq.out _⟩
    | succ g2 =>
      have hjz : (j : Int) < (A.z.length : Int) := by omega
      have hj : j < A.z.length := by omega
      have hwi : IntKind.i64.wrap ((j : Int) + 1) = (j : Int) + 1 := by rw [IntKind.wrap_i64]; omega
      have hmx := HMx.out j hj
      clear HMx HPk HM0 HMn HMl HMh HMm HAw
      have hx : j < X.length := by rw [HXl.out]; exact hj
      have hzx : (j : Int) < (X.length : Int) := by omega
      obtain ⟨bX, oX, hpX, _, hcX⟩ := (HKr.out.r _ (.tail _ (.tail _ (.tail _ (.head _))))).cells (by intro e; have e2 : X = [] := e; rw [e2] at hx; simp at hx)
      subst hpX
      have hvX : wr.cell? ⟨bX, oX + j, none⟩ = some (.int .i64 X[j]) := hcX j hx
      have hgX : X.getD j 0 = X[j] := by rw [List.getD_eq_getElem?_getD, List.getElem?_eq_getElem hx]; rfl
      rw [hgX] at hmx
      clear hcX hgX
      have x4 := (HKr.out.a _ (.tail _ (.tail _ (.tail _ (.head _))))).c4
      have hy : j < Y.length := by rw [HYl.out]; exact hj
      have hzy : (j : Int) < (Y.length : Int) := by omega
      obtain ⟨bY, oY, hpY, _, hcY⟩ := (HKr.out.r _ (.tail _ (.tail _ (.head _)))).cells (by intro e; have e2 : Y = [] := e; rw [e2] at hy; simp at hy)
      subst hpY
      have hvY : wr.cell? ⟨bY, oY + j, none⟩ = some (.int .i64 Y[j]) := hcY j hy
      have hgY : Y.getD j 0 = Y[j] := by rw [List.getD_eq_getElem?_getD, List.getElem?_eq_getElem hy]; rfl
      rw [hgY] at hmx
      clear hcY hgY
      have y4 := (HKr.out.a _ (.tail _ (.tail _ (.head _)))).c4
      have hz : j < Z.length := by rw [HZl.out]; exact hj
      have hzz : (j : Int) < (Z.length : Int) := by omega
      obtain ⟨bZ, oZ, hpZ, _, hcZ⟩ := (HKr.out.r _ (.head _)).cells (by intro e; have e2 : Z = [] := e; rw [e2] at hz; simp at hz)
      subst hpZ
      have hvZ : wr.cell? ⟨bZ, oZ + j, none⟩ = some (.int .i64 Z[j]) := hcZ j hz
      have hgZ : Z.getD j 0 = Z[j] := by rw [List.getD_eq_getElem?_getD, List.getElem?_eq_getElem hz]; rfl
      rw [hgZ] at hmx
      clear hcZ hgZ
      have z4 := (HKr.out.a _ (.head _)).c4
      have a4 := (HKr.out.a _ (.tail _ (.tail _ (.tail _ (.tail _ (.tail _ (.tail _ (.head _)))))))).c4
      generalize X[j] = x at hmx hvX
      generalize Y[j] = y at hmx hvY
      generalize Z[j] = z at hmx hvZ
      have k6 : (z != (if y > x then y else x)) = false := by rw [hmx]; simp
      clear hmx
      go_wp2_with fail
      go_region
      all_goals go_wp2_with fail
      all_goals (go_roundg g2; (case measure => omega); (case rel => exact ⟨j + 1, by omega, by go_num, by first | exact HB.out | exact below_drewN HB.out _ | exact HB.out.drew⟩))
end Go.Proofs.YthfpmpmhoegicaaDoor
