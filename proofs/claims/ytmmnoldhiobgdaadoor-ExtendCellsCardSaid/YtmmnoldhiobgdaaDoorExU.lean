/- The law ExtendCells, the stage's theorem. -/
import Derived.Test.YtmmnoldhiobgdaaDoorExL
import Derived.Test.YtmmnoldhiobgdaaDoorExP
import Derived.Deep.DeepCutAuto
namespace Go.Proofs.YtmmnoldhiobgdaaDoor
open Go.RowKit

theorem boE_vals (A B : Ar) : boE A B = 0 ∨ boE A B = 22 ∨ boE A B = 11 := by
  unfold boE
  split
  · exact .inl rfl
  · split
    · exact .inl rfl
    · split
      · exact .inr (.inl rfl)
      · split
        · exact .inr (.inr rfl)
        · exact .inl rfl
theorem fe_each {cs : List (Int × Int)} {i : Nat} {c : Int × Int} (h : feL cs = 0) (hi : cs[i]? = some c) : c.2 = 0 := feL_zero.1 h c (List.mem_of_getElem? hi)
set_option maxRecDepth 100000 in
set_option maxHeartbeats 64000000 in
theorem lawCells_any (p : Int) (A B : Ar) (v u : Value) (w : World) (hw : Ru.Lay w) (hv : RdI w.heap.size w v A.z) (hu : RdI w.heap.size w u B.z) (hn : Ru.NilC v) (hn' : Ru.NilC u) (h64 : in64 A.z) (h64' : in64 B.z) (haw : ∀ W, Ru.Lay W → Calls Tryd.prog 12 #[] W fun e w' => e = .returned (.bool true) ∧ Below W.heap.size W w') :
    Calls Tryd.prog 5 #[.int .i64 p, A5 A.k A.r A.a A.b v, A5 B.k B.r B.a B.b u] w fun e w' => e = .returned (.bool true) ∧ Below w.heap.size w w' := by
  have HAr := Lib.hid (fun W => Sc.rarity_any p W)
  have HF1 := Lib.hid (fun W h => far7_any A v W h)
  have HF2 := Lib.hid (fun W h => far7_any B u W h)
  have HAw := Lib.hid haw
  clear haw
  have HK := Lib.hid (KVar.two hw hv hu hn hn')
  have HI := Lib.hid h64
  have HJ := Lib.hid h64'
  have HEa : Hid (∀ (i : Nat) (W : World), RdI W.heap.size W v A.z → (if A.r = 0 then 0 else i) < A.z.length → Calls Tryd.prog 23 #[A5 A.k A.r A.a A.b v, .int .i64 i] W fun e w' => e = .returned (.int .i64 (celI A i)) ∧ Below W.heap.size W w') := fun i W h hi => lat_any A v i W h hi
  have HEb : Hid (∀ (i : Nat) (W : World), RdI W.heap.size W u B.z → (if B.r = 0 then 0 else i) < B.z.length → Calls Tryd.prog 23 #[A5 B.k B.r B.a B.b u, .int .i64 i] W fun e w' => e = .returned (.int .i64 (celI B i)) ∧ Below W.heap.size W w') := fun i W h hi => lat_any B u i W h hi
  have HTw : Hid (∀ (x y : Int) (W : World), Sc.inr x = true → Sc.inr y = true → Calls Tryd.prog 22 #[.int .i64 p, .int .i64 x, .int .i64 y] W fun e w' => e = .returned (.tuple #[.int .i64 (Sc.twoV p x y).1, .int .i64 (Sc.twoV p x y).2]) ∧ Below W.heap.size W w') := fun x y W h h' => Sc.rtwo_any p x y W (inr_lo h) (inr_hi h) (inr_lo h') (inr_hi h')
  obtain ⟨q, cap, rfl, hv1, hv2, hv3⟩ := hv
  obtain ⟨q', cap', rfl, hu1, hu2, hu3⟩ := hu
  clear hw hn hn' hv1 hv2 hv3 hu1 hu2 hu3 h64 h64'
  have hac := ar_cases p
  have x0 := (HK.out.a _ (.tail _ (.head _))).c0
  have x1 := (HK.out.a _ (.tail _ (.head _))).c1
  have x2 := (HK.out.a _ (.tail _ (.head _))).c2
  have x3 := (HK.out.a _ (.tail _ (.head _))).c3
  have x4 := (HK.out.a _ (.tail _ (.head _))).c4
  have y0 := (HK.out.a _ (.head _)).c0
  have y1 := (HK.out.a _ (.head _)).c1
  have y2 := (HK.out.a _ (.head _)).c2
  have y3 := (HK.out.a _ (.head _)).c3
  have y4 := (HK.out.a _ (.head _)).c4
  by_cases hf : 405 < A.z.length
  · rw [decide_eq_true hf] at HF1
    clear hf hac HEa HEb HTw HI HJ
    as_aux_lemma =>
      go_enter Tryd.func5, Tryd.ntmps5
      go_wp2_with (first
        | (go_at_call 20; (with_reducible refine (HAr.out _).mono ?_); rintro e wz ⟨rfl, rfl⟩)
        | (go_at_call 11; (with_reducible refine (HF1.out _ (by with_unfolding_all exact HK.out.r _ (.tail _ (.head _)))).mono ?_); rintro e wz ⟨rfl, hb⟩; have HK2 := Lib.hid (HK.out.next hb); clear HK x0 x1 x2 x3 x4 y0 y1 y2 y3 y4; have HK := HK2; clear HK2; clear hb; have x0 := (HK.out.a _ (.tail _ (.head _))).c0; have x1 := (HK.out.a _ (.tail _ (.head _))).c1; have x2 := (HK.out.a _ (.tail _ (.head _))).c2; have x3 := (HK.out.a _ (.tail _ (.head _))).c3; have x4 := (HK.out.a _ (.tail _ (.head _))).c4; have y0 := (HK.out.a _ (.head _)).c0; have y1 := (HK.out.a _ (.head _)).c1; have y2 := (HK.out.a _ (.head _)).c2; have y3 := (HK.out.a _ (.head _)).c3; have y4 := (HK.out.a _ (.head _)).c4)
        | (go_at_call 11; (with_reducible refine (HF2.out _ (by with_unfolding_all exact HK.out.r _ (.head _))).mono ?_); rintro e wz ⟨rfl, hb⟩; have HK2 := Lib.hid (HK.out.next hb); clear HK x0 x1 x2 x3 x4 y0 y1 y2 y3 y4; have HK := HK2; clear HK2; clear hb; have x0 := (HK.out.a _ (.tail _ (.head _))).c0; have x1 := (HK.out.a _ (.tail _ (.head _))).c1; have x2 := (HK.out.a _ (.tail _ (.head _))).c2; have x3 := (HK.out.a _ (.tail _ (.head _))).c3; have x4 := (HK.out.a _ (.tail _ (.head _))).c4; have y0 := (HK.out.a _ (.head _)).c0; have y1 := (HK.out.a _ (.head _)).c1; have y2 := (HK.out.a _ (.head _)).c2; have y3 := (HK.out.a _ (.head _)).c3; have y4 := (HK.out.a _ (.head _)).c4)
        | (go_at_call 12; (with_reducible refine (HAw.out _ (by with_unfolding_all exact HK.out.lay)).mono ?_); rintro e wz ⟨rfl, hb⟩; have HK2 := Lib.hid (HK.out.next hb); clear HK x0 x1 x2 x3 x4 y0 y1 y2 y3 y4; have HK := HK2; clear HK2; clear hb; have x0 := (HK.out.a _ (.tail _ (.head _))).c0; have x1 := (HK.out.a _ (.tail _ (.head _))).c1; have x2 := (HK.out.a _ (.tail _ (.head _))).c2; have x3 := (HK.out.a _ (.tail _ (.head _))).c3; have x4 := (HK.out.a _ (.tail _ (.head _))).c4; have y0 := (HK.out.a _ (.head _)).c0; have y1 := (HK.out.a _ (.head _)).c1; have y2 := (HK.out.a _ (.head _)).c2; have y3 := (HK.out.a _ (.head _)).c3; have y4 := (HK.out.a _ (.head _)).c4))
      go_ret
      exact ⟨rfl, HK.out.bel⟩
  rw [decide_eq_false hf] at HF1
  by_cases hg : 405 < B.z.length
  · rw [decide_eq_true hg] at HF2
    clear hf hg hac HEa HEb HTw HI HJ
    as_aux_lemma =>
      go_enter Tryd.func5, Tryd.ntmps5
      go_wp2_with (first
        | (go_at_call 20; (with_reducible refine (HAr.out _).mono ?_); rintro e wz ⟨rfl, rfl⟩)
        | (go_at_call 11; (with_reducible refine (HF1.out _ (by with_unfolding_all exact HK.out.r _ (.tail _ (.head _)))).mono ?_); rintro e wz ⟨rfl, hb⟩; have HK2 := Lib.hid (HK.out.next hb); clear HK x0 x1 x2 x3 x4 y0 y1 y2 y3 y4; have HK := HK2; clear HK2; clear hb; have x0 := (HK.out.a _ (.tail _ (.head _))).c0; have x1 := (HK.out.a _ (.tail _ (.head _))).c1; have x2 := (HK.out.a _ (.tail _ (.head _))).c2; have x3 := (HK.out.a _ (.tail _ (.head _))).c3; have x4 := (HK.out.a _ (.tail _ (.head _))).c4; have y0 := (HK.out.a _ (.head _)).c0; have y1 := (HK.out.a _ (.head _)).c1; have y2 := (HK.out.a _ (.head _)).c2; have y3 := (HK.out.a _ (.head _)).c3; have y4 := (HK.out.a _ (.head _)).c4)
        | (go_at_call 11; (with_reducible refine (HF2.out _ (by with_unfolding_all exact HK.out.r _ (.head _))).mono ?_); rintro e wz ⟨rfl, hb⟩; have HK2 := Lib.hid (HK.out.next hb); clear HK x0 x1 x2 x3 x4 y0 y1 y2 y3 y4; have HK := HK2; clear HK2; clear hb; have x0 := (HK.out.a _ (.tail _ (.head _))).c0; have x1 := (HK.out.a _ (.tail _ (.head _))).c1; have x2 := (HK.out.a _ (.tail _ (.head _))).c2; have x3 := (HK.out.a _ (.tail _ (.head _))).c3; have x4 := (HK.out.a _ (.tail _ (.head _))).c4; have y0 := (HK.out.a _ (.head _)).c0; have y1 := (HK.out.a _ (.head _)).c1; have y2 := (HK.out.a _ (.head _)).c2; have y3 := (HK.out.a _ (.head _)).c3; have y4 := (HK.out.a _ (.head _)).c4)
        | (go_at_call 12; (with_reducible refine (HAw.out _ (by with_unfolding_all exact HK.out.lay)).mono ?_); rintro e wz ⟨rfl, hb⟩; have HK2 := Lib.hid (HK.out.next hb); clear HK x0 x1 x2 x3 x4 y0 y1 y2 y3 y4; have HK := HK2; clear HK2; clear hb; have x0 := (HK.out.a _ (.tail _ (.head _))).c0; have x1 := (HK.out.a _ (.tail _ (.head _))).c1; have x2 := (HK.out.a _ (.tail _ (.head _))).c2; have x3 := (HK.out.a _ (.tail _ (.head _))).c3; have x4 := (HK.out.a _ (.tail _ (.head _))).c4; have y0 := (HK.out.a _ (.head _)).c0; have y1 := (HK.out.a _ (.head _)).c1; have y2 := (HK.out.a _ (.head _)).c2; have y3 := (HK.out.a _ (.head _)).c3; have y4 := (HK.out.a _ (.head _)).c4))
      go_ret
      exact ⟨rfl, HK.out.bel⟩
  rw [decide_eq_false hg] at HF2
  by_cases hp : Sc.arV p = 2
  rotate_left
  · rcases hac with ⟨h2, h3⟩ | ⟨h2, h3⟩
    · have h4 : Sc.arV p = 1 := by omega
      rw [h2, h4] at HAr
      clear hf hg hp h2 h3 h4 HEa HEb HTw HI HJ
      as_aux_lemma =>
        go_enter Tryd.func5, Tryd.ntmps5
        go_wp2_with (first
          | (go_at_call 20; (with_reducible refine (HAr.out _).mono ?_); rintro e wz ⟨rfl, rfl⟩)
          | (go_at_call 11; (with_reducible refine (HF1.out _ (by with_unfolding_all exact HK.out.r _ (.tail _ (.head _)))).mono ?_); rintro e wz ⟨rfl, hb⟩; have HK2 := Lib.hid (HK.out.next hb); clear HK x0 x1 x2 x3 x4 y0 y1 y2 y3 y4; have HK := HK2; clear HK2; clear hb; have x0 := (HK.out.a _ (.tail _ (.head _))).c0; have x1 := (HK.out.a _ (.tail _ (.head _))).c1; have x2 := (HK.out.a _ (.tail _ (.head _))).c2; have x3 := (HK.out.a _ (.tail _ (.head _))).c3; have x4 := (HK.out.a _ (.tail _ (.head _))).c4; have y0 := (HK.out.a _ (.head _)).c0; have y1 := (HK.out.a _ (.head _)).c1; have y2 := (HK.out.a _ (.head _)).c2; have y3 := (HK.out.a _ (.head _)).c3; have y4 := (HK.out.a _ (.head _)).c4)
          | (go_at_call 11; (with_reducible refine (HF2.out _ (by with_unfolding_all exact HK.out.r _ (.head _))).mono ?_); rintro e wz ⟨rfl, hb⟩; have HK2 := Lib.hid (HK.out.next hb); clear HK x0 x1 x2 x3 x4 y0 y1 y2 y3 y4; have HK := HK2; clear HK2; clear hb; have x0 := (HK.out.a _ (.tail _ (.head _))).c0; have x1 := (HK.out.a _ (.tail _ (.head _))).c1; have x2 := (HK.out.a _ (.tail _ (.head _))).c2; have x3 := (HK.out.a _ (.tail _ (.head _))).c3; have x4 := (HK.out.a _ (.tail _ (.head _))).c4; have y0 := (HK.out.a _ (.head _)).c0; have y1 := (HK.out.a _ (.head _)).c1; have y2 := (HK.out.a _ (.head _)).c2; have y3 := (HK.out.a _ (.head _)).c3; have y4 := (HK.out.a _ (.head _)).c4)
          | (go_at_call 12; (with_reducible refine (HAw.out _ (by with_unfolding_all exact HK.out.lay)).mono ?_); rintro e wz ⟨rfl, hb⟩; have HK2 := Lib.hid (HK.out.next hb); clear HK x0 x1 x2 x3 x4 y0 y1 y2 y3 y4; have HK := HK2; clear HK2; clear hb; have x0 := (HK.out.a _ (.tail _ (.head _))).c0; have x1 := (HK.out.a _ (.tail _ (.head _))).c1; have x2 := (HK.out.a _ (.tail _ (.head _))).c2; have x3 := (HK.out.a _ (.tail _ (.head _))).c3; have x4 := (HK.out.a _ (.tail _ (.head _))).c4; have y0 := (HK.out.a _ (.head _)).c0; have y1 := (HK.out.a _ (.head _)).c1; have y2 := (HK.out.a _ (.head _)).c2; have y3 := (HK.out.a _ (.head _)).c3; have y4 := (HK.out.a _ (.head _)).c4))
        go_ret
        exact ⟨rfl, HK.out.bel⟩
    · rw [h2, h3] at HAr
      clear hf hg hp h2 h3 HEa HEb HTw HI HJ
      as_aux_lemma =>
        go_enter Tryd.func5, Tryd.ntmps5
        go_wp2_with (first
          | (go_at_call 20; (with_reducible refine (HAr.out _).mono ?_); rintro e wz ⟨rfl, rfl⟩)
          | (go_at_call 11; (with_reducible refine (HF1.out _ (by with_unfolding_all exact HK.out.r _ (.tail _ (.head _)))).mono ?_); rintro e wz ⟨rfl, hb⟩; have HK2 := Lib.hid (HK.out.next hb); clear HK x0 x1 x2 x3 x4 y0 y1 y2 y3 y4; have HK := HK2; clear HK2; clear hb; have x0 := (HK.out.a _ (.tail _ (.head _))).c0; have x1 := (HK.out.a _ (.tail _ (.head _))).c1; have x2 := (HK.out.a _ (.tail _ (.head _))).c2; have x3 := (HK.out.a _ (.tail _ (.head _))).c3; have x4 := (HK.out.a _ (.tail _ (.head _))).c4; have y0 := (HK.out.a _ (.head _)).c0; have y1 := (HK.out.a _ (.head _)).c1; have y2 := (HK.out.a _ (.head _)).c2; have y3 := (HK.out.a _ (.head _)).c3; have y4 := (HK.out.a _ (.head _)).c4)
          | (go_at_call 11; (with_reducible refine (HF2.out _ (by with_unfolding_all exact HK.out.r _ (.head _))).mono ?_); rintro e wz ⟨rfl, hb⟩; have HK2 := Lib.hid (HK.out.next hb); clear HK x0 x1 x2 x3 x4 y0 y1 y2 y3 y4; have HK := HK2; clear HK2; clear hb; have x0 := (HK.out.a _ (.tail _ (.head _))).c0; have x1 := (HK.out.a _ (.tail _ (.head _))).c1; have x2 := (HK.out.a _ (.tail _ (.head _))).c2; have x3 := (HK.out.a _ (.tail _ (.head _))).c3; have x4 := (HK.out.a _ (.tail _ (.head _))).c4; have y0 := (HK.out.a _ (.head _)).c0; have y1 := (HK.out.a _ (.head _)).c1; have y2 := (HK.out.a _ (.head _)).c2; have y3 := (HK.out.a _ (.head _)).c3; have y4 := (HK.out.a _ (.head _)).c4)
          | (go_at_call 12; (with_reducible refine (HAw.out _ (by with_unfolding_all exact HK.out.lay)).mono ?_); rintro e wz ⟨rfl, hb⟩; have HK2 := Lib.hid (HK.out.next hb); clear HK x0 x1 x2 x3 x4 y0 y1 y2 y3 y4; have HK := HK2; clear HK2; clear hb; have x0 := (HK.out.a _ (.tail _ (.head _))).c0; have x1 := (HK.out.a _ (.tail _ (.head _))).c1; have x2 := (HK.out.a _ (.tail _ (.head _))).c2; have x3 := (HK.out.a _ (.tail _ (.head _))).c3; have x4 := (HK.out.a _ (.tail _ (.head _))).c4; have y0 := (HK.out.a _ (.head _)).c0; have y1 := (HK.out.a _ (.head _)).c1; have y2 := (HK.out.a _ (.head _)).c2; have y3 := (HK.out.a _ (.head _)).c3; have y4 := (HK.out.a _ (.head _)).c4))
        go_ret
        exact ⟨rfl, HK.out.bel⟩
  have hp2 : Sc.arE p = 0 := by omega
  rw [hp2, hp] at HAr
  clear hac
  have HC1 := Lib.hid (fun W h => archeck_any A (.slice q A.z.length cap) W h (by omega))
  have HC2 := Lib.hid (fun W h => archeck_any B (.slice q' B.z.length cap') W h (by omega))
  by_cases h1 : ck A ≠ 0
  · generalize ck A = E at HC1 h1
    have k1 : (E != 0) = true := by simpa using h1
    clear hf hg h1 hp hp2 HEa HEb HTw HI HJ
    as_aux_lemma =>
      go_enter Tryd.func5, Tryd.ntmps5
      go_wp2_with (first
        | (go_at_call 20; (with_reducible refine (HAr.out _).mono ?_); rintro e wz ⟨rfl, rfl⟩)
        | (go_at_call 11; (with_reducible refine (HF1.out _ (by with_unfolding_all exact HK.out.r _ (.tail _ (.head _)))).mono ?_); rintro e wz ⟨rfl, hb⟩; have HK2 := Lib.hid (HK.out.next hb); clear HK x0 x1 x2 x3 x4 y0 y1 y2 y3 y4; have HK := HK2; clear HK2; clear hb; have x0 := (HK.out.a _ (.tail _ (.head _))).c0; have x1 := (HK.out.a _ (.tail _ (.head _))).c1; have x2 := (HK.out.a _ (.tail _ (.head _))).c2; have x3 := (HK.out.a _ (.tail _ (.head _))).c3; have x4 := (HK.out.a _ (.tail _ (.head _))).c4; have y0 := (HK.out.a _ (.head _)).c0; have y1 := (HK.out.a _ (.head _)).c1; have y2 := (HK.out.a _ (.head _)).c2; have y3 := (HK.out.a _ (.head _)).c3; have y4 := (HK.out.a _ (.head _)).c4)
        | (go_at_call 11; (with_reducible refine (HF2.out _ (by with_unfolding_all exact HK.out.r _ (.head _))).mono ?_); rintro e wz ⟨rfl, hb⟩; have HK2 := Lib.hid (HK.out.next hb); clear HK x0 x1 x2 x3 x4 y0 y1 y2 y3 y4; have HK := HK2; clear HK2; clear hb; have x0 := (HK.out.a _ (.tail _ (.head _))).c0; have x1 := (HK.out.a _ (.tail _ (.head _))).c1; have x2 := (HK.out.a _ (.tail _ (.head _))).c2; have x3 := (HK.out.a _ (.tail _ (.head _))).c3; have x4 := (HK.out.a _ (.tail _ (.head _))).c4; have y0 := (HK.out.a _ (.head _)).c0; have y1 := (HK.out.a _ (.head _)).c1; have y2 := (HK.out.a _ (.head _)).c2; have y3 := (HK.out.a _ (.head _)).c3; have y4 := (HK.out.a _ (.head _)).c4)
        | (go_at_call 21; (with_reducible refine (HC2.out _ (by with_unfolding_all exact HK.out.r _ (.head _))).mono ?_); rintro e wz ⟨rfl, hb⟩; have HK2 := Lib.hid (HK.out.next hb); clear HK x0 x1 x2 x3 x4 y0 y1 y2 y3 y4; have HK := HK2; clear HK2; clear hb; have x0 := (HK.out.a _ (.tail _ (.head _))).c0; have x1 := (HK.out.a _ (.tail _ (.head _))).c1; have x2 := (HK.out.a _ (.tail _ (.head _))).c2; have x3 := (HK.out.a _ (.tail _ (.head _))).c3; have x4 := (HK.out.a _ (.tail _ (.head _))).c4; have y0 := (HK.out.a _ (.head _)).c0; have y1 := (HK.out.a _ (.head _)).c1; have y2 := (HK.out.a _ (.head _)).c2; have y3 := (HK.out.a _ (.head _)).c3; have y4 := (HK.out.a _ (.head _)).c4)
        | (go_at_call 21; (with_reducible refine (HC1.out _ (by with_unfolding_all exact HK.out.r _ (.tail _ (.head _)))).mono ?_); rintro e wz ⟨rfl, hb⟩; have HK2 := Lib.hid (HK.out.next hb); clear HK x0 x1 x2 x3 x4 y0 y1 y2 y3 y4; have HK := HK2; clear HK2; clear hb; have x0 := (HK.out.a _ (.tail _ (.head _))).c0; have x1 := (HK.out.a _ (.tail _ (.head _))).c1; have x2 := (HK.out.a _ (.tail _ (.head _))).c2; have x3 := (HK.out.a _ (.tail _ (.head _))).c3; have x4 := (HK.out.a _ (.tail _ (.head _))).c4; have y0 := (HK.out.a _ (.head _)).c0; have y1 := (HK.out.a _ (.head _)).c1; have y2 := (HK.out.a _ (.head _)).c2; have y3 := (HK.out.a _ (.head _)).c3; have y4 := (HK.out.a _ (.head _)).c4)
        | (go_at_call 12; (with_reducible refine (HAw.out _ (by with_unfolding_all exact HK.out.lay)).mono ?_); rintro e wz ⟨rfl, hb⟩; have HK2 := Lib.hid (HK.out.next hb); clear HK x0 x1 x2 x3 x4 y0 y1 y2 y3 y4; have HK := HK2; clear HK2; clear hb; have x0 := (HK.out.a _ (.tail _ (.head _))).c0; have x1 := (HK.out.a _ (.tail _ (.head _))).c1; have x2 := (HK.out.a _ (.tail _ (.head _))).c2; have x3 := (HK.out.a _ (.tail _ (.head _))).c3; have x4 := (HK.out.a _ (.tail _ (.head _))).c4; have y0 := (HK.out.a _ (.head _)).c0; have y1 := (HK.out.a _ (.head _)).c1; have y2 := (HK.out.a _ (.head _)).c2; have y3 := (HK.out.a _ (.head _)).c3; have y4 := (HK.out.a _ (.head _)).c4))
      go_ret
      exact ⟨rfl, HK.out.bel⟩
  by_cases h2 : ck B ≠ 0
  · have h1' : ck A = 0 := by omega
    rw [h1'] at HC1
    generalize ck B = E at HC2 h2
    have k1 : (E != 0) = true := by simpa using h2
    clear hf hg h1 h2 h1' hp hp2 HEa HEb HTw HI HJ
    as_aux_lemma =>
      go_enter Tryd.func5, Tryd.ntmps5
      go_wp2_with (first
        | (go_at_call 20; (with_reducible refine (HAr.out _).mono ?_); rintro e wz ⟨rfl, rfl⟩)
        | (go_at_call 11; (with_reducible refine (HF1.out _ (by with_unfolding_all exact HK.out.r _ (.tail _ (.head _)))).mono ?_); rintro e wz ⟨rfl, hb⟩; have HK2 := Lib.hid (HK.out.next hb); clear HK x0 x1 x2 x3 x4 y0 y1 y2 y3 y4; have HK := HK2; clear HK2; clear hb; have x0 := (HK.out.a _ (.tail _ (.head _))).c0; have x1 := (HK.out.a _ (.tail _ (.head _))).c1; have x2 := (HK.out.a _ (.tail _ (.head _))).c2; have x3 := (HK.out.a _ (.tail _ (.head _))).c3; have x4 := (HK.out.a _ (.tail _ (.head _))).c4; have y0 := (HK.out.a _ (.head _)).c0; have y1 := (HK.out.a _ (.head _)).c1; have y2 := (HK.out.a _ (.head _)).c2; have y3 := (HK.out.a _ (.head _)).c3; have y4 := (HK.out.a _ (.head _)).c4)
        | (go_at_call 11; (with_reducible refine (HF2.out _ (by with_unfolding_all exact HK.out.r _ (.head _))).mono ?_); rintro e wz ⟨rfl, hb⟩; have HK2 := Lib.hid (HK.out.next hb); clear HK x0 x1 x2 x3 x4 y0 y1 y2 y3 y4; have HK := HK2; clear HK2; clear hb; have x0 := (HK.out.a _ (.tail _ (.head _))).c0; have x1 := (HK.out.a _ (.tail _ (.head _))).c1; have x2 := (HK.out.a _ (.tail _ (.head _))).c2; have x3 := (HK.out.a _ (.tail _ (.head _))).c3; have x4 := (HK.out.a _ (.tail _ (.head _))).c4; have y0 := (HK.out.a _ (.head _)).c0; have y1 := (HK.out.a _ (.head _)).c1; have y2 := (HK.out.a _ (.head _)).c2; have y3 := (HK.out.a _ (.head _)).c3; have y4 := (HK.out.a _ (.head _)).c4)
        | (go_at_call 21; (with_reducible refine (HC2.out _ (by with_unfolding_all exact HK.out.r _ (.head _))).mono ?_); rintro e wz ⟨rfl, hb⟩; have HK2 := Lib.hid (HK.out.next hb); clear HK x0 x1 x2 x3 x4 y0 y1 y2 y3 y4; have HK := HK2; clear HK2; clear hb; have x0 := (HK.out.a _ (.tail _ (.head _))).c0; have x1 := (HK.out.a _ (.tail _ (.head _))).c1; have x2 := (HK.out.a _ (.tail _ (.head _))).c2; have x3 := (HK.out.a _ (.tail _ (.head _))).c3; have x4 := (HK.out.a _ (.tail _ (.head _))).c4; have y0 := (HK.out.a _ (.head _)).c0; have y1 := (HK.out.a _ (.head _)).c1; have y2 := (HK.out.a _ (.head _)).c2; have y3 := (HK.out.a _ (.head _)).c3; have y4 := (HK.out.a _ (.head _)).c4)
        | (go_at_call 21; (with_reducible refine (HC1.out _ (by with_unfolding_all exact HK.out.r _ (.tail _ (.head _)))).mono ?_); rintro e wz ⟨rfl, hb⟩; have HK2 := Lib.hid (HK.out.next hb); clear HK x0 x1 x2 x3 x4 y0 y1 y2 y3 y4; have HK := HK2; clear HK2; clear hb; have x0 := (HK.out.a _ (.tail _ (.head _))).c0; have x1 := (HK.out.a _ (.tail _ (.head _))).c1; have x2 := (HK.out.a _ (.tail _ (.head _))).c2; have x3 := (HK.out.a _ (.tail _ (.head _))).c3; have x4 := (HK.out.a _ (.tail _ (.head _))).c4; have y0 := (HK.out.a _ (.head _)).c0; have y1 := (HK.out.a _ (.head _)).c1; have y2 := (HK.out.a _ (.head _)).c2; have y3 := (HK.out.a _ (.head _)).c3; have y4 := (HK.out.a _ (.head _)).c4)
        | (go_at_call 12; (with_reducible refine (HAw.out _ (by with_unfolding_all exact HK.out.lay)).mono ?_); rintro e wz ⟨rfl, hb⟩; have HK2 := Lib.hid (HK.out.next hb); clear HK x0 x1 x2 x3 x4 y0 y1 y2 y3 y4; have HK := HK2; clear HK2; clear hb; have x0 := (HK.out.a _ (.tail _ (.head _))).c0; have x1 := (HK.out.a _ (.tail _ (.head _))).c1; have x2 := (HK.out.a _ (.tail _ (.head _))).c2; have x3 := (HK.out.a _ (.tail _ (.head _))).c3; have x4 := (HK.out.a _ (.tail _ (.head _))).c4; have y0 := (HK.out.a _ (.head _)).c0; have y1 := (HK.out.a _ (.head _)).c1; have y2 := (HK.out.a _ (.head _)).c2; have y3 := (HK.out.a _ (.head _)).c3; have y4 := (HK.out.a _ (.head _)).c4))
      go_ret
      exact ⟨rfl, HK.out.bel⟩
  have h1' : ck A = 0 := by omega
  have h2' : ck B = 0 := by omega
  rw [h1'] at HC1
  rw [h2'] at HC2
  clear h1 h2
  by_cases h3 : A.k = 1
  rotate_left
  · have k1 : (A.k != 1) = true := by simpa using h3
    clear hf hg h1' h2' h3 hp hp2 HEa HEb HTw HI HJ
    as_aux_lemma =>
      go_enter Tryd.func5, Tryd.ntmps5
      go_wp2_with (first
        | (go_at_call 20; (with_reducible refine (HAr.out _).mono ?_); rintro e wz ⟨rfl, rfl⟩)
        | (go_at_call 11; (with_reducible refine (HF1.out _ (by with_unfolding_all exact HK.out.r _ (.tail _ (.head _)))).mono ?_); rintro e wz ⟨rfl, hb⟩; have HK2 := Lib.hid (HK.out.next hb); clear HK x0 x1 x2 x3 x4 y0 y1 y2 y3 y4; have HK := HK2; clear HK2; clear hb; have x0 := (HK.out.a _ (.tail _ (.head _))).c0; have x1 := (HK.out.a _ (.tail _ (.head _))).c1; have x2 := (HK.out.a _ (.tail _ (.head _))).c2; have x3 := (HK.out.a _ (.tail _ (.head _))).c3; have x4 := (HK.out.a _ (.tail _ (.head _))).c4; have y0 := (HK.out.a _ (.head _)).c0; have y1 := (HK.out.a _ (.head _)).c1; have y2 := (HK.out.a _ (.head _)).c2; have y3 := (HK.out.a _ (.head _)).c3; have y4 := (HK.out.a _ (.head _)).c4)
        | (go_at_call 11; (with_reducible refine (HF2.out _ (by with_unfolding_all exact HK.out.r _ (.head _))).mono ?_); rintro e wz ⟨rfl, hb⟩; have HK2 := Lib.hid (HK.out.next hb); clear HK x0 x1 x2 x3 x4 y0 y1 y2 y3 y4; have HK := HK2; clear HK2; clear hb; have x0 := (HK.out.a _ (.tail _ (.head _))).c0; have x1 := (HK.out.a _ (.tail _ (.head _))).c1; have x2 := (HK.out.a _ (.tail _ (.head _))).c2; have x3 := (HK.out.a _ (.tail _ (.head _))).c3; have x4 := (HK.out.a _ (.tail _ (.head _))).c4; have y0 := (HK.out.a _ (.head _)).c0; have y1 := (HK.out.a _ (.head _)).c1; have y2 := (HK.out.a _ (.head _)).c2; have y3 := (HK.out.a _ (.head _)).c3; have y4 := (HK.out.a _ (.head _)).c4)
        | (go_at_call 21; (with_reducible refine (HC2.out _ (by with_unfolding_all exact HK.out.r _ (.head _))).mono ?_); rintro e wz ⟨rfl, hb⟩; have HK2 := Lib.hid (HK.out.next hb); clear HK x0 x1 x2 x3 x4 y0 y1 y2 y3 y4; have HK := HK2; clear HK2; clear hb; have x0 := (HK.out.a _ (.tail _ (.head _))).c0; have x1 := (HK.out.a _ (.tail _ (.head _))).c1; have x2 := (HK.out.a _ (.tail _ (.head _))).c2; have x3 := (HK.out.a _ (.tail _ (.head _))).c3; have x4 := (HK.out.a _ (.tail _ (.head _))).c4; have y0 := (HK.out.a _ (.head _)).c0; have y1 := (HK.out.a _ (.head _)).c1; have y2 := (HK.out.a _ (.head _)).c2; have y3 := (HK.out.a _ (.head _)).c3; have y4 := (HK.out.a _ (.head _)).c4)
        | (go_at_call 21; (with_reducible refine (HC1.out _ (by with_unfolding_all exact HK.out.r _ (.tail _ (.head _)))).mono ?_); rintro e wz ⟨rfl, hb⟩; have HK2 := Lib.hid (HK.out.next hb); clear HK x0 x1 x2 x3 x4 y0 y1 y2 y3 y4; have HK := HK2; clear HK2; clear hb; have x0 := (HK.out.a _ (.tail _ (.head _))).c0; have x1 := (HK.out.a _ (.tail _ (.head _))).c1; have x2 := (HK.out.a _ (.tail _ (.head _))).c2; have x3 := (HK.out.a _ (.tail _ (.head _))).c3; have x4 := (HK.out.a _ (.tail _ (.head _))).c4; have y0 := (HK.out.a _ (.head _)).c0; have y1 := (HK.out.a _ (.head _)).c1; have y2 := (HK.out.a _ (.head _)).c2; have y3 := (HK.out.a _ (.head _)).c3; have y4 := (HK.out.a _ (.head _)).c4)
        | (go_at_call 12; (with_reducible refine (HAw.out _ (by with_unfolding_all exact HK.out.lay)).mono ?_); rintro e wz ⟨rfl, hb⟩; have HK2 := Lib.hid (HK.out.next hb); clear HK x0 x1 x2 x3 x4 y0 y1 y2 y3 y4; have HK := HK2; clear HK2; clear hb; have x0 := (HK.out.a _ (.tail _ (.head _))).c0; have x1 := (HK.out.a _ (.tail _ (.head _))).c1; have x2 := (HK.out.a _ (.tail _ (.head _))).c2; have x3 := (HK.out.a _ (.tail _ (.head _))).c3; have x4 := (HK.out.a _ (.tail _ (.head _))).c4; have y0 := (HK.out.a _ (.head _)).c0; have y1 := (HK.out.a _ (.head _)).c1; have y2 := (HK.out.a _ (.head _)).c2; have y3 := (HK.out.a _ (.head _)).c3; have y4 := (HK.out.a _ (.head _)).c4))
      go_ret
      exact ⟨rfl, HK.out.bel⟩
  have k3 : (A.k != 1) = false := by simpa using h3
  by_cases h4 : B.k = 1
  rotate_left
  · have k1 : (B.k != 1) = true := by simpa using h4
    clear hf hg h1' h2' h3 h4 hp hp2 HEa HEb HTw HI HJ
    as_aux_lemma =>
      go_enter Tryd.func5, Tryd.ntmps5
      go_wp2_with (first
        | (go_at_call 20; (with_reducible refine (HAr.out _).mono ?_); rintro e wz ⟨rfl, rfl⟩)
        | (go_at_call 11; (with_reducible refine (HF1.out _ (by with_unfolding_all exact HK.out.r _ (.tail _ (.head _)))).mono ?_); rintro e wz ⟨rfl, hb⟩; have HK2 := Lib.hid (HK.out.next hb); clear HK x0 x1 x2 x3 x4 y0 y1 y2 y3 y4; have HK := HK2; clear HK2; clear hb; have x0 := (HK.out.a _ (.tail _ (.head _))).c0; have x1 := (HK.out.a _ (.tail _ (.head _))).c1; have x2 := (HK.out.a _ (.tail _ (.head _))).c2; have x3 := (HK.out.a _ (.tail _ (.head _))).c3; have x4 := (HK.out.a _ (.tail _ (.head _))).c4; have y0 := (HK.out.a _ (.head _)).c0; have y1 := (HK.out.a _ (.head _)).c1; have y2 := (HK.out.a _ (.head _)).c2; have y3 := (HK.out.a _ (.head _)).c3; have y4 := (HK.out.a _ (.head _)).c4)
        | (go_at_call 11; (with_reducible refine (HF2.out _ (by with_unfolding_all exact HK.out.r _ (.head _))).mono ?_); rintro e wz ⟨rfl, hb⟩; have HK2 := Lib.hid (HK.out.next hb); clear HK x0 x1 x2 x3 x4 y0 y1 y2 y3 y4; have HK := HK2; clear HK2; clear hb; have x0 := (HK.out.a _ (.tail _ (.head _))).c0; have x1 := (HK.out.a _ (.tail _ (.head _))).c1; have x2 := (HK.out.a _ (.tail _ (.head _))).c2; have x3 := (HK.out.a _ (.tail _ (.head _))).c3; have x4 := (HK.out.a _ (.tail _ (.head _))).c4; have y0 := (HK.out.a _ (.head _)).c0; have y1 := (HK.out.a _ (.head _)).c1; have y2 := (HK.out.a _ (.head _)).c2; have y3 := (HK.out.a _ (.head _)).c3; have y4 := (HK.out.a _ (.head _)).c4)
        | (go_at_call 21; (with_reducible refine (HC2.out _ (by with_unfolding_all exact HK.out.r _ (.head _))).mono ?_); rintro e wz ⟨rfl, hb⟩; have HK2 := Lib.hid (HK.out.next hb); clear HK x0 x1 x2 x3 x4 y0 y1 y2 y3 y4; have HK := HK2; clear HK2; clear hb; have x0 := (HK.out.a _ (.tail _ (.head _))).c0; have x1 := (HK.out.a _ (.tail _ (.head _))).c1; have x2 := (HK.out.a _ (.tail _ (.head _))).c2; have x3 := (HK.out.a _ (.tail _ (.head _))).c3; have x4 := (HK.out.a _ (.tail _ (.head _))).c4; have y0 := (HK.out.a _ (.head _)).c0; have y1 := (HK.out.a _ (.head _)).c1; have y2 := (HK.out.a _ (.head _)).c2; have y3 := (HK.out.a _ (.head _)).c3; have y4 := (HK.out.a _ (.head _)).c4)
        | (go_at_call 21; (with_reducible refine (HC1.out _ (by with_unfolding_all exact HK.out.r _ (.tail _ (.head _)))).mono ?_); rintro e wz ⟨rfl, hb⟩; have HK2 := Lib.hid (HK.out.next hb); clear HK x0 x1 x2 x3 x4 y0 y1 y2 y3 y4; have HK := HK2; clear HK2; clear hb; have x0 := (HK.out.a _ (.tail _ (.head _))).c0; have x1 := (HK.out.a _ (.tail _ (.head _))).c1; have x2 := (HK.out.a _ (.tail _ (.head _))).c2; have x3 := (HK.out.a _ (.tail _ (.head _))).c3; have x4 := (HK.out.a _ (.tail _ (.head _))).c4; have y0 := (HK.out.a _ (.head _)).c0; have y1 := (HK.out.a _ (.head _)).c1; have y2 := (HK.out.a _ (.head _)).c2; have y3 := (HK.out.a _ (.head _)).c3; have y4 := (HK.out.a _ (.head _)).c4)
        | (go_at_call 12; (with_reducible refine (HAw.out _ (by with_unfolding_all exact HK.out.lay)).mono ?_); rintro e wz ⟨rfl, hb⟩; have HK2 := Lib.hid (HK.out.next hb); clear HK x0 x1 x2 x3 x4 y0 y1 y2 y3 y4; have HK := HK2; clear HK2; clear hb; have x0 := (HK.out.a _ (.tail _ (.head _))).c0; have x1 := (HK.out.a _ (.tail _ (.head _))).c1; have x2 := (HK.out.a _ (.tail _ (.head _))).c2; have x3 := (HK.out.a _ (.tail _ (.head _))).c3; have x4 := (HK.out.a _ (.tail _ (.head _))).c4; have y0 := (HK.out.a _ (.head _)).c0; have y1 := (HK.out.a _ (.head _)).c1; have y2 := (HK.out.a _ (.head _)).c2; have y3 := (HK.out.a _ (.head _)).c3; have y4 := (HK.out.a _ (.head _)).c4))
      go_ret
      exact ⟨rfl, HK.out.bel⟩
  have k4 : (B.k != 1) = false := by simpa using h4
  have hA := ck_good h1'
  have hB := ck_good h2'
  have hkd : kdB p A B = true := by unfold kdB; rw [h3, h4]; simp
  have hF : twF p A B = boE A B := by rw [twF_fa hp, if_neg (not_not_intro h1'), h2', hkd]; unfold faV; simp
  have HT1 := Lib.hid (fun W h0 h1 h2 => etwo_any p A B (.slice q A.z.length cap) (.slice q' B.z.length cap') W h0 h1 h2 (by omega) (by omega) HI.out HJ.out)
  have HL1 := Lib.hid (fun W h0 h1 h2 => elens_any A B (.slice q A.z.length cap) (.slice q' B.z.length cap') W h0 h1 h2 (by omega) (by omega))
  clear hkd h3 h4 hp hp2
  by_cases h7 : boE A B ≠ 0
  · obtain ⟨e0, e2, _⟩ := ln_of h1' h2' (rfl : boE A B = boE A B)
    obtain ⟨e3, e4, e5⟩ := e2 h7
    have e6 : twV p A B = ⟨0, 0, 0, 0, []⟩ := by unfold twV; rw [hF]; exact exV_no h7 _ _
    have e7 : twE p A B = boE A B := by unfold twE; rw [hF]; exact exE_bad h7 _
    rw [e0, e3, e4, e5] at HL1
    rw [e6, e7] at HT1
    have hbv : boE A B = 22 ∨ boE A B = 11 := by rcases boE_vals A B with h | h; (exact absurd h h7); exact h
    generalize boE A B = E at HL1 HT1 hbv
    clear e0 e2 e3 e4 e5 e6 e7 h7 hF h1' h2' hA hB hf hg HEa HEb HTw HI HJ
    rcases hbv with rfl | rfl
    all_goals
      as_aux_lemma =>
        go_enter Tryd.func5, Tryd.ntmps5
        go_wp2_with (first
          | (go_at_call 20; (with_reducible refine (HAr.out _).mono ?_); rintro e wz ⟨rfl, rfl⟩)
          | (go_at_call 11; (with_reducible refine (HF1.out _ (by with_unfolding_all exact HK.out.r _ (.tail _ (.head _)))).mono ?_); rintro e wz ⟨rfl, hb⟩; have HK2 := Lib.hid (HK.out.next hb); clear HK x0 x1 x2 x3 x4 y0 y1 y2 y3 y4; have HK := HK2; clear HK2; clear hb; have x0 := (HK.out.a _ (.tail _ (.head _))).c0; have x1 := (HK.out.a _ (.tail _ (.head _))).c1; have x2 := (HK.out.a _ (.tail _ (.head _))).c2; have x3 := (HK.out.a _ (.tail _ (.head _))).c3; have x4 := (HK.out.a _ (.tail _ (.head _))).c4; have y0 := (HK.out.a _ (.head _)).c0; have y1 := (HK.out.a _ (.head _)).c1; have y2 := (HK.out.a _ (.head _)).c2; have y3 := (HK.out.a _ (.head _)).c3; have y4 := (HK.out.a _ (.head _)).c4)
          | (go_at_call 11; (with_reducible refine (HF2.out _ (by with_unfolding_all exact HK.out.r _ (.head _))).mono ?_); rintro e wz ⟨rfl, hb⟩; have HK2 := Lib.hid (HK.out.next hb); clear HK x0 x1 x2 x3 x4 y0 y1 y2 y3 y4; have HK := HK2; clear HK2; clear hb; have x0 := (HK.out.a _ (.tail _ (.head _))).c0; have x1 := (HK.out.a _ (.tail _ (.head _))).c1; have x2 := (HK.out.a _ (.tail _ (.head _))).c2; have x3 := (HK.out.a _ (.tail _ (.head _))).c3; have x4 := (HK.out.a _ (.tail _ (.head _))).c4; have y0 := (HK.out.a _ (.head _)).c0; have y1 := (HK.out.a _ (.head _)).c1; have y2 := (HK.out.a _ (.head _)).c2; have y3 := (HK.out.a _ (.head _)).c3; have y4 := (HK.out.a _ (.head _)).c4)
          | (go_at_call 21; (with_reducible refine (HC2.out _ (by with_unfolding_all exact HK.out.r _ (.head _))).mono ?_); rintro e wz ⟨rfl, hb⟩; have HK2 := Lib.hid (HK.out.next hb); clear HK x0 x1 x2 x3 x4 y0 y1 y2 y3 y4; have HK := HK2; clear HK2; clear hb; have x0 := (HK.out.a _ (.tail _ (.head _))).c0; have x1 := (HK.out.a _ (.tail _ (.head _))).c1; have x2 := (HK.out.a _ (.tail _ (.head _))).c2; have x3 := (HK.out.a _ (.tail _ (.head _))).c3; have x4 := (HK.out.a _ (.tail _ (.head _))).c4; have y0 := (HK.out.a _ (.head _)).c0; have y1 := (HK.out.a _ (.head _)).c1; have y2 := (HK.out.a _ (.head _)).c2; have y3 := (HK.out.a _ (.head _)).c3; have y4 := (HK.out.a _ (.head _)).c4)
          | (go_at_call 21; (with_reducible refine (HC1.out _ (by with_unfolding_all exact HK.out.r _ (.tail _ (.head _)))).mono ?_); rintro e wz ⟨rfl, hb⟩; have HK2 := Lib.hid (HK.out.next hb); clear HK x0 x1 x2 x3 x4 y0 y1 y2 y3 y4; have HK := HK2; clear HK2; clear hb; have x0 := (HK.out.a _ (.tail _ (.head _))).c0; have x1 := (HK.out.a _ (.tail _ (.head _))).c1; have x2 := (HK.out.a _ (.tail _ (.head _))).c2; have x3 := (HK.out.a _ (.tail _ (.head _))).c3; have x4 := (HK.out.a _ (.tail _ (.head _))).c4; have y0 := (HK.out.a _ (.head _)).c0; have y1 := (HK.out.a _ (.head _)).c1; have y2 := (HK.out.a _ (.head _)).c2; have y3 := (HK.out.a _ (.head _)).c3; have y4 := (HK.out.a _ (.head _)).c4)
          | (go_at_call 18; (with_reducible refine (HL1.out _ (by with_unfolding_all exact HK.out.lay) (by with_unfolding_all exact HK.out.r _ (.tail _ (.head _))) (by with_unfolding_all exact HK.out.r _ (.head _))).mono ?_); rintro e wc ⟨rfl, hb⟩; have HK2 := Lib.hid ((HK.out.next hb).next (bel1 _ (.cells #[.int .i64 0, .int .i64 0] 22))); clear HK x0 x1 x2 x3 x4 y0 y1 y2 y3 y4; have HK := HK2; clear HK2; clear hb; have x0 := (HK.out.a _ (.tail _ (.head _))).c0; have x1 := (HK.out.a _ (.tail _ (.head _))).c1; have x2 := (HK.out.a _ (.tail _ (.head _))).c2; have x3 := (HK.out.a _ (.tail _ (.head _))).c3; have x4 := (HK.out.a _ (.tail _ (.head _))).c4; have y0 := (HK.out.a _ (.head _)).c0; have y1 := (HK.out.a _ (.head _)).c1; have y2 := (HK.out.a _ (.head _)).c2; have y3 := (HK.out.a _ (.head _)).c3; have y4 := (HK.out.a _ (.head _)).c4)
          | (go_at_call 16; (with_reducible refine (HT1.out _ (by with_unfolding_all exact HK.out.lay) (by with_unfolding_all exact HK.out.r _ (.tail _ (.head _))) (by with_unfolding_all exact HK.out.r _ (.head _))).mono ?_); rintro e wd ⟨uwd, rfl, hu, hb⟩; obtain ⟨pwd, cwd, hpwd, _, _⟩ := hu.form; have hqwd : uwd = (.slice pwd 0 cwd) := hpwd; subst hqwd; clear hpwd; have hltyc : (w.heap.size + 1) < wd.heap.size := Nat.lt_of_lt_of_le (HK.out.lt _ (.head _)) hb.size; have hltxc : w.heap.size < wd.heap.size := Nat.lt_of_lt_of_le (HK.out.lt _ (.tail _ (.head _))) hb.size; have HK2 := Lib.hid (HK.out.res hb ⟨0, 0, 0, 0, []⟩ hu); clear HK x0 x1 x2 x3 x4 y0 y1 y2 y3 y4; have HK := HK2; clear HK2; clear hb hu; have x0 := (HK.out.a _ (.tail _ (.tail _ (.head _)))).c0; have x1 := (HK.out.a _ (.tail _ (.tail _ (.head _)))).c1; have x2 := (HK.out.a _ (.tail _ (.tail _ (.head _)))).c2; have x3 := (HK.out.a _ (.tail _ (.tail _ (.head _)))).c3; have x4 := (HK.out.a _ (.tail _ (.tail _ (.head _)))).c4; have y0 := (HK.out.a _ (.tail _ (.head _))).c0; have y1 := (HK.out.a _ (.tail _ (.head _))).c1; have y2 := (HK.out.a _ (.tail _ (.head _))).c2; have y3 := (HK.out.a _ (.tail _ (.head _))).c3; have y4 := (HK.out.a _ (.tail _ (.head _))).c4; have c0 := (HK.out.a _ (.head _)).c0; have c1 := (HK.out.a _ (.head _)).c1; have c2 := (HK.out.a _ (.head _)).c2; have c3 := (HK.out.a _ (.head _)).c3; have c4 := (HK.out.a _ (.head _)).c4)
          | (go_at_call 12; (with_reducible refine (HAw.out _ (by with_unfolding_all exact HK.out.lay)).mono ?_); rintro e wz ⟨rfl, hb⟩; have HK2 := Lib.hid (HK.out.next hb); clear HK x0 x1 x2 x3 x4 y0 y1 y2 y3 y4 c0 c1 c2 c3 c4; have HK := HK2; clear HK2; clear hb; have x0 := (HK.out.a _ (.tail _ (.tail _ (.head _)))).c0; have x1 := (HK.out.a _ (.tail _ (.tail _ (.head _)))).c1; have x2 := (HK.out.a _ (.tail _ (.tail _ (.head _)))).c2; have x3 := (HK.out.a _ (.tail _ (.tail _ (.head _)))).c3; have x4 := (HK.out.a _ (.tail _ (.tail _ (.head _)))).c4; have y0 := (HK.out.a _ (.tail _ (.head _))).c0; have y1 := (HK.out.a _ (.tail _ (.head _))).c1; have y2 := (HK.out.a _ (.tail _ (.head _))).c2; have y3 := (HK.out.a _ (.tail _ (.head _))).c3; have y4 := (HK.out.a _ (.tail _ (.head _))).c4; have c0 := (HK.out.a _ (.head _)).c0; have c1 := (HK.out.a _ (.head _)).c1; have c2 := (HK.out.a _ (.head _)).c2; have c3 := (HK.out.a _ (.head _)).c3; have c4 := (HK.out.a _ (.head _)).c4)
          | fail)
        go_ret
        exact ⟨rfl, HK.out.bel⟩
  have h7' : boE A B = 0 := by omega
  obtain ⟨e0, _, e2⟩ := ln_of h1' h2' h7'
  obtain ⟨e3, e4, e5⟩ := e2 rfl
  rw [e0, e3, e4, e5] at HL1
  have hE : twE p A B = feL (c2 p A B) := by unfold twE; rw [hF, h7']; exact exE_ok _
  have HAt : Hid (∀ j, j < (boV A B).z.length → (c2 p A B)[j]? = some (Sc.twoV p (celI A j) (celI B j))) := fun j hj => c2_at hj
  have HLc : Hid ((c2 p A B).length = (boV A B).z.length) := c2_len p A B
  have HBl : Hid (∀ j, j < (boV A B).z.length → (if A.r = 0 then 0 else j) < A.z.length ∧ (if B.r = 0 then 0 else j) < B.z.length) := fun j hj => bo_lt hA hB h7' hj
  have h400 := (bo_good hA hB).len4
  have hmany := bo_many hA hB
  have hsame := bo_same hA hB h7'
  have HCk : Hid (∀ z : List Int, z.length = (boV A B).z.length → ck ⟨1, (boV A B).r, (boV A B).a, (boV A B).b, z⟩ = 0) := fun z h => ex_ck (bo_good hA hB) h
  have hVo : feL (c2 p A B) = 0 → twV p A B = ⟨1, (boV A B).r, (boV A B).a, (boV A B).b, vsL (c2 p A B)⟩ := fun h => twV_ok (hE.trans h)
  have hVb : feL (c2 p A B) ≠ 0 → twV p A B = ⟨0, 0, 0, 0, []⟩ := fun h => by unfold twV; rw [hF, h7']; exact exV_bad h
  have hsm2 : A.r = 0 → B.r = 0 → A.z.length = B.z.length := fun h1 h2 => by have := (hA.r0 h1).2.2; have := (hB.r0 h2).2.2; omega
  rw [hE] at HT1
  clear e0 e2 e3 e4 e5 h7 h7' hF h1' h2' hA hB hf hg hE
  generalize twV p A B = X at HT1 hVo hVb
  generalize c2 p A B = cs at HT1 hVo hVb HAt HLc
  generalize boV A B = L at HL1 hVo HAt HLc HBl h400 hmany HCk
  obtain ⟨lk, lr, la, lb, lz⟩ := L
  simp only at HL1 hVo HAt HLc HBl h400 hmany HCk
  obtain ⟨n, hn⟩ : ∃ n, lz.length = n := ⟨_, rfl⟩
  rw [hn] at HAt HLc HBl h400 hmany HCk
  clear hn
  by_cases hz : feL cs = 0
  · obtain rfl := hVo hz
    rw [hz] at HT1
    have HF := Lib.hid hz
    have HCel : Hid (∀ j c E, cs[j]? = some (c, E) → (vsL cs).getD j 0 = c) := fun j c E h => vsL_at h
    have hzl : (vsL cs).length = n := by rw [vsL_len, HLc.out]
    have HCs := Lib.hid hzl
    generalize vsL cs = zz at HT1 HCel hzl HCs
    replace HCk := Lib.hid (HCk.out zz hzl)
    clear hVo hVb hz
    by_cases hra : A.r = 0
    · have k5 : (A.r == 0) = true := by simpa using hra
      rw [if_pos hra] at hmany
      by_cases hrb : B.r = 0
      · have k6 : (B.r == 0) = true := by simpa using hrb
        rw [← hsm2 hra hrb] at hmany
        have k7 : ((zz.length : Int) == (A.z.length : Int)) = true := by rw [hzl, hmany]; simp
        have HMn := Lib.hid hmany
        clear hra hrb hsm2 hsame hmany hzl
        as_aux_lemma =>
          go_enter Tryd.func5, Tryd.ntmps5
          go_wp2_with (first
            | (go_at_call 20; (with_reducible refine (HAr.out _).mono ?_); rintro e wz ⟨rfl, rfl⟩)
            | (go_at_call 11; (with_reducible refine (HF1.out _ (by with_unfolding_all exact HK.out.r _ (.tail _ (.head _)))).mono ?_); rintro e wz ⟨rfl, hb⟩; have HK2 := Lib.hid (HK.out.next hb); clear HK x0 x1 x2 x3 x4 y0 y1 y2 y3 y4; have HK := HK2; clear HK2; clear hb; have x0 := (HK.out.a _ (.tail _ (.head _))).c0; have x1 := (HK.out.a _ (.tail _ (.head _))).c1; have x2 := (HK.out.a _ (.tail _ (.head _))).c2; have x3 := (HK.out.a _ (.tail _ (.head _))).c3; have x4 := (HK.out.a _ (.tail _ (.head _))).c4; have y0 := (HK.out.a _ (.head _)).c0; have y1 := (HK.out.a _ (.head _)).c1; have y2 := (HK.out.a _ (.head _)).c2; have y3 := (HK.out.a _ (.head _)).c3; have y4 := (HK.out.a _ (.head _)).c4)
            | (go_at_call 11; (with_reducible refine (HF2.out _ (by with_unfolding_all exact HK.out.r _ (.head _))).mono ?_); rintro e wz ⟨rfl, hb⟩; have HK2 := Lib.hid (HK.out.next hb); clear HK x0 x1 x2 x3 x4 y0 y1 y2 y3 y4; have HK := HK2; clear HK2; clear hb; have x0 := (HK.out.a _ (.tail _ (.head _))).c0; have x1 := (HK.out.a _ (.tail _ (.head _))).c1; have x2 := (HK.out.a _ (.tail _ (.head _))).c2; have x3 := (HK.out.a _ (.tail _ (.head _))).c3; have x4 := (HK.out.a _ (.tail _ (.head _))).c4; have y0 := (HK.out.a _ (.head _)).c0; have y1 := (HK.out.a _ (.head _)).c1; have y2 := (HK.out.a _ (.head _)).c2; have y3 := (HK.out.a _ (.head _)).c3; have y4 := (HK.out.a _ (.head _)).c4)
            | (go_at_call 21; (with_reducible refine (HC2.out _ (by with_unfolding_all exact HK.out.r _ (.head _))).mono ?_); rintro e wz ⟨rfl, hb⟩; have HK2 := Lib.hid (HK.out.next hb); clear HK x0 x1 x2 x3 x4 y0 y1 y2 y3 y4; have HK := HK2; clear HK2; clear hb; have x0 := (HK.out.a _ (.tail _ (.head _))).c0; have x1 := (HK.out.a _ (.tail _ (.head _))).c1; have x2 := (HK.out.a _ (.tail _ (.head _))).c2; have x3 := (HK.out.a _ (.tail _ (.head _))).c3; have x4 := (HK.out.a _ (.tail _ (.head _))).c4; have y0 := (HK.out.a _ (.head _)).c0; have y1 := (HK.out.a _ (.head _)).c1; have y2 := (HK.out.a _ (.head _)).c2; have y3 := (HK.out.a _ (.head _)).c3; have y4 := (HK.out.a _ (.head _)).c4)
            | (go_at_call 21; (with_reducible refine (HC1.out _ (by with_unfolding_all exact HK.out.r _ (.tail _ (.head _)))).mono ?_); rintro e wz ⟨rfl, hb⟩; have HK2 := Lib.hid (HK.out.next hb); clear HK x0 x1 x2 x3 x4 y0 y1 y2 y3 y4; have HK := HK2; clear HK2; clear hb; have x0 := (HK.out.a _ (.tail _ (.head _))).c0; have x1 := (HK.out.a _ (.tail _ (.head _))).c1; have x2 := (HK.out.a _ (.tail _ (.head _))).c2; have x3 := (HK.out.a _ (.tail _ (.head _))).c3; have x4 := (HK.out.a _ (.tail _ (.head _))).c4; have y0 := (HK.out.a _ (.head _)).c0; have y1 := (HK.out.a _ (.head _)).c1; have y2 := (HK.out.a _ (.head _)).c2; have y3 := (HK.out.a _ (.head _)).c3; have y4 := (HK.out.a _ (.head _)).c4)
            | (go_at_call 18; (with_reducible refine (HL1.out _ (by with_unfolding_all exact HK.out.lay) (by with_unfolding_all exact HK.out.r _ (.tail _ (.head _))) (by with_unfolding_all exact HK.out.r _ (.head _))).mono ?_); rintro e wc ⟨rfl, hb⟩; have HK2 := Lib.hid ((HK.out.next hb).next (bel1 _ (.cells #[.int .i64 la, .int .i64 lb] 22))); clear HK x0 x1 x2 x3 x4 y0 y1 y2 y3 y4; have HK := HK2; clear HK2; clear hb; have HB1 := Lib.hid (R2.new wc la lb); have x0 := (HK.out.a _ (.tail _ (.head _))).c0; have x1 := (HK.out.a _ (.tail _ (.head _))).c1; have x2 := (HK.out.a _ (.tail _ (.head _))).c2; have x3 := (HK.out.a _ (.tail _ (.head _))).c3; have x4 := (HK.out.a _ (.tail _ (.head _))).c4; have y0 := (HK.out.a _ (.head _)).c0; have y1 := (HK.out.a _ (.head _)).c1; have y2 := (HK.out.a _ (.head _)).c2; have y3 := (HK.out.a _ (.head _)).c3; have y4 := (HK.out.a _ (.head _)).c4)
            | (go_at_call 16; (with_reducible refine (HT1.out _ (by with_unfolding_all exact HK.out.lay) (by with_unfolding_all exact HK.out.r _ (.tail _ (.head _))) (by with_unfolding_all exact HK.out.r _ (.head _))).mono ?_); rintro e wd ⟨uwd, rfl, hu, hb⟩; obtain ⟨pwd, cwd, hpwd, _, _⟩ := hu.form; have hqwd : uwd = (.slice pwd zz.length cwd) := hpwd; subst hqwd; clear hpwd; have hltyc : (w.heap.size + 1) < wd.heap.size := Nat.lt_of_lt_of_le (HK.out.lt _ (.head _)) hb.size; have hltxc : w.heap.size < wd.heap.size := Nat.lt_of_lt_of_le (HK.out.lt _ (.tail _ (.head _))) hb.size; have HK2 := Lib.hid (HK.out.res hb ⟨1, lr, la, lb, zz⟩ hu); clear HK x0 x1 x2 x3 x4 y0 y1 y2 y3 y4; have HK := HK2; clear HK2; have HB2 := Lib.hid ((HB1.out.next hb).next (bel1 _ (.cells #[.int .i64 1, .int .i64 lr, .int .i64 la, .int .i64 lb, .slice pwd zz.length cwd] 25))); clear HB1 hb hu; have x0 := (HK.out.a _ (.tail _ (.tail _ (.head _)))).c0; have x1 := (HK.out.a _ (.tail _ (.tail _ (.head _)))).c1; have x2 := (HK.out.a _ (.tail _ (.tail _ (.head _)))).c2; have x3 := (HK.out.a _ (.tail _ (.tail _ (.head _)))).c3; have x4 := (HK.out.a _ (.tail _ (.tail _ (.head _)))).c4; have y0 := (HK.out.a _ (.tail _ (.head _))).c0; have y1 := (HK.out.a _ (.tail _ (.head _))).c1; have y2 := (HK.out.a _ (.tail _ (.head _))).c2; have y3 := (HK.out.a _ (.tail _ (.head _))).c3; have y4 := (HK.out.a _ (.tail _ (.head _))).c4; have c0 := (HK.out.a _ (.head _)).c0; have c1 := (HK.out.a _ (.head _)).c1; have c2 := (HK.out.a _ (.head _)).c2; have c3 := (HK.out.a _ (.head _)).c3; have c4 := (HK.out.a _ (.head _)).c4)
            | fail)
          generalize wc.heap.size = gl at HB2 ⊢
          generalize World.alloc wd _ = W0 at HK HB2 ⊢
          generalize wd.heap.size = gc at HK ⊢
          clear x0 x1 x2 x3 x4 y0 y1 y2 y3 y4 c0 c1 c2 c3 c4 HF1 HF2 HC1 HC2 HAr HL1 HT1
          go_loopg [15] n (fun g i wr => ∃ j : Nat, j + g = n ∧ i = .int .i64 j ∧ okT cs j ∧ KVar w [⟨gc, ⟨1, lr, la, lb, zz⟩, (.slice pwd zz.length cwd)⟩, ⟨(w.heap.size + 1), B, (.slice q' B.z.length cap')⟩, ⟨w.heap.size, A, (.slice q A.z.length cap)⟩] wr ∧ R2 wr gl la lb)
          case atStart => exact ⟨0, by omega, rfl, okT_zero _, HK.out, HB2.out⟩
          case round =>
            obtain ⟨j, hjg, rfl, hok, hk, h2⟩ := hrel
            clear HK HB2
            have HOk := Lib.hid hok
            have HK := Lib.hid hk
            have HB := Lib.hid h2
            clear hok hk h2
            cases gk with
            | zero =>
              have hjz : ¬ ((j : Int) < (n : Int)) := by omega
              have hjz2 := hjz
              rw [HMn.out] at hjz2
              have x0 := (HK.out.a _ (.tail _ (.tail _ (.head _)))).c0
              have x1 := (HK.out.a _ (.tail _ (.tail _ (.head _)))).c1
              have x2 := (HK.out.a _ (.tail _ (.tail _ (.head _)))).c2
              have x3 := (HK.out.a _ (.tail _ (.tail _ (.head _)))).c3
              have x4 := (HK.out.a _ (.tail _ (.tail _ (.head _)))).c4
              have y0 := (HK.out.a _ (.tail _ (.head _))).c0
              have y1 := (HK.out.a _ (.tail _ (.head _))).c1
              have y2 := (HK.out.a _ (.tail _ (.head _))).c2
              have y3 := (HK.out.a _ (.tail _ (.head _))).c3
              have y4 := (HK.out.a _ (.tail _ (.head _))).c4
              have c0 := (HK.out.a _ (.head _)).c0
              have c1 := (HK.out.a _ (.head _)).c1
              have c2 := (HK.out.a _ (.head _)).c2
              have c3 := (HK.out.a _ (.head _)).c3
              have c4 := (HK.out.a _ (.head _)).c4
              have b0 := HB.out.c0
              have b1 := HB.out.c1
              have HQ := fun W => eq2t10 la lb W
              clear HOk HAt HLc HBl HTw HEa HEb HI HJ HCel
              have HCc := Lib.hid (fun v W h => archeck_any ⟨1, lr, la, lb, zz⟩ v W h (by rw [HCs.out]; omega))
              rw [HCk.out] at HCc
              go_wp2_with (first
                | (go_at_call 21; (with_reducible refine (HCc.out _ _ (by with_unfolding_all exact HK.out.r _ (.head _))).mono ?_); rintro e wz ⟨rfl, hb⟩; have HK2 := Lib.hid (HK.out.next hb); clear HK x0 x1 x2 x3 x4 y0 y1 y2 y3 y4 c0 c1 c2 c3 c4; have HK := HK2; clear HK2; clear hb; have x0 := (HK.out.a _ (.tail _ (.tail _ (.head _)))).c0; have x1 := (HK.out.a _ (.tail _ (.tail _ (.head _)))).c1; have x2 := (HK.out.a _ (.tail _ (.tail _ (.head _)))).c2; have x3 := (HK.out.a _ (.tail _ (.tail _ (.head _)))).c3; have x4 := (HK.out.a _ (.tail _ (.tail _ (.head _)))).c4; have y0 := (HK.out.a _ (.tail _ (.head _))).c0; have y1 := (HK.out.a _ (.tail _ (.head _))).c1; have y2 := (HK.out.a _ (.tail _ (.head _))).c2; have y3 := (HK.out.a _ (.tail _ (.head _))).c3; have y4 := (HK.out.a _ (.tail _ (.head _))).c4; have c0 := (HK.out.a _ (.head _)).c0; have c1 := (HK.out.a _ (.head _)).c1; have c2 := (HK.out.a _ (.head _)).c2; have c3 := (HK.out.a _ (.head _)).c3; have c4 := (HK.out.a _ (.head _)).c4)
                | (go_at_call 12; (with_reducible refine (HAw.out _ (by with_unfolding_all exact HK.out.lay)).mono ?_); rintro e wz ⟨rfl, hb⟩; have HK2 := Lib.hid (HK.out.next hb); clear HK x0 x1 x2 x3 x4 y0 y1 y2 y3 y4 c0 c1 c2 c3 c4; have HK := HK2; clear HK2; clear hb; have x0 := (HK.out.a _ (.tail _ (.tail _ (.head _)))).c0; have x1 := (HK.out.a _ (.tail _ (.tail _ (.head _)))).c1; have x2 := (HK.out.a _ (.tail _ (.tail _ (.head _)))).c2; have x3 := (HK.out.a _ (.tail _ (.tail _ (.head _)))).c3; have x4 := (HK.out.a _ (.tail _ (.tail _ (.head _)))).c4; have y0 := (HK.out.a _ (.tail _ (.head _))).c0; have y1 := (HK.out.a _ (.tail _ (.head _))).c1; have y2 := (HK.out.a _ (.tail _ (.head _))).c2; have y3 := (HK.out.a _ (.tail _ (.head _))).c3; have y4 := (HK.out.a _ (.tail _ (.head _))).c4; have c0 := (HK.out.a _ (.head _)).c0; have c1 := (HK.out.a _ (.head _)).c1; have c2 := (HK.out.a _ (.head _)).c2; have c3 := (HK.out.a _ (.head _)).c3; have c4 := (HK.out.a _ (.head _)).c4)
                | fail)
              go_ret
              exact ⟨rfl, HK.out.bel⟩
            | succ g =>
              have hjz : (j : Int) < (n : Int) := by omega
              have hjz2 := hjz
              rw [HMn.out] at hjz2
              have hj : j < n := by omega
              have hcs := HAt.out j hj
              have hbl := HBl.out j hj
              have hia : Sc.inr (celI A j) = true := HI.out.get _
              have hib : Sc.inr (celI B j) = true := HJ.out.get _
              have HEa1 := Lib.hid (fun W h => HEa.out j W h hbl.1)
              have HEb1 := Lib.hid (fun W h => HEb.out j W h hbl.2)
              generalize celI A j = x at HEa1 hcs hia
              generalize celI B j = y at HEb1 hcs hib
              have HC := Lib.hid (fun W => HTw.out x y W hia hib)
              generalize Sc.twoV p x y = c at HC hcs
              obtain ⟨c, E'⟩ := c
              simp only at HC
              clear hia hib hbl
              have x0 := (HK.out.a _ (.tail _ (.tail _ (.head _)))).c0
              have x1 := (HK.out.a _ (.tail _ (.tail _ (.head _)))).c1
              have x2 := (HK.out.a _ (.tail _ (.tail _ (.head _)))).c2
              have x3 := (HK.out.a _ (.tail _ (.tail _ (.head _)))).c3
              have x4 := (HK.out.a _ (.tail _ (.tail _ (.head _)))).c4
              have y0 := (HK.out.a _ (.tail _ (.head _))).c0
              have y1 := (HK.out.a _ (.tail _ (.head _))).c1
              have y2 := (HK.out.a _ (.tail _ (.head _))).c2
              have y3 := (HK.out.a _ (.tail _ (.head _))).c3
              have y4 := (HK.out.a _ (.tail _ (.head _))).c4
              go_wp2_with fail
              clear x0 x1 x2 x3 x4 y0 y1 y2 y3 y4
              go_cut [16, 17] (fun sx se wx => sx = .int .i64 c ∧ se = .int .i64 E' ∧ Below wr.heap.size wr wx)
              case first =>
                as_aux_lemma =>
                  have HAll : Hid (∀ W, Below wr.heap.size wr W → (fun W => Below wr.heap.size wr W ∧ W.cell? ⟨w.heap.size, 0, none⟩ = some (.int .i64 A.k) ∧ W.cell? ⟨w.heap.size, 1, none⟩ = some (.int .i64 A.r) ∧ W.cell? ⟨w.heap.size, 2, none⟩ = some (.int .i64 A.a) ∧ W.cell? ⟨w.heap.size, 3, none⟩ = some (.int .i64 A.b) ∧ W.cell? ⟨w.heap.size, 4, none⟩ = some ((.slice q A.z.length cap)) ∧ W.cell? ⟨(w.heap.size + 1), 0, none⟩ = some (.int .i64 B.k) ∧ W.cell? ⟨(w.heap.size + 1), 1, none⟩ = some (.int .i64 B.r) ∧ W.cell? ⟨(w.heap.size + 1), 2, none⟩ = some (.int .i64 B.a) ∧ W.cell? ⟨(w.heap.size + 1), 3, none⟩ = some (.int .i64 B.b) ∧ W.cell? ⟨(w.heap.size + 1), 4, none⟩ = some ((.slice q' B.z.length cap'))) W) := fun W h => ⟨h, ((HK.out.next h).a _ (.tail _ (.tail _ (.head _)))).c0, ((HK.out.next h).a _ (.tail _ (.tail _ (.head _)))).c1, ((HK.out.next h).a _ (.tail _ (.tail _ (.head _)))).c2, ((HK.out.next h).a _ (.tail _ (.tail _ (.head _)))).c3, ((HK.out.next h).a _ (.tail _ (.tail _ (.head _)))).c4, ((HK.out.next h).a _ (.tail _ (.head _))).c0, ((HK.out.next h).a _ (.tail _ (.head _))).c1, ((HK.out.next h).a _ (.tail _ (.head _))).c2, ((HK.out.next h).a _ (.tail _ (.head _))).c3, ((HK.out.next h).a _ (.tail _ (.head _))).c4⟩
                  clear HAt HLc HBl HOk HB HI HJ HEa HEb HTw hcs
                  refine wp_region_held_drew (S := (fun W => Below wr.heap.size wr W ∧ W.cell? ⟨w.heap.size, 0, none⟩ = some (.int .i64 A.k) ∧ W.cell? ⟨w.heap.size, 1, none⟩ = some (.int .i64 A.r) ∧ W.cell? ⟨w.heap.size, 2, none⟩ = some (.int .i64 A.a) ∧ W.cell? ⟨w.heap.size, 3, none⟩ = some (.int .i64 A.b) ∧ W.cell? ⟨w.heap.size, 4, none⟩ = some ((.slice q A.z.length cap)) ∧ W.cell? ⟨(w.heap.size + 1), 0, none⟩ = some (.int .i64 B.k) ∧ W.cell? ⟨(w.heap.size + 1), 1, none⟩ = some (.int .i64 B.r) ∧ W.cell? ⟨(w.heap.size + 1), 2, none⟩ = some (.int .i64 B.a) ∧ W.cell? ⟨(w.heap.size + 1), 3, none⟩ = some (.int .i64 B.b) ∧ W.cell? ⟨(w.heap.size + 1), 4, none⟩ = some ((.slice q' B.z.length cap')))) (by kernel_rfl) ?_ (fun hHeld => ?_)
                  · exact HAll.out _ (Below.refl _ _).drew
                  have HB0 : Hid (Below wr.heap.size wr (World.drew wr)) := (Below.refl _ _).drew
                  generalize World.drew wr = wd at hHeld HB0 ⊢
                  refine wpAnyH_take (i := 0) (v := ?_) rfl (by kernel_rfl) (by kernel_rfl) (by kernel_rfl) (fun _ _ _ h => h) (Or.inl ⟨by rfl, ?_⟩) (by assumption) ?_
                  rotate_left
                  · ((intro w0 hSw); (try dsimp only at hSw); go_simp; (try with_reducible rfl))
                  change wpAnyH _ _ _ _ _ _ _ (Act.put _ (some 113) _) _
                  try simp only [Act.put, List.setIfInBounds_toArray, List.set_cons_zero, List.set_cons_succ]
                  refine wpAnyH_take (i := 1) (v := ?_) rfl (by kernel_rfl) (by kernel_rfl) (by kernel_rfl) (fun _ _ _ h => h) (Or.inl ⟨by rfl, ?_⟩) (by assumption) ?_
                  rotate_left
                  · ((intro w0 hSw); (try dsimp only at hSw); go_simp; (try with_reducible rfl))
                  change wpAnyH _ _ _ _ _ _ _ (Act.put _ (some 114) _) _
                  try simp only [Act.put, List.setIfInBounds_toArray, List.set_cons_zero, List.set_cons_succ]
                  refine wpAnyH_take (i := 2) (v := ?_) rfl (by kernel_rfl) (by kernel_rfl) (by kernel_rfl) (fun _ _ _ h => h) (Or.inl ⟨by rfl, ?_⟩) (by assumption) ?_
                  rotate_left
                  · ((intro w0 hSw); (try dsimp only at hSw); go_simp; (try with_reducible rfl))
                  change wpAnyH _ _ _ _ _ _ _ (Act.put _ (some 115) _) _
                  try simp only [Act.put, List.setIfInBounds_toArray, List.set_cons_zero, List.set_cons_succ]
                  refine wpAnyH_take (i := 4) (v := ?_) rfl (by kernel_rfl) (by kernel_rfl) (by kernel_rfl) (fun _ _ _ h => h) (Or.inl ⟨by rfl, ?_⟩) (by assumption) ?_
                  rotate_left
                  · ((intro w0 hSw); (try dsimp only at hSw); go_simp; (try with_reducible rfl))
                  change wpAnyH _ _ _ _ _ _ _ (Act.put _ (some 117) _) _
                  try simp only [Act.put, List.setIfInBounds_toArray, List.set_cons_zero, List.set_cons_succ]
                  refine wpAnyH_take (i := 5) (v := ?_) rfl (by kernel_rfl) (by kernel_rfl) (by kernel_rfl) (fun _ _ _ h => h) (Or.inl ⟨by rfl, ?_⟩) (by assumption) ?_
                  rotate_left
                  · ((intro w0 hSw); (try dsimp only at hSw); go_simp; (try with_reducible rfl))
                  change wpAnyH _ _ _ _ _ _ _ (Act.put _ (some 118) _) _
                  try simp only [Act.put, List.setIfInBounds_toArray, List.set_cons_zero, List.set_cons_succ]
                  refine wpAnyH_ready (rs := [3]) (by kernel_rfl) (by simp) ?_
                  refine AllReadyH.cons rfl (fun K hK => ?_) (AllReadyH.nil)
                  go_simp
                  go_at_call 23
                  with_reducible refine (HEa1.out _ (by with_unfolding_all exact (HK.out.next HB0.out).r _ (.tail _ (.tail _ (.head _))))).mono ?_
                  rintro e wn ⟨rfl, hb⟩
                  have HB1 := Lib.hid (HB0.out.trans (hb.mono HB0.out.size))
                  clear hb
                  refine hK.out _ _ ?_ (fun hHeld2 => ?_)
                  · exact HAll.out _ HB1.out
                  clear hK K hHeld
                  have hHeld := hHeld2; clear hHeld2
                  try change wpAnyH _ _ _ _ _ _ _ (Act.put _ (some 116) _) _
                  try dsimp only
                  try simp only [Act.put, List.setIfInBounds_toArray, List.set_cons_zero, List.set_cons_succ]
                  refine wpAnyH_ready (rs := [6]) (by kernel_rfl) (by simp) ?_
                  refine AllReadyH.cons rfl (fun K hK => ?_) (AllReadyH.nil)
                  go_simp
                  go_at_call 23
                  with_reducible refine (HEb1.out _ (by with_unfolding_all exact (HK.out.next HB1.out).r _ (.tail _ (.head _)))).mono ?_
                  rintro e wn ⟨rfl, hb⟩
                  have HB2 := Lib.hid (HB1.out.trans (hb.mono HB1.out.size))
                  clear hb
                  refine hK.out _ _ ?_ (fun hHeld2 => ?_)
                  · exact HAll.out _ HB2.out
                  clear hK K hHeld
                  have hHeld := hHeld2; clear hHeld2
                  try change wpAnyH _ _ _ _ _ _ _ (Act.put _ (some 119) _) _
                  try dsimp only
                  try simp only [Act.put, List.setIfInBounds_toArray, List.set_cons_zero, List.set_cons_succ]
                  refine wpAnyH_ready (rs := [7]) (by kernel_rfl) (by simp) ?_
                  refine AllReadyH.cons rfl (fun K hK => ?_) (AllReadyH.nil)
                  go_simp
                  go_at_call 22
                  with_reducible refine (HC.out _).mono ?_
                  rintro e wn ⟨rfl, hb⟩
                  have HB3 := Lib.hid (HB2.out.trans (hb.mono HB2.out.size))
                  clear hb
                  refine hK.out _ _ ?_ (fun hHeld2 => ?_)
                  · exact HAll.out _ HB3.out
                  clear hK K hHeld
                  have hHeld := hHeld2; clear hHeld2
                  try change wpAnyH _ _ _ _ _ _ _ (Act.put _ (some 120) _) _
                  try dsimp only
                  try simp only [Act.put, List.setIfInBounds_toArray, List.set_cons_zero, List.set_cons_succ]
                  refine wpAnyH_take (i := 8) (v := ?_) rfl (by kernel_rfl) (by kernel_rfl) (by kernel_rfl) (fun _ _ _ h => h) (Or.inl ⟨by rfl, ?_⟩) (by assumption) ?_
                  rotate_left
                  · ((intro w0 hSw); (try dsimp only at hSw); go_simp; (try with_reducible rfl))
                  change wpAnyH _ _ _ _ _ _ _ (Act.put _ (some 112) _) _
                  try simp only [Act.put, List.setIfInBounds_toArray, List.set_cons_zero, List.set_cons_succ]
                  refine wpAnyH_take (i := 9) (v := ?_) rfl (by kernel_rfl) (by kernel_rfl) (by kernel_rfl) (fun _ _ _ h => h) (Or.inl ⟨by rfl, ?_⟩) (by assumption) ?_
                  rotate_left
                  · ((intro w0 hSw); (try dsimp only at hSw); go_simp; (try with_reducible rfl))
                  change wpAnyH _ _ _ _ _ _ _ (Act.put _ (some 121) _) _
                  try simp only [Act.put, List.setIfInBounds_toArray, List.set_cons_zero, List.set_cons_succ]
                  refine wpAnyH_take (i := 10) (v := ?_) rfl (by kernel_rfl) (by kernel_rfl) (by kernel_rfl) (fun _ _ _ h => h) (Or.inl ⟨by rfl, ?_⟩) (by assumption) ?_
                  rotate_left
                  · ((intro w0 hSw); (try dsimp only at hSw); go_simp; (try with_reducible rfl))
                  change wpAnyH _ _ _ _ _ _ _ (Act.put _ (some 122) _) _
                  try simp only [Act.put, List.setIfInBounds_toArray, List.set_cons_zero, List.set_cons_succ]
                  refine wpAnyH_take (i := 11) (v := ?_) rfl (by kernel_rfl) (by kernel_rfl) (by kernel_rfl) (fun _ _ _ h => h) (Or.inl ⟨by rfl, ?_⟩) (by assumption) ?_
                  rotate_left
                  · ((intro w0 hSw); (try dsimp only at hSw); go_simp; (try with_reducible rfl))
                  change wpAnyH _ _ _ _ _ _ _ (Act.put _ (some 16) _) _
                  try simp only [Act.put, List.setIfInBounds_toArray, List.set_cons_zero, List.set_cons_succ]
                  refine wpAnyH_take (i := 12) (v := ?_) rfl (by kernel_rfl) (by kernel_rfl) (by kernel_rfl) (fun _ _ _ h => h) (Or.inl ⟨by rfl, ?_⟩) (by assumption) ?_
                  rotate_left
                  · ((intro w0 hSw); (try dsimp only at hSw); go_simp; (try with_reducible rfl))
                  change wpAnyH _ _ _ _ _ _ _ (Act.put _ (some 17) _) _
                  try simp only [Act.put, List.setIfInBounds_toArray, List.set_cons_zero, List.set_cons_succ]
                  refine wpAnyH_done (by kernel_rfl) ?_ _
                  go_wp2_with fail
                  go_meet
                  case rel => exact ⟨rfl, rfl, HB3.out⟩
              case rest =>
                obtain ⟨rfl, rfl, hbx⟩ := hcut
                have HK2 := Lib.hid (HK.out.next hbx)
                have HB2 := Lib.hid (HB.out.next hbx)
                clear HK HB hbx HC HEa1 HEb1
                have HK := HK2
                clear HK2
                obtain rfl : E' = 0 := fe_each HF.out hcs
                have HOk2 : Hid (okT cs (j + 1)) := okT_next HOk.out hcs
                have hcl := HCel.out j c 0 hcs
                have hjl : j < zz.length := by rw [HCs.out]; exact hj
                have hjl2 : (j : Int) < (zz.length : Int) := by omega
                have hrd : RdI wc.heap.size wc (.slice pwd zz.length cwd) zz := by with_unfolding_all exact HK.out.r _ (.head _)
                obtain ⟨b1, o1, he, hb1, hc⟩ := hrd.cells (by intro e; rw [e] at hjl; simp at hjl)
                cases he
                have xc := hc j hjl
                have hg : zz.getD j 0 = zz[j] := by rw [List.getD_eq_getElem?_getD, List.getElem?_eq_getElem hjl]; rfl
                rw [← hg, hcl] at xc
                clear hc hb1 hg hcl hcs hrd HOk HAt HLc HBl HTw HEa HEb HI HJ HCel
                have c0 := (HK.out.a _ (.head _)).c0
                have c1 := (HK.out.a _ (.head _)).c1
                have c2 := (HK.out.a _ (.head _)).c2
                have c3 := (HK.out.a _ (.head _)).c3
                have c4 := (HK.out.a _ (.head _)).c4
                go_wp2_with fail
                go_roundg g
                case measure => omega
                case rel => exact ⟨j + 1, by omega, by go_num, HOk2.out, HK.out, HB2.out⟩
      · have k6 : (B.r == 0) = false := by simpa using hrb
        have k7 : ((zz.length : Int) == (B.z.length : Int)) = true := by rw [hzl, hmany]; simp
        have HMn := Lib.hid hmany
        clear hra hrb hsm2 hsame hmany hzl
        as_aux_lemma =>
          go_enter Tryd.func5, Tryd.ntmps5
          go_wp2_with (first
            | (go_at_call 20; (with_reducible refine (HAr.out _).mono ?_); rintro e wz ⟨rfl, rfl⟩)
            | (go_at_call 11; (with_reducible refine (HF1.out _ (by with_unfolding_all exact HK.out.r _ (.tail _ (.head _)))).mono ?_); rintro e wz ⟨rfl, hb⟩; have HK2 := Lib.hid (HK.out.next hb); clear HK x0 x1 x2 x3 x4 y0 y1 y2 y3 y4; have HK := HK2; clear HK2; clear hb; have x0 := (HK.out.a _ (.tail _ (.head _))).c0; have x1 := (HK.out.a _ (.tail _ (.head _))).c1; have x2 := (HK.out.a _ (.tail _ (.head _))).c2; have x3 := (HK.out.a _ (.tail _ (.head _))).c3; have x4 := (HK.out.a _ (.tail _ (.head _))).c4; have y0 := (HK.out.a _ (.head _)).c0; have y1 := (HK.out.a _ (.head _)).c1; have y2 := (HK.out.a _ (.head _)).c2; have y3 := (HK.out.a _ (.head _)).c3; have y4 := (HK.out.a _ (.head _)).c4)
            | (go_at_call 11; (with_reducible refine (HF2.out _ (by with_unfolding_all exact HK.out.r _ (.head _))).mono ?_); rintro e wz ⟨rfl, hb⟩; have HK2 := Lib.hid (HK.out.next hb); clear HK x0 x1 x2 x3 x4 y0 y1 y2 y3 y4; have HK := HK2; clear HK2; clear hb; have x0 := (HK.out.a _ (.tail _ (.head _))).c0; have x1 := (HK.out.a _ (.tail _ (.head _))).c1; have x2 := (HK.out.a _ (.tail _ (.head _))).c2; have x3 := (HK.out.a _ (.tail _ (.head _))).c3; have x4 := (HK.out.a _ (.tail _ (.head _))).c4; have y0 := (HK.out.a _ (.head _)).c0; have y1 := (HK.out.a _ (.head _)).c1; have y2 := (HK.out.a _ (.head _)).c2; have y3 := (HK.out.a _ (.head _)).c3; have y4 := (HK.out.a _ (.head _)).c4)
            | (go_at_call 21; (with_reducible refine (HC2.out _ (by with_unfolding_all exact HK.out.r _ (.head _))).mono ?_); rintro e wz ⟨rfl, hb⟩; have HK2 := Lib.hid (HK.out.next hb); clear HK x0 x1 x2 x3 x4 y0 y1 y2 y3 y4; have HK := HK2; clear HK2; clear hb; have x0 := (HK.out.a _ (.tail _ (.head _))).c0; have x1 := (HK.out.a _ (.tail _ (.head _))).c1; have x2 := (HK.out.a _ (.tail _ (.head _))).c2; have x3 := (HK.out.a _ (.tail _ (.head _))).c3; have x4 := (HK.out.a _ (.tail _ (.head _))).c4; have y0 := (HK.out.a _ (.head _)).c0; have y1 := (HK.out.a _ (.head _)).c1; have y2 := (HK.out.a _ (.head _)).c2; have y3 := (HK.out.a _ (.head _)).c3; have y4 := (HK.out.a _ (.head _)).c4)
            | (go_at_call 21; (with_reducible refine (HC1.out _ (by with_unfolding_all exact HK.out.r _ (.tail _ (.head _)))).mono ?_); rintro e wz ⟨rfl, hb⟩; have HK2 := Lib.hid (HK.out.next hb); clear HK x0 x1 x2 x3 x4 y0 y1 y2 y3 y4; have HK := HK2; clear HK2; clear hb; have x0 := (HK.out.a _ (.tail _ (.head _))).c0; have x1 := (HK.out.a _ (.tail _ (.head _))).c1; have x2 := (HK.out.a _ (.tail _ (.head _))).c2; have x3 := (HK.out.a _ (.tail _ (.head _))).c3; have x4 := (HK.out.a _ (.tail _ (.head _))).c4; have y0 := (HK.out.a _ (.head _)).c0; have y1 := (HK.out.a _ (.head _)).c1; have y2 := (HK.out.a _ (.head _)).c2; have y3 := (HK.out.a _ (.head _)).c3; have y4 := (HK.out.a _ (.head _)).c4)
            | (go_at_call 18; (with_reducible refine (HL1.out _ (by with_unfolding_all exact HK.out.lay) (by with_unfolding_all exact HK.out.r _ (.tail _ (.head _))) (by with_unfolding_all exact HK.out.r _ (.head _))).mono ?_); rintro e wc ⟨rfl, hb⟩; have HK2 := Lib.hid ((HK.out.next hb).next (bel1 _ (.cells #[.int .i64 la, .int .i64 lb] 22))); clear HK x0 x1 x2 x3 x4 y0 y1 y2 y3 y4; have HK := HK2; clear HK2; clear hb; have HB1 := Lib.hid (R2.new wc la lb); have x0 := (HK.out.a _ (.tail _ (.head _))).c0; have x1 := (HK.out.a _ (.tail _ (.head _))).c1; have x2 := (HK.out.a _ (.tail _ (.head _))).c2; have x3 := (HK.out.a _ (.tail _ (.head _))).c3; have x4 := (HK.out.a _ (.tail _ (.head _))).c4; have y0 := (HK.out.a _ (.head _)).c0; have y1 := (HK.out.a _ (.head _)).c1; have y2 := (HK.out.a _ (.head _)).c2; have y3 := (HK.out.a _ (.head _)).c3; have y4 := (HK.out.a _ (.head _)).c4)
            | (go_at_call 16; (with_reducible refine (HT1.out _ (by with_unfolding_all exact HK.out.lay) (by with_unfolding_all exact HK.out.r _ (.tail _ (.head _))) (by with_unfolding_all exact HK.out.r _ (.head _))).mono ?_); rintro e wd ⟨uwd, rfl, hu, hb⟩; obtain ⟨pwd, cwd, hpwd, _, _⟩ := hu.form; have hqwd : uwd = (.slice pwd zz.length cwd) := hpwd; subst hqwd; clear hpwd; have hltyc : (w.heap.size + 1) < wd.heap.size := Nat.lt_of_lt_of_le (HK.out.lt _ (.head _)) hb.size; have hltxc : w.heap.size < wd.heap.size := Nat.lt_of_lt_of_le (HK.out.lt _ (.tail _ (.head _))) hb.size; have HK2 := Lib.hid (HK.out.res hb ⟨1, lr, la, lb, zz⟩ hu); clear HK x0 x1 x2 x3 x4 y0 y1 y2 y3 y4; have HK := HK2; clear HK2; have HB2 := Lib.hid ((HB1.out.next hb).next (bel1 _ (.cells #[.int .i64 1, .int .i64 lr, .int .i64 la, .int .i64 lb, .slice pwd zz.length cwd] 25))); clear HB1 hb hu; have x0 := (HK.out.a _ (.tail _ (.tail _ (.head _)))).c0; have x1 := (HK.out.a _ (.tail _ (.tail _ (.head _)))).c1; have x2 := (HK.out.a _ (.tail _ (.tail _ (.head _)))).c2; have x3 := (HK.out.a _ (.tail _ (.tail _ (.head _)))).c3; have x4 := (HK.out.a _ (.tail _ (.tail _ (.head _)))).c4; have y0 := (HK.out.a _ (.tail _ (.head _))).c0; have y1 := (HK.out.a _ (.tail _ (.head _))).c1; have y2 := (HK.out.a _ (.tail _ (.head _))).c2; have y3 := (HK.out.a _ (.tail _ (.head _))).c3; have y4 := (HK.out.a _ (.tail _ (.head _))).c4; have c0 := (HK.out.a _ (.head _)).c0; have c1 := (HK.out.a _ (.head _)).c1; have c2 := (HK.out.a _ (.head _)).c2; have c3 := (HK.out.a _ (.head _)).c3; have c4 := (HK.out.a _ (.head _)).c4)
            | fail)
          generalize wc.heap.size = gl at HB2 ⊢
          generalize World.alloc wd _ = W0 at HK HB2 ⊢
          generalize wd.heap.size = gc at HK ⊢
          clear x0 x1 x2 x3 x4 y0 y1 y2 y3 y4 c0 c1 c2 c3 c4 HF1 HF2 HC1 HC2 HAr HL1 HT1
          go_loopg [15] n (fun g i wr => ∃ j : Nat, j + g = n ∧ i = .int .i64 j ∧ okT cs j ∧ KVar w [⟨gc, ⟨1, lr, la, lb, zz⟩, (.slice pwd zz.length cwd)⟩, ⟨(w.heap.size + 1), B, (.slice q' B.z.length cap')⟩, ⟨w.heap.size, A, (.slice q A.z.length cap)⟩] wr ∧ R2 wr gl la lb)
          case atStart => exact ⟨0, by omega, rfl, okT_zero _, HK.out, HB2.out⟩
          case round =>
            obtain ⟨j, hjg, rfl, hok, hk, h2⟩ := hrel
            clear HK HB2
            have HOk := Lib.hid hok
            have HK := Lib.hid hk
            have HB := Lib.hid h2
            clear hok hk h2
            cases gk with
            | zero =>
              have hjz : ¬ ((j : Int) < (n : Int)) := by omega
              have hjz2 := hjz
              rw [HMn.out] at hjz2
              have x0 := (HK.out.a _ (.tail _ (.tail _ (.head _)))).c0
              have x1 := (HK.out.a _ (.tail _ (.tail _ (.head _)))).c1
              have x2 := (HK.out.a _ (.tail _ (.tail _ (.head _)))).c2
              have x3 := (HK.out.a _ (.tail _ (.tail _ (.head _)))).c3
              have x4 := (HK.out.a _ (.tail _ (.tail _ (.head _)))).c4
              have y0 := (HK.out.a _ (.tail _ (.head _))).c0
              have y1 := (HK.out.a _ (.tail _ (.head _))).c1
              have y2 := (HK.out.a _ (.tail _ (.head _))).c2
              have y3 := (HK.out.a _ (.tail _ (.head _))).c3
              have y4 := (HK.out.a _ (.tail _ (.head _))).c4
              have c0 := (HK.out.a _ (.head _)).c0
              have c1 := (HK.out.a _ (.head _)).c1
              have c2 := (HK.out.a _ (.head _)).c2
              have c3 := (HK.out.a _ (.head _)).c3
              have c4 := (HK.out.a _ (.head _)).c4
              have b0 := HB.out.c0
              have b1 := HB.out.c1
              have HQ := fun W => eq2t10 la lb W
              clear HOk HAt HLc HBl HTw HEa HEb HI HJ HCel
              have HCc := Lib.hid (fun v W h => archeck_any ⟨1, lr, la, lb, zz⟩ v W h (by rw [HCs.out]; omega))
              rw [HCk.out] at HCc
              go_wp2_with (first
                | (go_at_call 21; (with_reducible refine (HCc.out _ _ (by with_unfolding_all exact HK.out.r _ (.head _))).mono ?_); rintro e wz ⟨rfl, hb⟩; have HK2 := Lib.hid (HK.out.next hb); clear HK x0 x1 x2 x3 x4 y0 y1 y2 y3 y4 c0 c1 c2 c3 c4; have HK := HK2; clear HK2; clear hb; have x0 := (HK.out.a _ (.tail _ (.tail _ (.head _)))).c0; have x1 := (HK.out.a _ (.tail _ (.tail _ (.head _)))).c1; have x2 := (HK.out.a _ (.tail _ (.tail _ (.head _)))).c2; have x3 := (HK.out.a _ (.tail _ (.tail _ (.head _)))).c3; have x4 := (HK.out.a _ (.tail _ (.tail _ (.head _)))).c4; have y0 := (HK.out.a _ (.tail _ (.head _))).c0; have y1 := (HK.out.a _ (.tail _ (.head _))).c1; have y2 := (HK.out.a _ (.tail _ (.head _))).c2; have y3 := (HK.out.a _ (.tail _ (.head _))).c3; have y4 := (HK.out.a _ (.tail _ (.head _))).c4; have c0 := (HK.out.a _ (.head _)).c0; have c1 := (HK.out.a _ (.head _)).c1; have c2 := (HK.out.a _ (.head _)).c2; have c3 := (HK.out.a _ (.head _)).c3; have c4 := (HK.out.a _ (.head _)).c4)
                | (go_at_call 12; (with_reducible refine (HAw.out _ (by with_unfolding_all exact HK.out.lay)).mono ?_); rintro e wz ⟨rfl, hb⟩; have HK2 := Lib.hid (HK.out.next hb); clear HK x0 x1 x2 x3 x4 y0 y1 y2 y3 y4 c0 c1 c2 c3 c4; have HK := HK2; clear HK2; clear hb; have x0 := (HK.out.a _ (.tail _ (.tail _ (.head _)))).c0; have x1 := (HK.out.a _ (.tail _ (.tail _ (.head _)))).c1; have x2 := (HK.out.a _ (.tail _ (.tail _ (.head _)))).c2; have x3 := (HK.out.a _ (.tail _ (.tail _ (.head _)))).c3; have x4 := (HK.out.a _ (.tail _ (.tail _ (.head _)))).c4; have y0 := (HK.out.a _ (.tail _ (.head _))).c0; have y1 := (HK.out.a _ (.tail _ (.head _))).c1; have y2 := (HK.out.a _ (.tail _ (.head _))).c2; have y3 := (HK.out.a _ (.tail _ (.head _))).c3; have y4 := (HK.out.a _ (.tail _ (.head _))).c4; have c0 := (HK.out.a _ (.head _)).c0; have c1 := (HK.out.a _ (.head _)).c1; have c2 := (HK.out.a _ (.head _)).c2; have c3 := (HK.out.a _ (.head _)).c3; have c4 := (HK.out.a _ (.head _)).c4)
                | fail)
              go_ret
              exact ⟨rfl, HK.out.bel⟩
            | succ g =>
              have hjz : (j : Int) < (n : Int) := by omega
              have hjz2 := hjz
              rw [HMn.out] at hjz2
              have hj : j < n := by omega
              have hcs := HAt.out j hj
              have hbl := HBl.out j hj
              have hia : Sc.inr (celI A j) = true := HI.out.get _
              have hib : Sc.inr (celI B j) = true := HJ.out.get _
              have HEa1 := Lib.hid (fun W h => HEa.out j W h hbl.1)
              have HEb1 := Lib.hid (fun W h => HEb.out j W h hbl.2)
              generalize celI A j = x at HEa1 hcs hia
              generalize celI B j = y at HEb1 hcs hib
              have HC := Lib.hid (fun W => HTw.out x y W hia hib)
              generalize Sc.twoV p x y = c at HC hcs
              obtain ⟨c, E'⟩ := c
              simp only at HC
              clear hia hib hbl
              have x0 := (HK.out.a _ (.tail _ (.tail _ (.head _)))).c0
              have x1 := (HK.out.a _ (.tail _ (.tail _ (.head _)))).c1
              have x2 := (HK.out.a _ (.tail _ (.tail _ (.head _)))).c2
              have x3 := (HK.out.a _ (.tail _ (.tail _ (.head _)))).c3
              have x4 := (HK.out.a _ (.tail _ (.tail _ (.head _)))).c4
              have y0 := (HK.out.a _ (.tail _ (.head _))).c0
              have y1 := (HK.out.a _ (.tail _ (.head _))).c1
              have y2 := (HK.out.a _ (.tail _ (.head _))).c2
              have y3 := (HK.out.a _ (.tail _ (.head _))).c3
              have y4 := (HK.out.a _ (.tail _ (.head _))).c4
              go_wp2_with fail
              clear x0 x1 x2 x3 x4 y0 y1 y2 y3 y4
              go_cut [16, 17] (fun sx se wx => sx = .int .i64 c ∧ se = .int .i64 E' ∧ Below wr.heap.size wr wx)
              case first =>
                as_aux_lemma =>
                  have HAll : Hid (∀ W, Below wr.heap.size wr W → (fun W => Below wr.heap.size wr W ∧ W.cell? ⟨w.heap.size, 0, none⟩ = some (.int .i64 A.k) ∧ W.cell? ⟨w.heap.size, 1, none⟩ = some (.int .i64 A.r) ∧ W.cell? ⟨w.heap.size, 2, none⟩ = some (.int .i64 A.a) ∧ W.cell? ⟨w.heap.size, 3, none⟩ = some (.int .i64 A.b) ∧ W.cell? ⟨w.heap.size, 4, none⟩ = some ((.slice q A.z.length cap)) ∧ W.cell? ⟨(w.heap.size + 1), 0, none⟩ = some (.int .i64 B.k) ∧ W.cell? ⟨(w.heap.size + 1), 1, none⟩ = some (.int .i64 B.r) ∧ W.cell? ⟨(w.heap.size + 1), 2, none⟩ = some (.int .i64 B.a) ∧ W.cell? ⟨(w.heap.size + 1), 3, none⟩ = some (.int .i64 B.b) ∧ W.cell? ⟨(w.heap.size + 1), 4, none⟩ = some ((.slice q' B.z.length cap'))) W) := fun W h => ⟨h, ((HK.out.next h).a _ (.tail _ (.tail _ (.head _)))).c0, ((HK.out.next h).a _ (.tail _ (.tail _ (.head _)))).c1, ((HK.out.next h).a _ (.tail _ (.tail _ (.head _)))).c2, ((HK.out.next h).a _ (.tail _ (.tail _ (.head _)))).c3, ((HK.out.next h).a _ (.tail _ (.tail _ (.head _)))).c4, ((HK.out.next h).a _ (.tail _ (.head _))).c0, ((HK.out.next h).a _ (.tail _ (.head _))).c1, ((HK.out.next h).a _ (.tail _ (.head _))).c2, ((HK.out.next h).a _ (.tail _ (.head _))).c3, ((HK.out.next h).a _ (.tail _ (.head _))).c4⟩
                  clear HAt HLc HBl HOk HB HI HJ HEa HEb HTw hcs
                  refine wp_region_held_drew (S := (fun W => Below wr.heap.size wr W ∧ W.cell? ⟨w.heap.size, 0, none⟩ = some (.int .i64 A.k) ∧ W.cell? ⟨w.heap.size, 1, none⟩ = some (.int .i64 A.r) ∧ W.cell? ⟨w.heap.size, 2, none⟩ = some (.int .i64 A.a) ∧ W.cell? ⟨w.heap.size, 3, none⟩ = some (.int .i64 A.b) ∧ W.cell? ⟨w.heap.size, 4, none⟩ = some ((.slice q A.z.length cap)) ∧ W.cell? ⟨(w.heap.size + 1), 0, none⟩ = some (.int .i64 B.k) ∧ W.cell? ⟨(w.heap.size + 1), 1, none⟩ = some (.int .i64 B.r) ∧ W.cell? ⟨(w.heap.size + 1), 2, none⟩ = some (.int .i64 B.a) ∧ W.cell? ⟨(w.heap.size + 1), 3, none⟩ = some (.int .i64 B.b) ∧ W.cell? ⟨(w.heap.size + 1), 4, none⟩ = some ((.slice q' B.z.length cap')))) (by kernel_rfl) ?_ (fun hHeld => ?_)
                  · exact HAll.out _ (Below.refl _ _).drew
                  have HB0 : Hid (Below wr.heap.size wr (World.drew wr)) := (Below.refl _ _).drew
                  generalize World.drew wr = wd at hHeld HB0 ⊢
                  refine wpAnyH_take (i := 0) (v := ?_) rfl (by kernel_rfl) (by kernel_rfl) (by kernel_rfl) (fun _ _ _ h => h) (Or.inl ⟨by rfl, ?_⟩) (by assumption) ?_
                  rotate_left
                  · ((intro w0 hSw); (try dsimp only at hSw); go_simp; (try with_reducible rfl))
                  change wpAnyH _ _ _ _ _ _ _ (Act.put _ (some 113) _) _
                  try simp only [Act.put, List.setIfInBounds_toArray, List.set_cons_zero, List.set_cons_succ]
                  refine wpAnyH_take (i := 1) (v := ?_) rfl (by kernel_rfl) (by kernel_rfl) (by kernel_rfl) (fun _ _ _ h => h) (Or.inl ⟨by rfl, ?_⟩) (by assumption) ?_
                  rotate_left
                  · ((intro w0 hSw); (try dsimp only at hSw); go_simp; (try with_reducible rfl))
                  change wpAnyH _ _ _ _ _ _ _ (Act.put _ (some 114) _) _
                  try simp only [Act.put, List.setIfInBounds_toArray, List.set_cons_zero, List.set_cons_succ]
                  refine wpAnyH_take (i := 2) (v := ?_) rfl (by kernel_rfl) (by kernel_rfl) (by kernel_rfl) (fun _ _ _ h => h) (Or.inl ⟨by rfl, ?_⟩) (by assumption) ?_
                  rotate_left
                  · ((intro w0 hSw); (try dsimp only at hSw); go_simp; (try with_reducible rfl))
                  change wpAnyH _ _ _ _ _ _ _ (Act.put _ (some 115) _) _
                  try simp only [Act.put, List.setIfInBounds_toArray, List.set_cons_zero, List.set_cons_succ]
                  refine wpAnyH_take (i := 4) (v := ?_) rfl (by kernel_rfl) (by kernel_rfl) (by kernel_rfl) (fun _ _ _ h => h) (Or.inl ⟨by rfl, ?_⟩) (by assumption) ?_
                  rotate_left
                  · ((intro w0 hSw); (try dsimp only at hSw); go_simp; (try with_reducible rfl))
                  change wpAnyH _ _ _ _ _ _ _ (Act.put _ (some 117) _) _
                  try simp only [Act.put, List.setIfInBounds_toArray, List.set_cons_zero, List.set_cons_succ]
                  refine wpAnyH_take (i := 5) (v := ?_) rfl (by kernel_rfl) (by kernel_rfl) (by kernel_rfl) (fun _ _ _ h => h) (Or.inl ⟨by rfl, ?_⟩) (by assumption) ?_
                  rotate_left
                  · ((intro w0 hSw); (try dsimp only at hSw); go_simp; (try with_reducible rfl))
                  change wpAnyH _ _ _ _ _ _ _ (Act.put _ (some 118) _) _
                  try simp only [Act.put, List.setIfInBounds_toArray, List.set_cons_zero, List.set_cons_succ]
                  refine wpAnyH_ready (rs := [3]) (by kernel_rfl) (by simp) ?_
                  refine AllReadyH.cons rfl (fun K hK => ?_) (AllReadyH.nil)
                  go_simp
                  go_at_call 23
                  with_reducible refine (HEa1.out _ (by with_unfolding_all exact (HK.out.next HB0.out).r _ (.tail _ (.tail _ (.head _))))).mono ?_
                  rintro e wn ⟨rfl, hb⟩
                  have HB1 := Lib.hid (HB0.out.trans (hb.mono HB0.out.size))
                  clear hb
                  refine hK.out _ _ ?_ (fun hHeld2 => ?_)
                  · exact HAll.out _ HB1.out
                  clear hK K hHeld
                  have hHeld := hHeld2; clear hHeld2
                  try change wpAnyH _ _ _ _ _ _ _ (Act.put _ (some 116) _) _
                  try dsimp only
                  try simp only [Act.put, List.setIfInBounds_toArray, List.set_cons_zero, List.set_cons_succ]
                  refine wpAnyH_ready (rs := [6]) (by kernel_rfl) (by simp) ?_
                  refine AllReadyH.cons rfl (fun K hK => ?_) (AllReadyH.nil)
                  go_simp
                  go_at_call 23
                  with_reducible refine (HEb1.out _ (by with_unfolding_all exact (HK.out.next HB1.out).r _ (.tail _ (.head _)))).mono ?_
                  rintro e wn ⟨rfl, hb⟩
                  have HB2 := Lib.hid (HB1.out.trans (hb.mono HB1.out.size))
                  clear hb
                  refine hK.out _ _ ?_ (fun hHeld2 => ?_)
                  · exact HAll.out _ HB2.out
                  clear hK K hHeld
                  have hHeld := hHeld2; clear hHeld2
                  try change wpAnyH _ _ _ _ _ _ _ (Act.put _ (some 119) _) _
                  try dsimp only
                  try simp only [Act.put, List.setIfInBounds_toArray, List.set_cons_zero, List.set_cons_succ]
                  refine wpAnyH_ready (rs := [7]) (by kernel_rfl) (by simp) ?_
                  refine AllReadyH.cons rfl (fun K hK => ?_) (AllReadyH.nil)
                  go_simp
                  go_at_call 22
                  with_reducible refine (HC.out _).mono ?_
                  rintro e wn ⟨rfl, hb⟩
                  have HB3 := Lib.hid (HB2.out.trans (hb.mono HB2.out.size))
                  clear hb
                  refine hK.out _ _ ?_ (fun hHeld2 => ?_)
                  · exact HAll.out _ HB3.out
                  clear hK K hHeld
                  have hHeld := hHeld2; clear hHeld2
                  try change wpAnyH _ _ _ _ _ _ _ (Act.put _ (some 120) _) _
                  try dsimp only
                  try simp only [Act.put, List.setIfInBounds_toArray, List.set_cons_zero, List.set_cons_succ]
                  refine wpAnyH_take (i := 8) (v := ?_) rfl (by kernel_rfl) (by kernel_rfl) (by kernel_rfl) (fun _ _ _ h => h) (Or.inl ⟨by rfl, ?_⟩) (by assumption) ?_
                  rotate_left
                  · ((intro w0 hSw); (try dsimp only at hSw); go_simp; (try with_reducible rfl))
                  change wpAnyH _ _ _ _ _ _ _ (Act.put _ (some 112) _) _
                  try simp only [Act.put, List.setIfInBounds_toArray, List.set_cons_zero, List.set_cons_succ]
                  refine wpAnyH_take (i := 9) (v := ?_) rfl (by kernel_rfl) (by kernel_rfl) (by kernel_rfl) (fun _ _ _ h => h) (Or.inl ⟨by rfl, ?_⟩) (by assumption) ?_
                  rotate_left
                  · ((intro w0 hSw); (try dsimp only at hSw); go_simp; (try with_reducible rfl))
                  change wpAnyH _ _ _ _ _ _ _ (Act.put _ (some 121) _) _
                  try simp only [Act.put, List.setIfInBounds_toArray, List.set_cons_zero, List.set_cons_succ]
                  refine wpAnyH_take (i := 10) (v := ?_) rfl (by kernel_rfl) (by kernel_rfl) (by kernel_rfl) (fun _ _ _ h => h) (Or.inl ⟨by rfl, ?_⟩) (by assumption) ?_
                  rotate_left
                  · ((intro w0 hSw); (try dsimp only at hSw); go_simp; (try with_reducible rfl))
                  change wpAnyH _ _ _ _ _ _ _ (Act.put _ (some 122) _) _
                  try simp only [Act.put, List.setIfInBounds_toArray, List.set_cons_zero, List.set_cons_succ]
                  refine wpAnyH_take (i := 11) (v := ?_) rfl (by kernel_rfl) (by kernel_rfl) (by kernel_rfl) (fun _ _ _ h => h) (Or.inl ⟨by rfl, ?_⟩) (by assumption) ?_
                  rotate_left
                  · ((intro w0 hSw); (try dsimp only at hSw); go_simp; (try with_reducible rfl))
                  change wpAnyH _ _ _ _ _ _ _ (Act.put _ (some 16) _) _
                  try simp only [Act.put, List.setIfInBounds_toArray, List.set_cons_zero, List.set_cons_succ]
                  refine wpAnyH_take (i := 12) (v := ?_) rfl (by kernel_rfl) (by kernel_rfl) (by kernel_rfl) (fun _ _ _ h => h) (Or.inl ⟨by rfl, ?_⟩) (by assumption) ?_
                  rotate_left
                  · ((intro w0 hSw); (try dsimp only at hSw); go_simp; (try with_reducible rfl))
                  change wpAnyH _ _ _ _ _ _ _ (Act.put _ (some 17) _) _
                  try simp only [Act.put, List.setIfInBounds_toArray, List.set_cons_zero, List.set_cons_succ]
                  refine wpAnyH_done (by kernel_rfl) ?_ _
                  go_wp2_with fail
                  go_meet
                  case rel => exact ⟨rfl, rfl, HB3.out⟩
              case rest =>
                obtain ⟨rfl, rfl, hbx⟩ := hcut
                have HK2 := Lib.hid (HK.out.next hbx)
                have HB2 := Lib.hid (HB.out.next hbx)
                clear HK HB hbx HC HEa1 HEb1
                have HK := HK2
                clear HK2
                obtain rfl : E' = 0 := fe_each HF.out hcs
                have HOk2 : Hid (okT cs (j + 1)) := okT_next HOk.out hcs
                have hcl := HCel.out j c 0 hcs
                have hjl : j < zz.length := by rw [HCs.out]; exact hj
                have hjl2 : (j : Int) < (zz.length : Int) := by omega
                have hrd : RdI wc.heap.size wc (.slice pwd zz.length cwd) zz := by with_unfolding_all exact HK.out.r _ (.head _)
                obtain ⟨b1, o1, he, hb1, hc⟩ := hrd.cells (by intro e; rw [e] at hjl; simp at hjl)
                cases he
                have xc := hc j hjl
                have hg : zz.getD j 0 = zz[j] := by rw [List.getD_eq_getElem?_getD, List.getElem?_eq_getElem hjl]; rfl
                rw [← hg, hcl] at xc
                clear hc hb1 hg hcl hcs hrd HOk HAt HLc HBl HTw HEa HEb HI HJ HCel
                have c0 := (HK.out.a _ (.head _)).c0
                have c1 := (HK.out.a _ (.head _)).c1
                have c2 := (HK.out.a _ (.head _)).c2
                have c3 := (HK.out.a _ (.head _)).c3
                have c4 := (HK.out.a _ (.head _)).c4
                go_wp2_with fail
                go_roundg g
                case measure => omega
                case rel => exact ⟨j + 1, by omega, by go_num, HOk2.out, HK.out, HB2.out⟩
    · have k5 : (A.r == 0) = false := by simpa using hra
      rw [if_neg hra] at hmany
      by_cases hrb : B.r = 0
      · have k6 : (B.r == 0) = true := by simpa using hrb
        have k7 : ((zz.length : Int) == (A.z.length : Int)) = true := by rw [hzl, hmany]; simp
        have HMn := Lib.hid hmany
        clear hra hrb hsm2 hsame hmany hzl
        as_aux_lemma =>
          go_enter Tryd.func5, Tryd.ntmps5
          go_wp2_with (first
            | (go_at_call 20; (with_reducible refine (HAr.out _).mono ?_); rintro e wz ⟨rfl, rfl⟩)
            | (go_at_call 11; (with_reducible refine (HF1.out _ (by with_unfolding_all exact HK.out.r _ (.tail _ (.head _)))).mono ?_); rintro e wz ⟨rfl, hb⟩; have HK2 := Lib.hid (HK.out.next hb); clear HK x0 x1 x2 x3 x4 y0 y1 y2 y3 y4; have HK := HK2; clear HK2; clear hb; have x0 := (HK.out.a _ (.tail _ (.head _))).c0; have x1 := (HK.out.a _ (.tail _ (.head _))).c1; have x2 := (HK.out.a _ (.tail _ (.head _))).c2; have x3 := (HK.out.a _ (.tail _ (.head _))).c3; have x4 := (HK.out.a _ (.tail _ (.head _))).c4; have y0 := (HK.out.a _ (.head _)).c0; have y1 := (HK.out.a _ (.head _)).c1; have y2 := (HK.out.a _ (.head _)).c2; have y3 := (HK.out.a _ (.head _)).c3; have y4 := (HK.out.a _ (.head _)).c4)
            | (go_at_call 11; (with_reducible refine (HF2.out _ (by with_unfolding_all exact HK.out.r _ (.head _))).mono ?_); rintro e wz ⟨rfl, hb⟩; have HK2 := Lib.hid (HK.out.next hb); clear HK x0 x1 x2 x3 x4 y0 y1 y2 y3 y4; have HK := HK2; clear HK2; clear hb; have x0 := (HK.out.a _ (.tail _ (.head _))).c0; have x1 := (HK.out.a _ (.tail _ (.head _))).c1; have x2 := (HK.out.a _ (.tail _ (.head _))).c2; have x3 := (HK.out.a _ (.tail _ (.head _))).c3; have x4 := (HK.out.a _ (.tail _ (.head _))).c4; have y0 := (HK.out.a _ (.head _)).c0; have y1 := (HK.out.a _ (.head _)).c1; have y2 := (HK.out.a _ (.head _)).c2; have y3 := (HK.out.a _ (.head _)).c3; have y4 := (HK.out.a _ (.head _)).c4)
            | (go_at_call 21; (with_reducible refine (HC2.out _ (by with_unfolding_all exact HK.out.r _ (.head _))).mono ?_); rintro e wz ⟨rfl, hb⟩; have HK2 := Lib.hid (HK.out.next hb); clear HK x0 x1 x2 x3 x4 y0 y1 y2 y3 y4; have HK := HK2; clear HK2; clear hb; have x0 := (HK.out.a _ (.tail _ (.head _))).c0; have x1 := (HK.out.a _ (.tail _ (.head _))).c1; have x2 := (HK.out.a _ (.tail _ (.head _))).c2; have x3 := (HK.out.a _ (.tail _ (.head _))).c3; have x4 := (HK.out.a _ (.tail _ (.head _))).c4; have y0 := (HK.out.a _ (.head _)).c0; have y1 := (HK.out.a _ (.head _)).c1; have y2 := (HK.out.a _ (.head _)).c2; have y3 := (HK.out.a _ (.head _)).c3; have y4 := (HK.out.a _ (.head _)).c4)
            | (go_at_call 21; (with_reducible refine (HC1.out _ (by with_unfolding_all exact HK.out.r _ (.tail _ (.head _)))).mono ?_); rintro e wz ⟨rfl, hb⟩; have HK2 := Lib.hid (HK.out.next hb); clear HK x0 x1 x2 x3 x4 y0 y1 y2 y3 y4; have HK := HK2; clear HK2; clear hb; have x0 := (HK.out.a _ (.tail _ (.head _))).c0; have x1 := (HK.out.a _ (.tail _ (.head _))).c1; have x2 := (HK.out.a _ (.tail _ (.head _))).c2; have x3 := (HK.out.a _ (.tail _ (.head _))).c3; have x4 := (HK.out.a _ (.tail _ (.head _))).c4; have y0 := (HK.out.a _ (.head _)).c0; have y1 := (HK.out.a _ (.head _)).c1; have y2 := (HK.out.a _ (.head _)).c2; have y3 := (HK.out.a _ (.head _)).c3; have y4 := (HK.out.a _ (.head _)).c4)
            | (go_at_call 18; (with_reducible refine (HL1.out _ (by with_unfolding_all exact HK.out.lay) (by with_unfolding_all exact HK.out.r _ (.tail _ (.head _))) (by with_unfolding_all exact HK.out.r _ (.head _))).mono ?_); rintro e wc ⟨rfl, hb⟩; have HK2 := Lib.hid ((HK.out.next hb).next (bel1 _ (.cells #[.int .i64 la, .int .i64 lb] 22))); clear HK x0 x1 x2 x3 x4 y0 y1 y2 y3 y4; have HK := HK2; clear HK2; clear hb; have HB1 := Lib.hid (R2.new wc la lb); have x0 := (HK.out.a _ (.tail _ (.head _))).c0; have x1 := (HK.out.a _ (.tail _ (.head _))).c1; have x2 := (HK.out.a _ (.tail _ (.head _))).c2; have x3 := (HK.out.a _ (.tail _ (.head _))).c3; have x4 := (HK.out.a _ (.tail _ (.head _))).c4; have y0 := (HK.out.a _ (.head _)).c0; have y1 := (HK.out.a _ (.head _)).c1; have y2 := (HK.out.a _ (.head _)).c2; have y3 := (HK.out.a _ (.head _)).c3; have y4 := (HK.out.a _ (.head _)).c4)
            | (go_at_call 16; (with_reducible refine (HT1.out _ (by with_unfolding_all exact HK.out.lay) (by with_unfolding_all exact HK.out.r _ (.tail _ (.head _))) (by with_unfolding_all exact HK.out.r _ (.head _))).mono ?_); rintro e wd ⟨uwd, rfl, hu, hb⟩; obtain ⟨pwd, cwd, hpwd, _, _⟩ := hu.form; have hqwd : uwd = (.slice pwd zz.length cwd) := hpwd; subst hqwd; clear hpwd; have hltyc : (w.heap.size + 1) < wd.heap.size := Nat.lt_of_lt_of_le (HK.out.lt _ (.head _)) hb.size; have hltxc : w.heap.size < wd.heap.size := Nat.lt_of_lt_of_le (HK.out.lt _ (.tail _ (.head _))) hb.size; have HK2 := Lib.hid (HK.out.res hb ⟨1, lr, la, lb, zz⟩ hu); clear HK x0 x1 x2 x3 x4 y0 y1 y2 y3 y4; have HK := HK2; clear HK2; have HB2 := Lib.hid ((HB1.out.next hb).next (bel1 _ (.cells #[.int .i64 1, .int .i64 lr, .int .i64 la, .int .i64 lb, .slice pwd zz.length cwd] 25))); clear HB1 hb hu; have x0 := (HK.out.a _ (.tail _ (.tail _ (.head _)))).c0; have x1 := (HK.out.a _ (.tail _ (.tail _ (.head _)))).c1; have x2 := (HK.out.a _ (.tail _ (.tail _ (.head _)))).c2; have x3 := (HK.out.a _ (.tail _ (.tail _ (.head _)))).c3; have x4 := (HK.out.a _ (.tail _ (.tail _ (.head _)))).c4; have y0 := (HK.out.a _ (.tail _ (.head _))).c0; have y1 := (HK.out.a _ (.tail _ (.head _))).c1; have y2 := (HK.out.a _ (.tail _ (.head _))).c2; have y3 := (HK.out.a _ (.tail _ (.head _))).c3; have y4 := (HK.out.a _ (.tail _ (.head _))).c4; have c0 := (HK.out.a _ (.head _)).c0; have c1 := (HK.out.a _ (.head _)).c1; have c2 := (HK.out.a _ (.head _)).c2; have c3 := (HK.out.a _ (.head _)).c3; have c4 := (HK.out.a _ (.head _)).c4)
            | fail)
          generalize wc.heap.size = gl at HB2 ⊢
          generalize World.alloc wd _ = W0 at HK HB2 ⊢
          generalize wd.heap.size = gc at HK ⊢
          clear x0 x1 x2 x3 x4 y0 y1 y2 y3 y4 c0 c1 c2 c3 c4 HF1 HF2 HC1 HC2 HAr HL1 HT1
          go_loopg [15] n (fun g i wr => ∃ j : Nat, j + g = n ∧ i = .int .i64 j ∧ okT cs j ∧ KVar w [⟨gc, ⟨1, lr, la, lb, zz⟩, (.slice pwd zz.length cwd)⟩, ⟨(w.heap.size + 1), B, (.slice q' B.z.length cap')⟩, ⟨w.heap.size, A, (.slice q A.z.length cap)⟩] wr ∧ R2 wr gl la lb)
          case atStart => exact ⟨0, by omega, rfl, okT_zero _, HK.out, HB2.out⟩
          case round =>
            obtain ⟨j, hjg, rfl, hok, hk, h2⟩ := hrel
            clear HK HB2
            have HOk := Lib.hid hok
            have HK := Lib.hid hk
            have HB := Lib.hid h2
            clear hok hk h2
            cases gk with
            | zero =>
              have hjz : ¬ ((j : Int) < (n : Int)) := by omega
              have hjz2 := hjz
              rw [HMn.out] at hjz2
              have x0 := (HK.out.a _ (.tail _ (.tail _ (.head _)))).c0
              have x1 := (HK.out.a _ (.tail _ (.tail _ (.head _)))).c1
              have x2 := (HK.out.a _ (.tail _ (.tail _ (.head _)))).c2
              have x3 := (HK.out.a _ (.tail _ (.tail _ (.head _)))).c3
              have x4 := (HK.out.a _ (.tail _ (.tail _ (.head _)))).c4
              have y0 := (HK.out.a _ (.tail _ (.head _))).c0
              have y1 := (HK.out.a _ (.tail _ (.head _))).c1
              have y2 := (HK.out.a _ (.tail _ (.head _))).c2
              have y3 := (HK.out.a _ (.tail _ (.head _))).c3
              have y4 := (HK.out.a _ (.tail _ (.head _))).c4
              have c0 := (HK.out.a _ (.head _)).c0
              have c1 := (HK.out.a _ (.head _)).c1
              have c2 := (HK.out.a _ (.head _)).c2
              have c3 := (HK.out.a _ (.head _)).c3
              have c4 := (HK.out.a _ (.head _)).c4
              have b0 := HB.out.c0
              have b1 := HB.out.c1
              have HQ := fun W => eq2t10 la lb W
              clear HOk HAt HLc HBl HTw HEa HEb HI HJ HCel
              have HCc := Lib.hid (fun v W h => archeck_any ⟨1, lr, la, lb, zz⟩ v W h (by rw [HCs.out]; omega))
              rw [HCk.out] at HCc
              go_wp2_with (first
                | (go_at_call 21; (with_reducible refine (HCc.out _ _ (by with_unfolding_all exact HK.out.r _ (.head _))).mono ?_); rintro e wz ⟨rfl, hb⟩; have HK2 := Lib.hid (HK.out.next hb); clear HK x0 x1 x2 x3 x4 y0 y1 y2 y3 y4 c0 c1 c2 c3 c4; have HK := HK2; clear HK2; clear hb; have x0 := (HK.out.a _ (.tail _ (.tail _ (.head _)))).c0; have x1 := (HK.out.a _ (.tail _ (.tail _ (.head _)))).c1; have x2 := (HK.out.a _ (.tail _ (.tail _ (.head _)))).c2; have x3 := (HK.out.a _ (.tail _ (.tail _ (.head _)))).c3; have x4 := (HK.out.a _ (.tail _ (.tail _ (.head _)))).c4; have y0 := (HK.out.a _ (.tail _ (.head _))).c0; have y1 := (HK.out.a _ (.tail _ (.head _))).c1; have y2 := (HK.out.a _ (.tail _ (.head _))).c2; have y3 := (HK.out.a _ (.tail _ (.head _))).c3; have y4 := (HK.out.a _ (.tail _ (.head _))).c4; have c0 := (HK.out.a _ (.head _)).c0; have c1 := (HK.out.a _ (.head _)).c1; have c2 := (HK.out.a _ (.head _)).c2; have c3 := (HK.out.a _ (.head _)).c3; have c4 := (HK.out.a _ (.head _)).c4)
                | (go_at_call 12; (with_reducible refine (HAw.out _ (by with_unfolding_all exact HK.out.lay)).mono ?_); rintro e wz ⟨rfl, hb⟩; have HK2 := Lib.hid (HK.out.next hb); clear HK x0 x1 x2 x3 x4 y0 y1 y2 y3 y4 c0 c1 c2 c3 c4; have HK := HK2; clear HK2; clear hb; have x0 := (HK.out.a _ (.tail _ (.tail _ (.head _)))).c0; have x1 := (HK.out.a _ (.tail _ (.tail _ (.head _)))).c1; have x2 := (HK.out.a _ (.tail _ (.tail _ (.head _)))).c2; have x3 := (HK.out.a _ (.tail _ (.tail _ (.head _)))).c3; have x4 := (HK.out.a _ (.tail _ (.tail _ (.head _)))).c4; have y0 := (HK.out.a _ (.tail _ (.head _))).c0; have y1 := (HK.out.a _ (.tail _ (.head _))).c1; have y2 := (HK.out.a _ (.tail _ (.head _))).c2; have y3 := (HK.out.a _ (.tail _ (.head _))).c3; have y4 := (HK.out.a _ (.tail _ (.head _))).c4; have c0 := (HK.out.a _ (.head _)).c0; have c1 := (HK.out.a _ (.head _)).c1; have c2 := (HK.out.a _ (.head _)).c2; have c3 := (HK.out.a _ (.head _)).c3; have c4 := (HK.out.a _ (.head _)).c4)
                | fail)
              go_ret
              exact ⟨rfl, HK.out.bel⟩
            | succ g =>
              have hjz : (j : Int) < (n : Int) := by omega
              have hjz2 := hjz
              rw [HMn.out] at hjz2
              have hj : j < n := by omega
              have hcs := HAt.out j hj
              have hbl := HBl.out j hj
              have hia : Sc.inr (celI A j) = true := HI.out.get _
              have hib : Sc.inr (celI B j) = true := HJ.out.get _
              have HEa1 := Lib.hid (fun W h => HEa.out j W h hbl.1)
              have HEb1 := Lib.hid (fun W h => HEb.out j W h hbl.2)
              generalize celI A j = x at HEa1 hcs hia
              generalize celI B j = y at HEb1 hcs hib
              have HC := Lib.hid (fun W => HTw.out x y W hia hib)
              generalize Sc.twoV p x y = c at HC hcs
              obtain ⟨c, E'⟩ := c
              simp only at HC
              clear hia hib hbl
              have x0 := (HK.out.a _ (.tail _ (.tail _ (.head _)))).c0
              have x1 := (HK.out.a _ (.tail _ (.tail _ (.head _)))).c1
              have x2 := (HK.out.a _ (.tail _ (.tail _ (.head _)))).c2
              have x3 := (HK.out.a _ (.tail _ (.tail _ (.head _)))).c3
              have x4 := (HK.out.a _ (.tail _ (.tail _ (.head _)))).c4
              have y0 := (HK.out.a _ (.tail _ (.head _))).c0
              have y1 := (HK.out.a _ (.tail _ (.head _))).c1
              have y2 := (HK.out.a _ (.tail _ (.head _))).c2
              have y3 := (HK.out.a _ (.tail _ (.head _))).c3
              have y4 := (HK.out.a _ (.tail _ (.head _))).c4
              go_wp2_with fail
              clear x0 x1 x2 x3 x4 y0 y1 y2 y3 y4
              go_cut [16, 17] (fun sx se wx => sx = .int .i64 c ∧ se = .int .i64 E' ∧ Below wr.heap.size wr wx)
              case first =>
                as_aux_lemma =>
                  have HAll : Hid (∀ W, Below wr.heap.size wr W → (fun W => Below wr.heap.size wr W ∧ W.cell? ⟨w.heap.size, 0, none⟩ = some (.int .i64 A.k) ∧ W.cell? ⟨w.heap.size, 1, none⟩ = some (.int .i64 A.r) ∧ W.cell? ⟨w.heap.size, 2, none⟩ = some (.int .i64 A.a) ∧ W.cell? ⟨w.heap.size, 3, none⟩ = some (.int .i64 A.b) ∧ W.cell? ⟨w.heap.size, 4, none⟩ = some ((.slice q A.z.length cap)) ∧ W.cell? ⟨(w.heap.size + 1), 0, none⟩ = some (.int .i64 B.k) ∧ W.cell? ⟨(w.heap.size + 1), 1, none⟩ = some (.int .i64 B.r) ∧ W.cell? ⟨(w.heap.size + 1), 2, none⟩ = some (.int .i64 B.a) ∧ W.cell? ⟨(w.heap.size + 1), 3, none⟩ = some (.int .i64 B.b) ∧ W.cell? ⟨(w.heap.size + 1), 4, none⟩ = some ((.slice q' B.z.length cap'))) W) := fun W h => ⟨h, ((HK.out.next h).a _ (.tail _ (.tail _ (.head _)))).c0, ((HK.out.next h).a _ (.tail _ (.tail _ (.head _)))).c1, ((HK.out.next h).a _ (.tail _ (.tail _ (.head _)))).c2, ((HK.out.next h).a _ (.tail _ (.tail _ (.head _)))).c3, ((HK.out.next h).a _ (.tail _ (.tail _ (.head _)))).c4, ((HK.out.next h).a _ (.tail _ (.head _))).c0, ((HK.out.next h).a _ (.tail _ (.head _))).c1, ((HK.out.next h).a _ (.tail _ (.head _))).c2, ((HK.out.next h).a _ (.tail _ (.head _))).c3, ((HK.out.next h).a _ (.tail _ (.head _))).c4⟩
                  clear HAt HLc HBl HOk HB HI HJ HEa HEb HTw hcs
                  refine wp_region_held_drew (S := (fun W => Below wr.heap.size wr W ∧ W.cell? ⟨w.heap.size, 0, none⟩ = some (.int .i64 A.k) ∧ W.cell? ⟨w.heap.size, 1, none⟩ = some (.int .i64 A.r) ∧ W.cell? ⟨w.heap.size, 2, none⟩ = some (.int .i64 A.a) ∧ W.cell? ⟨w.heap.size, 3, none⟩ = some (.int .i64 A.b) ∧ W.cell? ⟨w.heap.size, 4, none⟩ = some ((.slice q A.z.length cap)) ∧ W.cell? ⟨(w.heap.size + 1), 0, none⟩ = some (.int .i64 B.k) ∧ W.cell? ⟨(w.heap.size + 1), 1, none⟩ = some (.int .i64 B.r) ∧ W.cell? ⟨(w.heap.size + 1), 2, none⟩ = some (.int .i64 B.a) ∧ W.cell? ⟨(w.heap.size + 1), 3, none⟩ = some (.int .i64 B.b) ∧ W.cell? ⟨(w.heap.size + 1), 4, none⟩ = some ((.slice q' B.z.length cap')))) (by kernel_rfl) ?_ (fun hHeld => ?_)
                  · exact HAll.out _ (Below.refl _ _).drew
                  have HB0 : Hid (Below wr.heap.size wr (World.drew wr)) := (Below.refl _ _).drew
                  generalize World.drew wr = wd at hHeld HB0 ⊢
                  refine wpAnyH_take (i := 0) (v := ?_) rfl (by kernel_rfl) (by kernel_rfl) (by kernel_rfl) (fun _ _ _ h => h) (Or.inl ⟨by rfl, ?_⟩) (by assumption) ?_
                  rotate_left
                  · ((intro w0 hSw); (try dsimp only at hSw); go_simp; (try with_reducible rfl))
                  change wpAnyH _ _ _ _ _ _ _ (Act.put _ (some 113) _) _
                  try simp only [Act.put, List.setIfInBounds_toArray, List.set_cons_zero, List.set_cons_succ]
                  refine wpAnyH_take (i := 1) (v := ?_) rfl (by kernel_rfl) (by kernel_rfl) (by kernel_rfl) (fun _ _ _ h => h) (Or.inl ⟨by rfl, ?_⟩) (by assumption) ?_
                  rotate_left
                  · ((intro w0 hSw); (try dsimp only at hSw); go_simp; (try with_reducible rfl))
                  change wpAnyH _ _ _ _ _ _ _ (Act.put _ (some 114) _) _
                  try simp only [Act.put, List.setIfInBounds_toArray, List.set_cons_zero, List.set_cons_succ]
                  refine wpAnyH_take (i := 2) (v := ?_) rfl (by kernel_rfl) (by kernel_rfl) (by kernel_rfl) (fun _ _ _ h => h) (Or.inl ⟨by rfl, ?_⟩) (by assumption) ?_
                  rotate_left
                  · ((intro w0 hSw); (try dsimp only at hSw); go_simp; (try with_reducible rfl))
                  change wpAnyH _ _ _ _ _ _ _ (Act.put _ (some 115) _) _
                  try simp only [Act.put, List.setIfInBounds_toArray, List.set_cons_zero, List.set_cons_succ]
                  refine wpAnyH_take (i := 4) (v := ?_) rfl (by kernel_rfl) (by kernel_rfl) (by kernel_rfl) (fun _ _ _ h => h) (Or.inl ⟨by rfl, ?_⟩) (by assumption) ?_
                  rotate_left
                  · ((intro w0 hSw); (try dsimp only at hSw); go_simp; (try with_reducible rfl))
                  change wpAnyH _ _ _ _ _ _ _ (Act.put _ (some 117) _) _
                  try simp only [Act.put, List.setIfInBounds_toArray, List.set_cons_zero, List.set_cons_succ]
                  refine wpAnyH_take (i := 5) (v := ?_) rfl (by kernel_rfl) (by kernel_rfl) (by kernel_rfl) (fun _ _ _ h => h) (Or.inl ⟨by rfl, ?_⟩) (by assumption) ?_
                  rotate_left
                  · ((intro w0 hSw); (try dsimp only at hSw); go_simp; (try with_reducible rfl))
                  change wpAnyH _ _ _ _ _ _ _ (Act.put _ (some 118) _) _
                  try simp only [Act.put, List.setIfInBounds_toArray, List.set_cons_zero, List.set_cons_succ]
                  refine wpAnyH_ready (rs := [3]) (by kernel_rfl) (by simp) ?_
                  refine AllReadyH.cons rfl (fun K hK => ?_) (AllReadyH.nil)
                  go_simp
                  go_at_call 23
                  with_reducible refine (HEa1.out _ (by with_unfolding_all exact (HK.out.next HB0.out).r _ (.tail _ (.tail _ (.head _))))).mono ?_
                  rintro e wn ⟨rfl, hb⟩
                  have HB1 := Lib.hid (HB0.out.trans (hb.mono HB0.out.size))
                  clear hb
                  refine hK.out _ _ ?_ (fun hHeld2 => ?_)
                  · exact HAll.out _ HB1.out
                  clear hK K hHeld
                  have hHeld := hHeld2; clear hHeld2
                  try change wpAnyH _ _ _ _ _ _ _ (Act.put _ (some 116) _) _
                  try dsimp only
                  try simp only [Act.put, List.setIfInBounds_toArray, List.set_cons_zero, List.set_cons_succ]
                  refine wpAnyH_ready (rs := [6]) (by kernel_rfl) (by simp) ?_
                  refine AllReadyH.cons rfl (fun K hK => ?_) (AllReadyH.nil)
                  go_simp
                  go_at_call 23
                  with_reducible refine (HEb1.out _ (by with_unfolding_all exact (HK.out.next HB1.out).r _ (.tail _ (.head _)))).mono ?_
                  rintro e wn ⟨rfl, hb⟩
                  have HB2 := Lib.hid (HB1.out.trans (hb.mono HB1.out.size))
                  clear hb
                  refine hK.out _ _ ?_ (fun hHeld2 => ?_)
                  · exact HAll.out _ HB2.out
                  clear hK K hHeld
                  have hHeld := hHeld2; clear hHeld2
                  try change wpAnyH _ _ _ _ _ _ _ (Act.put _ (some 119) _) _
                  try dsimp only
                  try simp only [Act.put, List.setIfInBounds_toArray, List.set_cons_zero, List.set_cons_succ]
                  refine wpAnyH_ready (rs := [7]) (by kernel_rfl) (by simp) ?_
                  refine AllReadyH.cons rfl (fun K hK => ?_) (AllReadyH.nil)
                  go_simp
                  go_at_call 22
                  with_reducible refine (HC.out _).mono ?_
                  rintro e wn ⟨rfl, hb⟩
                  have HB3 := Lib.hid (HB2.out.trans (hb.mono HB2.out.size))
                  clear hb
                  refine hK.out _ _ ?_ (fun hHeld2 => ?_)
                  · exact HAll.out _ HB3.out
                  clear hK K hHeld
                  have hHeld := hHeld2; clear hHeld2
                  try change wpAnyH _ _ _ _ _ _ _ (Act.put _ (some 120) _) _
                  try dsimp only
                  try simp only [Act.put, List.setIfInBounds_toArray, List.set_cons_zero, List.set_cons_succ]
                  refine wpAnyH_take (i := 8) (v := ?_) rfl (by kernel_rfl) (by kernel_rfl) (by kernel_rfl) (fun _ _ _ h => h) (Or.inl ⟨by rfl, ?_⟩) (by assumption) ?_
                  rotate_left
                  · ((intro w0 hSw); (try dsimp only at hSw); go_simp; (try with_reducible rfl))
                  change wpAnyH _ _ _ _ _ _ _ (Act.put _ (some 112) _) _
                  try simp only [Act.put, List.setIfInBounds_toArray, List.set_cons_zero, List.set_cons_succ]
                  refine wpAnyH_take (i := 9) (v := ?_) rfl (by kernel_rfl) (by kernel_rfl) (by kernel_rfl) (fun _ _ _ h => h) (Or.inl ⟨by rfl, ?_⟩) (by assumption) ?_
                  rotate_left
                  · ((intro w0 hSw); (try dsimp only at hSw); go_simp; (try with_reducible rfl))
                  change wpAnyH _ _ _ _ _ _ _ (Act.put _ (some 121) _) _
                  try simp only [Act.put, List.setIfInBounds_toArray, List.set_cons_zero, List.set_cons_succ]
                  refine wpAnyH_take (i := 10) (v := ?_) rfl (by kernel_rfl) (by kernel_rfl) (by kernel_rfl) (fun _ _ _ h => h) (Or.inl ⟨by rfl, ?_⟩) (by assumption) ?_
                  rotate_left
                  · ((intro w0 hSw); (try dsimp only at hSw); go_simp; (try with_reducible rfl))
                  change wpAnyH _ _ _ _ _ _ _ (Act.put _ (some 122) _) _
                  try simp only [Act.put, List.setIfInBounds_toArray, List.set_cons_zero, List.set_cons_succ]
                  refine wpAnyH_take (i := 11) (v := ?_) rfl (by kernel_rfl) (by kernel_rfl) (by kernel_rfl) (fun _ _ _ h => h) (Or.inl ⟨by rfl, ?_⟩) (by assumption) ?_
                  rotate_left
                  · ((intro w0 hSw); (try dsimp only at hSw); go_simp; (try with_reducible rfl))
                  change wpAnyH _ _ _ _ _ _ _ (Act.put _ (some 16) _) _
                  try simp only [Act.put, List.setIfInBounds_toArray, List.set_cons_zero, List.set_cons_succ]
                  refine wpAnyH_take (i := 12) (v := ?_) rfl (by kernel_rfl) (by kernel_rfl) (by kernel_rfl) (fun _ _ _ h => h) (Or.inl ⟨by rfl, ?_⟩) (by assumption) ?_
                  rotate_left
                  · ((intro w0 hSw); (try dsimp only at hSw); go_simp; (try with_reducible rfl))
                  change wpAnyH _ _ _ _ _ _ _ (Act.put _ (some 17) _) _
                  try simp only [Act.put, List.setIfInBounds_toArray, List.set_cons_zero, List.set_cons_succ]
                  refine wpAnyH_done (by kernel_rfl) ?_ _
                  go_wp2_with fail
                  go_meet
                  case rel => exact ⟨rfl, rfl, HB3.out⟩
              case rest =>
                obtain ⟨rfl, rfl, hbx⟩ := hcut
                have HK2 := Lib.hid (HK.out.next hbx)
                have HB2 := Lib.hid (HB.out.next hbx)
                clear HK HB hbx HC HEa1 HEb1
                have HK := HK2
                clear HK2
                obtain rfl : E' = 0 := fe_each HF.out hcs
                have HOk2 : Hid (okT cs (j + 1)) := okT_next HOk.out hcs
                have hcl := HCel.out j c 0 hcs
                have hjl : j < zz.length := by rw [HCs.out]; exact hj
                have hjl2 : (j : Int) < (zz.length : Int) := by omega
                have hrd : RdI wc.heap.size wc (.slice pwd zz.length cwd) zz := by with_unfolding_all exact HK.out.r _ (.head _)
                obtain ⟨b1, o1, he, hb1, hc⟩ := hrd.cells (by intro e; rw [e] at hjl; simp at hjl)
                cases he
                have xc := hc j hjl
                have hg : zz.getD j 0 = zz[j] := by rw [List.getD_eq_getElem?_getD, List.getElem?_eq_getElem hjl]; rfl
                rw [← hg, hcl] at xc
                clear hc hb1 hg hcl hcs hrd HOk HAt HLc HBl HTw HEa HEb HI HJ HCel
                have c0 := (HK.out.a _ (.head _)).c0
                have c1 := (HK.out.a _ (.head _)).c1
                have c2 := (HK.out.a _ (.head _)).c2
                have c3 := (HK.out.a _ (.head _)).c3
                have c4 := (HK.out.a _ (.head _)).c4
                go_wp2_with fail
                go_roundg g
                case measure => omega
                case rel => exact ⟨j + 1, by omega, by go_num, HOk2.out, HK.out, HB2.out⟩
      · have k6 : (B.r == 0) = false := by simpa using hrb
        have hmx : max (A.z.length : Int) (B.z.length : Int) = (A.z.length : Int) := by rw [← (hsame hra hrb).2.2.2]; exact Int.max_self _
        have k7 : ((zz.length : Int) == (A.z.length : Int)) = true := by rw [hzl, hmany]; simp
        have HMn := Lib.hid hmany
        clear hra hrb hsm2 hsame hmany hzl
        as_aux_lemma =>
          go_enter Tryd.func5, Tryd.ntmps5
          go_wp2_with (first
            | (go_at_call 20; (with_reducible refine (HAr.out _).mono ?_); rintro e wz ⟨rfl, rfl⟩)
            | (go_at_call 11; (with_reducible refine (HF1.out _ (by with_unfolding_all exact HK.out.r _ (.tail _ (.head _)))).mono ?_); rintro e wz ⟨rfl, hb⟩; have HK2 := Lib.hid (HK.out.next hb); clear HK x0 x1 x2 x3 x4 y0 y1 y2 y3 y4; have HK := HK2; clear HK2; clear hb; have x0 := (HK.out.a _ (.tail _ (.head _))).c0; have x1 := (HK.out.a _ (.tail _ (.head _))).c1; have x2 := (HK.out.a _ (.tail _ (.head _))).c2; have x3 := (HK.out.a _ (.tail _ (.head _))).c3; have x4 := (HK.out.a _ (.tail _ (.head _))).c4; have y0 := (HK.out.a _ (.head _)).c0; have y1 := (HK.out.a _ (.head _)).c1; have y2 := (HK.out.a _ (.head _)).c2; have y3 := (HK.out.a _ (.head _)).c3; have y4 := (HK.out.a _ (.head _)).c4)
            | (go_at_call 11; (with_reducible refine (HF2.out _ (by with_unfolding_all exact HK.out.r _ (.head _))).mono ?_); rintro e wz ⟨rfl, hb⟩; have HK2 := Lib.hid (HK.out.next hb); clear HK x0 x1 x2 x3 x4 y0 y1 y2 y3 y4; have HK := HK2; clear HK2; clear hb; have x0 := (HK.out.a _ (.tail _ (.head _))).c0; have x1 := (HK.out.a _ (.tail _ (.head _))).c1; have x2 := (HK.out.a _ (.tail _ (.head _))).c2; have x3 := (HK.out.a _ (.tail _ (.head _))).c3; have x4 := (HK.out.a _ (.tail _ (.head _))).c4; have y0 := (HK.out.a _ (.head _)).c0; have y1 := (HK.out.a _ (.head _)).c1; have y2 := (HK.out.a _ (.head _)).c2; have y3 := (HK.out.a _ (.head _)).c3; have y4 := (HK.out.a _ (.head _)).c4)
            | (go_at_call 21; (with_reducible refine (HC2.out _ (by with_unfolding_all exact HK.out.r _ (.head _))).mono ?_); rintro e wz ⟨rfl, hb⟩; have HK2 := Lib.hid (HK.out.next hb); clear HK x0 x1 x2 x3 x4 y0 y1 y2 y3 y4; have HK := HK2; clear HK2; clear hb; have x0 := (HK.out.a _ (.tail _ (.head _))).c0; have x1 := (HK.out.a _ (.tail _ (.head _))).c1; have x2 := (HK.out.a _ (.tail _ (.head _))).c2; have x3 := (HK.out.a _ (.tail _ (.head _))).c3; have x4 := (HK.out.a _ (.tail _ (.head _))).c4; have y0 := (HK.out.a _ (.head _)).c0; have y1 := (HK.out.a _ (.head _)).c1; have y2 := (HK.out.a _ (.head _)).c2; have y3 := (HK.out.a _ (.head _)).c3; have y4 := (HK.out.a _ (.head _)).c4)
            | (go_at_call 21; (with_reducible refine (HC1.out _ (by with_unfolding_all exact HK.out.r _ (.tail _ (.head _)))).mono ?_); rintro e wz ⟨rfl, hb⟩; have HK2 := Lib.hid (HK.out.next hb); clear HK x0 x1 x2 x3 x4 y0 y1 y2 y3 y4; have HK := HK2; clear HK2; clear hb; have x0 := (HK.out.a _ (.tail _ (.head _))).c0; have x1 := (HK.out.a _ (.tail _ (.head _))).c1; have x2 := (HK.out.a _ (.tail _ (.head _))).c2; have x3 := (HK.out.a _ (.tail _ (.head _))).c3; have x4 := (HK.out.a _ (.tail _ (.head _))).c4; have y0 := (HK.out.a _ (.head _)).c0; have y1 := (HK.out.a _ (.head _)).c1; have y2 := (HK.out.a _ (.head _)).c2; have y3 := (HK.out.a _ (.head _)).c3; have y4 := (HK.out.a _ (.head _)).c4)
            | (go_at_call 18; (with_reducible refine (HL1.out _ (by with_unfolding_all exact HK.out.lay) (by with_unfolding_all exact HK.out.r _ (.tail _ (.head _))) (by with_unfolding_all exact HK.out.r _ (.head _))).mono ?_); rintro e wc ⟨rfl, hb⟩; have HK2 := Lib.hid ((HK.out.next hb).next (bel1 _ (.cells #[.int .i64 la, .int .i64 lb] 22))); clear HK x0 x1 x2 x3 x4 y0 y1 y2 y3 y4; have HK := HK2; clear HK2; clear hb; have HB1 := Lib.hid (R2.new wc la lb); have x0 := (HK.out.a _ (.tail _ (.head _))).c0; have x1 := (HK.out.a _ (.tail _ (.head _))).c1; have x2 := (HK.out.a _ (.tail _ (.head _))).c2; have x3 := (HK.out.a _ (.tail _ (.head _))).c3; have x4 := (HK.out.a _ (.tail _ (.head _))).c4; have y0 := (HK.out.a _ (.head _)).c0; have y1 := (HK.out.a _ (.head _)).c1; have y2 := (HK.out.a _ (.head _)).c2; have y3 := (HK.out.a _ (.head _)).c3; have y4 := (HK.out.a _ (.head _)).c4)
            | (go_at_call 16; (with_reducible refine (HT1.out _ (by with_unfolding_all exact HK.out.lay) (by with_unfolding_all exact HK.out.r _ (.tail _ (.head _))) (by with_unfolding_all exact HK.out.r _ (.head _))).mono ?_); rintro e wd ⟨uwd, rfl, hu, hb⟩; obtain ⟨pwd, cwd, hpwd, _, _⟩ := hu.form; have hqwd : uwd = (.slice pwd zz.length cwd) := hpwd; subst hqwd; clear hpwd; have hltyc : (w.heap.size + 1) < wd.heap.size := Nat.lt_of_lt_of_le (HK.out.lt _ (.head _)) hb.size; have hltxc : w.heap.size < wd.heap.size := Nat.lt_of_lt_of_le (HK.out.lt _ (.tail _ (.head _))) hb.size; have HK2 := Lib.hid (HK.out.res hb ⟨1, lr, la, lb, zz⟩ hu); clear HK x0 x1 x2 x3 x4 y0 y1 y2 y3 y4; have HK := HK2; clear HK2; have HB2 := Lib.hid ((HB1.out.next hb).next (bel1 _ (.cells #[.int .i64 1, .int .i64 lr, .int .i64 la, .int .i64 lb, .slice pwd zz.length cwd] 25))); clear HB1 hb hu; have x0 := (HK.out.a _ (.tail _ (.tail _ (.head _)))).c0; have x1 := (HK.out.a _ (.tail _ (.tail _ (.head _)))).c1; have x2 := (HK.out.a _ (.tail _ (.tail _ (.head _)))).c2; have x3 := (HK.out.a _ (.tail _ (.tail _ (.head _)))).c3; have x4 := (HK.out.a _ (.tail _ (.tail _ (.head _)))).c4; have y0 := (HK.out.a _ (.tail _ (.head _))).c0; have y1 := (HK.out.a _ (.tail _ (.head _))).c1; have y2 := (HK.out.a _ (.tail _ (.head _))).c2; have y3 := (HK.out.a _ (.tail _ (.head _))).c3; have y4 := (HK.out.a _ (.tail _ (.head _))).c4; have c0 := (HK.out.a _ (.head _)).c0; have c1 := (HK.out.a _ (.head _)).c1; have c2 := (HK.out.a _ (.head _)).c2; have c3 := (HK.out.a _ (.head _)).c3; have c4 := (HK.out.a _ (.head _)).c4)
            | fail)
          generalize wc.heap.size = gl at HB2 ⊢
          generalize World.alloc wd _ = W0 at HK HB2 ⊢
          generalize wd.heap.size = gc at HK ⊢
          clear x0 x1 x2 x3 x4 y0 y1 y2 y3 y4 c0 c1 c2 c3 c4 HF1 HF2 HC1 HC2 HAr HL1 HT1
          go_loopg [15] n (fun g i wr => ∃ j : Nat, j + g = n ∧ i = .int .i64 j ∧ okT cs j ∧ KVar w [⟨gc, ⟨1, lr, la, lb, zz⟩, (.slice pwd zz.length cwd)⟩, ⟨(w.heap.size + 1), B, (.slice q' B.z.length cap')⟩, ⟨w.heap.size, A, (.slice q A.z.length cap)⟩] wr ∧ R2 wr gl la lb)
          case atStart => exact ⟨0, by omega, rfl, okT_zero _, HK.out, HB2.out⟩
          case round =>
            obtain ⟨j, hjg, rfl, hok, hk, h2⟩ := hrel
            clear HK HB2
            have HOk := Lib.hid hok
            have HK := Lib.hid hk
            have HB := Lib.hid h2
            clear hok hk h2
            cases gk with
            | zero =>
              have hjz : ¬ ((j : Int) < (n : Int)) := by omega
              have hjz2 := hjz
              rw [HMn.out] at hjz2
              have x0 := (HK.out.a _ (.tail _ (.tail _ (.head _)))).c0
              have x1 := (HK.out.a _ (.tail _ (.tail _ (.head _)))).c1
              have x2 := (HK.out.a _ (.tail _ (.tail _ (.head _)))).c2
              have x3 := (HK.out.a _ (.tail _ (.tail _ (.head _)))).c3
              have x4 := (HK.out.a _ (.tail _ (.tail _ (.head _)))).c4
              have y0 := (HK.out.a _ (.tail _ (.head _))).c0
              have y1 := (HK.out.a _ (.tail _ (.head _))).c1
              have y2 := (HK.out.a _ (.tail _ (.head _))).c2
              have y3 := (HK.out.a _ (.tail _ (.head _))).c3
              have y4 := (HK.out.a _ (.tail _ (.head _))).c4
              have c0 := (HK.out.a _ (.head _)).c0
              have c1 := (HK.out.a _ (.head _)).c1
              have c2 := (HK.out.a _ (.head _)).c2
              have c3 := (HK.out.a _ (.head _)).c3
              have c4 := (HK.out.a _ (.head _)).c4
              have b0 := HB.out.c0
              have b1 := HB.out.c1
              have HQ := fun W => eq2t10 la lb W
              clear HOk HAt HLc HBl HTw HEa HEb HI HJ HCel
              have HCc := Lib.hid (fun v W h => archeck_any ⟨1, lr, la, lb, zz⟩ v W h (by rw [HCs.out]; omega))
              rw [HCk.out] at HCc
              go_wp2_with (first
                | (go_at_call 21; (with_reducible refine (HCc.out _ _ (by with_unfolding_all exact HK.out.r _ (.head _))).mono ?_); rintro e wz ⟨rfl, hb⟩; have HK2 := Lib.hid (HK.out.next hb); clear HK x0 x1 x2 x3 x4 y0 y1 y2 y3 y4 c0 c1 c2 c3 c4; have HK := HK2; clear HK2; clear hb; have x0 := (HK.out.a _ (.tail _ (.tail _ (.head _)))).c0; have x1 := (HK.out.a _ (.tail _ (.tail _ (.head _)))).c1; have x2 := (HK.out.a _ (.tail _ (.tail _ (.head _)))).c2; have x3 := (HK.out.a _ (.tail _ (.tail _ (.head _)))).c3; have x4 := (HK.out.a _ (.tail _ (.tail _ (.head _)))).c4; have y0 := (HK.out.a _ (.tail _ (.head _))).c0; have y1 := (HK.out.a _ (.tail _ (.head _))).c1; have y2 := (HK.out.a _ (.tail _ (.head _))).c2; have y3 := (HK.out.a _ (.tail _ (.head _))).c3; have y4 := (HK.out.a _ (.tail _ (.head _))).c4; have c0 := (HK.out.a _ (.head _)).c0; have c1 := (HK.out.a _ (.head _)).c1; have c2 := (HK.out.a _ (.head _)).c2; have c3 := (HK.out.a _ (.head _)).c3; have c4 := (HK.out.a _ (.head _)).c4)
                | (go_at_call 12; (with_reducible refine (HAw.out _ (by with_unfolding_all exact HK.out.lay)).mono ?_); rintro e wz ⟨rfl, hb⟩; have HK2 := Lib.hid (HK.out.next hb); clear HK x0 x1 x2 x3 x4 y0 y1 y2 y3 y4 c0 c1 c2 c3 c4; have HK := HK2; clear HK2; clear hb; have x0 := (HK.out.a _ (.tail _ (.tail _ (.head _)))).c0; have x1 := (HK.out.a _ (.tail _ (.tail _ (.head _)))).c1; have x2 := (HK.out.a _ (.tail _ (.tail _ (.head _)))).c2; have x3 := (HK.out.a _ (.tail _ (.tail _ (.head _)))).c3; have x4 := (HK.out.a _ (.tail _ (.tail _ (.head _)))).c4; have y0 := (HK.out.a _ (.tail _ (.head _))).c0; have y1 := (HK.out.a _ (.tail _ (.head _))).c1; have y2 := (HK.out.a _ (.tail _ (.head _))).c2; have y3 := (HK.out.a _ (.tail _ (.head _))).c3; have y4 := (HK.out.a _ (.tail _ (.head _))).c4; have c0 := (HK.out.a _ (.head _)).c0; have c1 := (HK.out.a _ (.head _)).c1; have c2 := (HK.out.a _ (.head _)).c2; have c3 := (HK.out.a _ (.head _)).c3; have c4 := (HK.out.a _ (.head _)).c4)
                | fail)
              go_ret
              exact ⟨rfl, HK.out.bel⟩
            | succ g =>
              have hjz : (j : Int) < (n : Int) := by omega
              have hjz2 := hjz
              rw [HMn.out] at hjz2
              have hj : j < n := by omega
              have hcs := HAt.out j hj
              have hbl := HBl.out j hj
              have hia : Sc.inr (celI A j) = true := HI.out.get _
              have hib : Sc.inr (celI B j) = true := HJ.out.get _
              have HEa1 := Lib.hid (fun W h => HEa.out j W h hbl.1)
              have HEb1 := Lib.hid (fun W h => HEb.out j W h hbl.2)
              generalize celI A j = x at HEa1 hcs hia
              generalize celI B j = y at HEb1 hcs hib
              have HC := Lib.hid (fun W => HTw.out x y W hia hib)
              generalize Sc.twoV p x y = c at HC hcs
              obtain ⟨c, E'⟩ := c
              simp only at HC
              clear hia hib hbl
              have x0 := (HK.out.a _ (.tail _ (.tail _ (.head _)))).c0
              have x1 := (HK.out.a _ (.tail _ (.tail _ (.head _)))).c1
              have x2 := (HK.out.a _ (.tail _ (.tail _ (.head _)))).c2
              have x3 := (HK.out.a _ (.tail _ (.tail _ (.head _)))).c3
              have x4 := (HK.out.a _ (.tail _ (.tail _ (.head _)))).c4
              have y0 := (HK.out.a _ (.tail _ (.head _))).c0
              have y1 := (HK.out.a _ (.tail _ (.head _))).c1
              have y2 := (HK.out.a _ (.tail _ (.head _))).c2
              have y3 := (HK.out.a _ (.tail _ (.head _))).c3
              have y4 := (HK.out.a _ (.tail _ (.head _))).c4
              go_wp2_with fail
              clear x0 x1 x2 x3 x4 y0 y1 y2 y3 y4
              go_cut [16, 17] (fun sx se wx => sx = .int .i64 c ∧ se = .int .i64 E' ∧ Below wr.heap.size wr wx)
              case first =>
                as_aux_lemma =>
                  have HAll : Hid (∀ W, Below wr.heap.size wr W → (fun W => Below wr.heap.size wr W ∧ W.cell? ⟨w.heap.size, 0, none⟩ = some (.int .i64 A.k) ∧ W.cell? ⟨w.heap.size, 1, none⟩ = some (.int .i64 A.r) ∧ W.cell? ⟨w.heap.size, 2, none⟩ = some (.int .i64 A.a) ∧ W.cell? ⟨w.heap.size, 3, none⟩ = some (.int .i64 A.b) ∧ W.cell? ⟨w.heap.size, 4, none⟩ = some ((.slice q A.z.length cap)) ∧ W.cell? ⟨(w.heap.size + 1), 0, none⟩ = some (.int .i64 B.k) ∧ W.cell? ⟨(w.heap.size + 1), 1, none⟩ = some (.int .i64 B.r) ∧ W.cell? ⟨(w.heap.size + 1), 2, none⟩ = some (.int .i64 B.a) ∧ W.cell? ⟨(w.heap.size + 1), 3, none⟩ = some (.int .i64 B.b) ∧ W.cell? ⟨(w.heap.size + 1), 4, none⟩ = some ((.slice q' B.z.length cap'))) W) := fun W h => ⟨h, ((HK.out.next h).a _ (.tail _ (.tail _ (.head _)))).c0, ((HK.out.next h).a _ (.tail _ (.tail _ (.head _)))).c1, ((HK.out.next h).a _ (.tail _ (.tail _ (.head _)))).c2, ((HK.out.next h).a _ (.tail _ (.tail _ (.head _)))).c3, ((HK.out.next h).a _ (.tail _ (.tail _ (.head _)))).c4, ((HK.out.next h).a _ (.tail _ (.head _))).c0, ((HK.out.next h).a _ (.tail _ (.head _))).c1, ((HK.out.next h).a _ (.tail _ (.head _))).c2, ((HK.out.next h).a _ (.tail _ (.head _))).c3, ((HK.out.next h).a _ (.tail _ (.head _))).c4⟩
                  clear HAt HLc HBl HOk HB HI HJ HEa HEb HTw hcs
                  refine wp_region_held_drew (S := (fun W => Below wr.heap.size wr W ∧ W.cell? ⟨w.heap.size, 0, none⟩ = some (.int .i64 A.k) ∧ W.cell? ⟨w.heap.size, 1, none⟩ = some (.int .i64 A.r) ∧ W.cell? ⟨w.heap.size, 2, none⟩ = some (.int .i64 A.a) ∧ W.cell? ⟨w.heap.size, 3, none⟩ = some (.int .i64 A.b) ∧ W.cell? ⟨w.heap.size, 4, none⟩ = some ((.slice q A.z.length cap)) ∧ W.cell? ⟨(w.heap.size + 1), 0, none⟩ = some (.int .i64 B.k) ∧ W.cell? ⟨(w.heap.size + 1), 1, none⟩ = some (.int .i64 B.r) ∧ W.cell? ⟨(w.heap.size + 1), 2, none⟩ = some (.int .i64 B.a) ∧ W.cell? ⟨(w.heap.size + 1), 3, none⟩ = some (.int .i64 B.b) ∧ W.cell? ⟨(w.heap.size + 1), 4, none⟩ = some ((.slice q' B.z.length cap')))) (by kernel_rfl) ?_ (fun hHeld => ?_)
                  · exact HAll.out _ (Below.refl _ _).drew
                  have HB0 : Hid (Below wr.heap.size wr (World.drew wr)) := (Below.refl _ _).drew
                  generalize World.drew wr = wd at hHeld HB0 ⊢
                  refine wpAnyH_take (i := 0) (v := ?_) rfl (by kernel_rfl) (by kernel_rfl) (by kernel_rfl) (fun _ _ _ h => h) (Or.inl ⟨by rfl, ?_⟩) (by assumption) ?_
                  rotate_left
                  · ((intro w0 hSw); (try dsimp only at hSw); go_simp; (try with_reducible rfl))
                  change wpAnyH _ _ _ _ _ _ _ (Act.put _ (some 113) _) _
                  try simp only [Act.put, List.setIfInBounds_toArray, List.set_cons_zero, List.set_cons_succ]
                  refine wpAnyH_take (i := 1) (v := ?_) rfl (by kernel_rfl) (by kernel_rfl) (by kernel_rfl) (fun _ _ _ h => h) (Or.inl ⟨by rfl, ?_⟩) (by assumption) ?_
                  rotate_left
                  · ((intro w0 hSw); (try dsimp only at hSw); go_simp; (try with_reducible rfl))
                  change wpAnyH _ _ _ _ _ _ _ (Act.put _ (some 114) _) _
                  try simp only [Act.put, List.setIfInBounds_toArray, List.set_cons_zero, List.set_cons_succ]
                  refine wpAnyH_take (i := 2) (v := ?_) rfl (by kernel_rfl) (by kernel_rfl) (by kernel_rfl) (fun _ _ _ h => h) (Or.inl ⟨by rfl, ?_⟩) (by assumption) ?_
                  rotate_left
                  · ((intro w0 hSw); (try dsimp only at hSw); go_simp; (try with_reducible rfl))
                  change wpAnyH _ _ _ _ _ _ _ (Act.put _ (some 115) _) _
                  try simp only [Act.put, List.setIfInBounds_toArray, List.set_cons_zero, List.set_cons_succ]
                  refine wpAnyH_take (i := 4) (v := ?_) rfl (by kernel_rfl) (by kernel_rfl) (by kernel_rfl) (fun _ _ _ h => h) (Or.inl ⟨by rfl, ?_⟩) (by assumption) ?_
                  rotate_left
                  · ((intro w0 hSw); (try dsimp only at hSw); go_simp; (try with_reducible rfl))
                  change wpAnyH _ _ _ _ _ _ _ (Act.put _ (some 117) _) _
                  try simp only [Act.put, List.setIfInBounds_toArray, List.set_cons_zero, List.set_cons_succ]
                  refine wpAnyH_take (i := 5) (v := ?_) rfl (by kernel_rfl) (by kernel_rfl) (by kernel_rfl) (fun _ _ _ h => h) (Or.inl ⟨by rfl, ?_⟩) (by assumption) ?_
                  rotate_left
                  · ((intro w0 hSw); (try dsimp only at hSw); go_simp; (try with_reducible rfl))
                  change wpAnyH _ _ _ _ _ _ _ (Act.put _ (some 118) _) _
                  try simp only [Act.put, List.setIfInBounds_toArray, List.set_cons_zero, List.set_cons_succ]
                  refine wpAnyH_ready (rs := [3]) (by kernel_rfl) (by simp) ?_
                  refine AllReadyH.cons rfl (fun K hK => ?_) (AllReadyH.nil)
                  go_simp
                  go_at_call 23
                  with_reducible refine (HEa1.out _ (by with_unfolding_all exact (HK.out.next HB0.out).r _ (.tail _ (.tail _ (.head _))))).mono ?_
                  rintro e wn ⟨rfl, hb⟩
                  have HB1 := Lib.hid (HB0.out.trans (hb.mono HB0.out.size))
                  clear hb
                  refine hK.out _ _ ?_ (fun hHeld2 => ?_)
                  · exact HAll.out _ HB1.out
                  clear hK K hHeld
                  have hHeld := hHeld2; clear hHeld2
                  try change wpAnyH _ _ _ _ _ _ _ (Act.put _ (some 116) _) _
                  try dsimp only
                  try simp only [Act.put, List.setIfInBounds_toArray, List.set_cons_zero, List.set_cons_succ]
                  refine wpAnyH_ready (rs := [6]) (by kernel_rfl) (by simp) ?_
                  refine AllReadyH.cons rfl (fun K hK => ?_) (AllReadyH.nil)
                  go_simp
                  go_at_call 23
                  with_reducible refine (HEb1.out _ (by with_unfolding_all exact (HK.out.next HB1.out).r _ (.tail _ (.head _)))).mono ?_
                  rintro e wn ⟨rfl, hb⟩
                  have HB2 := Lib.hid (HB1.out.trans (hb.mono HB1.out.size))
                  clear hb
                  refine hK.out _ _ ?_ (fun hHeld2 => ?_)
                  · exact HAll.out _ HB2.out
                  clear hK K hHeld
                  have hHeld := hHeld2; clear hHeld2
                  try change wpAnyH _ _ _ _ _ _ _ (Act.put _ (some 119) _) _
                  try dsimp only
                  try simp only [Act.put, List.setIfInBounds_toArray, List.set_cons_zero, List.set_cons_succ]
                  refine wpAnyH_ready (rs := [7]) (by kernel_rfl) (by simp) ?_
                  refine AllReadyH.cons rfl (fun K hK => ?_) (AllReadyH.nil)
                  go_simp
                  go_at_call 22
                  with_reducible refine (HC.out _).mono ?_
                  rintro e wn ⟨rfl, hb⟩
                  have HB3 := Lib.hid (HB2.out.trans (hb.mono HB2.out.size))
                  clear hb
                  refine hK.out _ _ ?_ (fun hHeld2 => ?_)
                  · exact HAll.out _ HB3.out
                  clear hK K hHeld
                  have hHeld := hHeld2; clear hHeld2
                  try change wpAnyH _ _ _ _ _ _ _ (Act.put _ (some 120) _) _
                  try dsimp only
                  try simp only [Act.put, List.setIfInBounds_toArray, List.set_cons_zero, List.set_cons_succ]
                  refine wpAnyH_take (i := 8) (v := ?_) rfl (by kernel_rfl) (by kernel_rfl) (by kernel_rfl) (fun _ _ _ h => h) (Or.inl ⟨by rfl, ?_⟩) (by assumption) ?_
                  rotate_left
                  · ((intro w0 hSw); (try dsimp only at hSw); go_simp; (try with_reducible rfl))
                  change wpAnyH _ _ _ _ _ _ _ (Act.put _ (some 112) _) _
                  try simp only [Act.put, List.setIfInBounds_toArray, List.set_cons_zero, List.set_cons_succ]
                  refine wpAnyH_take (i := 9) (v := ?_) rfl (by kernel_rfl) (by kernel_rfl) (by kernel_rfl) (fun _ _ _ h => h) (Or.inl ⟨by rfl, ?_⟩) (by assumption) ?_
                  rotate_left
                  · ((intro w0 hSw); (try dsimp only at hSw); go_simp; (try with_reducible rfl))
                  change wpAnyH _ _ _ _ _ _ _ (Act.put _ (some 121) _) _
                  try simp only [Act.put, List.setIfInBounds_toArray, List.set_cons_zero, List.set_cons_succ]
                  refine wpAnyH_take (i := 10) (v := ?_) rfl (by kernel_rfl) (by kernel_rfl) (by kernel_rfl) (fun _ _ _ h => h) (Or.inl ⟨by rfl, ?_⟩) (by assumption) ?_
                  rotate_left
                  · ((intro w0 hSw); (try dsimp only at hSw); go_simp; (try with_reducible rfl))
                  change wpAnyH _ _ _ _ _ _ _ (Act.put _ (some 122) _) _
                  try simp only [Act.put, List.setIfInBounds_toArray, List.set_cons_zero, List.set_cons_succ]
                  refine wpAnyH_take (i := 11) (v := ?_) rfl (by kernel_rfl) (by kernel_rfl) (by kernel_rfl) (fun _ _ _ h => h) (Or.inl ⟨by rfl, ?_⟩) (by assumption) ?_
                  rotate_left
                  · ((intro w0 hSw); (try dsimp only at hSw); go_simp; (try with_reducible rfl))
                  change wpAnyH _ _ _ _ _ _ _ (Act.put _ (some 16) _) _
                  try simp only [Act.put, List.setIfInBounds_toArray, List.set_cons_zero, List.set_cons_succ]
                  refine wpAnyH_take (i := 12) (v := ?_) rfl (by kernel_rfl) (by kernel_rfl) (by kernel_rfl) (fun _ _ _ h => h) (Or.inl ⟨by rfl, ?_⟩) (by assumption) ?_
                  rotate_left
                  · ((intro w0 hSw); (try dsimp only at hSw); go_simp; (try with_reducible rfl))
                  change wpAnyH _ _ _ _ _ _ _ (Act.put _ (some 17) _) _
                  try simp only [Act.put, List.setIfInBounds_toArray, List.set_cons_zero, List.set_cons_succ]
                  refine wpAnyH_done (by kernel_rfl) ?_ _
                  go_wp2_with fail
                  go_meet
                  case rel => exact ⟨rfl, rfl, HB3.out⟩
              case rest =>
                obtain ⟨rfl, rfl, hbx⟩ := hcut
                have HK2 := Lib.hid (HK.out.next hbx)
                have HB2 := Lib.hid (HB.out.next hbx)
                clear HK HB hbx HC HEa1 HEb1
                have HK := HK2
                clear HK2
                obtain rfl : E' = 0 := fe_each HF.out hcs
                have HOk2 : Hid (okT cs (j + 1)) := okT_next HOk.out hcs
                have hcl := HCel.out j c 0 hcs
                have hjl : j < zz.length := by rw [HCs.out]; exact hj
                have hjl2 : (j : Int) < (zz.length : Int) := by omega
                have hrd : RdI wc.heap.size wc (.slice pwd zz.length cwd) zz := by with_unfolding_all exact HK.out.r _ (.head _)
                obtain ⟨b1, o1, he, hb1, hc⟩ := hrd.cells (by intro e; rw [e] at hjl; simp at hjl)
                cases he
                have xc := hc j hjl
                have hg : zz.getD j 0 = zz[j] := by rw [List.getD_eq_getElem?_getD, List.getElem?_eq_getElem hjl]; rfl
                rw [← hg, hcl] at xc
                clear hc hb1 hg hcl hcs hrd HOk HAt HLc HBl HTw HEa HEb HI HJ HCel
                have c0 := (HK.out.a _ (.head _)).c0
                have c1 := (HK.out.a _ (.head _)).c1
                have c2 := (HK.out.a _ (.head _)).c2
                have c3 := (HK.out.a _ (.head _)).c3
                have c4 := (HK.out.a _ (.head _)).c4
                go_wp2_with fail
                go_roundg g
                case measure => omega
                case rel => exact ⟨j + 1, by omega, by go_num, HOk2.out, HK.out, HB2.out⟩
  · obtain rfl := hVb hz
    generalize hFF : feL cs = F at HT1 hz
    have HF := Lib.hid hFF
    have HNz := Lib.hid hz
    have k0 : (F == 0) = false := by simpa using hz
    clear hVo hVb hz hFF HCk
    by_cases hra : A.r = 0
    · have k5 : (A.r == 0) = true := by simpa using hra
      rw [if_pos hra] at hmany
      by_cases hrb : B.r = 0
      · have k6 : (B.r == 0) = true := by simpa using hrb
        rw [← hsm2 hra hrb] at hmany
        have HMn := Lib.hid hmany
        clear hra hrb hsm2 hsame hmany
        as_aux_lemma =>
          go_enter Tryd.func5, Tryd.ntmps5
          go_wp2_with (first
            | (go_at_call 20; (with_reducible refine (HAr.out _).mono ?_); rintro e wz ⟨rfl, rfl⟩)
            | (go_at_call 11; (with_reducible refine (HF1.out _ (by with_unfolding_all exact HK.out.r _ (.tail _ (.head _)))).mono ?_); rintro e wz ⟨rfl, hb⟩; have HK2 := Lib.hid (HK.out.next hb); clear HK x0 x1 x2 x3 x4 y0 y1 y2 y3 y4; have HK := HK2; clear HK2; clear hb; have x0 := (HK.out.a _ (.tail _ (.head _))).c0; have x1 := (HK.out.a _ (.tail _ (.head _))).c1; have x2 := (HK.out.a _ (.tail _ (.head _))).c2; have x3 := (HK.out.a _ (.tail _ (.head _))).c3; have x4 := (HK.out.a _ (.tail _ (.head _))).c4; have y0 := (HK.out.a _ (.head _)).c0; have y1 := (HK.out.a _ (.head _)).c1; have y2 := (HK.out.a _ (.head _)).c2; have y3 := (HK.out.a _ (.head _)).c3; have y4 := (HK.out.a _ (.head _)).c4)
            | (go_at_call 11; (with_reducible refine (HF2.out _ (by with_unfolding_all exact HK.out.r _ (.head _))).mono ?_); rintro e wz ⟨rfl, hb⟩; have HK2 := Lib.hid (HK.out.next hb); clear HK x0 x1 x2 x3 x4 y0 y1 y2 y3 y4; have HK := HK2; clear HK2; clear hb; have x0 := (HK.out.a _ (.tail _ (.head _))).c0; have x1 := (HK.out.a _ (.tail _ (.head _))).c1; have x2 := (HK.out.a _ (.tail _ (.head _))).c2; have x3 := (HK.out.a _ (.tail _ (.head _))).c3; have x4 := (HK.out.a _ (.tail _ (.head _))).c4; have y0 := (HK.out.a _ (.head _)).c0; have y1 := (HK.out.a _ (.head _)).c1; have y2 := (HK.out.a _ (.head _)).c2; have y3 := (HK.out.a _ (.head _)).c3; have y4 := (HK.out.a _ (.head _)).c4)
            | (go_at_call 21; (with_reducible refine (HC2.out _ (by with_unfolding_all exact HK.out.r _ (.head _))).mono ?_); rintro e wz ⟨rfl, hb⟩; have HK2 := Lib.hid (HK.out.next hb); clear HK x0 x1 x2 x3 x4 y0 y1 y2 y3 y4; have HK := HK2; clear HK2; clear hb; have x0 := (HK.out.a _ (.tail _ (.head _))).c0; have x1 := (HK.out.a _ (.tail _ (.head _))).c1; have x2 := (HK.out.a _ (.tail _ (.head _))).c2; have x3 := (HK.out.a _ (.tail _ (.head _))).c3; have x4 := (HK.out.a _ (.tail _ (.head _))).c4; have y0 := (HK.out.a _ (.head _)).c0; have y1 := (HK.out.a _ (.head _)).c1; have y2 := (HK.out.a _ (.head _)).c2; have y3 := (HK.out.a _ (.head _)).c3; have y4 := (HK.out.a _ (.head _)).c4)
            | (go_at_call 21; (with_reducible refine (HC1.out _ (by with_unfolding_all exact HK.out.r _ (.tail _ (.head _)))).mono ?_); rintro e wz ⟨rfl, hb⟩; have HK2 := Lib.hid (HK.out.next hb); clear HK x0 x1 x2 x3 x4 y0 y1 y2 y3 y4; have HK := HK2; clear HK2; clear hb; have x0 := (HK.out.a _ (.tail _ (.head _))).c0; have x1 := (HK.out.a _ (.tail _ (.head _))).c1; have x2 := (HK.out.a _ (.tail _ (.head _))).c2; have x3 := (HK.out.a _ (.tail _ (.head _))).c3; have x4 := (HK.out.a _ (.tail _ (.head _))).c4; have y0 := (HK.out.a _ (.head _)).c0; have y1 := (HK.out.a _ (.head _)).c1; have y2 := (HK.out.a _ (.head _)).c2; have y3 := (HK.out.a _ (.head _)).c3; have y4 := (HK.out.a _ (.head _)).c4)
            | (go_at_call 18; (with_reducible refine (HL1.out _ (by with_unfolding_all exact HK.out.lay) (by with_unfolding_all exact HK.out.r _ (.tail _ (.head _))) (by with_unfolding_all exact HK.out.r _ (.head _))).mono ?_); rintro e wc ⟨rfl, hb⟩; have HK2 := Lib.hid ((HK.out.next hb).next (bel1 _ (.cells #[.int .i64 la, .int .i64 lb] 22))); clear HK x0 x1 x2 x3 x4 y0 y1 y2 y3 y4; have HK := HK2; clear HK2; clear hb; have HB1 := Lib.hid (R2.new wc la lb); have x0 := (HK.out.a _ (.tail _ (.head _))).c0; have x1 := (HK.out.a _ (.tail _ (.head _))).c1; have x2 := (HK.out.a _ (.tail _ (.head _))).c2; have x3 := (HK.out.a _ (.tail _ (.head _))).c3; have x4 := (HK.out.a _ (.tail _ (.head _))).c4; have y0 := (HK.out.a _ (.head _)).c0; have y1 := (HK.out.a _ (.head _)).c1; have y2 := (HK.out.a _ (.head _)).c2; have y3 := (HK.out.a _ (.head _)).c3; have y4 := (HK.out.a _ (.head _)).c4)
            | (go_at_call 16; (with_reducible refine (HT1.out _ (by with_unfolding_all exact HK.out.lay) (by with_unfolding_all exact HK.out.r _ (.tail _ (.head _))) (by with_unfolding_all exact HK.out.r _ (.head _))).mono ?_); rintro e wd ⟨uwd, rfl, hu, hb⟩; obtain ⟨pwd, cwd, hpwd, _, _⟩ := hu.form; have hqwd : uwd = (.slice pwd 0 cwd) := hpwd; subst hqwd; clear hpwd; have hltyc : (w.heap.size + 1) < wd.heap.size := Nat.lt_of_lt_of_le (HK.out.lt _ (.head _)) hb.size; have hltxc : w.heap.size < wd.heap.size := Nat.lt_of_lt_of_le (HK.out.lt _ (.tail _ (.head _))) hb.size; have HK2 := Lib.hid (HK.out.res hb ⟨0, 0, 0, 0, []⟩ hu); clear HK x0 x1 x2 x3 x4 y0 y1 y2 y3 y4; have HK := HK2; clear HK2; have HB2 := Lib.hid ((HB1.out.next hb).next (bel1 _ (.cells #[.int .i64 0, .int .i64 0, .int .i64 0, .int .i64 0, .slice pwd 0 cwd] 25))); clear HB1 hb hu; have x0 := (HK.out.a _ (.tail _ (.tail _ (.head _)))).c0; have x1 := (HK.out.a _ (.tail _ (.tail _ (.head _)))).c1; have x2 := (HK.out.a _ (.tail _ (.tail _ (.head _)))).c2; have x3 := (HK.out.a _ (.tail _ (.tail _ (.head _)))).c3; have x4 := (HK.out.a _ (.tail _ (.tail _ (.head _)))).c4; have y0 := (HK.out.a _ (.tail _ (.head _))).c0; have y1 := (HK.out.a _ (.tail _ (.head _))).c1; have y2 := (HK.out.a _ (.tail _ (.head _))).c2; have y3 := (HK.out.a _ (.tail _ (.head _))).c3; have y4 := (HK.out.a _ (.tail _ (.head _))).c4; have c0 := (HK.out.a _ (.head _)).c0; have c1 := (HK.out.a _ (.head _)).c1; have c2 := (HK.out.a _ (.head _)).c2; have c3 := (HK.out.a _ (.head _)).c3; have c4 := (HK.out.a _ (.head _)).c4)
            | fail)
          generalize wc.heap.size = gl at HB2 ⊢
          generalize World.alloc wd _ = W0 at HK HB2 ⊢
          generalize wd.heap.size = gc at HK ⊢
          clear x0 x1 x2 x3 x4 y0 y1 y2 y3 y4 c0 c1 c2 c3 c4 HF1 HF2 HC1 HC2 HAr HL1 HT1
          go_loopg [15] n (fun g i wr => ∃ j : Nat, j + g = n ∧ i = .int .i64 j ∧ okT cs j ∧ KVar w [⟨gc, ⟨0, 0, 0, 0, []⟩, (.slice pwd 0 cwd)⟩, ⟨(w.heap.size + 1), B, (.slice q' B.z.length cap')⟩, ⟨w.heap.size, A, (.slice q A.z.length cap)⟩] wr ∧ R2 wr gl la lb)
          case atStart => exact ⟨0, by omega, rfl, okT_zero _, HK.out, HB2.out⟩
          case round =>
            obtain ⟨j, hjg, rfl, hok, hk, h2⟩ := hrel
            clear HK HB2
            have HOk := Lib.hid hok
            have HK := Lib.hid hk
            have HB := Lib.hid h2
            clear hok hk h2
            cases gk with
            | zero =>
              exact absurd (HF.out.symm.trans (okT_all HOk.out (by rw [HLc.out]; omega))) HNz.out
            | succ g =>
              have hjz : (j : Int) < (n : Int) := by omega
              have hjz2 := hjz
              rw [HMn.out] at hjz2
              have hj : j < n := by omega
              have hcs := HAt.out j hj
              have hbl := HBl.out j hj
              have hia : Sc.inr (celI A j) = true := HI.out.get _
              have hib : Sc.inr (celI B j) = true := HJ.out.get _
              have HEa1 := Lib.hid (fun W h => HEa.out j W h hbl.1)
              have HEb1 := Lib.hid (fun W h => HEb.out j W h hbl.2)
              generalize celI A j = x at HEa1 hcs hia
              generalize celI B j = y at HEb1 hcs hib
              have HC := Lib.hid (fun W => HTw.out x y W hia hib)
              generalize Sc.twoV p x y = c at HC hcs
              obtain ⟨c, E'⟩ := c
              simp only at HC
              clear hia hib hbl
              have x0 := (HK.out.a _ (.tail _ (.tail _ (.head _)))).c0
              have x1 := (HK.out.a _ (.tail _ (.tail _ (.head _)))).c1
              have x2 := (HK.out.a _ (.tail _ (.tail _ (.head _)))).c2
              have x3 := (HK.out.a _ (.tail _ (.tail _ (.head _)))).c3
              have x4 := (HK.out.a _ (.tail _ (.tail _ (.head _)))).c4
              have y0 := (HK.out.a _ (.tail _ (.head _))).c0
              have y1 := (HK.out.a _ (.tail _ (.head _))).c1
              have y2 := (HK.out.a _ (.tail _ (.head _))).c2
              have y3 := (HK.out.a _ (.tail _ (.head _))).c3
              have y4 := (HK.out.a _ (.tail _ (.head _))).c4
              go_wp2_with fail
              clear x0 x1 x2 x3 x4 y0 y1 y2 y3 y4
              go_cut [16, 17] (fun sx se wx => sx = .int .i64 c ∧ se = .int .i64 E' ∧ Below wr.heap.size wr wx)
              case first =>
                as_aux_lemma =>
                  have HAll : Hid (∀ W, Below wr.heap.size wr W → (fun W => Below wr.heap.size wr W ∧ W.cell? ⟨w.heap.size, 0, none⟩ = some (.int .i64 A.k) ∧ W.cell? ⟨w.heap.size, 1, none⟩ = some (.int .i64 A.r) ∧ W.cell? ⟨w.heap.size, 2, none⟩ = some (.int .i64 A.a) ∧ W.cell? ⟨w.heap.size, 3, none⟩ = some (.int .i64 A.b) ∧ W.cell? ⟨w.heap.size, 4, none⟩ = some ((.slice q A.z.length cap)) ∧ W.cell? ⟨(w.heap.size + 1), 0, none⟩ = some (.int .i64 B.k) ∧ W.cell? ⟨(w.heap.size + 1), 1, none⟩ = some (.int .i64 B.r) ∧ W.cell? ⟨(w.heap.size + 1), 2, none⟩ = some (.int .i64 B.a) ∧ W.cell? ⟨(w.heap.size + 1), 3, none⟩ = some (.int .i64 B.b) ∧ W.cell? ⟨(w.heap.size + 1), 4, none⟩ = some ((.slice q' B.z.length cap'))) W) := fun W h => ⟨h, ((HK.out.next h).a _ (.tail _ (.tail _ (.head _)))).c0, ((HK.out.next h).a _ (.tail _ (.tail _ (.head _)))).c1, ((HK.out.next h).a _ (.tail _ (.tail _ (.head _)))).c2, ((HK.out.next h).a _ (.tail _ (.tail _ (.head _)))).c3, ((HK.out.next h).a _ (.tail _ (.tail _ (.head _)))).c4, ((HK.out.next h).a _ (.tail _ (.head _))).c0, ((HK.out.next h).a _ (.tail _ (.head _))).c1, ((HK.out.next h).a _ (.tail _ (.head _))).c2, ((HK.out.next h).a _ (.tail _ (.head _))).c3, ((HK.out.next h).a _ (.tail _ (.head _))).c4⟩
                  clear HAt HLc HBl HOk HB HI HJ HEa HEb HTw hcs
                  refine wp_region_held_drew (S := (fun W => Below wr.heap.size wr W ∧ W.cell? ⟨w.heap.size, 0, none⟩ = some (.int .i64 A.k) ∧ W.cell? ⟨w.heap.size, 1, none⟩ = some (.int .i64 A.r) ∧ W.cell? ⟨w.heap.size, 2, none⟩ = some (.int .i64 A.a) ∧ W.cell? ⟨w.heap.size, 3, none⟩ = some (.int .i64 A.b) ∧ W.cell? ⟨w.heap.size, 4, none⟩ = some ((.slice q A.z.length cap)) ∧ W.cell? ⟨(w.heap.size + 1), 0, none⟩ = some (.int .i64 B.k) ∧ W.cell? ⟨(w.heap.size + 1), 1, none⟩ = some (.int .i64 B.r) ∧ W.cell? ⟨(w.heap.size + 1), 2, none⟩ = some (.int .i64 B.a) ∧ W.cell? ⟨(w.heap.size + 1), 3, none⟩ = some (.int .i64 B.b) ∧ W.cell? ⟨(w.heap.size + 1), 4, none⟩ = some ((.slice q' B.z.length cap')))) (by kernel_rfl) ?_ (fun hHeld => ?_)
                  · exact HAll.out _ (Below.refl _ _).drew
                  have HB0 : Hid (Below wr.heap.size wr (World.drew wr)) := (Below.refl _ _).drew
                  generalize World.drew wr = wd at hHeld HB0 ⊢
                  refine wpAnyH_take (i := 0) (v := ?_) rfl (by kernel_rfl) (by kernel_rfl) (by kernel_rfl) (fun _ _ _ h => h) (Or.inl ⟨by rfl, ?_⟩) (by assumption) ?_
                  rotate_left
                  · ((intro w0 hSw); (try dsimp only at hSw); go_simp; (try with_reducible rfl))
                  change wpAnyH _ _ _ _ _ _ _ (Act.put _ (some 113) _) _
                  try simp only [Act.put, List.setIfInBounds_toArray, List.set_cons_zero, List.set_cons_succ]
                  refine wpAnyH_take (i := 1) (v := ?_) rfl (by kernel_rfl) (by kernel_rfl) (by kernel_rfl) (fun _ _ _ h => h) (Or.inl ⟨by rfl, ?_⟩) (by assumption) ?_
                  rotate_left
                  · ((intro w0 hSw); (try dsimp only at hSw); go_simp; (try with_reducible rfl))
                  change wpAnyH _ _ _ _ _ _ _ (Act.put _ (some 114) _) _
                  try simp only [Act.put, List.setIfInBounds_toArray, List.set_cons_zero, List.set_cons_succ]
                  refine wpAnyH_take (i := 2) (v := ?_) rfl (by kernel_rfl) (by kernel_rfl) (by kernel_rfl) (fun _ _ _ h => h) (Or.inl ⟨by rfl, ?_⟩) (by assumption) ?_
                  rotate_left
                  · ((intro w0 hSw); (try dsimp only at hSw); go_simp; (try with_reducible rfl))
                  change wpAnyH _ _ _ _ _ _ _ (Act.put _ (some 115) _) _
                  try simp only [Act.put, List.setIfInBounds_toArray, List.set_cons_zero, List.set_cons_succ]
                  refine wpAnyH_take (i := 4) (v := ?_) rfl (by kernel_rfl) (by kernel_rfl) (by kernel_rfl) (fun _ _ _ h => h) (Or.inl ⟨by rfl, ?_⟩) (by assumption) ?_
                  rotate_left
                  · ((intro w0 hSw); (try dsimp only at hSw); go_simp; (try with_reducible rfl))
                  change wpAnyH _ _ _ _ _ _ _ (Act.put _ (some 117) _) _
                  try simp only [Act.put, List.setIfInBounds_toArray, List.set_cons_zero, List.set_cons_succ]
                  refine wpAnyH_take (i := 5) (v := ?_) rfl (by kernel_rfl) (by kernel_rfl) (by kernel_rfl) (fun _ _ _ h => h) (Or.inl ⟨by rfl, ?_⟩) (by assumption) ?_
                  rotate_left
                  · ((intro w0 hSw); (try dsimp only at hSw); go_simp; (try with_reducible rfl))
                  change wpAnyH _ _ _ _ _ _ _ (Act.put _ (some 118) _) _
                  try simp only [Act.put, List.setIfInBounds_toArray, List.set_cons_zero, List.set_cons_succ]
                  refine wpAnyH_ready (rs := [3]) (by kernel_rfl) (by simp) ?_
                  refine AllReadyH.cons rfl (fun K hK => ?_) (AllReadyH.nil)
                  go_simp
                  go_at_call 23
                  with_reducible refine (HEa1.out _ (by with_unfolding_all exact (HK.out.next HB0.out).r _ (.tail _ (.tail _ (.head _))))).mono ?_
                  rintro e wn ⟨rfl, hb⟩
                  have HB1 := Lib.hid (HB0.out.trans (hb.mono HB0.out.size))
                  clear hb
                  refine hK.out _ _ ?_ (fun hHeld2 => ?_)
                  · exact HAll.out _ HB1.out
                  clear hK K hHeld
                  have hHeld := hHeld2; clear hHeld2
                  try change wpAnyH _ _ _ _ _ _ _ (Act.put _ (some 116) _) _
                  try dsimp only
                  try simp only [Act.put, List.setIfInBounds_toArray, List.set_cons_zero, List.set_cons_succ]
                  refine wpAnyH_ready (rs := [6]) (by kernel_rfl) (by simp) ?_
                  refine AllReadyH.cons rfl (fun K hK => ?_) (AllReadyH.nil)
                  go_simp
                  go_at_call 23
                  with_reducible refine (HEb1.out _ (by with_unfolding_all exact (HK.out.next HB1.out).r _ (.tail _ (.head _)))).mono ?_
                  rintro e wn ⟨rfl, hb⟩
                  have HB2 := Lib.hid (HB1.out.trans (hb.mono HB1.out.size))
                  clear hb
                  refine hK.out _ _ ?_ (fun hHeld2 => ?_)
                  · exact HAll.out _ HB2.out
                  clear hK K hHeld
                  have hHeld := hHeld2; clear hHeld2
                  try change wpAnyH _ _ _ _ _ _ _ (Act.put _ (some 119) _) _
                  try dsimp only
                  try simp only [Act.put, List.setIfInBounds_toArray, List.set_cons_zero, List.set_cons_succ]
                  refine wpAnyH_ready (rs := [7]) (by kernel_rfl) (by simp) ?_
                  refine AllReadyH.cons rfl (fun K hK => ?_) (AllReadyH.nil)
                  go_simp
                  go_at_call 22
                  with_reducible refine (HC.out _).mono ?_
                  rintro e wn ⟨rfl, hb⟩
                  have HB3 := Lib.hid (HB2.out.trans (hb.mono HB2.out.size))
                  clear hb
                  refine hK.out _ _ ?_ (fun hHeld2 => ?_)
                  · exact HAll.out _ HB3.out
                  clear hK K hHeld
                  have hHeld := hHeld2; clear hHeld2
                  try change wpAnyH _ _ _ _ _ _ _ (Act.put _ (some 120) _) _
                  try dsimp only
                  try simp only [Act.put, List.setIfInBounds_toArray, List.set_cons_zero, List.set_cons_succ]
                  refine wpAnyH_take (i := 8) (v := ?_) rfl (by kernel_rfl) (by kernel_rfl) (by kernel_rfl) (fun _ _ _ h => h) (Or.inl ⟨by rfl, ?_⟩) (by assumption) ?_
                  rotate_left
                  · ((intro w0 hSw); (try dsimp only at hSw); go_simp; (try with_reducible rfl))
                  change wpAnyH _ _ _ _ _ _ _ (Act.put _ (some 112) _) _
                  try simp only [Act.put, List.setIfInBounds_toArray, List.set_cons_zero, List.set_cons_succ]
                  refine wpAnyH_take (i := 9) (v := ?_) rfl (by kernel_rfl) (by kernel_rfl) (by kernel_rfl) (fun _ _ _ h => h) (Or.inl ⟨by rfl, ?_⟩) (by assumption) ?_
                  rotate_left
                  · ((intro w0 hSw); (try dsimp only at hSw); go_simp; (try with_reducible rfl))
                  change wpAnyH _ _ _ _ _ _ _ (Act.put _ (some 121) _) _
                  try simp only [Act.put, List.setIfInBounds_toArray, List.set_cons_zero, List.set_cons_succ]
                  refine wpAnyH_take (i := 10) (v := ?_) rfl (by kernel_rfl) (by kernel_rfl) (by kernel_rfl) (fun _ _ _ h => h) (Or.inl ⟨by rfl, ?_⟩) (by assumption) ?_
                  rotate_left
                  · ((intro w0 hSw); (try dsimp only at hSw); go_simp; (try with_reducible rfl))
                  change wpAnyH _ _ _ _ _ _ _ (Act.put _ (some 122) _) _
                  try simp only [Act.put, List.setIfInBounds_toArray, List.set_cons_zero, List.set_cons_succ]
                  refine wpAnyH_take (i := 11) (v := ?_) rfl (by kernel_rfl) (by kernel_rfl) (by kernel_rfl) (fun _ _ _ h => h) (Or.inl ⟨by rfl, ?_⟩) (by assumption) ?_
                  rotate_left
                  · ((intro w0 hSw); (try dsimp only at hSw); go_simp; (try with_reducible rfl))
                  change wpAnyH _ _ _ _ _ _ _ (Act.put _ (some 16) _) _
                  try simp only [Act.put, List.setIfInBounds_toArray, List.set_cons_zero, List.set_cons_succ]
                  refine wpAnyH_take (i := 12) (v := ?_) rfl (by kernel_rfl) (by kernel_rfl) (by kernel_rfl) (fun _ _ _ h => h) (Or.inl ⟨by rfl, ?_⟩) (by assumption) ?_
                  rotate_left
                  · ((intro w0 hSw); (try dsimp only at hSw); go_simp; (try with_reducible rfl))
                  change wpAnyH _ _ _ _ _ _ _ (Act.put _ (some 17) _) _
                  try simp only [Act.put, List.setIfInBounds_toArray, List.set_cons_zero, List.set_cons_succ]
                  refine wpAnyH_done (by kernel_rfl) ?_ _
                  go_wp2_with fail
                  go_meet
                  case rel => exact ⟨rfl, rfl, HB3.out⟩
              case rest =>
                obtain ⟨rfl, rfl, hbx⟩ := hcut
                have HK2 := Lib.hid (HK.out.next hbx)
                have HB2 := Lib.hid (HB.out.next hbx)
                clear HK HB hbx HC HEa1 HEb1
                have HK := HK2
                clear HK2
                have c0 := (HK.out.a _ (.head _)).c0
                have c1 := (HK.out.a _ (.head _)).c1
                have c2 := (HK.out.a _ (.head _)).c2
                have c3 := (HK.out.a _ (.head _)).c3
                have c4 := (HK.out.a _ (.head _)).c4
                by_cases hE' : E' = 0
                · subst hE'
                  have HOk2 : Hid (okT cs (j + 1)) := okT_next HOk.out hcs
                  clear hcs HOk HAt HLc HBl HTw HEa HEb HI HJ
                  go_wp2_with fail
                  go_roundg g
                  case measure => omega
                  case rel => exact ⟨j + 1, by omega, by go_num, HOk2.out, HK.out, HB2.out⟩
                · have hfe : F = E' := HF.out.symm.trans (okT_bad HOk.out hcs hE')
                  have k9 : (E' != 0) = true := by simpa using hE'
                  have k8 : (F == E') = true := by rw [hfe]; simp
                  clear hcs HOk HAt HLc HBl HTw HEa HEb HI HJ hE' hfe
                  go_wp2_with (first
                    | (go_at_call 12; (with_reducible refine (HAw.out _ (by with_unfolding_all exact HK.out.lay)).mono ?_); rintro e wz ⟨rfl, hb⟩; have HK2 := Lib.hid (HK.out.next hb); clear HK c0 c1 c2 c3 c4; have HK := HK2; clear HK2; clear hb; have c0 := (HK.out.a _ (.head _)).c0; have c1 := (HK.out.a _ (.head _)).c1; have c2 := (HK.out.a _ (.head _)).c2; have c3 := (HK.out.a _ (.head _)).c3; have c4 := (HK.out.a _ (.head _)).c4)
                    | fail)
                  go_ret
                  exact ⟨rfl, HK.out.bel⟩
      · have k6 : (B.r == 0) = false := by simpa using hrb
        have HMn := Lib.hid hmany
        clear hra hrb hsm2 hsame hmany
        as_aux_lemma =>
          go_enter Tryd.func5, Tryd.ntmps5
          go_wp2_with (first
            | (go_at_call 20; (with_reducible refine (HAr.out _).mono ?_); rintro e wz ⟨rfl, rfl⟩)
            | (go_at_call 11; (with_reducible refine (HF1.out _ (by with_unfolding_all exact HK.out.r _ (.tail _ (.head _)))).mono ?_); rintro e wz ⟨rfl, hb⟩; have HK2 := Lib.hid (HK.out.next hb); clear HK x0 x1 x2 x3 x4 y0 y1 y2 y3 y4; have HK := HK2; clear HK2; clear hb; have x0 := (HK.out.a _ (.tail _ (.head _))).c0; have x1 := (HK.out.a _ (.tail _ (.head _))).c1; have x2 := (HK.out.a _ (.tail _ (.head _))).c2; have x3 := (HK.out.a _ (.tail _ (.head _))).c3; have x4 := (HK.out.a _ (.tail _ (.head _))).c4; have y0 := (HK.out.a _ (.head _)).c0; have y1 := (HK.out.a _ (.head _)).c1; have y2 := (HK.out.a _ (.head _)).c2; have y3 := (HK.out.a _ (.head _)).c3; have y4 := (HK.out.a _ (.head _)).c4)
            | (go_at_call 11; (with_reducible refine (HF2.out _ (by with_unfolding_all exact HK.out.r _ (.head _))).mono ?_); rintro e wz ⟨rfl, hb⟩; have HK2 := Lib.hid (HK.out.next hb); clear HK x0 x1 x2 x3 x4 y0 y1 y2 y3 y4; have HK := HK2; clear HK2; clear hb; have x0 := (HK.out.a _ (.tail _ (.head _))).c0; have x1 := (HK.out.a _ (.tail _ (.head _))).c1; have x2 := (HK.out.a _ (.tail _ (.head _))).c2; have x3 := (HK.out.a _ (.tail _ (.head _))).c3; have x4 := (HK.out.a _ (.tail _ (.head _))).c4; have y0 := (HK.out.a _ (.head _)).c0; have y1 := (HK.out.a _ (.head _)).c1; have y2 := (HK.out.a _ (.head _)).c2; have y3 := (HK.out.a _ (.head _)).c3; have y4 := (HK.out.a _ (.head _)).c4)
            | (go_at_call 21; (with_reducible refine (HC2.out _ (by with_unfolding_all exact HK.out.r _ (.head _))).mono ?_); rintro e wz ⟨rfl, hb⟩; have HK2 := Lib.hid (HK.out.next hb); clear HK x0 x1 x2 x3 x4 y0 y1 y2 y3 y4; have HK := HK2; clear HK2; clear hb; have x0 := (HK.out.a _ (.tail _ (.head _))).c0; have x1 := (HK.out.a _ (.tail _ (.head _))).c1; have x2 := (HK.out.a _ (.tail _ (.head _))).c2; have x3 := (HK.out.a _ (.tail _ (.head _))).c3; have x4 := (HK.out.a _ (.tail _ (.head _))).c4; have y0 := (HK.out.a _ (.head _)).c0; have y1 := (HK.out.a _ (.head _)).c1; have y2 := (HK.out.a _ (.head _)).c2; have y3 := (HK.out.a _ (.head _)).c3; have y4 := (HK.out.a _ (.head _)).c4)
            | (go_at_call 21; (with_reducible refine (HC1.out _ (by with_unfolding_all exact HK.out.r _ (.tail _ (.head _)))).mono ?_); rintro e wz ⟨rfl, hb⟩; have HK2 := Lib.hid (HK.out.next hb); clear HK x0 x1 x2 x3 x4 y0 y1 y2 y3 y4; have HK := HK2; clear HK2; clear hb; have x0 := (HK.out.a _ (.tail _ (.head _))).c0; have x1 := (HK.out.a _ (.tail _ (.head _))).c1; have x2 := (HK.out.a _ (.tail _ (.head _))).c2; have x3 := (HK.out.a _ (.tail _ (.head _))).c3; have x4 := (HK.out.a _ (.tail _ (.head _))).c4; have y0 := (HK.out.a _ (.head _)).c0; have y1 := (HK.out.a _ (.head _)).c1; have y2 := (HK.out.a _ (.head _)).c2; have y3 := (HK.out.a _ (.head _)).c3; have y4 := (HK.out.a _ (.head _)).c4)
            | (go_at_call 18; (with_reducible refine (HL1.out _ (by with_unfolding_all exact HK.out.lay) (by with_unfolding_all exact HK.out.r _ (.tail _ (.head _))) (by with_unfolding_all exact HK.out.r _ (.head _))).mono ?_); rintro e wc ⟨rfl, hb⟩; have HK2 := Lib.hid ((HK.out.next hb).next (bel1 _ (.cells #[.int .i64 la, .int .i64 lb] 22))); clear HK x0 x1 x2 x3 x4 y0 y1 y2 y3 y4; have HK := HK2; clear HK2; clear hb; have HB1 := Lib.hid (R2.new wc la lb); have x0 := (HK.out.a _ (.tail _ (.head _))).c0; have x1 := (HK.out.a _ (.tail _ (.head _))).c1; have x2 := (HK.out.a _ (.tail _ (.head _))).c2; have x3 := (HK.out.a _ (.tail _ (.head _))).c3; have x4 := (HK.out.a _ (.tail _ (.head _))).c4; have y0 := (HK.out.a _ (.head _)).c0; have y1 := (HK.out.a _ (.head _)).c1; have y2 := (HK.out.a _ (.head _)).c2; have y3 := (HK.out.a _ (.head _)).c3; have y4 := (HK.out.a _ (.head _)).c4)
            | (go_at_call 16; (with_reducible refine (HT1.out _ (by with_unfolding_all exact HK.out.lay) (by with_unfolding_all exact HK.out.r _ (.tail _ (.head _))) (by with_unfolding_all exact HK.out.r _ (.head _))).mono ?_); rintro e wd ⟨uwd, rfl, hu, hb⟩; obtain ⟨pwd, cwd, hpwd, _, _⟩ := hu.form; have hqwd : uwd = (.slice pwd 0 cwd) := hpwd; subst hqwd; clear hpwd; have hltyc : (w.heap.size + 1) < wd.heap.size := Nat.lt_of_lt_of_le (HK.out.lt _ (.head _)) hb.size; have hltxc : w.heap.size < wd.heap.size := Nat.lt_of_lt_of_le (HK.out.lt _ (.tail _ (.head _))) hb.size; have HK2 := Lib.hid (HK.out.res hb ⟨0, 0, 0, 0, []⟩ hu); clear HK x0 x1 x2 x3 x4 y0 y1 y2 y3 y4; have HK := HK2; clear HK2; have HB2 := Lib.hid ((HB1.out.next hb).next (bel1 _ (.cells #[.int .i64 0, .int .i64 0, .int .i64 0, .int .i64 0, .slice pwd 0 cwd] 25))); clear HB1 hb hu; have x0 := (HK.out.a _ (.tail _ (.tail _ (.head _)))).c0; have x1 := (HK.out.a _ (.tail _ (.tail _ (.head _)))).c1; have x2 := (HK.out.a _ (.tail _ (.tail _ (.head _)))).c2; have x3 := (HK.out.a _ (.tail _ (.tail _ (.head _)))).c3; have x4 := (HK.out.a _ (.tail _ (.tail _ (.head _)))).c4; have y0 := (HK.out.a _ (.tail _ (.head _))).c0; have y1 := (HK.out.a _ (.tail _ (.head _))).c1; have y2 := (HK.out.a _ (.tail _ (.head _))).c2; have y3 := (HK.out.a _ (.tail _ (.head _))).c3; have y4 := (HK.out.a _ (.tail _ (.head _))).c4; have c0 := (HK.out.a _ (.head _)).c0; have c1 := (HK.out.a _ (.head _)).c1; have c2 := (HK.out.a _ (.head _)).c2; have c3 := (HK.out.a _ (.head _)).c3; have c4 := (HK.out.a _ (.head _)).c4)
            | fail)
          generalize wc.heap.size = gl at HB2 ⊢
          generalize World.alloc wd _ = W0 at HK HB2 ⊢
          generalize wd.heap.size = gc at HK ⊢
          clear x0 x1 x2 x3 x4 y0 y1 y2 y3 y4 c0 c1 c2 c3 c4 HF1 HF2 HC1 HC2 HAr HL1 HT1
          go_loopg [15] n (fun g i wr => ∃ j : Nat, j + g = n ∧ i = .int .i64 j ∧ okT cs j ∧ KVar w [⟨gc, ⟨0, 0, 0, 0, []⟩, (.slice pwd 0 cwd)⟩, ⟨(w.heap.size + 1), B, (.slice q' B.z.length cap')⟩, ⟨w.heap.size, A, (.slice q A.z.length cap)⟩] wr ∧ R2 wr gl la lb)
          case atStart => exact ⟨0, by omega, rfl, okT_zero _, HK.out, HB2.out⟩
          case round =>
            obtain ⟨j, hjg, rfl, hok, hk, h2⟩ := hrel
            clear HK HB2
            have HOk := Lib.hid hok
            have HK := Lib.hid hk
            have HB := Lib.hid h2
            clear hok hk h2
            cases gk with
            | zero =>
              exact absurd (HF.out.symm.trans (okT_all HOk.out (by rw [HLc.out]; omega))) HNz.out
            | succ g =>
              have hjz : (j : Int) < (n : Int) := by omega
              have hjz2 := hjz
              rw [HMn.out] at hjz2
              have hj : j < n := by omega
              have hcs := HAt.out j hj
              have hbl := HBl.out j hj
              have hia : Sc.inr (celI A j) = true := HI.out.get _
              have hib : Sc.inr (celI B j) = true := HJ.out.get _
              have HEa1 := Lib.hid (fun W h => HEa.out j W h hbl.1)
              have HEb1 := Lib.hid (fun W h => HEb.out j W h hbl.2)
              generalize celI A j = x at HEa1 hcs hia
              generalize celI B j = y at HEb1 hcs hib
              have HC := Lib.hid (fun W => HTw.out x y W hia hib)
              generalize Sc.twoV p x y = c at HC hcs
              obtain ⟨c, E'⟩ := c
              simp only at HC
              clear hia hib hbl
              have x0 := (HK.out.a _ (.tail _ (.tail _ (.head _)))).c0
              have x1 := (HK.out.a _ (.tail _ (.tail _ (.head _)))).c1
              have x2 := (HK.out.a _ (.tail _ (.tail _ (.head _)))).c2
              have x3 := (HK.out.a _ (.tail _ (.tail _ (.head _)))).c3
              have x4 := (HK.out.a _ (.tail _ (.tail _ (.head _)))).c4
              have y0 := (HK.out.a _ (.tail _ (.head _))).c0
              have y1 := (HK.out.a _ (.tail _ (.head _))).c1
              have y2 := (HK.out.a _ (.tail _ (.head _))).c2
              have y3 := (HK.out.a _ (.tail _ (.head _))).c3
              have y4 := (HK.out.a _ (.tail _ (.head _))).c4
              go_wp2_with fail
              clear x0 x1 x2 x3 x4 y0 y1 y2 y3 y4
              go_cut [16, 17] (fun sx se wx => sx = .int .i64 c ∧ se = .int .i64 E' ∧ Below wr.heap.size wr wx)
              case first =>
                as_aux_lemma =>
                  have HAll : Hid (∀ W, Below wr.heap.size wr W → (fun W => Below wr.heap.size wr W ∧ W.cell? ⟨w.heap.size, 0, none⟩ = some (.int .i64 A.k) ∧ W.cell? ⟨w.heap.size, 1, none⟩ = some (.int .i64 A.r) ∧ W.cell? ⟨w.heap.size, 2, none⟩ = some (.int .i64 A.a) ∧ W.cell? ⟨w.heap.size, 3, none⟩ = some (.int .i64 A.b) ∧ W.cell? ⟨w.heap.size, 4, none⟩ = some ((.slice q A.z.length cap)) ∧ W.cell? ⟨(w.heap.size + 1), 0, none⟩ = some (.int .i64 B.k) ∧ W.cell? ⟨(w.heap.size + 1), 1, none⟩ = some (.int .i64 B.r) ∧ W.cell? ⟨(w.heap.size + 1), 2, none⟩ = some (.int .i64 B.a) ∧ W.cell? ⟨(w.heap.size + 1), 3, none⟩ = some (.int .i64 B.b) ∧ W.cell? ⟨(w.heap.size + 1), 4, none⟩ = some ((.slice q' B.z.length cap'))) W) := fun W h => ⟨h, ((HK.out.next h).a _ (.tail _ (.tail _ (.head _)))).c0, ((HK.out.next h).a _ (.tail _ (.tail _ (.head _)))).c1, ((HK.out.next h).a _ (.tail _ (.tail _ (.head _)))).c2, ((HK.out.next h).a _ (.tail _ (.tail _ (.head _)))).c3, ((HK.out.next h).a _ (.tail _ (.tail _ (.head _)))).c4, ((HK.out.next h).a _ (.tail _ (.head _))).c0, ((HK.out.next h).a _ (.tail _ (.head _))).c1, ((HK.out.next h).a _ (.tail _ (.head _))).c2, ((HK.out.next h).a _ (.tail _ (.head _))).c3, ((HK.out.next h).a _ (.tail _ (.head _))).c4⟩
                  clear HAt HLc HBl HOk HB HI HJ HEa HEb HTw hcs
                  refine wp_region_held_drew (S := (fun W => Below wr.heap.size wr W ∧ W.cell? ⟨w.heap.size, 0, none⟩ = some (.int .i64 A.k) ∧ W.cell? ⟨w.heap.size, 1, none⟩ = some (.int .i64 A.r) ∧ W.cell? ⟨w.heap.size, 2, none⟩ = some (.int .i64 A.a) ∧ W.cell? ⟨w.heap.size, 3, none⟩ = some (.int .i64 A.b) ∧ W.cell? ⟨w.heap.size, 4, none⟩ = some ((.slice q A.z.length cap)) ∧ W.cell? ⟨(w.heap.size + 1), 0, none⟩ = some (.int .i64 B.k) ∧ W.cell? ⟨(w.heap.size + 1), 1, none⟩ = some (.int .i64 B.r) ∧ W.cell? ⟨(w.heap.size + 1), 2, none⟩ = some (.int .i64 B.a) ∧ W.cell? ⟨(w.heap.size + 1), 3, none⟩ = some (.int .i64 B.b) ∧ W.cell? ⟨(w.heap.size + 1), 4, none⟩ = some ((.slice q' B.z.length cap')))) (by kernel_rfl) ?_ (fun hHeld => ?_)
                  · exact HAll.out _ (Below.refl _ _).drew
                  have HB0 : Hid (Below wr.heap.size wr (World.drew wr)) := (Below.refl _ _).drew
                  generalize World.drew wr = wd at hHeld HB0 ⊢
                  refine wpAnyH_take (i := 0) (v := ?_) rfl (by kernel_rfl) (by kernel_rfl) (by kernel_rfl) (fun _ _ _ h => h) (Or.inl ⟨by rfl, ?_⟩) (by assumption) ?_
                  rotate_left
                  · ((intro w0 hSw); (try dsimp only at hSw); go_simp; (try with_reducible rfl))
                  change wpAnyH _ _ _ _ _ _ _ (Act.put _ (some 113) _) _
                  try simp only [Act.put, List.setIfInBounds_toArray, List.set_cons_zero, List.set_cons_succ]
                  refine wpAnyH_take (i := 1) (v := ?_) rfl (by kernel_rfl) (by kernel_rfl) (by kernel_rfl) (fun _ _ _ h => h) (Or.inl ⟨by rfl, ?_⟩) (by assumption) ?_
                  rotate_left
                  · ((intro w0 hSw); (try dsimp only at hSw); go_simp; (try with_reducible rfl))
                  change wpAnyH _ _ _ _ _ _ _ (Act.put _ (some 114) _) _
                  try simp only [Act.put, List.setIfInBounds_toArray, List.set_cons_zero, List.set_cons_succ]
                  refine wpAnyH_take (i := 2) (v := ?_) rfl (by kernel_rfl) (by kernel_rfl) (by kernel_rfl) (fun _ _ _ h => h) (Or.inl ⟨by rfl, ?_⟩) (by assumption) ?_
                  rotate_left
                  · ((intro w0 hSw); (try dsimp only at hSw); go_simp; (try with_reducible rfl))
                  change wpAnyH _ _ _ _ _ _ _ (Act.put _ (some 115) _) _
                  try simp only [Act.put, List.setIfInBounds_toArray, List.set_cons_zero, List.set_cons_succ]
                  refine wpAnyH_take (i := 4) (v := ?_) rfl (by kernel_rfl) (by kernel_rfl) (by kernel_rfl) (fun _ _ _ h => h) (Or.inl ⟨by rfl, ?_⟩) (by assumption) ?_
                  rotate_left
                  · ((intro w0 hSw); (try dsimp only at hSw); go_simp; (try with_reducible rfl))
                  change wpAnyH _ _ _ _ _ _ _ (Act.put _ (some 117) _) _
                  try simp only [Act.put, List.setIfInBounds_toArray, List.set_cons_zero, List.set_cons_succ]
                  refine wpAnyH_take (i := 5) (v := ?_) rfl (by kernel_rfl) (by kernel_rfl) (by kernel_rfl) (fun _ _ _ h => h) (Or.inl ⟨by rfl, ?_⟩) (by assumption) ?_
                  rotate_left
                  · ((intro w0 hSw); (try dsimp only at hSw); go_simp; (try with_reducible rfl))
                  change wpAnyH _ _ _ _ _ _ _ (Act.put _ (some 118) _) _
                  try simp only [Act.put, List.setIfInBounds_toArray, List.set_cons_zero, List.set_cons_succ]
                  refine wpAnyH_ready (rs := [3]) (by kernel_rfl) (by simp) ?_
                  refine AllReadyH.cons rfl (fun K hK => ?_) (AllReadyH.nil)
                  go_simp
                  go_at_call 23
                  with_reducible refine (HEa1.out _ (by with_unfolding_all exact (HK.out.next HB0.out).r _ (.tail _ (.tail _ (.head _))))).mono ?_
                  rintro e wn ⟨rfl, hb⟩
                  have HB1 := Lib.hid (HB0.out.trans (hb.mono HB0.out.size))
                  clear hb
                  refine hK.out _ _ ?_ (fun hHeld2 => ?_)
                  · exact HAll.out _ HB1.out
                  clear hK K hHeld
                  have hHeld := hHeld2; clear hHeld2
                  try change wpAnyH _ _ _ _ _ _ _ (Act.put _ (some 116) _) _
                  try dsimp only
                  try simp only [Act.put, List.setIfInBounds_toArray, List.set_cons_zero, List.set_cons_succ]
                  refine wpAnyH_ready (rs := [6]) (by kernel_rfl) (by simp) ?_
                  refine AllReadyH.cons rfl (fun K hK => ?_) (AllReadyH.nil)
                  go_simp
                  go_at_call 23
                  with_reducible refine (HEb1.out _ (by with_unfolding_all exact (HK.out.next HB1.out).r _ (.tail _ (.head _)))).mono ?_
                  rintro e wn ⟨rfl, hb⟩
                  have HB2 := Lib.hid (HB1.out.trans (hb.mono HB1.out.size))
                  clear hb
                  refine hK.out _ _ ?_ (fun hHeld2 => ?_)
                  · exact HAll.out _ HB2.out
                  clear hK K hHeld
                  have hHeld := hHeld2; clear hHeld2
                  try change wpAnyH _ _ _ _ _ _ _ (Act.put _ (some 119) _) _
                  try dsimp only
                  try simp only [Act.put, List.setIfInBounds_toArray, List.set_cons_zero, List.set_cons_succ]
                  refine wpAnyH_ready (rs := [7]) (by kernel_rfl) (by simp) ?_
                  refine AllReadyH.cons rfl (fun K hK => ?_) (AllReadyH.nil)
                  go_simp
                  go_at_call 22
                  with_reducible refine (HC.out _).mono ?_
                  rintro e wn ⟨rfl, hb⟩
                  have HB3 := Lib.hid (HB2.out.trans (hb.mono HB2.out.size))
                  clear hb
                  refine hK.out _ _ ?_ (fun hHeld2 => ?_)
                  · exact HAll.out _ HB3.out
                  clear hK K hHeld
                  have hHeld := hHeld2; clear hHeld2
                  try change wpAnyH _ _ _ _ _ _ _ (Act.put _ (some 120) _) _
                  try dsimp only
                  try simp only [Act.put, List.setIfInBounds_toArray, List.set_cons_zero, List.set_cons_succ]
                  refine wpAnyH_take (i := 8) (v := ?_) rfl (by kernel_rfl) (by kernel_rfl) (by kernel_rfl) (fun _ _ _ h => h) (Or.inl ⟨by rfl, ?_⟩) (by assumption) ?_
                  rotate_left
                  · ((intro w0 hSw); (try dsimp only at hSw); go_simp; (try with_reducible rfl))
                  change wpAnyH _ _ _ _ _ _ _ (Act.put _ (some 112) _) _
                  try simp only [Act.put, List.setIfInBounds_toArray, List.set_cons_zero, List.set_cons_succ]
                  refine wpAnyH_take (i := 9) (v := ?_) rfl (by kernel_rfl) (by kernel_rfl) (by kernel_rfl) (fun _ _ _ h => h) (Or.inl ⟨by rfl, ?_⟩) (by assumption) ?_
                  rotate_left
                  · ((intro w0 hSw); (try dsimp only at hSw); go_simp; (try with_reducible rfl))
                  change wpAnyH _ _ _ _ _ _ _ (Act.put _ (some 121) _) _
                  try simp only [Act.put, List.setIfInBounds_toArray, List.set_cons_zero, List.set_cons_succ]
                  refine wpAnyH_take (i := 10) (v := ?_) rfl (by kernel_rfl) (by kernel_rfl) (by kernel_rfl) (fun _ _ _ h => h) (Or.inl ⟨by rfl, ?_⟩) (by assumption) ?_
                  rotate_left
                  · ((intro w0 hSw); (try dsimp only at hSw); go_simp; (try with_reducible rfl))
                  change wpAnyH _ _ _ _ _ _ _ (Act.put _ (some 122) _) _
                  try simp only [Act.put, List.setIfInBounds_toArray, List.set_cons_zero, List.set_cons_succ]
                  refine wpAnyH_take (i := 11) (v := ?_) rfl (by kernel_rfl) (by kernel_rfl) (by kernel_rfl) (fun _ _ _ h => h) (Or.inl ⟨by rfl, ?_⟩) (by assumption) ?_
                  rotate_left
                  · ((intro w0 hSw); (try dsimp only at hSw); go_simp; (try with_reducible rfl))
                  change wpAnyH _ _ _ _ _ _ _ (Act.put _ (some 16) _) _
                  try simp only [Act.put, List.setIfInBounds_toArray, List.set_cons_zero, List.set_cons_succ]
                  refine wpAnyH_take (i := 12) (v := ?_) rfl (by kernel_rfl) (by kernel_rfl) (by kernel_rfl) (fun _ _ _ h => h) (Or.inl ⟨by rfl, ?_⟩) (by assumption) ?_
                  rotate_left
                  · ((intro w0 hSw); (try dsimp only at hSw); go_simp; (try with_reducible rfl))
                  change wpAnyH _ _ _ _ _ _ _ (Act.put _ (some 17) _) _
                  try simp only [Act.put, List.setIfInBounds_toArray, List.set_cons_zero, List.set_cons_succ]
                  refine wpAnyH_done (by kernel_rfl) ?_ _
                  go_wp2_with fail
                  go_meet
                  case rel => exact ⟨rfl, rfl, HB3.out⟩
              case rest =>
                obtain ⟨rfl, rfl, hbx⟩ := hcut
                have HK2 := Lib.hid (HK.out.next hbx)
                have HB2 := Lib.hid (HB.out.next hbx)
                clear HK HB hbx HC HEa1 HEb1
                have HK := HK2
                clear HK2
                have c0 := (HK.out.a _ (.head _)).c0
                have c1 := (HK.out.a _ (.head _)).c1
                have c2 := (HK.out.a _ (.head _)).c2
                have c3 := (HK.out.a _ (.head _)).c3
                have c4 := (HK.out.a _ (.head _)).c4
                by_cases hE' : E' = 0
                · subst hE'
                  have HOk2 : Hid (okT cs (j + 1)) := okT_next HOk.out hcs
                  clear hcs HOk HAt HLc HBl HTw HEa HEb HI HJ
                  go_wp2_with fail
                  go_roundg g
                  case measure => omega
                  case rel => exact ⟨j + 1, by omega, by go_num, HOk2.out, HK.out, HB2.out⟩
                · have hfe : F = E' := HF.out.symm.trans (okT_bad HOk.out hcs hE')
                  have k9 : (E' != 0) = true := by simpa using hE'
                  have k8 : (F == E') = true := by rw [hfe]; simp
                  clear hcs HOk HAt HLc HBl HTw HEa HEb HI HJ hE' hfe
                  go_wp2_with (first
                    | (go_at_call 12; (with_reducible refine (HAw.out _ (by with_unfolding_all exact HK.out.lay)).mono ?_); rintro e wz ⟨rfl, hb⟩; have HK2 := Lib.hid (HK.out.next hb); clear HK c0 c1 c2 c3 c4; have HK := HK2; clear HK2; clear hb; have c0 := (HK.out.a _ (.head _)).c0; have c1 := (HK.out.a _ (.head _)).c1; have c2 := (HK.out.a _ (.head _)).c2; have c3 := (HK.out.a _ (.head _)).c3; have c4 := (HK.out.a _ (.head _)).c4)
                    | fail)
                  go_ret
                  exact ⟨rfl, HK.out.bel⟩
    · have k5 : (A.r == 0) = false := by simpa using hra
      rw [if_neg hra] at hmany
      by_cases hrb : B.r = 0
      · have k6 : (B.r == 0) = true := by simpa using hrb
        have HMn := Lib.hid hmany
        clear hra hrb hsm2 hsame hmany
        as_aux_lemma =>
          go_enter Tryd.func5, Tryd.ntmps5
          go_wp2_with (first
            | (go_at_call 20; (with_reducible refine (HAr.out _).mono ?_); rintro e wz ⟨rfl, rfl⟩)
            | (go_at_call 11; (with_reducible refine (HF1.out _ (by with_unfolding_all exact HK.out.r _ (.tail _ (.head _)))).mono ?_); rintro e wz ⟨rfl, hb⟩; have HK2 := Lib.hid (HK.out.next hb); clear HK x0 x1 x2 x3 x4 y0 y1 y2 y3 y4; have HK := HK2; clear HK2; clear hb; have x0 := (HK.out.a _ (.tail _ (.head _))).c0; have x1 := (HK.out.a _ (.tail _ (.head _))).c1; have x2 := (HK.out.a _ (.tail _ (.head _))).c2; have x3 := (HK.out.a _ (.tail _ (.head _))).c3; have x4 := (HK.out.a _ (.tail _ (.head _))).c4; have y0 := (HK.out.a _ (.head _)).c0; have y1 := (HK.out.a _ (.head _)).c1; have y2 := (HK.out.a _ (.head _)).c2; have y3 := (HK.out.a _ (.head _)).c3; have y4 := (HK.out.a _ (.head _)).c4)
            | (go_at_call 11; (with_reducible refine (HF2.out _ (by with_unfolding_all exact HK.out.r _ (.head _))).mono ?_); rintro e wz ⟨rfl, hb⟩; have HK2 := Lib.hid (HK.out.next hb); clear HK x0 x1 x2 x3 x4 y0 y1 y2 y3 y4; have HK := HK2; clear HK2; clear hb; have x0 := (HK.out.a _ (.tail _ (.head _))).c0; have x1 := (HK.out.a _ (.tail _ (.head _))).c1; have x2 := (HK.out.a _ (.tail _ (.head _))).c2; have x3 := (HK.out.a _ (.tail _ (.head _))).c3; have x4 := (HK.out.a _ (.tail _ (.head _))).c4; have y0 := (HK.out.a _ (.head _)).c0; have y1 := (HK.out.a _ (.head _)).c1; have y2 := (HK.out.a _ (.head _)).c2; have y3 := (HK.out.a _ (.head _)).c3; have y4 := (HK.out.a _ (.head _)).c4)
            | (go_at_call 21; (with_reducible refine (HC2.out _ (by with_unfolding_all exact HK.out.r _ (.head _))).mono ?_); rintro e wz ⟨rfl, hb⟩; have HK2 := Lib.hid (HK.out.next hb); clear HK x0 x1 x2 x3 x4 y0 y1 y2 y3 y4; have HK := HK2; clear HK2; clear hb; have x0 := (HK.out.a _ (.tail _ (.head _))).c0; have x1 := (HK.out.a _ (.tail _ (.head _))).c1; have x2 := (HK.out.a _ (.tail _ (.head _))).c2; have x3 := (HK.out.a _ (.tail _ (.head _))).c3; have x4 := (HK.out.a _ (.tail _ (.head _))).c4; have y0 := (HK.out.a _ (.head _)).c0; have y1 := (HK.out.a _ (.head _)).c1; have y2 := (HK.out.a _ (.head _)).c2; have y3 := (HK.out.a _ (.head _)).c3; have y4 := (HK.out.a _ (.head _)).c4)
            | (go_at_call 21; (with_reducible refine (HC1.out _ (by with_unfolding_all exact HK.out.r _ (.tail _ (.head _)))).mono ?_); rintro e wz ⟨rfl, hb⟩; have HK2 := Lib.hid (HK.out.next hb); clear HK x0 x1 x2 x3 x4 y0 y1 y2 y3 y4; have HK := HK2; clear HK2; clear hb; have x0 := (HK.out.a _ (.tail _ (.head _))).c0; have x1 := (HK.out.a _ (.tail _ (.head _))).c1; have x2 := (HK.out.a _ (.tail _ (.head _))).c2; have x3 := (HK.out.a _ (.tail _ (.head _))).c3; have x4 := (HK.out.a _ (.tail _ (.head _))).c4; have y0 := (HK.out.a _ (.head _)).c0; have y1 := (HK.out.a _ (.head _)).c1; have y2 := (HK.out.a _ (.head _)).c2; have y3 := (HK.out.a _ (.head _)).c3; have y4 := (HK.out.a _ (.head _)).c4)
            | (go_at_call 18; (with_reducible refine (HL1.out _ (by with_unfolding_all exact HK.out.lay) (by with_unfolding_all exact HK.out.r _ (.tail _ (.head _))) (by with_unfolding_all exact HK.out.r _ (.head _))).mono ?_); rintro e wc ⟨rfl, hb⟩; have HK2 := Lib.hid ((HK.out.next hb).next (bel1 _ (.cells #[.int .i64 la, .int .i64 lb] 22))); clear HK x0 x1 x2 x3 x4 y0 y1 y2 y3 y4; have HK := HK2; clear HK2; clear hb; have HB1 := Lib.hid (R2.new wc la lb); have x0 := (HK.out.a _ (.tail _ (.head _))).c0; have x1 := (HK.out.a _ (.tail _ (.head _))).c1; have x2 := (HK.out.a _ (.tail _ (.head _))).c2; have x3 := (HK.out.a _ (.tail _ (.head _))).c3; have x4 := (HK.out.a _ (.tail _ (.head _))).c4; have y0 := (HK.out.a _ (.head _)).c0; have y1 := (HK.out.a _ (.head _)).c1; have y2 := (HK.out.a _ (.head _)).c2; have y3 := (HK.out.a _ (.head _)).c3; have y4 := (HK.out.a _ (.head _)).c4)
            | (go_at_call 16; (with_reducible refine (HT1.out _ (by with_unfolding_all exact HK.out.lay) (by with_unfolding_all exact HK.out.r _ (.tail _ (.head _))) (by with_unfolding_all exact HK.out.r _ (.head _))).mono ?_); rintro e wd ⟨uwd, rfl, hu, hb⟩; obtain ⟨pwd, cwd, hpwd, _, _⟩ := hu.form; have hqwd : uwd = (.slice pwd 0 cwd) := hpwd; subst hqwd; clear hpwd; have hltyc : (w.heap.size + 1) < wd.heap.size := Nat.lt_of_lt_of_le (HK.out.lt _ (.head _)) hb.size; have hltxc : w.heap.size < wd.heap.size := Nat.lt_of_lt_of_le (HK.out.lt _ (.tail _ (.head _))) hb.size; have HK2 := Lib.hid (HK.out.res hb ⟨0, 0, 0, 0, []⟩ hu); clear HK x0 x1 x2 x3 x4 y0 y1 y2 y3 y4; have HK := HK2; clear HK2; have HB2 := Lib.hid ((HB1.out.next hb).next (bel1 _ (.cells #[.int .i64 0, .int .i64 0, .int .i64 0, .int .i64 0, .slice pwd 0 cwd] 25))); clear HB1 hb hu; have x0 := (HK.out.a _ (.tail _ (.tail _ (.head _)))).c0; have x1 := (HK.out.a _ (.tail _ (.tail _ (.head _)))).c1; have x2 := (HK.out.a _ (.tail _ (.tail _ (.head _)))).c2; have x3 := (HK.out.a _ (.tail _ (.tail _ (.head _)))).c3; have x4 := (HK.out.a _ (.tail _ (.tail _ (.head _)))).c4; have y0 := (HK.out.a _ (.tail _ (.head _))).c0; have y1 := (HK.out.a _ (.tail _ (.head _))).c1; have y2 := (HK.out.a _ (.tail _ (.head _))).c2; have y3 := (HK.out.a _ (.tail _ (.head _))).c3; have y4 := (HK.out.a _ (.tail _ (.head _))).c4; have c0 := (HK.out.a _ (.head _)).c0; have c1 := (HK.out.a _ (.head _)).c1; have c2 := (HK.out.a _ (.head _)).c2; have c3 := (HK.out.a _ (.head _)).c3; have c4 := (HK.out.a _ (.head _)).c4)
            | fail)
          generalize wc.heap.size = gl at HB2 ⊢
          generalize World.alloc wd _ = W0 at HK HB2 ⊢
          generalize wd.heap.size = gc at HK ⊢
          clear x0 x1 x2 x3 x4 y0 y1 y2 y3 y4 c0 c1 c2 c3 c4 HF1 HF2 HC1 HC2 HAr HL1 HT1
          go_loopg [15] n (fun g i wr => ∃ j : Nat, j + g = n ∧ i = .int .i64 j ∧ okT cs j ∧ KVar w [⟨gc, ⟨0, 0, 0, 0, []⟩, (.slice pwd 0 cwd)⟩, ⟨(w.heap.size + 1), B, (.slice q' B.z.length cap')⟩, ⟨w.heap.size, A, (.slice q A.z.length cap)⟩] wr ∧ R2 wr gl la lb)
          case atStart => exact ⟨0, by omega, rfl, okT_zero _, HK.out, HB2.out⟩
          case round =>
            obtain ⟨j, hjg, rfl, hok, hk, h2⟩ := hrel
            clear HK HB2
            have HOk := Lib.hid hok
            have HK := Lib.hid hk
            have HB := Lib.hid h2
            clear hok hk h2
            cases gk with
            | zero =>
              exact absurd (HF.out.symm.trans (okT_all HOk.out (by rw [HLc.out]; omega))) HNz.out
            | succ g =>
              have hjz : (j : Int) < (n : Int) := by omega
              have hjz2 := hjz
              rw [HMn.out] at hjz2
              have hj : j < n := by omega
              have hcs := HAt.out j hj
              have hbl := HBl.out j hj
              have hia : Sc.inr (celI A j) = true := HI.out.get _
              have hib : Sc.inr (celI B j) = true := HJ.out.get _
              have HEa1 := Lib.hid (fun W h => HEa.out j W h hbl.1)
              have HEb1 := Lib.hid (fun W h => HEb.out j W h hbl.2)
              generalize celI A j = x at HEa1 hcs hia
              generalize celI B j = y at HEb1 hcs hib
              have HC := Lib.hid (fun W => HTw.out x y W hia hib)
              generalize Sc.twoV p x y = c at HC hcs
              obtain ⟨c, E'⟩ := c
              simp only at HC
              clear hia hib hbl
              have x0 := (HK.out.a _ (.tail _ (.tail _ (.head _)))).c0
              have x1 := (HK.out.a _ (.tail _ (.tail _ (.head _)))).c1
              have x2 := (HK.out.a _ (.tail _ (.tail _ (.head _)))).c2
              have x3 := (HK.out.a _ (.tail _ (.tail _ (.head _)))).c3
              have x4 := (HK.out.a _ (.tail _ (.tail _ (.head _)))).c4
              have y0 := (HK.out.a _ (.tail _ (.head _))).c0
              have y1 := (HK.out.a _ (.tail _ (.head _))).c1
              have y2 := (HK.out.a _ (.tail _ (.head _))).c2
              have y3 := (HK.out.a _ (.tail _ (.head _))).c3
              have y4 := (HK.out.a _ (.tail _ (.head _))).c4
              go_wp2_with fail
              clear x0 x1 x2 x3 x4 y0 y1 y2 y3 y4
              go_cut [16, 17] (fun sx se wx => sx = .int .i64 c ∧ se = .int .i64 E' ∧ Below wr.heap.size wr wx)
              case first =>
                as_aux_lemma =>
                  have HAll : Hid (∀ W, Below wr.heap.size wr W → (fun W => Below wr.heap.size wr W ∧ W.cell? ⟨w.heap.size, 0, none⟩ = some (.int .i64 A.k) ∧ W.cell? ⟨w.heap.size, 1, none⟩ = some (.int .i64 A.r) ∧ W.cell? ⟨w.heap.size, 2, none⟩ = some (.int .i64 A.a) ∧ W.cell? ⟨w.heap.size, 3, none⟩ = some (.int .i64 A.b) ∧ W.cell? ⟨w.heap.size, 4, none⟩ = some ((.slice q A.z.length cap)) ∧ W.cell? ⟨(w.heap.size + 1), 0, none⟩ = some (.int .i64 B.k) ∧ W.cell? ⟨(w.heap.size + 1), 1, none⟩ = some (.int .i64 B.r) ∧ W.cell? ⟨(w.heap.size + 1), 2, none⟩ = some (.int .i64 B.a) ∧ W.cell? ⟨(w.heap.size + 1), 3, none⟩ = some (.int .i64 B.b) ∧ W.cell? ⟨(w.heap.size + 1), 4, none⟩ = some ((.slice q' B.z.length cap'))) W) := fun W h => ⟨h, ((HK.out.next h).a _ (.tail _ (.tail _ (.head _)))).c0, ((HK.out.next h).a _ (.tail _ (.tail _ (.head _)))).c1, ((HK.out.next h).a _ (.tail _ (.tail _ (.head _)))).c2, ((HK.out.next h).a _ (.tail _ (.tail _ (.head _)))).c3, ((HK.out.next h).a _ (.tail _ (.tail _ (.head _)))).c4, ((HK.out.next h).a _ (.tail _ (.head _))).c0, ((HK.out.next h).a _ (.tail _ (.head _))).c1, ((HK.out.next h).a _ (.tail _ (.head _))).c2, ((HK.out.next h).a _ (.tail _ (.head _))).c3, ((HK.out.next h).a _ (.tail _ (.head _))).c4⟩
                  clear HAt HLc HBl HOk HB HI HJ HEa HEb HTw hcs
                  refine wp_region_held_drew (S := (fun W => Below wr.heap.size wr W ∧ W.cell? ⟨w.heap.size, 0, none⟩ = some (.int .i64 A.k) ∧ W.cell? ⟨w.heap.size, 1, none⟩ = some (.int .i64 A.r) ∧ W.cell? ⟨w.heap.size, 2, none⟩ = some (.int .i64 A.a) ∧ W.cell? ⟨w.heap.size, 3, none⟩ = some (.int .i64 A.b) ∧ W.cell? ⟨w.heap.size, 4, none⟩ = some ((.slice q A.z.length cap)) ∧ W.cell? ⟨(w.heap.size + 1), 0, none⟩ = some (.int .i64 B.k) ∧ W.cell? ⟨(w.heap.size + 1), 1, none⟩ = some (.int .i64 B.r) ∧ W.cell? ⟨(w.heap.size + 1), 2, none⟩ = some (.int .i64 B.a) ∧ W.cell? ⟨(w.heap.size + 1), 3, none⟩ = some (.int .i64 B.b) ∧ W.cell? ⟨(w.heap.size + 1), 4, none⟩ = some ((.slice q' B.z.length cap')))) (by kernel_rfl) ?_ (fun hHeld => ?_)
                  · exact HAll.out _ (Below.refl _ _).drew
                  have HB0 : Hid (Below wr.heap.size wr (World.drew wr)) := (Below.refl _ _).drew
                  generalize World.drew wr = wd at hHeld HB0 ⊢
                  refine wpAnyH_take (i := 0) (v := ?_) rfl (by kernel_rfl) (by kernel_rfl) (by kernel_rfl) (fun _ _ _ h => h) (Or.inl ⟨by rfl, ?_⟩) (by assumption) ?_
                  rotate_left
                  · ((intro w0 hSw); (try dsimp only at hSw); go_simp; (try with_reducible rfl))
                  change wpAnyH _ _ _ _ _ _ _ (Act.put _ (some 113) _) _
                  try simp only [Act.put, List.setIfInBounds_toArray, List.set_cons_zero, List.set_cons_succ]
                  refine wpAnyH_take (i := 1) (v := ?_) rfl (by kernel_rfl) (by kernel_rfl) (by kernel_rfl) (fun _ _ _ h => h) (Or.inl ⟨by rfl, ?_⟩) (by assumption) ?_
                  rotate_left
                  · ((intro w0 hSw); (try dsimp only at hSw); go_simp; (try with_reducible rfl))
                  change wpAnyH _ _ _ _ _ _ _ (Act.put _ (some 114) _) _
                  try simp only [Act.put, List.setIfInBounds_toArray, List.set_cons_zero, List.set_cons_succ]
                  refine wpAnyH_take (i := 2) (v := ?_) rfl (by kernel_rfl) (by kernel_rfl) (by kernel_rfl) (fun _ _ _ h => h) (Or.inl ⟨by rfl, ?_⟩) (by assumption) ?_
                  rotate_left
                  · ((intro w0 hSw); (try dsimp only at hSw); go_simp; (try with_reducible rfl))
                  change wpAnyH _ _ _ _ _ _ _ (Act.put _ (some 115) _) _
                  try simp only [Act.put, List.setIfInBounds_toArray, List.set_cons_zero, List.set_cons_succ]
                  refine wpAnyH_take (i := 4) (v := ?_) rfl (by kernel_rfl) (by kernel_rfl) (by kernel_rfl) (fun _ _ _ h => h) (Or.inl ⟨by rfl, ?_⟩) (by assumption) ?_
                  rotate_left
                  · ((intro w0 hSw); (try dsimp only at hSw); go_simp; (try with_reducible rfl))
                  change wpAnyH _ _ _ _ _ _ _ (Act.put _ (some 117) _) _
                  try simp only [Act.put, List.setIfInBounds_toArray, List.set_cons_zero, List.set_cons_succ]
                  refine wpAnyH_take (i := 5) (v := ?_) rfl (by kernel_rfl) (by kernel_rfl) (by kernel_rfl) (fun _ _ _ h => h) (Or.inl ⟨by rfl, ?_⟩) (by assumption) ?_
                  rotate_left
                  · ((intro w0 hSw); (try dsimp only at hSw); go_simp; (try with_reducible rfl))
                  change wpAnyH _ _ _ _ _ _ _ (Act.put _ (some 118) _) _
                  try simp only [Act.put, List.setIfInBounds_toArray, List.set_cons_zero, List.set_cons_succ]
                  refine wpAnyH_ready (rs := [3]) (by kernel_rfl) (by simp) ?_
                  refine AllReadyH.cons rfl (fun K hK => ?_) (AllReadyH.nil)
                  go_simp
                  go_at_call 23
                  with_reducible refine (HEa1.out _ (by with_unfolding_all exact (HK.out.next HB0.out).r _ (.tail _ (.tail _ (.head _))))).mono ?_
                  rintro e wn ⟨rfl, hb⟩
                  have HB1 := Lib.hid (HB0.out.trans (hb.mono HB0.out.size))
                  clear hb
                  refine hK.out _ _ ?_ (fun hHeld2 => ?_)
                  · exact HAll.out _ HB1.out
                  clear hK K hHeld
                  have hHeld := hHeld2; clear hHeld2
                  try change wpAnyH _ _ _ _ _ _ _ (Act.put _ (some 116) _) _
                  try dsimp only
                  try simp only [Act.put, List.setIfInBounds_toArray, List.set_cons_zero, List.set_cons_succ]
                  refine wpAnyH_ready (rs := [6]) (by kernel_rfl) (by simp) ?_
                  refine AllReadyH.cons rfl (fun K hK => ?_) (AllReadyH.nil)
                  go_simp
                  go_at_call 23
                  with_reducible refine (HEb1.out _ (by with_unfolding_all exact (HK.out.next HB1.out).r _ (.tail _ (.head _)))).mono ?_
                  rintro e wn ⟨rfl, hb⟩
                  have HB2 := Lib.hid (HB1.out.trans (hb.mono HB1.out.size))
                  clear hb
                  refine hK.out _ _ ?_ (fun hHeld2 => ?_)
                  · exact HAll.out _ HB2.out
                  clear hK K hHeld
                  have hHeld := hHeld2; clear hHeld2
                  try change wpAnyH _ _ _ _ _ _ _ (Act.put _ (some 119) _) _
                  try dsimp only
                  try simp only [Act.put, List.setIfInBounds_toArray, List.set_cons_zero, List.set_cons_succ]
                  refine wpAnyH_ready (rs := [7]) (by kernel_rfl) (by simp) ?_
                  refine AllReadyH.cons rfl (fun K hK => ?_) (AllReadyH.nil)
                  go_simp
                  go_at_call 22
                  with_reducible refine (HC.out _).mono ?_
                  rintro e wn ⟨rfl, hb⟩
                  have HB3 := Lib.hid (HB2.out.trans (hb.mono HB2.out.size))
                  clear hb
                  refine hK.out _ _ ?_ (fun hHeld2 => ?_)
                  · exact HAll.out _ HB3.out
                  clear hK K hHeld
                  have hHeld := hHeld2; clear hHeld2
                  try change wpAnyH _ _ _ _ _ _ _ (Act.put _ (some 120) _) _
                  try dsimp only
                  try simp only [Act.put, List.setIfInBounds_toArray, List.set_cons_zero, List.set_cons_succ]
                  refine wpAnyH_take (i := 8) (v := ?_) rfl (by kernel_rfl) (by kernel_rfl) (by kernel_rfl) (fun _ _ _ h => h) (Or.inl ⟨by rfl, ?_⟩) (by assumption) ?_
                  rotate_left
                  · ((intro w0 hSw); (try dsimp only at hSw); go_simp; (try with_reducible rfl))
                  change wpAnyH _ _ _ _ _ _ _ (Act.put _ (some 112) _) _
                  try simp only [Act.put, List.setIfInBounds_toArray, List.set_cons_zero, List.set_cons_succ]
                  refine wpAnyH_take (i := 9) (v := ?_) rfl (by kernel_rfl) (by kernel_rfl) (by kernel_rfl) (fun _ _ _ h => h) (Or.inl ⟨by rfl, ?_⟩) (by assumption) ?_
                  rotate_left
                  · ((intro w0 hSw); (try dsimp only at hSw); go_simp; (try with_reducible rfl))
                  change wpAnyH _ _ _ _ _ _ _ (Act.put _ (some 121) _) _
                  try simp only [Act.put, List.setIfInBounds_toArray, List.set_cons_zero, List.set_cons_succ]
                  refine wpAnyH_take (i := 10) (v := ?_) rfl (by kernel_rfl) (by kernel_rfl) (by kernel_rfl) (fun _ _ _ h => h) (Or.inl ⟨by rfl, ?_⟩) (by assumption) ?_
                  rotate_left
                  · ((intro w0 hSw); (try dsimp only at hSw); go_simp; (try with_reducible rfl))
                  change wpAnyH _ _ _ _ _ _ _ (Act.put _ (some 122) _) _
                  try simp only [Act.put, List.setIfInBounds_toArray, List.set_cons_zero, List.set_cons_succ]
                  refine wpAnyH_take (i := 11) (v := ?_) rfl (by kernel_rfl) (by kernel_rfl) (by kernel_rfl) (fun _ _ _ h => h) (Or.inl ⟨by rfl, ?_⟩) (by assumption) ?_
                  rotate_left
                  · ((intro w0 hSw); (try dsimp only at hSw); go_simp; (try with_reducible rfl))
                  change wpAnyH _ _ _ _ _ _ _ (Act.put _ (some 16) _) _
                  try simp only [Act.put, List.setIfInBounds_toArray, List.set_cons_zero, List.set_cons_succ]
                  refine wpAnyH_take (i := 12) (v := ?_) rfl (by kernel_rfl) (by kernel_rfl) (by kernel_rfl) (fun _ _ _ h => h) (Or.inl ⟨by rfl, ?_⟩) (by assumption) ?_
                  rotate_left
                  · ((intro w0 hSw); (try dsimp only at hSw); go_simp; (try with_reducible rfl))
                  change wpAnyH _ _ _ _ _ _ _ (Act.put _ (some 17) _) _
                  try simp only [Act.put, List.setIfInBounds_toArray, List.set_cons_zero, List.set_cons_succ]
                  refine wpAnyH_done (by kernel_rfl) ?_ _
                  go_wp2_with fail
                  go_meet
                  case rel => exact ⟨rfl, rfl, HB3.out⟩
              case rest =>
                obtain ⟨rfl, rfl, hbx⟩ := hcut
                have HK2 := Lib.hid (HK.out.next hbx)
                have HB2 := Lib.hid (HB.out.next hbx)
                clear HK HB hbx HC HEa1 HEb1
                have HK := HK2
                clear HK2
                have c0 := (HK.out.a _ (.head _)).c0
                have c1 := (HK.out.a _ (.head _)).c1
                have c2 := (HK.out.a _ (.head _)).c2
                have c3 := (HK.out.a _ (.head _)).c3
                have c4 := (HK.out.a _ (.head _)).c4
                by_cases hE' : E' = 0
                · subst hE'
                  have HOk2 : Hid (okT cs (j + 1)) := okT_next HOk.out hcs
                  clear hcs HOk HAt HLc HBl HTw HEa HEb HI HJ
                  go_wp2_with fail
                  go_roundg g
                  case measure => omega
                  case rel => exact ⟨j + 1, by omega, by go_num, HOk2.out, HK.out, HB2.out⟩
                · have hfe : F = E' := HF.out.symm.trans (okT_bad HOk.out hcs hE')
                  have k9 : (E' != 0) = true := by simpa using hE'
                  have k8 : (F == E') = true := by rw [hfe]; simp
                  clear hcs HOk HAt HLc HBl HTw HEa HEb HI HJ hE' hfe
                  go_wp2_with (first
                    | (go_at_call 12; (with_reducible refine (HAw.out _ (by with_unfolding_all exact HK.out.lay)).mono ?_); rintro e wz ⟨rfl, hb⟩; have HK2 := Lib.hid (HK.out.next hb); clear HK c0 c1 c2 c3 c4; have HK := HK2; clear HK2; clear hb; have c0 := (HK.out.a _ (.head _)).c0; have c1 := (HK.out.a _ (.head _)).c1; have c2 := (HK.out.a _ (.head _)).c2; have c3 := (HK.out.a _ (.head _)).c3; have c4 := (HK.out.a _ (.head _)).c4)
                    | fail)
                  go_ret
                  exact ⟨rfl, HK.out.bel⟩
      · have k6 : (B.r == 0) = false := by simpa using hrb
        have hmx : max (A.z.length : Int) (B.z.length : Int) = (A.z.length : Int) := by rw [← (hsame hra hrb).2.2.2]; exact Int.max_self _
        have HMn := Lib.hid hmany
        clear hra hrb hsm2 hsame hmany
        as_aux_lemma =>
          go_enter Tryd.func5, Tryd.ntmps5
          go_wp2_with (first
            | (go_at_call 20; (with_reducible refine (HAr.out _).mono ?_); rintro e wz ⟨rfl, rfl⟩)
            | (go_at_call 11; (with_reducible refine (HF1.out _ (by with_unfolding_all exact HK.out.r _ (.tail _ (.head _)))).mono ?_); rintro e wz ⟨rfl, hb⟩; have HK2 := Lib.hid (HK.out.next hb); clear HK x0 x1 x2 x3 x4 y0 y1 y2 y3 y4; have HK := HK2; clear HK2; clear hb; have x0 := (HK.out.a _ (.tail _ (.head _))).c0; have x1 := (HK.out.a _ (.tail _ (.head _))).c1; have x2 := (HK.out.a _ (.tail _ (.head _))).c2; have x3 := (HK.out.a _ (.tail _ (.head _))).c3; have x4 := (HK.out.a _ (.tail _ (.head _))).c4; have y0 := (HK.out.a _ (.head _)).c0; have y1 := (HK.out.a _ (.head _)).c1; have y2 := (HK.out.a _ (.head _)).c2; have y3 := (HK.out.a _ (.head _)).c3; have y4 := (HK.out.a _ (.head _)).c4)
            | (go_at_call 11; (with_reducible refine (HF2.out _ (by with_unfolding_all exact HK.out.r _ (.head _))).mono ?_); rintro e wz ⟨rfl, hb⟩; have HK2 := Lib.hid (HK.out.next hb); clear HK x0 x1 x2 x3 x4 y0 y1 y2 y3 y4; have HK := HK2; clear HK2; clear hb; have x0 := (HK.out.a _ (.tail _ (.head _))).c0; have x1 := (HK.out.a _ (.tail _ (.head _))).c1; have x2 := (HK.out.a _ (.tail _ (.head _))).c2; have x3 := (HK.out.a _ (.tail _ (.head _))).c3; have x4 := (HK.out.a _ (.tail _ (.head _))).c4; have y0 := (HK.out.a _ (.head _)).c0; have y1 := (HK.out.a _ (.head _)).c1; have y2 := (HK.out.a _ (.head _)).c2; have y3 := (HK.out.a _ (.head _)).c3; have y4 := (HK.out.a _ (.head _)).c4)
            | (go_at_call 21; (with_reducible refine (HC2.out _ (by with_unfolding_all exact HK.out.r _ (.head _))).mono ?_); rintro e wz ⟨rfl, hb⟩; have HK2 := Lib.hid (HK.out.next hb); clear HK x0 x1 x2 x3 x4 y0 y1 y2 y3 y4; have HK := HK2; clear HK2; clear hb; have x0 := (HK.out.a _ (.tail _ (.head _))).c0; have x1 := (HK.out.a _ (.tail _ (.head _))).c1; have x2 := (HK.out.a _ (.tail _ (.head _))).c2; have x3 := (HK.out.a _ (.tail _ (.head _))).c3; have x4 := (HK.out.a _ (.tail _ (.head _))).c4; have y0 := (HK.out.a _ (.head _)).c0; have y1 := (HK.out.a _ (.head _)).c1; have y2 := (HK.out.a _ (.head _)).c2; have y3 := (HK.out.a _ (.head _)).c3; have y4 := (HK.out.a _ (.head _)).c4)
            | (go_at_call 21; (with_reducible refine (HC1.out _ (by with_unfolding_all exact HK.out.r _ (.tail _ (.head _)))).mono ?_); rintro e wz ⟨rfl, hb⟩; have HK2 := Lib.hid (HK.out.next hb); clear HK x0 x1 x2 x3 x4 y0 y1 y2 y3 y4; have HK := HK2; clear HK2; clear hb; have x0 := (HK.out.a _ (.tail _ (.head _))).c0; have x1 := (HK.out.a _ (.tail _ (.head _))).c1; have x2 := (HK.out.a _ (.tail _ (.head _))).c2; have x3 := (HK.out.a _ (.tail _ (.head _))).c3; have x4 := (HK.out.a _ (.tail _ (.head _))).c4; have y0 := (HK.out.a _ (.head _)).c0; have y1 := (HK.out.a _ (.head _)).c1; have y2 := (HK.out.a _ (.head _)).c2; have y3 := (HK.out.a _ (.head _)).c3; have y4 := (HK.out.a _ (.head _)).c4)
            | (go_at_call 18; (with_reducible refine (HL1.out _ (by with_unfolding_all exact HK.out.lay) (by with_unfolding_all exact HK.out.r _ (.tail _ (.head _))) (by with_unfolding_all exact HK.out.r _ (.head _))).mono ?_); rintro e wc ⟨rfl, hb⟩; have HK2 := Lib.hid ((HK.out.next hb).next (bel1 _ (.cells #[.int .i64 la, .int .i64 lb] 22))); clear HK x0 x1 x2 x3 x4 y0 y1 y2 y3 y4; have HK := HK2; clear HK2; clear hb; have HB1 := Lib.hid (R2.new wc la lb); have x0 := (HK.out.a _ (.tail _ (.head _))).c0; have x1 := (HK.out.a _ (.tail _ (.head _))).c1; have x2 := (HK.out.a _ (.tail _ (.head _))).c2; have x3 := (HK.out.a _ (.tail _ (.head _))).c3; have x4 := (HK.out.a _ (.tail _ (.head _))).c4; have y0 := (HK.out.a _ (.head _)).c0; have y1 := (HK.out.a _ (.head _)).c1; have y2 := (HK.out.a _ (.head _)).c2; have y3 := (HK.out.a _ (.head _)).c3; have y4 := (HK.out.a _ (.head _)).c4)
            | (go_at_call 16; (with_reducible refine (HT1.out _ (by with_unfolding_all exact HK.out.lay) (by with_unfolding_all exact HK.out.r _ (.tail _ (.head _))) (by with_unfolding_all exact HK.out.r _ (.head _))).mono ?_); rintro e wd ⟨uwd, rfl, hu, hb⟩; obtain ⟨pwd, cwd, hpwd, _, _⟩ := hu.form; have hqwd : uwd = (.slice pwd 0 cwd) := hpwd; subst hqwd; clear hpwd; have hltyc : (w.heap.size + 1) < wd.heap.size := Nat.lt_of_lt_of_le (HK.out.lt _ (.head _)) hb.size; have hltxc : w.heap.size < wd.heap.size := Nat.lt_of_lt_of_le (HK.out.lt _ (.tail _ (.head _))) hb.size; have HK2 := Lib.hid (HK.out.res hb ⟨0, 0, 0, 0, []⟩ hu); clear HK x0 x1 x2 x3 x4 y0 y1 y2 y3 y4; have HK := HK2; clear HK2; have HB2 := Lib.hid ((HB1.out.next hb).next (bel1 _ (.cells #[.int .i64 0, .int .i64 0, .int .i64 0, .int .i64 0, .slice pwd 0 cwd] 25))); clear HB1 hb hu; have x0 := (HK.out.a _ (.tail _ (.tail _ (.head _)))).c0; have x1 := (HK.out.a _ (.tail _ (.tail _ (.head _)))).c1; have x2 := (HK.out.a _ (.tail _ (.tail _ (.head _)))).c2; have x3 := (HK.out.a _ (.tail _ (.tail _ (.head _)))).c3; have x4 := (HK.out.a _ (.tail _ (.tail _ (.head _)))).c4; have y0 := (HK.out.a _ (.tail _ (.head _))).c0; have y1 := (HK.out.a _ (.tail _ (.head _))).c1; have y2 := (HK.out.a _ (.tail _ (.head _))).c2; have y3 := (HK.out.a _ (.tail _ (.head _))).c3; have y4 := (HK.out.a _ (.tail _ (.head _))).c4; have c0 := (HK.out.a _ (.head _)).c0; have c1 := (HK.out.a _ (.head _)).c1; have c2 := (HK.out.a _ (.head _)).c2; have c3 := (HK.out.a _ (.head _)).c3; have c4 := (HK.out.a _ (.head _)).c4)
            | fail)
          generalize wc.heap.size = gl at HB2 ⊢
          generalize World.alloc wd _ = W0 at HK HB2 ⊢
          generalize wd.heap.size = gc at HK ⊢
          clear x0 x1 x2 x3 x4 y0 y1 y2 y3 y4 c0 c1 c2 c3 c4 HF1 HF2 HC1 HC2 HAr HL1 HT1
          go_loopg [15] n (fun g i wr => ∃ j : Nat, j + g = n ∧ i = .int .i64 j ∧ okT cs j ∧ KVar w [⟨gc, ⟨0, 0, 0, 0, []⟩, (.slice pwd 0 cwd)⟩, ⟨(w.heap.size + 1), B, (.slice q' B.z.length cap')⟩, ⟨w.heap.size, A, (.slice q A.z.length cap)⟩] wr ∧ R2 wr gl la lb)
          case atStart => exact ⟨0, by omega, rfl, okT_zero _, HK.out, HB2.out⟩
          case round =>
            obtain ⟨j, hjg, rfl, hok, hk, h2⟩ := hrel
            clear HK HB2
            have HOk := Lib.hid hok
            have HK := Lib.hid hk
            have HB := Lib.hid h2
            clear hok hk h2
            cases gk with
            | zero =>
              exact absurd (HF.out.symm.trans (okT_all HOk.out (by rw [HLc.out]; omega))) HNz.out
            | succ g =>
              have hjz : (j : Int) < (n : Int) := by omega
              have hjz2 := hjz
              rw [HMn.out] at hjz2
              have hj : j < n := by omega
              have hcs := HAt.out j hj
              have hbl := HBl.out j hj
              have hia : Sc.inr (celI A j) = true := HI.out.get _
              have hib : Sc.inr (celI B j) = true := HJ.out.get _
              have HEa1 := Lib.hid (fun W h => HEa.out j W h hbl.1)
              have HEb1 := Lib.hid (fun W h => HEb.out j W h hbl.2)
              generalize celI A j = x at HEa1 hcs hia
              generalize celI B j = y at HEb1 hcs hib
              have HC := Lib.hid (fun W => HTw.out x y W hia hib)
              generalize Sc.twoV p x y = c at HC hcs
              obtain ⟨c, E'⟩ := c
              simp only at HC
              clear hia hib hbl
              have x0 := (HK.out.a _ (.tail _ (.tail _ (.head _)))).c0
              have x1 := (HK.out.a _ (.tail _ (.tail _ (.head _)))).c1
              have x2 := (HK.out.a _ (.tail _ (.tail _ (.head _)))).c2
              have x3 := (HK.out.a _ (.tail _ (.tail _ (.head _)))).c3
              have x4 := (HK.out.a _ (.tail _ (.tail _ (.head _)))).c4
              have y0 := (HK.out.a _ (.tail _ (.head _))).c0
              have y1 := (HK.out.a _ (.tail _ (.head _))).c1
              have y2 := (HK.out.a _ (.tail _ (.head _))).c2
              have y3 := (HK.out.a _ (.tail _ (.head _))).c3
              have y4 := (HK.out.a _ (.tail _ (.head _))).c4
              go_wp2_with fail
              clear x0 x1 x2 x3 x4 y0 y1 y2 y3 y4
              go_cut [16, 17] (fun sx se wx => sx = .int .i64 c ∧ se = .int .i64 E' ∧ Below wr.heap.size wr wx)
              case first =>
                as_aux_lemma =>
                  have HAll : Hid (∀ W, Below wr.heap.size wr W → (fun W => Below wr.heap.size wr W ∧ W.cell? ⟨w.heap.size, 0, none⟩ = some (.int .i64 A.k) ∧ W.cell? ⟨w.heap.size, 1, none⟩ = some (.int .i64 A.r) ∧ W.cell? ⟨w.heap.size, 2, none⟩ = some (.int .i64 A.a) ∧ W.cell? ⟨w.heap.size, 3, none⟩ = some (.int .i64 A.b) ∧ W.cell? ⟨w.heap.size, 4, none⟩ = some ((.slice q A.z.length cap)) ∧ W.cell? ⟨(w.heap.size + 1), 0, none⟩ = some (.int .i64 B.k) ∧ W.cell? ⟨(w.heap.size + 1), 1, none⟩ = some (.int .i64 B.r) ∧ W.cell? ⟨(w.heap.size + 1), 2, none⟩ = some (.int .i64 B.a) ∧ W.cell? ⟨(w.heap.size + 1), 3, none⟩ = some (.int .i64 B.b) ∧ W.cell? ⟨(w.heap.size + 1), 4, none⟩ = some ((.slice q' B.z.length cap'))) W) := fun W h => ⟨h, ((HK.out.next h).a _ (.tail _ (.tail _ (.head _)))).c0, ((HK.out.next h).a _ (.tail _ (.tail _ (.head _)))).c1, ((HK.out.next h).a _ (.tail _ (.tail _ (.head _)))).c2, ((HK.out.next h).a _ (.tail _ (.tail _ (.head _)))).c3, ((HK.out.next h).a _ (.tail _ (.tail _ (.head _)))).c4, ((HK.out.next h).a _ (.tail _ (.head _))).c0, ((HK.out.next h).a _ (.tail _ (.head _))).c1, ((HK.out.next h).a _ (.tail _ (.head _))).c2, ((HK.out.next h).a _ (.tail _ (.head _))).c3, ((HK.out.next h).a _ (.tail _ (.head _))).c4⟩
                  clear HAt HLc HBl HOk HB HI HJ HEa HEb HTw hcs
                  refine wp_region_held_drew (S := (fun W => Below wr.heap.size wr W ∧ W.cell? ⟨w.heap.size, 0, none⟩ = some (.int .i64 A.k) ∧ W.cell? ⟨w.heap.size, 1, none⟩ = some (.int .i64 A.r) ∧ W.cell? ⟨w.heap.size, 2, none⟩ = some (.int .i64 A.a) ∧ W.cell? ⟨w.heap.size, 3, none⟩ = some (.int .i64 A.b) ∧ W.cell? ⟨w.heap.size, 4, none⟩ = some ((.slice q A.z.length cap)) ∧ W.cell? ⟨(w.heap.size + 1), 0, none⟩ = some (.int .i64 B.k) ∧ W.cell? ⟨(w.heap.size + 1), 1, none⟩ = some (.int .i64 B.r) ∧ W.cell? ⟨(w.heap.size + 1), 2, none⟩ = some (.int .i64 B.a) ∧ W.cell? ⟨(w.heap.size + 1), 3, none⟩ = some (.int .i64 B.b) ∧ W.cell? ⟨(w.heap.size + 1), 4, none⟩ = some ((.slice q' B.z.length cap')))) (by kernel_rfl) ?_ (fun hHeld => ?_)
                  · exact HAll.out _ (Below.refl _ _).drew
                  have HB0 : Hid (Below wr.heap.size wr (World.drew wr)) := (Below.refl _ _).drew
                  generalize World.drew wr = wd at hHeld HB0 ⊢
                  refine wpAnyH_take (i := 0) (v := ?_) rfl (by kernel_rfl) (by kernel_rfl) (by kernel_rfl) (fun _ _ _ h => h) (Or.inl ⟨by rfl, ?_⟩) (by assumption) ?_
                  rotate_left
                  · ((intro w0 hSw); (try dsimp only at hSw); go_simp; (try with_reducible rfl))
                  change wpAnyH _ _ _ _ _ _ _ (Act.put _ (some 113) _) _
                  try simp only [Act.put, List.setIfInBounds_toArray, List.set_cons_zero, List.set_cons_succ]
                  refine wpAnyH_take (i := 1) (v := ?_) rfl (by kernel_rfl) (by kernel_rfl) (by kernel_rfl) (fun _ _ _ h => h) (Or.inl ⟨by rfl, ?_⟩) (by assumption) ?_
                  rotate_left
                  · ((intro w0 hSw); (try dsimp only at hSw); go_simp; (try with_reducible rfl))
                  change wpAnyH _ _ _ _ _ _ _ (Act.put _ (some 114) _) _
                  try simp only [Act.put, List.setIfInBounds_toArray, List.set_cons_zero, List.set_cons_succ]
                  refine wpAnyH_take (i := 2) (v := ?_) rfl (by kernel_rfl) (by kernel_rfl) (by kernel_rfl) (fun _ _ _ h => h) (Or.inl ⟨by rfl, ?_⟩) (by assumption) ?_
                  rotate_left
                  · ((intro w0 hSw); (try dsimp only at hSw); go_simp; (try with_reducible rfl))
                  change wpAnyH _ _ _ _ _ _ _ (Act.put _ (some 115) _) _
                  try simp only [Act.put, List.setIfInBounds_toArray, List.set_cons_zero, List.set_cons_succ]
                  refine wpAnyH_take (i := 4) (v := ?_) rfl (by kernel_rfl) (by kernel_rfl) (by kernel_rfl) (fun _ _ _ h => h) (Or.inl ⟨by rfl, ?_⟩) (by assumption) ?_
                  rotate_left
                  · ((intro w0 hSw); (try dsimp only at hSw); go_simp; (try with_reducible rfl))
                  change wpAnyH _ _ _ _ _ _ _ (Act.put _ (some 117) _) _
                  try simp only [Act.put, List.setIfInBounds_toArray, List.set_cons_zero, List.set_cons_succ]
                  refine wpAnyH_take (i := 5) (v := ?_) rfl (by kernel_rfl) (by kernel_rfl) (by kernel_rfl) (fun _ _ _ h => h) (Or.inl ⟨by rfl, ?_⟩) (by assumption) ?_
                  rotate_left
                  · ((intro w0 hSw); (try dsimp only at hSw); go_simp; (try with_reducible rfl))
                  change wpAnyH _ _ _ _ _ _ _ (Act.put _ (some 118) _) _
                  try simp only [Act.put, List.setIfInBounds_toArray, List.set_cons_zero, List.set_cons_succ]
                  refine wpAnyH_ready (rs := [3]) (by kernel_rfl) (by simp) ?_
                  refine AllReadyH.cons rfl (fun K hK => ?_) (AllReadyH.nil)
                  go_simp
                  go_at_call 23
                  with_reducible refine (HEa1.out _ (by with_unfolding_all exact (HK.out.next HB0.out).r _ (.tail _ (.tail _ (.head _))))).mono ?_
                  rintro e wn ⟨rfl, hb⟩
                  have HB1 := Lib.hid (HB0.out.trans (hb.mono HB0.out.size))
                  clear hb
                  refine hK.out _ _ ?_ (fun hHeld2 => ?_)
                  · exact HAll.out _ HB1.out
                  clear hK K hHeld
                  have hHeld := hHeld2; clear hHeld2
                  try change wpAnyH _ _ _ _ _ _ _ (Act.put _ (some 116) _) _
                  try dsimp only
                  try simp only [Act.put, List.setIfInBounds_toArray, List.set_cons_zero, List.set_cons_succ]
                  refine wpAnyH_ready (rs := [6]) (by kernel_rfl) (by simp) ?_
                  refine AllReadyH.cons rfl (fun K hK => ?_) (AllReadyH.nil)
                  go_simp
                  go_at_call 23
                  with_reducible refine (HEb1.out _ (by with_unfolding_all exact (HK.out.next HB1.out).r _ (.tail _ (.head _)))).mono ?_
                  rintro e wn ⟨rfl, hb⟩
                  have HB2 := Lib.hid (HB1.out.trans (hb.mono HB1.out.size))
                  clear hb
                  refine hK.out _ _ ?_ (fun hHeld2 => ?_)
                  · exact HAll.out _ HB2.out
                  clear hK K hHeld
                  have hHeld := hHeld2; clear hHeld2
                  try change wpAnyH _ _ _ _ _ _ _ (Act.put _ (some 119) _) _
                  try dsimp only
                  try simp only [Act.put, List.setIfInBounds_toArray, List.set_cons_zero, List.set_cons_succ]
                  refine wpAnyH_ready (rs := [7]) (by kernel_rfl) (by simp) ?_
                  refine AllReadyH.cons rfl (fun K hK => ?_) (AllReadyH.nil)
                  go_simp
                  go_at_call 22
                  with_reducible refine (HC.out _).mono ?_
                  rintro e wn ⟨rfl, hb⟩
                  have HB3 := Lib.hid (HB2.out.trans (hb.mono HB2.out.size))
                  clear hb
                  refine hK.out _ _ ?_ (fun hHeld2 => ?_)
                  · exact HAll.out _ HB3.out
                  clear hK K hHeld
                  have hHeld := hHeld2; clear hHeld2
                  try change wpAnyH _ _ _ _ _ _ _ (Act.put _ (some 120) _) _
                  try dsimp only
                  try simp only [Act.put, List.setIfInBounds_toArray, List.set_cons_zero, List.set_cons_succ]
                  refine wpAnyH_take (i := 8) (v := ?_) rfl (by kernel_rfl) (by kernel_rfl) (by kernel_rfl) (fun _ _ _ h => h) (Or.inl ⟨by rfl, ?_⟩) (by assumption) ?_
                  rotate_left
                  · ((intro w0 hSw); (try dsimp only at hSw); go_simp; (try with_reducible rfl))
                  change wpAnyH _ _ _ _ _ _ _ (Act.put _ (some 112) _) _
                  try simp only [Act.put, List.setIfInBounds_toArray, List.set_cons_zero, List.set_cons_succ]
                  refine wpAnyH_take (i := 9) (v := ?_) rfl (by kernel_rfl) (by kernel_rfl) (by kernel_rfl) (fun _ _ _ h => h) (Or.inl ⟨by rfl, ?_⟩) (by assumption) ?_
                  rotate_left
                  · ((intro w0 hSw); (try dsimp only at hSw); go_simp; (try with_reducible rfl))
                  change wpAnyH _ _ _ _ _ _ _ (Act.put _ (some 121) _) _
                  try simp only [Act.put, List.setIfInBounds_toArray, List.set_cons_zero, List.set_cons_succ]
                  refine wpAnyH_take (i := 10) (v := ?_) rfl (by kernel_rfl) (by kernel_rfl) (by kernel_rfl) (fun _ _ _ h => h) (Or.inl ⟨by rfl, ?_⟩) (by assumption) ?_
                  rotate_left
                  · ((intro w0 hSw); (try dsimp only at hSw); go_simp; (try with_reducible rfl))
                  change wpAnyH _ _ _ _ _ _ _ (Act.put _ (some 122) _) _
                  try simp only [Act.put, List.setIfInBounds_toArray, List.set_cons_zero, List.set_cons_succ]
                  refine wpAnyH_take (i := 11) (v := ?_) rfl (by kernel_rfl) (by kernel_rfl) (by kernel_rfl) (fun _ _ _ h => h) (Or.inl ⟨by rfl, ?_⟩) (by assumption) ?_
                  rotate_left
                  · ((intro w0 hSw); (try dsimp only at hSw); go_simp; (try with_reducible rfl))
                  change wpAnyH _ _ _ _ _ _ _ (Act.put _ (some 16) _) _
                  try simp only [Act.put, List.setIfInBounds_toArray, List.set_cons_zero, List.set_cons_succ]
                  refine wpAnyH_take (i := 12) (v := ?_) rfl (by kernel_rfl) (by kernel_rfl) (by kernel_rfl) (fun _ _ _ h => h) (Or.inl ⟨by rfl, ?_⟩) (by assumption) ?_
                  rotate_left
                  · ((intro w0 hSw); (try dsimp only at hSw); go_simp; (try with_reducible rfl))
                  change wpAnyH _ _ _ _ _ _ _ (Act.put _ (some 17) _) _
                  try simp only [Act.put, List.setIfInBounds_toArray, List.set_cons_zero, List.set_cons_succ]
                  refine wpAnyH_done (by kernel_rfl) ?_ _
                  go_wp2_with fail
                  go_meet
                  case rel => exact ⟨rfl, rfl, HB3.out⟩
              case rest =>
                obtain ⟨rfl, rfl, hbx⟩ := hcut
                have HK2 := Lib.hid (HK.out.next hbx)
                have HB2 := Lib.hid (HB.out.next hbx)
                clear HK HB hbx HC HEa1 HEb1
                have HK := HK2
                clear HK2
                have c0 := (HK.out.a _ (.head _)).c0
                have c1 := (HK.out.a _ (.head _)).c1
                have c2 := (HK.out.a _ (.head _)).c2
                have c3 := (HK.out.a _ (.head _)).c3
                have c4 := (HK.out.a _ (.head _)).c4
                by_cases hE' : E' = 0
                · subst hE'
                  have HOk2 : Hid (okT cs (j + 1)) := okT_next HOk.out hcs
                  clear hcs HOk HAt HLc HBl HTw HEa HEb HI HJ
                  go_wp2_with fail
                  go_roundg g
                  case measure => omega
                  case rel => exact ⟨j + 1, by omega, by go_num, HOk2.out, HK.out, HB2.out⟩
                · have hfe : F = E' := HF.out.symm.trans (okT_bad HOk.out hcs hE')
                  have k9 : (E' != 0) = true := by simpa using hE'
                  have k8 : (F == E') = true := by rw [hfe]; simp
                  clear hcs HOk HAt HLc HBl HTw HEa HEb HI HJ hE' hfe
                  go_wp2_with (first
                    | (go_at_call 12; (with_reducible refine (HAw.out _ (by with_unfolding_all exact HK.out.lay)).mono ?_); rintro e wz ⟨rfl, hb⟩; have HK2 := Lib.hid (HK.out.next hb); clear HK c0 c1 c2 c3 c4; have HK := HK2; clear HK2; clear hb; have c0 := (HK.out.a _ (.head _)).c0; have c1 := (HK.out.a _ (.head _)).c1; have c2 := (HK.out.a _ (.head _)).c2; have c3 := (HK.out.a _ (.head _)).c3; have c4 := (HK.out.a _ (.head _)).c4)
                    | fail)
                  go_ret
                  exact ⟨rfl, HK.out.bel⟩
end Go.Proofs.YtmmnoldhiobgdaaDoor
