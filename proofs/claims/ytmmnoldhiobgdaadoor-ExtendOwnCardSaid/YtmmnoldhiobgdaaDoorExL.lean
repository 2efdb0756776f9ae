/- What the laws of extend share; the laws ExtendOnes and ExtendTwos. -/
import Derived.Test.YtmmnoldhiobgdaaDoorExJ
import Derived.Test.YtmmnoldhiobgdaaDoorMvKc
namespace Go.Proofs.YtmmnoldhiobgdaaDoor
open Go.RowKit

theorem alike_lit10 (k r a b : Int) (z : List Int) (E : Int) (v u : Value) (W : World) (h1 : RdI W.heap.size W v z) (h2 : RdI W.heap.size W u z) (h0 : z.length ≤ 1000000) : Calls Tryd.prog 15 #[A5 k r a b v, .int .i64 E, A5 k r a b u, .int .i64 E] W fun e w' => e = .returned (.bool true) ∧ Below W.heap.size W w' :=
  alike_eq ⟨k, r, a, b, z⟩ E v u W h1 h2 h0
theorem eq2t10 (a b : Int) (w : World) : (Op.equalIn 10000 22 (P2 a b) (P2 a b)).run Tryd.prog w = .ok true w := by rw [eq2, decide_eq_true ⟨rfl, rfl⟩]
theorem onV_len (p : Int) (A : Ar) : (onV p A).z.length ≤ A.z.length := by
  unfold onV exV orNo
  split
  · exact Nat.le_of_eq ((vsL_len _).trans (c1_len p A))
  · exact Nat.zero_le _
theorem boV_len (A B : Ar) : (boV A B).z.length ≤ A.z.length + B.z.length := by
  unfold boV
  split
  · omega
  · split <;> omega
theorem twV_len (p : Int) (A B : Ar) : (twV p A B).z.length ≤ A.z.length + B.z.length := by
  unfold twV exV orNo
  split
  · exact Nat.le_trans (Nat.le_of_eq ((vsL_len _).trans (c2_len p A B))) (boV_len A B)
  · exact Nat.zero_le _
theorem KVar.two {w : World} {A B : Ar} {v u : Value} (hw : Ru.Lay w) (hv : RdI w.heap.size w v A.z) (hu : RdI w.heap.size w u B.z) (hn : Ru.NilC v) (hn' : Ru.NilC u) : KVar w [⟨w.heap.size + 1, B, u⟩, ⟨w.heap.size, A, v⟩] ((w.alloc (.cells #[.int .i64 A.k, .int .i64 A.r, .int .i64 A.a, .int .i64 A.b, v] 25)).alloc (.cells #[.int .i64 B.k, .int .i64 B.r, .int .i64 B.a, .int .i64 B.b, u] 25)) := by
  have h := ((KVar.start w hw).arg A hv hn).arg B hu hn'
  have e : (w.alloc (.cells #[.int .i64 A.k, .int .i64 A.r, .int .i64 A.a, .int .i64 A.b, v] 25)).heap.size = w.heap.size + 1 := by simp
  rw [e] at h
  exact h
set_option maxRecDepth 100000 in
set_option maxHeartbeats 16000000 in
theorem lawOnes_any (p : Int) (A : Ar) (v : Value) (w : World) (hw : Ru.Lay w) (hv : RdI w.heap.size w v A.z) (hn : Ru.NilC v) (h64 : in64 A.z) (haw : ∀ W, Ru.Lay W → Calls Tryd.prog 12 #[] W fun e w' => e = .returned (.bool true) ∧ Below W.heap.size W w') :
    Calls Tryd.prog 3 #[.int .i64 p, A5 A.k A.r A.a A.b v] w fun e w' => e = .returned (.bool true) ∧ Below w.heap.size w w' := by
  have HF := Lib.hid (fun W h => far7_any A v W h)
  have HAw := Lib.hid haw
  clear haw
  have HK := Lib.hid ((KVar.start w hw).arg A hv hn)
  have HI := Lib.hid h64
  obtain ⟨q, cap, rfl, hv1, hv2, hv3⟩ := hv
  clear hw hn hv1 hv2 hv3 h64
  have x0 := (HK.out.a _ (.head _)).c0
  have x1 := (HK.out.a _ (.head _)).c1
  have x2 := (HK.out.a _ (.head _)).c2
  have x3 := (HK.out.a _ (.head _)).c3
  have x4 := (HK.out.a _ (.head _)).c4
  by_cases hf : 405 < A.z.length
  · rw [decide_eq_true hf] at HF
    clear hf
    go_enter Tryd.func3, Tryd.ntmps3
    go_wp2_with (first
      | (go_at_call 11; (with_reducible refine (HF.out _ (by with_unfolding_all exact HK.out.r _ (.head _))).mono ?_); rintro e wz ⟨rfl, hb⟩; have HK2 := Lib.hid (HK.out.next hb); clear HK x0 x1 x2 x3 x4; have HK := HK2; clear HK2; clear hb; have x0 := (HK.out.a _ (.head _)).c0; have x1 := (HK.out.a _ (.head _)).c1; have x2 := (HK.out.a _ (.head _)).c2; have x3 := (HK.out.a _ (.head _)).c3; have x4 := (HK.out.a _ (.head _)).c4)
      | (go_at_call 12; (with_reducible refine (HAw.out _ (by with_unfolding_all exact HK.out.lay)).mono ?_); rintro e wz ⟨rfl, hb⟩; have HK2 := Lib.hid (HK.out.next hb); clear HK x0 x1 x2 x3 x4; have HK := HK2; clear HK2; clear hb; have x0 := (HK.out.a _ (.head _)).c0; have x1 := (HK.out.a _ (.head _)).c1; have x2 := (HK.out.a _ (.head _)).c2; have x3 := (HK.out.a _ (.head _)).c3; have x4 := (HK.out.a _ (.head _)).c4))
    go_ret
    exact ⟨rfl, HK.out.bel⟩
  · rw [decide_eq_false hf] at HF
    have hl : A.z.length ≤ 100000 := by omega
    have hl1 : (onV p A).z.length ≤ 1000000 := Nat.le_trans (onV_len p A) (by omega)
    have HT1 := Lib.hid (fun W h0 h1 => eone_any p A (.slice q A.z.length cap) W h0 h1 (by omega) HI.out)
    have HT2 := Lib.hid (fun W h0 h1 => rone10_any p A (.slice q A.z.length cap) W h0 h1 hl HI.out)
    generalize onV p A = M at HT1 HT2 hl1
    generalize onE p A = E1 at HT1 HT2
    obtain ⟨m1, m2, m3, m4, m5⟩ := M
    simp only at hl1
    have HS1 := Lib.hid (fun v u W h1 h2 => alike_lit10 m1 m2 m3 m4 m5 E1 v u W h1 h2 hl1)
    clear hf hl hl1 HI
    go_enter Tryd.func3, Tryd.ntmps3
    go_wp2_with (first
      | (go_at_call 11; (with_reducible refine (HF.out _ (by with_unfolding_all exact HK.out.r _ (.head _))).mono ?_); rintro e wz ⟨rfl, hb⟩; have HK2 := Lib.hid (HK.out.next hb); clear HK x0 x1 x2 x3 x4; have HK := HK2; clear HK2; clear hb; have x0 := (HK.out.a _ (.head _)).c0; have x1 := (HK.out.a _ (.head _)).c1; have x2 := (HK.out.a _ (.head _)).c2; have x3 := (HK.out.a _ (.head _)).c3; have x4 := (HK.out.a _ (.head _)).c4)
      | (go_at_call 13; (with_reducible refine (HT1.out _ (by with_unfolding_all exact HK.out.lay) (by with_unfolding_all exact HK.out.r _ (.head _))).mono ?_); rintro e wa ⟨uwa, rfl, hu, hb⟩; obtain ⟨pwa, cwa, hpwa, _, _⟩ := hu.form; have hqwa : uwa = (.slice pwa m5.length cwa) := hpwa; subst hqwa; clear hpwa; have hltxr : w.heap.size < wa.heap.size := Nat.lt_of_lt_of_le (HK.out.lt _ (.head _)) hb.size; have HK2 := Lib.hid (HK.out.res hb ⟨m1, m2, m3, m4, m5⟩ hu); clear HK x0 x1 x2 x3 x4; have HK := HK2; clear HK2; clear hb hu; have x0 := (HK.out.a _ (.tail _ (.head _))).c0; have x1 := (HK.out.a _ (.tail _ (.head _))).c1; have x2 := (HK.out.a _ (.tail _ (.head _))).c2; have x3 := (HK.out.a _ (.tail _ (.head _))).c3; have x4 := (HK.out.a _ (.tail _ (.head _))).c4; have r0 := (HK.out.a _ (.head _)).c0; have r1 := (HK.out.a _ (.head _)).c1; have r2 := (HK.out.a _ (.head _)).c2; have r3 := (HK.out.a _ (.head _)).c3; have r4 := (HK.out.a _ (.head _)).c4)
      | (go_at_call 14; (with_reducible refine (HT2.out _ (by with_unfolding_all exact HK.out.lay) (by with_unfolding_all exact HK.out.r _ (.tail _ (.head _)))).mono ?_); rintro e wb ⟨uwb, rfl, hu, hb⟩; obtain ⟨pwb, cwb, hpwb, _, _⟩ := hu.form; have hqwb : uwb = (.slice pwb m5.length cwb) := hpwb; subst hqwb; clear hpwb; have hltrs : wa.heap.size < wb.heap.size := Nat.lt_of_lt_of_le (HK.out.lt _ (.head _)) hb.size; have hltxs : w.heap.size < wb.heap.size := Nat.lt_of_lt_of_le (HK.out.lt _ (.tail _ (.head _))) hb.size; have HK2 := Lib.hid (HK.out.res hb ⟨m1, m2, m3, m4, m5⟩ hu); clear HK x0 x1 x2 x3 x4 r0 r1 r2 r3 r4; have HK := HK2; clear HK2; clear hb hu; have x0 := (HK.out.a _ (.tail _ (.tail _ (.head _)))).c0; have x1 := (HK.out.a _ (.tail _ (.tail _ (.head _)))).c1; have x2 := (HK.out.a _ (.tail _ (.tail _ (.head _)))).c2; have x3 := (HK.out.a _ (.tail _ (.tail _ (.head _)))).c3; have x4 := (HK.out.a _ (.tail _ (.tail _ (.head _)))).c4; have r0 := (HK.out.a _ (.tail _ (.head _))).c0; have r1 := (HK.out.a _ (.tail _ (.head _))).c1; have r2 := (HK.out.a _ (.tail _ (.head _))).c2; have r3 := (HK.out.a _ (.tail _ (.head _))).c3; have r4 := (HK.out.a _ (.tail _ (.head _))).c4; have s0 := (HK.out.a _ (.head _)).c0; have s1 := (HK.out.a _ (.head _)).c1; have s2 := (HK.out.a _ (.head _)).c2; have s3 := (HK.out.a _ (.head _)).c3; have s4 := (HK.out.a _ (.head _)).c4)
      | (go_at_call 15; (with_reducible refine (HS1.out _ _ _ (by with_unfolding_all exact HK.out.r _ (.tail _ (.head _))) (by with_unfolding_all exact HK.out.r _ (.head _))).mono ?_); rintro e wz ⟨rfl, hb⟩; have HK2 := Lib.hid (HK.out.next hb); clear HK x0 x1 x2 x3 x4 r0 r1 r2 r3 r4 s0 s1 s2 s3 s4; have HK := HK2; clear HK2; clear hb; have x0 := (HK.out.a _ (.tail _ (.tail _ (.head _)))).c0; have x1 := (HK.out.a _ (.tail _ (.tail _ (.head _)))).c1; have x2 := (HK.out.a _ (.tail _ (.tail _ (.head _)))).c2; have x3 := (HK.out.a _ (.tail _ (.tail _ (.head _)))).c3; have x4 := (HK.out.a _ (.tail _ (.tail _ (.head _)))).c4; have r0 := (HK.out.a _ (.tail _ (.head _))).c0; have r1 := (HK.out.a _ (.tail _ (.head _))).c1; have r2 := (HK.out.a _ (.tail _ (.head _))).c2; have r3 := (HK.out.a _ (.tail _ (.head _))).c3; have r4 := (HK.out.a _ (.tail _ (.head _))).c4; have s0 := (HK.out.a _ (.head _)).c0; have s1 := (HK.out.a _ (.head _)).c1; have s2 := (HK.out.a _ (.head _)).c2; have s3 := (HK.out.a _ (.head _)).c3; have s4 := (HK.out.a _ (.head _)).c4)
      | (go_at_call 12; (with_reducible refine (HAw.out _ (by with_unfolding_all exact HK.out.lay)).mono ?_); rintro e wz ⟨rfl, hb⟩; have HK2 := Lib.hid (HK.out.next hb); clear HK x0 x1 x2 x3 x4 r0 r1 r2 r3 r4 s0 s1 s2 s3 s4; have HK := HK2; clear HK2; clear hb; have x0 := (HK.out.a _ (.tail _ (.tail _ (.head _)))).c0; have x1 := (HK.out.a _ (.tail _ (.tail _ (.head _)))).c1; have x2 := (HK.out.a _ (.tail _ (.tail _ (.head _)))).c2; have x3 := (HK.out.a _ (.tail _ (.tail _ (.head _)))).c3; have x4 := (HK.out.a _ (.tail _ (.tail _ (.head _)))).c4; have r0 := (HK.out.a _ (.tail _ (.head _))).c0; have r1 := (HK.out.a _ (.tail _ (.head _))).c1; have r2 := (HK.out.a _ (.tail _ (.head _))).c2; have r3 := (HK.out.a _ (.tail _ (.head _))).c3; have r4 := (HK.out.a _ (.tail _ (.head _))).c4; have s0 := (HK.out.a _ (.head _)).c0; have s1 := (HK.out.a _ (.head _)).c1; have s2 := (HK.out.a _ (.head _)).c2; have s3 := (HK.out.a _ (.head _)).c3; have s4 := (HK.out.a _ (.head _)).c4))
    go_ret
    exact ⟨rfl, HK.out.bel⟩
set_option maxRecDepth 100000 in
set_option maxHeartbeats 16000000 in
theorem lawTwos_any (p : Int) (A B : Ar) (v u : Value) (w : World) (hw : Ru.Lay w) (hv : RdI w.heap.size w v A.z) (hu : RdI w.heap.size w u B.z) (hn : Ru.NilC v) (hn' : Ru.NilC u) (h64 : in64 A.z) (h64' : in64 B.z) (haw : ∀ W, Ru.Lay W → Calls Tryd.prog 12 #[] W fun e w' => e = .returned (.bool true) ∧ Below W.heap.size W w') :
    Calls Tryd.prog 4 #[.int .i64 p, A5 A.k A.r A.a A.b v, A5 B.k B.r B.a B.b u] w fun e w' => e = .returned (.bool true) ∧ Below w.heap.size w w' := by
  have HF1 := Lib.hid (fun W h => far7_any A v W h)
  have HF2 := Lib.hid (fun W h => far7_any B u W h)
  have HAw := Lib.hid haw
  clear haw
  have HK := Lib.hid (KVar.two hw hv hu hn hn')
  have HI := Lib.hid h64
  have HJ := Lib.hid h64'
  obtain ⟨q, cap, rfl, hv1, hv2, hv3⟩ := hv
  obtain ⟨q', cap', rfl, hu1, hu2, hu3⟩ := hu
  clear hw hn hn' hv1 hv2 hv3 hu1 hu2 hu3 h64 h64'
  have x0 := (HK.out.a _ (.tail _ (.head _))).c0
  have x1 := (HK.out.a _ (.tail _ (.head _))).c1
  have x2 := (HK.out.a _ (.tail _ (.head _))).c2
  have x3 := (HK.out.a _ (.tail _ (.head _))).c3
  have x4 := (HK.out.a _ (.tail _ (.head _))).c4
  have y0 := (HK.out.a _ (.head _)).c0
  have y1 := (HK.out.a _ (.head _)).c1
  have y2 := (HK.out.a _ (.head _)).c2
  have y3 := (HK.out.a _ (.head _)).c3
  have y4 := (HK.out.a _ (.head _)).c4
  by_cases hf : 405 < A.z.length
  · rw [decide_eq_true hf] at HF1
    clear hf
    go_enter Tryd.func4, Tryd.ntmps4
    go_wp2_with (first
      | (go_at_call 11; (with_reducible refine (HF1.out _ (by with_unfolding_all exact HK.out.r _ (.tail _ (.head _)))).mono ?_); rintro e wz ⟨rfl, hb⟩; have HK2 := Lib.hid (HK.out.next hb); clear HK x0 x1 x2 x3 x4 y0 y1 y2 y3 y4; have HK := HK2; clear HK2; clear hb; have x0 := (HK.out.a _ (.tail _ (.head _))).c0; have x1 := (HK.out.a _ (.tail _ (.head _))).c1; have x2 := (HK.out.a _ (.tail _ (.head _))).c2; have x3 := (HK.out.a _ (.tail _ (.head _))).c3; have x4 := (HK.out.a _ (.tail _ (.head _))).c4; have y0 := (HK.out.a _ (.head _)).c0; have y1 := (HK.out.a _ (.head _)).c1; have y2 := (HK.out.a _ (.head _)).c2; have y3 := (HK.out.a _ (.head _)).c3; have y4 := (HK.out.a _ (.head _)).c4)
      | (go_at_call 12; (with_reducible refine (HAw.out _ (by with_unfolding_all exact HK.out.lay)).mono ?_); rintro e wz ⟨rfl, hb⟩; have HK2 := Lib.hid (HK.out.next hb); clear HK x0 x1 x2 x3 x4 y0 y1 y2 y3 y4; have HK := HK2; clear HK2; clear hb; have x0 := (HK.out.a _ (.tail _ (.head _))).c0; have x1 := (HK.out.a _ (.tail _ (.head _))).c1; have x2 := (HK.out.a _ (.tail _ (.head _))).c2; have x3 := (HK.out.a _ (.tail _ (.head _))).c3; have x4 := (HK.out.a _ (.tail _ (.head _))).c4; have y0 := (HK.out.a _ (.head _)).c0; have y1 := (HK.out.a _ (.head _)).c1; have y2 := (HK.out.a _ (.head _)).c2; have y3 := (HK.out.a _ (.head _)).c3; have y4 := (HK.out.a _ (.head _)).c4))
    go_ret
    exact ⟨rfl, HK.out.bel⟩
  · by_cases hg : 405 < B.z.length
    · rw [decide_eq_false hf] at HF1
      rw [decide_eq_true hg] at HF2
      clear hf hg
      go_enter Tryd.func4, Tryd.ntmps4
      go_wp2_with (first
        | (go_at_call 11; (with_reducible refine (HF1.out _ (by with_unfolding_all exact HK.out.r _ (.tail _ (.head _)))).mono ?_); rintro e wz ⟨rfl, hb⟩; have HK2 := Lib.hid (HK.out.next hb); clear HK x0 x1 x2 x3 x4 y0 y1 y2 y3 y4; have HK := HK2; clear HK2; clear hb; have x0 := (HK.out.a _ (.tail _ (.head _))).c0; have x1 := (HK.out.a _ (.tail _ (.head _))).c1; have x2 := (HK.out.a _ (.tail _ (.head _))).c2; have x3 := (HK.out.a _ (.tail _ (.head _))).c3; have x4 := (HK.out.a _ (.tail _ (.head _))).c4; have y0 := (HK.out.a _ (.head _)).c0; have y1 := (HK.out.a _ (.head _)).c1; have y2 := (HK.out.a _ (.head _)).c2; have y3 := (HK.out.a _ (.head _)).c3; have y4 := (HK.out.a _ (.head _)).c4)
        | (go_at_call 11; (with_reducible refine (HF2.out _ (by with_unfolding_all exact HK.out.r _ (.head _))).mono ?_); rintro e wz ⟨rfl, hb⟩; have HK2 := Lib.hid (HK.out.next hb); clear HK x0 x1 x2 x3 x4 y0 y1 y2 y3 y4; have HK := HK2; clear HK2; clear hb; have x0 := (HK.out.a _ (.tail _ (.head _))).c0; have x1 := (HK.out.a _ (.tail _ (.head _))).c1; have x2 := (HK.out.a _ (.tail _ (.head _))).c2; have x3 := (HK.out.a _ (.tail _ (.head _))).c3; have x4 := (HK.out.a _ (.tail _ (.head _))).c4; have y0 := (HK.out.a _ (.head _)).c0; have y1 := (HK.out.a _ (.head _)).c1; have y2 := (HK.out.a _ (.head _)).c2; have y3 := (HK.out.a _ (.head _)).c3; have y4 := (HK.out.a _ (.head _)).c4)
        | (go_at_call 12; (with_reducible refine (HAw.out _ (by with_unfolding_all exact HK.out.lay)).mono ?_); rintro e wz ⟨rfl, hb⟩; have HK2 := Lib.hid (HK.out.next hb); clear HK x0 x1 x2 x3 x4 y0 y1 y2 y3 y4; have HK := HK2; clear HK2; clear hb; have x0 := (HK.out.a _ (.tail _ (.head _))).c0; have x1 := (HK.out.a _ (.tail _ (.head _))).c1; have x2 := (HK.out.a _ (.tail _ (.head _))).c2; have x3 := (HK.out.a _ (.tail _ (.head _))).c3; have x4 := (HK.out.a _ (.tail _ (.head _))).c4; have y0 := (HK.out.a _ (.head _)).c0; have y1 := (HK.out.a _ (.head _)).c1; have y2 := (HK.out.a _ (.head _)).c2; have y3 := (HK.out.a _ (.head _)).c3; have y4 := (HK.out.a _ (.head _)).c4))
      go_ret
      exact ⟨rfl, HK.out.bel⟩
    · rw [decide_eq_false hf] at HF1
      rw [decide_eq_false hg] at HF2
      have hl1 : (twV p A B).z.length ≤ 1000000 := Nat.le_trans (twV_len p A B) (by omega)
      have HT1 := Lib.hid (fun W h0 h1 h2 => etwo_any p A B (.slice q A.z.length cap) (.slice q' B.z.length cap') W h0 h1 h2 (by omega) (by omega) HI.out HJ.out)
      have HT2 := Lib.hid (fun W h0 h1 h2 => rtwo10_any p A B (.slice q A.z.length cap) (.slice q' B.z.length cap') W h0 h1 h2 (by omega) (by omega) HI.out HJ.out)
      have HL1 := Lib.hid (fun W h0 h1 h2 => elens_any A B (.slice q A.z.length cap) (.slice q' B.z.length cap') W h0 h1 h2 (by omega) (by omega))
      have HL2 := Lib.hid (fun W h0 h1 h2 => rlens10_any A B (.slice q A.z.length cap) (.slice q' B.z.length cap') W h0 h1 h2 (by omega) (by omega))
      have HQ := fun W => eq2t10 (lnA A B) (lnB A B) W
      generalize twV p A B = M at HT1 HT2 hl1
      generalize twE p A B = E1 at HT1 HT2
      generalize lnR A B = nn1 at HL1 HL2
      generalize lnA A B = nn2 at HL1 HL2 HQ
      generalize lnB A B = nn3 at HL1 HL2 HQ
      generalize lnF A B = nn4 at HL1 HL2
      obtain ⟨m1, m2, m3, m4, m5⟩ := M
      simp only at hl1
      have HS1 := Lib.hid (fun v u W h1 h2 => alike_lit10 m1 m2 m3 m4 m5 E1 v u W h1 h2 hl1)
      clear hf hg hl1 HI HJ
      go_enter Tryd.func4, Tryd.ntmps4
      go_wp2_with (first
        | (go_at_call 11; (with_reducible refine (HF1.out _ (by with_unfolding_all exact HK.out.r _ (.tail _ (.head _)))).mono ?_); rintro e wz ⟨rfl, hb⟩; have HK2 := Lib.hid (HK.out.next hb); clear HK x0 x1 x2 x3 x4 y0 y1 y2 y3 y4; have HK := HK2; clear HK2; clear hb; have x0 := (HK.out.a _ (.tail _ (.head _))).c0; have x1 := (HK.out.a _ (.tail _ (.head _))).c1; have x2 := (HK.out.a _ (.tail _ (.head _))).c2; have x3 := (HK.out.a _ (.tail _ (.head _))).c3; have x4 := (HK.out.a _ (.tail _ (.head _))).c4; have y0 := (HK.out.a _ (.head _)).c0; have y1 := (HK.out.a _ (.head _)).c1; have y2 := (HK.out.a _ (.head _)).c2; have y3 := (HK.out.a _ (.head _)).c3; have y4 := (HK.out.a _ (.head _)).c4)
        | (go_at_call 11; (with_reducible refine (HF2.out _ (by with_unfolding_all exact HK.out.r _ (.head _))).mono ?_); rintro e wz ⟨rfl, hb⟩; have HK2 := Lib.hid (HK.out.next hb); clear HK x0 x1 x2 x3 x4 y0 y1 y2 y3 y4; have HK := HK2; clear HK2; clear hb; have x0 := (HK.out.a _ (.tail _ (.head _))).c0; have x1 := (HK.out.a _ (.tail _ (.head _))).c1; have x2 := (HK.out.a _ (.tail _ (.head _))).c2; have x3 := (HK.out.a _ (.tail _ (.head _))).c3; have x4 := (HK.out.a _ (.tail _ (.head _))).c4; have y0 := (HK.out.a _ (.head _)).c0; have y1 := (HK.out.a _ (.head _)).c1; have y2 := (HK.out.a _ (.head _)).c2; have y3 := (HK.out.a _ (.head _)).c3; have y4 := (HK.out.a _ (.head _)).c4)
        | (go_at_call 16; (with_reducible refine (HT1.out _ (by with_unfolding_all exact HK.out.lay) (by with_unfolding_all exact HK.out.r _ (.tail _ (.head _))) (by with_unfolding_all exact HK.out.r _ (.head _))).mono ?_); rintro e wa ⟨uwa, rfl, hu, hb⟩; obtain ⟨pwa, cwa, hpwa, _, _⟩ := hu.form; have hqwa : uwa = (.slice pwa m5.length cwa) := hpwa; subst hqwa; clear hpwa; have hltyr : (w.heap.size + 1) < wa.heap.size := Nat.lt_of_lt_of_le (HK.out.lt _ (.head _)) hb.size; have hltxr : w.heap.size < wa.heap.size := Nat.lt_of_lt_of_le (HK.out.lt _ (.tail _ (.head _))) hb.size; have HK2 := Lib.hid (HK.out.res hb ⟨m1, m2, m3, m4, m5⟩ hu); clear HK x0 x1 x2 x3 x4 y0 y1 y2 y3 y4; have HK := HK2; clear HK2; clear hb hu; have x0 := (HK.out.a _ (.tail _ (.tail _ (.head _)))).c0; have x1 := (HK.out.a _ (.tail _ (.tail _ (.head _)))).c1; have x2 := (HK.out.a _ (.tail _ (.tail _ (.head _)))).c2; have x3 := (HK.out.a _ (.tail _ (.tail _ (.head _)))).c3; have x4 := (HK.out.a _ (.tail _ (.tail _ (.head _)))).c4; have y0 := (HK.out.a _ (.tail _ (.head _))).c0; have y1 := (HK.out.a _ (.tail _ (.head _))).c1; have y2 := (HK.out.a _ (.tail _ (.head _))).c2; have y3 := (HK.out.a _ (.tail _ (.head _))).c3; have y4 := (HK.out.a _ (.tail _ (.head _))).c4; have r0 := (HK.out.a _ (.head _)).c0; have r1 := (HK.out.a _ (.head _)).c1; have r2 := (HK.out.a _ (.head _)).c2; have r3 := (HK.out.a _ (.head _)).c3; have r4 := (HK.out.a _ (.head _)).c4)
        | (go_at_call 17; (with_reducible refine (HT2.out _ (by with_unfolding_all exact HK.out.lay) (by with_unfolding_all exact HK.out.r _ (.tail _ (.tail _ (.head _)))) (by with_unfolding_all exact HK.out.r _ (.tail _ (.head _)))).mono ?_); rintro e wb ⟨uwb, rfl, hu, hb⟩; obtain ⟨pwb, cwb, hpwb, _, _⟩ := hu.form; have hqwb : uwb = (.slice pwb m5.length cwb) := hpwb; subst hqwb; clear hpwb; have hltrs : wa.heap.size < wb.heap.size := Nat.lt_of_lt_of_le (HK.out.lt _ (.head _)) hb.size; have hltys : (w.heap.size + 1) < wb.heap.size := Nat.lt_of_lt_of_le (HK.out.lt _ (.tail _ (.head _))) hb.size; have hltxs : w.heap.size < wb.heap.size := Nat.lt_of_lt_of_le (HK.out.lt _ (.tail _ (.tail _ (.head _)))) hb.size; have HK2 := Lib.hid (HK.out.res hb ⟨m1, m2, m3, m4, m5⟩ hu); clear HK x0 x1 x2 x3 x4 y0 y1 y2 y3 y4 r0 r1 r2 r3 r4; have HK := HK2; clear HK2; clear hb hu; have x0 := (HK.out.a _ (.tail _ (.tail _ (.tail _ (.head _))))).c0; have x1 := (HK.out.a _ (.tail _ (.tail _ (.tail _ (.head _))))).c1; have x2 := (HK.out.a _ (.tail _ (.tail _ (.tail _ (.head _))))).c2; have x3 := (HK.out.a _ (.tail _ (.tail _ (.tail _ (.head _))))).c3; have x4 := (HK.out.a _ (.tail _ (.tail _ (.tail _ (.head _))))).c4; have y0 := (HK.out.a _ (.tail _ (.tail _ (.head _)))).c0; have y1 := (HK.out.a _ (.tail _ (.tail _ (.head _)))).c1; have y2 := (HK.out.a _ (.tail _ (.tail _ (.head _)))).c2; have y3 := (HK.out.a _ (.tail _ (.tail _ (.head _)))).c3; have y4 := (HK.out.a _ (.tail _ (.tail _ (.head _)))).c4; have r0 := (HK.out.a _ (.tail _ (.head _))).c0; have r1 := (HK.out.a _ (.tail _ (.head _))).c1; have r2 := (HK.out.a _ (.tail _ (.head _))).c2; have r3 := (HK.out.a _ (.tail _ (.head _))).c3; have r4 := (HK.out.a _ (.tail _ (.head _))).c4; have s0 := (HK.out.a _ (.head _)).c0; have s1 := (HK.out.a _ (.head _)).c1; have s2 := (HK.out.a _ (.head _)).c2; have s3 := (HK.out.a _ (.head _)).c3; have s4 := (HK.out.a _ (.head _)).c4)
        | (go_at_call 18; (with_reducible refine (HL1.out _ (by with_unfolding_all exact HK.out.lay) (by with_unfolding_all exact HK.out.r _ (.tail _ (.tail _ (.tail _ (.head _))))) (by with_unfolding_all exact HK.out.r _ (.tail _ (.tail _ (.head _))))).mono ?_); rintro e wc ⟨rfl, hb⟩; have HK2 := Lib.hid ((HK.out.next hb).next (bel1 _ (.cells #[.int .i64 nn2, .int .i64 nn3] 22))); clear HK x0 x1 x2 x3 x4 y0 y1 y2 y3 y4 r0 r1 r2 r3 r4 s0 s1 s2 s3 s4; have HK := HK2; clear HK2; clear hb; have HB1 := Lib.hid (R2.new wc nn2 nn3); have x0 := (HK.out.a _ (.tail _ (.tail _ (.tail _ (.head _))))).c0; have x1 := (HK.out.a _ (.tail _ (.tail _ (.tail _ (.head _))))).c1; have x2 := (HK.out.a _ (.tail _ (.tail _ (.tail _ (.head _))))).c2; have x3 := (HK.out.a _ (.tail _ (.tail _ (.tail _ (.head _))))).c3; have x4 := (HK.out.a _ (.tail _ (.tail _ (.tail _ (.head _))))).c4; have y0 := (HK.out.a _ (.tail _ (.tail _ (.head _)))).c0; have y1 := (HK.out.a _ (.tail _ (.tail _ (.head _)))).c1; have y2 := (HK.out.a _ (.tail _ (.tail _ (.head _)))).c2; have y3 := (HK.out.a _ (.tail _ (.tail _ (.head _)))).c3; have y4 := (HK.out.a _ (.tail _ (.tail _ (.head _)))).c4; have r0 := (HK.out.a _ (.tail _ (.head _))).c0; have r1 := (HK.out.a _ (.tail _ (.head _))).c1; have r2 := (HK.out.a _ (.tail _ (.head _))).c2; have r3 := (HK.out.a _ (.tail _ (.head _))).c3; have r4 := (HK.out.a _ (.tail _ (.head _))).c4; have s0 := (HK.out.a _ (.head _)).c0; have s1 := (HK.out.a _ (.head _)).c1; have s2 := (HK.out.a _ (.head _)).c2; have s3 := (HK.out.a _ (.head _)).c3; have s4 := (HK.out.a _ (.head _)).c4)
        | (go_at_call 19; (with_reducible refine (HL2.out _ (by with_unfolding_all exact HK.out.lay) (by with_unfolding_all exact HK.out.r _ (.tail _ (.tail _ (.tail _ (.head _))))) (by with_unfolding_all exact HK.out.r _ (.tail _ (.tail _ (.head _))))).mono ?_); rintro e wd ⟨rfl, hb⟩; have HK2 := Lib.hid ((HK.out.next hb).next (bel1 _ (.cells #[.int .i64 nn2, .int .i64 nn3] 22))); clear HK x0 x1 x2 x3 x4 y0 y1 y2 y3 y4 r0 r1 r2 r3 r4 s0 s1 s2 s3 s4; have HK := HK2; clear HK2; have HB1' := Lib.hid ((HB1.out.next hb).next (bel1 _ (.cells #[.int .i64 nn2, .int .i64 nn3] 22))); clear HB1; clear hb; have HB2 := Lib.hid (R2.new wd nn2 nn3); have x0 := (HK.out.a _ (.tail _ (.tail _ (.tail _ (.head _))))).c0; have x1 := (HK.out.a _ (.tail _ (.tail _ (.tail _ (.head _))))).c1; have x2 := (HK.out.a _ (.tail _ (.tail _ (.tail _ (.head _))))).c2; have x3 := (HK.out.a _ (.tail _ (.tail _ (.tail _ (.head _))))).c3; have x4 := (HK.out.a _ (.tail _ (.tail _ (.tail _ (.head _))))).c4; have y0 := (HK.out.a _ (.tail _ (.tail _ (.head _)))).c0; have y1 := (HK.out.a _ (.tail _ (.tail _ (.head _)))).c1; have y2 := (HK.out.a _ (.tail _ (.tail _ (.head _)))).c2; have y3 := (HK.out.a _ (.tail _ (.tail _ (.head _)))).c3; have y4 := (HK.out.a _ (.tail _ (.tail _ (.head _)))).c4; have r0 := (HK.out.a _ (.tail _ (.head _))).c0; have r1 := (HK.out.a _ (.tail _ (.head _))).c1; have r2 := (HK.out.a _ (.tail _ (.head _))).c2; have r3 := (HK.out.a _ (.tail _ (.head _))).c3; have r4 := (HK.out.a _ (.tail _ (.head _))).c4; have s0 := (HK.out.a _ (.head _)).c0; have s1 := (HK.out.a _ (.head _)).c1; have s2 := (HK.out.a _ (.head _)).c2; have s3 := (HK.out.a _ (.head _)).c3; have s4 := (HK.out.a _ (.head _)).c4)
        | (go_at_call 15; (with_reducible refine (HS1.out _ _ _ (by with_unfolding_all exact HK.out.r _ (.tail _ (.head _))) (by with_unfolding_all exact HK.out.r _ (.head _))).mono ?_); rintro e we ⟨rfl, hb⟩; have b0 := (HB1'.out.next hb).c0; have b1 := (HB1'.out.next hb).c1; have b2 := (HB2.out.next hb).c0; have b3 := (HB2.out.next hb).c1; have HK2 := Lib.hid (HK.out.next hb); clear HK x0 x1 x2 x3 x4 y0 y1 y2 y3 y4 r0 r1 r2 r3 r4 s0 s1 s2 s3 s4; have HK := HK2; clear HK2; clear hb; have x0 := (HK.out.a _ (.tail _ (.tail _ (.tail _ (.head _))))).c0; have x1 := (HK.out.a _ (.tail _ (.tail _ (.tail _ (.head _))))).c1; have x2 := (HK.out.a _ (.tail _ (.tail _ (.tail _ (.head _))))).c2; have x3 := (HK.out.a _ (.tail _ (.tail _ (.tail _ (.head _))))).c3; have x4 := (HK.out.a _ (.tail _ (.tail _ (.tail _ (.head _))))).c4; have y0 := (HK.out.a _ (.tail _ (.tail _ (.head _)))).c0; have y1 := (HK.out.a _ (.tail _ (.tail _ (.head _)))).c1; have y2 := (HK.out.a _ (.tail _ (.tail _ (.head _)))).c2; have y3 := (HK.out.a _ (.tail _ (.tail _ (.head _)))).c3; have y4 := (HK.out.a _ (.tail _ (.tail _ (.head _)))).c4; have r0 := (HK.out.a _ (.tail _ (.head _))).c0; have r1 := (HK.out.a _ (.tail _ (.head _))).c1; have r2 := (HK.out.a _ (.tail _ (.head _))).c2; have r3 := (HK.out.a _ (.tail _ (.head _))).c3; have r4 := (HK.out.a _ (.tail _ (.head _))).c4; have s0 := (HK.out.a _ (.head _)).c0; have s1 := (HK.out.a _ (.head _)).c1; have s2 := (HK.out.a _ (.head _)).c2; have s3 := (HK.out.a _ (.head _)).c3; have s4 := (HK.out.a _ (.head _)).c4)
        | (go_at_call 12; (with_reducible refine (HAw.out _ (by with_unfolding_all exact HK.out.lay)).mono ?_); rintro e wz ⟨rfl, hb⟩; have HK2 := Lib.hid (HK.out.next hb); clear HK x0 x1 x2 x3 x4 y0 y1 y2 y3 y4 r0 r1 r2 r3 r4 s0 s1 s2 s3 s4; have HK := HK2; clear HK2; clear hb; have x0 := (HK.out.a _ (.tail _ (.tail _ (.tail _ (.head _))))).c0; have x1 := (HK.out.a _ (.tail _ (.tail _ (.tail _ (.head _))))).c1; have x2 := (HK.out.a _ (.tail _ (.tail _ (.tail _ (.head _))))).c2; have x3 := (HK.out.a _ (.tail _ (.tail _ (.tail _ (.head _))))).c3; have x4 := (HK.out.a _ (.tail _ (.tail _ (.tail _ (.head _))))).c4; have y0 := (HK.out.a _ (.tail _ (.tail _ (.head _)))).c0; have y1 := (HK.out.a _ (.tail _ (.tail _ (.head _)))).c1; have y2 := (HK.out.a _ (.tail _ (.tail _ (.head _)))).c2; have y3 := (HK.out.a _ (.tail _ (.tail _ (.head _)))).c3; have y4 := (HK.out.a _ (.tail _ (.tail _ (.head _)))).c4; have r0 := (HK.out.a _ (.tail _ (.head _))).c0; have r1 := (HK.out.a _ (.tail _ (.head _))).c1; have r2 := (HK.out.a _ (.tail _ (.head _))).c2; have r3 := (HK.out.a _ (.tail _ (.head _))).c3; have r4 := (HK.out.a _ (.tail _ (.head _))).c4; have s0 := (HK.out.a _ (.head _)).c0; have s1 := (HK.out.a _ (.head _)).c1; have s2 := (HK.out.a _ (.head _)).c2; have s3 := (HK.out.a _ (.head _)).c3; have s4 := (HK.out.a _ (.head _)).c4))
      go_ret
      exact ⟨rfl, HK.out.bel⟩
end Go.Proofs.YtmmnoldhiobgdaaDoor
