/- One, Two and Lens of the code. -/
import Derived.Test.YtpbfbejckhbijaaGreatDoorExD
import Derived.Deep.DeepCutAuto
namespace Go.Proofs.YtpbfbejckhbijaaGreatDoor
open Go.RowKit

/-- What One's walk keeps: the boxes of p, of the array, of the result. -/
structure KOn (w : World) (p : Int) (A : Ar) (v : Value) (W : World) : Prop where
  bel : Below w.heap.size w W
  pb : W.cell? ⟨w.heap.size, 0, none⟩ = some (.int .i64 p)
  box : R5 W (w.heap.size + 1) A.k A.r A.a A.b v
  res : R5 W (w.heap.size + 2) 0 0 0 0 (.slice none 0 0)
  rd : RdI W.heap.size W v A.z
  lay : Ru.Lay W
theorem KOn.next {w W W' : World} {p : Int} {A : Ar} {v : Value} (h : KOn w p A v W) (hb : Below W.heap.size W W') : KOn w p A v W' :=
  ⟨h.bel.trans (hb.mono h.bel.size), (hb.cell (p := ⟨w.heap.size, 0, none⟩) (World.block_lt_of_cell? W _ h.pb)).trans h.pb, h.box.next hb, h.res.next hb, h.rd.next hb, h.lay.next hb⟩
theorem KOn.new {w : World} {v : Value} {A : Ar} (p : Int) (hw : Ru.Lay w) (hv : RdI w.heap.size w v A.z) : KOn w p A v (((w.alloc (.cells #[.int .i64 p] 3)).alloc (.cells #[.int .i64 A.k, .int .i64 A.r, .int .i64 A.a, .int .i64 A.b, v] 43)).alloc (.cells #[.int .i64 0, .int .i64 0, .int .i64 0, .int .i64 0, .slice none 0 0] 43)) := by
  have h1 := bel1 w (.cells #[.int .i64 p] 3)
  have s1 : (w.alloc (.cells #[.int .i64 p] 3)).heap.size = w.heap.size + 1 := by simp
  have hp : (w.alloc (.cells #[.int .i64 p] 3)).cell? ⟨w.heap.size, 0, none⟩ = some (.int .i64 p) := by unfold World.cell?; rw [heap_alloc_last]; rfl
  generalize w.alloc (.cells #[.int .i64 p] 3) = w1 at h1 s1 hp ⊢
  have h2 := bel1 w1 (.cells #[.int .i64 A.k, .int .i64 A.r, .int .i64 A.a, .int .i64 A.b, v] 43)
  have s2 : (w1.alloc (.cells #[.int .i64 A.k, .int .i64 A.r, .int .i64 A.a, .int .i64 A.b, v] 43)).heap.size = w.heap.size + 2 := by simp [s1]
  have hb := R5.new w1 A.k A.r A.a A.b v
  rw [s1] at hb
  generalize w1.alloc (.cells #[.int .i64 A.k, .int .i64 A.r, .int .i64 A.a, .int .i64 A.b, v] 43) = w2 at h2 s2 hb ⊢
  have h3 := bel1 w2 (.cells #[.int .i64 0, .int .i64 0, .int .i64 0, .int .i64 0, .slice none 0 0] 43)
  have hr := R5.new w2 0 0 0 0 (.slice none 0 0)
  rw [s2] at hr
  have h12 := h1.trans (h2.mono h1.size)
  refine ⟨h12.trans (h3.mono h12.size), (h3.cell (p := ⟨w.heap.size, 0, none⟩) (by show w.heap.size < w2.heap.size; omega)).trans ((h2.cell (p := ⟨w.heap.size, 0, none⟩) (by show w.heap.size < w1.heap.size; omega)).trans hp), hb.next h3, hr, ((hv.next h1).next h2).next h3, ((hw.next h1).next h2).next h3⟩
theorem c1_some {p : Int} {A : Ar} {j : Nat} {c : Int × Int} (h : (c1 p A)[j]? = some c) : j < A.z.length ∧ c = Sc.oneV p (A.z.getD j 0) := by
  have hj : j < A.z.length := by
    rcases Nat.lt_or_ge j A.z.length with h' | h'
    · exact h'
    · rw [List.getElem?_eq_none (by rw [c1_len]; exact h')] at h; cases h
  rw [c1_at hj] at h
  exact ⟨hj, (Option.some.inj h).symm⟩
theorem c2_some {p : Int} {A B : Ar} {j : Nat} {c : Int × Int} (h : (c2 p A B)[j]? = some c) : j < (boV A B).z.length ∧ c = Sc.twoV p (celI A j) (celI B j) := by
  have hj : j < (boV A B).z.length := by
    rcases Nat.lt_or_ge j (boV A B).z.length with h' | h'
    · exact h'
    · rw [List.getElem?_eq_none (by rw [c2_len]; exact h')] at h; cases h
  rw [c2_at hj] at h
  exact ⟨hj, (Option.some.inj h).symm⟩
theorem one_arr {w W : World} {p : Int} {A : Ar} {v : Value} (K : KOn w p A v W) (hA : Good A) (h64 : in64 A.z) :
    Calls Tryz.prog 74 #[.agg #[.int .i64 A.k, .int .i64 A.r, .int .i64 A.a, .int .i64 A.b, v, .func (.func 71) #[] #[.pointer (some ⟨w.heap.size, 0, none⟩), .pointer (some ⟨w.heap.size + 1, 0, none⟩)]]] W (RetE (exV 0 A (c1 p A)) (feL (c1 p A)) W) := by
  refine earr1_any A v (c1 p A) w.heap.size (w.heap.size + 1) W K.lay hA (c1_len p A) K.rd ?_
  intro j W' c hc hb
  obtain ⟨hj, rfl⟩ := c1_some hc
  have K2 := K.next hb
  exact one1_any p A v w.heap.size (w.heap.size + 1) j W' K2.pb K2.box K2.rd hj h64
set_option maxRecDepth 100000 in
set_option maxHeartbeats 8000000 in
theorem eone_any (p : Int) (A : Ar) (v : Value) (w : World) (hw : Ru.Lay w) (hv : RdI w.heap.size w v A.z) (hl : A.z.length ≤ 1000000) (h64 : in64 A.z) :
    Calls Tryz.prog 41 #[.int .i64 p, A5 A.k A.r A.a A.b v] w (RetE (onV p A) (onE p A) w) := by
  have HAr := Lib.hid (fun W => Sc.arity_any p W)
  have HK := Lib.hid (KOn.new (A := A) p hw hv)
  have HFa := Lib.hid (fun kd W g hg h1 h2 => efault1_any kd A v W g hg h1 h2 hl)
  have HArr : Hid (∀ W, KOn w p A v W → Good A → Calls Tryz.prog 74 #[.agg #[.int .i64 A.k, .int .i64 A.r, .int .i64 A.a, .int .i64 A.b, v, .func (.func 71) #[] #[.pointer (some ⟨w.heap.size, 0, none⟩), .pointer (some ⟨w.heap.size + 1, 0, none⟩)]]] W (RetE (exV 0 A (c1 p A)) (feL (c1 p A)) W)) := fun W K hA => one_arr K hA h64
  obtain ⟨q, cap, rfl, _, _, _⟩ := hv
  clear hw h64
  have x0 := HK.out.box.c0; have x1 := HK.out.box.c1; have x2 := HK.out.box.c2; have x3 := HK.out.box.c3; have x4 := HK.out.box.c4; have px := HK.out.pb
  by_cases h1 : Sc.arV p ≠ 1
  · have e0 : onV p A = Ar.no := by unfold onV; rw [onF_two h1]; exact exV_no (by decide) _ _
    have e1 : onE p A = 2 := by unfold onE; rw [onF_two h1]; exact exE_bad (by decide) _
    rw [e0, e1]
    have k1 : (Sc.arV p != 1) = true := by simpa using h1
    generalize Sc.arV p = ar at HAr k1
    clear e0 e1 h1 HArr HFa
    go_enter Tryz.func41, Tryz.ntmps41
    go_wp2_with (first
      | (go_at_call 69; (with_reducible refine (HAr.out _).mono ?_); rintro e w1 ⟨rfl, hb⟩; have HK2 := Lib.hid (HK.out.next hb); clear HK x0 x1 x2 x3 x4 px; have HK := HK2; clear HK2; clear hb; have x0 := HK.out.box.c0; have x1 := HK.out.box.c1; have x2 := HK.out.box.c2; have x3 := HK.out.box.c3; have x4 := HK.out.box.c4; have px := HK.out.pb; have y0 := HK.out.res.c0; have y1 := HK.out.res.c1; have y2 := HK.out.res.c2; have y3 := HK.out.res.c3; have y4 := HK.out.res.c4; have f0 := HK.out.res.fr 0; have f1 := HK.out.res.fr 1; have f2 := HK.out.res.fr 2; have f3 := HK.out.res.fr 3; have f4 := HK.out.res.fr 4; have HS := Lib.hid (HK.out.res.set 0 0 0 0 (.slice none 0 0)); have z0 := HS.out.c0; have z1 := HS.out.c1; have z2 := HS.out.c2; have z3 := HS.out.c3; have z4 := HS.out.c4)
      | fail)
    refine bodyPost_ret (v := .tuple #[A5 0 0 0 0 (.slice none 0 0), .int .i64 2]) (by simp [results, Tryz.results41, go_sem, z0, z1, z2, z3, z4]) rfl ?_
    exact retE_no _ (st5_below _ _ _ _ _ (by omega) HK.out.bel)
  · have h1' : Sc.arV p = 1 := by omega
    have hF := onF_fa (p := p) (A := A) h1'
    rw [h1'] at HAr
    clear h1 h1'
    by_cases h2 : faV (A.k == 1) (ck A) ≠ 0
    · have e0 : onV p A = Ar.no := by unfold onV; rw [hF]; exact exV_no h2 _ _
      have e1 : onE p A = faV (A.k == 1) (ck A) := by unfold onE; rw [hF]; exact exE_bad h2 _
      rw [e0, e1]
      have HFa1 := Lib.hid (HFa.out (A.k == 1))
      generalize faV (A.k == 1) (ck A) = E at HFa1 h2
      have k1 : (E != 0) = true := by simpa using h2
      clear e0 e1 hF HFa HArr h2
      go_enter Tryz.func41, Tryz.ntmps41
      go_wp2_with (first
        | (go_at_call 69; (with_reducible refine (HAr.out _).mono ?_); rintro e w1 ⟨rfl, hb⟩; have HK2 := Lib.hid (HK.out.next hb); clear HK x0 x1 x2 x3 x4 px; have HK := HK2; clear HK2; clear hb; have x0 := HK.out.box.c0; have x1 := HK.out.box.c1; have x2 := HK.out.box.c2; have x3 := HK.out.box.c3; have x4 := HK.out.box.c4; have px := HK.out.pb)
        | (go_at_call 70; (with_reducible refine (HFa1.out _ _ (by first | rfl | simp) HK.out.lay HK.out.rd).mono ?_); rintro e w2 ⟨rfl, hb⟩; have HK2 := Lib.hid (HK.out.next hb); clear HK x0 x1 x2 x3 x4 px; have HK := HK2; clear HK2; clear hb; have x0 := HK.out.box.c0; have x1 := HK.out.box.c1; have x2 := HK.out.box.c2; have x3 := HK.out.box.c3; have x4 := HK.out.box.c4; have px := HK.out.pb; have y0 := HK.out.res.c0; have y1 := HK.out.res.c1; have y2 := HK.out.res.c2; have y3 := HK.out.res.c3; have y4 := HK.out.res.c4; have f0 := HK.out.res.fr 0; have f1 := HK.out.res.fr 1; have f2 := HK.out.res.fr 2; have f3 := HK.out.res.fr 3; have f4 := HK.out.res.fr 4; have HS := Lib.hid (HK.out.res.set 0 0 0 0 (.slice none 0 0)); have z0 := HS.out.c0; have z1 := HS.out.c1; have z2 := HS.out.c2; have z3 := HS.out.c3; have z4 := HS.out.c4)
        | fail)
      refine bodyPost_ret (v := .tuple #[A5 0 0 0 0 (.slice none 0 0), .int .i64 E]) (by simp [results, Tryz.results41, go_sem, z0, z1, z2, z3, z4]) rfl ?_
      exact retE_no _ (st5_below _ _ _ _ _ (by omega) HK.out.bel)
    · have h3 : faV (A.k == 1) (ck A) = 0 := by omega
      have hA : Good A := ck_good (fa_ok h3).1
      have e0 : exV 0 A (c1 p A) = onV p A := by unfold onV; rw [hF, h3]
      have e1 : feL (c1 p A) = onE p A := by unfold onE; rw [hF, h3]; exact (exE_ok _).symm
      have HFa1 := Lib.hid (HFa.out (A.k == 1))
      rw [h3] at HFa1
      rw [e0, e1] at HArr
      have HAr2 : Hid (∀ W, KOn w p A (.slice q A.z.length cap) W → Calls Tryz.prog 74 #[.agg #[.int .i64 A.k, .int .i64 A.r, .int .i64 A.a, .int .i64 A.b, .slice q A.z.length cap, .func (.func 71) #[] #[.pointer (some ⟨w.heap.size, 0, none⟩), .pointer (some ⟨w.heap.size + 1, 0, none⟩)]]] W (RetE (onV p A) (onE p A) W)) := fun W K => HArr.out W K hA
      generalize onV p A = X at HAr2 ⊢
      generalize onE p A = E at HAr2 ⊢
      obtain ⟨k', r', a', b', z'⟩ := X
      clear h2 h3 hA e0 e1 hF HFa HArr
      go_enter Tryz.func41, Tryz.ntmps41
      go_wp2_with (first
        | (go_at_call 69; (with_reducible refine (HAr.out _).mono ?_); rintro e w1 ⟨rfl, hb⟩; have HK2 := Lib.hid (HK.out.next hb); clear HK x0 x1 x2 x3 x4 px; have HK := HK2; clear HK2; clear hb; have x0 := HK.out.box.c0; have x1 := HK.out.box.c1; have x2 := HK.out.box.c2; have x3 := HK.out.box.c3; have x4 := HK.out.box.c4; have px := HK.out.pb)
        | (go_at_call 70; (with_reducible refine (HFa1.out _ _ (by first | rfl | simp) HK.out.lay HK.out.rd).mono ?_); rintro e w2 ⟨rfl, hb⟩; have HK2 := Lib.hid (HK.out.next hb); clear HK x0 x1 x2 x3 x4 px; have HK := HK2; clear HK2; clear hb; have x0 := HK.out.box.c0; have x1 := HK.out.box.c1; have x2 := HK.out.box.c2; have x3 := HK.out.box.c3; have x4 := HK.out.box.c4; have px := HK.out.pb)
        | (go_at_call 74; (with_reducible refine (HAr2.out _ (HK.out.next (bel1 _ _))).mono ?_); rintro e w3 ⟨u, rfl, hu, hb⟩; obtain ⟨qu, cu, hqu, _, _⟩ := hu.form; have hqu2 : u = .slice qu z'.length cu := hqu; subst hqu2; clear hqu; have hlt := HK.out.res.lt; have HU : Hid (RdN w2.heap.size w3 (.slice qu z'.length cu) z') := hu.mono (by simp); have HK2 := Lib.hid ((HK.out.next (bel1 _ _)).next hb); clear HK x0 x1 x2 x3 x4 px hu hb; have HK := HK2; clear HK2; have y0 := HK.out.res.c0; have y1 := HK.out.res.c1; have y2 := HK.out.res.c2; have y3 := HK.out.res.c3; have y4 := HK.out.res.c4; have f0 := HK.out.res.fr 0; have f1 := HK.out.res.fr 1; have f2 := HK.out.res.fr 2; have f3 := HK.out.res.fr 3; have f4 := HK.out.res.fr 4; have HS := Lib.hid (HK.out.res.set k' r' a' b' (.slice qu z'.length cu)); have z0 := HS.out.c0; have z1 := HS.out.c1; have z2 := HS.out.c2; have z3 := HS.out.c3; have z4 := HS.out.c4)
        | fail)
      refine bodyPost_ret (v := .tuple #[A5 k' r' a' b' (.slice qu z'.length cu), .int .i64 E]) (by simp [results, Tryz.results41, go_sem, z0, z1, z2, z3, z4]) rfl ?_
      exact ⟨_, rfl, (HU.out.st5 (by omega) _ _ _ _ _).mono (by omega), st5_below _ _ _ _ _ (by omega) HK.out.bel⟩
end Go.Proofs.YtpbfbejckhbijaaGreatDoor
