/- Two of the code. -/
import Derived.Test.YtpbfbejckhbijaaGreatDoorExE
import Derived.Deep.DeepCutAuto
namespace Go.Proofs.YtpbfbejckhbijaaGreatDoor
open Go.RowKit

/-- What Two's walk keeps: the boxes of p, of both arrays, of the result. -/
structure KTw (w : World) (p : Int) (A : Ar) (v : Value) (B : Ar) (u : Value) (W : World) : Prop where
  bel : Below w.heap.size w W
  pb : W.cell? ⟨w.heap.size, 0, none⟩ = some (.int .i64 p)
  ba : R5 W (w.heap.size + 1) A.k A.r A.a A.b v
  bb : R5 W (w.heap.size + 2) B.k B.r B.a B.b u
  res : R5 W (w.heap.size + 3) 0 0 0 0 (.slice none 0 0)
  ra : RdI W.heap.size W v A.z
  rb : RdI W.heap.size W u B.z
  lay : Ru.Lay W
theorem KTw.next {w W W' : World} {p : Int} {A B : Ar} {v u : Value} (h : KTw w p A v B u W) (hb : Below W.heap.size W W') : KTw w p A v B u W' :=
  ⟨h.bel.trans (hb.mono h.bel.size), (hb.cell (p := ⟨w.heap.size, 0, none⟩) (World.block_lt_of_cell? W _ h.pb)).trans h.pb, h.ba.next hb, h.bb.next hb, h.res.next hb, h.ra.next hb, h.rb.next hb, h.lay.next hb⟩
theorem KTw.new {w : World} {v u : Value} {A B : Ar} (p : Int) (hw : Ru.Lay w) (hv : RdI w.heap.size w v A.z) (hu : RdI w.heap.size w u B.z) : KTw w p A v B u ((((w.alloc (.cells #[.int .i64 p] 3)).alloc (.cells #[.int .i64 A.k, .int .i64 A.r, .int .i64 A.a, .int .i64 A.b, v] 43)).alloc (.cells #[.int .i64 B.k, .int .i64 B.r, .int .i64 B.a, .int .i64 B.b, u] 43)).alloc (.cells #[.int .i64 0, .int .i64 0, .int .i64 0, .int .i64 0, .slice none 0 0] 43)) := by
  have h1 := bel1 w (.cells #[.int .i64 p] 3)
  have s1 : (w.alloc (.cells #[.int .i64 p] 3)).heap.size = w.heap.size + 1 := by simp
  have hp : (w.alloc (.cells #[.int .i64 p] 3)).cell? ⟨w.heap.size, 0, none⟩ = some (.int .i64 p) := by unfold World.cell?; rw [heap_alloc_last]; rfl
  generalize w.alloc (.cells #[.int .i64 p] 3) = w1 at h1 s1 hp ⊢
  have h2 := bel1 w1 (.cells #[.int .i64 A.k, .int .i64 A.r, .int .i64 A.a, .int .i64 A.b, v] 43)
  have s2 : (w1.alloc (.cells #[.int .i64 A.k, .int .i64 A.r, .int .i64 A.a, .int .i64 A.b, v] 43)).heap.size = w.heap.size + 2 := by simp [s1]
  have ha := R5.new w1 A.k A.r A.a A.b v
  rw [s1] at ha
  generalize w1.alloc (.cells #[.int .i64 A.k, .int .i64 A.r, .int .i64 A.a, .int .i64 A.b, v] 43) = w2 at h2 s2 ha ⊢
  have h3 := bel1 w2 (.cells #[.int .i64 B.k, .int .i64 B.r, .int .i64 B.a, .int .i64 B.b, u] 43)
  have s3 : (w2.alloc (.cells #[.int .i64 B.k, .int .i64 B.r, .int .i64 B.a, .int .i64 B.b, u] 43)).heap.size = w.heap.size + 3 := by simp [s2]
  have hb := R5.new w2 B.k B.r B.a B.b u
  rw [s2] at hb
  generalize w2.alloc (.cells #[.int .i64 B.k, .int .i64 B.r, .int .i64 B.a, .int .i64 B.b, u] 43) = w3 at h3 s3 hb ⊢
  have h4 := bel1 w3 (.cells #[.int .i64 0, .int .i64 0, .int .i64 0, .int .i64 0, .slice none 0 0] 43)
  have hr := R5.new w3 0 0 0 0 (.slice none 0 0)
  rw [s3] at hr
  have h12 := h1.trans (h2.mono h1.size)
  have h13 := h12.trans (h3.mono h12.size)
  have hp2 := (h2.cell (p := ⟨w.heap.size, 0, none⟩) (by show w.heap.size < w1.heap.size; omega)).trans hp
  have hp3 := (h3.cell (p := ⟨w.heap.size, 0, none⟩) (by show w.heap.size < w2.heap.size; omega)).trans hp2
  exact ⟨h13.trans (h4.mono h13.size), (h4.cell (p := ⟨w.heap.size, 0, none⟩) (by show w.heap.size < w3.heap.size; omega)).trans hp3, (ha.next h3).next h4, hb.next h4, hr, (((hv.next h1).next h2).next h3).next h4, (((hu.next h1).next h2).next h3).next h4, (((hw.next h1).next h2).next h3).next h4⟩
set_option maxRecDepth 100000 in
theorem bs2 (k r a b : Int) (q : Option Addr) (n c : Nat) (k' r' a' b' : Int) (q' : Option Addr) (n' c' : Nat) (W : World) : (Instr.buildSlice 38 2 #[(0, A5 k r a b (.slice q n c)), (1, A5 k' r' a' b' (.slice q' n' c'))]).run Tryz.prog W =
    .ok (.slice (some ⟨W.heap.size, 0, none⟩) 2 2) (W.alloc (.cells #[.int .i64 k, .int .i64 r, .int .i64 a, .int .i64 b, .slice q n c, .int .i64 k', .int .i64 r', .int .i64 a', .int .i64 b', .slice q' n' c'] 43)) := by kernel_rfl
/-- A slice of two arrays is built. -/
theorem wp_build2 {o : Oper} {a : Act} {w : World} {next : Act → World → Prop} {Q : Exit → Act → World → Prop} (x y : Operand) (k r a1 b : Int) (q : Option Addr) (n c : Nat) (k' r' a' b' : Int) (q' : Option Addr) (n' c' : Nat)
    (ho : o.op = .buildSlice 38 2 #[(0, x), (1, y)]) (hx : a.eval x = A5 k r a1 b (.slice q n c)) (hy : a.eval y = A5 k' r' a' b' (.slice q' n' c'))
    (hn : next (a.put o.dst (.slice (some ⟨w.heap.size, 0, none⟩) 2 2)) (w.alloc (.cells #[.int .i64 k, .int .i64 r, .int .i64 a1, .int .i64 b, .slice q n c, .int .i64 k', .int .i64 r', .int .i64 a', .int .i64 b', .slice q' n' c'] 43))) : Oper.wp Tryz.prog o a w next Q := by
  have h : (execOp a.eval o).run Tryz.prog w = .ok (.value (.slice (some ⟨w.heap.size, 0, none⟩) 2 2)) (w.alloc (.cells #[.int .i64 k, .int .i64 r, .int .i64 a1, .int .i64 b, .slice q n c, .int .i64 k', .int .i64 r', .int .i64 a', .int .i64 b', .slice q' n' c'] 43)) := by
    unfold execOp
    rw [ho]
    simp only [List.map_toArray, List.map_cons, List.map_nil, hx, hy]
    simp [go_sem]
  unfold Oper.wp
  rw [h]
  exact hn
theorem retR_no {n : Int} {w w' : World} {e : Ending} (h : RetR Ar.no n w e w') : ∃ q c, e = .returned (.tuple #[A5 0 0 0 0 (.slice q 0 c), .int .i64 n]) ∧ Below w.heap.size w w' := by
  obtain ⟨u, h1, ⟨q, c, hu, _⟩, h2⟩ := h
  have hu2 : u = .slice q 0 c := hu
  subst hu2
  exact ⟨q, c, h1, h2⟩
theorem two_arr {w W : World} {p : Int} {A B : Ar} {v u x : Value} (K : KTw w p A v B u W) (hA : Good A) (hB : Good B) (hE : boE A B = 0) (h64 : in64 A.z) (h64' : in64 B.z) (hx : RdI W.heap.size W x (boV A B).z) :
    Calls Tryz.prog 74 #[.agg #[.int .i64 (boV A B).k, .int .i64 (boV A B).r, .int .i64 (boV A B).a, .int .i64 (boV A B).b, x, .func (.func 77) #[] #[.pointer (some ⟨w.heap.size, 0, none⟩), .pointer (some ⟨w.heap.size + 1, 0, none⟩), .pointer (some ⟨w.heap.size + 2, 0, none⟩)]]] W (RetE (exV 0 (boV A B) (c2 p A B)) (feL (c2 p A B)) W) := by
  refine earr2_any (boV A B) x (c2 p A B) w.heap.size (w.heap.size + 1) (w.heap.size + 2) W K.lay (bo_good hA hB) (c2_len p A B) hx ?_
  intro j W' c hc hb
  obtain ⟨hj, rfl⟩ := c2_some hc
  have K2 := K.next hb
  have hl := bo_lt hA hB hE hj
  exact two1_any p A B v u w.heap.size (w.heap.size + 1) (w.heap.size + 2) j W' K2.pb K2.ba K2.bb K2.ra K2.rb hl.1 hl.2 h64 h64'
set_option maxRecDepth 100000 in
set_option maxHeartbeats 8000000 in
theorem etwo_any (p : Int) (A B : Ar) (v u : Value) (w : World) (hw : Ru.Lay w) (hv : RdI w.heap.size w v A.z) (hu : RdI w.heap.size w u B.z) (hl : A.z.length ≤ 1000000) (hl' : B.z.length ≤ 1000000) (h64 : in64 A.z) (h64' : in64 B.z) :
    Calls Tryz.prog 42 #[.int .i64 p, A5 A.k A.r A.a A.b v, A5 B.k B.r B.a B.b u] w (RetE (twV p A B) (twE p A B) w) := by
  have HAr := Lib.hid (fun W => Sc.arity_any p W)
  have HK := Lib.hid (KTw.new (A := A) (B := B) p hw hv hu)
  have HKi := Lib.hid (fun W h1 h2 => ekinds_any p A B v u W h1 h2)
  have HFa := Lib.hid (fun W g hg h1 h2 h3 h4 h5 => efault2_at (kdB p A B) A B v u W g hg h1 h2 h3 h4 h5 hl hl')
  have HBo := Lib.hid (fun W h1 h2 => eboth_any A B v u W h1 h2)
  have HArr : Hid (∀ x W, KTw w p A v B u W → Good A → Good B → boE A B = 0 → RdI W.heap.size W x (boV A B).z → Calls Tryz.prog 74 #[.agg #[.int .i64 (boV A B).k, .int .i64 (boV A B).r, .int .i64 (boV A B).a, .int .i64 (boV A B).b, x, .func (.func 77) #[] #[.pointer (some ⟨w.heap.size, 0, none⟩), .pointer (some ⟨w.heap.size + 1, 0, none⟩), .pointer (some ⟨w.heap.size + 2, 0, none⟩)]]] W (RetE (exV 0 (boV A B) (c2 p A B)) (feL (c2 p A B)) W)) := fun x W K hA hB hE hx => two_arr K hA hB hE h64 h64' hx
  obtain ⟨q, cap, rfl, hv1, hv2, hv3⟩ := hv
  obtain ⟨q', cap', rfl, hu1, hu2, hu3⟩ := hu
  clear hv3 hu3 hv2 hu2 hv1 hu1 hw h64 h64' hl hl'
  have x0 := HK.out.ba.c0; have x1 := HK.out.ba.c1; have x2 := HK.out.ba.c2; have x3 := HK.out.ba.c3; have x4 := HK.out.ba.c4; have t0' := HK.out.bb.c0; have t1' := HK.out.bb.c1; have t2' := HK.out.bb.c2; have t3' := HK.out.bb.c3; have t4' := HK.out.bb.c4; have px := HK.out.pb
  by_cases h1 : Sc.arV p ≠ 2
  · have e0 : twV p A B = Ar.no := by unfold twV; rw [twF_two h1]; exact exV_no (by decide) _ _
    have e1 : twE p A B = 2 := by unfold twE; rw [twF_two h1]; exact exE_bad (by decide) _
    rw [e0, e1]
    have k1 : (Sc.arV p != 2) = true := by simpa using h1
    generalize Sc.arV p = ar at HAr k1
    clear e0 e1 h1 HArr HFa HKi HBo
    go_enter Tryz.func42, Tryz.ntmps42
    go_wp2_with (first
      | (go_at_call 69; (with_reducible refine (HAr.out _).mono ?_); rintro e w1 ⟨rfl, hb⟩; have HK2 := Lib.hid (HK.out.next hb); clear HK x0 x1 x2 x3 x4 t0' t1' t2' t3' t4' px; have HK := HK2; clear HK2; clear hb; have x0 := HK.out.ba.c0; have x1 := HK.out.ba.c1; have x2 := HK.out.ba.c2; have x3 := HK.out.ba.c3; have x4 := HK.out.ba.c4; have t0' := HK.out.bb.c0; have t1' := HK.out.bb.c1; have t2' := HK.out.bb.c2; have t3' := HK.out.bb.c3; have t4' := HK.out.bb.c4; have px := HK.out.pb; have y0 := HK.out.res.c0; have y1 := HK.out.res.c1; have y2 := HK.out.res.c2; have y3 := HK.out.res.c3; have y4 := HK.out.res.c4; have f0 := HK.out.res.fr 0; have f1 := HK.out.res.fr 1; have f2 := HK.out.res.fr 2; have f3 := HK.out.res.fr 3; have f4 := HK.out.res.fr 4; have HS := Lib.hid (HK.out.res.set 0 0 0 0 (.slice none 0 0)); have z0 := HS.out.c0; have z1 := HS.out.c1; have z2 := HS.out.c2; have z3 := HS.out.c3; have z4 := HS.out.c4)
      | fail)
    refine bodyPost_ret (v := .tuple #[A5 0 0 0 0 (.slice none 0 0), .int .i64 2]) (by simp [results, Tryz.results42, go_sem, z0, z1, z2, z3, z4]) rfl ?_
    exact retE_no _ (st5_below _ _ _ _ _ (by omega) HK.out.bel)
  · have h1' : Sc.arV p = 2 := by omega
    have HF := Lib.hid (twF_fa (p := p) (A := A) (B := B) h1')
    rw [h1'] at HAr
    clear h1 h1'
    have HGd : Hid (faV (kdB p A B) (if ck A ≠ 0 then ck A else ck B) = 0 → Good A ∧ Good B) := fun h => ck_two (fa_ok h).1
    generalize faV (kdB p A B) (if ck A ≠ 0 then ck A else ck B) = E at HF HFa HGd
    generalize kdB p A B = kd at HKi HFa
    generalize hX : twV p A B = X
    generalize hY : twE p A B = Y
    have HX := Lib.hid hX
    have HY := Lib.hid hY
    clear hX hY
    go_enter Tryz.func42, Tryz.ntmps42
    go_wp2_with (first
      | (go_at_call 69; (with_reducible refine (HAr.out _).mono ?_); rintro e w1 ⟨rfl, hb⟩; have HK2 := Lib.hid (HK.out.next hb); clear HK x0 x1 x2 x3 x4 t0' t1' t2' t3' t4' px; have HK := HK2; clear HK2; clear hb; have x0 := HK.out.ba.c0; have x1 := HK.out.ba.c1; have x2 := HK.out.ba.c2; have x3 := HK.out.ba.c3; have x4 := HK.out.ba.c4; have t0' := HK.out.bb.c0; have t1' := HK.out.bb.c1; have t2' := HK.out.bb.c2; have t3' := HK.out.bb.c3; have t4' := HK.out.bb.c4; have px := HK.out.pb)
      | fail)
    go_cut [10] (fun t wx => t = .int .i64 E ∧ KTw w p A (.slice q A.z.length cap) B (.slice q' B.z.length cap') wx)
    case first =>
      as_aux_lemma =>
        have HAll : Hid (∀ W, Below w1.heap.size w1 W → (fun W => Below w1.heap.size w1 W ∧ W.cell? ⟨w.heap.size, 0, none⟩ = some (.int .i64 p) ∧ W.cell? ⟨w.heap.size + 1, 0, none⟩ = some (.int .i64 A.k) ∧ W.cell? ⟨w.heap.size + 1, 1, none⟩ = some (.int .i64 A.r) ∧ W.cell? ⟨w.heap.size + 1, 2, none⟩ = some (.int .i64 A.a) ∧ W.cell? ⟨w.heap.size + 1, 3, none⟩ = some (.int .i64 A.b) ∧ W.cell? ⟨w.heap.size + 1, 4, none⟩ = some ((.slice q A.z.length cap)) ∧ W.cell? ⟨w.heap.size + 2, 0, none⟩ = some (.int .i64 B.k) ∧ W.cell? ⟨w.heap.size + 2, 1, none⟩ = some (.int .i64 B.r) ∧ W.cell? ⟨w.heap.size + 2, 2, none⟩ = some (.int .i64 B.a) ∧ W.cell? ⟨w.heap.size + 2, 3, none⟩ = some (.int .i64 B.b) ∧ W.cell? ⟨w.heap.size + 2, 4, none⟩ = some ((.slice q' B.z.length cap'))) W) := fun W h => ⟨h, (HK.out.next h).pb, (HK.out.next h).ba.c0, (HK.out.next h).ba.c1, (HK.out.next h).ba.c2, (HK.out.next h).ba.c3, (HK.out.next h).ba.c4, (HK.out.next h).bb.c0, (HK.out.next h).bb.c1, (HK.out.next h).bb.c2, (HK.out.next h).bb.c3, (HK.out.next h).bb.c4⟩
        clear x0 x1 x2 x3 x4 t0' t1' t2' t3' t4' px HArr HBo HAr HF HGd HX HY
        refine wp_region_held_drew (S := (fun W => Below w1.heap.size w1 W ∧ W.cell? ⟨w.heap.size, 0, none⟩ = some (.int .i64 p) ∧ W.cell? ⟨w.heap.size + 1, 0, none⟩ = some (.int .i64 A.k) ∧ W.cell? ⟨w.heap.size + 1, 1, none⟩ = some (.int .i64 A.r) ∧ W.cell? ⟨w.heap.size + 1, 2, none⟩ = some (.int .i64 A.a) ∧ W.cell? ⟨w.heap.size + 1, 3, none⟩ = some (.int .i64 A.b) ∧ W.cell? ⟨w.heap.size + 1, 4, none⟩ = some ((.slice q A.z.length cap)) ∧ W.cell? ⟨w.heap.size + 2, 0, none⟩ = some (.int .i64 B.k) ∧ W.cell? ⟨w.heap.size + 2, 1, none⟩ = some (.int .i64 B.r) ∧ W.cell? ⟨w.heap.size + 2, 2, none⟩ = some (.int .i64 B.a) ∧ W.cell? ⟨w.heap.size + 2, 3, none⟩ = some (.int .i64 B.b) ∧ W.cell? ⟨w.heap.size + 2, 4, none⟩ = some ((.slice q' B.z.length cap')))) (by kernel_rfl) ?_ (fun hHeld => ?_)
        · exact HAll.out _ (Below.refl _ _).drew
        have HB0 : Hid (Below w1.heap.size w1 (World.drew w1)) := (Below.refl _ _).drew
        generalize World.drew w1 = wd at hHeld HB0 ⊢
        refine wpAnyH_take (i := 0) (v := ?_) rfl (by kernel_rfl) (by kernel_rfl) (by kernel_rfl) (fun _ _ _ h => h) (Or.inl ⟨by rfl, ?_⟩) (by assumption) ?_
        rotate_left
        · ((intro w0 hSw); (try dsimp only at hSw); go_simp; (try with_reducible rfl))
        change wpAnyH _ _ _ _ _ _ _ (Act.put _ (some 22) _) _
        try simp only [Act.put, List.setIfInBounds_toArray, List.set_cons_zero, List.set_cons_succ]
        refine wpAnyH_take (i := 1) (v := ?_) rfl (by kernel_rfl) (by kernel_rfl) (by kernel_rfl) (fun _ _ _ h => h) (Or.inl ⟨by rfl, ?_⟩) (by assumption) ?_
        rotate_left
        · ((intro w0 hSw); (try dsimp only at hSw); go_simp; (try with_reducible rfl))
        change wpAnyH _ _ _ _ _ _ _ (Act.put _ (some 23) _) _
        try simp only [Act.put, List.setIfInBounds_toArray, List.set_cons_zero, List.set_cons_succ]
        refine wpAnyH_take (i := 2) (v := ?_) rfl (by kernel_rfl) (by kernel_rfl) (by kernel_rfl) (fun _ _ _ h => h) (Or.inl ⟨by rfl, ?_⟩) (by assumption) ?_
        rotate_left
        · ((intro w0 hSw); (try dsimp only at hSw); go_simp; (try with_reducible rfl))
        change wpAnyH _ _ _ _ _ _ _ (Act.put _ (some 24) _) _
        try simp only [Act.put, List.setIfInBounds_toArray, List.set_cons_zero, List.set_cons_succ]
        refine wpAnyH_take (i := 4) (v := ?_) rfl (by kernel_rfl) (by kernel_rfl) (by kernel_rfl) (fun _ _ _ h => h) (Or.inl ⟨by rfl, ?_⟩) (by assumption) ?_
        rotate_left
        · ((intro w0 hSw); (try dsimp only at hSw); go_simp; (try with_reducible rfl))
        change wpAnyH _ _ _ _ _ _ _ (Act.put _ (some 26) _) _
        try simp only [Act.put, List.setIfInBounds_toArray, List.set_cons_zero, List.set_cons_succ]
        refine wpAnyH_take (i := 5) (v := ?_) rfl (by kernel_rfl) (by kernel_rfl) (by kernel_rfl) (fun _ _ _ h => h) (Or.inl ⟨by rfl, ?_⟩) (by assumption) ?_
        rotate_left
        · ((intro w0 hSw); (try dsimp only at hSw); go_simp; (try with_reducible rfl))
        change wpAnyH _ _ _ _ _ _ _ (Act.put _ (some 27) _) _
        try simp only [Act.put, List.setIfInBounds_toArray, List.set_cons_zero, List.set_cons_succ]
        refine wpAnyH_ready (rs := [3, 6]) (by kernel_rfl) (by simp) ?_
        refine AllReadyH.cons rfl (fun K hK => ?_) (AllReadyH.cons rfl (fun K hK => ?_) (AllReadyH.nil))
        · go_simp
          go_at_call 75
          with_reducible refine (HKi.out _ (HK.out.next HB0.out).ra (HK.out.next HB0.out).rb).mono ?_
          rintro e wk ⟨rfl, hb⟩
          have HB1 := Lib.hid (HB0.out.trans (hb.mono HB0.out.size))
          clear hb
          refine hK.out _ _ ?_ (fun hHeld2 => ?_)
          · exact HAll.out _ HB1.out
          clear hK K hHeld
          have hHeld := hHeld2; clear hHeld2
          try change wpAnyH _ _ _ _ _ _ _ (Act.put _ (some 25) _) _
          try dsimp only
          try simp only [Act.put, List.setIfInBounds_toArray, List.set_cons_zero, List.set_cons_succ]
          refine wpAnyH_ready (rs := [6]) (by kernel_rfl) (by simp) ?_
          refine AllReadyH.cons rfl (fun K hK => ?_) (AllReadyH.nil)
          have HB20 : Hid (Below w1.heap.size w1 (wk.alloc (.cells #[.int .i64 A.k, .int .i64 A.r, .int .i64 A.a, .int .i64 A.b, (.slice q A.z.length cap), .int .i64 B.k, .int .i64 B.r, .int .i64 B.a, .int .i64 B.b, (.slice q' B.z.length cap')] 43))) := HB1.out.trans ((bel1 wk _).mono HB1.out.size)
          have HAt : Hid (ArAt (wk.alloc (.cells #[.int .i64 A.k, .int .i64 A.r, .int .i64 A.a, .int .i64 A.b, (.slice q A.z.length cap), .int .i64 B.k, .int .i64 B.r, .int .i64 B.a, .int .i64 B.b, (.slice q' B.z.length cap')] 43)) wk.heap.size 0 A (.slice q A.z.length cap) ∧ ArAt (wk.alloc (.cells #[.int .i64 A.k, .int .i64 A.r, .int .i64 A.a, .int .i64 A.b, (.slice q A.z.length cap), .int .i64 B.k, .int .i64 B.r, .int .i64 B.a, .int .i64 B.b, (.slice q' B.z.length cap')] 43)) wk.heap.size 5 B (.slice q' B.z.length cap')) := at2_new A B _ _ _
          have HLt : Hid (wk.heap.size < (wk.alloc (.cells #[.int .i64 A.k, .int .i64 A.r, .int .i64 A.a, .int .i64 A.b, (.slice q A.z.length cap), .int .i64 B.k, .int .i64 B.r, .int .i64 B.a, .int .i64 B.b, (.slice q' B.z.length cap')] 43)).heap.size) := by unfold Hid; simp
          rw [if_pos (by rfl)]
          refine wp_build2 (.tmp 26) (.tmp 27) A.k A.r A.a A.b q A.z.length cap B.k B.r B.a B.b q' B.z.length cap' rfl rfl rfl ?_
          generalize wk.alloc (.cells #[.int .i64 A.k, .int .i64 A.r, .int .i64 A.a, .int .i64 A.b, (.slice q A.z.length cap), .int .i64 B.k, .int .i64 B.r, .int .i64 B.a, .int .i64 B.b, (.slice q' B.z.length cap')] 43) = wx at HB20 HAt HLt ⊢
          refine hK.out _ _ (HAll.out _ HB20.out) (fun hHeld2 => ?_)
          clear hK K hHeld
          have hHeld := hHeld2; clear hHeld2
          try change wpAnyH _ _ _ _ _ _ _ (Act.put _ (some 28) _) _
          try dsimp only
          try simp only [Act.put, List.setIfInBounds_toArray, List.set_cons_zero, List.set_cons_succ]
          have HB2 := HB20
          clear HB20
          refine wpAnyH_ready (rs := [7]) (by kernel_rfl) (by simp) ?_
          refine AllReadyH.cons rfl (fun K hK => ?_) (AllReadyH.nil)
          go_simp
          go_at_call 70
          with_reducible refine (HFa.out _ _ HLt.out HAt.out.1 HAt.out.2 (HK.out.next HB2.out).lay (HK.out.next HB2.out).ra (HK.out.next HB2.out).rb).mono ?_
          rintro e wf ⟨rfl, hb⟩
          have HB9 := Lib.hid (HB2.out.trans (hb.mono HB2.out.size))
          clear hb
          refine hK.out _ _ ?_ (fun hHeld2 => ?_)
          · exact HAll.out _ HB9.out
          clear hK K hHeld
          have hHeld := hHeld2; clear hHeld2
          try change wpAnyH _ _ _ _ _ _ _ (Act.put _ (some 29) _) _
          try dsimp only
          try simp only [Act.put, List.setIfInBounds_toArray, List.set_cons_zero, List.set_cons_succ]
          refine wpAnyH_take (i := 8) (v := ?_) rfl (by kernel_rfl) (by kernel_rfl) (by kernel_rfl) (fun _ _ _ h => h) (Or.inl ⟨by rfl, ?_⟩) (by assumption) ?_
          rotate_left
          · ((intro w0 hSw); (try dsimp only at hSw); go_simp; (try with_reducible rfl))
          change wpAnyH _ _ _ _ _ _ _ (Act.put _ (some 10) _) _
          try simp only [Act.put, List.setIfInBounds_toArray, List.set_cons_zero, List.set_cons_succ]
          refine wpAnyH_done (by kernel_rfl) ?_ _
          go_wp2_with fail
          go_meet
          case rel => exact ⟨rfl, HK.out.next HB9.out⟩
        · have HB10 : Hid (Below w1.heap.size w1 (wd.alloc (.cells #[.int .i64 A.k, .int .i64 A.r, .int .i64 A.a, .int .i64 A.b, (.slice q A.z.length cap), .int .i64 B.k, .int .i64 B.r, .int .i64 B.a, .int .i64 B.b, (.slice q' B.z.length cap')] 43))) := HB0.out.trans ((bel1 wd _).mono HB0.out.size)
          have HAt : Hid (ArAt (wd.alloc (.cells #[.int .i64 A.k, .int .i64 A.r, .int .i64 A.a, .int .i64 A.b, (.slice q A.z.length cap), .int .i64 B.k, .int .i64 B.r, .int .i64 B.a, .int .i64 B.b, (.slice q' B.z.length cap')] 43)) wd.heap.size 0 A (.slice q A.z.length cap) ∧ ArAt (wd.alloc (.cells #[.int .i64 A.k, .int .i64 A.r, .int .i64 A.a, .int .i64 A.b, (.slice q A.z.length cap), .int .i64 B.k, .int .i64 B.r, .int .i64 B.a, .int .i64 B.b, (.slice q' B.z.length cap')] 43)) wd.heap.size 5 B (.slice q' B.z.length cap')) := at2_new A B _ _ _
          have HLt : Hid (wd.heap.size < (wd.alloc (.cells #[.int .i64 A.k, .int .i64 A.r, .int .i64 A.a, .int .i64 A.b, (.slice q A.z.length cap), .int .i64 B.k, .int .i64 B.r, .int .i64 B.a, .int .i64 B.b, (.slice q' B.z.length cap')] 43)).heap.size) := by unfold Hid; simp
          rw [if_pos (by rfl)]
          refine wp_build2 (.tmp 26) (.tmp 27) A.k A.r A.a A.b q A.z.length cap B.k B.r B.a B.b q' B.z.length cap' rfl rfl rfl ?_
          generalize wd.alloc (.cells #[.int .i64 A.k, .int .i64 A.r, .int .i64 A.a, .int .i64 A.b, (.slice q A.z.length cap), .int .i64 B.k, .int .i64 B.r, .int .i64 B.a, .int .i64 B.b, (.slice q' B.z.length cap')] 43) = wx at HB10 HAt HLt ⊢
          refine hK.out _ _ (HAll.out _ HB10.out) (fun hHeld2 => ?_)
          clear hK K hHeld
          have hHeld := hHeld2; clear hHeld2
          try change wpAnyH _ _ _ _ _ _ _ (Act.put _ (some 28) _) _
          try dsimp only
          try simp only [Act.put, List.setIfInBounds_toArray, List.set_cons_zero, List.set_cons_succ]
          have HB1 := HB10
          clear HB10
          refine wpAnyH_ready (rs := [3]) (by kernel_rfl) (by simp) ?_
          refine AllReadyH.cons rfl (fun K hK => ?_) (AllReadyH.nil)
          go_simp
          go_at_call 75
          with_reducible refine (HKi.out _ (HK.out.next HB1.out).ra (HK.out.next HB1.out).rb).mono ?_
          rintro e wk ⟨rfl, hb⟩
          have HB2 := Lib.hid (HB1.out.trans (hb.mono HB1.out.size))
          have HAt2 : Hid (ArAt wk wd.heap.size 0 A (.slice q A.z.length cap) ∧ ArAt wk wd.heap.size 5 B (.slice q' B.z.length cap')) := ⟨HAt.out.1.below HLt.out hb, HAt.out.2.below HLt.out hb⟩
          have HLt2 : Hid (wd.heap.size < wk.heap.size) := Nat.lt_of_lt_of_le HLt.out hb.size
          clear HAt HLt
          have HAt := HAt2
          have HLt := HLt2
          clear HAt2 HLt2
          clear hb
          refine hK.out _ _ ?_ (fun hHeld2 => ?_)
          · exact HAll.out _ HB2.out
          clear hK K hHeld
          have hHeld := hHeld2; clear hHeld2
          try change wpAnyH _ _ _ _ _ _ _ (Act.put _ (some 25) _) _
          try dsimp only
          try simp only [Act.put, List.setIfInBounds_toArray, List.set_cons_zero, List.set_cons_succ]
          refine wpAnyH_ready (rs := [7]) (by kernel_rfl) (by simp) ?_
          refine AllReadyH.cons rfl (fun K hK => ?_) (AllReadyH.nil)
          go_simp
          go_at_call 70
          with_reducible refine (HFa.out _ _ HLt.out HAt.out.1 HAt.out.2 (HK.out.next HB2.out).lay (HK.out.next HB2.out).ra (HK.out.next HB2.out).rb).mono ?_
          rintro e wf ⟨rfl, hb⟩
          have HB9 := Lib.hid (HB2.out.trans (hb.mono HB2.out.size))
          clear hb
          refine hK.out _ _ ?_ (fun hHeld2 => ?_)
          · exact HAll.out _ HB9.out
          clear hK K hHeld
          have hHeld := hHeld2; clear hHeld2
          try change wpAnyH _ _ _ _ _ _ _ (Act.put _ (some 29) _) _
          try dsimp only
          try simp only [Act.put, List.setIfInBounds_toArray, List.set_cons_zero, List.set_cons_succ]
          refine wpAnyH_take (i := 8) (v := ?_) rfl (by kernel_rfl) (by kernel_rfl) (by kernel_rfl) (fun _ _ _ h => h) (Or.inl ⟨by rfl, ?_⟩) (by assumption) ?_
          rotate_left
          · ((intro w0 hSw); (try dsimp only at hSw); go_simp; (try with_reducible rfl))
          change wpAnyH _ _ _ _ _ _ _ (Act.put _ (some 10) _) _
          try simp only [Act.put, List.setIfInBounds_toArray, List.set_cons_zero, List.set_cons_succ]
          refine wpAnyH_done (by kernel_rfl) ?_ _
          go_wp2_with fail
          go_meet
          case rel => exact ⟨rfl, HK.out.next HB9.out⟩
    case rest =>
      clear HK x0 x1 x2 x3 x4 t0' t1' t2' t3' t4' px HKi HFa HAr
      obtain ⟨rfl, hk⟩ := hcut
      have HK := Lib.hid hk
      clear hk
      have x0 := HK.out.ba.c0; have x1 := HK.out.ba.c1; have x2 := HK.out.ba.c2; have x3 := HK.out.ba.c3; have x4 := HK.out.ba.c4; have t0' := HK.out.bb.c0; have t1' := HK.out.bb.c1; have t2' := HK.out.bb.c2; have t3' := HK.out.bb.c3; have t4' := HK.out.bb.c4; have px := HK.out.pb
      by_cases h2 : E ≠ 0
      · have h3 : twF p A B = E := by rw [HF.out, if_pos h2]
        have e0 : twV p A B = Ar.no := by unfold twV; rw [h3]; exact exV_no h2 _ _
        have e1 : twE p A B = E := by unfold twE; rw [h3]; exact exE_bad h2 _
        have k1 : (E != 0) = true := by simpa using h2
        have eX : Hid (X = Ar.no) := HX.out.symm.trans e0
        have eY : Hid (Y = E) := HY.out.symm.trans e1
        clear e0 e1 h2 h3 HArr HBo HF HGd HX HY
        have y0 := HK.out.res.c0
        have y1 := HK.out.res.c1
        have y2 := HK.out.res.c2
        have y3 := HK.out.res.c3
        have y4 := HK.out.res.c4
        have f0 := HK.out.res.fr 0
        have f1 := HK.out.res.fr 1
        have f2 := HK.out.res.fr 2
        have f3 := HK.out.res.fr 3
        have f4 := HK.out.res.fr 4
        have HS := Lib.hid (HK.out.res.set 0 0 0 0 (.slice none 0 0))
        have z0 := HS.out.c0
        have z1 := HS.out.c1
        have z2 := HS.out.c2
        have z3 := HS.out.c3
        have z4 := HS.out.c4
        go_wp2_with fail
        refine bodyPost_ret (v := .tuple #[A5 0 0 0 0 (.slice none 0 0), .int .i64 E]) (by simp [results, Tryz.results42, go_sem, z0, z1, z2, z3, z4]) rfl ?_
        rw [eX.out, eY.out]; exact retE_no _ (st5_below _ _ _ _ _ (by omega) HK.out.bel)
      · have h3 : E = 0 := by omega
        subst h3
        have hG := HGd.out rfl
        have hF : twF p A B = boE A B := by rw [HF.out, if_neg h2]
        clear h2 HF HGd
        by_cases h4 : boE A B ≠ 0
        · have e0 : twV p A B = Ar.no := by unfold twV; rw [hF]; exact exV_no h4 _ _
          have e1 : twE p A B = boE A B := by unfold twE; rw [hF]; exact exE_bad h4 _
          have eX : Hid (X = Ar.no) := HX.out.symm.trans e0
          have eY : Hid (Y = boE A B) := HY.out.symm.trans e1
          clear HX HY
          rw [orNo_no h4] at HBo
          generalize boE A B = E2 at HBo h4 eY
          have k1 : (E2 != 0) = true := by simpa using h4
          have HBn := Lib.hid (fun W h1 h2 => (HBo.out W h1 h2).mono fun e w' h => retR_no h)
          clear e0 e1 hF hG HArr h4 HBo
          go_wp2_with (first
            | (go_at_call 76; (with_reducible refine (HBn.out _ HK.out.ra HK.out.rb).mono ?_); rintro e w3 ⟨ql, cl, rfl, hb⟩; have HK2 := Lib.hid ((HK.out.next hb).next (bel1 _ (.cells #[.int .i64 0, .int .i64 0, .int .i64 0, .int .i64 0, .slice ql 0 cl] 43))); clear HK x0 x1 x2 x3 x4 t0' t1' t2' t3' t4' px; have HK := HK2; clear HK2; clear hb; have x0 := HK.out.ba.c0; have x1 := HK.out.ba.c1; have x2 := HK.out.ba.c2; have x3 := HK.out.ba.c3; have x4 := HK.out.ba.c4; have t0' := HK.out.bb.c0; have t1' := HK.out.bb.c1; have t2' := HK.out.bb.c2; have t3' := HK.out.bb.c3; have t4' := HK.out.bb.c4; have px := HK.out.pb; have y0 := HK.out.res.c0; have y1 := HK.out.res.c1; have y2 := HK.out.res.c2; have y3 := HK.out.res.c3; have y4 := HK.out.res.c4; have f0 := HK.out.res.fr 0; have f1 := HK.out.res.fr 1; have f2 := HK.out.res.fr 2; have f3 := HK.out.res.fr 3; have f4 := HK.out.res.fr 4; have HS := Lib.hid (HK.out.res.set 0 0 0 0 (.slice none 0 0)); have z0 := HS.out.c0; have z1 := HS.out.c1; have z2 := HS.out.c2; have z3 := HS.out.c3; have z4 := HS.out.c4)
            | fail)
          refine bodyPost_ret (v := .tuple #[A5 0 0 0 0 (.slice none 0 0), .int .i64 E2]) (by simp [results, Tryz.results42, go_sem, z0, z1, z2, z3, z4]) rfl ?_
          rw [eX.out, eY.out]; exact retE_no _ (st5_below _ _ _ _ _ (by omega) HK.out.bel)
        · have h5 : boE A B = 0 := by omega
          rw [h5] at HBo hF
          rw [orNo_yes rfl] at HBo
          have e0 : exV 0 (boV A B) (c2 p A B) = X := by rw [← HX.out]; unfold twV; rw [hF]
          have e1 : feL (c2 p A B) = Y := by rw [← HY.out]; unfold twE; rw [hF]; exact (exE_ok _).symm
          rw [e0, e1] at HArr
          have HAr2 := Lib.hid (fun x W K hx => HArr.out x W K hG.1 hG.2 h5 hx)
          generalize boV A B = L at HAr2 HBo
          obtain ⟨k', r', a', b', z'⟩ := X
          obtain ⟨lk, lr, la, lb, lz⟩ := L
          clear e0 e1 hF hG h4 h5 HArr HX HY
          go_wp2_with (first
            | (go_at_call 76; (with_reducible refine (HBo.out _ HK.out.ra HK.out.rb).mono ?_); rintro e w3 ⟨ul, rfl, hul, hb⟩; obtain ⟨ql, cl, hql, _, _, _⟩ := id hul; have hql2 : ul = .slice ql lz.length cl := hql; subst hql2; clear hql; have HUl := Lib.hid hul; clear hul; have HK2 := Lib.hid (HK.out.next hb); clear HK x0 x1 x2 x3 x4 t0' t1' t2' t3' t4' px; have HK := HK2; clear HK2; clear hb; have x0 := HK.out.ba.c0; have x1 := HK.out.ba.c1; have x2 := HK.out.ba.c2; have x3 := HK.out.ba.c3; have x4 := HK.out.ba.c4; have t0' := HK.out.bb.c0; have t1' := HK.out.bb.c1; have t2' := HK.out.bb.c2; have t3' := HK.out.bb.c3; have t4' := HK.out.bb.c4; have px := HK.out.pb)
            | (go_at_call 74; (with_reducible refine (HAr2.out _ _ ((HK.out.next (bel1 _ _)).next (bel1 _ _)) ((HUl.out.next (bel1 _ _)).next (bel1 _ _))).mono ?_); rintro e w4 ⟨u, rfl, hu, hb⟩; obtain ⟨qu, cu, hqu, _, _⟩ := hu.form; have hqu2 : u = .slice qu z'.length cu := hqu; subst hqu2; clear hqu; have hlt := HK.out.res.lt; have HU : Hid (RdN w3.heap.size w4 (.slice qu z'.length cu) z') := hu.mono (B' := w3.heap.size) (by simp <;> omega); have HK2 := Lib.hid (((HK.out.next (bel1 _ _)).next (bel1 _ _)).next hb); clear HK x0 x1 x2 x3 x4 t0' t1' t2' t3' t4' px; have HK := HK2; clear HK2; clear hb hu; have x0 := HK.out.ba.c0; have x1 := HK.out.ba.c1; have x2 := HK.out.ba.c2; have x3 := HK.out.ba.c3; have x4 := HK.out.ba.c4; have t0' := HK.out.bb.c0; have t1' := HK.out.bb.c1; have t2' := HK.out.bb.c2; have t3' := HK.out.bb.c3; have t4' := HK.out.bb.c4; have px := HK.out.pb; have y0 := HK.out.res.c0; have y1 := HK.out.res.c1; have y2 := HK.out.res.c2; have y3 := HK.out.res.c3; have y4 := HK.out.res.c4; have f0 := HK.out.res.fr 0; have f1 := HK.out.res.fr 1; have f2 := HK.out.res.fr 2; have f3 := HK.out.res.fr 3; have f4 := HK.out.res.fr 4; have HS := Lib.hid (HK.out.res.set k' r' a' b' (.slice qu z'.length cu)); have z0 := HS.out.c0; have z1 := HS.out.c1; have z2 := HS.out.c2; have z3 := HS.out.c3; have z4 := HS.out.c4)
            | fail)
          refine bodyPost_ret (v := .tuple #[A5 k' r' a' b' (.slice qu z'.length cu), .int .i64 Y]) (by simp [results, Tryz.results42, go_sem, z0, z1, z2, z3, z4]) rfl ?_
          exact ⟨_, rfl, (HU.out.st5 (by omega) _ _ _ _ _).mono (by omega), st5_below _ _ _ _ _ (by omega) HK.out.bel⟩
end Go.Proofs.YtpbfbejckhbijaaGreatDoor
