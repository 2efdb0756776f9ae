/- In of the code: a map that the call itself makes. -/
import Derived.Test.YtpbfbejckhbijaaDoorFiAz
import Derived.Maps.OwnOps
import Derived.Maps.Views
import Derived.Carry
namespace Go.Proofs.YtpbfbejckhbijaaDoor
open Go.RowKit

theorem wf_inr {x : Int} (h : Sc.inr x = true) : (Lit.int .i64 x).wf = true := by
  have := Sc.inr_iff.1 h
  simp only [Lit.wf, IntKind.min, IntKind.max, IntKind.signed, IntKind.bits, Bool.and_eq_true, decide_eq_true_eq, if_true]
  omega
theorem key64 {x : Int} (h : Sc.inr x = true) : keyOf Tryd.prog 2 (.int .i64 x) = some (.int .i64 x) := Maps.keyOf_int_mk Tryd.underlying2 (wf_inr h)
theorem keyed64 : Maps.Keyed Tryd.prog 2 := Maps.int_keyed Tryd.underlying2
/-- A map that says of each number whether the list has it. -/
def MpI (w : World) (b n : Nat) (z : List Int) : Prop :=
  ∃ D : DataW Unit, w.ownsMap Tryd.prog 2 (plainElem Tryd.prog 2) b n D ∧ Maps.IsMap D ∧ ∀ x, Sc.inr x = true → D.atKey (.int .i64 x) (.lit (.int .i64 0)) = .lit (.int .i64 (if x ∈ z then 1 else 0))
theorem MpI.made (w : World) : MpI (w.alloc (.map #[] 0)) w.heap.size 0 [] :=
  ⟨_, World.ownsMap_made w _ _ _, Maps.isMap_empty, fun x _ => by simp [DataW.atKey]⟩
theorem MpI.keep {w w' : World} {b n : Nat} {z : List Int} (h : MpI w b n z) (hb : w'.heap[b]? = w.heap[b]?) : MpI w' b n z := by
  obtain ⟨D, ⟨es, clock, h1, h2⟩, h3⟩ := h
  exact ⟨D, ⟨es, clock, hb.trans h1, h2⟩, h3⟩
theorem MpI.lt {w : World} {b n : Nat} {z : List Int} (h : MpI w b n z) : b < w.heap.size := by
  obtain ⟨D, h1, _⟩ := h
  exact h1.lt
theorem MpI.put {b n : Nat} {z : List Int} {D : DataW Unit} {w' : World} {x : Int} (hx : Sc.inr x = true) (hm : Maps.IsMap D) (hat : ∀ x, Sc.inr x = true → D.atKey (.int .i64 x) (.lit (.int .i64 0)) = .lit (.int .i64 (if x ∈ z then 1 else 0)))
    (ho : w'.ownsMap Tryd.prog 2 (plainElem Tryd.prog 2) b n (D.put (.int .i64 x) (.lit (.int .i64 1)))) : MpI w' b n (z ++ [x]) := by
  refine ⟨_, ho, hm.put _ _, fun y hy => ?_⟩
  by_cases e : y = x
  · subst e
    rw [Maps.atKey_put_same hm (keyed64.key (key64 hy)), if_pos (by simp)]
  · rw [Maps.atKey_put_other (by intro h; exact e (by injection h)), hat y hy]
    by_cases h2 : y ∈ z
    · rw [if_pos h2, if_pos (by simp [h2])]
    · rw [if_neg h2, if_neg (by simp [h2, e])]
theorem wpList_mark {w : World} {ops : Array Oper} {rest : List Oper} {o : Oper} {a : Act} {Q : Exit → Act → World → Prop} (hg : o.guard = none) (m x v : Operand) (hop : o.op = Op.mapUpdate 50 m x v)
    (b n : Nat) (z : List Int) (hm : a.eval m = .map (some b)) (hown : MpI w b n z) (hn : n < 1000000) (c : Int) (hx : a.eval x = .int .i64 c) (hv : a.eval v = .int .i64 1) (hc : Sc.inr c = true)
    (hK : ∀ w', MpI w' b (n + 1) (z ++ [c]) → w.grownBy w' (some b) → wpList Tryd.prog ops Q rest (a.put o.dst undef) w') : wpList Tryd.prog ops Q (o :: rest) a w := by
  obtain ⟨D, h1, h2, h3⟩ := hown
  refine wpList_mapUpdate_own (H := Unit) w hg m x v 50 hop 2 2 keyed64 Tryd.underlying50 _ b n D hm h1 (by unfold maxLen; omega) _ _ _ hx hv (key64 hc) (.lit (.int .i64 1)) [] (plainElem_int Tryd.underlying2 (by decide)) ?_
  intro w' ho hgr
  exact hK w' (MpI.put hc h2 h3 ho) hgr
theorem zeroE64 (w : World) : (zeroValue 2).run Tryd.prog w = .ok (.int .i64 0) w := by kernel_rfl
theorem wpList_seen {w : World} {ops : Array Oper} {rest : List Oper} {o : Oper} {a : Act} {Q : Exit → Act → World → Prop} (hg : o.guard = none) (m x : Operand) (hop : o.op = Op.lookup 50 m x false)
    (b n : Nat) (z : List Int) (hm : a.eval m = .map (some b)) (hown : MpI w b n z) (c : Int) (hx : a.eval x = .int .i64 c) (hc : Sc.inr c = true)
    (hK : wpList Tryd.prog ops Q rest (a.put o.dst (.int .i64 (if c ∈ z then 1 else 0))) w) : wpList Tryd.prog ops Q (o :: rest) a w := by
  obtain ⟨D, h1, h2, h3⟩ := hown
  refine wpList_lookup_own_int (H := Unit) w hg m x 50 hop 2 2 .i64 keyed64 Tryd.underlying50 Tryd.underlying2 (zeroE64 _) b n D hm h1 _ _ hx (key64 hc) ?_
  intro d hat _
  rw [h3 c hc] at hat
  injection hat with e
  injection e with e1 e2
  subst e2
  exact hK
theorem mb_at {A B : Ar} {j : Nat} (hj : j < A.z.length) {x : Int} (hx : A.z.getD j 0 = x) : (mbZ A B).take j ++ [if x ∈ B.z then 1 else 0] = (mbZ A B).take (j + 1) := by
  have hl : j < (mbZ A B).length := by unfold mbZ; rw [List.length_map]; exact hj
  rw [← takeI_snoc hl]
  unfold mbZ
  rw [List.getD_eq_getElem?_getD (l := A.z.map _), List.getElem?_map, List.getElem?_eq_getElem hj]
  rw [List.getD_eq_getElem?_getD, List.getElem?_eq_getElem hj] at hx
  have hx2 : A.z[j] = x := hx
  simp [hx2]
set_option maxRecDepth 100000 in
set_option maxHeartbeats 16000000 in
theorem iin_any (A B : Ar) (v u : Value) (w : World) (hw : Ru.Lay w) (hv : RdI w.heap.size w v A.z) (hu : RdI w.heap.size w u B.z) (hl : A.z.length ≤ 100000) (hl' : B.z.length ≤ 100000) (h64 : in64 A.z) (h64' : in64 B.z) :
    Calls Tryd.prog 19 #[A5 A.k A.r A.a A.b v, A5 B.k B.r B.a B.b u] w (RetE (mbV A B) (mbE A B) w) := by
  have HFg : ∀ rk : Bool, (ck A = 0 → ck B = 0 → (rk = true ↔ 0 ≤ A.r ∧ A.r ≤ 2 ∧ 1 ≤ B.r ∧ B.r ≤ 1)) → Hid (∀ W g, W.heap.size = g → Ru.Lay W → RdI W.heap.size W v A.z → RdI W.heap.size W u B.z → Calls Tryd.prog 20 #[.bool (A.k == B.k), .bool rk, .slice (some ⟨g, 0, none⟩) 2 2] (W.alloc (.cells #[.int .i64 A.k, .int .i64 A.r, .int .i64 A.a, .int .i64 A.b, v, .int .i64 B.k, .int .i64 B.r, .int .i64 B.a, .int .i64 B.b, u] 25)) fun e w' => e = .returned (.int .i64 (mbE A B)) ∧ Below W.heap.size W w') := fun rk hrk W g hg h1 h2 h3 => by
    have h := ifault2_any (A.k == B.k) rk A B v u W g hg h1 h2 h3 (by omega) (by omega)
    rwa [fk_two A B (A.k == B.k) rk B.k B.k 0 2 1 1 (by simp) hrk] at h
  have HK := Lib.hid (MK2.new (A := A) (B := B) hw hv hu)
  have HW3 := Lib.hid hw.size
  have x0 := HK.out.c.boxA.c0; have x1 := HK.out.c.boxA.c1; have x2 := HK.out.c.boxA.c2; have x3 := HK.out.c.boxA.c3; have x4 := HK.out.c.boxA.c4; have y0 := HK.out.c.boxB.c0; have y1 := HK.out.c.boxB.c1; have y2 := HK.out.c.boxB.c2; have y3 := HK.out.c.boxB.c3; have y4 := HK.out.c.boxB.c4
  obtain ⟨p, cap, rfl, _, _, _⟩ := hv
  obtain ⟨q, cap', rfl, _, _, _⟩ := hu
  clear hw
  have HBs := fun W => ibs2 A.k A.r A.a A.b p A.z.length cap B.k B.r B.a B.b q B.z.length cap' W
  have HI := Lib.hid h64
  have HJ := Lib.hid h64'
  clear h64 h64'
  have HFa := HFg (B.r == 1) fun ha _ => ⟨fun h => by (have h5 : B.r = 1 := by simpa using h); have := (ck_good ha).r3; omega, fun h => by simpa using (show B.r = 1 by omega)⟩
  clear HFg
  by_cases h1 : mbE A B ≠ 0
  · generalize hT : mbE A B = E at h1 HFa
    have hE : mbE A B = E := hT
    rw [show mbV A B = Ar.no from orNo_no (by rw [hE]; exact h1)]
    have k1 : (E != 0) = true := by simpa using h1
    clear h1 hE hT
    go_enter Tryd.func19, Tryd.ntmps19
    go_wp2_with (go_at_call 20; (with_reducible refine (HFa.out _ _ (by first | rfl | simp) HK.out.c.lay HK.out.c.rdnA HK.out.c.rdnB).mono ?_); rintro e w1 ⟨rfl, hb⟩; have HK2 := Lib.hid (HK.out.next hb); clear HK x0 x1 x2 x3 x4 y0 y1 y2 y3 y4; have HK := HK2; clear HK2; have x0 := HK.out.c.boxA.c0; have x1 := HK.out.c.boxA.c1; have x2 := HK.out.c.boxA.c2; have x3 := HK.out.c.boxA.c3; have x4 := HK.out.c.boxA.c4; have y0 := HK.out.c.boxB.c0; have y1 := HK.out.c.boxB.c1; have y2 := HK.out.c.boxB.c2; have y3 := HK.out.c.boxB.c3; have y4 := HK.out.c.boxB.c4; clear hb; have y0 := HK.out.res.c0; have y1 := HK.out.res.c1; have y2 := HK.out.res.c2; have y3 := HK.out.res.c3; have y4 := HK.out.res.c4; have f0 := HK.out.res.fr 0; have f1 := HK.out.res.fr 1; have f2 := HK.out.res.fr 2; have f3 := HK.out.res.fr 3; have f4 := HK.out.res.fr 4; have HS := Lib.hid (HK.out.res.set 0 0 0 0 (.slice none 0 0)); have z0 := HS.out.c0; have z1 := HS.out.c1; have z2 := HS.out.c2; have z3 := HS.out.c3; have z4 := HS.out.c4)
    exact bodyPost_ret (v := .tuple #[A5 0 0 0 0 (.slice none 0 0), .int .i64 E]) (by simp [results, Tryd.results19, go_sem, z0, z1, z2, z3, z4]) rfl (retE_no _ (st5_below _ _ _ _ _ (by omega) HK.out.c.bel))
  have h0 : mbE A B = 0 := by omega
  rw [show mbV A B = ⟨1, A.r, A.a, A.b, mbZ A B⟩ from orNo_yes h0]
  rw [h0] at HFa ⊢
  have HMk : Hid (∀ W u, Ru.Lay W → RdI W.heap.size W u (mbZ A B) → Calls Tryd.prog 21 #[.int .i64 1, .int .i64 A.r, P2 A.a A.b, u] W (RetE ⟨1, A.r, A.a, A.b, mbZ A B⟩ 0 W)) := fun W u h2 h3 => by
    have h4 := make_any 1 A.r A.a A.b (mbZ A B) u W h2 h3 (by unfold mbZ; rw [List.length_map]; omega)
    rwa [mb_ck h0, mk_yes (mb_ck h0)] at h4
  have HSn := Lib.hid (fun j hj x hx => mb_at (A := A) (B := B) (j := j) hj (x := x) hx)
  have HZl : Hid ((mbZ A B).length = A.z.length) := by unfold Hid mbZ; rw [List.length_map]
  have hl4 := (ck_good (twoE_ok h0).1).len4
  have hl5 := (ck_good (twoE_ok h0).2.1).len4
  clear h0 h1
  generalize mbZ A B = Z at HMk HSn HZl ⊢
  have HMm := fun W => run_makeMap (P := Tryd.prog) 50 W
  go_enter Tryd.func19, Tryd.ntmps19
  go_upto_region 5 with (go_at_call 20; (with_reducible refine (HFa.out _ _ (by first | rfl | simp) HK.out.c.lay HK.out.c.rdnA HK.out.c.rdnB).mono ?_); rintro e w1 ⟨rfl, hb⟩; have HK2 := Lib.hid (HK.out.next hb); clear HK x0 x1 x2 x3 x4 y0 y1 y2 y3 y4; have HK := HK2; clear HK2; have x0 := HK.out.c.boxA.c0; have x1 := HK.out.c.boxA.c1; have x2 := HK.out.c.boxA.c2; have x3 := HK.out.c.boxA.c3; have x4 := HK.out.c.boxA.c4; have y0 := HK.out.c.boxB.c0; have y1 := HK.out.c.boxB.c1; have y2 := HK.out.c.boxB.c2; have y3 := HK.out.c.boxB.c3; have y4 := HK.out.c.boxB.c4; clear hb)
  clear HMm
  have HK0 : Hid (MK2 w A (.slice p A.z.length cap) B (.slice q B.z.length cap') (w1.alloc (.map #[] 0)) ∧ ∃ b, b = w1.heap.size ∧ MpI (w1.alloc (.map #[] 0)) b 0 [] ∧ w.heap.size + 3 ≤ b) := ⟨HK.out.next ((Below.refl _ _).alloc (Nat.le_refl _) _), _, rfl, MpI.made w1, HK.out.sz⟩
  clear HK HFa HBs x0 x1 x2 x3 x4 y0 y1 y2 y3 y4
  generalize hw2 : World.alloc w1 _ = w2 at HK0 ⊢
  obtain ⟨gm, hgm⟩ : ∃ g, w1.heap.size = g := ⟨_, rfl⟩
  rw [hgm] at HK0 ⊢
  clear hw2 hgm
  have HG3 : Hid (w.heap.size + 3 ≤ gm) := by obtain ⟨_, b, e, _, h⟩ := HK0.out; subst e; exact h
  have HK2 : Hid (MK2 w A (.slice p A.z.length cap) B (.slice q B.z.length cap') w2 ∧ MpI w2 gm 0 []) := by obtain ⟨h, b, e, h3, _⟩ := HK0.out; subst e; exact ⟨h, h3⟩
  clear HK0
  have y4 := HK2.out.1.c.boxB.c4
  go_wp2_with fail
  clear y4
  go_loopg [9, 33] B.z.length (fun gk x q9 wr => ∃ (j : Nat), j + gk = B.z.length ∧ q9 = .int .i64 j ∧ MK2 w A (.slice p A.z.length cap) B (.slice q B.z.length cap') wr ∧ MpI wr gm j (B.z.take j))
  case atStart => exact ⟨0, by omega, rfl, HK2.out.1, HK2.out.2⟩
  case round =>
    obtain ⟨j, hjg, rfl, hk, hmp⟩ := hrel
    have HV := Lib.hid hk
    have HM := Lib.hid hmp
    clear hk hmp HK2
    cases gk with
    | zero =>
      have hjz : ¬ ((j : Int) < (B.z.length : Int)) := by omega
      have HM2 : Hid (MpI wr gm B.z.length B.z) := by have h := HM.out; rwa [show j = B.z.length by omega, List.take_length] at h
      clear HM
      have x4 := HV.out.c.boxA.c4
      have hlt0 : gm < wr.heap.size := HM2.out.lt
      go_wp2_with fail
      go_loopg [10, 12, 43] A.z.length (fun gk s x q9 wq => ∃ (j : Nat) (U : Value), j + gk = A.z.length ∧ s = U ∧ q9 = .int .i64 j ∧ MK2 w A (.slice p A.z.length cap) B (.slice q B.z.length cap') wq ∧ MpI wq gm B.z.length B.z ∧ gm < wq.heap.size ∧ Ru.Ins 2 wq (gm + 1) U (Z.take j))
      case atStart => exact ⟨0, _, by omega, rfl, rfl, HV.out, HM2.out, hlt0, ins_nil _ _⟩
      case round =>
        obtain ⟨i, s0, hig, rfl, rfl, hk, hmp, hlt1, how⟩ := hrel
        clear HV HM2 x4
        have HV := Lib.hid hk
        have HM2 := Lib.hid hmp
        have HO1 := Lib.hid how
        clear hk hmp how
        cases gk with
        | zero =>
          have hiz : ¬ ((i : Int) < (A.z.length : Int)) := by omega
          have HO : Hid (RdI wr.heap.size wr u10 Z) := by
            have h := (ins_new HO1.out).rd
            rwa [List.take_of_length_le (by rw [HZl.out]; omega)] at h
          have HK := Lib.hid HV.out
          clear HV HM2 HO1 HSn
          have x0 := HK.out.c.boxA.c0; have x1 := HK.out.c.boxA.c1; have x2 := HK.out.c.boxA.c2; have x3 := HK.out.c.boxA.c3; have x4 := HK.out.c.boxA.c4; have y0 := HK.out.c.boxB.c0; have y1 := HK.out.c.boxB.c1; have y2 := HK.out.c.boxB.c2; have y3 := HK.out.c.boxB.c3; have y4 := HK.out.c.boxB.c4
          go_wp2_with (go_at_call 21; (with_reducible refine (HMk.out _ _ HK.out.c.lay HO.out).mono ?_); rintro e w3 ⟨uu, rfl, hu, hb⟩; obtain ⟨qq, qc, hq, _, _⟩ := hu.form; have hq2 : uu = .slice qq Z.length qc := hq; subst hq2; clear hq; have HU : Hid (RdN wr.heap.size w3 (.slice qq Z.length qc) Z) := hu; have hlt := HK.out.sz; have HK2 := Lib.hid (HK.out.next hb); clear hu hb HK; have HK := HK2; clear HK2; have y0 := HK.out.res.c0; have y1 := HK.out.res.c1; have y2 := HK.out.res.c2; have y3 := HK.out.res.c3; have y4 := HK.out.res.c4; have f0 := HK.out.res.fr 0; have f1 := HK.out.res.fr 1; have f2 := HK.out.res.fr 2; have f3 := HK.out.res.fr 3; have f4 := HK.out.res.fr 4; have HS := Lib.hid (HK.out.res.set 1 A.r A.a A.b (.slice qq Z.length qc)); have z0 := HS.out.c0; have z1 := HS.out.c1; have z2 := HS.out.c2; have z3 := HS.out.c3; have z4 := HS.out.c4)
          refine bodyPost_ret (v := .tuple #[A5 1 A.r A.a A.b (.slice qq Z.length qc), .int .i64 0]) (by simp [results, Tryd.results19, go_sem, z0, z1, z2, z3, z4]) rfl ?_
          exact ⟨_, rfl, (HU.out.st5 (by omega) _ _ _ _ _).mono (by omega), st5_below _ _ _ _ _ (by omega) HK.out.c.bel⟩
        | succ g3 =>
          have hiz : (i : Int) < (A.z.length : Int) := by omega
          have hi : i < A.z.length := by omega
          have hwi : IntKind.i64.wrap ((i : Int) + 1) = (i : Int) + 1 := by rw [IntKind.wrap_i64]; omega
          obtain ⟨bA, oA, hpA, _, hcA⟩ := HV.out.c.rdnA.cells (by intro e; rw [e] at hi; simp at hi)
          subst hpA
          have hxc := hcA i hi
          have hgx : A.z.getD i 0 = A.z[i] := by rw [List.getD_eq_getElem?_getD, List.getElem?_eq_getElem hi]; rfl
          have HIx : Hid (Sc.inr A.z[i] = true) := HI.out _ (List.getElem_mem hi)
          have HSq := Lib.hid (HSn.out i hi _ hgx)
          clear hcA hgx
          generalize A.z[i] = c at hxc HSq HIx
          have hlen : (Z.take i).length + 1 ≤ 1000000 := by rw [List.length_take]; omega
          have hsz := HV.out.sz
          go_wp2_with (first
            | (at_lookup; refine wpList_seen rfl _ _ rfl gm _ _ rfl HM2.out c rfl HIx.out ?_; generalize (if c ∈ B.z then (1 : Int) else 0) = d at HSq ⊢)
            | (at_builtin; refine wpList_app1 (by simp [Region.wanted]) _ _ rfl (gm + 1) _ (Z.take i) rfl HO1.out d rfl hlen hlt1 ?_; intro u2 w2 hu2 hb2; have HV2 := Lib.hid (HV.out.far (hb2.mono (by have := HG3.out; omega)) (HV.out.c.lay.below HW3.out (hb2.mono (by have := HG3.out; omega)))); have HM3 := Lib.hid (HM2.out.keep (hb2.block gm (by omega))); have hlt2 := Nat.lt_of_lt_of_le hlt1 hb2.size; have HO2 := Lib.hid hu2; clear hu2 hb2)
            | fail)
          rw [HSq.out] at HO2
          go_roundg g3
          case measure => omega
          case rel => exact ⟨i + 1, _, by omega, rfl, by go_num, HV2.out, HM3.out, hlt2, HO2.out⟩
    | succ g2 =>
      have hjz : (j : Int) < (B.z.length : Int) := by omega
      have hj : j < B.z.length := by omega
      have hwi : IntKind.i64.wrap ((j : Int) + 1) = (j : Int) + 1 := by rw [IntKind.wrap_i64]; omega
      obtain ⟨bB, oB, hpB, _, hcB⟩ := HV.out.c.rdnB.cells (by intro e; rw [e] at hj; simp at hj)
      subst hpB
      have hyc := hcB j hj
      have HIx : Hid (Sc.inr B.z[j] = true) := HJ.out _ (List.getElem_mem hj)
      have HSq : Hid (B.z.take j ++ [B.z[j]] = B.z.take (j + 1)) := by unfold Hid; rw [← takeI_snoc hj, List.getD_eq_getElem?_getD, List.getElem?_eq_getElem hj]; rfl
      clear hcB
      generalize B.z[j] = c at hyc HSq HIx
      have hsz := HV.out.sz
      go_wp2_with (at_mapUpdate; refine wpList_mark rfl _ _ _ rfl gm j _ rfl HM.out (by omega) c rfl rfl HIx.out ?_; intro w3 hm3 hg3; have hb3 := (Below.refl gm wr).grown hg3 (Nat.le_of_lt HM.out.lt) (fun k e => by cases e; exact Nat.le_refl _); have HV2 := Lib.hid (HV.out.far (hb3.mono HG3.out) (HV.out.c.lay.below HW3.out (hb3.mono (by have := HG3.out; omega)))); have HM3 := Lib.hid hm3; clear hm3 hg3 hb3)
      rw [HSq.out] at HM3
      go_roundg g2
      case measure => omega
      case rel => exact ⟨j + 1, by omega, by go_num, HV2.out, HM3.out⟩
end Go.Proofs.YtpbfbejckhbijaaDoor
