/- The reference's Pick and Grade. -/
import Derived.Test.YtpbfbejckhbijaaDoorFiPg
import Derived.Test.YtpbfbejckhbijaaDoorFiI
namespace Go.Proofs.YtpbfbejckhbijaaDoor
open Go.RowKit

set_option maxRecDepth 100000 in
set_option maxHeartbeats 16000000 in
theorem rpick_any8 (A B : Ar) (v u : Value) (w : World) (hw : Ru.Lay w) (hv : RdI w.heap.size w v A.z) (hu : RdI w.heap.size w u B.z) (hl : A.z.length ≤ 100000) (hl' : B.z.length ≤ 100000) :
    Calls Tryd.prog 8 #[A5 A.k A.r A.a A.b v, A5 B.k B.r B.a B.b u] w (RetE (pkV A B) (pkE A B) w) := by
  have HTw : Hid (∀ W, Ru.Lay W → RdI W.heap.size W v A.z → RdI W.heap.size W u B.z → Calls Tryd.prog 22 #[A5 A.k A.r A.a A.b v, A5 B.k B.r B.a B.b u, .int .i64 1, .int .i64 1] W fun e w' => e = .returned (.int .i64 (pkT A B)) ∧ Below W.heap.size W w') := fun W h1 h2 h3 => two_any A B 1 1 v u W h1 h2 h3 (by omega) (by omega)
  have HK := Lib.hid (MK2.new (A := A) (B := B) hw hv hu)
  have HW3 := Lib.hid hw.size
  have x0 := HK.out.c.boxA.c0; have x1 := HK.out.c.boxA.c1; have x2 := HK.out.c.boxA.c2; have x3 := HK.out.c.boxA.c3; have x4 := HK.out.c.boxA.c4; have y0 := HK.out.c.boxB.c0; have y1 := HK.out.c.boxB.c1; have y2 := HK.out.c.boxB.c2; have y3 := HK.out.c.boxB.c3; have y4 := HK.out.c.boxB.c4
  obtain ⟨p, cap, rfl, _, _, _⟩ := hv
  obtain ⟨q, cap', rfl, _, _, _⟩ := hu
  clear hw
  by_cases h1 : pkT A B ≠ 0
  · have hE : pkE A B = pkT A B := if_neg h1
    rw [show pkV A B = Ar.no from orNo_no (by rw [hE]; exact h1), hE]
    generalize pkT A B = E at h1 HTw ⊢
    have k1 : (E == 0) = false := by simpa using h1
    have k2 : (E != 0) = true := by simpa using h1
    clear h1 hE
    go_enter Tryd.func8, Tryd.ntmps8
    go_wp2_with (go_at_call 22; (with_reducible refine (HTw.out _ HK.out.c.lay HK.out.c.rdnA HK.out.c.rdnB).mono ?_); rintro e w1 ⟨rfl, hb⟩; have HK2 := Lib.hid (HK.out.next hb); clear HK x0 x1 x2 x3 x4 y0 y1 y2 y3 y4; have HK := HK2; clear HK2; have x0 := HK.out.c.boxA.c0; have x1 := HK.out.c.boxA.c1; have x2 := HK.out.c.boxA.c2; have x3 := HK.out.c.boxA.c3; have x4 := HK.out.c.boxA.c4; have y0 := HK.out.c.boxB.c0; have y1 := HK.out.c.boxB.c1; have y2 := HK.out.c.boxB.c2; have y3 := HK.out.c.boxB.c3; have y4 := HK.out.c.boxB.c4; clear hb; have y0 := HK.out.res.c0; have y1 := HK.out.res.c1; have y2 := HK.out.res.c2; have y3 := HK.out.res.c3; have y4 := HK.out.res.c4; have f0 := HK.out.res.fr 0; have f1 := HK.out.res.fr 1; have f2 := HK.out.res.fr 2; have f3 := HK.out.res.fr 3; have f4 := HK.out.res.fr 4; have HS := Lib.hid (HK.out.res.set 0 0 0 0 (.slice none 0 0)); have z0 := HS.out.c0; have z1 := HS.out.c1; have z2 := HS.out.c2; have z3 := HS.out.c3; have z4 := HS.out.c4)
    exact bodyPost_ret (v := .tuple #[A5 0 0 0 0 (.slice none 0 0), .int .i64 E]) (by simp [results, Tryd.results8, go_sem, z0, z1, z2, z3, z4]) rfl (retE_no _ (st5_below _ _ _ _ _ (by omega) HK.out.c.bel))
  have h0 : pkT A B = 0 := by omega
  rw [h0] at HTw
  have hl4 := (ck_good (twoE_ok h0).1).len4
  have hl5 := (ck_good (twoE_ok h0).2.1).len4
  by_cases h2 : A.z.length = B.z.length
  rotate_left
  · have hE : pkE A B = 11 := by unfold pkE; rw [if_pos h0, if_neg h2]
    rw [show pkV A B = Ar.no from orNo_no (by rw [hE]; decide), hE]
    have k1 : ((A.z.length : Int) != (B.z.length : Int)) = true := by rw [bne_iff_ne]; omega
    clear h0 h1 h2 hE
    go_enter Tryd.func8, Tryd.ntmps8
    go_wp2_with (go_at_call 22; (with_reducible refine (HTw.out _ HK.out.c.lay HK.out.c.rdnA HK.out.c.rdnB).mono ?_); rintro e w1 ⟨rfl, hb⟩; have HK2 := Lib.hid (HK.out.next hb); clear HK x0 x1 x2 x3 x4 y0 y1 y2 y3 y4; have HK := HK2; clear HK2; have x0 := HK.out.c.boxA.c0; have x1 := HK.out.c.boxA.c1; have x2 := HK.out.c.boxA.c2; have x3 := HK.out.c.boxA.c3; have x4 := HK.out.c.boxA.c4; have y0 := HK.out.c.boxB.c0; have y1 := HK.out.c.boxB.c1; have y2 := HK.out.c.boxB.c2; have y3 := HK.out.c.boxB.c3; have y4 := HK.out.c.boxB.c4; clear hb; have y0 := HK.out.res.c0; have y1 := HK.out.res.c1; have y2 := HK.out.res.c2; have y3 := HK.out.res.c3; have y4 := HK.out.res.c4; have f0 := HK.out.res.fr 0; have f1 := HK.out.res.fr 1; have f2 := HK.out.res.fr 2; have f3 := HK.out.res.fr 3; have f4 := HK.out.res.fr 4; have HS := Lib.hid (HK.out.res.set 0 0 0 0 (.slice none 0 0)); have z0 := HS.out.c0; have z1 := HS.out.c1; have z2 := HS.out.c2; have z3 := HS.out.c3; have z4 := HS.out.c4)
    exact bodyPost_ret (v := .tuple #[A5 0 0 0 0 (.slice none 0 0), .int .i64 11]) (by simp [results, Tryd.results8, go_sem, z0, z1, z2, z3, z4]) rfl (retE_no _ (st5_below _ _ _ _ _ (by omega) HK.out.c.bel))
  have hE : pkE A B = 0 := by unfold pkE; rw [if_pos h0, if_pos h2]
  rw [show pkV A B = vecA B.k (pkZ A.z B.z) from orNo_yes hE, hE]
  have k1 : ((A.z.length : Int) != (B.z.length : Int)) = false := by simp [h2]
  have HMk : Hid (∀ W u, RdI W.heap.size W u (pkZ A.z B.z) → Ru.NilC u → Calls Tryd.prog 23 #[.int .i64 B.k, u] W fun e w' => ∃ q c, e = .returned (A5 B.k 1 (pkZ A.z B.z).length 0 (.slice q (pkZ A.z B.z).length c)) ∧ RdN W.heap.size w' (.slice q (pkZ A.z B.z).length c) (pkZ A.z B.z) ∧ Below W.heap.size W w') := fun W u g2 g3 => by
    have hp := pkZ_le A.z B.z
    exact vec_lit g2 g3 (by omega)
  have HSn := Lib.hid (fun j (hj : j < A.z.length) => pkZ_take (m := A.z) (v := B.z) h2 hj)
  have HPl : Hid (∀ j, (pkZ (A.z.take j) (B.z.take j)).length ≤ 1000) := fun j => by have := pkZ_le (A.z.take j) (B.z.take j); rw [List.length_take] at this; omega
  have HZe : Hid (pkZ (A.z.take A.z.length) (B.z.take A.z.length) = pkZ A.z B.z) := by unfold Hid; rw [List.take_length, List.take_of_length_le (by omega)]
  have HLb := Lib.hid h2
  clear h0 h1 h2 hE
  go_enter Tryd.func8, Tryd.ntmps8
  go_wp2_with (go_at_call 22; (with_reducible refine (HTw.out _ HK.out.c.lay HK.out.c.rdnA HK.out.c.rdnB).mono ?_); rintro e w1 ⟨rfl, hb⟩; have HK2 := Lib.hid (HK.out.next hb); clear HK x0 x1 x2 x3 x4 y0 y1 y2 y3 y4; have HK := HK2; clear HK2; have x0 := HK.out.c.boxA.c0; have x1 := HK.out.c.boxA.c1; have x2 := HK.out.c.boxA.c2; have x3 := HK.out.c.boxA.c3; have x4 := HK.out.c.boxA.c4; have y0 := HK.out.c.boxB.c0; have y1 := HK.out.c.boxB.c1; have y2 := HK.out.c.boxB.c2; have y3 := HK.out.c.boxB.c3; have y4 := HK.out.c.boxB.c4; clear hb)
  have HK0 : Hid (K27 w A (.slice p A.z.length cap) B (.slice q B.z.length cap') (.slice none 0 0) (pkZ (A.z.take 0) (B.z.take 0)) w1) := ⟨HK.out, by simpa [pkZ] using ins_nil _ _⟩
  clear HK HTw k1 x0 x1 x2 x3 x4 y0 y1 y2 y3 y4
  go_loopg [7, 8] A.z.length (fun gk s q9 wr => ∃ (j : Nat) (U : Value), j + gk = A.z.length ∧ s = U ∧ q9 = .int .i64 j ∧ K27 w A (.slice p A.z.length cap) B (.slice q B.z.length cap') U (pkZ (A.z.take j) (B.z.take j)) wr)
  case atStart => exact ⟨0, _, by omega, rfl, rfl, HK0.out⟩
  case round =>
    obtain ⟨j, s0, hjg, rfl, rfl, hk⟩ := hrel
    have HV := Lib.hid hk
    clear hk HK0
    have x4 := HV.out.m.c.boxA.c4
    cases gk with
    | zero =>
      have hjz : ¬ ((j : Int) < (A.z.length : Int)) := by omega
      have HO : Hid (RdI wr.heap.size wr u7 (pkZ A.z B.z) ∧ Ru.NilC u7) := by
        have h := (ins_new HV.out.own).rd
        have hn := ins_nilC HV.out.own
        rw [show j = A.z.length by omega, HZe.out] at h
        exact ⟨h, hn⟩
      have HK := Lib.hid HV.out.m
      clear HV HSn HPl HZe x4
      obtain ⟨Z, hZ⟩ : ∃ Z, pkZ A.z B.z = Z := ⟨_, rfl⟩
      have HZe2 : Hid (vecA B.k (pkZ A.z B.z) = ⟨B.k, 1, Z.length, 0, Z⟩) := by unfold Hid; rw [hZ]; rfl
      rw [hZ] at HMk HO
      clear hZ
      have x0 := HK.out.c.boxA.c0; have x1 := HK.out.c.boxA.c1; have x2 := HK.out.c.boxA.c2; have x3 := HK.out.c.boxA.c3; have x4 := HK.out.c.boxA.c4; have y0 := HK.out.c.boxB.c0; have y1 := HK.out.c.boxB.c1; have y2 := HK.out.c.boxB.c2; have y3 := HK.out.c.boxB.c3; have y4 := HK.out.c.boxB.c4
      obtain ⟨pz, cz, hpz, _, _, _⟩ := HO.out.1
      subst hpz
      go_wp2_with (go_at_call 23; (with_reducible refine (HMk.out _ _ HO.out.1 HO.out.2).mono ?_); rintro e w3 ⟨qq, qc, rfl, hu, hb⟩; have HU := Lib.hid hu; have hlt := HK.out.sz; have HK2 := Lib.hid (HK.out.next hb); clear hu hb HK; have HK := HK2; clear HK2; have y0 := HK.out.res.c0; have y1 := HK.out.res.c1; have y2 := HK.out.res.c2; have y3 := HK.out.res.c3; have y4 := HK.out.res.c4; have f0 := HK.out.res.fr 0; have f1 := HK.out.res.fr 1; have f2 := HK.out.res.fr 2; have f3 := HK.out.res.fr 3; have f4 := HK.out.res.fr 4; have HS := Lib.hid (HK.out.res.set B.k 1 Z.length 0 (.slice qq Z.length qc)); have z0 := HS.out.c0; have z1 := HS.out.c1; have z2 := HS.out.c2; have z3 := HS.out.c3; have z4 := HS.out.c4)
      rw [HZe2.out]
      refine bodyPost_ret (v := .tuple #[A5 B.k 1 Z.length 0 (.slice qq Z.length qc), .int .i64 0]) (by simp [results, Tryd.results8, go_sem, z0, z1, z2, z3, z4]) rfl ?_
      exact ⟨_, rfl, (HU.out.st5 (by omega) _ _ _ _ _).mono (by omega), st5_below _ _ _ _ _ (by omega) HK.out.c.bel⟩
    | succ g2 =>
      have hjz : (j : Int) < (A.z.length : Int) := by omega
      have hj : j < A.z.length := by omega
      have hjb : j < B.z.length := by have := HLb.out; omega
      have hwi : IntKind.i64.wrap ((j : Int) + 1) = (j : Int) + 1 := by rw [IntKind.wrap_i64]; omega
      obtain ⟨bA, oA, hpA, _, hcA⟩ := HV.out.m.c.rdnA.cells (by intro e; rw [e] at hj; simp at hj)
      subst hpA
      have hxc := hcA j hj
      have HSq := Lib.hid (HSn.out j hj)
      rw [show A.z.getD j 0 = A.z[j] by rw [List.getD_eq_getElem?_getD, List.getElem?_eq_getElem hj]; rfl, show B.z.getD j 0 = B.z[j] by rw [List.getD_eq_getElem?_getD, List.getElem?_eq_getElem hjb]; rfl] at HSq
      clear hcA
      generalize A.z[j] = x at hxc HSq
      have y4 := HV.out.m.c.boxB.c4
      have hsz : w.heap.size + 3 ≤ wr.heap.size := HV.out.m.sz
      by_cases hx : x = 0
      · have k2 : (x != 0) = false := by simpa using hx
        rw [if_pos hx] at HSq
        have HV2 : Hid (K27 w A (.slice (some ⟨bA, oA, none⟩) A.z.length cap) B (.slice q B.z.length cap') u7 (pkZ (A.z.take (j + 1)) (B.z.take (j + 1))) wr) := by unfold Hid; rw [HSq.out]; exact HV.out
        clear hx
        go_wp2_with fail
        go_roundg g2
        case measure => omega
        case rel => exact ⟨j + 1, _, by omega, rfl, by go_num, HV2.out⟩
      · have k2 : (x != 0) = true := by simpa using hx
        rw [if_neg hx] at HSq
        clear hx
        obtain ⟨bB, oB, hpB, _, hcB⟩ := HV.out.m.c.rdnB.cells (by intro e; rw [e] at hjb; simp at hjb)
        subst hpB
        have hyc := hcB j hjb
        clear hcB
        generalize B.z[j] = c at hyc HSq
        have hjbi : (j : Int) < (B.z.length : Int) := by omega
        have hlen : (pkZ (A.z.take j) (B.z.take j)).length + 1 ≤ 1000000 := by have := HPl.out j; omega
        go_wp2_with (at_builtin; refine wpList_app1 (by simp [Region.wanted]) _ _ rfl (w.heap.size + 3) _ (pkZ (A.z.take j) (B.z.take j)) rfl HV.out.own c rfl hlen hsz ?_; intro u2 w2 hu2 hb2; have HV2 := Lib.hid (HV.out.step HW3.out hu2 hb2); clear hu2 hb2)
        rw [← HSq.out] at HV2
        go_roundg g2
        case measure => omega
        case rel => exact ⟨j + 1, _, by omega, rfl, by go_num, HV2.out⟩

/-- The places set so far: those whose place is below i. -/
def gzf (F : Nat → Nat) (i t : Nat) : Value := if F t < i then .int .i64 (F t) else .int .i64 0
def rkN (z : List Int) (i k : Nat) : Nat := (List.range k).countP (rkP z i)
theorem rkN_le (z : List Int) (i k : Nat) : rkN z i k ≤ k := by unfold rkN; have := List.countP_le_length (p := rkP z i) (l := List.range k); simpa using this
theorem rkN_succ (z : List Int) (i k : Nat) : rkN z i (k + 1) = if rkP z i k then rkN z i k + 1 else rkN z i k := by
  unfold rkN
  rw [List.range_succ, List.countP_append]
  by_cases h : rkP z i k = true
  · simp [h]
  · simp [h]
/-- The sorted places as a function, and where each one stands. -/
theorem grS_rank0 (z : List Int) (h0 : 0 < z.length) : ∃ F : Nat → Nat, (∀ t, t < z.length → F t < z.length ∧ (grS z).getD t 0 = (F t : Int)) ∧ (∀ i, i < z.length → rkN z i z.length < z.length ∧ ∀ t, t < z.length → (F t = i ↔ t = rkN z i z.length)) := by
  obtain ⟨n, hn⟩ : ∃ n, z.length = n + 1 := ⟨z.length - 1, by omega⟩
  have hb := grS_asc z hn
  have hg : grS z = (Sort.insertionSort (ltOf (cfF z)) (Array.ofFn (fun i : Fin (n + 1) => i)) 0 (n + 1)).toList.map fun i => (i.val : Int) := by unfold grS; rw [hn]
  generalize hd : Sort.insertionSort (ltOf (cfF z)) (Array.ofFn (fun i : Fin (n + 1) => i)) 0 (n + 1) = d at hb hg
  have hds : d.size = n + 1 := by rw [← hd, insSort_size]; simp
  clear hd
  have ha : Asc (ltZ z) (fun t => d[t]!) 0 (n + 1) := hb.1
  rw [hn]
  refine ⟨fun t => (d[t]!).val, fun t ht => ⟨(d[t]!).isLt, ?_⟩, fun i hi => ?_⟩
  · show _ = ((d[t]!).val : Int)
    rw [hg, List.getD_eq_getElem?_getD, List.getElem?_map, Array.getElem?_toList, getElem!_pos d t (by omega), Array.getElem?_eq_getElem (by omega)]
    rfl
  · obtain ⟨p, hp, e⟩ := asc_onto ha hi
    have hr := asc_rank ha hp
    have e' : (d[p]!).val = i := e
    have hr2 : rkN z i (n + 1) = p := by unfold rkN; rw [← e']; exact hr
    rw [hr2]
    refine ⟨hp, fun t ht => ⟨fun h => ?_, fun h => by rw [h]; exact e'⟩⟩
    have hr3 := asc_rank ha ht
    have h' : (d[t]!).val = i := h
    have : rkN z i (n + 1) = t := by unfold rkN; rw [← h']; exact hr3
    omega
theorem grS_rank (z : List Int) : ∃ F : Nat → Nat, (∀ t, t < z.length → F t < z.length ∧ (grS z).getD t 0 = (F t : Int)) ∧ (∀ i, i < z.length → rkN z i z.length < z.length ∧ ∀ t, t < z.length → (F t = i ↔ t = rkN z i z.length)) := by
  by_cases h : 0 < z.length
  · exact grS_rank0 z h
  · exact ⟨fun _ => 0, fun t ht => by omega, fun i hi => by omega⟩
theorem gzf_next {w : World} {g n i p : Nat} {F : Nat → Nat} (h : w.rowIs g 2 n (gzf F i)) (hF : ∀ t, t < n → (F t = i ↔ t = p)) : (w.setCell ⟨g, p, none⟩ (.int .i64 (i : Int))).rowIs g 2 n (gzf F (i + 1)) := by
  refine (h.set p _).congr fun t ht => ?_
  show (if t = p then Value.int .i64 (i : Int) else gzf F i t) = gzf F (i + 1) t
  unfold gzf
  by_cases e : t = p
  · have := (hF t ht).2 e
    rw [if_pos e, if_pos (by omega), this]
  · have hne : F t ≠ i := fun h2 => e ((hF t ht).1 h2)
    rw [if_neg e]
    by_cases h3 : F t < i
    · rw [if_pos h3, if_pos (by omega)]
    · rw [if_neg h3, if_neg (by omega)]
set_option maxRecDepth 100000 in
set_option maxHeartbeats 16000000 in
theorem rgrade_any8 (A : Ar) (v : Value) (w : World) (hw : Ru.Lay w) (hv : RdI w.heap.size w v A.z) (hl : A.z.length ≤ 100000) :
    Calls Tryd.prog 10 #[A5 A.k A.r A.a A.b v] w (RetE (grV A) (grE A) w) := by
  have HFa : Hid (∀ W, RdI W.heap.size W v A.z → Calls Tryd.prog 29 #[A5 A.k A.r A.a A.b v, .int .i64 1] W fun e w' => e = .returned (.int .i64 (grE A)) ∧ Below W.heap.size W w') := fun W h => rone_any8 A 1 v W h (by omega)
  have HK := Lib.hid (MK1.new (A := A) hw hv)
  have HW3 := Lib.hid hw.size
  have x0 := HK.out.box.c0; have x1 := HK.out.box.c1; have x2 := HK.out.box.c2; have x3 := HK.out.box.c3; have x4 := HK.out.box.c4
  obtain ⟨p, cap, rfl, _, _, _⟩ := hv
  clear hw
  by_cases h1 : grE A ≠ 0
  · rw [show grV A = Ar.no from orNo_no h1]
    generalize grE A = E at h1 HFa ⊢
    have k1 : (E != 0) = true := by simpa using h1
    clear h1
    go_enter Tryd.func10, Tryd.ntmps10
    go_wp2_with (go_at_call 29; (with_reducible refine (HFa.out _ HK.out.rdn).mono ?_); rintro e w1 ⟨rfl, hb⟩; have HK2 := Lib.hid (HK.out.next hb); clear HK x0 x1 x2 x3 x4; have HK := HK2; clear HK2; have x0 := HK.out.box.c0; have x1 := HK.out.box.c1; have x2 := HK.out.box.c2; have x3 := HK.out.box.c3; have x4 := HK.out.box.c4; clear hb; have y0 := HK.out.res.c0; have y1 := HK.out.res.c1; have y2 := HK.out.res.c2; have y3 := HK.out.res.c3; have y4 := HK.out.res.c4; have f0 := HK.out.res.fr 0; have f1 := HK.out.res.fr 1; have f2 := HK.out.res.fr 2; have f3 := HK.out.res.fr 3; have f4 := HK.out.res.fr 4; have HS := Lib.hid (HK.out.res.set 0 0 0 0 (.slice none 0 0)); have z0 := HS.out.c0; have z1 := HS.out.c1; have z2 := HS.out.c2; have z3 := HS.out.c3; have z4 := HS.out.c4)
    exact bodyPost_ret (v := .tuple #[A5 0 0 0 0 (.slice none 0 0), .int .i64 E]) (by simp [results, Tryd.results10, go_sem, z0, z1, z2, z3, z4]) rfl (retE_no _ (st5_below _ _ _ _ _ (by omega) HK.out.bel))
  have h0 : grE A = 0 := by omega
  have hl4 := (ck_good (oneF_ok h0).1).len4
  rw [show grV A = ⟨1, 1, (grS A.z).length, 0, grS A.z⟩ from orNo_yes h0, h0]
  rw [h0] at HFa
  obtain ⟨F, hF1, hF2⟩ := grS_rank A.z
  have HF1 := Lib.hid hF1
  have HF2 := Lib.hid hF2
  have HGl := Lib.hid (grS_len A.z)
  have HVe : Hid (∀ W u, RdI W.heap.size W u (grS A.z) → Ru.NilC u → Calls Tryd.prog 23 #[.int .i64 1, u] W fun e w' => ∃ q c, e = .returned (A5 1 1 (grS A.z).length 0 (.slice q (grS A.z).length c)) ∧ RdN W.heap.size w' (.slice q (grS A.z).length c) (grS A.z) ∧ Below W.heap.size W w') := fun W u g2 g3 => vec_lit g2 g3 (by rw [grS_len]; omega)
  have HEnd : Hid (∀ (W : World) g, W.rowIs g 2 A.z.length (gzf F A.z.length) → RdI W.heap.size W (.slice (some ⟨g, 0, none⟩) A.z.length A.z.length) (grS A.z)) := fun W g h => by
    refine ⟨_, _, by rw [grS_len], by rw [grS_len]; exact Nat.le_refl _, by omega, fun _ => ⟨g, 0, rfl, h.lt, fun j hj => ?_⟩⟩
    rw [grS_len] at hj
    rw [Nat.zero_add, h.cell hj]
    unfold gzf
    obtain ⟨e1, e2⟩ := hF1 j hj
    rw [if_pos e1, ← e2, List.getD_eq_getElem?_getD, List.getElem?_eq_getElem (by rw [grS_len]; exact hj)]
    rfl
  obtain ⟨i0, hi, hz0, hz1, hz2⟩ := info_parts info64
  have hmk := fun (W : World) => run_make (P := Tryd.prog) W 23 2 i0 (.int .i64 0) Tryd.underlying23 hi hz0 .i64 .i64 A.z.length A.z.length (by omega) (by omega) (by rw [hz2]; omega) (by omega)
  have hmk2 : ∀ W, _ := fun W => by have h := hmk W; rw [Int.toNat_natCast, hz1, Nat.mul_one] at h; exact h
  clear hmk h0 h1 hF1 hF2
  have HR0 : Hid (∀ W : World, (W.alloc (.cells (madeCells (Value.int .i64 0).cells A.z.length) 2)).rowIs W.heap.size 2 A.z.length (gzf F 0)) := fun W => (World.rowIs_made W (.int .i64 0) A.z.length 2).congr fun i _ => by unfold gzf; rw [if_neg (by omega)]
  go_enter Tryd.func10, Tryd.ntmps10
  go_upto_region 5 with (go_at_call 29; (with_reducible refine (HFa.out _ HK.out.rdn).mono ?_); rintro e w1 ⟨rfl, hb⟩; have HK2 := Lib.hid (HK.out.next hb); clear HK x0 x1 x2 x3 x4; have HK := HK2; clear HK2; have x0 := HK.out.box.c0; have x1 := HK.out.box.c1; have x2 := HK.out.box.c2; have x3 := HK.out.box.c3; have x4 := HK.out.box.c4; clear hb)
  clear hmk2 HFa
  obtain ⟨g, hg⟩ : ∃ g, g = w1.heap.size := ⟨_, rfl⟩
  have HK0 : Hid (MK1 w A (.slice p A.z.length cap) (w1.alloc (.cells (madeCells #[.int .i64 0] A.z.length) 2)) ∧ (w1.alloc (.cells (madeCells #[.int .i64 0] A.z.length) 2)).rowIs g 2 A.z.length (gzf F 0)) := ⟨HK.out.next (bel1 _ _), by rw [hg]; exact HR0.out w1⟩
  have HG : Hid (w.heap.size + 2 ≤ g) := by unfold Hid; rw [hg]; exact HK.out.sz
  rw [← hg]
  clear HR0 HK x0 x1 x2 x3 x4
  generalize hW2 : w1.alloc (.cells (madeCells #[.int .i64 0] A.z.length) 2) = W2 at HK0 ⊢
  clear hW2 hg hz0 hz1 hz2 hi
  have HK := Lib.hid HK0.out.1
  go_wp2_with fail
  go_loopg [6] A.z.length (fun gk vi wr => ∃ (i : Nat), i + gk = A.z.length ∧ vi = .int .i64 i ∧ MK1 w A (.slice p A.z.length cap) wr ∧ wr.rowIs g 2 A.z.length (gzf F i))
  case atStart => exact ⟨0, by omega, rfl, HK0.out.1, HK0.out.2⟩
  case round =>
    obtain ⟨i, hig, rfl, hk, hr⟩ := hrel
    clear HK0 HK
    have HK := Lib.hid hk
    have HR := Lib.hid hr
    clear hk hr
    have x0 := HK.out.box.c0; have x1 := HK.out.box.c1; have x2 := HK.out.box.c2; have x3 := HK.out.box.c3; have x4 := HK.out.box.c4
    cases gk with
    | zero =>
      have hiz : ¬ ((i : Int) < (A.z.length : Int)) := by omega
      have HO : Hid (RdI wr.heap.size wr (.slice (some ⟨g, 0, none⟩) A.z.length A.z.length) (grS A.z)) := HEnd.out wr g (by have h := HR.out; rwa [show i = A.z.length by omega] at h)
      clear HR HF1 HF2 HEnd
      clear HGl
      obtain ⟨Z, hZ⟩ : ∃ Z, grS A.z = Z := ⟨_, rfl⟩
      rw [hZ] at HO HVe
      have HZ := Lib.hid hZ
      clear hZ
      go_wp2_with (go_at_call 23; (with_reducible refine (HVe.out _ _ HO.out (nil_some _ _ _)).mono ?_); rintro e w3 ⟨qq, qc, rfl, hu, hb⟩; have HU := Lib.hid hu; have hlt := HK.out.sz; have HK2 := Lib.hid (HK.out.next hb); clear HK x0 x1 x2 x3 x4; have HK := HK2; clear HK2; have x0 := HK.out.box.c0; have x1 := HK.out.box.c1; have x2 := HK.out.box.c2; have x3 := HK.out.box.c3; have x4 := HK.out.box.c4; clear hu hb; have y0 := HK.out.res.c0; have y1 := HK.out.res.c1; have y2 := HK.out.res.c2; have y3 := HK.out.res.c3; have y4 := HK.out.res.c4; have f0 := HK.out.res.fr 0; have f1 := HK.out.res.fr 1; have f2 := HK.out.res.fr 2; have f3 := HK.out.res.fr 3; have f4 := HK.out.res.fr 4; have HS := Lib.hid (HK.out.res.set 1 1 Z.length 0 (.slice qq Z.length qc)); have z0 := HS.out.c0; have z1 := HS.out.c1; have z2 := HS.out.c2; have z3 := HS.out.c3; have z4 := HS.out.c4)
      refine bodyPost_ret (v := .tuple #[A5 1 1 Z.length 0 (.slice qq Z.length qc), .int .i64 0]) (by simp [results, Tryd.results10, go_sem, z0, z1, z2, z3, z4]) rfl ?_
      rw [HZ.out]
      exact ⟨_, rfl, (HU.out.st5 (by omega) _ _ _ _ _).mono (by omega), st5_below _ _ _ _ _ (by omega) HK.out.bel⟩
    | succ g1 =>
      have hiz : (i : Int) < (A.z.length : Int) := by omega
      have hi : i < A.z.length := by omega
      have hwi : IntKind.i64.wrap ((i : Int) + 1) = (i : Int) + 1 := by rw [IntKind.wrap_i64]; omega
      go_wp2_with fail
      go_loopg [7, 8] A.z.length (fun gk vt vk wr => ∃ (k : Nat), k + gk = A.z.length ∧ vt = .int .i64 (rkN A.z i k) ∧ vk = .int .i64 k ∧ MK1 w A (.slice p A.z.length cap) wr ∧ wr.rowIs g 2 A.z.length (gzf F i))
      case atStart => exact ⟨0, by omega, rfl, rfl, HK.out, HR.out⟩
      case round =>
        clear HK HR x0 x1 x2 x3 x4
        obtain ⟨k, hkg, rfl, rfl, hk, hr⟩ := hrel
        have HK := Lib.hid hk
        have HR := Lib.hid hr
        clear hk hr
        have x4 := HK.out.box.c4
        cases gk with
        | zero =>
          have hkz : ¬ ((k : Int) < (A.z.length : Int)) := by omega
          have hke : k = A.z.length := by omega
          obtain ⟨h1, h2⟩ := HF2.out i hi
          rw [hke]
          have HNx : Hid ((wr.setCell ⟨g, rkN A.z i A.z.length, none⟩ (.int .i64 (i : Int))).rowIs g 2 A.z.length (gzf F (i + 1))) := gzf_next HR.out h2
          have hyc := HR.out.cell h1
          have hyf := HR.out.frozen (rkN A.z i A.z.length)
          have hkz2 : ((rkN A.z i A.z.length : Nat) : Int) < (A.z.length : Int) := by omega
          have HKn : Hid (MK1 w A (.slice p A.z.length cap) (wr.setCell ⟨g, rkN A.z i A.z.length, none⟩ (.int .i64 (i : Int)))) := HK.out.far ((Below.refl _ _).setCell (p := ⟨g, rkN A.z i A.z.length, none⟩) HG.out _) (HK.out.lay.below HW3.out ((Below.refl _ _).setCell (p := ⟨g, rkN A.z i A.z.length, none⟩) (by have := HG.out; show w.heap.size ≤ g; omega) _))
          clear h2 hke HR HK HEnd HVe HF1 HF2
          generalize rkN A.z i A.z.length = r at h1 HNx hyc hyf hkz2 HKn ⊢
          generalize gzf F i r = y at hyc
          go_wp2_with fail
          go_roundg g1
          case measure => omega
          case rel => exact ⟨i + 1, by omega, by go_num, HKn.out, HNx.out⟩
        | succ g2 =>
          have hkz : (k : Int) < (A.z.length : Int) := by omega
          have hk : k < A.z.length := by omega
          have hwk : IntKind.i64.wrap ((k : Int) + 1) = (k : Int) + 1 := by rw [IntKind.wrap_i64]; omega
          obtain ⟨bA, oA, hpA, _, hcA⟩ := HK.out.rdn.cells (by intro e; rw [e] at hi; simp at hi)
          subst hpA
          have hxc := hcA k hk
          have hyc := hcA i hi
          have hR := rkN_succ A.z i k
          unfold rkP at hR
          rw [show A.z.getD k 0 = A.z[k] by rw [List.getD_eq_getElem?_getD, List.getElem?_eq_getElem hk]; rfl, show A.z.getD i 0 = A.z[i] by rw [List.getD_eq_getElem?_getD, List.getElem?_eq_getElem hi]; rfl] at hR
          have hrle := rkN_le A.z i k
          clear hcA
          have HKd : Hid (∀ n, MK1 w A (.slice (some ⟨bA, oA, none⟩) A.z.length cap) (wr.drewN n) ∧ (wr.drewN n).rowIs g 2 A.z.length (gzf F i)) := fun n => ⟨HK.out.next (below_drewN (Below.refl _ _) n), HR.out⟩
          generalize A.z[k] = x at hxc hR
          generalize A.z[i] = y at hyc hR
          have HRk := Lib.hid hR
          clear hR HEnd HVe HF1 HF2 HR HK
          have hrw : IntKind.i64.wrap ((rkN A.z i k : Int) + 1) = (rkN A.z i k : Int) + 1 := by rw [IntKind.wrap_i64]; omega
          by_cases c1 : x < y
          · have q1 : decide (x < y) = true := decide_eq_true c1
            have HC : Hid (rkN A.z i (k + 1) = rkN A.z i k + 1) := by unfold Hid; rw [HRk.out]; simp [c1]
            clear HRk c1
            generalize rkN A.z i k = r at hrle hrw HC ⊢
            go_wp2_with fail
            go_quiet (fail)
            go_wp2_with fail
            go_roundg g2
            case measure => omega
            case rel => exact ⟨k + 1, by omega, by rw [HC.out]; first | rfl | go_num, by go_num, (HKd.out _).1, (HKd.out _).2⟩
          · have q1 : decide (x < y) = false := decide_eq_false c1
            by_cases c2 : k < i
            · have q2 : decide ((k : Int) < (i : Int)) = true := decide_eq_true (by omega)
              have q2n : decide (k < i) = true := decide_eq_true c2
              by_cases c3 : x = y
              · have q3 : (x == y) = true := by simpa using c3
                have HC : Hid (rkN A.z i (k + 1) = rkN A.z i k + 1) := by unfold Hid; rw [HRk.out]; simp [c2, c3]
                clear HRk c1 c2 c3
                generalize rkN A.z i k = r at hrle hrw HC ⊢
                go_wp2_with fail
                go_quiet (fail)
                go_wp2_with fail
                go_roundg g2
                case measure => omega
                case rel => exact ⟨k + 1, by omega, by rw [HC.out]; first | rfl | go_num, by go_num, (HKd.out _).1, (HKd.out _).2⟩
              · have q3 : (x == y) = false := by simpa using c3
                have HC : Hid (rkN A.z i (k + 1) = rkN A.z i k + 0) := by unfold Hid; rw [HRk.out]; simp [c1, c2, c3]
                clear HRk c1 c2 c3
                generalize rkN A.z i k = r at hrle hrw HC ⊢
                go_wp2_with fail
                go_quiet (fail)
                go_wp2_with fail
                go_roundg g2
                case measure => omega
                case rel => exact ⟨k + 1, by omega, by rw [HC.out]; rfl, by go_num, (HKd.out _).1, (HKd.out _).2⟩
            · have q2 : decide ((k : Int) < (i : Int)) = false := decide_eq_false (by omega)
              have q2n : decide (k < i) = false := decide_eq_false c2
              have HC : Hid (rkN A.z i (k + 1) = rkN A.z i k + 0) := by unfold Hid; rw [HRk.out]; simp [c1, c2]
              clear HRk c1 c2
              generalize rkN A.z i k = r at hrle hrw HC ⊢
              go_wp2_with fail
              go_quiet (fail)
              go_wp2_with fail
              go_roundg g2
              case measure => omega
              case rel => exact ⟨k + 1, by omega, by rw [HC.out]; rfl, by go_num, (HKd.out _).1, (HKd.out _).2⟩
end Go.Proofs.YtpbfbejckhbijaaDoor
