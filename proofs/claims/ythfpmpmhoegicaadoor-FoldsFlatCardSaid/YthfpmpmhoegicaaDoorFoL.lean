/- The laws' good, width, joined; plain facts. -/
import Derived.Test.YthfpmpmhoegicaaDoorFoK
import Derived.BigQuiet
namespace Go.Proofs.YthfpmpmhoegicaaDoor
open Go.RowKit

/-- An int vector or matrix. -/
structure isG (A : Ar) : Prop where
  l : A.z.length ≤ 405
  c : ck A = 0
  k : A.k = 1
  r : A.r = 1 ∨ A.r = 2
def gdB (A : Ar) : Bool := decide (¬ 405 < A.z.length) && ck A == 0 && A.k == 1 && decide (0 < A.r)
theorem gdB_yes {A : Ar} (h : gdB A = true) : isG A := by
  unfold gdB at h
  simp only [Bool.and_eq_true, decide_eq_true_eq, beq_iff_eq] at h
  obtain ⟨⟨⟨h1, h2⟩, h3⟩, h4⟩ := h
  exact ⟨by omega, h2, h3, by rcases (ck_good h2).r3 with e | e | e <;> omega⟩
theorem isG.fa {A : Ar} (h : isG A) (kd : Bool) (hk : kd = true) : faE kd A = 0 := faE_yes h.c hk h.r
theorem isG.kd {A : Ar} (h : isG A) : (A.k == 1) = true := by rw [h.k]; rfl
theorem isG.sm {A : Ar} (h : isG A) : smE A = feL ((rwL A).map sm1) := if_pos (h.fa _ h.kd)
theorem isG.en {A : Ar} (h : isG A) : enE A = if 0 < rwN A ∧ rwM A = 0 then 13 else 0 := if_pos (h.fa _ h.kd)
theorem sm1_err (row : List Int) : (sm1 row).2 = 0 ∨ (sm1 row).2 = 12 := by unfold sm1; split; (· exact .inl rfl); exact .inr rfl
theorem feL_12 : ∀ (l : List (Int × Int)), (∀ c ∈ l, c.2 = 0 ∨ c.2 = 12) → feL l = 0 ∨ feL l = 12
  | [], _ => .inl rfl
  | c :: l, h => by
    by_cases h0 : c.2 = 0
    · rw [feL_cons0 h0]; exact feL_12 l fun c hc => h c (by simp [hc])
    · rw [feL_cons1 h0]; exact (h c (by simp)).resolve_left h0 |> .inr
theorem isG.sm12 {A : Ar} (h : isG A) (h0 : smE A ≠ 0) : smE A = 12 := by
  rw [h.sm] at h0 ⊢
  refine (feL_12 _ fun c hc => ?_).resolve_left h0
  obtain ⟨row, _, rfl⟩ := List.mem_map.1 hc
  exact sm1_err row
theorem okS_row {A : Ar} (h : isG A) (h0 : smE A = 0) {i : Nat} (hi : i < rwN A) : okS 0 (rwI A i) = true := by
  rw [h.sm] at h0
  have h1 : i < (rwL A).length := by rw [rwL_len h.c]; exact hi
  have h2 := feL_zero.1 h0 (sm1 (rwI A i)) (List.mem_map.2 ⟨rwI A i, by rw [← rwL_get h.c i h1]; exact List.getElem_mem h1, rfl⟩)
  unfold sm1 at h2
  by_cases e : okS 0 (rwI A i) = true
  · exact e
  · rw [if_neg e] at h2; cases h2
theorem smV_at {A : Ar} (h : isG A) (h0 : smE A = 0) {i : Nat} (hi : i < rwN A) : (smV A).z.getD i 0 = (rwI A i).sum := by
  have h1 : i < (rwL A).length := by rw [rwL_len h.c]; exact hi
  unfold smV
  rw [orNo_yes h0, ofR_z]
  refine vsL_at (e := 0) ?_
  rw [List.getElem?_map, List.getElem?_eq_getElem h1, rwL_get h.c, Option.map_some, sm1_yes (okS_row h h0 hi)]
theorem flat_at : ∀ {L : List (List Int)} {m i k : Nat}, (∀ l ∈ L, l.length = m) → ∀ (hi : i < L.length), k < m → L.flatten.getD (i * m + k) 0 = L[i].getD k 0
  | [], _, _, _, _, hi, _ => absurd hi (by simp)
  | l :: L, m, 0, k, h, _, hk => by
    have hl := h l (by simp)
    rw [List.flatten_cons, Nat.zero_mul, Nat.zero_add, List.getD_eq_getElem?_getD, List.getElem?_append_left (by omega), ← List.getD_eq_getElem?_getD]
    rfl
  | l :: L, m, i + 1, k, h, hi, hk => by
    have hl := h l (by simp)
    rw [List.flatten_cons, List.getD_eq_getElem?_getD, Nat.add_mul, Nat.one_mul, List.getElem?_append_right (by omega), hl, show i * m + m + k - m = i * m + k by omega, ← List.getD_eq_getElem?_getD]
    exact flat_at (fun l hl => h l (by simp [hl])) (by simpa using hi) hk
theorem snc_at {A : Ar} (h : isG A) (h0 : smE A = 0) {i k : Nat} (hi : i < rwN A) (hk : k < rwM A) : (sncV A).z.getD (i * rwM A + k) 0 = ((rwI A i).take (k + 1)).sum := by
  have h1 : i < (rwL A).length := by rw [rwL_len h.c]; exact hi
  unfold sncV
  rw [orNo_yes h0]
  show (flt _).getD _ 0 = _
  unfold flt
  rw [flat_at (m := rwM A) (fun l hl => ?_) (by rw [List.length_map]; exact h1) hk, List.getElem_map, rwL_get h.c, scL_at 0 (by rw [rwI_len (ck_good h.c) hi]; exact hk), Int.zero_add]
  obtain ⟨row, hr, rfl⟩ := List.mem_map.1 hl
  obtain ⟨j, hj, e⟩ := List.mem_iff_getElem.1 hr
  rw [rwL_get h.c] at e
  rw [scL_len, ← e, rwI_len (ck_good h.c) (by rw [← rwL_len h.c]; exact hj)]
theorem cell_row {A : Ar} (h : ck A = 0) {i k : Nat} (hi : i < rwN A) (hk : k < rwM A) : A.z.getD (i * rwM A + k) 0 = (rwI A i).getD k 0 := by
  have hl := rwI_len (ck_good h) hi
  obtain ⟨_, _, r2, _, _⟩ := rw_good (ck_good h)
  have hle := Nat.mul_le_mul_right (rwM A) (show i + 1 ≤ rwN A by omega)
  rw [Nat.add_mul, Nat.one_mul] at hle
  rw [List.getD_eq_getElem?_getD, List.getD_eq_getElem?_getD, List.getElem?_eq_getElem (by omega), List.getElem?_eq_getElem (by omega), rwI_get (by omega)]

set_option maxRecDepth 100000 in
set_option maxHeartbeats 4000000 in
theorem good_any (A : Ar) (v : Value) (w : World) (hv : RdI w.heap.size w v A.z) :
    Calls Tryd.prog 12 #[A5 A.k A.r A.a A.b v] w fun e w' => e = .returned (.bool (gdB A)) ∧ Below w.heap.size w w' := by
  have HF := Lib.hid (fun W h => far7_any A v W h)
  have HK := Lib.hid (KR.new A.k A.r A.a A.b hv)
  have x0 := HK.out.blk.c0; have x1 := HK.out.blk.c1; have x2 := HK.out.blk.c2; have x3 := HK.out.blk.c3; have x4 := HK.out.blk.c4
  obtain ⟨p, cap, rfl, hcap, hcap2, hcell⟩ := hv
  clear hcell
  unfold gdB
  by_cases h0 : 405 < A.z.length
  · rw [decide_eq_true h0] at HF
    have e0 : decide (¬ 405 < A.z.length) = false := decide_eq_false (not_not_intro h0)
    rw [e0]
    simp only [Bool.false_and]
    clear h0 e0
    go_enter Tryd.func12, Tryd.ntmps12
    go_wp2_with (first
      | (go_at_call 20; (with_reducible refine (HF.out _ HK.out.rd).mono ?_); rintro e w' ⟨rfl, hb⟩; have HK2 := Lib.hid (HK.out.next hb); clear HK hb x0 x1 x2 x3 x4; have HK := HK2; clear HK2; have x0 := HK.out.blk.c0; have x1 := HK.out.blk.c1; have x2 := HK.out.blk.c2; have x3 := HK.out.blk.c3; have x4 := HK.out.blk.c4)
      | fail)
    go_ret
    exact ⟨rfl, HK.out.bel⟩
  have HC := Lib.hid (fun W h => archeck_any A (.slice p A.z.length cap) W h (by omega))
  rw [decide_eq_false h0] at HF
  have e0 : decide (¬ 405 < A.z.length) = true := decide_eq_true h0
  rw [e0]
  simp only [Bool.true_and]
  clear h0 e0
  by_cases h1 : ck A = 0
  · rw [h1] at HC ⊢
    simp only [beq_self_eq_true, Bool.true_and]
    clear h1
    by_cases h2 : A.k = 1
    · have k2 : (A.k == 1) = true := by simpa using h2
      rw [k2, Bool.true_and]
      clear h2
      by_cases h3 : 0 < A.r
      · have k3 : decide (0 < A.r) = true := decide_eq_true h3
        rw [k3]
        clear h3
        go_enter Tryd.func12, Tryd.ntmps12
        go_wp2_with (first
          | (go_at_call 20; (with_reducible refine (HF.out _ HK.out.rd).mono ?_); rintro e w' ⟨rfl, hb⟩; have HK2 := Lib.hid (HK.out.next hb); clear HK hb x0 x1 x2 x3 x4; have HK := HK2; clear HK2; have x0 := HK.out.blk.c0; have x1 := HK.out.blk.c1; have x2 := HK.out.blk.c2; have x3 := HK.out.blk.c3; have x4 := HK.out.blk.c4)
          | (go_at_call 40; (with_reducible refine (HC.out _ HK.out.rd).mono ?_); rintro e w' ⟨rfl, hb⟩; have HK2 := Lib.hid (HK.out.next hb); clear HK hb x0 x1 x2 x3 x4; have HK := HK2; clear HK2; have x0 := HK.out.blk.c0; have x1 := HK.out.blk.c1; have x2 := HK.out.blk.c2; have x3 := HK.out.blk.c3; have x4 := HK.out.blk.c4)
          | fail)
        go_ret
        exact ⟨rfl, HK.out.bel⟩
      · have k3 : decide (0 < A.r) = false := decide_eq_false h3
        rw [k3]
        clear h3
        go_enter Tryd.func12, Tryd.ntmps12
        go_wp2_with (first
          | (go_at_call 20; (with_reducible refine (HF.out _ HK.out.rd).mono ?_); rintro e w' ⟨rfl, hb⟩; have HK2 := Lib.hid (HK.out.next hb); clear HK hb x0 x1 x2 x3 x4; have HK := HK2; clear HK2; have x0 := HK.out.blk.c0; have x1 := HK.out.blk.c1; have x2 := HK.out.blk.c2; have x3 := HK.out.blk.c3; have x4 := HK.out.blk.c4)
          | (go_at_call 40; (with_reducible refine (HC.out _ HK.out.rd).mono ?_); rintro e w' ⟨rfl, hb⟩; have HK2 := Lib.hid (HK.out.next hb); clear HK hb x0 x1 x2 x3 x4; have HK := HK2; clear HK2; have x0 := HK.out.blk.c0; have x1 := HK.out.blk.c1; have x2 := HK.out.blk.c2; have x3 := HK.out.blk.c3; have x4 := HK.out.blk.c4)
          | fail)
        go_ret
        exact ⟨rfl, HK.out.bel⟩
    · have k2 : (A.k == 1) = false := by simpa using h2
      rw [k2, Bool.false_and]
      clear h2
      go_enter Tryd.func12, Tryd.ntmps12
      go_wp2_with (first
        | (go_at_call 20; (with_reducible refine (HF.out _ HK.out.rd).mono ?_); rintro e w' ⟨rfl, hb⟩; have HK2 := Lib.hid (HK.out.next hb); clear HK hb x0 x1 x2 x3 x4; have HK := HK2; clear HK2; have x0 := HK.out.blk.c0; have x1 := HK.out.blk.c1; have x2 := HK.out.blk.c2; have x3 := HK.out.blk.c3; have x4 := HK.out.blk.c4)
        | (go_at_call 40; (with_reducible refine (HC.out _ HK.out.rd).mono ?_); rintro e w' ⟨rfl, hb⟩; have HK2 := Lib.hid (HK.out.next hb); clear HK hb x0 x1 x2 x3 x4; have HK := HK2; clear HK2; have x0 := HK.out.blk.c0; have x1 := HK.out.blk.c1; have x2 := HK.out.blk.c2; have x3 := HK.out.blk.c3; have x4 := HK.out.blk.c4)
        | fail)
      go_ret
      exact ⟨rfl, HK.out.bel⟩
  · have k1 : (ck A == 0) = false := by simpa using h1
    rw [k1, Bool.false_and, Bool.false_and]
    generalize ck A = E at HC k1
    clear h1
    go_enter Tryd.func12, Tryd.ntmps12
    go_wp2_with (first
      | (go_at_call 20; (with_reducible refine (HF.out _ HK.out.rd).mono ?_); rintro e w' ⟨rfl, hb⟩; have HK2 := Lib.hid (HK.out.next hb); clear HK hb x0 x1 x2 x3 x4; have HK := HK2; clear HK2; have x0 := HK.out.blk.c0; have x1 := HK.out.blk.c1; have x2 := HK.out.blk.c2; have x3 := HK.out.blk.c3; have x4 := HK.out.blk.c4)
      | (go_at_call 40; (with_reducible refine (HC.out _ HK.out.rd).mono ?_); rintro e w' ⟨rfl, hb⟩; have HK2 := Lib.hid (HK.out.next hb); clear HK hb x0 x1 x2 x3 x4; have HK := HK2; clear HK2; have x0 := HK.out.blk.c0; have x1 := HK.out.blk.c1; have x2 := HK.out.blk.c2; have x3 := HK.out.blk.c3; have x4 := HK.out.blk.c4)
      | fail)
    go_ret
    exact ⟨rfl, HK.out.bel⟩

end Go.Proofs.YthfpmpmhoegicaaDoor
