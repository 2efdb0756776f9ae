/- The law's vector; plain facts for Picks. -/
import Derived.Test.YtpbfbejckhbijaaDoorFiAz
import Derived.Test.YtpbfbejckhbijaaDoorFiR
namespace Go.Proofs.YtpbfbejckhbijaaDoor
open Go.RowKit

def vcB (A : Ar) : Bool := !(decide (405 < A.z.length)) && (ck A == 0) && (A.r == 1)
theorem vcB_yes {A : Ar} (h : vcB A = true) : A.z.length ≤ 405 ∧ ck A = 0 ∧ A.r = 1 := by
  unfold vcB at h
  rw [Bool.and_eq_true, Bool.and_eq_true, Bool.not_eq_true', decide_eq_false_iff_not, beq_iff_eq, beq_iff_eq] at h
  exact ⟨by omega, h.1.2, h.2⟩
set_option maxRecDepth 100000 in
set_option maxHeartbeats 4000000 in
theorem vec8_any (A : Ar) (v : Value) (w : World) (hv : RdI w.heap.size w v A.z) :
    Calls Tryd.prog 12 #[A5 A.k A.r A.a A.b v] w fun e w' => e = .returned (.bool (vcB A)) ∧ Below w.heap.size w w' := by
  have HF := Lib.hid (fun W h => far7_any A v W h)
  have HK := Lib.hid (KR.new A.k A.r A.a A.b hv)
  have x0 := HK.out.blk.c0; have x1 := HK.out.blk.c1; have x2 := HK.out.blk.c2; have x3 := HK.out.blk.c3; have x4 := HK.out.blk.c4
  obtain ⟨p, cap, rfl, hcap, hcap2, hcell⟩ := hv
  clear hcell
  unfold vcB
  by_cases h1 : 405 < A.z.length
  · rw [decide_eq_true h1] at HF ⊢
    rw [Bool.not_true, Bool.false_and, Bool.false_and]
    clear h1
    go_enter Tryd.func12, Tryd.ntmps12
    go_wp2_with (first
      | (go_at_call 5; (with_reducible refine (HF.out _ HK.out.rd).mono ?_); rintro e w1 ⟨rfl, hb⟩; have HK2 := Lib.hid (HK.out.next hb); clear hb HK x0 x1 x2 x3 x4; have HK := HK2; clear HK2; have x0 := HK.out.blk.c0; have x1 := HK.out.blk.c1; have x2 := HK.out.blk.c2; have x3 := HK.out.blk.c3; have x4 := HK.out.blk.c4)
      | fail)
    go_ret
    exact ⟨rfl, HK.out.bel⟩
  · rw [decide_eq_false h1] at HF ⊢
    rw [Bool.not_false, Bool.true_and]
    have HC := Lib.hid (fun W h => archeck_any A (.slice p A.z.length cap) W h (by omega))
    clear h1
    obtain ⟨E, hE⟩ : ∃ E, ck A = E := ⟨_, rfl⟩
    rw [hE] at HC ⊢
    clear hE
    by_cases h0 : E = 0
    · subst h0
      rw [beq_self_eq_true, Bool.true_and]
      go_enter Tryd.func12, Tryd.ntmps12
      go_wp2_with (first
        | (go_at_call 5; (with_reducible refine (HF.out _ HK.out.rd).mono ?_); rintro e w1 ⟨rfl, hb⟩; have HK2 := Lib.hid (HK.out.next hb); clear hb HK x0 x1 x2 x3 x4; have HK := HK2; clear HK2; have x0 := HK.out.blk.c0; have x1 := HK.out.blk.c1; have x2 := HK.out.blk.c2; have x3 := HK.out.blk.c3; have x4 := HK.out.blk.c4)
        | (go_at_call 31; (with_reducible refine (HC.out _ HK.out.rd).mono ?_); rintro e w2 ⟨rfl, hb⟩; have HK2 := Lib.hid (HK.out.next hb); clear hb HK x0 x1 x2 x3 x4; have HK := HK2; clear HK2; have x0 := HK.out.blk.c0; have x1 := HK.out.blk.c1; have x2 := HK.out.blk.c2; have x3 := HK.out.blk.c3; have x4 := HK.out.blk.c4)
        | fail)
      go_ret
      exact ⟨rfl, HK.out.bel⟩
    · have k0 : (E == 0) = false := by simpa using h0
      rw [k0, Bool.false_and]
      clear h0
      go_enter Tryd.func12, Tryd.ntmps12
      go_wp2_with (first
        | (go_at_call 5; (with_reducible refine (HF.out _ HK.out.rd).mono ?_); rintro e w1 ⟨rfl, hb⟩; have HK2 := Lib.hid (HK.out.next hb); clear hb HK x0 x1 x2 x3 x4; have HK := HK2; clear HK2; have x0 := HK.out.blk.c0; have x1 := HK.out.blk.c1; have x2 := HK.out.blk.c2; have x3 := HK.out.blk.c3; have x4 := HK.out.blk.c4)
        | (go_at_call 31; (with_reducible refine (HC.out _ HK.out.rd).mono ?_); rintro e w2 ⟨rfl, hb⟩; have HK2 := Lib.hid (HK.out.next hb); clear hb HK x0 x1 x2 x3 x4; have HK := HK2; clear HK2; have x0 := HK.out.blk.c0; have x1 := HK.out.blk.c1; have x2 := HK.out.blk.c2; have x3 := HK.out.blk.c3; have x4 := HK.out.blk.c4)
        | fail)
      go_ret
      exact ⟨rfl, HK.out.bel⟩

/-- How many numbers are not 0. -/
def cnt : List Int → Nat
  | [] => 0
  | x :: l => if x = 0 then cnt l else cnt l + 1
def oth (l : List Int) : List Int := l.map fun x => if x = 0 then 1 else 0
theorem cnt_le : ∀ l : List Int, cnt l ≤ l.length
  | [] => Nat.le_refl _
  | x :: l => by have := cnt_le l; unfold cnt; split <;> simp only [List.length_cons] <;> omega
theorem cnt_snoc : ∀ (l : List Int) (x : Int), cnt (l ++ [x]) = if x = 0 then cnt l else cnt l + 1
  | [], x => by simp [cnt]
  | y :: l, x => by
    have := cnt_snoc l x
    simp only [List.cons_append, cnt, this]
    by_cases h1 : y = 0 <;> by_cases h2 : x = 0 <;> simp [h1, h2]
theorem oth_len (l : List Int) : (oth l).length = l.length := by simp [oth]
theorem oth_snoc (l : List Int) (x : Int) : oth (l ++ [x]) = oth l ++ [if x = 0 then 1 else 0] := by simp [oth]
theorem cnt_oth : ∀ l : List Int, cnt (oth l) + cnt l = l.length
  | [] => rfl
  | x :: l => by
    have := cnt_oth l
    unfold oth at this ⊢
    simp only [List.map_cons, cnt, List.length_cons]
    by_cases h : x = 0
    · rw [if_pos h, if_neg (by decide), if_pos h]; omega
    · rw [if_neg h, if_pos rfl, if_neg h]; omega
theorem pkZ_cnt : ∀ {m v : List Int}, m.length = v.length → (pkZ m v).length = cnt m
  | [], [], _ => rfl
  | x :: m, y :: v, h => by
    have := pkZ_cnt (m := m) (v := v) (by simpa using h)
    unfold pkZ cnt
    split
    · exact this
    · rw [List.length_cons, this]
  | [], _ :: _, h => by simp at h
  | _ :: _, [], h => by simp at h
theorem pkZ_map (f : Int → Int) : ∀ m v : List Int, pkZ m (v.map f) = (pkZ m v).map f
  | x :: m, y :: v => by
    have := pkZ_map f m v
    simp only [List.map_cons, pkZ]
    split
    · exact this
    · rw [List.map_cons, this]
  | [], v => by simp [pkZ]
  | _ :: _, [] => by simp [pkZ]
theorem up_look (z : List Int) : (upZ z.length).map (fun p => z.getD p.toNat 0) = z := by
  refine ext_getD (by rw [List.length_map, upZ_len]) fun t ht => ?_
  rw [List.length_map, upZ_len] at ht
  have h : (upZ z.length)[t]? = some (t : Int) := by simp [upZ, ht]
  rw [List.getD_eq_getElem?_getD, List.getElem?_map, h]
  rfl
theorem up_in {n : Nat} {p : Int} (h : p ∈ upZ n) : inS n p = true := by
  unfold upZ at h
  obtain ⟨i, hi, rfl⟩ := List.mem_map.1 h
  have := List.mem_range.1 hi
  unfold inS
  rw [Bool.and_eq_true, decide_eq_true_iff, decide_eq_true_iff]
  exact ⟨Int.natCast_nonneg i, Int.ofNat_lt.2 this⟩
/-- Iota of a number. -/
theorem io_int {n : Nat} (h : n ≤ 400) : ioE ⟨1, 0, 0, 0, [(n : Int)]⟩ = 0 ∧ ioV ⟨1, 0, 0, 0, [(n : Int)]⟩ = ⟨1, 1, (upZ n).length, 0, upZ n⟩ := by
  have hg : Good ⟨1, 0, 0, 0, [(n : Int)]⟩ := ⟨.inl rfl, Sh.s0, by simp [cn], fun e => by cases e⟩
  have h1 : oneF ⟨1, 0, 0, 0, [(n : Int)]⟩ 1 0 = 0 := by unfold oneF; rw [if_pos (good_ck hg), if_pos rfl, if_pos rfl]
  have hf : fst1 ⟨1, 0, 0, 0, [(n : Int)]⟩ = (n : Int) := rfl
  have h0 : ioE ⟨1, 0, 0, 0, [(n : Int)]⟩ = 0 := by unfold ioE; rw [if_pos h1, hf, if_neg (by omega), if_neg (by omega)]
  refine ⟨h0, ?_⟩
  unfold ioV
  rw [orNo_yes h0, hf, Int.toNat_natCast]
  rfl
theorem pkT_vec {M V : Ar} (hM : ck M = 0) (hV : ck V = 0) (hk : M.k = 1) (h1 : M.r = 1) (h2 : V.r = 1) : pkT M V = 0 :=
  (if_pos hM).trans ((if_pos hV).trans ((if_pos ⟨hk, rfl⟩).trans (if_neg (by omega))))
theorem lkT_vec {V I : Ar} (hV : ck V = 0) (hI : ck I = 0) (hk : I.k = 1) (h1 : V.r = 1) (h2 : I.r = 0 ∨ I.r = 1) : lkT V I = 0 :=
  (if_pos hV).trans ((if_pos hI).trans ((if_pos ⟨rfl, hk⟩).trans (if_neg (by omega))))
/-- What Picks looks at. -/
theorem picks8 {M V : Ar} (hM : ck M = 0) (hV : ck V = 0) (hk : M.k = 1) (h1 : M.r = 1) (h2 : V.r = 1) (hl : M.z.length = V.z.length) :
    pkE M V = 0 ∧ pkV M V = ⟨V.k, 1, (pkZ M.z V.z).length, 0, pkZ M.z V.z⟩ ∧
    pkE M ⟨1, 1, (upZ M.z.length).length, 0, upZ M.z.length⟩ = 0 ∧ pkV M ⟨1, 1, (upZ M.z.length).length, 0, upZ M.z.length⟩ = ⟨1, 1, (pkZ M.z (upZ M.z.length)).length, 0, pkZ M.z (upZ M.z.length)⟩ ∧
    lkE V ⟨1, 1, (pkZ M.z (upZ M.z.length)).length, 0, pkZ M.z (upZ M.z.length)⟩ = 0 ∧ lkV V ⟨1, 1, (pkZ M.z (upZ M.z.length)).length, 0, pkZ M.z (upZ M.z.length)⟩ = ⟨V.k, 1, (pkZ M.z V.z).length, 0, pkZ M.z V.z⟩ ∧
    pkE ⟨1, 1, (oth M.z).length, 0, oth M.z⟩ V = 0 ∧ pkV ⟨1, 1, (oth M.z).length, 0, oth M.z⟩ V = ⟨V.k, 1, (pkZ (oth M.z) V.z).length, 0, pkZ (oth M.z) V.z⟩ ∧
    (pkZ M.z V.z).length = cnt M.z ∧ (pkZ (oth M.z) V.z).length + cnt M.z = M.z.length := by
  have l4 := (ck_good hM).len4
  have e1 : pkE M V = 0 := by unfold pkE; rw [if_pos (pkT_vec hM hV hk h1 h2), if_pos hl]
  have cu : ck ⟨1, 1, (upZ M.z.length).length, 0, upZ M.z.length⟩ = 0 := ck_vec (.inl rfl) (by rw [upZ_len]; exact l4) (fun e => by cases e)
  have e2 : pkE M ⟨1, 1, (upZ M.z.length).length, 0, upZ M.z.length⟩ = 0 := by
    unfold pkE; rw [if_pos (pkT_vec hM cu hk h1 rfl)]; exact if_pos (upZ_len _).symm
  have cp : ck ⟨1, 1, (pkZ M.z (upZ M.z.length)).length, 0, pkZ M.z (upZ M.z.length)⟩ = 0 := pk_ck (pkT_vec hM cu hk h1 rfl)
  have e3 : lkE V ⟨1, 1, (pkZ M.z (upZ M.z.length)).length, 0, pkZ M.z (upZ M.z.length)⟩ = 0 := by
    unfold lkE
    rw [if_pos (lkT_vec hV cp rfl h2 (.inr rfl))]
    refine if_pos (List.all_eq_true.2 fun p hp => ?_)
    rw [← hl]
    exact up_in (pkZ_mem hp)
  have hz : lkZ V ⟨1, 1, (pkZ M.z (upZ M.z.length)).length, 0, pkZ M.z (upZ M.z.length)⟩ = pkZ M.z V.z := by
    show (pkZ M.z (upZ M.z.length)).map (fun p => V.z.getD p.toNat 0) = _
    rw [← pkZ_map, hl, up_look]
  have co : ck ⟨1, 1, (oth M.z).length, 0, oth M.z⟩ = 0 := ck_vec (.inl rfl) (by rw [oth_len]; exact l4) (fun e => by cases e)
  have ho : (oth M.z).length = V.z.length := by rw [oth_len, hl]
  have e4 : pkE ⟨1, 1, (oth M.z).length, 0, oth M.z⟩ V = 0 := by unfold pkE; rw [if_pos (pkT_vec co hV rfl rfl h2)]; exact if_pos ho
  have c1 := pkZ_cnt hl
  have c2 : (pkZ M.z (upZ M.z.length)).length = cnt M.z := pkZ_cnt (upZ_len _).symm
  have c3 := pkZ_cnt ho
  have c4 := cnt_oth M.z
  refine ⟨e1, orNo_yes e1, e2, orNo_yes e2, e3, ?_, e4, orNo_yes e4, c1, by rw [c3]; exact c4⟩
  unfold lkV
  rw [orNo_yes e3, hz, c2, c1]
end Go.Proofs.YtpbfbejckhbijaaDoor
