/- The law RunesOrder: its pure facts. -/
import Derived.Test.YtomffjaeafcpdaaDoorRuS
import Derived.Test.YtomffjaeafcpdaaDoorRuY
import Derived.Test.YtomffjaeafcpdaaDoorRuX
import Derived.Test.YtomffjaeafcpdaaDoorRuT
namespace Go.Proofs.YtomffjaeafcpdaaDoor
open Go.RowKit

/-- How many starts lie below a place. -/
def ats (l : List UInt8) (k : Nat) : Nat := (sts l).countP fun x => decide (x < k)
theorem ups_pw : ∀ (es : List Nat) (c : Nat), ups c es → List.Pairwise (· < ·) (c :: es)
  | [], _, _ => by simp
  | e :: r, c, h => by
    refine List.pairwise_cons.2 ⟨ups_lt (e :: r) c h, ups_pw r e h.2.2⟩
theorem sts_pw (l : List UInt8) : List.Pairwise (· < ·) (sts l) := ups_pw _ 0 (rns_ups l)
theorem ats_zero (l : List UInt8) : ats l 0 = 0 := by unfold ats; rw [List.countP_eq_zero]; simp
theorem cnt_low : ∀ (l : List Nat) (k : Nat), (∀ x ∈ l, k ≤ x) → l.countP (fun x => decide (x < k)) = 0 := by
  intro l k h
  rw [List.countP_eq_zero]
  intro x hx
  have := h x hx
  simp; omega
theorem cnt_mem : ∀ (l : List Nat) (k : Nat), List.Pairwise (· < ·) l → k ∈ l → l[l.countP (fun x => decide (x < k))]? = some k ∧ l.countP (fun x => decide (x < k + 1)) = l.countP (fun x => decide (x < k)) + 1
  | [], _, _, h => by cases h
  | x :: r, k, hp, h => by
    obtain ⟨h1, h2⟩ := List.pairwise_cons.1 hp
    rcases Nat.lt_or_ge x k with hlt | hge
    · have hm : k ∈ r := by
        rcases List.mem_cons.1 h with e | e
        · omega
        · exact e
      obtain ⟨i1, i2⟩ := cnt_mem r k h2 hm
      have d1 : decide (x < k) = true := decide_eq_true hlt
      have d2 : decide (x < k + 1) = true := decide_eq_true (by omega)
      rw [List.countP_cons_of_pos (by exact d1), List.countP_cons_of_pos (by exact d2)]
      exact ⟨by rw [List.getElem?_cons_succ]; exact i1, by rw [i2]⟩
    · have hx : x = k := by
        rcases List.mem_cons.1 h with e | e
        · exact e.symm
        · have := h1 k e; omega
      subst hx
      have d1 : ¬ decide (x < x) = true := by simp
      have d2 : decide (x < x + 1) = true := decide_eq_true (by omega)
      rw [List.countP_cons_of_neg (by exact d1), List.countP_cons_of_pos (by exact d2), cnt_low r x (fun y hy => by have := h1 y hy; omega), cnt_low r (x + 1) (fun y hy => by have := h1 y hy; omega)]
      exact ⟨rfl, rfl⟩
theorem ats_mem (l : List UInt8) (k : Nat) (h : k ∈ sts l) : (sts l)[ats l k]? = some k ∧ ats l (k + 1) = ats l k + 1 := cnt_mem _ k (sts_pw l) h
theorem ats_not (l : List UInt8) (k : Nat) (h : k ∉ sts l) : ats l (k + 1) = ats l k := by
  unfold ats
  refine List.countP_congr fun x hx => ?_
  have : x ≠ k := fun e => h (e ▸ hx)
  simp only [decide_eq_true_eq]; omega
theorem rnF_le (f : Nat) : ∀ (k : Nat) (l : List UInt8), ∀ e ∈ (rnF f k l).map (·.2), e ≤ k + l.length := by
  induction f with
  | zero => intro k l e h; simp [rnF] at h
  | succ f ih =>
    intro k l e h
    unfold rnF at h
    by_cases hd : (dec l).2.2 = 0
    · have hw := dec_w l hd
      rw [if_pos hd, List.map_cons] at h
      rcases List.mem_cons.1 h with rfl | h
      · simp only; omega
      · have := ih _ _ e h
        rw [List.length_drop] at this
        omega
    · rw [if_neg hd] at h; simp at h
theorem ats_end (l : List UInt8) : ats l (l.length + 1) = (sts l).length := by
  unfold ats
  rw [List.countP_eq_length]
  intro x hx
  simp only [decide_eq_true_eq]
  unfold sts at hx
  rcases List.mem_cons.1 hx with rfl | hx
  · omega
  · have := rnF_le l.length 0 l x (by unfold rns at hx; exact hx)
    omega
theorem ats_le (l : List UInt8) (k : Nat) : ats l k ≤ (sts l).length := List.countP_le_length
theorem sta_ok (l : List UInt8) (h : chkE l = 0) : staV l = (sts l).map fun (z : Nat) => (z : Int) := by unfold staV; rw [if_pos h]
theorem run_ok (l : List UInt8) (h : chkE l = 0) : ((runV l).length : Int) = ((staV l).length : Int) - 1 := by
  rw [sta_ok l h]; unfold runV sts; rw [if_pos h]; simp
theorem sta_at (l : List UInt8) (h : chkE l = 0) (k : Nat) (hk : k ∈ sts l) : (staV l)[ats l k]? = some (k : Int) := by
  rw [sta_ok l h, List.getElem?_map, (ats_mem l k hk).1]; rfl
/-- What is on a start, and what is not. -/
theorem on_yes (l : List UInt8) (h : chkE l = 0) (k : Nat) (hk : k ≤ l.length) (hm : k ∈ sts l) : chkE (l.take k) = 0 ∧ chkE (l.drop k) = 0 ∧ bakE l k = 0 ∧ bakV l k = k ∧ onV l k = true := by
  obtain ⟨a, b⟩ := (cut_sts l h k hk).1 hm
  have hb : bakE l k = 0 := by unfold bakE; rw [if_pos h, if_neg (by omega)]
  have hv : bakV l k = k := by unfold bakV; rw [if_pos hb, Int.toNat_natCast]; exact ((backV_spec l h k hk).2.2).2 hm
  exact ⟨a, b, hb, hv, by unfold onV; exact decide_eq_true ⟨hb, by rw [hv]⟩⟩
theorem on_not (l : List UInt8) (h : chkE l = 0) (k : Nat) (hk : k ≤ l.length) (hm : k ∉ sts l) : ¬ (chkE (l.take k) = 0 ∧ chkE (l.drop k) = 0) ∧ bakE l k = 0 ∧ bakV l k < k ∧ k ≤ bakV l k + 3 ∧ onV l k = false := by
  have hb : bakE l k = 0 := by unfold bakE; rw [if_pos h, if_neg (by omega)]
  have hs := backV_spec l h k hk
  have hv : bakV l k = backV l k := by unfold bakV; rw [if_pos hb, Int.toNat_natCast]
  have hne : backV l k ≠ k := fun e => hm ((hs.2.2).1 e)
  refine ⟨fun e => hm ((cut_sts l h k hk).2 e), hb, by omega, by omega, ?_⟩
  unfold onV
  refine decide_eq_false fun e => ?_
  have := e.2
  omega

/-- Encode, of any number. -/
def encE (r : Int) : Int := if isR r = true then 0 else 7
def encB (r : Int) : List UInt8 := if isR r = true then enc r.toNat else []
theorem encE_ok (r : Int) (h : isR r = true) : encE r = 0 := if_pos h
theorem encE_no (r : Int) (h : isR r = false) : encE r = 7 := if_neg (by rw [h]; decide)
theorem encB_ok (r : Int) (h : isR r = true) : encB r = enc r.toNat := if_pos h
theorem encode_any (r : Int) (w : World) (hw : Lay w) :
    Calls Tryd.prog 9 #[.int .i64 r] w fun e w' => ∃ v, e = .returned (.tuple #[v, .int .i64 (encE r)]) ∧ Bys w' w.heap.size v (encB r) ∧ Below w.heap.size w w' := by
  cases h : isR r
  · refine (encode_bad r w h).mono ?_
    rintro e w' ⟨rfl, rfl⟩
    refine ⟨_, by rw [encE_no r h], ?_, Below.refl _ _⟩
    have : encB r = [] := if_neg (by rw [h]; decide)
    rw [this]
    exact World.ownsRow_nil _ _ _ _
  · have h0 : 0 ≤ r := by simp [isR] at h; omega
    obtain ⟨n, rfl⟩ : ∃ n : Nat, r = n := ⟨r.toNat, by omega⟩
    refine (encode_ok n w hw h).mono ?_
    rintro e w' ⟨v, rfl, hv, hb⟩
    refine ⟨v, by rw [encE_ok _ h], ?_, hb⟩
    rw [encB_ok _ h, Int.toNat_natCast]; exact hv
theorem enc_cmp (r s : Int) (hr : isR r = true) (hs : isR s = true) : Op.bytesLess (encB r) (encB s) = decide (r < s) ∧ (encB r == encB s) = decide (r = s) := by
  have r0 : 0 ≤ r ∧ r ≤ 1114111 := by simp [isR] at hr; omega
  have s0 : 0 ≤ s ∧ s ≤ 1114111 := by simp [isR] at hs; omega
  rw [encB_ok r hr, encB_ok s hs, enc_less _ _ (by omega) (by omega), enc_eq _ _ (by omega) (by omega)]
  constructor
  · rw [decide_eq_decide]; omega
  · rw [decide_eq_decide]; omega
end Go.Proofs.YtomffjaeafcpdaaDoor
