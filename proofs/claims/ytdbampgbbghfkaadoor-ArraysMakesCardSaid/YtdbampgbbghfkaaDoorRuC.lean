/- Order of encodings; strings put together. No run in this text. -/
import Derived.Test.YtdbampgbbghfkaaDoorRuB
import GoSem.Op.String
namespace Go.Proofs.YtdbampgbbghfkaaDoor.Ru
open Go

theorem lt8 (a b : Nat) (ha : a < 256) (hb : b < 256) : (UInt8.ofNat a < UInt8.ofNat b) = (a < b) := by
  rw [UInt8.lt_iff_toNat_lt, on a ha, on b hb]
theorem eq8 (a b : Nat) (ha : a < 256) (hb : b < 256) : (UInt8.ofNat a == UInt8.ofNat b) = decide (a = b) := by
  rw [Bool.eq_iff_iff]; simp only [beq_iff_eq, decide_eq_true_eq]
  constructor
  · intro h; have := congrArg UInt8.toNat h; rw [on a ha, on b hb] at this; exact this
  · intro h; rw [h]
def nl : List Nat → List Nat → Bool
  | _, [] => false
  | [], _ :: _ => true
  | a :: x, b :: y => decide (a < b) || (decide (a = b) && nl x y)
theorem bl_nl : ∀ (x y : List Nat), (∀ a ∈ x, a < 256) → (∀ a ∈ y, a < 256) → Op.bytesLess (x.map UInt8.ofNat) (y.map UInt8.ofNat) = nl x y
  | _, [], _, _ => by simp [Op.bytesLess, nl]
  | [], b :: y, _, _ => by simp [Op.bytesLess, nl]
  | a :: x, b :: y, hx, hy => by
    simp only [List.map_cons, Op.bytesLess, nl]
    rw [bl_nl x y (fun c hc => hx c (by simp [hc])) (fun c hc => hy c (by simp [hc])), eq8 a b (hx a (by simp)) (hy b (by simp))]
    congr 1
    rw [decide_eq_decide, lt8 a b (hx a (by simp)) (hy b (by simp))]
theorem encN_lt (r : Nat) (h : r ≤ 1114111) : ∀ a ∈ encN r, a < 256 := by
  unfold encN
  split
  · intro a ha; simp at ha; omega
  · split
    · intro a ha; simp at ha; omega
    · split
      · intro a ha; simp at ha; omega
      · intro a ha; simp at ha; omega
theorem nl_enc (r s : Nat) (hr : r ≤ 1114111) (hs : s ≤ 1114111) : nl (encN r) (encN s) = decide (r < s) := by
  unfold encN
  by_cases a : r < 128
  · rw [if_pos a]
    by_cases a' : s < 128
    · rw [if_pos a']; rw [Bool.eq_iff_iff]; simp [nl]
    rw [if_neg a']
    by_cases b' : s < 2048
    · rw [if_pos b']; rw [Bool.eq_iff_iff]; simp [nl]; omega
    rw [if_neg b']
    by_cases c' : s < 65536
    · rw [if_pos c']; rw [Bool.eq_iff_iff]; simp [nl]; omega
    rw [if_neg c']; rw [Bool.eq_iff_iff]; simp [nl]; omega
  rw [if_neg a]
  by_cases b : r < 2048
  · rw [if_pos b]
    by_cases a' : s < 128
    · rw [if_pos a']; rw [Bool.eq_iff_iff]; simp [nl]; omega
    rw [if_neg a']
    by_cases b' : s < 2048
    · rw [if_pos b']; rw [Bool.eq_iff_iff]; simp [nl]; omega
    rw [if_neg b']
    by_cases c' : s < 65536
    · rw [if_pos c']; rw [Bool.eq_iff_iff]; simp [nl]; omega
    rw [if_neg c']; rw [Bool.eq_iff_iff]; simp [nl]; omega
  rw [if_neg b]
  by_cases c : r < 65536
  · rw [if_pos c]
    by_cases a' : s < 128
    · rw [if_pos a']; rw [Bool.eq_iff_iff]; simp [nl]; omega
    rw [if_neg a']
    by_cases b' : s < 2048
    · rw [if_pos b']; rw [Bool.eq_iff_iff]; simp [nl]; omega
    rw [if_neg b']
    by_cases c' : s < 65536
    · rw [if_pos c']; rw [Bool.eq_iff_iff]; simp [nl]; omega
    rw [if_neg c']; rw [Bool.eq_iff_iff]; simp [nl]; omega
  rw [if_neg c]
  by_cases a' : s < 128
  · rw [if_pos a']; rw [Bool.eq_iff_iff]; simp [nl]; omega
  rw [if_neg a']
  by_cases b' : s < 2048
  · rw [if_pos b']; rw [Bool.eq_iff_iff]; simp [nl]; omega
  rw [if_neg b']
  by_cases c' : s < 65536
  · rw [if_pos c']; rw [Bool.eq_iff_iff]; simp [nl]; omega
  rw [if_neg c']; rw [Bool.eq_iff_iff]; simp [nl]; omega
/-- The bytes of runes are ordered as runes are. -/
theorem enc_less (r s : Nat) (hr : r ≤ 1114111) (hs : s ≤ 1114111) : Op.bytesLess (enc r) (enc s) = decide (r < s) := by
  unfold enc; rw [bl_nl _ _ (encN_lt r hr) (encN_lt s hs), nl_enc r s hr hs]
theorem enc_eq (r s : Nat) (hr : r ≤ 1114111) (hs : s ≤ 1114111) : (enc r == enc s) = decide (r = s) := by
  rw [Bool.eq_iff_iff]; simp only [beq_iff_eq, decide_eq_true_eq]
  constructor
  · intro h
    have h1 := enc_less r s hr hs
    have h2 := enc_less s r hs hr
    rw [h] at h1 h2
    have : ∀ l : List UInt8, Op.bytesLess l l = false := by
      intro l; induction l with
      | nil => rfl
      | cons a l ih => simp [Op.bytesLess, ih]
    rw [this] at h1 h2
    have h1 := of_decide_eq_false h1.symm
    have h2 := of_decide_eq_false h2.symm
    omega
  · intro h; rw [h]

/-- The whole runes at the head, alone. -/
theorem rnF_take (f : Nat) : ∀ (k : Nat) (l : List UInt8) (n : Nat), endF f k l = k + n → endF f k (l.take n) = k + n ∧ rnF f k (l.take n) = rnF f k l := by
  induction f with
  | zero => intro k l n h; simp [endF] at h; subst h; simp [endF, rnF]
  | succ f ih =>
    intro k l n h
    simp only [endF] at h
    by_cases hd : (dec l).2.2 = 0
    · rw [if_pos hd] at h
      obtain ⟨a, b, c, d, e⟩ := enc_dec l (dec l).1 (dec l).2.1 (by rw [← hd])
      have hg := endF_ge f (k + (dec l).2.1) (l.drop (dec l).2.1)
      have hle : (dec l).2.1 ≤ n := by omega
      have h2 : l.take n = enc (dec l).1 ++ (l.drop (dec l).2.1).take (n - (dec l).2.1) := by
        rw [e]
        conv => lhs; rw [show n = (dec l).2.1 + (n - (dec l).2.1) by omega]
        rw [List.take_add]
      have hw : (enc (dec l).1).length = (dec l).2.1 := by rw [e]; simp; omega
      have hd2 : dec (l.take n) = dec l := by
        rw [h2, dec_enc _ a, hw, ← hd]
      obtain ⟨i1, i2⟩ := ih (k + (dec l).2.1) (l.drop (dec l).2.1) (n - (dec l).2.1) (by omega)
      have hdr : (l.take n).drop (dec l).2.1 = (l.drop (dec l).2.1).take (n - (dec l).2.1) := by
        rw [List.drop_take]
      constructor
      · simp only [endF, hd2, hd, if_true, hdr, i1]; omega
      · simp only [rnF, hd2, hd, if_true, hdr, i2]
    · rw [if_neg hd] at h
      have : n = 0 := by omega
      subst this
      simp [endF, rnF, hd, dec_nil]
theorem endA_take (l : List UInt8) : endA (l.take (endA l)) = endA l ∧ rns (l.take (endA l)) = rns l := by
  have h := rnF_take l.length 0 l (endA l) (by unfold endA; omega)
  have hl := endA_le l
  have hlen : (l.take (endA l)).length ≤ l.length := by rw [List.length_take]; omega
  constructor
  · show endF (l.take (endA l)).length 0 (l.take (endA l)) = endA l
    rw [endF_more _ l.length 0 _ (Nat.le_refl _) hlen, h.1]; omega
  · show rnF (l.take (endA l)).length 0 (l.take (endA l)) = rns l
    rw [rnF_more _ l.length 0 _ (Nat.le_refl _) hlen, h.2]; rfl
/-- A whole string with another one behind it. -/
theorem rns_app (a b : List UInt8) (h : endA a = a.length) : rns (a ++ b) = rns a ++ (rns b).map (fun p => (p.1, p.2 + a.length)) ∧ endA (a ++ b) = a.length + endA b := by
  have := rnF_app a.length 0 a b (Nat.le_refl _) (by unfold endA at h; omega) (a ++ b).length (Nat.le_refl _)
  obtain ⟨h1, h2⟩ := this
  have hb : b.length ≤ (a ++ b).length := by simp
  constructor
  · unfold rns
    rw [h1, ← rnF_shift, rnF_more (a ++ b).length b.length (0 + a.length) b hb (Nat.le_refl _)]
  · unfold endA
    rw [h2, endF_more (a ++ b).length b.length _ b hb (Nat.le_refl _), endF_shift]; omega
theorem chk_app (a b : List UInt8) (ha : chkE a = 0) (hb : chkE b = 0) (hl : a.length + b.length ≤ 8000) : chkE (a ++ b) = 0 := by
  rw [chkE_ok] at ha hb ⊢
  rw [(rns_app a b ha.2).2, hb.2]; simp; omega
/-- Bytes that are no rune's stay so. -/
theorem chk_bad (a b : List UInt8) (ha : chkE a ≠ 0) (h3 : chkE a ≠ 370) (hl : a.length + b.length ≤ 8000) : chkE (a ++ b) = chkE a := by
  have hn1 : ¬ 8000 < a.length := by omega
  have hn2 : ¬ 8000 < (a ++ b).length := by rw [List.length_append]; omega
  unfold chkE at ha h3 ⊢
  rw [if_neg hn1] at ha h3
  rw [if_neg hn1, if_neg hn2]
  have hle := endA_le a
  by_cases hlt : endA a < a.length
  · rw [if_pos hlt] at ha h3 ⊢
    have hne : a.drop (endA a) ≠ [] := by intro e; have := congrArg List.length e; simp at this; omega
    have h6 : dec (a.drop (endA a)) = (0, 0, 6) := by
      rcases dec_err _ hne with e | e | ⟨e, _⟩
      · exact absurd e ha
      · exact e
      · rw [e] at h3; exact absurd rfl h3
    have hf := dec_form _ b h6
    have hsplit : a ++ b = a.take (endA a) ++ (a.drop (endA a) ++ b) := by rw [← List.append_assoc, List.take_append_drop]
    have ht := (endA_take a).1
    have hlen : (a.take (endA a)).length = endA a := by simp; omega
    have he : endA (a ++ b) = endA a := by
      rw [hsplit, (rns_app _ _ (by rw [ht, hlen])).2, hlen]
      have : endA (a.drop (endA a) ++ b) = 0 := by
        unfold endA
        have hp : 0 < (a.drop (endF a.length 0 a) ++ b).length := by
          have : 0 < (a.drop (endA a)).length := List.length_pos_iff.2 hne
          unfold endA at this
          rw [List.length_append]; omega
        obtain ⟨g, hg⟩ : ∃ g, (a.drop (endF a.length 0 a) ++ b).length = g + 1 := ⟨_, (Nat.succ_pred_eq_of_pos hp).symm⟩
        rw [hg]
        unfold endA at hf
        simp only [endF, hf]
        rfl
      rw [this]; rfl
    rw [he, if_pos (by simp; omega)]
    rw [show (a ++ b).drop (endA a) = a.drop (endA a) ++ b by rw [List.drop_append_of_le_length (by omega)], hf, h6]
  · rw [if_neg hlt] at ha; exact absurd rfl ha

/-- The places where runes begin, and the end. -/
def sts (l : List UInt8) : List Nat := 0 :: (rns l).map (·.2)
/-- The last of these places that is not above n. -/
def backF (n : Nat) : Nat → List Nat → Nat
  | c, [] => c
  | c, e :: r => if n < e then c else backF n e r
def backV (l : List UInt8) (n : Nat) : Nat := backF n 0 ((rns l).map (·.2))
/-- Places ascend, in steps of 1 to 4. -/
def ups : Nat → List Nat → Prop
  | _, [] => True
  | c, e :: r => c < e ∧ e ≤ c + 4 ∧ ups e r
theorem rnF_ups (f : Nat) : ∀ (k : Nat) (l : List UInt8), ups k ((rnF f k l).map (·.2)) := by
  induction f with
  | zero => intro k l; simp [rnF, ups]
  | succ f ih =>
    intro k l
    simp only [rnF]
    split
    · rename_i h
      have := dec_w l h
      rw [List.map_cons]
      exact ⟨by simp only []; omega, by simp only []; omega, ih _ _⟩
    · simp [ups]
theorem rns_ups (l : List UInt8) : ups 0 ((rns l).map (·.2)) := rnF_ups _ _ _
theorem ups_lt : ∀ (es : List Nat) (c : Nat), ups c es → ∀ e ∈ es, c < e
  | [], _, _, _, h => by cases h
  | x :: r, c, ⟨h1, _, h3⟩, e, h => by
    rcases List.mem_cons.1 h with rfl | h
    · exact h1
    · have := ups_lt r x h3 e h; omega
theorem back_spec : ∀ (es : List Nat) (c n : Nat), ups c es → c ≤ n → n ≤ es.getLastD c → backF n c es ≤ n ∧ n ≤ backF n c es + 3 ∧ (backF n c es = n ↔ n ∈ c :: es)
  | [], c, n, _, h1, h2 => by simp at h2; simp [backF]; omega
  | e :: r, c, n, ⟨u1, u2, u3⟩, h1, h2 => by
    unfold backF
    by_cases h : n < e
    · rw [if_pos h]
      refine ⟨h1, by omega, ?_⟩
      constructor
      · intro e'; subst e'; simp
      · intro hm
        rcases List.mem_cons.1 hm with hm | hm
        · exact hm.symm
        · rcases List.mem_cons.1 hm with hm | hm
          · omega
          · have := ups_lt r e u3 n hm; omega
    · rw [if_neg h]
      obtain ⟨b1, b2, b3⟩ := back_spec r e n u3 (by omega) (by rwa [List.getLastD_cons] at h2)
      refine ⟨b1, b2, b3.trans ?_⟩
      constructor
      · intro hm; exact List.mem_cons_of_mem _ hm
      · intro hm
        rcases List.mem_cons.1 hm with hm | hm
        · omega
        · exact hm
theorem backV_spec (l : List UInt8) (h : chkE l = 0) (n : Nat) (hn : n ≤ l.length) : backV l n ≤ n ∧ n ≤ backV l n + 3 ∧ (backV l n = n ↔ n ∈ sts l) := by
  have h2 := ((chkE_ok l).1 h).2
  refine back_spec _ 0 n (rns_ups l) (Nat.zero_le _) ?_
  have := rnF_last l.length 0 l
  unfold rns
  rw [this]; unfold endA at h2; omega
/-- A string is cut at its starts, and nowhere else, into two strings. -/
theorem cut_sts (l : List UInt8) (h : chkE l = 0) (n : Nat) (hn : n ≤ l.length) : n ∈ sts l ↔ chkE (l.take n) = 0 ∧ chkE (l.drop n) = 0 := by
  obtain ⟨h1, h2⟩ := (chkE_ok l).1 h
  constructor
  · intro hm
    -- by the fuel: at a start both halves are whole
    have key : ∀ (f k : Nat) (m : List UInt8), m.length ≤ f → endF f k m = k + m.length → ∀ j, k + j ∈ k :: (rnF f k m).map (·.2) → j ≤ m.length → endF f k (m.take j) = k + j ∧ endF f (k + j) (m.drop j) = k + m.length := by
      intro f
      induction f with
      | zero =>
        intro k m hf he j hj hjm
        have : m = [] := List.length_eq_zero_iff.1 (by omega)
        subst this
        simp at hjm; subst hjm; simp [endF]
      | succ f ih =>
        intro k m hf he j hj hjm
        by_cases hd : (dec m).2.2 = 0
        · have hw := dec_w m hd
          obtain ⟨a, b, c, d, e⟩ := enc_dec m (dec m).1 (dec m).2.1 (by rw [← hd])
          simp only [rnF, hd, if_true, List.map_cons] at hj
          simp only [endF, hd, if_true] at he
          by_cases hj0 : j = 0
          · subst hj0
            simp only [List.take_zero, List.drop_zero, Nat.add_zero]
            refine ⟨by simp [endF, dec_nil], ?_⟩
            simp only [endF, hd, if_true, he]
          · have hjw : (dec m).2.1 ≤ j ∧ k + j ∈ (k + (dec m).2.1) :: (rnF f (k + (dec m).2.1) (m.drop (dec m).2.1)).map (·.2) := by
              rcases List.mem_cons.1 hj with hj | hj
              · omega
              · refine ⟨?_, hj⟩
                rcases List.mem_cons.1 hj with hj | hj
                · omega
                · have := ups_lt _ _ (rnF_ups f (k + (dec m).2.1) (m.drop (dec m).2.1)) _ hj; omega
            obtain ⟨i1, i2⟩ := ih (k + (dec m).2.1) (m.drop (dec m).2.1) (by simp; omega) (by rw [he]; simp; omega) (j - (dec m).2.1) (by rw [show k + (dec m).2.1 + (j - (dec m).2.1) = k + j by omega]; exact hjw.2) (by simp; omega)
            have ht : m.take j = enc (dec m).1 ++ (m.drop (dec m).2.1).take (j - (dec m).2.1) := by
              rw [e]
              conv => lhs; rw [show j = (dec m).2.1 + (j - (dec m).2.1) by omega]
              rw [List.take_add]
            have hwl : (enc (dec m).1).length = (dec m).2.1 := by rw [e]; simp; omega
            have hd2 : dec (m.take j) = dec m := by rw [ht, dec_enc _ a, hwl, ← hd]
            constructor
            · simp only [endF, hd2, hd, if_true, List.drop_take, i1]; omega
            · rw [List.drop_drop, show (dec m).2.1 + (j - (dec m).2.1) = j by omega, show k + (dec m).2.1 + (j - (dec m).2.1) = k + j by omega] at i2
              rw [endF_more (f + 1) f _ _ (by simp; omega) (by simp; omega), i2]
              simp; omega
        · simp only [endF] at he
          rw [if_neg hd] at he
          have : m = [] := List.length_eq_zero_iff.1 (by omega)
          subst this
          simp at hjm; subst hjm; simp [endF, dec_nil]
    obtain ⟨k1, k2⟩ := key l.length 0 l (Nat.le_refl _) (by unfold endA at h2; omega) n (by simpa [sts, rns] using hm) hn
    constructor
    · rw [chkE_ok]
      refine ⟨by simp; omega, ?_⟩
      unfold endA
      rw [endF_more _ l.length 0 _ (Nat.le_refl _) (by rw [List.length_take]; omega), k1]; simp; omega
    · rw [chkE_ok]
      refine ⟨by simp; omega, ?_⟩
      unfold endA
      have hs := endF_shift l.length 0 n (l.drop n)
      rw [Nat.zero_add] at hs k2
      rw [endF_more _ l.length 0 _ (Nat.le_refl _) (by simp)]
      rw [hs] at k2
      simp; omega
  · rintro ⟨c1, _⟩
    have e1 := ((chkE_ok _).1 c1).2
    have ha := (rns_app (l.take n) (l.drop n) e1).1
    rw [List.take_append_drop] at ha
    have hl := rnF_last (l.take n).length 0 (l.take n)
    have hend : endF (l.take n).length 0 (l.take n) = n := by unfold endA at e1; rw [e1]; simp; omega
    rw [hend] at hl
    unfold sts
    rw [ha, List.map_append]
    by_cases hr : (rns (l.take n)).map (·.2) = []
    · unfold rns at hr; rw [hr] at hl; simp at hl; subst hl; simp
    · have : ((rns (l.take n)).map (·.2)).getLast hr = n := by
        have h9 : ∀ (m : List Nat) (hm : m ≠ []), m.getLast hm = m.getLastD 0 := by
          intro m hm
          cases m with
          | nil => exact absurd rfl hm
          | cons x m => rfl
        rw [h9]; exact hl
      have hmem := List.getLast_mem hr
      rw [this] at hmem
      exact List.mem_cons_of_mem _ (List.mem_append_left _ hmem)
end Go.Proofs.YtdbampgbbghfkaaDoor.Ru
