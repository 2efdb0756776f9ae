/- Pure, for LatticeDuals: the order the other way of a lattice that Check takes is one that it takes; its joins are meets; the other way again it is the lattice. -/
import Derived.Test.YtablaacddbkeiaaGreatDoorLtJ
namespace Go.Proofs.YtablaacddbkeiaaGreatDoor
open Go.RowKit

theorem find_congr {p q : Nat → Bool} {n : Nat} (h : ∀ c, c < n → p c = q c) : (List.range n).find? p = (List.range n).find? q := by
  induction n with
  | zero => rfl
  | succ n ih =>
    rw [List.range_succ, List.find?_append, List.find?_append, ih (fun c hc => h c (by omega))]
    simp only [List.find?_singleton, h n (by omega)]
theorem all_congr {p q : Nat → Bool} {n : Nat} (h : ∀ c, c < n → p c = q c) : (List.range n).all p = (List.range n).all q := by
  rw [Bool.eq_iff_iff, List.all_eq_true, List.all_eq_true]
  constructor
  · intro g x hx; rw [← h x (List.mem_range.1 hx)]; exact g x hx
  · intro g x hx; rw [h x (List.mem_range.1 hx)]; exact g x hx
theorem mt_congr {R S : Nat → Nat → Bool} {n a b : Nat} (h : ∀ a b, a < n → b < n → R a b = S a b) (ha : a < n) (hb : b < n) : mt R n a b = mt S n a b := by
  unfold mt
  refine find_congr fun c hc => ?_
  unfold gd
  rw [h a c ha hc, h b c hb hc, all_congr (q := fun o => !(S a o && S b o) || S c o) (fun o ho => by rw [h a o ha ho, h b o hb ho, h c o hc ho])]
theorem J_congr {R S : Nat → Nat → Bool} {n a b : Nat} (h : ∀ a b, a < n → b < n → R a b = S a b) (ha : a < n) (hb : b < n) : J R n a b = J S n a b := by
  unfold J; rw [mt_congr h ha hb]
theorem end_congr {R S : Nat → Nat → Bool} {n : Nat} (h : ∀ a b, a < n → b < n → R a b = S a b) (ho : Ord R n) (hn : 0 < n) (k : Nat) (hk : k ≤ n) : endF R n k = endF S n k := by
  induction k with
  | zero => rfl
  | succ k ih =>
    rw [Ord.end_succ, Ord.end_succ, ← ih (by omega)]
    exact J_congr h (ho.end_lt k (by omega) hn) (by omega)
theorem Good.n8' {ns : List ByteArray} {up : List UInt8} (h : Good ns up) : up.length ≤ 8 := by have := h.most; have := h.len; omega
theorem ge_dn {ns : List ByteArray} {up : List UInt8} (h : Good ns up) {a b : Nat} (ha : a < up.length) (hb : b < up.length) : ge (dnU up) a b = le up a b := le_dn up b a hb ha h.n8'
theorem bad_dn {ns : List ByteArray} {up : List UInt8} (h : Good ns up) {a : Nat} (ha : a < up.length) : bad (dnU up) a = false := by
  have hn8 := h.n8'
  have ho := h.ords.2
  unfold bad
  rw [dnU_len, le_dn up a a ha ha hn8, ho.refl a ha]
  have h0 : ((dnU up).getD a 0).toNat / 2 ^ up.length = 0 := by
    unfold dnU
    rw [List.getD_eq_getElem?_getD, List.getElem?_map, List.getElem?_range ha]
    simp only [Option.map_some, Option.getD_some, UInt8.toNat_ofNat']
    have h1 := dn1_lt up a up.length
    have h2 : 2 ^ up.length ≤ 2 ^ 8 := Nat.pow_le_pow_right (by decide) hn8
    rw [Nat.mod_eq_of_lt (by omega)]
    exact Nat.div_eq_of_lt h1
  rw [h0]
  have h1 : (List.range up.length).any (bad1 (dnU up) a) = false := by
    rw [List.any_eq_false]
    intro b hb
    have hb := List.mem_range.1 hb
    unfold bad1
    rw [le_dn up a b ha hb hn8, le_dn up b a hb ha hn8]
    by_cases e : a = b
    · subst e; simp
    · cases h5 : ge up a b
      · simp
      · have h6 : ge up b a = false := by
          cases h6 : ge up b a
          · rfl
          · exact absurd (ho.anti a b ha hb h5 h6) e
        have h7 : bad2 (dnU up) a b = false := by
          unfold bad2
          rw [dnU_len, List.any_eq_false]
          intro c hc
          have hc := List.mem_range.1 hc
          rw [le_dn up b c hb hc hn8, le_dn up a c ha hc hn8]
          cases h8 : ge up b c
          · simp
          · rw [ho.trans a b c ha hb hc h5 h8]; simp
        rw [h6, h7]; simp
  rw [h1]; rfl
theorem unb_dn {ns : List ByteArray} {up : List UInt8} (h : Good ns up) {a : Nat} (ha : a < up.length) : unb (dnU up) a = false := by
  have hn8 := h.n8'
  unfold unb
  rw [dnU_len, List.any_eq_false]
  intro b hb
  have hb := List.mem_range.1 hb
  unfold unb1
  rw [dnU_len, mt_congr (fun a b ha hb => le_dn up a b ha hb hn8) ha hb, mt_congr (fun a b ha hb => ge_dn h ha hb) ha hb, h.ords.1.J_eq ha hb, h.ords.2.J_eq ha hb]
  simp
theorem find_none {p : Nat → Bool} {n : Nat} (h : ∀ a, a < n → p a = false) : (List.range n).find? p = none := by
  rw [List.find?_eq_none]
  intro x hx
  rw [h x (List.mem_range.1 hx)]; decide
/-- The order the other way is a lattice, too. -/
theorem Good.dn {ns : List ByteArray} {up : List UInt8} (h : Good ns up) : Good ns (dnU up) := by
  have h1 : badF (dnU up) = none := by unfold badF; rw [dnU_len]; exact find_none fun a ha => bad_dn h ha
  have h2 : unbF (dnU up) = none := by unfold unbF; rw [dnU_len]; exact find_none fun a ha => unb_dn h ha
  refine ⟨h.pos, h.most, by rw [dnU_len]; exact h.len, h1, h2, h.nms, ?_⟩
  show chk nameB (ns.map byt) (dnU up) = (0, 0)
  unfold chk
  have := h.pos
  have := h.most
  rw [if_neg (by rw [List.length_map]; omega), h.nms]
  simp only
  rw [if_neg (by rw [dnU_len, List.length_map, h.len]; simp), h1]
  simp only
  rw [h2]
/-- Joins are meets, and the least is the greatest. -/
theorem J_dn {ns : List ByteArray} {up : List UInt8} (h : Good ns up) {a b : Nat} (ha : a < up.length) (hb : b < up.length) : J (ge (dnU up)) (dnU up).length a b = J (le up) up.length a b := by
  rw [dnU_len]; exact J_congr (fun a b ha hb => ge_dn h ha hb) ha hb
theorem end_dn {ns : List ByteArray} {up : List UInt8} (h : Good ns up) : endF (le (dnU up)) (dnU up).length (dnU up).length = endF (ge up) up.length up.length := by
  have hp : 0 < up.length := by have := h.pos; have := h.len; omega
  have ho := h.dn.ords.1
  rw [dnU_len] at ho ⊢
  exact end_congr (fun a b ha hb => le_dn up a b ha hb h.n8') ho hp _ (Nat.le_refl _)
/-- The other way again it is the lattice. -/
theorem dn_dn {ns : List ByteArray} {up : List UInt8} (h : Good ns up) : dnU (dnU up) = up := by
  have hn8 := h.n8'
  refine List.ext_getElem (by rw [dnU_len, dnU_len]) fun a h1 h2 => ?_
  unfold dnU
  simp only [List.getElem_map, List.getElem_range, List.length_map, List.length_range]
  refine UInt8.toNat_inj.1 ?_
  have h3 : dn1 (dnU up) a up.length = up[a].toNat := by
    refine Nat.eq_of_testBit_eq fun b => ?_
    rw [dn1_bit]
    have hb := range_find_none h.bad a h2
    unfold bad at hb
    simp only [Bool.or_eq_false_iff] at hb
    have hz : up[a].toNat / 2 ^ up.length = 0 := by
      have := hb.1.1
      rw [List.getD_eq_getElem?_getD, List.getElem?_eq_getElem h2] at this
      simpa using this
    have hlt : up[a].toNat < 2 ^ up.length := by
      rcases Nat.lt_or_ge up[a].toNat (2 ^ up.length) with h | h
      · exact h
      · have := Nat.div_pos h (Nat.pow_pos (n := up.length) (by decide : 0 < 2)); omega
    by_cases e : b < up.length
    · rw [decide_eq_true e, Bool.true_and, ge_dn h h2 e]
      unfold le
      rw [List.getD_eq_getElem?_getD, List.getElem?_eq_getElem h2]; rfl
    · rw [decide_eq_false e, Bool.false_and]
      symm
      exact Nat.testBit_lt_two_pow (Nat.lt_of_lt_of_le hlt (Nat.pow_le_pow_right (by decide) (by omega)))
  have h4 : dn1 (dnU up) a up.length = dn1 (List.map (fun a => UInt8.ofNat (dn1 up a up.length)) (List.range up.length)) a up.length := rfl
  rw [← h4, h3]
  exact UInt8.toNat_ofNat_of_lt' (by have := up[a].toNat_lt; exact this)
end Go.Proofs.YtablaacddbkeiaaGreatDoor
