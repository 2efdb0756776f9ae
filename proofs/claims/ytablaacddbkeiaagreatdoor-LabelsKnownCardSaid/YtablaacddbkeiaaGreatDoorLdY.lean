/- Several texts as one (a claim has at most 60 files): LdA, LdB, LdC, LdL, LdK. -/
import Derived.Lib.SplitLaws
import Derived.Lib.Join
import Derived.Test.YtablaacddbkeiaaGreatDoorLbK
import Derived.Test.YtablaacddbkeiaaGreatDoorLtFi
import Derived.Test.YtablaacddbkeiaaGreatDoorLbR
import Derived.Test.YtablaacddbkeiaaGreatDoorLbW
import Derived.Deep.WholeRow
import Derived.Test.YtablaacddbkeiaaGreatDoorCards
import Derived.Test.YtablaacddbkeiaaGreatDoorTie
import Derived.Test.YtablaacddbkeiaaGreatDoorLbS
import Derived.Shelf.LaysM
import Derived.Deep.DeepHandedRow
import Derived.Deep.DeepWitnessRowRef
import Derived.Lib.LaidTab
import Derived.Lib.LaidU8
import Derived.LaidLaws
import Derived.Test.YtablaacddbkeiaaGreatDoorLbL
import Derived.Test.YtablaacddbkeiaaGreatDoorLbY
namespace Go.Proofs.YtablaacddbkeiaaGreatDoor

def hd1 (b : UInt8) : List (List UInt8) → List (List UInt8)
  | [] => [[b]]
  | p :: q => (b :: p) :: q
/-- The pieces of a text between its commas. -/
def pcs : List UInt8 → List (List UInt8)
  | [] => [[]]
  | b :: l => if b = 44 then [] :: pcs l else hd1 b (pcs l)
theorem pcs_cons (l : List UInt8) : ∃ p q, pcs l = p :: q := by
  cases l with
  | nil => exact ⟨_, _, rfl⟩
  | cons b l =>
    unfold pcs
    split
    · exact ⟨_, _, rfl⟩
    · cases pcs l with
      | nil => exact ⟨_, _, rfl⟩
      | cons p q => exact ⟨_, _, rfl⟩
theorem splitK_ne (b : UInt8) (l : List UInt8) (h : b ≠ 44) (k : Nat) : Lib.splitK [44] 0 k (b :: l) = hd1 b (Lib.splitK [44] 0 k l) := by
  cases k with
  | zero => rfl
  | succ k =>
    have hp : ([44] : List UInt8).isPrefixOf (b :: l) = false := by simp [List.isPrefixOf, Ne.symm h]
    have hix : Lib.index (b :: l) [44] = if Lib.index l [44] == -1 then -1 else Lib.index l [44] + 1 := by rw [Lib.index, hp]; simp
    by_cases hm : Lib.index l [44] = -1
    · rw [if_pos (beq_iff_eq.2 hm)] at hix
      unfold Lib.splitK
      rw [if_pos (beq_iff_eq.2 hix), if_pos (beq_iff_eq.2 hm)]
      rfl
    · have hge := Lib.index_ge l [44]
      obtain ⟨j, hj⟩ : ∃ j : Nat, Lib.index l [44] = j := ⟨(Lib.index l [44]).toNat, by omega⟩
      rw [if_neg (fun e => hm (beq_iff_eq.1 e)), hj] at hix
      have n1 : ¬ (Lib.index (b :: l) [44] == -1) = true := fun e => by have := beq_iff_eq.1 e; omega
      have n2 : ¬ (Lib.index l [44] == -1) = true := fun e => hm (beq_iff_eq.1 e)
      have e1 : (Lib.index (b :: l) [44]).toNat = j + 1 := by omega
      have e2 : (Lib.index l [44]).toNat = j := by omega
      unfold Lib.splitK
      rw [if_neg n1, if_neg n2, e1, e2]
      simp [hd1]
theorem split_pcs : ∀ l : List UInt8, Lib.splitK [44] 0 (Lib.count l [44]) l = pcs l
  | [] => by
    have : Lib.count [] [44] = 0 := by rw [Lib.count_one]; rfl
    rw [this]; rfl
  | b :: l => by
    by_cases h : b = 44
    · subst h
      rw [Lib.count_cons_eq, Nat.add_comm]
      have hix : Lib.index (44 :: l) [44] = 0 := by rw [Lib.index]; simp [List.isPrefixOf]
      unfold Lib.splitK
      rw [hix, if_neg (by decide)]
      simp only [pcs, if_true]
      rw [← split_pcs l]
      simp
    · rw [Lib.count_cons_ne b 44 l h, splitK_ne b l h, split_pcs l]
      simp [pcs, h]
theorem pcs_len : ∀ l : List UInt8, (pcs l).length = l.count 44 + 1
  | [] => rfl
  | b :: l => by
    have ih := pcs_len l
    unfold pcs
    by_cases h : b = 44
    · rw [if_pos h, List.length_cons, ih, h]; simp
    · rw [if_neg h, List.count_cons_of_ne (by simpa using h), ← ih]
      obtain ⟨p, q, e⟩ := pcs_cons l
      rw [e]; rfl
theorem join_pcs : ∀ l : List UInt8, Lib.join (pcs l) [44] = l
  | [] => rfl
  | b :: l => by
    have ih := join_pcs l
    obtain ⟨p, q, e⟩ := pcs_cons l
    unfold pcs
    rw [e, Lib.join_cons] at ih
    by_cases h : b = 44
    · rw [if_pos h, e, Lib.join_cons, h]
      simp only [Lib.joinTail, List.map_cons, List.flatten_cons, List.nil_append, List.cons_append]
      rw [← ih]; rfl
    · rw [if_neg h, e]
      simp only [hd1]
      rw [Lib.join_cons, List.cons_append, ih]
theorem pcs_free : ∀ (l : List UInt8) (x : List UInt8), x ∈ pcs l → (44 : UInt8) ∉ x
  | [], x, hx => by
    simp [pcs] at hx
    subst hx; simp
  | b :: l, x, hx => by
    have ih := pcs_free l
    unfold pcs at hx
    by_cases h : b = 44
    · rw [if_pos h] at hx
      rcases List.mem_cons.1 hx with rfl | hx
      · simp
      · exact ih x hx
    · rw [if_neg h] at hx
      obtain ⟨p, q, e⟩ := pcs_cons l
      rw [e] at hx ih
      simp only [hd1] at hx
      rcases List.mem_cons.1 hx with rfl | hx
      · intro c
        rcases List.mem_cons.1 c with c | c
        · exact h c.symm
        · exact ih p (List.mem_cons_self ..) c
      · exact ih x (List.mem_cons_of_mem _ hx)
theorem pcs_app : ∀ (x r : List UInt8) (p : List UInt8) (q : List (List UInt8)), (44 : UInt8) ∉ x → pcs r = p :: q → pcs (x ++ r) = (x ++ p) :: q
  | [], r, p, q, _, h => h
  | b :: x, r, p, q, hx, h => by
    have hb : b ≠ 44 := fun e => hx (by rw [e]; exact List.mem_cons_self ..)
    rw [List.cons_append]
    unfold pcs
    rw [if_neg hb, pcs_app x r p q (fun c => hx (List.mem_cons_of_mem _ c)) h]
    rfl
theorem pcs_tail : ∀ (r : List (List UInt8)) (x : List UInt8), (44 : UInt8) ∉ x → (∀ y ∈ r, (44 : UInt8) ∉ y) → pcs (x ++ Lib.joinTail [44] r) = x :: r
  | [], x, hx, _ => by
    have := pcs_app x [] [] [] hx rfl
    simpa [Lib.joinTail] using this
  | y :: r, x, hx, hr => by
    have ih := pcs_tail r y (hr y (List.mem_cons_self ..)) (fun z hz => hr z (List.mem_cons_of_mem _ hz))
    have e : Lib.joinTail [44] (y :: r) = 44 :: (y ++ Lib.joinTail [44] r) := by simp [Lib.joinTail]
    have e2 : pcs (44 :: (y ++ Lib.joinTail [44] r)) = [] :: (y :: r) := by rw [pcs, if_pos rfl, ih]
    rw [e, pcs_app x _ [] (y :: r) hx e2, List.append_nil]
theorem pcs_join (xs : List (List UInt8)) (hne : xs ≠ []) (hf : ∀ x ∈ xs, (44 : UInt8) ∉ x) : pcs (Lib.join xs [44]) = xs := by
  cases xs with
  | nil => exact absurd rfl hne
  | cons x r =>
    rw [Lib.join_cons]
    exact pcs_tail r x (hf x (List.mem_cons_self ..)) (fun y hy => hf y (List.mem_cons_of_mem _ hy))
/-- Cut at the first comma. -/
theorem pcs_cut (l : List UInt8) (n : Nat) (hn : n < l.length) (hc : l[n] = 44) (h : (44 : UInt8) ∉ l.take n) : pcs l = l.take n :: pcs (l.drop (n + 1)) := by
  have e : l = l.take n ++ 44 :: l.drop (n + 1) := by rw [← hc, ← List.drop_eq_getElem_cons hn, List.take_append_drop]
  have e2 : pcs (44 :: l.drop (n + 1)) = [] :: pcs (l.drop (n + 1)) := by rw [pcs, if_pos rfl]
  have := pcs_app (l.take n) _ _ _ h e2
  rw [← e, List.append_nil] at this
  exact this
theorem pcs_end (l : List UInt8) (h : (44 : UInt8) ∉ l) : pcs l = [l] := by
  have := pcs_app l [] [] [] h rfl
  simpa using this
/-- The pieces as strings. -/
def bpc (s : ByteArray) : List ByteArray := (pcs s.data.toList).map fun x => ⟨x.toArray⟩
theorem bpc_len (s : ByteArray) : (bpc s).length = s.data.toList.count 44 + 1 := by unfold bpc; rw [List.length_map, pcs_len]
theorem of_data {xs : List ByteArray} {ys : List (List UInt8)} (h : xs.map (·.data.toList) = ys) : xs = ys.map fun x => (⟨x.toArray⟩ : ByteArray) := by
  subst h
  rw [List.map_map]
  conv => lhs; rw [← List.map_id xs]
  exact List.map_congr_left fun x _ => rfl
theorem split_bpc (s : ByteArray) : Lib.splitB ⟨#[44]⟩ 0 (Lib.countB s ⟨#[44]⟩) s = bpc s := by
  have h := Lib.splitB_data ⟨#[44]⟩ 0 (Lib.countB s ⟨#[44]⟩) s
  have e : Lib.splitK (⟨#[44]⟩ : ByteArray).data.toList 0 (Lib.countB s ⟨#[44]⟩) s.data.toList = pcs s.data.toList := split_pcs s.data.toList
  rw [e] at h
  exact of_data h
end Go.Proofs.YtablaacddbkeiaaGreatDoor
namespace Go.Proofs.YtablaacddbkeiaaGreatDoor

def okF (ns : List ByteArray) (x : ByteArray) : Bool := (ixF ns x).isSome
def vF (ns : List ByteArray) (x : ByteArray) : Nat := (ixF ns x).getD 0
/-- The error of a text, among good names. -/
def rdE (ns : List ByteArray) (s : ByteArray) : Int := if byt s = [45] then 0 else if 64 < (bpc s).length then 3 else if cnB (bpc s) (⟨#[]⟩ : ByteArray) = true then 6 else if (bpc s).all (okF ns) = true then 0 else 4
/-- The list of a text, if it has no error. -/
def rdV (ns : List ByteArray) (s : ByteArray) : List Nat := if rdE ns s = 0 then (if byt s = [45] then [] else (bpc s).map (vF ns)) else []

theorem okF_some {ns : List ByteArray} {x : ByteArray} (h : okF ns x = true) : ixF ns x = some (vF ns x) := by
  unfold okF at h; unfold vF
  cases hx : ixF ns x with
  | none => rw [hx] at h; exact absurd h (by decide)
  | some k => rfl
theorem okF_none {ns : List ByteArray} {x : ByteArray} (h : okF ns x = false) : ixF ns x = none := by
  unfold okF at h
  cases hx : ixF ns x with
  | none => rfl
  | some k => rw [hx] at h; exact absurd h (by simp)
theorem str_eq2 {s t : ByteArray} (h : (s.toList == t.toList) = true) : s = t := by
  have h1 : s.toList = t.toList := by simpa using h
  rw [byt_eq, byt_eq] at h1
  rw [← mk_byt s, ← mk_byt t, h1]
/-- A found label has the name. -/
theorem ixF_get {ns : List ByteArray} {x : ByteArray} {k : Nat} (h : ixF ns x = some k) : ∃ hk : k < ns.length, ns[k] = x := by
  have h1 := List.mem_of_find?_eq_some h
  have h2 := List.find?_some h
  have hk := List.mem_range.1 h1
  refine ⟨hk, ?_⟩
  rw [eqs_get hk] at h2
  exact (str_eq2 h2).symm
theorem Good.apart {ns : List ByteArray} {up : List UInt8} (h : Good ns up) {i j : Nat} (hi : i < ns.length) (hj : j < i) : ns[i] ≠ ns[j] := by
  have h1 := List.findSome?_eq_none_iff.1 h.nms i (List.mem_range.2 (by rw [List.length_map]; exact hi))
  intro e
  have ht : twF (ns.map byt) i = true := by
    rw [twF_eq ns i hi]
    unfold cnB
    refine any_at (k := j) ?_ (by rw [List.length_take]; omega)
    rw [eqs_get (by rw [List.length_take]; omega), List.getElem_take, e]
    simp
  unfold nm1 at h1
  rw [ht] at h1
  split at h1
  · exact absurd h1 (by simp)
  · exact absurd h1 (by simp)
theorem Good.ix {ns : List ByteArray} {up : List UInt8} (h : Good ns up) {a : Nat} (ha : a < ns.length) : ixF ns ns[a] = some a := by
  unfold ixF
  refine find_at ?_ ?_ ha
  · refine List.find?_eq_none.2 fun j hj e => ?_
    have hja := List.mem_range.1 hj
    rw [eqs_get (by omega)] at e
    exact h.apart ha hja (str_eq2 e)
  · rw [eqs_get ha]; simp
theorem nm_free {l : List UInt8} (h : nameB l = true) : (44 : UInt8) ∉ l ∧ l ≠ [45] ∧ l ≠ [] := by
  unfold nameB at h
  simp only [Bool.and_eq_true, decide_eq_true_eq] at h
  obtain ⟨⟨h1, h2⟩, h3⟩ := h
  refine ⟨fun c => ?_, ?_, ?_⟩
  · have := List.all_eq_true.1 h3 44 c
    exact absurd this (by decide)
  · rintro rfl; exact absurd h2 (by decide)
  · rintro rfl; simp at h1
theorem shN_name {ns : List ByteArray} {up : List UInt8} {ls : List Nat} (hg : GL ns up ls) : ∀ x ∈ shN ns ls, nameB (byt x) = true ∧ ∃ a, ∃ ha : a < ns.length, a ∈ ls ∧ ns[a] = x := by
  intro x hx
  unfold shN at hx
  obtain ⟨a, ha, rfl⟩ := List.mem_map.1 hx
  have hal : a < ns.length := by have := hg.all a ha; have := hg.good.len; omega
  rw [List.getD_eq_getElem?_getD, List.getElem?_eq_getElem hal]
  exact ⟨hg.good.name a hal, a, hal, ha, rfl⟩
/-- The pieces of the text of a list are its names. -/
theorem bpc_show {ns : List ByteArray} {up : List UInt8} {ls : List Nat} (hg : GL ns up ls) (hne : ls ≠ []) : bpc (shV ns ls) = shN ns ls := by
  rw [shV_ne hne]
  unfold bpc shT
  have e : (pcs (Lib.join ((shN ns ls).map (·.data.toList)) [44])) = (shN ns ls).map (·.data.toList) := by
    refine pcs_join _ ?_ ?_
    · intro c
      have := congrArg List.length c
      rw [List.length_map, shN_len] at this
      exact hne (List.length_eq_zero_iff.1 this)
    · intro x hx
      obtain ⟨y, hy, rfl⟩ := List.mem_map.1 hx
      exact (nm_free (shN_name hg y hy).1).1
  have e2 : (⟨(Lib.join ((shN ns ls).map (·.data.toList)) [44]).toArray⟩ : ByteArray).data.toList = Lib.join ((shN ns ls).map (·.data.toList)) [44] := rfl
  rw [e2, e]
  exact (of_data rfl).symm
theorem vF_show {ns : List ByteArray} {up : List UInt8} {ls : List Nat} (hg : GL ns up ls) : (shN ns ls).map (vF ns) = ls ∧ (shN ns ls).all (okF ns) = true := by
  constructor
  · unfold shN
    rw [List.map_map]
    conv => rhs; rw [← List.map_id ls]
    refine List.map_congr_left fun a ha => ?_
    have hal : a < ns.length := by have := hg.all a ha; have := hg.good.len; omega
    simp only [Function.comp, id]
    rw [List.getD_eq_getElem?_getD, List.getElem?_eq_getElem hal]
    show vF ns ns[a] = a
    unfold vF; rw [hg.good.ix hal]; rfl
  · refine List.all_eq_true.2 fun x hx => ?_
    obtain ⟨_, a, hal, _, rfl⟩ := shN_name hg x hx
    unfold okF; rw [hg.good.ix hal]; rfl
theorem dash_no {ns : List ByteArray} {up : List UInt8} {ls : List Nat} (hg : GL ns up ls) (hne : ls ≠ []) : byt (shV ns ls) ≠ [45] := by
  intro e
  have h := bpc_show hg hne
  unfold bpc at h
  rw [show (shV ns ls).data.toList = [45] from e] at h
  have hm : (⟨#[45]⟩ : ByteArray) ∈ shN ns ls := by rw [← h]; exact List.mem_cons_self ..
  exact (nm_free (shN_name hg _ hm).1).2.1 rfl
theorem cnB_no {xs : List ByteArray} (h : ∀ x ∈ xs, byt x ≠ []) : cnB xs (⟨#[]⟩ : ByteArray) = false := by
  cases hc : cnB xs (⟨#[]⟩ : ByteArray)
  · rfl
  · exfalso
    unfold cnB at hc
    obtain ⟨j, hj, e⟩ := List.any_eq_true.1 hc
    have hj2 := List.mem_range.1 hj
    rw [eqs_get hj2] at e
    have := str_eq2 e
    exact h _ (List.getElem_mem hj2) (by rw [← this]; rfl)
/-- Read of Show. -/
theorem read_show {ns : List ByteArray} {up : List UInt8} {ls : List Nat} (hg : GL ns up ls) : rdE ns (shV ns ls) = 0 ∧ rdV ns (shV ns ls) = ls := by
  by_cases hne : ls = []
  · subst hne
    have e : rdE ns (shV ns []) = 0 := by unfold rdE; rw [if_pos (by rfl)]
    exact ⟨e, by unfold rdV; rw [if_pos e, if_pos (by rfl)]⟩
  · have h1 := dash_no hg hne
    have h2 := bpc_show hg hne
    obtain ⟨h3, h4⟩ := vF_show hg
    have e : rdE ns (shV ns ls) = 0 := by
      unfold rdE
      rw [if_neg h1, h2, if_neg (by rw [shN_len]; have := hg.most; omega), if_neg (by rw [cnB_no fun x hx => (nm_free (shN_name hg x hx).1).2.2]; decide), if_pos h4]
    exact ⟨e, by unfold rdV; rw [if_pos e, if_neg h1, h2, h3]⟩
/-- Show of Read. -/
theorem show_read {ns : List ByteArray} {up : List UInt8} {s : ByteArray} (hg : Good ns up) (h : rdE ns s = 0) : GL ns up (rdV ns s) ∧ shV ns (rdV ns s) = s := by
  have hV : rdV ns s = if byt s = [45] then [] else (bpc s).map (vF ns) := by unfold rdV; rw [if_pos h]
  by_cases hd : byt s = [45]
  · rw [hV, if_pos hd]
    exact ⟨⟨hg, by simp, fun a ha => by cases ha⟩, by rw [shV_nil, ← mk_byt s, hd]⟩
  · rw [hV, if_neg hd]
    unfold rdE at h
    rw [if_neg hd] at h
    by_cases h1 : 64 < (bpc s).length
    · rw [if_pos h1] at h; exact absurd h (by decide)
    rw [if_neg h1] at h
    by_cases h2 : cnB (bpc s) (⟨#[]⟩ : ByteArray) = true
    · rw [if_pos h2] at h; exact absurd h (by decide)
    rw [if_neg h2] at h
    by_cases h3 : (bpc s).all (okF ns) = true
    · have hall := List.all_eq_true.1 h3
      have hne : (bpc s).map (vF ns) ≠ [] := by
        intro c
        have := congrArg List.length c
        rw [List.length_map, bpc_len] at this
        simp at this
      refine ⟨⟨hg, by rw [List.length_map]; omega, fun a ha => ?_⟩, ?_⟩
      · obtain ⟨x, hx, rfl⟩ := List.mem_map.1 ha
        obtain ⟨hk, _⟩ := ixF_get (okF_some (hall x hx))
        rw [hg.len]; exact hk
      · rw [shV_ne hne]
        have e : shN ns ((bpc s).map (vF ns)) = bpc s := by
          unfold shN
          rw [List.map_map]
          conv => rhs; rw [← List.map_id (bpc s)]
          refine List.map_congr_left fun x hx => ?_
          obtain ⟨hk, hx2⟩ := ixF_get (okF_some (hall x hx))
          simp only [Function.comp, id]
          rw [List.getD_eq_getElem?_getD, List.getElem?_eq_getElem hk]
          exact hx2
        unfold shT
        rw [e]
        have e2 : (bpc s).map (·.data.toList) = pcs s.data.toList := by
          unfold bpc
          rw [List.map_map]
          conv => rhs; rw [← List.map_id (pcs s.data.toList)]
          exact List.map_congr_left fun x _ => by simp
        rw [e2, join_pcs]
    · rw [if_neg h3] at h; exact absurd h (by decide)
end Go.Proofs.YtablaacddbkeiaaGreatDoor
namespace Go.Proofs.YtablaacddbkeiaaGreatDoor
open Go.RowKit

/-- The listed variable holds some number. -/
def LayM (w : World) : Prop := 0 < w.heap.size ∧ ∃ m, w.cell? ⟨0, 0, none⟩ = some (.int .i64 m)
theorem LayM.next {w w' : World} (h : LayM w) (hb : Below w.heap.size w w') : LayM w' := by
  obtain ⟨h1, m, h2⟩ := h
  exact ⟨Nat.lt_of_lt_of_le h1 hb.size, m, (hb.cell (p := ⟨0, 0, none⟩) h1).trans h2⟩
theorem countB_one (s : ByteArray) : Lib.countB s ⟨#[44]⟩ + 1 = (bpc s).length := by
  rw [bpc_len]
  exact congrArg (· + 1) (Lib.count_one 44 s.data.toList)
theorem split_any (s : ByteArray) (w : World) (hw : LayM w) (hs : s.size ≤ 1000000) :
    Calls Tryz.prog 28 #[.string s, .string ⟨#[44]⟩] w fun e w' => ∃ g, e = .returned (.slice (some ⟨g, 0, none⟩) (bpc s).length (bpc s).length) ∧ RdS w'.heap.size w' (.slice (some ⟨g, 0, none⟩) (bpc s).length (bpc s).length) (bpc s) ∧ Below w.heap.size w w' := by
  obtain ⟨_, m, hm⟩ := hw
  refine (Tryz.strings_Split s ⟨#[44]⟩ m w (by omega) hm (by decide)).mono ?_
  rintro e w' ⟨rfl, rfl⟩
  rw [countB_one, split_bpc]
  have hl : (bpc s).length ≤ 1000001 := by
    rw [bpc_len]
    have := List.count_le_length (a := (44 : UInt8)) (l := s.data.toList)
    have h2 : s.data.toList.length = s.size := by simp
    omega
  refine ⟨_, rfl, ⟨_, _, rfl, Nat.le_refl _, by omega, fun _ => ⟨_, 0, rfl, by simp, fun j hj => ?_⟩⟩, (Below.refl _ _).alloc (Nat.le_refl _) _⟩
  rw [Nat.zero_add, cell_of_block (heap_alloc_last w _) j]
  simp [List.getElem?_eq_getElem hj]

theorem rdE_long {ns : List ByteArray} {s : ByteArray} (h : 64 < (bpc s).length) : rdE ns s = 3 ∧ rdV ns s = [] := by
  have hd : byt s ≠ [45] := by
    intro e
    have e2 : s.data.toList = [45] := e
    rw [bpc_len, e2] at h
    exact absurd h (by decide)
  have e : rdE ns s = 3 := by unfold rdE; rw [if_neg hd, if_pos h]
  exact ⟨e, by unfold rdV; rw [e]; rfl⟩
theorem rdE_dash {ns : List ByteArray} {s : ByteArray} (h : byt s = [45]) : rdE ns s = 0 ∧ rdV ns s = [] := by
  have e : rdE ns s = 0 := by unfold rdE; rw [if_pos h]
  exact ⟨e, by unfold rdV; rw [if_pos e, if_pos h]⟩
theorem rdE_form {ns : List ByteArray} {s : ByteArray} (hd : byt s ≠ [45]) (h : ¬ 64 < (bpc s).length) (hc : cnB (bpc s) (⟨#[]⟩ : ByteArray) = true) : rdE ns s = 6 ∧ rdV ns s = [] := by
  have e : rdE ns s = 6 := by unfold rdE; rw [if_neg hd, if_neg h, if_pos hc]
  exact ⟨e, by unfold rdV; rw [e]; rfl⟩
theorem rdE_none {ns : List ByteArray} {s x : ByteArray} (hd : byt s ≠ [45]) (h : ¬ 64 < (bpc s).length) (hc : cnB (bpc s) (⟨#[]⟩ : ByteArray) = false) (hx : x ∈ bpc s) (ho : okF ns x = false) : rdE ns s = 4 ∧ rdV ns s = [] := by
  have ha : ¬ (bpc s).all (okF ns) = true := fun c => by have := List.all_eq_true.1 c x hx; rw [ho] at this; exact absurd this (by decide)
  have e : rdE ns s = 4 := by unfold rdE; rw [if_neg hd, if_neg h, if_neg (by rw [hc]; decide), if_neg ha]
  exact ⟨e, by unfold rdV; rw [e]; rfl⟩
theorem rdE_all {ns : List ByteArray} {s : ByteArray} (hd : byt s ≠ [45]) (h : ¬ 64 < (bpc s).length) (hc : cnB (bpc s) (⟨#[]⟩ : ByteArray) = false) (ha : ∀ x ∈ bpc s, okF ns x = true) : rdE ns s = 0 ∧ rdV ns s = (bpc s).map (vF ns) := by
  have e : rdE ns s = 0 := by unfold rdE; rw [if_neg hd, if_neg h, if_neg (by rw [hc]; decide), if_pos (List.all_eq_true.2 ha)]
  exact ⟨e, by unfold rdV; rw [if_pos e, if_neg hd]⟩
theorem own_lenN {w : World} {base : Nat} {v : Value} {l : List Nat} (h : Own base w v l) : ∃ a c, v = .slice a l.length c := by
  rcases h.2 with ⟨rfl, h0⟩ | ⟨g, cap, cur, rfl, _⟩
  · exact ⟨none, 0, by rw [show l.length = 0 from h0]⟩
  · exact ⟨_, _, rfl⟩
theorem nil_someN (a : Addr) (n c : Nat) : NilC (.slice (some a) n c) := fun _ _ e => by cases e
theorem dash_eq {s : ByteArray} (h : byt s = [45]) : s = ⟨#[45]⟩ := by rw [← mk_byt s, h]
theorem dash_cmp (s : ByteArray) : (s.toList == [45]) = decide (byt s = [45]) := by
  rw [byt_eq]
  by_cases h : byt s = [45]
  · rw [decide_eq_true h, h]; rfl
  · rw [decide_eq_false h]; simpa using h

set_option maxRecDepth 100000
set_option maxHeartbeats 2000000 in
theorem lread_bad (v : Value) (ns : List ByteArray) (up : List UInt8) (s : ByteArray) (w : World) (hv : RdL w.heap.size w v ns up) (hck : ((ck ns up).2 != 0) = true) :
    Calls Tryz.prog 9 #[v, .string s] w fun e w' => e = .returned (.tuple #[.slice none 0 0, .int .i64 (ck ns up).2]) ∧ Below w.heap.size w w' := by
  have HL := Lib.hid hv
  obtain ⟨⟨vn, vu, rfl, hS, hB⟩, hsz⟩ := hv
  obtain ⟨p, cap, rfl, hc, hc2, h⟩ := hS
  obtain ⟨q, cap', rfl, hc', hc2', h'⟩ := hB
  clear h h' hsz
  have HI := Lib.hid (Bx.new HL.out)
  go_enter Tryz.func9, Tryz.ntmps9
  go_wp2_with (go_at_call 26; refine (check_any _ ns up _ HI.out.rd).mono ?_; rintro e w' ⟨rfl, hbn⟩; have HI2 := Lib.hid (HI.out.next hbn); clear HI; have HI := HI2; clear HI2; have hx0 := HI.out.x0; have hx1 := HI.out.x1; clear hbn)
  go_ret2
  exact ⟨rfl, HI.out.bel⟩
set_option maxHeartbeats 4000000 in
theorem lread_ok (v : Value) (ns : List ByteArray) (up : List UInt8) (s : ByteArray) (w : World) (hw : LayM w) (hv : RdL w.heap.size w v ns up) (hg : Good ns up) (hs : s.size ≤ 1000000) :
    Calls Tryz.prog 9 #[v, .string s] w (SoL (rdV ns s) (rdE ns s) w) := by
  have HW := Lib.hid hw
  have HL := Lib.hid hv
  obtain ⟨⟨vn0, vu, rfl, hS, hB⟩, hsz⟩ := hv
  obtain ⟨p, cap, rfl, hc, hc2, h⟩ := hS
  obtain ⟨q, cap', rfl, hc', hc2', h'⟩ := hB
  clear h h' hsz
  have HI := Lib.hid (Bx.new HL.out)
  have H0 := Lib.hid hg.ck
  have HG := Lib.hid hg
  have HSz : Hid (s.size ≤ 1000000) := hs
  have HCt : Hid (∀ W, Calls Tryz.prog 27 #[.string s, .string ⟨#[44]⟩] W fun e w' => e = .returned (.int .i64 (((bpc s).length : Int) - 1)) ∧ w' = W) := fun W => by
    have := Tryz.strings_Count_one s 44 W
    refine this.mono ?_
    rintro e w' ⟨rfl, rfl⟩
    rw [bpc_len]
    exact ⟨by simp [Lib.countByte], rfl⟩
  clear hg hs hw
  have hpos : 1 ≤ (bpc s).length := by rw [bpc_len]; omega
  by_cases h64 : 64 < (bpc s).length
  · have HE := Lib.hid (rdE_long (ns := ns) h64)
    have d0 : (64 : Int) ≤ ((bpc s).length : Int) - 1 := by omega
    clear h64 hpos
    go_enter Tryz.func9, Tryz.ntmps9
    go_wp2_with (first
      | (go_at_call 26; refine (check_any _ ns up _ HI.out.rd).mono ?_; rw [H0.out]; rintro e w' ⟨rfl, hbn⟩; have HI2 := Lib.hid (HI.out.next hbn); clear HI; have HI := HI2; clear HI2; have hx0 := HI.out.x0; have hx1 := HI.out.x1; clear hbn)
      | (go_at_call 27; refine (HCt.out _).mono ?_; rintro e w2 ⟨rfl, rfl⟩))
    go_ret2
    rw [HE.out.1, HE.out.2]
    exact soL_nil ⟨rfl, HI.out.bel⟩
  · have d0 : ¬ (64 : Int) ≤ ((bpc s).length : Int) - 1 := by omega
    have H64 := Lib.hid h64
    have hq := dash_cmp s
    by_cases hd : byt s = [45]
    · have HE := Lib.hid (rdE_dash (ns := ns) hd)
      rw [decide_eq_true hd] at hq
      clear h64 hpos hd
      go_enter Tryz.func9, Tryz.ntmps9
      go_wp2_with (first
        | (go_at_call 26; refine (check_any _ ns up _ HI.out.rd).mono ?_; rw [H0.out]; rintro e w' ⟨rfl, hbn⟩; have HI2 := Lib.hid (HI.out.next hbn); clear HI; have HI := HI2; clear HI2; have hx0 := HI.out.x0; have hx1 := HI.out.x1; clear hbn)
        | (go_at_call 27; refine (HCt.out _).mono ?_; rintro e w2 ⟨rfl, rfl⟩))
      go_ret2
      rw [HE.out.1, HE.out.2]
      exact soL_nil ⟨rfl, HI.out.bel⟩
    · rw [decide_eq_false hd] at hq
      have HD := Lib.hid hd
      have HSp := Lib.hid (fun W hW => split_any s W hW HSz.out)
      have hl64 : ((bpc s).length : Int) ≤ 64 := by omega
      clear h64 hd
      cases hcn : cnB (bpc s) (⟨#[]⟩ : ByteArray) with
      | true =>
        have HE := Lib.hid (rdE_form (ns := ns) HD.out H64.out hcn)
        have HCn := Lib.hid hcn
        generalize bpc s = xs at HSp HCn HCt hpos hl64 d0
        clear hcn hpos
        go_enter Tryz.func9, Tryz.ntmps9
        go_wp2_with (first
          | (go_at_call 26; refine (check_any _ ns up _ HI.out.rd).mono ?_; rw [H0.out]; rintro e w' ⟨rfl, hbn⟩; have HI2 := Lib.hid (HI.out.next hbn); clear HI; have HI := HI2; clear HI2; have hx0 := HI.out.x0; have hx1 := HI.out.x1; clear hbn)
          | (go_at_call 27; refine (HCt.out _).mono ?_; rintro e w2 ⟨rfl, rfl⟩)
          | (go_at_call 28; refine (HSp.out _ (HW.out.next HI.out.bel)).mono ?_; rintro e w3 ⟨g, rfl, hr, hbn⟩; clear hx0 hx1; have HI2 := Lib.hid (HI.out.next hbn); clear HI; have HI := HI2; clear HI2; have hx0 := HI.out.x0; have hx1 := HI.out.x1; have HR := Lib.hid hr; clear hr hbn)
          | (go_at_call 29; refine (contains_any _ _ ⟨#[]⟩ _ HR.out).mono ?_; rw [HCn.out]; rintro e w4 ⟨rfl, rfl⟩))
        go_ret2
        rw [HE.out.1, HE.out.2]
        exact soL_nil ⟨rfl, HI.out.bel⟩
      | false =>
        have HCn := Lib.hid hcn
        have HA := Lib.hid (fun h => rdE_all (ns := ns) HD.out H64.out hcn h)
        have HN := Lib.hid (fun x (hx : x ∈ bpc s) ho => rdE_none (ns := ns) HD.out H64.out hcn hx ho)
        generalize bpc s = xs at HSp HCn HCt hpos hl64 d0 HA HN
        clear hcn
        go_enter Tryz.func9, Tryz.ntmps9
        go_wp2_with (first
          | (go_at_call 26; refine (check_any _ ns up _ HI.out.rd).mono ?_; rw [H0.out]; rintro e w' ⟨rfl, hbn⟩; have HI2 := Lib.hid (HI.out.next hbn); clear HI; have HI := HI2; clear HI2; have hx0 := HI.out.x0; have hx1 := HI.out.x1; clear hbn)
          | (go_at_call 27; refine (HCt.out _).mono ?_; rintro e w2 ⟨rfl, rfl⟩)
          | (go_at_call 28; refine (HSp.out _ (HW.out.next HI.out.bel)).mono ?_; rintro e w3 ⟨g, rfl, hr, hbn⟩; clear hx0 hx1; have HI2 := Lib.hid (HI.out.next hbn); clear HI; have HI := HI2; clear HI2; have hx0 := HI.out.x0; have hx1 := HI.out.x1; have HR := Lib.hid hr; clear hr hbn)
          | (go_at_call 29; refine (contains_any _ _ ⟨#[]⟩ _ HR.out).mono ?_; rw [HCn.out]; rintro e w4 ⟨rfl, rfl⟩))
        have H3 := Lib.hid HI.out.bel
        have HI0 := Lib.hid HI.out
        go_loopg [9, 33] xs.length (fun g0 o i wr => ∃ (k : Nat) (L : List Nat) (u : Value), o = u ∧ k + g0 = xs.length ∧ i = .int .i64 (k : Int) ∧ Own w3.heap.size wr u L ∧ Hid (L = (xs.take k).map (vF ns) ∧ ∀ x ∈ xs.take k, okF ns x = true) ∧ Below w3.heap.size w3 wr)
        case atStart => exact ⟨0, [], _, rfl, by omega, rfl, World.ownsRow_nil _ _ _ _, ⟨rfl, fun x hx => by simp at hx⟩, Below.refl _ _⟩
        case round =>
          clear hx0 hx1 HI
          obtain ⟨k, L, u, rfl, hkg, rfl, ho, HLL, hb⟩ := hrel
          have HO := Lib.hid ho
          have HB := Lib.hid hb
          have HI := Lib.hid (HI0.out.next hb)
          have HRn := Lib.hid (HR.out.next hb)
          have hLl : L.length = min k xs.length := by rw [HLL.out.1]; simp
          obtain ⟨ua, uc, rfl⟩ := own_lenN ho
          clear ho hb
          cases gk with
          | zero =>
            have hki : ¬ ((k : Int) < (xs.length : Int)) := by omega
            have hall : xs.take k = xs := List.take_of_length_le (by omega)
            rw [hall] at HLL
            have HE := Lib.hid (HA.out HLL.out.2)
            have HQ := Lib.hid HLL.out.1
            clear hall hLl HLL hkg
            go_wp2_with fail
            go_ret2
            rw [HE.out.1, HE.out.2, ← HQ.out]
            exact ⟨ua, uc, rfl, own_rd HO.out, HI.out.bel⟩
          | succ g0 =>
            have hk : k < xs.length := by omega
            have hki : (k : Int) < (xs.length : Int) := by omega
            have hx0 := HI.out.x0
            have hx1 := HI.out.x1
            obtain ⟨b1, o1, e1, _, hy⟩ := HRn.out.at k hk
            obtain ⟨rfl, rfl⟩ : g = b1 ∧ 0 = o1 := by simpa using e1
            rw [Nat.zero_add] at hy
            clear e1
            have hmem := List.getElem_mem hk
            have HT : Hid (xs.take (k + 1) = xs.take k ++ [xs[k]]) := List.take_succ_eq_append_getElem hk
            have hl100 : L.length ≤ 100 := by omega
            have HL1 : Hid (L.length ≤ 100) := hl100
            obtain ⟨x, hx⟩ : ∃ x, x = xs[k] := ⟨_, rfl⟩
            rw [← hx] at hy hmem HT
            have HM : Hid (x ∈ xs) := hmem
            have HF0 := find_ok _ ns up x wr HI.out.rd HG.out
            clear hx hmem hLl hl100 hpos
            cases hok : okF ns x with
            | true =>
              obtain ⟨f1, f2, _⟩ := fd_some (okF_some hok)
              rw [f1, f2] at HF0
              have HF := Lib.hid HF0
              have HLn : Hid (L ++ [vF ns x] = (xs.take (k + 1)).map (vF ns) ∧ ∀ y ∈ xs.take (k + 1), okF ns y = true) := by
                rw [HT.out, List.map_append, HLL.out.1]
                exact ⟨rfl, fun y hy => by
                  rcases List.mem_append.1 hy with h | h
                  · exact HLL.out.2 y h
                  · rw [List.mem_singleton.1 h]; exact hok⟩
              generalize vF ns x = z at HF HLn
              have hz : Hid True := trivial
              clear hok f1 f2 HF0
              go_wp2_with (first
                | (at_builtin; refine wpList_append_ns (by simp [Region.wanted]) _ _ rfl w3.heap.size _ _ rfl HZ.out _ _ rfl _ HRd.out (nil_someN _ _ _) ?c1 ?c2 ?_; rotate_left 2; intro u2 w6 hu2 hg2; have HB3 := Lib.hid (HC.out.grown hg2 HC.out.size (fun j e => (HZ.out.lt j e).1)); have HU := Lib.hid hu2; clear hu2 hg2)
                | (go_at_call 30; refine HF.out.mono ?_; rintro e w5 ⟨rfl, hb5⟩; have HB2 := Lib.hid (HB.out.trans (hb5.mono HB.out.size)); have HC := Lib.hid (HB2.out.alloc HB2.out.size (.cells #[.int .i64 (z : Int)] 3)); have HZ := Lib.hid (own_below (own_below HO.out hb5) ((Below.refl w5.heap.size w5).alloc (Nat.le_refl _) (.cells #[.int .i64 (z : Int)] 3))); have HRd := Lib.hid (lit_rd w5 [z] (by simp)); clear hb5))
              case c1 => have := HL1.out; simp; omega
              case c2 => exact HC.out.size
              go_roundg g0
              case measure => omega
              case rel => exact ⟨k + 1, _, _, rfl, by omega, by go_num, HU.out, HLn.out, HB3.out⟩
            | false =>
              obtain ⟨f1, f2, _⟩ := fd_none (okF_none hok)
              rw [f1, f2] at HF0
              have HF := Lib.hid HF0
              have HE := Lib.hid (HN.out x HM.out hok)
              clear hok f1 f2 HF0
              go_wp2_with (go_at_call 30; refine HF.out.mono ?_; rintro e w5 ⟨rfl, hb5⟩; have HI2 := Lib.hid (HI.out.next hb5); clear hb5)
              go_ret2
              rw [HE.out.1, HE.out.2]
              exact soL_nil ⟨rfl, HI2.out.bel⟩
end Go.Proofs.YtablaacddbkeiaaGreatDoor
namespace Go.Proofs.YtablaacddbkeiaaGreatDoor
open Go.ChangeShapes Go.WideShapes Go.ChangeAt Go.RowKit Go.Lib

/-- The listed variable of a shaped world holds some number. -/
theorem layM_of {W : World} (h : W.ShapedOpen Tryz.prog) : LayM W := by
  obtain ⟨m, hm⟩ := Go.Proofs.cell_of_shapedOpen_int (zero := #[.int .i64 0]) (t := 3) (g := 0) h (of_decide_eq_true (by kernel_rfl)) (by kernel_rfl) rfl (by kernel_rfl) (by kernel_rfl) Tryz.underlying3
  refine ⟨?_, m, hm⟩
  unfold World.cell? at hm
  split at hm
  · rename_i hb; exact (Array.getElem?_eq_some_iff.1 hb).1
  · cases hm
/-- A world for the witness: the listed variables hold what their initialisers lay. -/
noncomputable def laidWorld2 (os : Os) : World :=
  let w0 := World.holding Tryz.prog os ⟨#[], #[], []⟩
  let put (h : Array Obj) (g : Nat) (cs : Array Value) : Array Obj := h.modify g fun
    | .cells _ t frozen => .cells cs t frozen
    | o => o
  let h1 := put w0.heap 2 ((List.range 16).flatMap fun i => [Value.int .u8 (Lib.accLo i), Value.int .u8 (Lib.accHi i)]).toArray
  let h2 := put h1 1 (Lib.firstTab.map fun z => Value.int .u8 z).toArray
  { w0 with heap := h2 }

def two : List (String × DataW Unit) := [("unicode/utf8.acceptRanges", Rows.laid_unicode_utf8_acceptRanges), ("unicode/utf8.first", Rows.laid_unicode_utf8_first)]
theorem laid_met2 (os : Os) (args : Array Value) : laidMet Tryz.prog two ((laidWorld2 os).forCall (fun _ _ => 0) ⟨#[], args, []⟩).memory :=
  laidMet_of_run' 8 (by kernel_rfl) (by kernel_rfl)
theorem laid_vars2 (os : Os) (args : Array Value) : ((laidWorld2 os).forCall (fun _ _ => 0) ⟨#[], args, []⟩).variablesRefB Tryz.prog = true := by kernel_rfl
theorem laid_heap2 (os : Os) (args : Array Value) : ((((laidWorld2 os).forCall (fun _ _ => 0) ⟨#[], args, []⟩).heap.toList.drop Tryz.prog.globals.size).take ((begin Tryz.prog (fun _ _ => 0) default).world.heap.size - Tryz.prog.globals.size)) =
      (begin Tryz.prog (fun _ _ => 0) default).world.heap.toList.drop Tryz.prog.globals.size := by kernel_rfl
end Go.Proofs.YtablaacddbkeiaaGreatDoor
namespace Go.Proofs.YtablaacddbkeiaaGreatDoor
open Go.RowKit

theorem nil_rd (W : World) : RdN W.heap.size W (.slice none 0 0) [] := ⟨none, 0, rfl, Nat.le_refl _, by omega, fun h => absurd rfl h⟩
theorem k_1 : jn (le dU) dU.length (endF (ge dU) dU.length dU.length) [] = 0 := by decide +kernel
theorem k_2 : jn (ge dU) dU.length (endF (le dU) dU.length dU.length) [3, 1] = 1 := by decide +kernel
theorem k_3 : jn (ge dU) dU.length (endF (le dU) dU.length dU.length) [] = 3 := by decide +kernel
theorem k_4 : dnV dN dU 1 = [0, 1] ∧ cl1 dN dU 1 = 0 := by decide +kernel
theorem k_5 : upV dN dU 2 = [2, 3] ∧ cl1 dN dU 2 = 0 := by decide +kernel
theorem k_6 : chV dN dU (ints [0, 3, 1]) = true ∧ (lck dN dU (ints [0, 3, 1])).2 = 0 := by decide +kernel
theorem k_7 : chV dN dU (ints [1, 2]) = false ∧ (lck dN dU (ints [1, 2])).2 = 0 := by decide +kernel
theorem k_8 : rdE dN ⟨#[108, 111, 119, 44, 44, 97, 110, 110]⟩ = 6 ∧ rdV dN ⟨#[108, 111, 119, 44, 44, 97, 110, 110]⟩ = [] := by decide +kernel
theorem k_9 : rdE dN ⟨#[101, 118, 101]⟩ = 4 ∧ rdV dN ⟨#[101, 118, 101]⟩ = [] := by decide +kernel
theorem k_join0 (W : World) (v : Value) (hv : RdL W.heap.size W v dN dU) : Calls Tryz.prog 13 #[v, .slice none 0 0] W fun e w' => e = .returned (.tuple #[.int .i64 0, .int .i64 0]) ∧ Below W.heap.size W w' := by
  have h := ljoin_ok v _ dN dU [] _ hv (nil_rd W) ⟨dGood, by decide, by decide⟩
  rw [k_1] at h
  exact h
theorem k_meet31 (W : World) (v : Value) (hv : RdL W.heap.size W v dN dU) : Calls Tryz.prog 14 #[v, .slice (some ⟨W.heap.size, 0, none⟩) 2 2] (W.alloc (.cells #[.int .i64 3, .int .i64 1] 3)) fun e w' => e = .returned (.tuple #[.int .i64 1, .int .i64 0]) ∧ Below W.heap.size W w' := by
  have h := lmeet_ok v _ dN dU [3, 1] _ (hv.al _) (lit_rd W [3, 1] (by decide)) ⟨dGood, by decide, by decide⟩
  rw [k_2] at h
  exact h.mono fun e w' ⟨he, hb⟩ => ⟨he, bel2 hb⟩
theorem k_meet0 (W : World) (v : Value) (hv : RdL W.heap.size W v dN dU) : Calls Tryz.prog 14 #[v, .slice none 0 0] W fun e w' => e = .returned (.tuple #[.int .i64 3, .int .i64 0]) ∧ Below W.heap.size W w' := by
  have h := lmeet_ok v _ dN dU [] _ hv (nil_rd W) ⟨dGood, by decide, by decide⟩
  rw [k_3] at h
  exact h
theorem k_down1 (W : World) (v : Value) (hv : RdL W.heap.size W v dN dU) : Calls Tryz.prog 15 #[v, .int .i64 1] W fun e w' => ∃ a c, e = .returned (.tuple #[.slice a 2 c, .int .i64 0]) ∧ RdN w'.heap.size w' (.slice a 2 c) [0, 1] ∧ Below W.heap.size W w' := by
  have h := ldown_any v dN dU 1 W hv
  rw [k_4.1, k_4.2] at h
  exact h
theorem k_up2 (W : World) (v : Value) (hv : RdL W.heap.size W v dN dU) : Calls Tryz.prog 16 #[v, .int .i64 2] W fun e w' => ∃ a c, e = .returned (.tuple #[.slice a 2 c, .int .i64 0]) ∧ RdN w'.heap.size w' (.slice a 2 c) [2, 3] ∧ Below W.heap.size W w' := by
  have h := lup_any v dN dU 2 W hv
  rw [k_5.1, k_5.2] at h
  exact h
theorem k_chain1 (W : World) (v : Value) (hv : RdL W.heap.size W v dN dU) : Calls Tryz.prog 17 #[v, .slice (some ⟨W.heap.size, 0, none⟩) 3 3] (W.alloc (.cells #[.int .i64 0, .int .i64 3, .int .i64 1] 3)) fun e w' => e = .returned (.tuple #[.bool true, .int .i64 0]) ∧ Below W.heap.size W w' := by
  have h := lchain_any v _ dN dU (ints [0, 3, 1]) _ (hv.al _) (rd_int (lit_rd W [0, 3, 1] (by decide)))
  rw [k_6.1, k_6.2] at h
  exact h.mono fun e w' ⟨he, hb⟩ => ⟨he, bel2 hb⟩
theorem k_chain2 (W : World) (v : Value) (hv : RdL W.heap.size W v dN dU) : Calls Tryz.prog 17 #[v, .slice (some ⟨W.heap.size, 0, none⟩) 2 2] (W.alloc (.cells #[.int .i64 1, .int .i64 2] 3)) fun e w' => e = .returned (.tuple #[.bool false, .int .i64 0]) ∧ Below W.heap.size W w' := by
  have h := lchain_any v _ dN dU (ints [1, 2]) _ (hv.al _) (rd_int (lit_rd W [1, 2] (by decide)))
  rw [k_7.1, k_7.2] at h
  exact h.mono fun e w' ⟨he, hb⟩ => ⟨he, bel2 hb⟩
theorem k_show0 (W : World) (v : Value) (hv : RdL W.heap.size W v dN dU) : Calls Tryz.prog 7 #[v, .slice none 0 0] W fun e w' => e = .returned (.tuple #[.string ⟨#[45]⟩, .int .i64 0]) ∧ Below W.heap.size W w' := by
  have h := lshow_ok v _ dN dU [] W hv (nil_rd W) ⟨dGood, by decide, by decide⟩
  rw [shV_nil] at h
  exact h
theorem k_read1 (W : World) (v : Value) (hw : LayM W) (hv : RdL W.heap.size W v dN dU) : Calls Tryz.prog 9 #[v, .string ⟨#[108, 111, 119, 44, 44, 97, 110, 110]⟩] W fun e w' => ∃ a c, e = .returned (.tuple #[.slice a 0 c, .int .i64 6]) ∧ Below W.heap.size W w' := by
  have h := lread_ok v dN dU ⟨#[108, 111, 119, 44, 44, 97, 110, 110]⟩ W hw hv dGood (by decide)
  rw [k_8.1, k_8.2] at h
  exact h.mono fun e w' ⟨a, c, he, _, hb⟩ => ⟨a, c, he, hb⟩
theorem k_read2 (W : World) (v : Value) (hw : LayM W) (hv : RdL W.heap.size W v dN dU) : Calls Tryz.prog 9 #[v, .string ⟨#[101, 118, 101]⟩] W fun e w' => ∃ a c, e = .returned (.tuple #[.slice a 0 c, .int .i64 4]) ∧ Below W.heap.size W w' := by
  have h := lread_ok v dN dU ⟨#[101, 118, 101]⟩ W hw hv dGood (by decide)
  rw [k_9.1, k_9.2] at h
  exact h.mono fun e w' ⟨a, c, he, _, hb⟩ => ⟨a, c, he, hb⟩
theorem k_same1 (W : World) (a : Option Addr) (c : Nat) (hv : RdN W.heap.size W (.slice a 2 c) [0, 1]) : Calls Tryz.prog 11 #[.slice a 2 c, .slice (some ⟨W.heap.size, 0, none⟩) 2 2] (W.alloc (.cells #[.int .i64 0, .int .i64 1] 3)) fun e w' => e = .returned (.bool true) ∧ Below W.heap.size W w' := by
  have h := same4_any _ _ [0, 1] [0, 1] _ (hv.al (.cells #[.int .i64 0, .int .i64 1] 3)) (lit_rd W [0, 1] (by decide))
  rw [decide_eq_true rfl] at h
  exact h.mono fun e w' ⟨he, hb⟩ => ⟨he, bel2 hb⟩
theorem k_same2 (W : World) (a : Option Addr) (c : Nat) (hv : RdN W.heap.size W (.slice a 2 c) [2, 3]) : Calls Tryz.prog 11 #[.slice a 2 c, .slice (some ⟨W.heap.size, 0, none⟩) 2 2] (W.alloc (.cells #[.int .i64 2, .int .i64 3] 3)) fun e w' => e = .returned (.bool true) ∧ Below W.heap.size W w' := by
  have h := same4_any _ _ [2, 3] [2, 3] _ (hv.al (.cells #[.int .i64 2, .int .i64 3] 3)) (lit_rd W [2, 3] (by decide))
  rw [decide_eq_true rfl] at h
  exact h.mono fun e w' ⟨he, hb⟩ => ⟨he, bel2 hb⟩
set_option maxRecDepth 100000 in
set_option maxHeartbeats 8000000 in
theorem lawKnown4_any (w : World) (hw : LayM w) : Calls Tryz.prog 4 #[] w fun e w' => e = .returned (.bool true) ∧ Below w.heap.size w w' := by
  have HW := Lib.hid hw
  clear hw
  go_enter Tryz.func4, Tryz.ntmps4
  go_wp2_with fail
  refine (diamond_any w).mono ?_
  rintro e w1 ⟨v1, rfl, h1, hb1⟩
  have HL := Lib.hid h1
  obtain ⟨⟨vn, vu, rfl, ⟨da, dc, rfl, V1⟩, ⟨db, dd, rfl, V2⟩⟩, hsz⟩ := h1
  clear V1 V2 hsz
  have HB1 := Lib.hid hb1
  have HW1 := Lib.hid (HW.out.next hb1)
  clear hb1 HW
  have HI := Lib.hid (Bx.new HL.out)
  have hx0 := HI.out.x0
  have hx1 := HI.out.x1
  go_wp2_with fail
  refine (k_join0 _ _ HI.out.rd).mono ?_
  rintro e wn ⟨rfl, hbn⟩
  have HI2 := Lib.hid (HI.out.next hbn); clear HI; have HI := HI2; clear HI2
  clear hbn hx0 hx1
  have hx0 := HI.out.x0
  have hx1 := HI.out.x1
  go_wp2_with fail
  refine (k_meet31 _ _ HI.out.rd).mono ?_
  rintro e wn ⟨rfl, hbn⟩
  have HI2 := Lib.hid (HI.out.next hbn); clear HI; have HI := HI2; clear HI2
  clear hbn hx0 hx1
  have hx0 := HI.out.x0
  have hx1 := HI.out.x1
  go_wp2_with fail
  refine (k_meet0 _ _ HI.out.rd).mono ?_
  rintro e wn ⟨rfl, hbn⟩
  have HI2 := Lib.hid (HI.out.next hbn); clear HI; have HI := HI2; clear HI2
  clear hbn hx0 hx1
  have hx0 := HI.out.x0
  have hx1 := HI.out.x1
  go_wp2_with fail
  refine (k_down1 _ _ HI.out.rd).mono ?_
  rintro e wn ⟨pa, pc, rfl, hr, hbn⟩
  have HI2 := Lib.hid (HI.out.next hbn); clear HI; have HI := HI2; clear HI2
  clear hbn hx0 hx1
  have hx0 := HI.out.x0
  have hx1 := HI.out.x1
  have HP := Lib.hid hr
  clear hr
  go_wp2_with fail
  refine (k_up2 _ _ HI.out.rd).mono ?_
  rintro e wn ⟨qa, qc, rfl, hr, hbn⟩
  have HI2 := Lib.hid (HI.out.next hbn); clear HI; have HI := HI2; clear HI2
  have HPn := Lib.hid (HP.out.next hbn); clear HP; have HP := HPn; clear HPn
  clear hbn hx0 hx1
  have hx0 := HI.out.x0
  have hx1 := HI.out.x1
  have HQ := Lib.hid hr
  clear hr
  go_wp2_with fail
  refine (k_same1 _ _ _ HP.out).mono ?_
  rintro e wn ⟨rfl, hbn⟩
  have HI2 := Lib.hid (HI.out.next hbn); clear HI; have HI := HI2; clear HI2
  clear HP
  have HQn := Lib.hid (HQ.out.next hbn); clear HQ; have HQ := HQn; clear HQn
  clear hbn hx0 hx1
  have hx0 := HI.out.x0
  have hx1 := HI.out.x1
  go_wp2_with fail
  refine (k_same2 _ _ _ HQ.out).mono ?_
  rintro e wn ⟨rfl, hbn⟩
  have HI2 := Lib.hid (HI.out.next hbn); clear HI; have HI := HI2; clear HI2
  clear HQ
  clear hbn hx0 hx1
  have hx0 := HI.out.x0
  have hx1 := HI.out.x1
  go_wp2_with fail
  refine (k_chain1 _ _ HI.out.rd).mono ?_
  rintro e wn ⟨rfl, hbn⟩
  have HI2 := Lib.hid (HI.out.next hbn); clear HI; have HI := HI2; clear HI2
  clear hbn hx0 hx1
  have hx0 := HI.out.x0
  have hx1 := HI.out.x1
  go_wp2_with fail
  refine (k_chain2 _ _ HI.out.rd).mono ?_
  rintro e wn ⟨rfl, hbn⟩
  have HI2 := Lib.hid (HI.out.next hbn); clear HI; have HI := HI2; clear HI2
  clear hbn hx0 hx1
  have hx0 := HI.out.x0
  have hx1 := HI.out.x1
  go_wp2_with fail
  refine (k_show0 _ _ HI.out.rd).mono ?_
  rintro e wn ⟨rfl, hbn⟩
  have HI2 := Lib.hid (HI.out.next hbn); clear HI; have HI := HI2; clear HI2
  clear hbn hx0 hx1
  have hx0 := HI.out.x0
  have hx1 := HI.out.x1
  go_wp2_with fail
  refine (k_read1 _ _ (HW1.out.next HI.out.bel) HI.out.rd).mono ?_
  rintro e wn ⟨ra, rc, rfl, hbn⟩
  have HI2 := Lib.hid (HI.out.next hbn); clear HI; have HI := HI2; clear HI2
  clear hbn hx0 hx1
  have hx0 := HI.out.x0
  have hx1 := HI.out.x1
  go_wp2_with fail
  refine (k_read2 _ _ (HW1.out.next HI.out.bel) HI.out.rd).mono ?_
  rintro e wn ⟨sa, sc, rfl, hbn⟩
  have HI2 := Lib.hid (HI.out.next hbn); clear HI; have HI := HI2; clear HI2
  clear hbn hx0 hx1
  have hx0 := HI.out.x0
  have hx1 := HI.out.x1
  go_wp2_with fail
  refine (awake4_any _).mono ?_
  rintro e wn ⟨rfl, hbn⟩
  have HI2 := Lib.hid (HI.out.next hbn); clear HI; have HI := HI2; clear HI2
  clear hbn hx0 hx1
  have hx0 := HI.out.x0
  have hx1 := HI.out.x1
  go_wp2_with fail
  go_ret
  exact ⟨rfl, HB1.out.trans (HI.out.bel.mono HB1.out.size)⟩
end Go.Proofs.YtablaacddbkeiaaGreatDoor
