/- Several texts as one (a claim has at most 60 files): LdA, LdB, LdC, LdD, LdE, LdF, LdG, LdH, LdL. -/
import Derived.Lib.SplitLaws
import Derived.Lib.Join
import Derived.Test.YtablaacddbkeiaaGreatDoorLbK
import Derived.Test.YtablaacddbkeiaaGreatDoorLtFi
import Derived.Test.YtablaacddbkeiaaGreatDoorLbR
import Derived.Test.YtablaacddbkeiaaGreatDoorLbW
import Derived.Deep.WholeRow
import Derived.Test.YtablaacddbkeiaaGreatDoorLbM
import Derived.Deep.RegionHeld3
import Derived.Laws.Concat
import Derived.Test.YtablaacddbkeiaaGreatDoorLbL
import Derived.Test.YtablaacddbkeiaaGreatDoorLbO
import Derived.Test.YtablaacddbkeiaaGreatDoorCards
import Derived.Test.YtablaacddbkeiaaGreatDoorTie
import Derived.Test.YtablaacddbkeiaaGreatDoorLbS
import Derived.Shelf.LaysM
import Derived.Deep.DeepHandedRow
import Derived.Deep.DeepWitnessRowRef
import Derived.Lib.LaidTab
import Derived.Lib.LaidU8
import Derived.LaidLaws
namespace Go.Proofs.YtablaacddbkeiaaGreatDoor

def hd1 (b : UInt8) : List (List UInt8) → List (List UInt8)
  | [] => [[b]]
  | p :: q => (b :: p) :: q
/-- The pieces of a text between its commas. -/
def pcs : List UInt8 → List (List UInt8)
  | [] => [[]]
  | b :: l => if b = 44 then [] :: pcs l else hd1 b (pcs l)
theorem pcs_cons (l : List UInt8) : ∃ p q, pcs l = p :: q := by
  cases l with
  | nil => exact ⟨_, _, rfl⟩
  | cons b l =>
    unfold pcs
    split
    · exact ⟨_, _, rfl⟩
    · cases pcs l with
      | nil => exact ⟨_, _, rfl⟩
      | cons p q => exact ⟨_, _, rfl⟩
theorem splitK_ne (b : UInt8) (l : List UInt8) (h : b ≠ 44) (k : Nat) : Lib.splitK [44] 0 k (b :: l) = hd1 b (Lib.splitK [44] 0 k l) := by
  cases k with
  | zero => rfl
  | succ k =>
    have hp : ([44] : List UInt8).isPrefixOf (b :: l) = false := by simp [List.isPrefixOf, Ne.symm h]
    have hix : Lib.index (b :: l) [44] = if Lib.index l [44] == -1 then -1 else Lib.index l [44] + 1 := by rw [Lib.index, hp]; simp
    by_cases hm : Lib.index l [44] = -1
    · rw [if_pos (beq_iff_eq.2 hm)] at hix
      unfold Lib.splitK
      rw [if_pos (beq_iff_eq.2 hix), if_pos (beq_iff_eq.2 hm)]
      rfl
    · have hge := Lib.index_ge l [44]
      obtain ⟨j, hj⟩ : ∃ j : Nat, Lib.index l [44] = j := ⟨(Lib.index l [44]).toNat, by omega⟩
      rw [if_neg (fun e => hm (beq_iff_eq.1 e)), hj] at hix
      have n1 : ¬ (Lib.index (b :: l) [44] == -1) = true := fun e => by have := beq_iff_eq.1 e; omega
      have n2 : ¬ (Lib.index l [44] == -1) = true := fun e => hm (beq_iff_eq.1 e)
      have e1 : (Lib.index (b :: l) [44]).toNat = j + 1 := by omega
      have e2 : (Lib.index l [44]).toNat = j := by omega
      unfold Lib.splitK
      rw [if_neg n1, if_neg n2, e1, e2]
      simp [hd1]
theorem split_pcs : ∀ l : List UInt8, Lib.splitK [44] 0 (Lib.count l [44]) l = pcs l
  | [] => by
    have : Lib.count [] [44] = 0 := by rw [Lib.count_one]; rfl
    rw [this]; rfl
  | b :: l => by
    by_cases h : b = 44
    · subst h
      rw [Lib.count_cons_eq, Nat.add_comm]
      have hix : Lib.index (44 :: l) [44] = 0 := by rw [Lib.index]; simp [List.isPrefixOf]
      unfold Lib.splitK
      rw [hix, if_neg (by decide)]
      simp only [pcs, if_true]
      rw [← split_pcs l]
      simp
    · rw [Lib.count_cons_ne b 44 l h, splitK_ne b l h, split_pcs l]
      simp [pcs, h]
theorem pcs_len : ∀ l : List UInt8, (pcs l).length = l.count 44 + 1
  | [] => rfl
  | b :: l => by
    have ih := pcs_len l
    unfold pcs
    by_cases h : b = 44
    · rw [if_pos h, List.length_cons, ih, h]; simp
    · rw [if_neg h, List.count_cons_of_ne (by simpa using h), ← ih]
      obtain ⟨p, q, e⟩ := pcs_cons l
      rw [e]; rfl
theorem join_pcs : ∀ l : List UInt8, Lib.join (pcs l) [44] = l
  | [] => rfl
  | b :: l => by
    have ih := join_pcs l
    obtain ⟨p, q, e⟩ := pcs_cons l
    unfold pcs
    rw [e, Lib.join_cons] at ih
    by_cases h : b = 44
    · rw [if_pos h, e, Lib.join_cons, h]
      simp only [Lib.joinTail, List.map_cons, List.flatten_cons, List.nil_append, List.cons_append]
      rw [← ih]; rfl
    · rw [if_neg h, e]
      simp only [hd1]
      rw [Lib.join_cons, List.cons_append, ih]
theorem pcs_free : ∀ (l : List UInt8) (x : List UInt8), x ∈ pcs l → (44 : UInt8) ∉ x
  | [], x, hx => by
    simp [pcs] at hx
    subst hx; simp
  | b :: l, x, hx => by
    have ih := pcs_free l
    unfold pcs at hx
    by_cases h : b = 44
    · rw [if_pos h] at hx
      rcases List.mem_cons.1 hx with rfl | hx
      · simp
      · exact ih x hx
    · rw [if_neg h] at hx
      obtain ⟨p, q, e⟩ := pcs_cons l
      rw [e] at hx ih
      simp only [hd1] at hx
      rcases List.mem_cons.1 hx with rfl | hx
      · intro c
        rcases List.mem_cons.1 c with c | c
        · exact h c.symm
        · exact ih p (List.mem_cons_self ..) c
      · exact ih x (List.mem_cons_of_mem _ hx)
theorem pcs_app : ∀ (x r : List UInt8) (p : List UInt8) (q : List (List UInt8)), (44 : UInt8) ∉ x → pcs r = p :: q → pcs (x ++ r) = (x ++ p) :: q
  | [], r, p, q, _, h => h
  | b :: x, r, p, q, hx, h => by
    have hb : b ≠ 44 := fun e => hx (by rw [e]; exact List.mem_cons_self ..)
    rw [List.cons_append]
    unfold pcs
    rw [if_neg hb, pcs_app x r p q (fun c => hx (List.mem_cons_of_mem _ c)) h]
    rfl
theorem pcs_tail : ∀ (r : List (List UInt8)) (x : List UInt8), (44 : UInt8) ∉ x → (∀ y ∈ r, (44 : UInt8) ∉ y) → pcs (x ++ Lib.joinTail [44] r) = x :: r
  | [], x, hx, _ => by
    have := pcs_app x [] [] [] hx rfl
    simpa [Lib.joinTail] using this
  | y :: r, x, hx, hr => by
    have ih := pcs_tail r y (hr y (List.mem_cons_self ..)) (fun z hz => hr z (List.mem_cons_of_mem _ hz))
    have e : Lib.joinTail [44] (y :: r) = 44 :: (y ++ Lib.joinTail [44] r) := by simp [Lib.joinTail]
    have e2 : pcs (44 :: (y ++ Lib.joinTail [44] r)) = [] :: (y :: r) := by rw [pcs, if_pos rfl, ih]
    rw [e, pcs_app x _ [] (y :: r) hx e2, List.append_nil]
theorem pcs_join (xs : List (List UInt8)) (hne : xs ≠ []) (hf : ∀ x ∈ xs, (44 : UInt8) ∉ x) : pcs (Lib.join xs [44]) = xs := by
  cases xs with
  | nil => exact absurd rfl hne
  | cons x r =>
    rw [Lib.join_cons]
    exact pcs_tail r x (hf x (List.mem_cons_self ..)) (fun y hy => hf y (List.mem_cons_of_mem _ hy))
/-- Cut at the first comma. -/
theorem pcs_cut (l : List UInt8) (n : Nat) (hn : n < l.length) (hc : l[n] = 44) (h : (44 : UInt8) ∉ l.take n) : pcs l = l.take n :: pcs (l.drop (n + 1)) := by
  have e : l = l.take n ++ 44 :: l.drop (n + 1) := by rw [← hc, ← List.drop_eq_getElem_cons hn, List.take_append_drop]
  have e2 : pcs (44 :: l.drop (n + 1)) = [] :: pcs (l.drop (n + 1)) := by rw [pcs, if_pos rfl]
  have := pcs_app (l.take n) _ _ _ h e2
  rw [← e, List.append_nil] at this
  exact this
theorem pcs_end (l : List UInt8) (h : (44 : UInt8) ∉ l) : pcs l = [l] := by
  have := pcs_app l [] [] [] h rfl
  simpa using this
/-- The pieces as strings. -/
def bpc (s : ByteArray) : List ByteArray := (pcs s.data.toList).map fun x => ⟨x.toArray⟩
theorem bpc_len (s : ByteArray) : (bpc s).length = s.data.toList.count 44 + 1 := by unfold bpc; rw [List.length_map, pcs_len]
theorem of_data {xs : List ByteArray} {ys : List (List UInt8)} (h : xs.map (·.data.toList) = ys) : xs = ys.map fun x => (⟨x.toArray⟩ : ByteArray) := by
  subst h
  rw [List.map_map]
  conv => lhs; rw [← List.map_id xs]
  exact List.map_congr_left fun x _ => rfl
theorem split_bpc (s : ByteArray) : Lib.splitB ⟨#[44]⟩ 0 (Lib.countB s ⟨#[44]⟩) s = bpc s := by
  have h := Lib.splitB_data ⟨#[44]⟩ 0 (Lib.countB s ⟨#[44]⟩) s
  have e : Lib.splitK (⟨#[44]⟩ : ByteArray).data.toList 0 (Lib.countB s ⟨#[44]⟩) s.data.toList = pcs s.data.toList := split_pcs s.data.toList
  rw [e] at h
  exact of_data h
end Go.Proofs.YtablaacddbkeiaaGreatDoor
namespace Go.Proofs.YtablaacddbkeiaaGreatDoor

def okF (ns : List ByteArray) (x : ByteArray) : Bool := (ixF ns x).isSome
def vF (ns : List ByteArray) (x : ByteArray) : Nat := (ixF ns x).getD 0
/-- The error of a text, among good names. -/
def rdE (ns : List ByteArray) (s : ByteArray) : Int := if byt s = [45] then 0 else if 64 < (bpc s).length then 3 else if cnB (bpc s) (⟨#[]⟩ : ByteArray) = true then 6 else if (bpc s).all (okF ns) = true then 0 else 4
/-- The list of a text, if it has no error. -/
def rdV (ns : List ByteArray) (s : ByteArray) : List Nat := if rdE ns s = 0 then (if byt s = [45] then [] else (bpc s).map (vF ns)) else []

theorem okF_some {ns : List ByteArray} {x : ByteArray} (h : okF ns x = true) : ixF ns x = some (vF ns x) := by
  unfold okF at h; unfold vF
  cases hx : ixF ns x with
  | none => rw [hx] at h; exact absurd h (by decide)
  | some k => rfl
theorem okF_none {ns : List ByteArray} {x : ByteArray} (h : okF ns x = false) : ixF ns x = none := by
  unfold okF at h
  cases hx : ixF ns x with
  | none => rfl
  | some k => rw [hx] at h; exact absurd h (by simp)
theorem str_eq2 {s t : ByteArray} (h : (s.toList == t.toList) = true) : s = t := by
  have h1 : s.toList = t.toList := by simpa using h
  rw [byt_eq, byt_eq] at h1
  rw [← mk_byt s, ← mk_byt t, h1]
/-- A found label has the name. -/
theorem ixF_get {ns : List ByteArray} {x : ByteArray} {k : Nat} (h : ixF ns x = some k) : ∃ hk : k < ns.length, ns[k] = x := by
  have h1 := List.mem_of_find?_eq_some h
  have h2 := List.find?_some h
  have hk := List.mem_range.1 h1
  refine ⟨hk, ?_⟩
  rw [eqs_get hk] at h2
  exact (str_eq2 h2).symm
theorem Good.apart {ns : List ByteArray} {up : List UInt8} (h : Good ns up) {i j : Nat} (hi : i < ns.length) (hj : j < i) : ns[i] ≠ ns[j] := by
  have h1 := List.findSome?_eq_none_iff.1 h.nms i (List.mem_range.2 (by rw [List.length_map]; exact hi))
  intro e
  have ht : twF (ns.map byt) i = true := by
    rw [twF_eq ns i hi]
    unfold cnB
    refine any_at (k := j) ?_ (by rw [List.length_take]; omega)
    rw [eqs_get (by rw [List.length_take]; omega), List.getElem_take, e]
    simp
  unfold nm1 at h1
  rw [ht] at h1
  split at h1
  · exact absurd h1 (by simp)
  · exact absurd h1 (by simp)
theorem Good.ix {ns : List ByteArray} {up : List UInt8} (h : Good ns up) {a : Nat} (ha : a < ns.length) : ixF ns ns[a] = some a := by
  unfold ixF
  refine find_at ?_ ?_ ha
  · refine List.find?_eq_none.2 fun j hj e => ?_
    have hja := List.mem_range.1 hj
    rw [eqs_get (by omega)] at e
    exact h.apart ha hja (str_eq2 e)
  · rw [eqs_get ha]; simp
theorem nm_free {l : List UInt8} (h : nameB l = true) : (44 : UInt8) ∉ l ∧ l ≠ [45] ∧ l ≠ [] := by
  unfold nameB at h
  simp only [Bool.and_eq_true, decide_eq_true_eq] at h
  obtain ⟨⟨h1, h2⟩, h3⟩ := h
  refine ⟨fun c => ?_, ?_, ?_⟩
  · have := List.all_eq_true.1 h3 44 c
    exact absurd this (by decide)
  · rintro rfl; exact absurd h2 (by decide)
  · rintro rfl; simp at h1
theorem shN_name {ns : List ByteArray} {up : List UInt8} {ls : List Nat} (hg : GL ns up ls) : ∀ x ∈ shN ns ls, nameB (byt x) = true ∧ ∃ a, ∃ ha : a < ns.length, a ∈ ls ∧ ns[a] = x := by
  intro x hx
  unfold shN at hx
  obtain ⟨a, ha, rfl⟩ := List.mem_map.1 hx
  have hal : a < ns.length := by have := hg.all a ha; have := hg.good.len; omega
  rw [List.getD_eq_getElem?_getD, List.getElem?_eq_getElem hal]
  exact ⟨hg.good.name a hal, a, hal, ha, rfl⟩
/-- The pieces of the text of a list are its names. -/
theorem bpc_show {ns : List ByteArray} {up : List UInt8} {ls : List Nat} (hg : GL ns up ls) (hne : ls ≠ []) : bpc (shV ns ls) = shN ns ls := by
  rw [shV_ne hne]
  unfold bpc shT
  have e : (pcs (Lib.join ((shN ns ls).map (·.data.toList)) [44])) = (shN ns ls).map (·.data.toList) := by
    refine pcs_join _ ?_ ?_
    · intro c
      have := congrArg List.length c
      rw [List.length_map, shN_len] at this
      exact hne (List.length_eq_zero_iff.1 this)
    · intro x hx
      obtain ⟨y, hy, rfl⟩ := List.mem_map.1 hx
      exact (nm_free (shN_name hg y hy).1).1
  have e2 : (⟨(Lib.join ((shN ns ls).map (·.data.toList)) [44]).toArray⟩ : ByteArray).data.toList = Lib.join ((shN ns ls).map (·.data.toList)) [44] := rfl
  rw [e2, e]
  exact (of_data rfl).symm
theorem vF_show {ns : List ByteArray} {up : List UInt8} {ls : List Nat} (hg : GL ns up ls) : (shN ns ls).map (vF ns) = ls ∧ (shN ns ls).all (okF ns) = true := by
  constructor
  · unfold shN
    rw [List.map_map]
    conv => rhs; rw [← List.map_id ls]
    refine List.map_congr_left fun a ha => ?_
    have hal : a < ns.length := by have := hg.all a ha; have := hg.good.len; omega
    simp only [Function.comp, id]
    rw [List.getD_eq_getElem?_getD, List.getElem?_eq_getElem hal]
    show vF ns ns[a] = a
    unfold vF; rw [hg.good.ix hal]; rfl
  · refine List.all_eq_true.2 fun x hx => ?_
    obtain ⟨_, a, hal, _, rfl⟩ := shN_name hg x hx
    unfold okF; rw [hg.good.ix hal]; rfl
theorem dash_no {ns : List ByteArray} {up : List UInt8} {ls : List Nat} (hg : GL ns up ls) (hne : ls ≠ []) : byt (shV ns ls) ≠ [45] := by
  intro e
  have h := bpc_show hg hne
  unfold bpc at h
  rw [show (shV ns ls).data.toList = [45] from e] at h
  have hm : (⟨#[45]⟩ : ByteArray) ∈ shN ns ls := by rw [← h]; exact List.mem_cons_self ..
  exact (nm_free (shN_name hg _ hm).1).2.1 rfl
theorem cnB_no {xs : List ByteArray} (h : ∀ x ∈ xs, byt x ≠ []) : cnB xs (⟨#[]⟩ : ByteArray) = false := by
  cases hc : cnB xs (⟨#[]⟩ : ByteArray)
  · rfl
  · exfalso
    unfold cnB at hc
    obtain ⟨j, hj, e⟩ := List.any_eq_true.1 hc
    have hj2 := List.mem_range.1 hj
    rw [eqs_get hj2] at e
    have := str_eq2 e
    exact h _ (List.getElem_mem hj2) (by rw [← this]; rfl)
/-- Read of Show. -/
theorem read_show {ns : List ByteArray} {up : List UInt8} {ls : List Nat} (hg : GL ns up ls) : rdE ns (shV ns ls) = 0 ∧ rdV ns (shV ns ls) = ls := by
  by_cases hne : ls = []
  · subst hne
    have e : rdE ns (shV ns []) = 0 := by unfold rdE; rw [if_pos (by rfl)]
    exact ⟨e, by unfold rdV; rw [if_pos e, if_pos (by rfl)]⟩
  · have h1 := dash_no hg hne
    have h2 := bpc_show hg hne
    obtain ⟨h3, h4⟩ := vF_show hg
    have e : rdE ns (shV ns ls) = 0 := by
      unfold rdE
      rw [if_neg h1, h2, if_neg (by rw [shN_len]; have := hg.most; omega), if_neg (by rw [cnB_no fun x hx => (nm_free (shN_name hg x hx).1).2.2]; decide), if_pos h4]
    exact ⟨e, by unfold rdV; rw [if_pos e, if_neg h1, h2, h3]⟩
/-- Show of Read. -/
theorem show_read {ns : List ByteArray} {up : List UInt8} {s : ByteArray} (hg : Good ns up) (h : rdE ns s = 0) : GL ns up (rdV ns s) ∧ shV ns (rdV ns s) = s := by
  have hV : rdV ns s = if byt s = [45] then [] else (bpc s).map (vF ns) := by unfold rdV; rw [if_pos h]
  by_cases hd : byt s = [45]
  · rw [hV, if_pos hd]
    exact ⟨⟨hg, by simp, fun a ha => by cases ha⟩, by rw [shV_nil, ← mk_byt s, hd]⟩
  · rw [hV, if_neg hd]
    unfold rdE at h
    rw [if_neg hd] at h
    by_cases h1 : 64 < (bpc s).length
    · rw [if_pos h1] at h; exact absurd h (by decide)
    rw [if_neg h1] at h
    by_cases h2 : cnB (bpc s) (⟨#[]⟩ : ByteArray) = true
    · rw [if_pos h2] at h; exact absurd h (by decide)
    rw [if_neg h2] at h
    by_cases h3 : (bpc s).all (okF ns) = true
    · have hall := List.all_eq_true.1 h3
      have hne : (bpc s).map (vF ns) ≠ [] := by
        intro c
        have := congrArg List.length c
        rw [List.length_map, bpc_len] at this
        simp at this
      refine ⟨⟨hg, by rw [List.length_map]; omega, fun a ha => ?_⟩, ?_⟩
      · obtain ⟨x, hx, rfl⟩ := List.mem_map.1 ha
        obtain ⟨hk, _⟩ := ixF_get (okF_some (hall x hx))
        rw [hg.len]; exact hk
      · rw [shV_ne hne]
        have e : shN ns ((bpc s).map (vF ns)) = bpc s := by
          unfold shN
          rw [List.map_map]
          conv => rhs; rw [← List.map_id (bpc s)]
          refine List.map_congr_left fun x hx => ?_
          obtain ⟨hk, hx2⟩ := ixF_get (okF_some (hall x hx))
          simp only [Function.comp, id]
          rw [List.getD_eq_getElem?_getD, List.getElem?_eq_getElem hk]
          exact hx2
        unfold shT
        rw [e]
        have e2 : (bpc s).map (·.data.toList) = pcs s.data.toList := by
          unfold bpc
          rw [List.map_map]
          conv => rhs; rw [← List.map_id (pcs s.data.toList)]
          exact List.map_congr_left fun x _ => by simp
        rw [e2, join_pcs]
    · rw [if_neg h3] at h; exact absurd h (by decide)
end Go.Proofs.YtablaacddbkeiaaGreatDoor
namespace Go.Proofs.YtablaacddbkeiaaGreatDoor
open Go.RowKit

/-- The listed variable holds some number. -/
def LayM (w : World) : Prop := 0 < w.heap.size ∧ ∃ m, w.cell? ⟨0, 0, none⟩ = some (.int .i64 m)
theorem LayM.next {w w' : World} (h : LayM w) (hb : Below w.heap.size w w') : LayM w' := by
  obtain ⟨h1, m, h2⟩ := h
  exact ⟨Nat.lt_of_lt_of_le h1 hb.size, m, (hb.cell (p := ⟨0, 0, none⟩) h1).trans h2⟩
theorem countB_one (s : ByteArray) : Lib.countB s ⟨#[44]⟩ + 1 = (bpc s).length := by
  rw [bpc_len]
  exact congrArg (· + 1) (Lib.count_one 44 s.data.toList)
theorem split_any (s : ByteArray) (w : World) (hw : LayM w) (hs : s.size ≤ 1000000) :
    Calls Tryz.prog 28 #[.string s, .string ⟨#[44]⟩] w fun e w' => ∃ g, e = .returned (.slice (some ⟨g, 0, none⟩) (bpc s).length (bpc s).length) ∧ RdS w'.heap.size w' (.slice (some ⟨g, 0, none⟩) (bpc s).length (bpc s).length) (bpc s) ∧ Below w.heap.size w w' := by
  obtain ⟨_, m, hm⟩ := hw
  refine (Tryz.strings_Split s ⟨#[44]⟩ m w (by omega) hm (by decide)).mono ?_
  rintro e w' ⟨rfl, rfl⟩
  rw [countB_one, split_bpc]
  have hl : (bpc s).length ≤ 1000001 := by
    rw [bpc_len]
    have := List.count_le_length (a := (44 : UInt8)) (l := s.data.toList)
    have h2 : s.data.toList.length = s.size := by simp
    omega
  refine ⟨_, rfl, ⟨_, _, rfl, Nat.le_refl _, by omega, fun _ => ⟨_, 0, rfl, by simp, fun j hj => ?_⟩⟩, (Below.refl _ _).alloc (Nat.le_refl _) _⟩
  rw [Nat.zero_add, cell_of_block (heap_alloc_last w _) j]
  simp [List.getElem?_eq_getElem hj]

theorem rdE_long {ns : List ByteArray} {s : ByteArray} (h : 64 < (bpc s).length) : rdE ns s = 3 ∧ rdV ns s = [] := by
  have hd : byt s ≠ [45] := by
    intro e
    have e2 : s.data.toList = [45] := e
    rw [bpc_len, e2] at h
    exact absurd h (by decide)
  have e : rdE ns s = 3 := by unfold rdE; rw [if_neg hd, if_pos h]
  exact ⟨e, by unfold rdV; rw [e]; rfl⟩
theorem rdE_dash {ns : List ByteArray} {s : ByteArray} (h : byt s = [45]) : rdE ns s = 0 ∧ rdV ns s = [] := by
  have e : rdE ns s = 0 := by unfold rdE; rw [if_pos h]
  exact ⟨e, by unfold rdV; rw [if_pos e, if_pos h]⟩
theorem rdE_form {ns : List ByteArray} {s : ByteArray} (hd : byt s ≠ [45]) (h : ¬ 64 < (bpc s).length) (hc : cnB (bpc s) (⟨#[]⟩ : ByteArray) = true) : rdE ns s = 6 ∧ rdV ns s = [] := by
  have e : rdE ns s = 6 := by unfold rdE; rw [if_neg hd, if_neg h, if_pos hc]
  exact ⟨e, by unfold rdV; rw [e]; rfl⟩
theorem rdE_none {ns : List ByteArray} {s x : ByteArray} (hd : byt s ≠ [45]) (h : ¬ 64 < (bpc s).length) (hc : cnB (bpc s) (⟨#[]⟩ : ByteArray) = false) (hx : x ∈ bpc s) (ho : okF ns x = false) : rdE ns s = 4 ∧ rdV ns s = [] := by
  have ha : ¬ (bpc s).all (okF ns) = true := fun c => by have := List.all_eq_true.1 c x hx; rw [ho] at this; exact absurd this (by decide)
  have e : rdE ns s = 4 := by unfold rdE; rw [if_neg hd, if_neg h, if_neg (by rw [hc]; decide), if_neg ha]
  exact ⟨e, by unfold rdV; rw [e]; rfl⟩
theorem rdE_all {ns : List ByteArray} {s : ByteArray} (hd : byt s ≠ [45]) (h : ¬ 64 < (bpc s).length) (hc : cnB (bpc s) (⟨#[]⟩ : ByteArray) = false) (ha : ∀ x ∈ bpc s, okF ns x = true) : rdE ns s = 0 ∧ rdV ns s = (bpc s).map (vF ns) := by
  have e : rdE ns s = 0 := by unfold rdE; rw [if_neg hd, if_neg h, if_neg (by rw [hc]; decide), if_pos (List.all_eq_true.2 ha)]
  exact ⟨e, by unfold rdV; rw [if_pos e, if_neg hd]⟩
theorem own_lenN {w : World} {base : Nat} {v : Value} {l : List Nat} (h : Own base w v l) : ∃ a c, v = .slice a l.length c := by
  rcases h.2 with ⟨rfl, h0⟩ | ⟨g, cap, cur, rfl, _⟩
  · exact ⟨none, 0, by rw [show l.length = 0 from h0]⟩
  · exact ⟨_, _, rfl⟩
theorem nil_someN (a : Addr) (n c : Nat) : NilC (.slice (some a) n c) := fun _ _ e => by cases e
theorem dash_eq {s : ByteArray} (h : byt s = [45]) : s = ⟨#[45]⟩ := by rw [← mk_byt s, h]
theorem dash_cmp (s : ByteArray) : (s.toList == [45]) = decide (byt s = [45]) := by
  rw [byt_eq]
  by_cases h : byt s = [45]
  · rw [decide_eq_true h, h]; rfl
  · rw [decide_eq_false h]; simpa using h

set_option maxRecDepth 100000
set_option maxHeartbeats 2000000 in
theorem lread_bad (v : Value) (ns : List ByteArray) (up : List UInt8) (s : ByteArray) (w : World) (hv : RdL w.heap.size w v ns up) (hck : ((ck ns up).2 != 0) = true) :
    Calls Tryz.prog 9 #[v, .string s] w fun e w' => e = .returned (.tuple #[.slice none 0 0, .int .i64 (ck ns up).2]) ∧ Below w.heap.size w w' := by
  have HL := Lib.hid hv
  obtain ⟨⟨vn, vu, rfl, hS, hB⟩, hsz⟩ := hv
  obtain ⟨p, cap, rfl, hc, hc2, h⟩ := hS
  obtain ⟨q, cap', rfl, hc', hc2', h'⟩ := hB
  clear h h' hsz
  have HI := Lib.hid (Bx.new HL.out)
  go_enter Tryz.func9, Tryz.ntmps9
  go_wp2_with (go_at_call 26; refine (check_any _ ns up _ HI.out.rd).mono ?_; rintro e w' ⟨rfl, hbn⟩; have HI2 := Lib.hid (HI.out.next hbn); clear HI; have HI := HI2; clear HI2; have hx0 := HI.out.x0; have hx1 := HI.out.x1; clear hbn)
  go_ret2
  exact ⟨rfl, HI.out.bel⟩
set_option maxHeartbeats 4000000 in
theorem lread_ok (v : Value) (ns : List ByteArray) (up : List UInt8) (s : ByteArray) (w : World) (hw : LayM w) (hv : RdL w.heap.size w v ns up) (hg : Good ns up) (hs : s.size ≤ 1000000) :
    Calls Tryz.prog 9 #[v, .string s] w (SoL (rdV ns s) (rdE ns s) w) := by
  have HW := Lib.hid hw
  have HL := Lib.hid hv
  obtain ⟨⟨vn0, vu, rfl, hS, hB⟩, hsz⟩ := hv
  obtain ⟨p, cap, rfl, hc, hc2, h⟩ := hS
  obtain ⟨q, cap', rfl, hc', hc2', h'⟩ := hB
  clear h h' hsz
  have HI := Lib.hid (Bx.new HL.out)
  have H0 := Lib.hid hg.ck
  have HG := Lib.hid hg
  have HSz : Hid (s.size ≤ 1000000) := hs
  have HCt : Hid (∀ W, Calls Tryz.prog 27 #[.string s, .string ⟨#[44]⟩] W fun e w' => e = .returned (.int .i64 (((bpc s).length : Int) - 1)) ∧ w' = W) := fun W => by
    have := Tryz.strings_Count_one s 44 W
    refine this.mono ?_
    rintro e w' ⟨rfl, rfl⟩
    rw [bpc_len]
    exact ⟨by simp [Lib.countByte], rfl⟩
  clear hg hs hw
  have hpos : 1 ≤ (bpc s).length := by rw [bpc_len]; omega
  by_cases h64 : 64 < (bpc s).length
  · have HE := Lib.hid (rdE_long (ns := ns) h64)
    have d0 : (64 : Int) ≤ ((bpc s).length : Int) - 1 := by omega
    clear h64 hpos
    go_enter Tryz.func9, Tryz.ntmps9
    go_wp2_with (first
      | (go_at_call 26; refine (check_any _ ns up _ HI.out.rd).mono ?_; rw [H0.out]; rintro e w' ⟨rfl, hbn⟩; have HI2 := Lib.hid (HI.out.next hbn); clear HI; have HI := HI2; clear HI2; have hx0 := HI.out.x0; have hx1 := HI.out.x1; clear hbn)
      | (go_at_call 27; refine (HCt.out _).mono ?_; rintro e w2 ⟨rfl, rfl⟩))
    go_ret2
    rw [HE.out.1, HE.out.2]
    exact soL_nil ⟨rfl, HI.out.bel⟩
  · have d0 : ¬ (64 : Int) ≤ ((bpc s).length : Int) - 1 := by omega
    have H64 := Lib.hid h64
    have hq := dash_cmp s
    by_cases hd : byt s = [45]
    · have HE := Lib.hid (rdE_dash (ns := ns) hd)
      rw [decide_eq_true hd] at hq
      clear h64 hpos hd
      go_enter Tryz.func9, Tryz.ntmps9
      go_wp2_with (first
        | (go_at_call 26; refine (check_any _ ns up _ HI.out.rd).mono ?_; rw [H0.out]; rintro e w' ⟨rfl, hbn⟩; have HI2 := Lib.hid (HI.out.next hbn); clear HI; have HI := HI2; clear HI2; have hx0 := HI.out.x0; have hx1 := HI.out.x1; clear hbn)
        | (go_at_call 27; refine (HCt.out _).mono ?_; rintro e w2 ⟨rfl, rfl⟩))
      go_ret2
      rw [HE.out.1, HE.out.2]
      exact soL_nil ⟨rfl, HI.out.bel⟩
    · rw [decide_eq_false hd] at hq
      have HD := Lib.hid hd
      have HSp := Lib.hid (fun W hW => split_any s W hW HSz.out)
      have hl64 : ((bpc s).length : Int) ≤ 64 := by omega
      clear h64 hd
      cases hcn : cnB (bpc s) (⟨#[]⟩ : ByteArray) with
      | true =>
        have HE := Lib.hid (rdE_form (ns := ns) HD.out H64.out hcn)
        have HCn := Lib.hid hcn
        generalize bpc s = xs at HSp HCn HCt hpos hl64 d0
        clear hcn hpos
        go_enter Tryz.func9, Tryz.ntmps9
        go_wp2_with (first
          | (go_at_call 26; refine (check_any _ ns up _ HI.out.rd).mono ?_; rw [H0.out]; rintro e w' ⟨rfl, hbn⟩; have HI2 := Lib.hid (HI.out.next hbn); clear HI; have HI := HI2; clear HI2; have hx0 := HI.out.x0; have hx1 := HI.out.x1; clear hbn)
          | (go_at_call 27; refine (HCt.out _).mono ?_; rintro e w2 ⟨rfl, rfl⟩)
          | (go_at_call 28; refine (HSp.out _ (HW.out.next HI.out.bel)).mono ?_; rintro e w3 ⟨g, rfl, hr, hbn⟩; clear hx0 hx1; have HI2 := Lib.hid (HI.out.next hbn); clear HI; have HI := HI2; clear HI2; have hx0 := HI.out.x0; have hx1 := HI.out.x1; have HR := Lib.hid hr; clear hr hbn)
          | (go_at_call 29; refine (contains_any _ _ ⟨#[]⟩ _ HR.out).mono ?_; rw [HCn.out]; rintro e w4 ⟨rfl, rfl⟩))
        go_ret2
        rw [HE.out.1, HE.out.2]
        exact soL_nil ⟨rfl, HI.out.bel⟩
      | false =>
        have HCn := Lib.hid hcn
        have HA := Lib.hid (fun h => rdE_all (ns := ns) HD.out H64.out hcn h)
        have HN := Lib.hid (fun x (hx : x ∈ bpc s) ho => rdE_none (ns := ns) HD.out H64.out hcn hx ho)
        generalize bpc s = xs at HSp HCn HCt hpos hl64 d0 HA HN
        clear hcn
        go_enter Tryz.func9, Tryz.ntmps9
        go_wp2_with (first
          | (go_at_call 26; refine (check_any _ ns up _ HI.out.rd).mono ?_; rw [H0.out]; rintro e w' ⟨rfl, hbn⟩; have HI2 := Lib.hid (HI.out.next hbn); clear HI; have HI := HI2; clear HI2; have hx0 := HI.out.x0; have hx1 := HI.out.x1; clear hbn)
          | (go_at_call 27; refine (HCt.out _).mono ?_; rintro e w2 ⟨rfl, rfl⟩)
          | (go_at_call 28; refine (HSp.out _ (HW.out.next HI.out.bel)).mono ?_; rintro e w3 ⟨g, rfl, hr, hbn⟩; clear hx0 hx1; have HI2 := Lib.hid (HI.out.next hbn); clear HI; have HI := HI2; clear HI2; have hx0 := HI.out.x0; have hx1 := HI.out.x1; have HR := Lib.hid hr; clear hr hbn)
          | (go_at_call 29; refine (contains_any _ _ ⟨#[]⟩ _ HR.out).mono ?_; rw [HCn.out]; rintro e w4 ⟨rfl, rfl⟩))
        have H3 := Lib.hid HI.out.bel
        have HI0 := Lib.hid HI.out
        go_loopg [9, 33] xs.length (fun g0 o i wr => ∃ (k : Nat) (L : List Nat) (u : Value), o = u ∧ k + g0 = xs.length ∧ i = .int .i64 (k : Int) ∧ Own w3.heap.size wr u L ∧ Hid (L = (xs.take k).map (vF ns) ∧ ∀ x ∈ xs.take k, okF ns x = true) ∧ Below w3.heap.size w3 wr)
        case atStart => exact ⟨0, [], _, rfl, by omega, rfl, World.ownsRow_nil _ _ _ _, ⟨rfl, fun x hx => by simp at hx⟩, Below.refl _ _⟩
        case round =>
          clear hx0 hx1 HI
          obtain ⟨k, L, u, rfl, hkg, rfl, ho, HLL, hb⟩ := hrel
          have HO := Lib.hid ho
          have HB := Lib.hid hb
          have HI := Lib.hid (HI0.out.next hb)
          have HRn := Lib.hid (HR.out.next hb)
          have hLl : L.length = min k xs.length := by rw [HLL.out.1]; simp
          obtain ⟨ua, uc, rfl⟩ := own_lenN ho
          clear ho hb
          cases gk with
          | zero =>
            have hki : ¬ ((k : Int) < (xs.length : Int)) := by omega
            have hall : xs.take k = xs := List.take_of_length_le (by omega)
            rw [hall] at HLL
            have HE := Lib.hid (HA.out HLL.out.2)
            have HQ := Lib.hid HLL.out.1
            clear hall hLl HLL hkg
            go_wp2_with fail
            go_ret2
            rw [HE.out.1, HE.out.2, ← HQ.out]
            exact ⟨ua, uc, rfl, own_rd HO.out, HI.out.bel⟩
          | succ g0 =>
            have hk : k < xs.length := by omega
            have hki : (k : Int) < (xs.length : Int) := by omega
            have hx0 := HI.out.x0
            have hx1 := HI.out.x1
            obtain ⟨b1, o1, e1, _, hy⟩ := HRn.out.at k hk
            obtain ⟨rfl, rfl⟩ : g = b1 ∧ 0 = o1 := by simpa using e1
            rw [Nat.zero_add] at hy
            clear e1
            have hmem := List.getElem_mem hk
            have HT : Hid (xs.take (k + 1) = xs.take k ++ [xs[k]]) := List.take_succ_eq_append_getElem hk
            have hl100 : L.length ≤ 100 := by omega
            have HL1 : Hid (L.length ≤ 100) := hl100
            obtain ⟨x, hx⟩ : ∃ x, x = xs[k] := ⟨_, rfl⟩
            rw [← hx] at hy hmem HT
            have HM : Hid (x ∈ xs) := hmem
            have HF0 := find_ok _ ns up x wr HI.out.rd HG.out
            clear hx hmem hLl hl100 hpos
            cases hok : okF ns x with
            | true =>
              obtain ⟨f1, f2, _⟩ := fd_some (okF_some hok)
              rw [f1, f2] at HF0
              have HF := Lib.hid HF0
              have HLn : Hid (L ++ [vF ns x] = (xs.take (k + 1)).map (vF ns) ∧ ∀ y ∈ xs.take (k + 1), okF ns y = true) := by
                rw [HT.out, List.map_append, HLL.out.1]
                exact ⟨rfl, fun y hy => by
                  rcases List.mem_append.1 hy with h | h
                  · exact HLL.out.2 y h
                  · rw [List.mem_singleton.1 h]; exact hok⟩
              generalize vF ns x = z at HF HLn
              have hz : Hid True := trivial
              clear hok f1 f2 HF0
              go_wp2_with (first
                | (at_builtin; refine wpList_append_ns (by simp [Region.wanted]) _ _ rfl w3.heap.size _ _ rfl HZ.out _ _ rfl _ HRd.out (nil_someN _ _ _) ?c1 ?c2 ?_; rotate_left 2; intro u2 w6 hu2 hg2; have HB3 := Lib.hid (HC.out.grown hg2 HC.out.size (fun j e => (HZ.out.lt j e).1)); have HU := Lib.hid hu2; clear hu2 hg2)
                | (go_at_call 30; refine HF.out.mono ?_; rintro e w5 ⟨rfl, hb5⟩; have HB2 := Lib.hid (HB.out.trans (hb5.mono HB.out.size)); have HC := Lib.hid (HB2.out.alloc HB2.out.size (.cells #[.int .i64 (z : Int)] 3)); have HZ := Lib.hid (own_below (own_below HO.out hb5) ((Below.refl w5.heap.size w5).alloc (Nat.le_refl _) (.cells #[.int .i64 (z : Int)] 3))); have HRd := Lib.hid (lit_rd w5 [z] (by simp)); clear hb5))
              case c1 => have := HL1.out; simp; omega
              case c2 => exact HC.out.size
              go_roundg g0
              case measure => omega
              case rel => exact ⟨k + 1, _, _, rfl, by omega, by go_num, HU.out, HLn.out, HB3.out⟩
            | false =>
              obtain ⟨f1, f2, _⟩ := fd_none (okF_none hok)
              rw [f1, f2] at HF0
              have HF := Lib.hid HF0
              have HE := Lib.hid (HN.out x HM.out hok)
              clear hok f1 f2 HF0
              go_wp2_with (go_at_call 30; refine HF.out.mono ?_; rintro e w5 ⟨rfl, hb5⟩; have HI2 := Lib.hid (HI.out.next hb5); clear hb5)
              go_ret2
              rw [HE.out.1, HE.out.2]
              exact soL_nil ⟨rfl, HI2.out.bel⟩
end Go.Proofs.YtablaacddbkeiaaGreatDoor
namespace Go.Proofs.YtablaacddbkeiaaGreatDoor
open Go.RowKit

theorem byt_mid (s : ByteArray) (k m : Nat) : byt (s.extract k (k + m)) = ((byt s).drop k).take m := by
  unfold byt
  rw [ByteArray.data_extract, Array.toList_extract]
  simp [List.extract]
theorem byt_piece {s : ByteArray} {a i : Nat} (h : a ≤ i) : byt (s.extract a i) = ((byt s).drop a).take (i - a) := by
  have := byt_mid s a (i - a)
  rwa [show a + (i - a) = i by omega] at this
theorem bpc_of {s : ByteArray} {P : List ByteArray} (h : pcs (byt s) = P.map byt) : bpc s = P := by
  unfold bpc
  rw [show s.data.toList = byt s from rfl, h]
  rw [List.map_map]
  conv => rhs; rw [← List.map_id P]
  exact List.map_congr_left fun x _ => mk_byt x

/-- The way through a text, piece by piece. -/
def SpI (s : ByteArray) (i a : Nat) (P : List ByteArray) : Prop :=
  (i ≤ s.size ∧ a ≤ i ∧ pcs (byt s) = P.map byt ++ pcs ((byt s).drop a) ∧ (44 : UInt8) ∉ ((byt s).drop a).take (i - a)) ∨ (i = s.size + 1 ∧ P = bpc s)
theorem SpI.start (s : ByteArray) : SpI s 0 0 [] := .inl ⟨Nat.zero_le _, Nat.le_refl _, by simp, by simp⟩
theorem SpI.len {s : ByteArray} {i a : Nat} {P : List ByteArray} (h : SpI s i a P) : P.length ≤ s.size + 1 := by
  have hb : (bpc s).length ≤ s.size + 1 := by
    rw [bpc_len]
    have := List.count_le_length (a := (44 : UInt8)) (l := s.data.toList)
    have h2 : s.data.toList.length = s.size := by simp
    omega
  rcases h with ⟨_, _, h, _⟩ | ⟨_, rfl⟩
  · have h1 := congrArg List.length h
    rw [List.length_append, List.length_map] at h1
    have h2 : (pcs (byt s)).length = (bpc s).length := by unfold bpc; rw [List.length_map]; rfl
    omega
  · exact hb
theorem SpI.le {s : ByteArray} {i a : Nat} {P : List ByteArray} (h : SpI s i a P) (hi : i ≤ s.size) : a ≤ i := by
  rcases h with ⟨_, h, _⟩ | ⟨h, _⟩
  · exact h
  · omega
theorem SpI.comma {s : ByteArray} {i a : Nat} {P : List ByteArray} (h : SpI s i a P) (hi : i < s.size) (hc : s[i] = 44) : SpI s (i + 1) (i + 1) (P ++ [s.extract a i]) := by
  rcases h with ⟨_, h1, h2, h3⟩ | ⟨h, _⟩
  · refine .inl ⟨by omega, Nat.le_refl _, ?_, by simp⟩
    have hl : i - a < ((byt s).drop a).length := by rw [List.length_drop, byt_len]; omega
    have hg : ((byt s).drop a)[i - a] = 44 := by
      rw [List.getElem_drop]
      have : a + (i - a) = i := by omega
      simp only [this]
      rw [byt_get s i hi, hc]
    have hp := pcs_cut _ (i - a) hl hg h3
    rw [List.drop_drop, show a + (i - a + 1) = i + 1 by omega] at hp
    rw [h2, hp, List.map_append, List.map_singleton, byt_piece h1, List.append_assoc]
    rfl
  · omega
theorem SpI.step {s : ByteArray} {i a : Nat} {P : List ByteArray} (h : SpI s i a P) (hi : i < s.size) (hc : s[i] ≠ 44) : SpI s (i + 1) a P := by
  rcases h with ⟨_, h1, h2, h3⟩ | ⟨h, _⟩
  · refine .inl ⟨by omega, by omega, h2, ?_⟩
    have hl : i - a < ((byt s).drop a).length := by rw [List.length_drop, byt_len]; omega
    rw [show i + 1 - a = (i - a) + 1 by omega, List.take_succ_eq_append_getElem hl]
    intro c
    rcases List.mem_append.1 c with c | c
    · exact h3 c
    · have hg : ((byt s).drop a)[i - a] = s[i] := by
        rw [List.getElem_drop]
        have : a + (i - a) = i := by omega
        simp only [this]
        exact byt_get s i hi
      rw [hg] at c
      exact hc (List.mem_singleton.1 c).symm
  · omega
theorem SpI.last {s : ByteArray} {a : Nat} {P : List ByteArray} (h : SpI s s.size a P) : SpI s (s.size + 1) (s.size + 1) (P ++ [s.extract a s.size]) := by
  rcases h with ⟨_, h1, h2, h3⟩ | ⟨h, _⟩
  · refine .inr ⟨rfl, ?_⟩
    have ht : ((byt s).drop a).take (s.size - a) = (byt s).drop a := List.take_of_length_le (by rw [List.length_drop, byt_len]; omega)
    rw [ht] at h3
    refine (bpc_of ?_).symm
    rw [h2, pcs_end _ h3, List.map_append, List.map_singleton, byt_piece h1, ht]
  · omega
theorem SpI.all {s : ByteArray} {i a : Nat} {P : List ByteArray} (h : SpI s i a P) (hi : s.size < i) : P = bpc s := by
  rcases h with ⟨h, _⟩ | ⟨_, h⟩
  · omega
  · exact h

/-- Strings of the call's own. -/
def OwnS (B : Nat) (w : World) (v : Value) (l : List ByteArray) : Prop := w.ownsRow B 9 1 v l.length (l.map vs)
theorem own_lenS {w : World} {base : Nat} {v : Value} {l : List ByteArray} (h : OwnS base w v l) : ∃ a c, v = .slice a l.length c := by
  rcases h.2 with ⟨rfl, h0⟩ | ⟨g, cap, cur, rfl, _⟩
  · exact ⟨none, 0, by rw [show l.length = 0 from h0]⟩
  · exact ⟨_, _, rfl⟩
theorem ownS_rd {w : World} {base : Nat} {v : Value} {l : List ByteArray} (h : OwnS base w v l) : RdS w.heap.size w v l := own_rd h
/-- One string at the end. -/
theorem wpList_append_s1 {w w0 : World} {ops : Array Oper} {rest : List Oper} {o : Oper} {a : Act} {Q : Exit → Act → World → Prop} (hgd : Region.wanted o (yielded ops a.tmps) = true) (s x : Operand)
    (ho : o.op = .call { callee := .builtin .append, args := #[s, x], argTypes := #[22, 22] }) (B : Nat) (v : Value) (l : List ByteArray) (hs : a.eval s = v) (hown : OwnS B w0 v l) (y : ByteArray) (hw : w = w0.alloc (.cells #[.string y] 9))
    (hx : a.eval x = .slice (some ⟨w0.heap.size, 0, none⟩) 1 1) (hl : l.length ≤ 1000002) (hB : B ≤ w0.heap.size)
    (h : ∀ v' w', OwnS B w' v' (l ++ [y]) → Below B w0 w' → wpList Tryz.prog ops Q rest (a.put o.dst v') w') : wpList Tryz.prog ops Q (o :: rest) a w := by
  subst hw
  obtain ⟨i0, hi, hz0, hz1, hz2⟩ := info_parts info9
  refine wpList_met hgd fun K hK => wp_append_own _ s x 22 ho B 9 i0 (.string ByteArray.empty) 1 16 Tryz.underlying22 hi hz0 hz1 hz2 rfl (by decide) v l.length _ hs (World.ownsRow.alloc hown _) ⟨w0.heap.size, 0, none⟩ 1 1 [.string y] hx rfl (cells_new w0 #[.string y] _ _) (by simp [Value.oneCell']) (by unfold maxLen; omega) (by omega) (by simp; omega) ?_
  intro v' w' hown' hg _
  exact hK _ _ (h v' w' (by unfold OwnS; rw [List.length_append, List.map_append]; exact hown') (((Below.refl B w0).alloc hB _).grown hg (by simp; omega) (fun j e => (World.ownsRow.lt hown j e).1)))
end Go.Proofs.YtablaacddbkeiaaGreatDoor
namespace Go.Proofs.YtablaacddbkeiaaGreatDoor
open Go.RowKit

/-- What the last loop keeps. -/
structure Km (w wc : World) (vn vu pv u : Value) (ns : List ByteArray) (up : List UInt8) (xs : List ByteArray) (L : List Nat) (b o : Nat) (x : ByteArray) (W : World) : Prop where
  bx : Bx w vn vu ns up W
  bel : Below wc.heap.size wc W
  own : Own wc.heap.size W u L
  lt : b < W.heap.size
  c : W.cell? ⟨b, o, none⟩ = some (.string x)
theorem Km.next {w wc : World} {vn vu pv u : Value} {ns : List ByteArray} {up : List UInt8} {xs : List ByteArray} {L : List Nat} {b o : Nat} {x : ByteArray} {W W' : World} (h : Km w wc vn vu pv u ns up xs L b o x W) (hb : Below W.heap.size W W') : Km w wc vn vu pv u ns up xs L b o x W' :=
  ⟨h.bx.next hb, h.bel.trans (hb.mono h.bel.size), own_below h.own hb, Nat.lt_of_lt_of_le h.lt hb.size, (hb.cell (p := ⟨b, o, none⟩) h.lt).trans h.c⟩
theorem Km.all {w wc : World} {vn vu pv u : Value} {ns : List ByteArray} {up : List UInt8} {xs : List ByteArray} {L : List Nat} {b o : Nat} {x : ByteArray} {W : World} (h : Km w wc vn vu pv u ns up xs L b o x W) :
    Km w wc vn vu pv u ns up xs L b o x W ∧ W.cell? ⟨w.heap.size, 0, none⟩ = some vn ∧ W.cell? ⟨w.heap.size, 1, none⟩ = some vu ∧ W.cell? ⟨b, o, none⟩ = some (.string x) := ⟨h, h.bx.x0, h.bx.x1, h.c⟩
theorem Km.alln {w wc : World} {vn vu pv u : Value} {ns : List ByteArray} {up : List UInt8} {xs : List ByteArray} {L : List Nat} {b o : Nat} {x : ByteArray} {W W' : World} {p : Prop} (h : Km w wc vn vu pv u ns up xs L b o x W ∧ p) (hb : Below W.heap.size W W') :
    Km w wc vn vu pv u ns up xs L b o x W' ∧ W'.cell? ⟨w.heap.size, 0, none⟩ = some vn ∧ W'.cell? ⟨w.heap.size, 1, none⟩ = some vu ∧ W'.cell? ⟨b, o, none⟩ = some (.string x) := (h.1.next hb).all

theorem emp_cmp (x : ByteArray) : (x.toList == []) = decide (byt x = []) := by
  rw [byt_eq]
  by_cases h : byt x = []
  · rw [decide_eq_true h, h]; rfl
  · rw [decide_eq_false h]; simpa using h
theorem cnB_yes {xs : List ByteArray} {x : ByteArray} (hx : x ∈ xs) (h : byt x = []) : cnB xs (⟨#[]⟩ : ByteArray) = true := by
  obtain ⟨j, hj, rfl⟩ := List.getElem_of_mem hx
  unfold cnB
  refine any_at (k := j) ?_ hj
  rw [eqs_get hj, byt_eq, byt_eq, h]
  rfl

set_option maxRecDepth 100000
set_option maxHeartbeats 2000000 in
theorem rread_bad (v : Value) (ns : List ByteArray) (up : List UInt8) (s : ByteArray) (w : World) (hv : RdL w.heap.size w v ns up) (hck : ((ck ns up).2 != 0) = true) :
    Calls Tryz.prog 10 #[v, .string s] w fun e w' => e = .returned (.tuple #[.slice none 0 0, .int .i64 (ck ns up).2]) ∧ Below w.heap.size w w' := by
  have HL := Lib.hid hv
  obtain ⟨⟨vn, vu, rfl, hS, hB⟩, hsz⟩ := hv
  obtain ⟨p, cap, rfl, hc, hc2, h⟩ := hS
  obtain ⟨q, cap', rfl, hc', hc2', h'⟩ := hB
  clear h h' hsz
  have HI := Lib.hid (Bx.new HL.out)
  go_enter Tryz.func10, Tryz.ntmps10
  go_wp2_with (go_at_call 31; refine (rcheck_any _ ns up _ HI.out.rd).mono ?_; rintro e w' ⟨rfl, hbn⟩; have HI2 := Lib.hid (HI.out.next hbn); clear HI; have HI := HI2; clear HI2; have hx0 := HI.out.x0; have hx1 := HI.out.x1; clear hbn)
  go_ret2
  exact ⟨rfl, HI.out.bel⟩
set_option maxHeartbeats 8000000 in
theorem rread_ok (v : Value) (ns : List ByteArray) (up : List UInt8) (s : ByteArray) (w : World) (hv : RdL w.heap.size w v ns up) (hg : Good ns up) (hs : s.size ≤ 1000000) :
    Calls Tryz.prog 10 #[v, .string s] w (SoL (rdV ns s) (rdE ns s) w) := by
  have HL := Lib.hid hv
  obtain ⟨⟨vn0, vu, rfl, hS, hB⟩, hsz⟩ := hv
  obtain ⟨p, cap, rfl, hc, hc2, h⟩ := hS
  obtain ⟨q, cap', rfl, hc', hc2', h'⟩ := hB
  clear h h' hsz
  have HI := Lib.hid (Bx.new HL.out)
  have H0 := Lib.hid hg.ck
  have HG := Lib.hid hg
  have hs1 : (s.size : Int) ≤ 1000000 := by omega
  have hq := dash_cmp s
  clear hg hs
  by_cases hd : byt s = [45]
  · have HE := Lib.hid (rdE_dash (ns := ns) hd)
    rw [decide_eq_true hd] at hq
    clear hd
    go_enter Tryz.func10, Tryz.ntmps10
    go_wp2_with (go_at_call 31; refine (rcheck_any _ ns up _ HI.out.rd).mono ?_; rw [H0.out]; rintro e w' ⟨rfl, hbn⟩; have HI2 := Lib.hid (HI.out.next hbn); clear HI; have HI := HI2; clear HI2; have hx0 := HI.out.x0; have hx1 := HI.out.x1; clear hbn)
    go_ret2
    rw [HE.out.1, HE.out.2]
    exact soL_nil ⟨rfl, HI.out.bel⟩
  · rw [decide_eq_false hd] at hq
    have HD := Lib.hid hd
    have H3 := Lib.hid (fun h : 64 < (bpc s).length => rdE_long (ns := ns) h)
    have H6 := Lib.hid (fun (h : ¬ 64 < (bpc s).length) hcn => rdE_form (ns := ns) HD.out h hcn)
    have HA := Lib.hid (fun (h1 : ¬ 64 < (bpc s).length) hcn h => rdE_all (ns := ns) HD.out h1 hcn h)
    have HN := Lib.hid (fun (h1 : ¬ 64 < (bpc s).length) hcn x (hx : x ∈ bpc s) ho => rdE_none (ns := ns) HD.out h1 hcn hx ho)
    clear hd
    go_enter Tryz.func10, Tryz.ntmps10
    go_wp2_with (go_at_call 31; refine (rcheck_any _ ns up _ HI.out.rd).mono ?_; rw [H0.out]; rintro e w1 ⟨rfl, hbn⟩; have HI2 := Lib.hid (HI.out.next hbn); clear HI; have HI := HI2; clear HI2; clear hbn)
    have HI0 := Lib.hid HI.out
    clear HI hq
    go_loopg [8, 9, 10] (s.size + 1) (fun g o f i wr => ∃ (j a : Nat) (P : List ByteArray) (u : Value), o = u ∧ j + g = s.size + 1 ∧ f = .int .i64 (a : Int) ∧ i = .int .i64 (j : Int) ∧ OwnS w1.heap.size wr u P ∧ Hid (SpI s j a P) ∧ Below w1.heap.size w1 wr)
    case atStart => exact ⟨0, 0, [], _, rfl, by omega, rfl, rfl, World.ownsRow_nil _ _ _ _, SpI.start s, Below.refl _ _⟩
    case round =>
      obtain ⟨j, a, P, u, rfl, hjg, rfl, rfl, ho, HP, hb⟩ := hrel
      have HO := Lib.hid ho
      have HB := Lib.hid hb
      have hPl := HP.out.len
      obtain ⟨ua, uc, rfl⟩ := own_lenS ho
      clear ho hb
      cases gk with
      | succ g =>
        have hjs : j ≤ s.size := by omega
        have hji : (j : Int) ≤ (s.size : Int) := by omega
        have haj := HP.out.le hjs
        have HPL : Hid (P.length ≤ 1000002) := by unfold Hid; omega
        by_cases he : j = s.size
        · subst he
          have HPn := Lib.hid HP.out.last
          have hai : (a : Int) ≤ (s.size : Int) := by omega
          clear hPl
          go_wp2_with (at_builtin; refine wpList_append_s1 (by simp [Region.wanted]) _ _ rfl w1.heap.size _ _ rfl HO.out _ rfl rfl HPL.out HB.out.size ?_; intro u2 w6 hu2 hg2; have HB3 := Lib.hid (HB.out.trans hg2); have HU := Lib.hid hu2; clear hu2 hg2)
          go_roundg g
          case measure => omega
          case rel => exact ⟨s.size + 1, s.size + 1, _, _, rfl, by omega, by go_num, by go_num, HU.out, HPn.out, HB3.out⟩
        · have hjlt : j < s.size := by omega
          have hjli : (j : Int) < (s.size : Int) := by omega
          have hne : ((j : Int) == (s.size : Int)) = false := by rw [beq_eq_false_iff_ne]; omega
          have hai : (a : Int) ≤ (j : Int) := by omega
          clear hPl he
          by_cases hc44 : s[j] = 44
          · have HPn := Lib.hid (HP.out.comma hjlt hc44)
            have d44 : ((s[j].toNat : Int) == 44) = true := by rw [hc44]; rfl
            clear hc44
            go_wp2_with (at_builtin; refine wpList_append_s1 (by simp [Region.wanted]) _ _ rfl w1.heap.size _ _ rfl HO.out _ rfl rfl HPL.out HB.out.size ?_; intro u2 w6 hu2 hg2; have HB3 := Lib.hid (HB.out.trans hg2); have HU := Lib.hid hu2; clear hu2 hg2)
            go_roundg g
            case measure => omega
            case rel => exact ⟨j + 1, j + 1, _, _, rfl, by omega, by go_num, by go_num, HU.out, HPn.out, HB3.out⟩
          · have HPn := Lib.hid (HP.out.step hjlt hc44)
            have d44 : ((s[j].toNat : Int) == 44) = false := by
              rw [beq_eq_false_iff_ne]
              intro c
              exact hc44 (UInt8.toNat_inj.1 (by show s[j].toNat = 44; omega))
            clear hc44
            go_wp2_with fail
            go_roundg g
            case measure => omega
            case rel => exact ⟨j + 1, a, _, _, rfl, by omega, rfl, by go_num, HO.out, HPn.out, HB.out⟩
      | zero =>
        have hji : ¬ ((j : Int) ≤ (s.size : Int)) := by omega
        have hPe := HP.out.all (by omega)
        have hpos : 1 ≤ P.length := by rw [hPe, bpc_len]; omega
        rw [← hPe] at H3 H6 HA HN
        have HRd := Lib.hid (ownS_rd HO.out)
        have HI := Lib.hid (HI0.out.next HB.out)
        have hpl1 : (P.length : Int) ≤ 1000001 := by omega
        clear hPe hPl HP hjg HO HB HI0
        by_cases h64 : 64 < P.length
        · have d0 : (64 : Int) < (P.length : Int) := by omega
          have HE := Lib.hid (H3.out h64)
          clear h64 hpos
          go_wp2_with fail
          go_ret2
          rw [HE.out.1, HE.out.2]
          exact soL_nil ⟨rfl, HI.out.bel⟩
        · have d0 : ¬ (64 : Int) < (P.length : Int) := by omega
          have H64 := Lib.hid h64
          clear h64
          go_wp2_with fail
          go_loopg [11] P.length (fun g i w2 => ∃ k : Nat, k + g = P.length ∧ i = .int .i64 (k : Int) ∧ Hid (∀ x ∈ P.take k, byt x ≠ []) ∧ wr = w2)
          case atStart => exact ⟨0, by omega, rfl, fun x hx => by simp at hx, rfl⟩
          case round =>
            clear hji
            obtain ⟨k, hkg, rfl, HK, rfl⟩ := hrel
            cases gk with
            | succ g =>
              have hk : k < P.length := by omega
              have hki : (k : Int) < (P.length : Int) := by omega
              obtain ⟨b1, o1, rfl, _, hy⟩ := HRd.out.at k hk
              have hmem := List.getElem_mem hk
              have HT : Hid (P.take (k + 1) = P.take k ++ [P[k]]) := List.take_succ_eq_append_getElem hk
              obtain ⟨x, hx⟩ : ∃ x, x = P[k] := ⟨_, rfl⟩
              rw [← hx] at hy hmem HT
              have hcm := emp_cmp x
              clear hx hpos
              by_cases hxe : byt x = []
              · rw [decide_eq_true hxe] at hcm
                have HE := Lib.hid (H6.out H64.out (cnB_yes hmem hxe))
                clear hxe hmem
                go_wp2_with fail
                go_ret2
                rw [HE.out.1, HE.out.2]
                exact soL_nil ⟨rfl, HI.out.bel⟩
              · rw [decide_eq_false hxe] at hcm
                have HKn : Hid (∀ y ∈ P.take (k + 1), byt y ≠ []) := by
                  rw [HT.out]
                  intro y hy2
                  rcases List.mem_append.1 hy2 with h | h
                  · exact HK.out y h
                  · rw [List.mem_singleton.1 h]; exact hxe
                clear hxe hmem
                go_wp2_with fail
                go_roundg g
                case measure => omega
                case rel => exact ⟨k + 1, by omega, by go_num, HKn.out, rfl⟩
            | zero =>
              have hki : ¬ ((k : Int) < (P.length : Int)) := by omega
              have hall : P.take k = P := List.take_of_length_le (by omega)
              rw [hall] at HK
              have HCn := Lib.hid (cnB_no HK.out)
              clear hall HK hkg
              obtain ⟨wa, rfl⟩ : ∃ wa, wa = wr := ⟨_, rfl⟩
              go_wp2_with fail
              go_loopg [12, 13] P.length (fun g o i w3 => ∃ (k : Nat) (L : List Nat) (u : Value), o = u ∧ k + g = P.length ∧ i = .int .i64 (k : Int) ∧ Own wa.heap.size w3 u L ∧ Hid (L = (P.take k).map (vF ns) ∧ ∀ x ∈ P.take k, okF ns x = true) ∧ Below wa.heap.size wa w3)
              case atStart => exact ⟨0, [], _, rfl, by omega, rfl, World.ownsRow_nil _ _ _ _, ⟨rfl, fun x hx => by simp at hx⟩, Below.refl _ _⟩
              case round =>
                clear hki
                obtain ⟨k, L, u, rfl, hkg, rfl, ho, HLL, hb⟩ := hrel
                have HO := Lib.hid ho
                have HB := Lib.hid hb
                have HIn := Lib.hid (HI.out.next hb)
                have HRn := Lib.hid (HRd.out.next hb)
                have hLl : L.length = min k P.length := by rw [HLL.out.1]; simp
                obtain ⟨va, vc, rfl⟩ := own_lenN ho
                clear ho hb
                cases gk with
                | zero =>
                  have hki : ¬ ((k : Int) < (P.length : Int)) := by omega
                  have hall : P.take k = P := List.take_of_length_le (by omega)
                  rw [hall] at HLL
                  have HE := Lib.hid (HA.out H64.out HCn.out HLL.out.2)
                  have HQ := Lib.hid HLL.out.1
                  clear hall hLl HLL hkg
                  go_wp2_with fail
                  go_ret2
                  rw [HE.out.1, HE.out.2, ← HQ.out]
                  exact ⟨va, vc, rfl, own_rd HO.out, HIn.out.bel⟩
                | succ g =>
                  have hk : k < P.length := by omega
                  have hki : (k : Int) < (P.length : Int) := by omega
                  obtain ⟨b1, o1, rfl, hlt1, hy⟩ := HRn.out.at k hk
                  have hmem := List.getElem_mem hk
                  have HT : Hid (P.take (k + 1) = P.take k ++ [P[k]]) := List.take_succ_eq_append_getElem hk
                  have HL1 : Hid (L.length ≤ 100) := by unfold Hid; have := H64.out; omega
                  obtain ⟨x, hx⟩ : ∃ x, x = P[k] := ⟨_, rfl⟩
                  rw [← hx] at hy hmem HT
                  have HM : Hid (x ∈ P) := hmem
                  have HF0 := fun W hW => rfind_ok (.agg #[.slice p ns.length cap, .slice q up.length cap']) ns up x W hW HG.out
                  have hS : Km w wa (.slice p ns.length cap) (.slice q up.length cap') undef (.slice va L.length vc) ns up P L b1 (o1 + k) x _ := ⟨HIn.out, HB.out, HO.out, hlt1, hy⟩
                  clear hx hmem hLl hpos HO HB HIn HRn hlt1 hy
                  cases hok : okF ns x with
                  | true =>
                    obtain ⟨f1, f2, _⟩ := fd_some (okF_some hok)
                    rw [f1, f2] at HF0
                    have HF := Lib.hid HF0
                    have HLn : Hid (L ++ [vF ns x] = (P.take (k + 1)).map (vF ns) ∧ ∀ y ∈ P.take (k + 1), okF ns y = true) := by
                      rw [HT.out, List.map_append, HLL.out.1]
                      exact ⟨rfl, fun y hy => by
                        rcases List.mem_append.1 hy with h | h
                        · exact HLL.out.2 y h
                        · rw [List.mem_singleton.1 h]; exact hok⟩
                    generalize vF ns x = z at HF HLn
                    clear hok f1 f2 HF0
                    go_wp2_with fail
                    go_region_held3 (fun W => Km w wa (.slice p ns.length cap) (.slice q up.length cap') undef (.slice va L.length vc) ns up P L b1 (o1 + k) x W ∧ W.cell? ⟨w.heap.size, 0, none⟩ = some (.slice p ns.length cap) ∧ W.cell? ⟨w.heap.size, 1, none⟩ = some (.slice q up.length cap') ∧ W.cell? ⟨b1, o1 + k, none⟩ = some (.string x))
                      ((first | exact Km.alln (by assumption) hbn | exact Km.all (hS.next (Below.refl _ _).drew)))
                      (first
                        | (go_at_call 32; refine (HF.out _ (by assumption : Km _ _ _ _ _ _ _ _ _ _ _ _ _ _ ∧ _).1.bx.rd).mono ?_; rintro e wn ⟨rfl, hbn⟩))
                    have HE0 := Lib.hid (by assumption : Km _ _ _ _ _ _ _ _ _ _ _ _ _ _ ∧ _).1
                    clear hS
                    have HC := Lib.hid (HE0.out.bel.alloc HE0.out.bel.size (.cells #[.int .i64 (z : Int)] 3))
                    have HZ := Lib.hid (own_below HE0.out.own ((Below.refl _ _).alloc (Nat.le_refl _) (.cells #[.int .i64 (z : Int)] 3)))
                    have HRz := Lib.hid (lit_rd wn [z] (by simp))
                    go_wp2_with (at_builtin; refine wpList_append_ns (by simp [Region.wanted]) _ _ rfl wa.heap.size _ _ rfl HZ.out _ _ rfl _ HRz.out (nil_someN _ _ _) ?c1 ?c2 ?_; rotate_left 2; intro u2 w6 hu2 hg2; have HB3 := Lib.hid (HC.out.grown hg2 HC.out.size (fun j e => (HZ.out.lt j e).1)); have HU := Lib.hid hu2; clear hu2 hg2)
                    case c1 => have := HL1.out; simp; omega
                    case c2 => exact HC.out.size
                    go_roundg g
                    case measure => omega
                    case rel => exact ⟨k + 1, _, _, rfl, by omega, by go_num, HU.out, HLn.out, HB3.out⟩
                  | false =>
                    obtain ⟨f1, f2, _⟩ := fd_none (okF_none hok)
                    rw [f1, f2] at HF0
                    have HF := Lib.hid HF0
                    have HE := Lib.hid (HN.out H64.out HCn.out x HM.out hok)
                    clear hok f1 f2 HF0
                    go_wp2_with fail
                    go_region_held3 (fun W => Km w wa (.slice p ns.length cap) (.slice q up.length cap') undef (.slice va L.length vc) ns up P L b1 (o1 + k) x W ∧ W.cell? ⟨w.heap.size, 0, none⟩ = some (.slice p ns.length cap) ∧ W.cell? ⟨w.heap.size, 1, none⟩ = some (.slice q up.length cap') ∧ W.cell? ⟨b1, o1 + k, none⟩ = some (.string x))
                      ((first | exact Km.alln (by assumption) hbn | exact Km.all (hS.next (Below.refl _ _).drew)))
                      (first
                        | (go_at_call 32; refine (HF.out _ (by assumption : Km _ _ _ _ _ _ _ _ _ _ _ _ _ _ ∧ _).1.bx.rd).mono ?_; rintro e wn ⟨rfl, hbn⟩))
                    have HE0 := Lib.hid (by assumption : Km _ _ _ _ _ _ _ _ _ _ _ _ _ _ ∧ _).1
                    clear hS
                    go_wp2_with fail
                    go_ret2
                    rw [HE.out.1, HE.out.2]
                    exact soL_nil ⟨rfl, HE0.out.bx.bel⟩
end Go.Proofs.YtablaacddbkeiaaGreatDoor
namespace Go.Proofs.YtablaacddbkeiaaGreatDoor
open Go.RowKit

theorem joinTail_snoc (r : List (List UInt8)) (y : List UInt8) : Lib.joinTail [44] (r ++ [y]) = Lib.joinTail [44] r ++ (44 :: y) := by
  simp [Lib.joinTail]
theorem join_snoc (x : List UInt8) (r : List (List UInt8)) (y : List UInt8) : Lib.join ((x :: r) ++ [y]) [44] = Lib.join (x :: r) [44] ++ (44 :: y) := by
  rw [List.cons_append, Lib.join_cons, Lib.join_cons, joinTail_snoc, List.append_assoc]
theorem byt_app (s t : ByteArray) : byt (s ++ t) = byt s ++ byt t := by
  unfold byt; simp
theorem shT_one {ns : List ByteArray} {ls : List Nat} (h : 0 < ls.length) (h2 : ls[0] < ns.length) : shT ns (ls.take 1) = byt ns[ls[0]] := by
  unfold shT
  rw [shN_snoc (k := 0) h h2]
  simp [shN, Lib.join_one, byt]
theorem shT_snoc {ns : List ByteArray} {ls : List Nat} {k : Nat} (h0 : 0 < k) (h : k < ls.length) (h2 : ls[k] < ns.length) : shT ns (ls.take (k + 1)) = shT ns (ls.take k) ++ (44 :: byt ns[ls[k]]) := by
  unfold shT
  rw [shN_snoc h h2, List.map_append, List.map_singleton]
  have hl : (shN ns (ls.take k)).length = k := by rw [shN_len, List.length_take]; omega
  generalize shN ns (ls.take k) = X at hl
  cases X with
  | nil => simp at hl; omega
  | cons x r => exact join_snoc _ _ _

set_option maxRecDepth 100000
set_option maxHeartbeats 4000000 in
theorem rshow_nil (v u : Value) (ns : List ByteArray) (up : List UInt8) (w : World) (hv : RdL w.heap.size w v ns up) (hz : RdN w.heap.size w u []) (hg : GL ns up []) :
    Calls Tryz.prog 8 #[v, u] w fun e w' => e = .returned (.tuple #[.string ⟨#[45]⟩, .int .i64 0]) ∧ Below w.heap.size w w' := by
  have HL := Lib.hid hv
  obtain ⟨⟨vn0, vu, rfl, hS, hB⟩, hsz⟩ := hv
  obtain ⟨q1, cap, rfl, hc, hc2, h⟩ := hS
  obtain ⟨q, cap', rfl, hc', hc2', h'⟩ := hB
  clear h h' hsz
  have HZ := Lib.hid hz
  obtain ⟨a, c, rfl, hl, hl2, h⟩ := hz
  clear h
  have HI := Lib.hid (Bx.new HL.out)
  have HK := Lib.hid hg.lck
  clear hg
  go_enter Tryz.func8, Tryz.ntmps8
  go_wp2_with (go_at_call 25; refine (rcheck4_any _ _ ns up (ints []) _ HI.out.rd (rd_int (HZ.out.next HI.out.bel))).mono ?_; rw [HK.out]; rintro e w1 ⟨rfl, hbn⟩; have HI2 := Lib.hid (HI.out.next hbn); clear HI; have HI := HI2; clear HI2; clear hbn)
  go_ret2
  exact ⟨rfl, HI.out.bel⟩
set_option maxHeartbeats 8000000 in
theorem rshow_some (v u : Value) (ns : List ByteArray) (up : List UInt8) (ls : List Nat) (w : World) (hv : RdL w.heap.size w v ns up) (hz : RdN w.heap.size w u ls) (hg : GL ns up ls) (hne : ls ≠ []) :
    Calls Tryz.prog 8 #[v, u] w fun e w' => e = .returned (.tuple #[.string ⟨(shT ns ls).toArray⟩, .int .i64 0]) ∧ Below w.heap.size w w' := by
  have HL := Lib.hid hv
  obtain ⟨⟨vn0, vu, rfl, hS, hB⟩, hsz⟩ := hv
  obtain ⟨q1, cap, rfl, hc, hc2, h⟩ := hS
  obtain ⟨q, cap', rfl, hc', hc2', h'⟩ := hB
  clear h h' hsz
  have HZ := Lib.hid hz
  obtain ⟨a, c, rfl, hl, hl2, h⟩ := hz
  clear h
  have HI := Lib.hid (Bx.new HL.out)
  have HK := Lib.hid hg.lck
  have HG := Lib.hid hg
  have h64 := hg.most
  have hlen0 : 0 < ls.length := List.length_pos_iff.2 hne
  have hlz : ((ls.length : Int) == 0) = false := by rw [beq_eq_false_iff_ne]; omega
  have hl64 : (ls.length : Int) ≤ 64 := by omega
  clear hg hne h64
  go_enter Tryz.func8, Tryz.ntmps8
  go_wp2_with (go_at_call 25; refine (rcheck4_any _ _ ns up (ints ls) _ HI.out.rd (rd_int (HZ.out.next HI.out.bel))).mono ?_; rw [HK.out]; rintro e w1 ⟨rfl, hbn⟩; have HI2 := Lib.hid (HI.out.next hbn); clear HI; have HI := HI2; clear HI2; clear hbn)
  have hx0 := HI.out.x0
  obtain ⟨b0, o0, rfl, hlt0, hy0⟩ := (HZ.out.next HI.out.bel).at 0 hlen0
  have hl0 : ls[0] < ns.length := by have := HG.out.all ls[0] (List.getElem_mem hlen0); have := HG.out.good.len; omega
  obtain ⟨b1, o1, rfl, hlt1, hy1⟩ := HI.out.nm.at ls[0] hl0
  have HS1 : Hid (shT ns (ls.take 1) = byt ns[ls[0]]) := shT_one hlen0 hl0
  rw [Nat.add_zero] at hy0
  have hl0i : ((ls[0] : Nat) : Int) < (ns.length : Int) := by omega
  have hli0 : (0 : Int) < (ls.length : Int) := by omega
  generalize hx : ns[ls[0]] = x0 at hy1 HS1
  clear hx hl0
  generalize ls[0] = a0 at hy0 hy1 hl0i
  have HIq := Lib.hid HI.out
  clear hlz HI
  go_quiet (fail)
  generalize hW1 : w1.drewN nq = W1
  have HI := Lib.hid (HIq.out.next (hW1 ▸ below_drewN (Below.refl w1.heap.size w1) nq))
  clear hW1 HIq hx0 hy0 hy1 hlt0 hlt1 hl0i hli0
  go_wp2_with fail
  go_loopg [8, 9] (ls.length - 1) (fun g o i wr => ∃ (k : Nat) (S : ByteArray), o = .string S ∧ i = .int .i64 (k : Int) ∧ 1 ≤ k ∧ k + g = ls.length ∧ Hid (byt S = shT ns (ls.take k)) ∧ Bx w (.slice (some ⟨b1, o1, none⟩) ns.length cap) (.slice q up.length cap') ns up wr)
  case atStart => exact ⟨1, x0, rfl, rfl, Nat.le_refl _, by omega, HS1.out.symm, HI.out⟩
  case round =>
    clear HI HS1
    obtain ⟨k, S, rfl, rfl, hk1, hkg, HS, hbx⟩ := hrel
    cases gk with
    | zero =>
      have hki : ¬ ((k : Int) < (ls.length : Int)) := by omega
      have hall : ls.take k = ls := List.take_of_length_le (by omega)
      rw [hall] at HS
      have HI := Lib.hid hbx
      clear hall hbx hkg
      go_wp2_with fail
      go_ret2
      rw [← HS.out, mk_byt]
      exact ⟨rfl, HI.out.bel⟩
    | succ g =>
      have hk : k < ls.length := by omega
      have hki : (k : Int) < (ls.length : Int) := by omega
      have hx0 := hbx.x0
      obtain ⟨b2, o2, e2, hlt2, hy0⟩ := (HZ.out.next hbx.bel).at k hk
      obtain ⟨rfl, rfl⟩ : b0 = b2 ∧ o0 = o2 := by simpa using e2
      have hlk : ls[k] < ns.length := by have := HG.out.all ls[k] (List.getElem_mem hk); have := HG.out.good.len; omega
      obtain ⟨b3, o3, e3, hlt3, hy1⟩ := hbx.nm.at ls[k] hlk
      obtain ⟨rfl, rfl⟩ : b1 = b3 ∧ o1 = o3 := by simpa using e3
      have HSn : Hid (shT ns (ls.take (k + 1)) = shT ns (ls.take k) ++ (44 :: byt ns[ls[k]])) := shT_snoc hk1 hk hlk
      have hlki : ((ls[k] : Nat) : Int) < (ns.length : Int) := by omega
      have hS2 : S.size ≤ 2000 := by
        have h1 := shT_len (ls := ls.take k) ⟨HG.out.good, by rw [List.length_take]; have := HG.out.most; omega, fun y hy => HG.out.all y (List.mem_of_mem_take hy)⟩
        rw [← HS.out, byt_len] at h1
        exact h1
      have hx16 : ns[ls[k]].size ≤ 16 := by have := name16 (HG.out.good.name ls[k] hlk); rwa [byt_len] at this
      generalize hx : ns[ls[k]] = x1 at hy1 HSn hx16
      clear hx hlk
      generalize ls[k] = a1 at hy0 hy1 hlki
      have cS1 := fun w => run_string_add_sum (P := Tryz.prog) w S ⟨#[44]⟩ (by have : (⟨#[44]⟩ : ByteArray).size = 1 := rfl; omega)
      have cS2 := fun w => run_string_add_sum (P := Tryz.prog) w (S ++ ⟨#[44]⟩) x1 (by have : (⟨#[44]⟩ : ByteArray).size = 1 := rfl; rw [ByteArray.size_append]; omega)
      clear hS2 hx16
      have HIq := Lib.hid hbx
      clear hbx e2 e3 hlt2 hlt3
      go_wp2_with fail
      go_quiet (fail)
      generalize hW1 : wr.drewN nq = W2
      have HI := Lib.hid (HIq.out.next (hW1 ▸ below_drewN (Below.refl wr.heap.size wr) nq))
      clear hW1 HIq hx0 hy0 hy1
      go_wp2_with fail
      go_roundg g
      case measure => omega
      case rel => exact ⟨k + 1, _, rfl, by go_num, by omega, by omega, by unfold Hid; rw [HSn.out, ← HS.out]; simp [byt], HI.out⟩
theorem rshow_ok (v u : Value) (ns : List ByteArray) (up : List UInt8) (ls : List Nat) (w : World) (hv : RdL w.heap.size w v ns up) (hz : RdN w.heap.size w u ls) (hg : GL ns up ls) :
    Calls Tryz.prog 8 #[v, u] w fun e w' => e = .returned (.tuple #[.string (shV ns ls), .int .i64 0]) ∧ Below w.heap.size w w' := by
  by_cases h : ls = []
  · subst h; exact rshow_nil v u ns up w hv hz hg
  · rw [shV_ne h]; exact rshow_some v u ns up ls w hv hz hg h
end Go.Proofs.YtablaacddbkeiaaGreatDoor
namespace Go.Proofs.YtablaacddbkeiaaGreatDoor
open Go.RowKit

set_option maxRecDepth 100000
set_option maxHeartbeats 4000000 in
theorem lawTexts_far (v u : Value) (ns : List ByteArray) (up : List UInt8) (zs : List Int) (s : ByteArray) (w : World) (hw : LayM w) (hv : RdL w.heap.size w v ns up) (hz : RdI w.heap.size w u zs) (e0 : farB ns up = true) :
    Calls Tryz.prog 3 #[v, u, .string s] w fun e w' => e = .returned (.bool true) ∧ Below w.heap.size w w' := by
  have HW := Lib.hid hw
  have HL := Lib.hid hv
  obtain ⟨⟨vn0, vu, rfl, hS, hB⟩, hsz⟩ := hv
  obtain ⟨q1, cap, rfl, hc, hc2, h⟩ := hS
  obtain ⟨q, cap', rfl, hc', hc2', h'⟩ := hB
  clear h h' hsz
  have HZ := Lib.hid hz
  obtain ⟨a, c, rfl, hl, hl2, h⟩ := hz
  clear h hw
  have HI := Lib.hid (Bx.new HL.out)
  go_enter Tryz.func3, Tryz.ntmps3
  go_wp2_with (first
    | (go_at_call 5; refine (far_any _ ns up _ HI.out.rd).mono ?_; rintro e w' ⟨rfl, hbn⟩; have HI2 := Lib.hid (HI.out.next hbn); clear HI; have HI := HI2; clear HI2; have hx0 := HI.out.x0; have hx1 := HI.out.x1; clear hbn)
    | (go_at_call 6; ((with_reducible refine (awake4_any _).mono ?_); rintro e w' ⟨rfl, hbn⟩); clear hx0 hx1; have HI2 := Lib.hid (HI.out.next hbn); clear HI; have HI := HI2; clear HI2; have hx0 := HI.out.x0; have hx1 := HI.out.x1; clear hbn))
  go_ret
  exact ⟨ret_bool (by first | rfl | simp), HI.out.bel⟩
set_option maxHeartbeats 4000000 in
theorem lawTexts_la (v u : Value) (ns : List ByteArray) (up : List UInt8) (zs : List Int) (s : ByteArray) (w : World) (hw : LayM w) (hv : RdL w.heap.size w v ns up) (hz : RdI w.heap.size w u zs) (e0 : farB ns up = false) (h8 : (80 : Int) < (zs.length : Int)) :
    Calls Tryz.prog 3 #[v, u, .string s] w fun e w' => e = .returned (.bool true) ∧ Below w.heap.size w w' := by
  have HW := Lib.hid hw
  have HL := Lib.hid hv
  obtain ⟨⟨vn0, vu, rfl, hS, hB⟩, hsz⟩ := hv
  obtain ⟨q1, cap, rfl, hc, hc2, h⟩ := hS
  obtain ⟨q, cap', rfl, hc', hc2', h'⟩ := hB
  clear h h' hsz
  have HZ := Lib.hid hz
  obtain ⟨a, c, rfl, hl, hl2, h⟩ := hz
  clear h hw
  have HI := Lib.hid (Bx.new HL.out)
  go_enter Tryz.func3, Tryz.ntmps3
  go_wp2_with (first
    | (go_at_call 5; refine (far_any _ ns up _ HI.out.rd).mono ?_; rintro e w' ⟨rfl, hbn⟩; have HI2 := Lib.hid (HI.out.next hbn); clear HI; have HI := HI2; clear HI2; have hx0 := HI.out.x0; have hx1 := HI.out.x1; clear hbn)
    | (go_at_call 6; ((with_reducible refine (awake4_any _).mono ?_); rintro e w' ⟨rfl, hbn⟩); clear hx0 hx1; have HI2 := Lib.hid (HI.out.next hbn); clear HI; have HI := HI2; clear HI2; have hx0 := HI.out.x0; have hx1 := HI.out.x1; clear hbn))
  go_ret
  exact ⟨ret_bool (by first | rfl | simp), HI.out.bel⟩
set_option maxHeartbeats 4000000 in
theorem lawTexts_lb (v u : Value) (ns : List ByteArray) (up : List UInt8) (zs : List Int) (s : ByteArray) (w : World) (hw : LayM w) (hv : RdL w.heap.size w v ns up) (hz : RdI w.heap.size w u zs) (e0 : farB ns up = false) (h8 : ¬ (80 : Int) < (zs.length : Int)) (h9 : (400 : Int) < (s.size : Int)) :
    Calls Tryz.prog 3 #[v, u, .string s] w fun e w' => e = .returned (.bool true) ∧ Below w.heap.size w w' := by
  have HW := Lib.hid hw
  have HL := Lib.hid hv
  obtain ⟨⟨vn0, vu, rfl, hS, hB⟩, hsz⟩ := hv
  obtain ⟨q1, cap, rfl, hc, hc2, h⟩ := hS
  obtain ⟨q, cap', rfl, hc', hc2', h'⟩ := hB
  clear h h' hsz
  have HZ := Lib.hid hz
  obtain ⟨a, c, rfl, hl, hl2, h⟩ := hz
  clear h hw
  have HI := Lib.hid (Bx.new HL.out)
  go_enter Tryz.func3, Tryz.ntmps3
  go_wp2_with (first
    | (go_at_call 5; refine (far_any _ ns up _ HI.out.rd).mono ?_; rintro e w' ⟨rfl, hbn⟩; have HI2 := Lib.hid (HI.out.next hbn); clear HI; have HI := HI2; clear HI2; have hx0 := HI.out.x0; have hx1 := HI.out.x1; clear hbn)
    | (go_at_call 6; ((with_reducible refine (awake4_any _).mono ?_); rintro e w' ⟨rfl, hbn⟩); clear hx0 hx1; have HI2 := Lib.hid (HI.out.next hbn); clear HI; have HI := HI2; clear HI2; have hx0 := HI.out.x0; have hx1 := HI.out.x1; clear hbn))
  go_ret
  exact ⟨ret_bool (by first | rfl | simp), HI.out.bel⟩
set_option maxHeartbeats 8000000 in
theorem lawTexts_tt (v u : Value) (ns : List ByteArray) (up : List UInt8) (zs : List Int) (s : ByteArray) (w : World) (hw : LayM w) (hv : RdL w.heap.size w v ns up) (hz : RdI w.heap.size w u zs) (e0 : farB ns up = false) (h8 : ¬ (80 : Int) < (zs.length : Int)) (h9 : ¬ (400 : Int) < (s.size : Int)) (S : ByteArray) (P : List Nat) (x y : Int)
    (HS1 : Hid (∀ v u W, RdL W.heap.size W v ns up → RdI W.heap.size W u zs → Calls Tryz.prog 7 #[v, u] W fun e w' => e = .returned (.tuple #[.string S, .int .i64 x]) ∧ Below W.heap.size W w'))
    (HS2 : Hid (∀ v u W, RdL W.heap.size W v ns up → RdI W.heap.size W u zs → Calls Tryz.prog 8 #[v, u] W fun e w' => e = .returned (.tuple #[.string S, .int .i64 x]) ∧ Below W.heap.size W w'))
    (HR1 : Hid (∀ v W, LayM W → RdL W.heap.size W v ns up → Calls Tryz.prog 9 #[v, .string s] W (SoL P y W)))
    (HR2 : Hid (∀ v W, RdL W.heap.size W v ns up → Calls Tryz.prog 10 #[v, .string s] W (SoL P y W))) (dx : (x == 0) = true) (dx2 : (x != 0) = false) (dy : (y == 0) = true) (dy2 : (y != 0) = false)
    (ls : List Nat) (hls : zs = ints ls) (HB1 : Hid (∀ v W, LayM W → RdL W.heap.size W v ns up → Calls Tryz.prog 9 #[v, .string S] W (SoL ls 0 W)))
    (HB2 : Hid (∀ v u W, RdL W.heap.size W v ns up → RdN W.heap.size W u P → Calls Tryz.prog 7 #[v, u] W fun e w' => e = .returned (.tuple #[.string s, .int .i64 0]) ∧ Below W.heap.size W w')) :
    Calls Tryz.prog 3 #[v, u, .string s] w fun e w' => e = .returned (.bool true) ∧ Below w.heap.size w w' := by
  have HW := Lib.hid hw
  have HL := Lib.hid hv
  obtain ⟨⟨vn0, vu, rfl, hS, hB⟩, hsz⟩ := hv
  obtain ⟨q1, cap, rfl, hc, hc2, h⟩ := hS
  obtain ⟨q, cap', rfl, hc', hc2', h'⟩ := hB
  clear h h' hsz
  have HZ := Lib.hid hz
  obtain ⟨a, c, rfl, hl, hl2, h⟩ := hz
  clear h hw
  have HI := Lib.hid (Bx.new HL.out)
  have hU := dx; clear hU
  have hU := dx2; clear hU
  have hU := dy; clear hU
  have hU := dy2; clear hU
  have HZN : Hid (RdN w.heap.size w (.slice a zs.length c) ls) := by have := HZ.out; rw [hls] at this ⊢; exact rd_nat this
  clear hls
  go_enter Tryz.func3, Tryz.ntmps3
  go_wp2_with (first
    | (go_at_call 6; ((with_reducible refine (awake4_any _).mono ?_); rintro e w' ⟨rfl, hbn⟩); clear hx0 hx1; have HI2 := Lib.hid (HI.out.next hbn); clear HI; have HI := HI2; clear HI2; have hx0 := HI.out.x0; have hx1 := HI.out.x1; clear hbn)
    | (go_at_call 7; ((with_reducible refine (HB2.out _ _ _ HI.out.rd HP.out).mono ?_); rintro e w' ⟨rfl, hbn⟩); clear hx0 hx1; have HI2 := Lib.hid (HI.out.next hbn); clear HI; have HI := HI2; clear HI2; have hx0 := HI.out.x0; have hx1 := HI.out.x1; clear hbn)
    | (go_at_call 11; ((with_reducible refine (same4_refl _ _ _ _ HK.out ((HZN.out.below HI.out.bel).mono HI.out.bel.size)).mono ?_); rintro e w' ⟨rfl, hbn⟩); clear hx0 hx1; have HI2 := Lib.hid (HI.out.next hbn); clear HI; have HI := HI2; clear HI2; have hx0 := HI.out.x0; have hx1 := HI.out.x1; have HPn := Lib.hid (HP.out.next hbn); clear HP; have HP := HPn; clear HPn; clear HK; have hQ3 := True.intro; clear hbn)
    | (go_at_call 9; ((with_reducible refine (HB1.out _ _ (HW.out.next HI.out.bel) HI.out.rd).mono ?_); rintro e w' ⟨ba, bc, rfl, hr, hbn⟩); clear hx0 hx1; have HI2 := Lib.hid (HI.out.next hbn); clear HI; have HI := HI2; clear HI2; have hx0 := HI.out.x0; have hx1 := HI.out.x1; have HPn := Lib.hid (HP.out.next hbn); clear HP; have HP := HPn; clear HPn; have HK := Lib.hid hr; clear hr hQ1; have hQ2 := True.intro; clear hbn)
    | (go_at_call 11; ((with_reducible refine (same4_refl _ _ _ _ HP.out HQ.out).mono ?_); rintro e w' ⟨rfl, hbn⟩); clear hx0 hx1; have HI2 := Lib.hid (HI.out.next hbn); clear HI; have HI := HI2; clear HI2; have hx0 := HI.out.x0; have hx1 := HI.out.x1; have HPn := Lib.hid (HP.out.next hbn); clear HP; have HP := HPn; clear HPn; clear HQ; have hQ1 := True.intro; clear hbn)
    | (go_at_call 10; ((with_reducible refine (HR2.out _ _ HI.out.rd).mono ?_); rintro e w' ⟨qa, qc, rfl, hr, hbn⟩); clear hx0 hx1; have HI2 := Lib.hid (HI.out.next hbn); clear HI; have HI := HI2; clear HI2; have hx0 := HI.out.x0; have hx1 := HI.out.x1; have HPn := Lib.hid (HP.out.next hbn); clear HP; have HP := HPn; clear HPn; have HQ := Lib.hid hr; clear hr; clear hbn)
    | (go_at_call 9; ((with_reducible refine (HR1.out _ _ (HW.out.next HI.out.bel) HI.out.rd).mono ?_); rintro e w' ⟨pa, pc, rfl, hr, hbn⟩); clear hx0 hx1; have HI2 := Lib.hid (HI.out.next hbn); clear HI; have HI := HI2; clear HI2; have hx0 := HI.out.x0; have hx1 := HI.out.x1; have HP := Lib.hid hr; clear hr; have hP1 := True.intro; clear hbn)
    | (go_at_call 8; ((with_reducible refine (HS2.out _ _ _ HI.out.rd ((HZ.out.below HI.out.bel).mono HI.out.bel.size)).mono ?_); rintro e w' ⟨rfl, hbn⟩); clear hx0 hx1; have HI2 := Lib.hid (HI.out.next hbn); clear HI; have HI := HI2; clear HI2; have hx0 := HI.out.x0; have hx1 := HI.out.x1; clear hbn)
    | (go_at_call 7; ((with_reducible refine (HS1.out _ _ _ HI.out.rd ((HZ.out.below HI.out.bel).mono HI.out.bel.size)).mono ?_); rintro e w' ⟨rfl, hbn⟩); clear hx0 hx1; have HI2 := Lib.hid (HI.out.next hbn); clear HI; have HI := HI2; clear HI2; have hx0 := HI.out.x0; have hx1 := HI.out.x1; clear hbn)
    | (go_at_call 5; refine (far_any _ ns up _ HI.out.rd).mono ?_; rintro e w' ⟨rfl, hbn⟩; have HI2 := Lib.hid (HI.out.next hbn); clear HI; have HI := HI2; clear HI2; have hx0 := HI.out.x0; have hx1 := HI.out.x1; clear hbn))
  go_ret
  exact ⟨ret_bool (by first | rfl | simp), HI.out.bel⟩
set_option maxHeartbeats 8000000 in
theorem lawTexts_tf (v u : Value) (ns : List ByteArray) (up : List UInt8) (zs : List Int) (s : ByteArray) (w : World) (hw : LayM w) (hv : RdL w.heap.size w v ns up) (hz : RdI w.heap.size w u zs) (e0 : farB ns up = false) (h8 : ¬ (80 : Int) < (zs.length : Int)) (h9 : ¬ (400 : Int) < (s.size : Int)) (S : ByteArray) (P : List Nat) (x y : Int)
    (HS1 : Hid (∀ v u W, RdL W.heap.size W v ns up → RdI W.heap.size W u zs → Calls Tryz.prog 7 #[v, u] W fun e w' => e = .returned (.tuple #[.string S, .int .i64 x]) ∧ Below W.heap.size W w'))
    (HS2 : Hid (∀ v u W, RdL W.heap.size W v ns up → RdI W.heap.size W u zs → Calls Tryz.prog 8 #[v, u] W fun e w' => e = .returned (.tuple #[.string S, .int .i64 x]) ∧ Below W.heap.size W w'))
    (HR1 : Hid (∀ v W, LayM W → RdL W.heap.size W v ns up → Calls Tryz.prog 9 #[v, .string s] W (SoL P y W)))
    (HR2 : Hid (∀ v W, RdL W.heap.size W v ns up → Calls Tryz.prog 10 #[v, .string s] W (SoL P y W))) (dx : (x == 0) = true) (dx2 : (x != 0) = false) (dy : (y == 0) = false) (dy2 : (y != 0) = true)
    (ls : List Nat) (hls : zs = ints ls) (HB1 : Hid (∀ v W, LayM W → RdL W.heap.size W v ns up → Calls Tryz.prog 9 #[v, .string S] W (SoL ls 0 W))) :
    Calls Tryz.prog 3 #[v, u, .string s] w fun e w' => e = .returned (.bool true) ∧ Below w.heap.size w w' := by
  have HW := Lib.hid hw
  have HL := Lib.hid hv
  obtain ⟨⟨vn0, vu, rfl, hS, hB⟩, hsz⟩ := hv
  obtain ⟨q1, cap, rfl, hc, hc2, h⟩ := hS
  obtain ⟨q, cap', rfl, hc', hc2', h'⟩ := hB
  clear h h' hsz
  have HZ := Lib.hid hz
  obtain ⟨a, c, rfl, hl, hl2, h⟩ := hz
  clear h hw
  have HI := Lib.hid (Bx.new HL.out)
  have hU := dx; clear hU
  have hU := dx2; clear hU
  have hU := dy; clear hU
  have hU := dy2; clear hU
  have HZN : Hid (RdN w.heap.size w (.slice a zs.length c) ls) := by have := HZ.out; rw [hls] at this ⊢; exact rd_nat this
  clear hls
  go_enter Tryz.func3, Tryz.ntmps3
  go_wp2_with (first
    | (go_at_call 6; ((with_reducible refine (awake4_any _).mono ?_); rintro e w' ⟨rfl, hbn⟩); clear hx0 hx1; have HI2 := Lib.hid (HI.out.next hbn); clear HI; have HI := HI2; clear HI2; have hx0 := HI.out.x0; have hx1 := HI.out.x1; clear hbn)
    | (go_at_call 11; ((with_reducible refine (same4_refl _ _ _ _ HK.out ((HZN.out.below HI.out.bel).mono HI.out.bel.size)).mono ?_); rintro e w' ⟨rfl, hbn⟩); clear hx0 hx1; have HI2 := Lib.hid (HI.out.next hbn); clear HI; have HI := HI2; clear HI2; have hx0 := HI.out.x0; have hx1 := HI.out.x1; have HPn := Lib.hid (HP.out.next hbn); clear HP; have HP := HPn; clear HPn; clear HK; have hQ3 := True.intro; clear hbn)
    | (go_at_call 9; ((with_reducible refine (HB1.out _ _ (HW.out.next HI.out.bel) HI.out.rd).mono ?_); rintro e w' ⟨ba, bc, rfl, hr, hbn⟩); clear hx0 hx1; have HI2 := Lib.hid (HI.out.next hbn); clear HI; have HI := HI2; clear HI2; have hx0 := HI.out.x0; have hx1 := HI.out.x1; have HPn := Lib.hid (HP.out.next hbn); clear HP; have HP := HPn; clear HPn; have HK := Lib.hid hr; clear hr hQ1; have hQ2 := True.intro; clear hbn)
    | (go_at_call 11; ((with_reducible refine (same4_refl _ _ _ _ HP.out HQ.out).mono ?_); rintro e w' ⟨rfl, hbn⟩); clear hx0 hx1; have HI2 := Lib.hid (HI.out.next hbn); clear HI; have HI := HI2; clear HI2; have hx0 := HI.out.x0; have hx1 := HI.out.x1; have HPn := Lib.hid (HP.out.next hbn); clear HP; have HP := HPn; clear HPn; clear HQ; have hQ1 := True.intro; clear hbn)
    | (go_at_call 10; ((with_reducible refine (HR2.out _ _ HI.out.rd).mono ?_); rintro e w' ⟨qa, qc, rfl, hr, hbn⟩); clear hx0 hx1; have HI2 := Lib.hid (HI.out.next hbn); clear HI; have HI := HI2; clear HI2; have hx0 := HI.out.x0; have hx1 := HI.out.x1; have HPn := Lib.hid (HP.out.next hbn); clear HP; have HP := HPn; clear HPn; have HQ := Lib.hid hr; clear hr; clear hbn)
    | (go_at_call 9; ((with_reducible refine (HR1.out _ _ (HW.out.next HI.out.bel) HI.out.rd).mono ?_); rintro e w' ⟨pa, pc, rfl, hr, hbn⟩); clear hx0 hx1; have HI2 := Lib.hid (HI.out.next hbn); clear HI; have HI := HI2; clear HI2; have hx0 := HI.out.x0; have hx1 := HI.out.x1; have HP := Lib.hid hr; clear hr; have hP1 := True.intro; clear hbn)
    | (go_at_call 8; ((with_reducible refine (HS2.out _ _ _ HI.out.rd ((HZ.out.below HI.out.bel).mono HI.out.bel.size)).mono ?_); rintro e w' ⟨rfl, hbn⟩); clear hx0 hx1; have HI2 := Lib.hid (HI.out.next hbn); clear HI; have HI := HI2; clear HI2; have hx0 := HI.out.x0; have hx1 := HI.out.x1; clear hbn)
    | (go_at_call 7; ((with_reducible refine (HS1.out _ _ _ HI.out.rd ((HZ.out.below HI.out.bel).mono HI.out.bel.size)).mono ?_); rintro e w' ⟨rfl, hbn⟩); clear hx0 hx1; have HI2 := Lib.hid (HI.out.next hbn); clear HI; have HI := HI2; clear HI2; have hx0 := HI.out.x0; have hx1 := HI.out.x1; clear hbn)
    | (go_at_call 5; refine (far_any _ ns up _ HI.out.rd).mono ?_; rintro e w' ⟨rfl, hbn⟩; have HI2 := Lib.hid (HI.out.next hbn); clear HI; have HI := HI2; clear HI2; have hx0 := HI.out.x0; have hx1 := HI.out.x1; clear hbn))
  go_ret
  exact ⟨ret_bool (by first | rfl | simp), HI.out.bel⟩
set_option maxHeartbeats 8000000 in
theorem lawTexts_ft (v u : Value) (ns : List ByteArray) (up : List UInt8) (zs : List Int) (s : ByteArray) (w : World) (hw : LayM w) (hv : RdL w.heap.size w v ns up) (hz : RdI w.heap.size w u zs) (e0 : farB ns up = false) (h8 : ¬ (80 : Int) < (zs.length : Int)) (h9 : ¬ (400 : Int) < (s.size : Int)) (S : ByteArray) (P : List Nat) (x y : Int)
    (HS1 : Hid (∀ v u W, RdL W.heap.size W v ns up → RdI W.heap.size W u zs → Calls Tryz.prog 7 #[v, u] W fun e w' => e = .returned (.tuple #[.string S, .int .i64 x]) ∧ Below W.heap.size W w'))
    (HS2 : Hid (∀ v u W, RdL W.heap.size W v ns up → RdI W.heap.size W u zs → Calls Tryz.prog 8 #[v, u] W fun e w' => e = .returned (.tuple #[.string S, .int .i64 x]) ∧ Below W.heap.size W w'))
    (HR1 : Hid (∀ v W, LayM W → RdL W.heap.size W v ns up → Calls Tryz.prog 9 #[v, .string s] W (SoL P y W)))
    (HR2 : Hid (∀ v W, RdL W.heap.size W v ns up → Calls Tryz.prog 10 #[v, .string s] W (SoL P y W))) (dx : (x == 0) = false) (dx2 : (x != 0) = true) (dy : (y == 0) = true) (dy2 : (y != 0) = false)
    (HB2 : Hid (∀ v u W, RdL W.heap.size W v ns up → RdN W.heap.size W u P → Calls Tryz.prog 7 #[v, u] W fun e w' => e = .returned (.tuple #[.string s, .int .i64 0]) ∧ Below W.heap.size W w')) :
    Calls Tryz.prog 3 #[v, u, .string s] w fun e w' => e = .returned (.bool true) ∧ Below w.heap.size w w' := by
  have HW := Lib.hid hw
  have HL := Lib.hid hv
  obtain ⟨⟨vn0, vu, rfl, hS, hB⟩, hsz⟩ := hv
  obtain ⟨q1, cap, rfl, hc, hc2, h⟩ := hS
  obtain ⟨q, cap', rfl, hc', hc2', h'⟩ := hB
  clear h h' hsz
  have HZ := Lib.hid hz
  obtain ⟨a, c, rfl, hl, hl2, h⟩ := hz
  clear h hw
  have HI := Lib.hid (Bx.new HL.out)
  have hU := dx; clear hU
  have hU := dx2; clear hU
  have hU := dy; clear hU
  have hU := dy2; clear hU
  go_enter Tryz.func3, Tryz.ntmps3
  go_wp2_with (first
    | (go_at_call 6; ((with_reducible refine (awake4_any _).mono ?_); rintro e w' ⟨rfl, hbn⟩); clear hx0 hx1; have HI2 := Lib.hid (HI.out.next hbn); clear HI; have HI := HI2; clear HI2; have hx0 := HI.out.x0; have hx1 := HI.out.x1; clear hbn)
    | (go_at_call 7; ((with_reducible refine (HB2.out _ _ _ HI.out.rd HP.out).mono ?_); rintro e w' ⟨rfl, hbn⟩); clear hx0 hx1; have HI2 := Lib.hid (HI.out.next hbn); clear HI; have HI := HI2; clear HI2; have hx0 := HI.out.x0; have hx1 := HI.out.x1; clear hbn)
    | (go_at_call 11; ((with_reducible refine (same4_refl _ _ _ _ HP.out HQ.out).mono ?_); rintro e w' ⟨rfl, hbn⟩); clear hx0 hx1; have HI2 := Lib.hid (HI.out.next hbn); clear HI; have HI := HI2; clear HI2; have hx0 := HI.out.x0; have hx1 := HI.out.x1; have HPn := Lib.hid (HP.out.next hbn); clear HP; have HP := HPn; clear HPn; clear HQ; have hQ1 := True.intro; clear hbn)
    | (go_at_call 10; ((with_reducible refine (HR2.out _ _ HI.out.rd).mono ?_); rintro e w' ⟨qa, qc, rfl, hr, hbn⟩); clear hx0 hx1; have HI2 := Lib.hid (HI.out.next hbn); clear HI; have HI := HI2; clear HI2; have hx0 := HI.out.x0; have hx1 := HI.out.x1; have HPn := Lib.hid (HP.out.next hbn); clear HP; have HP := HPn; clear HPn; have HQ := Lib.hid hr; clear hr; clear hbn)
    | (go_at_call 9; ((with_reducible refine (HR1.out _ _ (HW.out.next HI.out.bel) HI.out.rd).mono ?_); rintro e w' ⟨pa, pc, rfl, hr, hbn⟩); clear hx0 hx1; have HI2 := Lib.hid (HI.out.next hbn); clear HI; have HI := HI2; clear HI2; have hx0 := HI.out.x0; have hx1 := HI.out.x1; have HP := Lib.hid hr; clear hr; have hP1 := True.intro; clear hbn)
    | (go_at_call 8; ((with_reducible refine (HS2.out _ _ _ HI.out.rd ((HZ.out.below HI.out.bel).mono HI.out.bel.size)).mono ?_); rintro e w' ⟨rfl, hbn⟩); clear hx0 hx1; have HI2 := Lib.hid (HI.out.next hbn); clear HI; have HI := HI2; clear HI2; have hx0 := HI.out.x0; have hx1 := HI.out.x1; clear hbn)
    | (go_at_call 7; ((with_reducible refine (HS1.out _ _ _ HI.out.rd ((HZ.out.below HI.out.bel).mono HI.out.bel.size)).mono ?_); rintro e w' ⟨rfl, hbn⟩); clear hx0 hx1; have HI2 := Lib.hid (HI.out.next hbn); clear HI; have HI := HI2; clear HI2; have hx0 := HI.out.x0; have hx1 := HI.out.x1; clear hbn)
    | (go_at_call 5; refine (far_any _ ns up _ HI.out.rd).mono ?_; rintro e w' ⟨rfl, hbn⟩; have HI2 := Lib.hid (HI.out.next hbn); clear HI; have HI := HI2; clear HI2; have hx0 := HI.out.x0; have hx1 := HI.out.x1; clear hbn))
  go_ret
  exact ⟨ret_bool (by first | rfl | simp), HI.out.bel⟩
set_option maxHeartbeats 8000000 in
theorem lawTexts_ff (v u : Value) (ns : List ByteArray) (up : List UInt8) (zs : List Int) (s : ByteArray) (w : World) (hw : LayM w) (hv : RdL w.heap.size w v ns up) (hz : RdI w.heap.size w u zs) (e0 : farB ns up = false) (h8 : ¬ (80 : Int) < (zs.length : Int)) (h9 : ¬ (400 : Int) < (s.size : Int)) (S : ByteArray) (P : List Nat) (x y : Int)
    (HS1 : Hid (∀ v u W, RdL W.heap.size W v ns up → RdI W.heap.size W u zs → Calls Tryz.prog 7 #[v, u] W fun e w' => e = .returned (.tuple #[.string S, .int .i64 x]) ∧ Below W.heap.size W w'))
    (HS2 : Hid (∀ v u W, RdL W.heap.size W v ns up → RdI W.heap.size W u zs → Calls Tryz.prog 8 #[v, u] W fun e w' => e = .returned (.tuple #[.string S, .int .i64 x]) ∧ Below W.heap.size W w'))
    (HR1 : Hid (∀ v W, LayM W → RdL W.heap.size W v ns up → Calls Tryz.prog 9 #[v, .string s] W (SoL P y W)))
    (HR2 : Hid (∀ v W, RdL W.heap.size W v ns up → Calls Tryz.prog 10 #[v, .string s] W (SoL P y W))) (dx : (x == 0) = false) (dx2 : (x != 0) = true) (dy : (y == 0) = false) (dy2 : (y != 0) = true) :
    Calls Tryz.prog 3 #[v, u, .string s] w fun e w' => e = .returned (.bool true) ∧ Below w.heap.size w w' := by
  have HW := Lib.hid hw
  have HL := Lib.hid hv
  obtain ⟨⟨vn0, vu, rfl, hS, hB⟩, hsz⟩ := hv
  obtain ⟨q1, cap, rfl, hc, hc2, h⟩ := hS
  obtain ⟨q, cap', rfl, hc', hc2', h'⟩ := hB
  clear h h' hsz
  have HZ := Lib.hid hz
  obtain ⟨a, c, rfl, hl, hl2, h⟩ := hz
  clear h hw
  have HI := Lib.hid (Bx.new HL.out)
  have hU := dx; clear hU
  have hU := dx2; clear hU
  have hU := dy; clear hU
  have hU := dy2; clear hU
  go_enter Tryz.func3, Tryz.ntmps3
  go_wp2_with (first
    | (go_at_call 6; ((with_reducible refine (awake4_any _).mono ?_); rintro e w' ⟨rfl, hbn⟩); clear hx0 hx1; have HI2 := Lib.hid (HI.out.next hbn); clear HI; have HI := HI2; clear HI2; have hx0 := HI.out.x0; have hx1 := HI.out.x1; clear hbn)
    | (go_at_call 11; ((with_reducible refine (same4_refl _ _ _ _ HP.out HQ.out).mono ?_); rintro e w' ⟨rfl, hbn⟩); clear hx0 hx1; have HI2 := Lib.hid (HI.out.next hbn); clear HI; have HI := HI2; clear HI2; have hx0 := HI.out.x0; have hx1 := HI.out.x1; have HPn := Lib.hid (HP.out.next hbn); clear HP; have HP := HPn; clear HPn; clear HQ; have hQ1 := True.intro; clear hbn)
    | (go_at_call 10; ((with_reducible refine (HR2.out _ _ HI.out.rd).mono ?_); rintro e w' ⟨qa, qc, rfl, hr, hbn⟩); clear hx0 hx1; have HI2 := Lib.hid (HI.out.next hbn); clear HI; have HI := HI2; clear HI2; have hx0 := HI.out.x0; have hx1 := HI.out.x1; have HPn := Lib.hid (HP.out.next hbn); clear HP; have HP := HPn; clear HPn; have HQ := Lib.hid hr; clear hr; clear hbn)
    | (go_at_call 9; ((with_reducible refine (HR1.out _ _ (HW.out.next HI.out.bel) HI.out.rd).mono ?_); rintro e w' ⟨pa, pc, rfl, hr, hbn⟩); clear hx0 hx1; have HI2 := Lib.hid (HI.out.next hbn); clear HI; have HI := HI2; clear HI2; have hx0 := HI.out.x0; have hx1 := HI.out.x1; have HP := Lib.hid hr; clear hr; have hP1 := True.intro; clear hbn)
    | (go_at_call 8; ((with_reducible refine (HS2.out _ _ _ HI.out.rd ((HZ.out.below HI.out.bel).mono HI.out.bel.size)).mono ?_); rintro e w' ⟨rfl, hbn⟩); clear hx0 hx1; have HI2 := Lib.hid (HI.out.next hbn); clear HI; have HI := HI2; clear HI2; have hx0 := HI.out.x0; have hx1 := HI.out.x1; clear hbn)
    | (go_at_call 7; ((with_reducible refine (HS1.out _ _ _ HI.out.rd ((HZ.out.below HI.out.bel).mono HI.out.bel.size)).mono ?_); rintro e w' ⟨rfl, hbn⟩); clear hx0 hx1; have HI2 := Lib.hid (HI.out.next hbn); clear HI; have HI := HI2; clear HI2; have hx0 := HI.out.x0; have hx1 := HI.out.x1; clear hbn)
    | (go_at_call 5; refine (far_any _ ns up _ HI.out.rd).mono ?_; rintro e w' ⟨rfl, hbn⟩; have HI2 := Lib.hid (HI.out.next hbn); clear HI; have HI := HI2; clear HI2; have hx0 := HI.out.x0; have hx1 := HI.out.x1; clear hbn))
  go_ret
  exact ⟨ret_bool (by first | rfl | simp), HI.out.bel⟩
end Go.Proofs.YtablaacddbkeiaaGreatDoor
namespace Go.Proofs.YtablaacddbkeiaaGreatDoor
open Go.RowKit

theorem lawTexts_any (v u : Value) (ns : List ByteArray) (up : List UInt8) (zs : List Int) (s : ByteArray) (w : World) (hw : LayM w) (hv : RdL w.heap.size w v ns up) (hz : RdI w.heap.size w u zs) :
    Calls Tryz.prog 3 #[v, u, .string s] w fun e w' => e = .returned (.bool true) ∧ Below w.heap.size w w' := by
  cases e0 : farB ns up with
  | true => exact lawTexts_far v u ns up zs s w hw hv hz e0
  | false =>
    by_cases h8 : (80 : Int) < (zs.length : Int)
    · exact lawTexts_la v u ns up zs s w hw hv hz e0 h8
    by_cases h9 : (400 : Int) < (s.size : Int)
    · exact lawTexts_lb v u ns up zs s w hw hv hz e0 h8 h9
    have hs : s.size ≤ 1000000 := by omega
    by_cases hg0 : (ck ns up).2 = 0
    · have hg := good_of hg0
      have HR1 : Hid (∀ v W, LayM W → RdL W.heap.size W v ns up → Calls Tryz.prog 9 #[v, .string s] W (SoL (rdV ns s) (rdE ns s) W)) := fun v W hW hv => lread_ok v ns up s W hW hv hg hs
      have HR2 : Hid (∀ v W, RdL W.heap.size W v ns up → Calls Tryz.prog 10 #[v, .string s] W (SoL (rdV ns s) (rdE ns s) W)) := fun v W hv => rread_ok v ns up s W hv hg hs
      by_cases hx : (lck ns up zs).2 = 0
      · obtain ⟨ls, rfl, hgl⟩ := gl_of (ns := ns) (up := up) (zs := zs) (by rw [hx]; decide)
        have HS1 : Hid (∀ v u W, RdL W.heap.size W v ns up → RdI W.heap.size W u (ints ls) → Calls Tryz.prog 7 #[v, u] W fun e w' => e = .returned (.tuple #[.string (shV ns ls), .int .i64 0]) ∧ Below W.heap.size W w') := fun v u W h1 h2 => lshow_ok v u ns up ls W h1 (rd_nat h2) hgl
        have HS2 : Hid (∀ v u W, RdL W.heap.size W v ns up → RdI W.heap.size W u (ints ls) → Calls Tryz.prog 8 #[v, u] W fun e w' => e = .returned (.tuple #[.string (shV ns ls), .int .i64 0]) ∧ Below W.heap.size W w') := fun v u W h1 h2 => rshow_ok v u ns up ls W h1 (rd_nat h2) hgl
        have hsz : (shV ns ls).size ≤ 1000000 := by
          by_cases hne : ls = []
          · subst hne; rw [shV_nil]; decide
          · rw [shV_ne hne, size_mk]; have := shT_len hgl; omega
        have HB1 : Hid (∀ v W, LayM W → RdL W.heap.size W v ns up → Calls Tryz.prog 9 #[v, .string (shV ns ls)] W (SoL ls 0 W)) := fun v W hW hv => by
          have := lread_ok v ns up (shV ns ls) W hW hv hg hsz
          obtain ⟨r1, r2⟩ := read_show hgl
          rwa [r1, r2] at this
        by_cases hy : rdE ns s = 0
        · obtain ⟨hgp, hsp⟩ := show_read hg hy
          have HB2 : Hid (∀ v u W, RdL W.heap.size W v ns up → RdN W.heap.size W u (rdV ns s) → Calls Tryz.prog 7 #[v, u] W fun e w' => e = .returned (.tuple #[.string s, .int .i64 0]) ∧ Below W.heap.size W w') := fun v u W h1 h2 => by
            have := lshow_ok v u ns up (rdV ns s) W h1 h2 hgp
            rwa [hsp] at this
          exact lawTexts_tt v u ns up _ s w hw hv hz e0 h8 h9 _ _ 0 (rdE ns s) HS1 HS2 HR1 HR2 rfl rfl (by rw [hy]; rfl) (by rw [hy]; rfl) ls rfl HB1 HB2
        · exact lawTexts_tf v u ns up _ s w hw hv hz e0 h8 h9 _ _ 0 (rdE ns s) HS1 HS2 HR1 HR2 rfl rfl (by rw [beq_eq_false_iff_ne]; exact hy) (by rw [bne_iff_ne]; exact hy) ls rfl HB1
      · have hk : ((lck ns up zs).2 != 0) = true := by rw [bne_iff_ne]; exact hx
        have HS1 : Hid (∀ v u W, RdL W.heap.size W v ns up → RdI W.heap.size W u zs → Calls Tryz.prog 7 #[v, u] W fun e w' => e = .returned (.tuple #[.string ByteArray.empty, .int .i64 (lck ns up zs).2]) ∧ Below W.heap.size W w') := fun v u W h1 h2 => lshow_bad v u ns up zs W h1 h2 hk
        have HS2 : Hid (∀ v u W, RdL W.heap.size W v ns up → RdI W.heap.size W u zs → Calls Tryz.prog 8 #[v, u] W fun e w' => e = .returned (.tuple #[.string ByteArray.empty, .int .i64 (lck ns up zs).2]) ∧ Below W.heap.size W w') := fun v u W h1 h2 => rshow_bad v u ns up zs W h1 h2 hk
        by_cases hy : rdE ns s = 0
        · obtain ⟨hgp, hsp⟩ := show_read hg hy
          have HB2 : Hid (∀ v u W, RdL W.heap.size W v ns up → RdN W.heap.size W u (rdV ns s) → Calls Tryz.prog 7 #[v, u] W fun e w' => e = .returned (.tuple #[.string s, .int .i64 0]) ∧ Below W.heap.size W w') := fun v u W h1 h2 => by
            have := lshow_ok v u ns up (rdV ns s) W h1 h2 hgp
            rwa [hsp] at this
          exact lawTexts_ft v u ns up zs s w hw hv hz e0 h8 h9 _ _ _ (rdE ns s) HS1 HS2 HR1 HR2 (by rw [beq_eq_false_iff_ne]; exact hx) hk (by rw [hy]; rfl) (by rw [hy]; rfl) HB2
        · exact lawTexts_ff v u ns up zs s w hw hv hz e0 h8 h9 _ _ _ (rdE ns s) HS1 HS2 HR1 HR2 (by rw [beq_eq_false_iff_ne]; exact hx) hk (by rw [beq_eq_false_iff_ne]; exact hy) (by rw [bne_iff_ne]; exact hy)
    · have hck : ((ck ns up).2 != 0) = true := by rw [bne_iff_ne]; exact hg0
      have hlk := lck_A (zs := zs) hck
      have hk : ((lck ns up zs).2 != 0) = true := by rw [hlk]; exact hck
      have HS1 : Hid (∀ v u W, RdL W.heap.size W v ns up → RdI W.heap.size W u zs → Calls Tryz.prog 7 #[v, u] W fun e w' => e = .returned (.tuple #[.string ByteArray.empty, .int .i64 (lck ns up zs).2]) ∧ Below W.heap.size W w') := fun v u W h1 h2 => lshow_bad v u ns up zs W h1 h2 hk
      have HS2 : Hid (∀ v u W, RdL W.heap.size W v ns up → RdI W.heap.size W u zs → Calls Tryz.prog 8 #[v, u] W fun e w' => e = .returned (.tuple #[.string ByteArray.empty, .int .i64 (lck ns up zs).2]) ∧ Below W.heap.size W w') := fun v u W h1 h2 => rshow_bad v u ns up zs W h1 h2 hk
      have HR1 : Hid (∀ v W, LayM W → RdL W.heap.size W v ns up → Calls Tryz.prog 9 #[v, .string s] W (SoL [] (ck ns up).2 W)) := fun v W _ hv => (lread_bad v ns up s W hv hck).mono fun e w' h => soL_nil h
      have HR2 : Hid (∀ v W, RdL W.heap.size W v ns up → Calls Tryz.prog 10 #[v, .string s] W (SoL [] (ck ns up).2 W)) := fun v W hv => (rread_bad v ns up s W hv hck).mono fun e w' h => soL_nil h
      exact lawTexts_ff v u ns up zs s w hw hv hz e0 h8 h9 _ _ _ (ck ns up).2 HS1 HS2 HR1 HR2 (by rw [beq_eq_false_iff_ne, hlk]; exact hg0) hk (by rw [beq_eq_false_iff_ne]; exact hg0) hck
end Go.Proofs.YtablaacddbkeiaaGreatDoor
namespace Go.Proofs.YtablaacddbkeiaaGreatDoor
open Go.ChangeShapes Go.WideShapes Go.ChangeAt Go.RowKit Go.Lib

/-- The listed variable of a shaped world holds some number. -/
theorem layM_of {W : World} (h : W.ShapedOpen Tryz.prog) : LayM W := by
  obtain ⟨m, hm⟩ := Go.Proofs.cell_of_shapedOpen_int (zero := #[.int .i64 0]) (t := 3) (g := 0) h (of_decide_eq_true (by kernel_rfl)) (by kernel_rfl) rfl (by kernel_rfl) (by kernel_rfl) Tryz.underlying3
  refine ⟨?_, m, hm⟩
  unfold World.cell? at hm
  split at hm
  · rename_i hb; exact (Array.getElem?_eq_some_iff.1 hb).1
  · cases hm
/-- A world for the witness: the listed variables hold what their initialisers lay. -/
noncomputable def laidWorld2 (os : Os) : World :=
  let w0 := World.holding Tryz.prog os ⟨#[], #[], []⟩
  let put (h : Array Obj) (g : Nat) (cs : Array Value) : Array Obj := h.modify g fun
    | .cells _ t frozen => .cells cs t frozen
    | o => o
  let h1 := put w0.heap 2 ((List.range 16).flatMap fun i => [Value.int .u8 (Lib.accLo i), Value.int .u8 (Lib.accHi i)]).toArray
  let h2 := put h1 1 (Lib.firstTab.map fun z => Value.int .u8 z).toArray
  { w0 with heap := h2 }

def two : List (String × DataW Unit) := [("unicode/utf8.acceptRanges", Rows.laid_unicode_utf8_acceptRanges), ("unicode/utf8.first", Rows.laid_unicode_utf8_first)]
theorem laid_met2 (os : Os) (args : Array Value) : laidMet Tryz.prog two ((laidWorld2 os).forCall (fun _ _ => 0) ⟨#[], args, []⟩).memory :=
  laidMet_of_run' 8 (by kernel_rfl) (by kernel_rfl)
theorem laid_vars2 (os : Os) (args : Array Value) : ((laidWorld2 os).forCall (fun _ _ => 0) ⟨#[], args, []⟩).variablesRefB Tryz.prog = true := by kernel_rfl
theorem laid_heap2 (os : Os) (args : Array Value) : ((((laidWorld2 os).forCall (fun _ _ => 0) ⟨#[], args, []⟩).heap.toList.drop Tryz.prog.globals.size).take ((begin Tryz.prog (fun _ _ => 0) default).world.heap.size - Tryz.prog.globals.size)) =
      (begin Tryz.prog (fun _ _ => 0) default).world.heap.toList.drop Tryz.prog.globals.size := by kernel_rfl
end Go.Proofs.YtablaacddbkeiaaGreatDoor
