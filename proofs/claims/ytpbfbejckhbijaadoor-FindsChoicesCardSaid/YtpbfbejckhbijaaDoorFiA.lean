/- Plain facts: what the functions that look for cells return. -/
import Derived.Test.YtpbfbejckhbijaaDoorExC
import Derived.Test.YtpbfbejckhbijaaDoorMvPj
import Derived.Test.YtpbfbejckhbijaaDoorMvV
namespace Go.Proofs.YtpbfbejckhbijaaDoor
open Go.RowKit

/-- What a fault says after the operands' own. -/
def fkV (kd rk : Bool) (e : Int) : Int := if e ≠ 0 then e else if kd = false then 21 else if rk = false then 22 else 0
def oneF (A : Ar) (k r : Int) : Int := if ck A = 0 then (if A.k = k then (if A.r = r then 0 else 22) else 21) else ck A
theorem oneF_ok {A : Ar} {k r : Int} (h : oneF A k r = 0) : ck A = 0 ∧ A.k = k ∧ A.r = r := by
  unfold oneF at h
  split at h
  · split at h
    · split at h
      · exact ⟨by assumption, by assumption, by assumption⟩
      · cases h
    · cases h
  · contradiction
theorem fk_one (A : Ar) (k r : Int) : fkV (A.k == k) (A.r == r) (ck A) = oneF A k r := by
  unfold fkV oneF
  by_cases h : ck A = 0
  · rw [if_neg (not_not_intro h), if_pos h]
    by_cases h1 : A.k = k
    · by_cases h2 : A.r = r
      · simp [h1, h2]
      · simp [h1, h2]
    · simp [h1]
  · rw [if_pos h, if_neg h]
/-- Shape. -/
def shZ (A : Ar) : List Int := if A.r = 0 then [] else if A.r = 1 then [A.a] else [A.a, A.b]
def shV (A : Ar) : Ar := orNo (ck A) (vecA 1 (shZ A))
/-- The first numbers from 0 on. -/
def upZ (n : Nat) : List Int := (List.range n).map Int.ofNat
theorem upZ_len (n : Nat) : (upZ n).length = n := by simp [upZ]
theorem upZ_at {n i : Nat} (h : i < n) : (upZ n).getD i 0 = (i : Int) := by simp [upZ, List.getD_eq_getElem?_getD, h]
def ioE (N : Ar) : Int := if oneF N 1 0 = 0 then (if fst1 N < 0 then 13 else if 400 < fst1 N then 15 else 0) else oneF N 1 0
def ioV (N : Ar) : Ar := orNo (ioE N) (vecA 1 (upZ (fst1 N).toNat))
/-- Cells at places. -/
def inS (n : Nat) (p : Int) : Bool := decide (0 ≤ p) && decide (p < n)
def lkT (V I : Ar) : Int := twoE V I V.k 1 1 1 0 1
def lkE (V I : Ar) : Int := if lkT V I = 0 then (if I.z.all (inS V.z.length) = true then 0 else 14) else lkT V I
def lkZ (V I : Ar) : List Int := I.z.map fun p => V.z.getD p.toNat 0
def lkV (V I : Ar) : Ar := orNo (lkE V I) ⟨V.k, I.r, I.a, I.b, lkZ V I⟩
/-- Which cells a vector has. -/
def mbE (A V : Ar) : Int := twoE A V V.k V.k 0 2 1 1
def mbZ (A V : Ar) : List Int := A.z.map fun x => if x ∈ V.z then 1 else 0
def mbV (A V : Ar) : Ar := orNo (mbE A V) ⟨1, A.r, A.a, A.b, mbZ A V⟩
/-- The cells where another vector is not 0. -/
def pkZ : List Int → List Int → List Int
  | m :: ms, v :: vs => if m = 0 then pkZ ms vs else v :: pkZ ms vs
  | _, _ => []
theorem pkZ_le : ∀ m v : List Int, (pkZ m v).length ≤ v.length
  | m :: ms, v :: vs => by
    have := pkZ_le ms vs
    unfold pkZ
    split
    · simp only [List.length_cons]; omega
    · simp only [List.length_cons]; omega
  | [], v => by simp [pkZ]
  | _ :: _, [] => by simp [pkZ]
theorem pkZ_nil (v : List Int) : pkZ [] v = [] := by simp [pkZ]
theorem pkZ_snoc : ∀ {m v : List Int} (x y : Int), m.length = v.length → pkZ (m ++ [x]) (v ++ [y]) = if x = 0 then pkZ m v else pkZ m v ++ [y]
  | [], [], x, y, _ => by simp [pkZ]
  | a :: m, b :: v, x, y, h => by
    have := pkZ_snoc (m := m) (v := v) x y (by simpa using h)
    simp only [List.cons_append, pkZ]
    split
    · exact this
    · rw [this]
      split
      · rfl
      · rfl
  | [], _ :: _, _, _, h => by simp at h
  | _ :: _, [], _, _, h => by simp at h
theorem pkZ_take {m v : List Int} (h : m.length = v.length) {j : Nat} (hj : j < m.length) : pkZ (m.take (j + 1)) (v.take (j + 1)) = if m.getD j 0 = 0 then pkZ (m.take j) (v.take j) else pkZ (m.take j) (v.take j) ++ [v.getD j 0] := by
  rw [← takeI_snoc hj, ← takeI_snoc (l := v) (by omega)]
  exact pkZ_snoc _ _ (by rw [List.length_take, List.length_take]; omega)
def pkT (M V : Ar) : Int := twoE M V 1 V.k 1 1 1 1
def pkE (M V : Ar) : Int := if pkT M V = 0 then (if M.z.length = V.z.length then 0 else 11) else pkT M V
def pkV (M V : Ar) : Ar := orNo (pkE M V) (vecA V.k (pkZ M.z V.z))
theorem twoE_ok {A B : Ar} {kA kB lA mA lB mB : Int} (h : twoE A B kA kB lA mA lB mB = 0) : ck A = 0 ∧ ck B = 0 ∧ (A.k = kA ∧ B.k = kB) ∧ lA ≤ A.r ∧ A.r ≤ mA ∧ lB ≤ B.r ∧ B.r ≤ mB := by
  unfold twoE at h
  split at h
  · split at h
    · split at h
      · split at h
        · cases h
        · refine ⟨by assumption, by assumption, by assumption, ?_⟩
          omega
      · cases h
    · contradiction
  · contradiction
theorem fk_two (A B : Ar) (kd rk : Bool) (kA kB lA mA lB mB : Int) (hk : kd = true ↔ A.k = kA ∧ B.k = kB) (hr : ck A = 0 → ck B = 0 → (rk = true ↔ lA ≤ A.r ∧ A.r ≤ mA ∧ lB ≤ B.r ∧ B.r ≤ mB)) :
    fkV kd rk (if ck A ≠ 0 then ck A else ck B) = twoE A B kA kB lA mA lB mB := by
  unfold fkV twoE
  by_cases h : ck A = 0
  · rw [if_neg (not_not_intro h), if_pos h]
    by_cases h1 : ck B = 0
    · rw [if_neg (not_not_intro h1), if_pos h1]
      by_cases h2 : A.k = kA ∧ B.k = kB
      · rw [if_pos h2, if_neg (by rw [hk.2 h2]; decide)]
        have := hr h h1
        by_cases h3 : lA ≤ A.r ∧ A.r ≤ mA ∧ lB ≤ B.r ∧ B.r ≤ mB
        · rw [if_neg (by rw [this.2 h3]; decide), if_neg (by omega)]
        · have e : rk = false := by
            cases rk
            · rfl
            · exact absurd (this.1 rfl) h3
          rw [if_pos e, if_pos (by omega)]
      · have e : kd = false := by
          cases kd
          · rfl
          · exact absurd (hk.1 rfl) h2
        rw [if_neg h2, if_pos e]
    · rw [if_pos h1, if_neg h1]
  · rw [if_pos h, if_pos h, if_neg h]
/-- What they return are arrays. -/
theorem shV_ck (A : Ar) : ck (vecA 1 (shZ A)) = 0 := by
  refine ck_vec (.inl rfl) ?_ (fun e => by cases e)
  unfold shZ
  split
  · decide
  · split <;> simp
theorem ioV_ck {N : Ar} (h : ioE N = 0) : ck (vecA 1 (upZ (fst1 N).toNat)) = 0 := by
  refine ck_vec (.inl rfl) ?_ (fun e => by cases e)
  rw [upZ_len]
  unfold ioE at h
  split at h
  · split at h
    · cases h
    · split at h
      · cases h
      · omega
  · contradiction
theorem all_get {l : List Int} {p : Int → Bool} (h : l.all p = true) {i : Nat} (hi : i < l.length) : p (l.getD i 0) = true := by
  rw [List.getD_eq_getElem?_getD, List.getElem?_eq_getElem hi]
  exact List.all_eq_true.1 h _ (List.getElem_mem hi)
theorem lkE_ok {V I : Ar} (h : lkE V I = 0) : lkT V I = 0 ∧ I.z.all (inS V.z.length) = true := by
  unfold lkE at h
  split at h
  · split at h
    · exact ⟨by assumption, by assumption⟩
    · cases h
  · contradiction
theorem lk_ck {V I : Ar} (h : lkE V I = 0) : ck ⟨V.k, I.r, I.a, I.b, lkZ V I⟩ = 0 := by
  obtain ⟨h1, h2⟩ := lkE_ok h
  obtain ⟨hV, hI, _, _⟩ := twoE_ok h1
  have gV := ck_good hV
  have gI := ck_good hI
  refine good_ck ⟨gV.kind, gI.sh, by show ((lkZ V I).length : Int) = _; unfold lkZ; rw [List.length_map]; exact gI.len, fun e => ?_⟩
  refine List.all_eq_true.2 fun x hx => ?_
  obtain ⟨p, hp, rfl⟩ := List.mem_map.1 hx
  have hq := List.all_eq_true.1 h2 p hp
  unfold inS at hq
  rw [Bool.and_eq_true, decide_eq_true_iff, decide_eq_true_iff] at hq
  exact all_get (gV.runes e) (by omega)
theorem mb_ck {A V : Ar} (h : mbE A V = 0) : ck ⟨1, A.r, A.a, A.b, mbZ A V⟩ = 0 := by
  obtain ⟨hA, hV, _, _⟩ := twoE_ok h
  have gA := ck_good hA
  exact good_ck ⟨.inl rfl, gA.sh, by show ((mbZ A V).length : Int) = _; unfold mbZ; rw [List.length_map]; exact gA.len, fun e => by cases e⟩
theorem pkZ_mem : ∀ {m v : List Int} {x : Int}, x ∈ pkZ m v → x ∈ v
  | m :: ms, v :: vs, x, h => by
    unfold pkZ at h
    split at h
    · exact List.mem_cons_of_mem _ (pkZ_mem h)
    · rcases List.mem_cons.1 h with rfl | h
      · exact List.mem_cons_self
      · exact List.mem_cons_of_mem _ (pkZ_mem h)
  | [], v, x, h => by simp [pkZ] at h
  | _ :: _, [], x, h => by simp [pkZ] at h
theorem pk_ck {M V : Ar} (h : pkT M V = 0) : ck (vecA V.k (pkZ M.z V.z)) = 0 := by
  obtain ⟨_, hV, _, _⟩ := twoE_ok h
  have gV := ck_good hV
  have := pkZ_le M.z V.z
  have := gV.len4
  exact ck_vec gV.kind (by omega) fun e => List.all_eq_true.2 fun x hx => List.all_eq_true.1 (gV.runes e) x (pkZ_mem hx)
theorem shV_len (A : Ar) : (shV A).z.length ≤ 400 := by
  unfold shV orNo
  split
  · show (shZ A).length ≤ 400
    unfold shZ
    split
    · decide
    · split <;> simp
  · exact Nat.zero_le _
end Go.Proofs.YtpbfbejckhbijaaDoor
