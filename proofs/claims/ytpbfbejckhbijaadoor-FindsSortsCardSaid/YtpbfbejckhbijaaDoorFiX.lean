/- Rows of uint16 that came in; plain facts for the law Looks. -/
import Derived.Test.YtpbfbejckhbijaaDoorFiV
import Derived.Test.YtpbfbejckhbijaaDoorMvLaid
namespace Go.Proofs.YtpbfbejckhbijaaDoor
open Go.RowKit Go.ChangeShapes Go.WideShapes Go.ChangeAt

/-- A row of uint16. -/
def RdU (B : Nat) (w : World) (v : Value) (zs : List Int) : Prop :=
  ∃ a cap, v = .slice a zs.length cap ∧ zs.length ≤ cap ∧ (zs ≠ [] → ∃ b off, a = some ⟨b, off, none⟩ ∧ b < B ∧ ∀ j (h : j < zs.length), w.cell? ⟨b, off + j, none⟩ = some (.int .u16 zs[j]))
theorem RdU.at {w w' : World} {a : Option Addr} {cap : Nat} {zs : List Int} (h : RdU w.heap.size w (.slice a zs.length cap) zs) (hb : Below w.heap.size w w') {j : Nat} (hj : j < zs.length) :
    ∃ b off, a = some ⟨b, off, none⟩ ∧ w'.cell? ⟨b, off + j, none⟩ = some (.int .u16 zs[j]) := by
  obtain ⟨a', cap', hv, hc, h⟩ := h
  cases hv
  obtain ⟨b, off, ha, hlt, hcell⟩ := h (by intro e; rw [e] at hj; simp at hj)
  exact ⟨b, off, ha, (hb.cell (p := ⟨b, off + j, none⟩) hlt).trans (hcell j hj)⟩
theorem wfu {x : Int} (h : (Lit.int .u16 x).wf = true) : 0 ≤ x ∧ x ≤ 65535 := by
  simp only [Lit.wf, IntKind.min, IntKind.max, IntKind.signed, IntKind.bits, Bool.and_eq_true] at h
  obtain ⟨h1, h2⟩ := h
  exact ⟨by simpa using h1, by simpa using h2⟩
section
variable {H : Type} {enc : TypeId × Value → H}
set_option maxRecDepth 100000
end
/-- Numbers brought below another. -/
def rmZ (n : Nat) (z : List Int) : List Int := z.map fun x => x % (n : Int)
theorem rmZ_len (n : Nat) (z : List Int) : (rmZ n z).length = z.length := by simp [rmZ]
theorem rmZ_snoc {n : Nat} {z : List Int} {j : Nat} (hj : j < z.length) : (rmZ n z).take j ++ [z[j] % (n : Int)] = (rmZ n z).take (j + 1) := by
  rw [← takeI_snoc (by rw [rmZ_len]; exact hj)]
  congr 2
  unfold rmZ
  rw [List.getD_eq_getElem?_getD, List.getElem?_map, List.getElem?_eq_getElem hj]
  rfl
theorem rmZ_in {n : Nat} (hn : n ≠ 0) (z : List Int) {x : Int} (h : x ∈ rmZ n z) : inS n x = true := by
  unfold rmZ at h
  obtain ⟨y, _, rfl⟩ := List.mem_map.1 h
  unfold inS
  rw [Bool.and_eq_true, decide_eq_true_iff, decide_eq_true_iff]
  exact ⟨Int.emod_nonneg _ (by omega), Int.emod_lt_of_pos _ (by omega)⟩
theorem inS_nat {n : Nat} {x : Int} (h : inS n x = true) : 0 ≤ x ∧ x.toNat < n := by
  unfold inS at h
  rw [Bool.and_eq_true, decide_eq_true_iff, decide_eq_true_iff] at h
  omega
/-- The numbers at places. -/
def plZ (z a : List Int) : List Int := a.map fun p => z.getD p.toNat 0
theorem plZ_len (z a : List Int) : (plZ z a).length = a.length := by simp [plZ]
theorem plZ_plZ {z a b : List Int} (h : b.all (inS a.length) = true) : plZ (plZ z a) b = plZ z (plZ a b) := by
  unfold plZ
  rw [List.map_map]
  refine List.map_congr_left fun y hy => ?_
  have h2 := inS_nat (List.all_eq_true.1 h y hy)
  show (a.map fun p => z.getD p.toNat 0).getD y.toNat 0 = z.getD (a.getD y.toNat 0).toNat 0
  rw [List.getD_eq_getElem?_getD, List.getElem?_map, List.getElem?_eq_getElem h2.2, List.getD_eq_getElem?_getD (l := a), List.getElem?_eq_getElem h2.2]
  rfl
/-- At of vectors. -/
theorem at_vec {k : Int} {z a : List Int} {m : Int} (hm : m = z.length) (hV : ck ⟨k, 1, m, 0, z⟩ = 0) (hI : ck ⟨1, 1, a.length, 0, a⟩ = 0) (h : a.all (inS z.length) = true) :
    lkE ⟨k, 1, m, 0, z⟩ ⟨1, 1, a.length, 0, a⟩ = 0 ∧ lkV ⟨k, 1, m, 0, z⟩ ⟨1, 1, a.length, 0, a⟩ = ⟨k, 1, (plZ z a).length, 0, plZ z a⟩ ∧ ck ⟨k, 1, (plZ z a).length, 0, plZ z a⟩ = 0 := by
  subst hm
  have e : lkE ⟨k, 1, (z.length : Int), 0, z⟩ ⟨1, 1, a.length, 0, a⟩ = 0 := by
    unfold lkE
    rw [if_pos (lkT_vec hV hI rfl rfl (.inr rfl))]
    exact if_pos h
  have hc := lk_ck e
  have hv : lkV ⟨k, 1, (z.length : Int), 0, z⟩ ⟨1, 1, a.length, 0, a⟩ = ⟨k, 1, (plZ z a).length, 0, plZ z a⟩ := by
    unfold lkV
    rw [orNo_yes e, plZ_len]
    rfl
  exact ⟨e, hv, by rw [plZ_len]; exact hc⟩
theorem ints_ck {a : List Int} (h : a.length ≤ 400) : ck ⟨1, 1, a.length, 0, a⟩ = 0 := ck_vec (z := a) (.inl rfl) h (fun e => by cases e)
theorem vec_form {A : Ar} (h : ck A = 0) (h1 : A.r = 1) : A = ⟨A.k, 1, A.z.length, 0, A.z⟩ := by
  have h2 := vec_ab h h1
  have hs := (ck_good h).sh
  obtain ⟨k, r, a, b, z⟩ := A
  simp only at h1 h2 hs ⊢
  subst h1 h2
  cases hs with
  | s1 _ _ _ => rfl
theorem mb_self {A : Ar} {t : Nat} (ht : t < (mbZ A A).length) : (mbZ A A)[t] = 1 := by
  unfold mbZ at ht ⊢
  rw [List.length_map] at ht
  rw [List.getElem_map, if_pos (List.getElem_mem _)]
end Go.Proofs.YtpbfbejckhbijaaDoor
