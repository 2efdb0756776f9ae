/- Rows of uint16 that came in; plain facts for the law Looks. -/
import Derived.Test.YthfpmpmhoegicaaDoorFiV
import Derived.Test.YthfpmpmhoegicaaDoorMvLaid
namespace Go.Proofs.YthfpmpmhoegicaaDoor
open Go.RowKit Go.ChangeShapes Go.WideShapes Go.ChangeAt

/-- A row of uint16. -/
def RdU (B : Nat) (w : World) (v : Value) (zs : List Int) : Prop :=
  ∃ a cap, v = .slice a zs.length cap ∧ zs.length ≤ cap ∧ (zs ≠ [] → ∃ b off, a = some ⟨b, off, none⟩ ∧ b < B ∧ ∀ j (h : j < zs.length), w.cell? ⟨b, off + j, none⟩ = some (.int .u16 zs[j]))
theorem RdU.at {w w' : World} {a : Option Addr} {cap : Nat} {zs : List Int} (h : RdU w.heap.size w (.slice a zs.length cap) zs) (hb : Below w.heap.size w w') {j : Nat} (hj : j < zs.length) :
    ∃ b off, a = some ⟨b, off, none⟩ ∧ w'.cell? ⟨b, off + j, none⟩ = some (.int .u16 zs[j]) := by
  obtain ⟨a', cap', hv, hc, h⟩ := h
  cases hv
  obtain ⟨b, off, ha, hlt, hcell⟩ := h (by intro e; rw [e] at hj; simp at hj)
  exact ⟨b, off, ha, (hb.cell (p := ⟨b, off + j, none⟩) hlt).trans (hcell j hj)⟩
theorem wfu {x : Int} (h : (Lit.int .u16 x).wf = true) : 0 ≤ x ∧ x ≤ 65535 := by
  simp only [Lit.wf, IntKind.min, IntKind.max, IntKind.signed, IntKind.bits, Bool.and_eq_true] at h
  obtain ⟨h1, h2⟩ := h
  exact ⟨by simpa using h1, by simpa using h2⟩
section
variable {H : Type} {enc : TypeId × Value → H}
set_option maxRecDepth 100000
theorem c2u : Tryd.prog.cellsOf 40 = 1 := by kernel_rfl
theorem read_us {W : World} {n : Nat} {v : Value} {y : DataW H × List MemPlace} (hf : DataW.trod enc Tryd.prog W 0 (fun _ => true) true n 39 [v] = some y) :
    ∃ l : List Int, RdU W.heap.size W v l ∧ ∀ x ∈ l, 0 ≤ x ∧ x ≤ 65535 := by
  rcases open_ints Tryd.underlying39 Tryd.underlying40 c2u hf with ⟨hcs, hx⟩ | ⟨a, len, cap, zs, hcs, hba, hl, hm, hz, hx, hcell, hwz⟩
  · simp at hcs
    subst hcs
    exact ⟨[], ⟨Option.none, 0, rfl, Nat.le_refl _, fun h => absurd rfl h⟩, fun _ h => by simp at h⟩
  · simp at hcs
    subst hcs
    simp only [if_true] at hz
    have hlen : (zs.take len).length = len := by simp; omega
    obtain ⟨ab, ao, spot⟩ := a
    have hspot : 0 < zs.length → spot = Option.none := fun h => by simpa [Addr.add] using World.cell?_spot (hcell 0 h)
    have hblk : 0 < zs.length → ab < W.heap.size := fun h => by
      have hc := hcell 0 h
      rw [hspot h, Addr.add_lit] at hc
      exact block_lt_of_cell hc
    refine ⟨zs.take len, ⟨some ⟨ab, ao, spot⟩, cap, by rw [hlen], by rw [hlen]; exact hl, fun hne => ?_⟩, fun m hm2 => wfu (hwz m (List.mem_of_mem_take hm2))⟩
    have hpos : 0 < len := by
      rcases Nat.eq_zero_or_pos len with h | h
      · subst h; simp at hne
      · exact h
    have hs := hspot (by omega)
    subst hs
    refine ⟨ab, ao, rfl, hblk (by omega), fun j hj => ?_⟩
    rw [hlen] at hj
    have hcj := hcell j (by omega)
    rw [Addr.add_lit] at hcj
    rw [hcj]
    have e : zs[j]?.getD 0 = zs[j]'(by omega) := by simp [List.getElem?_eq_getElem (show j < zs.length by omega)]
    rw [List.getD_eq_getElem?_getD, e, List.getElem_take]
theorem open_us {W : World} {base : Nat} {v : Value} {d : DataW H} {p : List MemPlace} (hval : Value.okWide Tryd.prog W .any base 39 v) (h1 : DataW.Trod enc Tryd.prog W 0 (fun _ => true) true 39 v d p) :
    ∃ zs, RdU W.heap.size W v zs ∧ (∀ x ∈ zs, 0 ≤ x ∧ x ≤ 65535) ∧ ∀ W', Below W.heap.size W W' → DataW.Trod enc Tryd.prog W' 0 (fun b => decide (b < W.heap.size)) true 39 v d p := by
  have hs := shut_any (by kernel_rfl) (of_decide_eq_true (by kernel_rfl)) h1
  obtain ⟨a1, len, cap, rfl⟩ := okWide_slice Tryd.underlying39 hval
  obtain ⟨fuel, hf⟩ := h1
  obtain ⟨zs, hz, hn⟩ := read_us (by simpa [Value.cells] using hf)
  exact ⟨zs, hz, hn, hs⟩
end
/-- Numbers brought below another. -/
def rmZ (n : Nat) (z : List Int) : List Int := z.map fun x => x % (n : Int)
theorem rmZ_len (n : Nat) (z : List Int) : (rmZ n z).length = z.length := by simp [rmZ]
theorem rmZ_snoc {n : Nat} {z : List Int} {j : Nat} (hj : j < z.length) : (rmZ n z).take j ++ [z[j] % (n : Int)] = (rmZ n z).take (j + 1) := by
  rw [← takeI_snoc (by rw [rmZ_len]; exact hj)]
  congr 2
  unfold rmZ
  rw [List.getD_eq_getElem?_getD, List.getElem?_map, List.getElem?_eq_getElem hj]
  rfl
theorem rmZ_in {n : Nat} (hn : n ≠ 0) (z : List Int) {x : Int} (h : x ∈ rmZ n z) : inS n x = true := by
  unfold rmZ at h
  obtain ⟨y, _, rfl⟩ := List.mem_map.1 h
  unfold inS
  rw [Bool.and_eq_true, decide_eq_true_iff, decide_eq_true_iff]
  exact ⟨Int.emod_nonneg _ (by omega), Int.emod_lt_of_pos _ (by omega)⟩
theorem inS_nat {n : Nat} {x : Int} (h : inS n x = true) : 0 ≤ x ∧ x.toNat < n := by
  unfold inS at h
  rw [Bool.and_eq_true, decide_eq_true_iff, decide_eq_true_iff] at h
  omega
/-- The numbers at places. -/
def plZ (z a : List Int) : List Int := a.map fun p => z.getD p.toNat 0
theorem plZ_len (z a : List Int) : (plZ z a).length = a.length := by simp [plZ]
theorem plZ_plZ {z a b : List Int} (h : b.all (inS a.length) = true) : plZ (plZ z a) b = plZ z (plZ a b) := by
  unfold plZ
  rw [List.map_map]
  refine List.map_congr_left fun y hy => ?_
  have h2 := inS_nat (List.all_eq_true.1 h y hy)
  show (a.map fun p => z.getD p.toNat 0).getD y.toNat 0 = z.getD (a.getD y.toNat 0).toNat 0
  rw [List.getD_eq_getElem?_getD, List.getElem?_map, List.getElem?_eq_getElem h2.2, List.getD_eq_getElem?_getD (l := a), List.getElem?_eq_getElem h2.2]
  rfl
/-- At of vectors. -/
theorem at_vec {k : Int} {z a : List Int} {m : Int} (hm : m = z.length) (hV : ck ⟨k, 1, m, 0, z⟩ = 0) (hI : ck ⟨1, 1, a.length, 0, a⟩ = 0) (h : a.all (inS z.length) = true) :
    lkE ⟨k, 1, m, 0, z⟩ ⟨1, 1, a.length, 0, a⟩ = 0 ∧ lkV ⟨k, 1, m, 0, z⟩ ⟨1, 1, a.length, 0, a⟩ = ⟨k, 1, (plZ z a).length, 0, plZ z a⟩ ∧ ck ⟨k, 1, (plZ z a).length, 0, plZ z a⟩ = 0 := by
  subst hm
  have e : lkE ⟨k, 1, (z.length : Int), 0, z⟩ ⟨1, 1, a.length, 0, a⟩ = 0 := by
    unfold lkE
    rw [if_pos (lkT_vec hV hI rfl rfl (.inr rfl))]
    exact if_pos h
  have hc := lk_ck e
  have hv : lkV ⟨k, 1, (z.length : Int), 0, z⟩ ⟨1, 1, a.length, 0, a⟩ = ⟨k, 1, (plZ z a).length, 0, plZ z a⟩ := by
    unfold lkV
    rw [orNo_yes e, plZ_len]
    rfl
  exact ⟨e, hv, by rw [plZ_len]; exact hc⟩
theorem ints_ck {a : List Int} (h : a.length ≤ 400) : ck ⟨1, 1, a.length, 0, a⟩ = 0 := ck_vec (z := a) (.inl rfl) h (fun e => by cases e)
theorem vec_form {A : Ar} (h : ck A = 0) (h1 : A.r = 1) : A = ⟨A.k, 1, A.z.length, 0, A.z⟩ := by
  have h2 := vec_ab h h1
  have hs := (ck_good h).sh
  obtain ⟨k, r, a, b, z⟩ := A
  simp only at h1 h2 hs ⊢
  subst h1 h2
  cases hs with
  | s1 _ _ _ => rfl
theorem mb_self {A : Ar} {t : Nat} (ht : t < (mbZ A A).length) : (mbZ A A)[t] = 1 := by
  unfold mbZ at ht ⊢
  rw [List.length_map] at ht
  rw [List.getElem_map, if_pos (List.getElem_mem _)]
end Go.Proofs.YthfpmpmhoegicaaDoor
