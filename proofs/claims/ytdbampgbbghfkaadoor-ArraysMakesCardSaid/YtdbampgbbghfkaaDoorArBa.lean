/- Plain facts for the law ArraysBack: texts and strings, rows and matrices, places and indices. -/
import Derived.Test.YtdbampgbbghfkaaDoorArK
import Derived.Test.YtdbampgbbghfkaaDoorArN
import Derived.Test.YtdbampgbbghfkaaDoorArO
import Derived.Test.YtdbampgbbghfkaaDoorArS1
import Derived.Test.YtdbampgbbghfkaaDoorArS4
namespace Go.Proofs.YtdbampgbbghfkaaDoor
open Go.RowKit

theorem rnF_isR7 (f : Nat) : ∀ (k : Nat) (l : List UInt8), ∀ p ∈ Ru.rnF f k l, Ru.isR (p.1 : Int) = true := by
  induction f with
  | zero => intro k l p h; simp [Ru.rnF] at h
  | succ f ih =>
    intro k l p h
    unfold Ru.rnF at h
    by_cases hd : (Ru.dec l).2.2 = 0
    · rw [if_pos hd] at h
      rcases List.mem_cons.1 h with rfl | h
      · exact (Ru.enc_dec l (Ru.dec l).1 (Ru.dec l).2.1 (by rw [← hd])).1
      · exact ih _ _ p h
    · rw [if_neg hd] at h; simp at h
theorem rnL_all (s : List UInt8) : (rnL (Ru.rns s)).all Ru.isR = true := by
  rw [List.all_eq_true]
  intro c hc
  unfold rnL at hc
  obtain ⟨p, hp, rfl⟩ := List.mem_map.1 hc
  exact rnF_isR7 _ _ _ p hp
theorem bytL_rnL (s : List UInt8) (hl : s.length ≤ 8000) (h : Ru.endA s = s.length) : Ru.bytL (rnL (Ru.rns s)) = s := by
  have := Ru.rns_back s ((Ru.chkE_ok s).2 ⟨hl, h⟩)
  unfold Ru.bytL rnL
  rw [List.flatMap_map]
  rw [List.flatMap_map] at this
  simpa using this
/-- The array of a text's runes is one, and its string the text. -/
theorem text_back (s : List UInt8) (hl : s.length ≤ 8000) (h : txE s = 0) : Good (txV s) ∧ sgE (txV s) = 0 ∧ sgV (txV s) = s ∧ (txV s).z.length ≤ 400 := by
  unfold txE at h
  split at h
  · rename_i he
    have h4 : ¬ 400 < (rnL (Ru.rns s)).length := by
      intro k; unfold vcE at h; rw [if_pos k] at h; cases h
    have hV : txV s = ⟨2, 1, (rnL (Ru.rns s)).length, 0, rnL (Ru.rns s)⟩ := by unfold txV vcV; rw [if_pos he, if_neg h4]
    have hG : Good (txV s) := by
      rw [hV]
      exact ⟨.inr rfl, (show Sh 1 ((rnL (Ru.rns s)).length : Int) 0 from .s1 _ (by omega) (by omega)), (show ((rnL (Ru.rns s)).length : Int) = cn 1 ((rnL (Ru.rns s)).length : Int) 0 by unfold cn; rw [if_neg (by decide), if_pos rfl]), fun _ => rnL_all s⟩
    have hE : sgE (txV s) = 0 := by unfold sgE; rw [if_pos (good_ck hG), hV]; rfl
    refine ⟨hG, hE, ?_, by rw [hV]; show (rnL (Ru.rns s)).length ≤ 400; omega⟩
    unfold sgV
    rw [if_pos hE, hV]
    exact bytL_rnL s hl he
  · cases h
theorem rns_bytL (z : List Int) (h : z.all Ru.isR = true) : rnL (Ru.rns (Ru.bytL z)) = z ∧ Ru.endA (Ru.bytL z) = (Ru.bytL z).length := by
  have hz : ∀ c ∈ z, 0 ≤ c := fun c hc => by
    have := (List.all_eq_true.1 h) c hc
    unfold Ru.isR at this
    simp at this
    omega
  have e : Ru.bytL z = (z.map Int.toNat).flatMap Ru.enc := by unfold Ru.bytL; rw [List.flatMap_map]
  obtain ⟨h1, h2⟩ := Ru.rn_fore (z.map Int.toNat) (fun r hr => by
    obtain ⟨c, hc, rfl⟩ := List.mem_map.1 hr
    rw [show ((c.toNat : Nat) : Int) = c from Int.toNat_of_nonneg (hz c hc)]
    exact (List.all_eq_true.1 h) c hc) ((z.map Int.toNat).flatMap Ru.enc).length 0 (Nat.le_refl _)
  refine ⟨?_, ?_⟩
  · unfold rnL Ru.rns
    rw [e, show (Ru.rnF ((z.map Int.toNat).flatMap Ru.enc).length 0 ((z.map Int.toNat).flatMap Ru.enc)).map (fun x => (x.1 : Int)) = ((Ru.rnF ((z.map Int.toNat).flatMap Ru.enc).length 0 ((z.map Int.toNat).flatMap Ru.enc)).map (·.1)).map (fun n : Nat => (n : Int)) by rw [List.map_map]; rfl, h1, List.map_map]
    conv => { rhs; rw [← List.map_id z] }
    refine List.map_congr_left fun c hc => ?_
    exact Int.toNat_of_nonneg (hz c hc)
  · unfold Ru.endA
    rw [e, h2, Nat.zero_add]
/-- The text of a string of an array is the array. -/
theorem string_back {A : Ar} (hs : sgE A = 0) : txE (sgV A) = 0 ∧ txV (sgV A) = A := by
  obtain ⟨hg, hk, hr⟩ := sg_ok hs
  obtain ⟨e1, e2⟩ := rns_bytL A.z (hg.runes hk)
  have h4 : ¬ 400 < A.z.length := by have := hg.len4; omega
  have hv : sgV A = Ru.bytL A.z := by unfold sgV; rw [if_pos hs]
  have hl := hg.len
  have hsh := hg.sh
  refine ⟨?_, ?_⟩
  · unfold txE; rw [hv, if_pos e2, e1]; unfold vcE; rw [if_neg h4]
  · unfold txV; rw [hv, if_pos e2, e1]; unfold vcV; rw [if_neg h4]
    obtain ⟨k, r, a, b, z⟩ := A
    simp only at hk hr hl hsh ⊢
    subst hk hr
    cases hsh
    unfold cn at hl
    rw [if_neg (by decide), if_pos rfl] at hl
    rw [hl]
theorem flt_rwI (A : Ar) : ∀ j, ((List.range j).map (rwI A)).flatten = A.z.take (j * rwM A)
  | 0 => by simp
  | j + 1 => by
    rw [List.range_succ, List.map_append, List.flatten_append, flt_rwI A j, Nat.succ_mul, List.take_add]
    simp [rwI]
/-- The matrix of an array's rows is the array. -/
theorem rows_back {A : Ar} (hg : Good A) (hk : A.k = 1) (hr : A.r = 2) (hab : 0 < A.a ∨ A.b = 0) : mtE (rwL A) = 0 ∧ mtV (rwL A) = A ∧ (∀ r ∈ rwL A, r.length ≤ 1000000) := by
  have hc := good_ck hg
  obtain ⟨g0, g1, g2, g3, g4⟩ := rw_good hg
  have hn := rwL_len hc
  have hb := hg.sh.bd
  have hks := sh_ok hg.sh
  have ha : (rwN A : Int) = A.a := by rw [← g0]; unfold rw0; rw [if_pos hks, if_pos hr]
  have hm : (rwM A : Int) = A.b := by rw [← g1]; unfold rw1; rw [if_pos hks, if_pos hr]
  have hL : ∀ r ∈ rwL A, r.length = rwM A := by
    intro r hr'
    unfold rwL at hr'
    rw [if_pos hc] at hr'
    obtain ⟨i, hi, rfl⟩ := List.mem_map.1 hr'
    exact rwI_len hg (List.mem_range.1 hi)
  have hw : wid (rwL A) = rwM A := by
    unfold wid
    cases hq : rwL A with
    | nil =>
      rw [hq] at hn
      simp at hn
      simp
      omega
    | cons r l =>
      have := hL r (by rw [hq]; simp)
      simpa using this
  have he : evn (rwL A) = true := by
    unfold evn
    rw [List.all_eq_true]
    intro r hr'
    rw [hw, hL r hr']
    simp
  have hf : flt (rwL A) = A.z := by
    unfold flt rwL
    rw [if_pos hc, flt_rwI, g2, List.take_length]
  have h4 := hg.len4
  have hE : mtE (rwL A) = 0 := by
    unfold mtE
    rw [if_neg (by omega), if_neg (by rw [he]; decide), hw, hn, if_neg (by omega)]
  refine ⟨hE, ?_, fun r hr' => by rw [hL r hr']; omega⟩
  unfold mtV
  rw [if_pos hE, hn, hw, hf, ha, hm]
  obtain ⟨k, r, a, b, z⟩ := A
  simp only at hk hr
  subst hk hr
  rfl
theorem mxb_pos7 {r a b i : Int} (hs : Sh r a b) (h0 : 0 ≤ i) (h1 : i < cn r a b) : 0 < mxb r b := by
  have hm := mx_cn r a b hs.bd.1
  obtain ⟨_, _, m2, m3, _⟩ := hs.mx
  by_cases e : mxb r b = 0
  · rw [e] at hm; simp at hm; omega
  · omega
/-- The place of the index of a place is the place. -/
theorem place_back {A : Ar} (hg : Good A) {i : Nat} (hi : i < A.z.length) : ∃ p q : Int, ix0 A.r A.a A.b i = p ∧ ix1 A.r A.a A.b i = q ∧ atE A p q = 0 ∧ atP A p q = i := by
  have h0 : (0 : Int) ≤ i := by omega
  have h1 : (i : Int) < cn A.r A.a A.b := by have := hg.len; omega
  have hs := hg.sh
  have hy := mxb_pos7 hs h0 h1
  have e : (i : Int) / mxb A.r A.b * mxb A.r A.b + (i : Int) % mxb A.r A.b = i := by rw [Int.mul_comm]; exact Int.mul_ediv_add_emod _ _
  have m0 : 0 ≤ (i : Int) % mxb A.r A.b := Int.emod_nonneg _ (by omega)
  have m1 : (i : Int) % mxb A.r A.b < mxb A.r A.b := Int.emod_lt_of_pos _ hy
  have q0 : 0 ≤ (i : Int) / mxb A.r A.b := Int.ediv_nonneg h0 (by omega)
  have hq : (i : Int) / mxb A.r A.b < mxa A.r A.a := Int.ediv_lt_of_lt_mul hy (by rw [mx_cn A.r A.a A.b hs.bd.1]; exact h1)
  have hE : ixE A.r A.a A.b i = 0 := by unfold ixE; rw [if_pos (sh_ok hs), if_pos ⟨h0, h1⟩]
  have hP : plE A.r A.a A.b ((i : Int) / mxb A.r A.b) ((i : Int) % mxb A.r A.b) = 0 := by unfold plE; rw [if_pos (sh_ok hs), if_pos ⟨q0, hq, m0, m1⟩]
  have hc := good_ck hg
  refine ⟨(i : Int) / mxb A.r A.b, (i : Int) % mxb A.r A.b, ?_, ?_, ?_, ?_⟩
  · unfold ix0; rw [hE]; rfl
  · unfold ix1; rw [hE]; rfl
  · unfold atE; rw [if_pos hc, hP]
  · unfold atP plV; rw [if_pos hc, hP]; exact e
/-- A cell that was put is read back, and all others stay. -/
theorem with_back {A : Ar} {p q v : Int} {i : Nat} (h : atE A p q = 0) (hi : atP A p q = i) (hw : wtE A p q v = 0) :
    wtV A p q v = ⟨A.k, A.r, A.a, A.b, A.z.set i v⟩ ∧ ck ⟨A.k, A.r, A.a, A.b, A.z.set i v⟩ = 0 ∧ atE ⟨A.k, A.r, A.a, A.b, A.z.set i v⟩ p q = 0 ∧ atV ⟨A.k, A.r, A.a, A.b, A.z.set i v⟩ p q = v := by
  obtain ⟨hg, b0, b1⟩ := atE_ok h
  have e : wtA A p q v = ⟨A.k, A.r, A.a, A.b, A.z.set i v⟩ := by unfold wtA; rw [hi]; simp
  have hc := (wt_ck (v := v) h).1
  rw [hw, e] at hc
  have hck := good_ck hg
  have hpl : plE A.r A.a A.b p q = 0 := by unfold atE at h; rwa [if_pos hck] at h
  have hpv : plV A.r A.a A.b p q = i := by unfold atP at hi; rwa [if_pos hck] at hi
  have h2 : atE ⟨A.k, A.r, A.a, A.b, A.z.set i v⟩ p q = 0 := by unfold atE; rw [if_pos hc]; exact hpl
  refine ⟨by unfold wtV; rw [if_pos hw, e], hc, h2, ?_⟩
  unfold atV
  rw [if_pos h2]
  have hp2 : atP ⟨A.k, A.r, A.a, A.b, A.z.set i v⟩ p q = i := by unfold atP; rw [if_pos hc]; exact hpv
  rw [hp2]
  have : i < A.z.length := by omega
  simp [List.getD_eq_getElem?_getD, this]
theorem with_no {A : Ar} {p q v : Int} (h : atE A p q = 0) (hw : wtE A p q v ≠ 0) : A.k = 2 ∧ wtE A p q v = 7 := by
  unfold wtE at *
  rw [if_pos h] at *
  by_cases k : A.k = 2 ∧ Ru.isR v = false
  · rw [if_pos k]; exact ⟨k.1, rfl⟩
  · rw [if_neg k] at hw; exact absurd rfl hw
end Go.Proofs.YtdbampgbbghfkaaDoor
