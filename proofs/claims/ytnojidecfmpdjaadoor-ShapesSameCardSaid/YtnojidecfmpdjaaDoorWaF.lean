/- Digits of words and of the reference. -/
import Derived.Test.YtnojidecfmpdjaaDoorWaD
import Derived.Deep.RegionHeld3
import Derived.Deep.RegionWith
import Derived.Lib.AppendIntMem
import Derived.Laws.BytesArg
namespace Go.Proofs.YtnojidecfmpdjaaDoor
open Go.RowKit

set_option maxHeartbeats 1000000 in
theorem digits_any (n : Int) (w : World) (hw : Lay w) (h0 : -9223372036854775808 ≤ n) (h1 : n ≤ 9223372036854775807) :
    Calls Tryd.prog 32 #[.int .i64 n] w fun e w' => e = .returned (.string ⟨(Lib.itoa n).toArray⟩) ∧ Below w.heap.size w w' := by
  have ht := Lib.hid hw.tab
  go_enter Tryd.func32, Tryd.ntmps32
  go_wp2_with (go_at_call 38; refine (Tryd.strconv_FormatInt_10 _ h0 h1 _ ht.out).mono ?_; rintro e w' ⟨rfl, k, os, rfl⟩)
  go_ret
  exact ⟨rfl, Lib.below_grow _ _ (Nat.le_refl _) _ _⟩

theorem conv_cell (W : World) (b : Nat) (x : Int) (hc : W.cell? ⟨b, 0, none⟩ = some (.int .u8 x)) :
    (convert 55 9 (.slice (some ⟨b, 0, none⟩) 1 1)).run Tryd.prog W = .ok (.string ⟨#[UInt8.ofNat x.toNat]⟩) W := by
  rw [run_convert_bytes_arg W 55 5 Tryd.underlying55 Tryd.underlying5 b 0 1 1 [x] rfl (by intro i hi; (obtain rfl : i = 0 := by omega); exact hc) 9 Tryd.underlying9]
  rfl
theorem bcell {W w1 : World} (hb : Below W.heap.size W w1) : (∀ b o, b < W.heap.size → w1.cell? ⟨b, o, none⟩ = W.cell? ⟨b, o, none⟩) ∧ (∀ b o, b < W.heap.size → w1.frozen? ⟨b, o, none⟩ = W.frozen? ⟨b, o, none⟩) :=
  ⟨fun b o h => hb.cell (p := ⟨b, o, none⟩) h, fun b o h => hb.frozen (p := ⟨b, o, none⟩) h⟩
theorem cell_new (W : World) (x : Value) (t : TypeId) : (W.alloc (.cells #[x] t)).cell? ⟨W.heap.size, 0, none⟩ = some x := by
  simp [World.cell?_alloc_new]

theorem itoa_one (n : Int) (h0 : 0 ≤ n) (h1 : n ≤ 9) : #[UInt8.ofNat (48 + n).toNat] = (Lib.itoa n).toArray := by
  unfold Lib.itoa; rw [if_neg (by omega), Lib.decDigits, dif_pos (by omega)]
  rw [show (48 + n).toNat = 48 + n.toNat from by omega]
set_option maxRecDepth 100000 in
set_option maxHeartbeats 1000000 in
theorem rdigits_one (n : Int) (w : World) (h0 : 0 ≤ n) (h1 : n ≤ 9) :
    Calls Tryd.prog 33 #[.int .i64 n] w fun e w' => e = .returned (.string ⟨(Lib.itoa n).toArray⟩) ∧ Below w.heap.size w w' := by
  have HE := Lib.hid (itoa_one n h0 h1)
  have hcv := conv_cell (w.alloc (.cells #[.int .u8 (48 + n)] 5)) w.heap.size (48 + n) (cell_new _ _ _)
  go_enter Tryd.func33, Tryd.ntmps33
  go_wp2_with fail
  go_ret
  exact ⟨by rw [HE.out]; rfl, (Below.refl _ _).alloc (Nat.le_refl _) _⟩
theorem cat_mk (a b : List UInt8) : (⟨a.toArray⟩ : ByteArray) ++ ⟨b.toArray⟩ = ⟨(a ++ b).toArray⟩ := by
  apply ByteArray.ext; simp
theorem itoa_neg (n : Int) (h : n < 0) : Lib.itoa n = 45 :: Lib.itoa (-n) := by
  unfold Lib.itoa; rw [if_pos h, if_neg (by omega)]; rw [show n.natAbs = (-n).toNat from by omega]
theorem itoa_pos (n : Int) (h : 9 < n) : Lib.itoa n = Lib.itoa (n / 10) ++ [UInt8.ofNat (48 + n % 10).toNat] := by
  unfold Lib.itoa; rw [if_neg (by omega), if_neg (by omega)]
  rw [Lib.decDigits, dif_neg (by omega)]
  rw [show n.toNat / 10 = (n / 10).toNat from by omega, show 48 + n.toNat % 10 = (48 + n % 10).toNat from by omega]
theorem itoa_negs (n : Int) (h : n < -9) : Lib.itoa n = Lib.itoa (n.tdiv 10) ++ [UInt8.ofNat (48 + -(n.tmod 10)).toNat] := by
  have hd : n.tdiv 10 = -((-n) / 10) := by
    rw [show n = -(-n) from by omega, Int.neg_tdiv, Int.tdiv_eq_ediv_of_nonneg (by omega)]; omega
  have hm : n.tmod 10 = -((-n) % 10) := by
    rw [show n = -(-n) from by omega, Int.neg_tmod, Int.tmod_eq_emod_of_nonneg (by omega)]; omega
  rw [hd, hm, itoa_neg n (by omega), itoa_neg (-(-n / 10)) (by omega), itoa_pos (-n) (by omega)]
  rw [show -(-(-n / 10)) = -n / 10 from by omega, show - -(-n % 10) = -n % 10 from by omega]; rfl
theorem dec_len (k : Nat) : ∀ u : Nat, u < 10 ^ (k + 1) → (Lib.decDigits u).length ≤ k + 1 := by
  induction k with
  | zero => intro u h; rw [Lib.decDigits, dif_pos (by omega)]; simp
  | succ k ih =>
    intro u h
    rw [Lib.decDigits]
    by_cases h1 : u < 10
    · rw [dif_pos h1]; simp
    · rw [dif_neg h1]
      have := ih (u / 10) (by rw [Nat.pow_succ] at h; omega)
      simp; omega
theorem itoa_len (n : Int) (h0 : -9223372036854775808 ≤ n) (h1 : n ≤ 9223372036854775807) : (Lib.itoa n).length ≤ 20 := by
  have h19 : (10 : Nat) ^ (18 + 1) = 10000000000000000000 := by decide
  unfold Lib.itoa
  by_cases hn : n < 0
  · rw [if_pos hn]
    have := dec_len 18 n.natAbs (by rw [h19]; omega)
    simp; omega
  · rw [if_neg hn]
    have := dec_len 18 n.toNat (by rw [h19]; omega)
    omega

set_option maxRecDepth 100000 in
set_option maxHeartbeats 1000000 in
theorem rdigits_neg (n : Int) (w : World) (h0 : -9 ≤ n) (h1 : n < 0) :
    Calls Tryd.prog 33 #[.int .i64 n] w fun e w' => e = .returned (.string ⟨(Lib.itoa n).toArray⟩) ∧ Below w.heap.size w w' := by
  have HE := Lib.hid (itoa_neg n h1)
  have hl := itoa_len (-n) (by omega) (by omega)
  go_enter Tryd.func33, Tryd.ntmps33
  go_wp2_with (go_at_call 33; refine (rdigits_one (-n) _ (by omega) (by omega)).mono ?_; rintro e w' ⟨rfl, hb⟩)
  go_ret
  exact ⟨by rw [HE.out]; exact congrArg (fun x => Ending.returned (.string x)) (cat_mk [45] _), hb⟩
set_option maxRecDepth 100000 in
set_option maxHeartbeats 1000000 in
theorem rdigits_many (n q r : Int) (w : World) (h0 : 9 < n) (h1 : n ≤ 9223372036854775807) (hq : n / 10 = q) (hr : n % 10 = r)
   (ih : ∀ w, Calls Tryd.prog 33 #[.int .i64 q] w fun e w' => e = .returned (.string ⟨(Lib.itoa q).toArray⟩) ∧ Below w.heap.size w w') :
    Calls Tryd.prog 33 #[.int .i64 n] w fun e w' => e = .returned (.string ⟨(Lib.itoa n).toArray⟩) ∧ Below w.heap.size w w' := by
  have IH := Lib.hid ih; clear ih
  have he := itoa_pos n h0
  rw [hq, hr] at he
  have HE : Hid (Lib.itoa n = Lib.itoa q ++ [UInt8.ofNat (48 + r).toNat]) := he
  clear he
  have hb3 : 0 ≤ r ∧ r ≤ 9 ∧ -9223372036854775808 ≤ q ∧ q ≤ 9223372036854775807 := by omega
  obtain ⟨h3, h4, hq1, hq2⟩ := hb3
  have hl := itoa_len q hq1 hq2
  have hcv := fun W b => conv_cell W b (48 + r)
  have hq64 : IntKind.i64.wrap q = q := by rw [IntKind.wrap_i64]; omega
  have hk8 : IntKind.u8.wrap (48 + r) = 48 + r := by rw [IntKind.wrap_u8]; omega
  have hk64 : IntKind.i64.wrap (48 + r) = 48 + r := by rw [IntKind.wrap_i64]; omega
  have hqt : n.tdiv 10 = q := by rw [Int.tdiv_eq_ediv_of_nonneg (by omega)]; exact hq
  go_enter Tryd.func33, Tryd.ntmps33
  go_wp2_with fail
  go_region_with (go_at_call 33; refine (IH.out _).mono ?_; rintro e w' ⟨rfl, hb⟩; have hcc := fun h => (bcell hb).1 w.heap.size 0 h)
  all_goals first
    | omega
    | (go_wp2
       go_ret
       refine ⟨by rw [HE.out]; exact congrArg (fun x => Ending.returned (.string x)) (cat_mk (Lib.itoa q) [_]), ?_⟩
       first
         | exact (show Below w.heap.size w _ from ⟨hb.os, hb.tape, hb.output, hb.size, hb.block⟩).alloc hb.size _
         | exact ((Below.refl w.heap.size w).alloc (Nat.le_refl _) _).trans (show Below w.heap.size (w.alloc _) _ from ⟨hb.os, hb.tape, hb.output, hb.size, fun k hk => hb.block k (by simp; omega)⟩))
set_option maxRecDepth 100000 in
set_option maxHeartbeats 1000000 in
theorem rdigits_less (n q t : Int) (w : World) (h0 : n < -9) (h1 : -9223372036854775808 ≤ n) (hq : n.tdiv 10 = q) (ht : n.tmod 10 = t) (h4 : t < 0)
   (ih : ∀ w, Calls Tryd.prog 33 #[.int .i64 q] w fun e w' => e = .returned (.string ⟨(Lib.itoa q).toArray⟩) ∧ Below w.heap.size w w') :
    Calls Tryd.prog 33 #[.int .i64 n] w fun e w' => e = .returned (.string ⟨(Lib.itoa n).toArray⟩) ∧ Below w.heap.size w w' := by
  have IH := Lib.hid ih; clear ih
  have he := itoa_negs n h0
  rw [hq, ht] at he
  have HE : Hid (Lib.itoa n = Lib.itoa q ++ [UInt8.ofNat (48 + -t).toNat]) := he
  clear he
  have hd : n.tdiv 10 = -((-n) / 10) := by
    rw [show n = -(-n) from by omega, Int.neg_tdiv, Int.tdiv_eq_ediv_of_nonneg (by omega)]; omega
  have hm : n.tmod 10 = -((-n) % 10) := by
    rw [show n = -(-n) from by omega, Int.neg_tmod, Int.tmod_eq_emod_of_nonneg (by omega)]; omega
  have hb3 : -9 ≤ t ∧ -9223372036854775808 ≤ q ∧ q ≤ 9223372036854775807 := by omega
  obtain ⟨h3, hq1, hq2⟩ := hb3
  clear hd hm
  have hl := itoa_len q hq1 hq2
  have hcv := fun W b => conv_cell W b (48 + -t)
  have hq64 : IntKind.i64.wrap q = q := by rw [IntKind.wrap_i64]; omega
  have hk8 : IntKind.u8.wrap (48 + -t) = 48 + -t := by rw [IntKind.wrap_u8]; omega
  have hk64 : IntKind.i64.wrap (48 + -t) = 48 + -t := by rw [IntKind.wrap_i64]; omega
  go_enter Tryd.func33, Tryd.ntmps33
  go_wp2_with fail
  go_region_with (go_at_call 33; refine (IH.out _).mono ?_; rintro e w' ⟨rfl, hb⟩; have hcc := fun h => (bcell hb).1 w.heap.size 0 h)
  all_goals first
    | omega
    | (go_wp2
       go_ret
       refine ⟨by rw [HE.out]; exact congrArg (fun x => Ending.returned (.string x)) (cat_mk (Lib.itoa q) [_]), ?_⟩
       first
         | exact (show Below w.heap.size w _ from ⟨hb.os, hb.tape, hb.output, hb.size, hb.block⟩).alloc hb.size _
         | exact ((Below.refl w.heap.size w).alloc (Nat.le_refl _) _).trans (show Below w.heap.size (w.alloc _) _ from ⟨hb.os, hb.tape, hb.output, hb.size, fun k hk => hb.block k (by simp; omega)⟩))
set_option maxRecDepth 100000 in
set_option maxHeartbeats 1000000 in
theorem rdigits_less0 (n q : Int) (w : World) (h0 : n < -9) (h1 : -9223372036854775808 ≤ n) (hq : n.tdiv 10 = q) (ht : n.tmod 10 = 0)
   (ih : ∀ w, Calls Tryd.prog 33 #[.int .i64 q] w fun e w' => e = .returned (.string ⟨(Lib.itoa q).toArray⟩) ∧ Below w.heap.size w w') :
    Calls Tryd.prog 33 #[.int .i64 n] w fun e w' => e = .returned (.string ⟨(Lib.itoa n).toArray⟩) ∧ Below w.heap.size w w' := by
  have IH := Lib.hid ih; clear ih
  have he := itoa_negs n h0
  rw [hq, ht] at he
  have HE : Hid (Lib.itoa n = Lib.itoa q ++ [UInt8.ofNat (48 + -0).toNat]) := he
  clear he
  have hd : n.tdiv 10 = -((-n) / 10) := by
    rw [show n = -(-n) from by omega, Int.neg_tdiv, Int.tdiv_eq_ediv_of_nonneg (by omega)]; omega
  have hm : n.tmod 10 = -((-n) % 10) := by
    rw [show n = -(-n) from by omega, Int.neg_tmod, Int.tmod_eq_emod_of_nonneg (by omega)]; omega
  have hb3 : -9223372036854775808 ≤ q ∧ q ≤ 9223372036854775807 := by omega
  obtain ⟨hq1, hq2⟩ := hb3
  clear hd hm
  have hl := itoa_len q hq1 hq2
  have hcv := fun W b => conv_cell W b (48)
  have hq64 : IntKind.i64.wrap q = q := by rw [IntKind.wrap_i64]; omega
  have hk8 : IntKind.u8.wrap 48 = 48 := by rw [IntKind.wrap_u8]; omega
  have hk64 : IntKind.i64.wrap 48 = 48 := by rw [IntKind.wrap_i64]; omega
  go_enter Tryd.func33, Tryd.ntmps33
  go_wp2_with fail
  go_region_with (go_at_call 33; refine (IH.out _).mono ?_; rintro e w' ⟨rfl, hb⟩; have hcc := fun h => (bcell hb).1 w.heap.size 0 h)
  all_goals first
    | omega
    | (go_wp2
       go_ret
       refine ⟨by rw [HE.out]; exact congrArg (fun x => Ending.returned (.string x)) (cat_mk (Lib.itoa q) [_]), ?_⟩
       first
         | exact (show Below w.heap.size w _ from ⟨hb.os, hb.tape, hb.output, hb.size, hb.block⟩).alloc hb.size _
         | exact ((Below.refl w.heap.size w).alloc (Nat.le_refl _) _).trans (show Below w.heap.size (w.alloc _) _ from ⟨hb.os, hb.tape, hb.output, hb.size, fun k hk => hb.block k (by simp; omega)⟩))

theorem rdigits_all (k : Nat) : ∀ (n : Int) (w : World), n.natAbs ≤ k → -9223372036854775808 ≤ n → n ≤ 9223372036854775807 →
    Calls Tryd.prog 33 #[.int .i64 n] w fun e w' => e = .returned (.string ⟨(Lib.itoa n).toArray⟩) ∧ Below w.heap.size w w' := by
  induction k with
  | zero => intro n w hk _ _; exact rdigits_one n w (by omega) (by omega)
  | succ k ih =>
    intro n w hk h0 h1
    by_cases hp : 9 < n
    · exact rdigits_many n _ _ w hp h1 rfl rfl (fun w => ih _ w (by omega) (by omega) (by omega))
    · by_cases hn : n < -9
      · have hd : n.tdiv 10 = -((-n) / 10) := by
          rw [show n = -(-n) from by omega, Int.neg_tdiv, Int.tdiv_eq_ediv_of_nonneg (by omega)]; omega
        have hm : n.tmod 10 = -((-n) % 10) := by
          rw [show n = -(-n) from by omega, Int.neg_tmod, Int.tmod_eq_emod_of_nonneg (by omega)]; omega
        by_cases ht : n.tmod 10 = 0
        · exact rdigits_less0 n _ w hn h0 rfl ht (fun w => ih _ w (by omega) (by omega) (by omega))
        · exact rdigits_less n _ _ w hn h0 rfl rfl (by omega) (fun w => ih _ w (by omega) (by omega) (by omega))
      · by_cases h : 0 ≤ n
        · exact rdigits_one n w h (by omega)
        · exact rdigits_neg n w (by omega) (by omega)
theorem rdigits_any (n : Int) (w : World) (h0 : -9223372036854775808 ≤ n) (h1 : n ≤ 9223372036854775807) :
    Calls Tryd.prog 33 #[.int .i64 n] w fun e w' => e = .returned (.string ⟨(Lib.itoa n).toArray⟩) ∧ Below w.heap.size w w' :=
  rdigits_all n.natAbs n w (Nat.le_refl _) h0 h1
end Go.Proofs.YtnojidecfmpdjaaDoor
