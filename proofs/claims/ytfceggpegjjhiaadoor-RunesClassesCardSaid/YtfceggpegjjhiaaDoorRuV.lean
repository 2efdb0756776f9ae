/- The law RunesClasses as a walk. -/
import Derived.Test.YtfceggpegjjhiaaDoorRuS
namespace Go.Proofs.YtfceggpegjjhiaaDoor
open Go.RowKit

set_option maxRecDepth 100000
theorem clsV_bd (r : Int) : clsV r ≤ 10 := by
  unfold clsV memL
  simp only [clsF]
  repeat' split
  all_goals omega
theorem clsV_ge (r : Int) : 1 ≤ clsV r := by
  unfold clsV memL
  simp only [clsF]
  repeat' split
  all_goals first | omega | (exfalso; simp [hasB] at *; done)
theorem hasB_far (l : List UInt8) (h : ∀ b ∈ l, b.toNat < 128) (r : Int) (hr : 128 ≤ r) : hasB l r = false := by
  unfold hasB; rw [List.any_eq_false]
  intro c hc
  have := h c hc
  simp; omega
theorem clsV_far (r : Int) (hr : 128 ≤ r) : clsV r = 10 := by
  have key : ∀ l ∈ memL, hasB l r = false := fun l hl => hasB_far l (memL_ascii l hl) r hr
  unfold clsV
  have : ∀ (ls : List (List UInt8)) (k : Nat), (∀ l ∈ ls, hasB l r = false) → clsF ls k r = k + ls.length := by
    intro ls
    induction ls with
    | nil => intro k _; rfl
    | cons l ls ih =>
      intro k h
      simp only [clsF, h l (by simp), Bool.false_eq_true, if_false]
      rw [ih (k + 1) (fun x hx => h x (by simp [hx]))]
      simp; omega
  rw [this memL 0 key]; rfl

set_option maxHeartbeats 4000000 in
theorem lawClasses_no (r : Int) (w : World) (hw : Lay w) (hr : isR r = false) :
    Calls Tryd.prog 8 #[.int .i64 r] w fun e w' => e = .returned (.bool true) ∧ Below w.heap.size w w' := by
  go_enter Tryd.func8, Tryd.ntmps8
  go_wp2_with (first
    | (go_at_call 16; refine (class_bad r _ hr).mono ?_; rintro e w' ⟨rfl, rfl⟩)
    | (go_at_call 14; refine (encode_bad r _ hr).mono ?_; rintro e w' ⟨rfl, rfl⟩)
    | (go_at_call 11; refine (awake_any _ hw).mono ?_; rintro e w9 ⟨rfl, hb9⟩))
  go_ret
  exact ⟨rfl, hb9⟩
set_option maxHeartbeats 4000000 in
theorem lawClasses_far (r : Nat) (w : World) (hw : Lay w) (hr : isR (r : Int) = true) (h128 : 128 ≤ (r : Int)) :
    Calls Tryd.prog 8 #[.int .i64 (r : Int)] w fun e w' => e = .returned (.bool true) ∧ Below w.heap.size w w' := by
  have HC := Lib.hid (class_ok r w hw hr)
  rw [clsV_far r h128] at HC
  have HE := Lib.hid (fun w1 (h1 : Lay w1) => encode_ok r w1 h1 hr)
  clear hr
  go_enter Tryd.func8, Tryd.ntmps8
  go_wp2_with fail
  refine HC.out.mono ?_
  rintro e w1 ⟨rfl, hb1⟩
  have hL1 := hw.next hb1
  go_wp2_with fail
  refine (HE.out w1 hL1).mono ?_
  rintro e w2 ⟨v, rfl, _, hb2⟩
  have hL2 := hL1.next hb2
  have HB := Lib.hid (hb1.trans (hb2.mono hb1.size))
  clear hb1 hb2 hL1
  go_wp2_with fail
  refine (awake_any w2 hL2).mono ?_
  rintro e w3 ⟨rfl, hb3⟩
  have HB3 := Lib.hid (HB.out.trans (hb3.mono HB.out.size))
  clear hb3 hL2
  go_wp2_with fail
  go_ret
  exact ⟨rfl, HB3.out⟩

def setL : List (List UInt8) := [[], [32], [10], [40, 91], [93, 41], [34], [48, 49, 50, 51, 52, 53, 54, 55, 56, 57], [45], [97, 98, 99, 100, 101, 102, 103, 104, 105, 106, 107, 108, 109, 110, 111, 112, 113, 114, 115, 116, 117, 118, 119, 120, 121, 122], [61, 60]]
theorem set_cls : ∀ r : Fin 128, ∀ k : Fin 10, 1 ≤ k.val → (((clsV ((r.val : Nat) : Int) : Nat) : Int) == ((k.val : Nat) : Int)) = hasB (setL.getD k.val []) ((r.val : Nat) : Int) := by decide +kernel

set_option maxHeartbeats 8000000 in
theorem lawClasses_near (r : Nat) (w : World) (hw : Lay w) (hr : isR (r : Int) = true) (h128 : (r : Int) < 128) :
    Calls Tryd.prog 8 #[.int .i64 (r : Int)] w fun e w' => e = .returned (.bool true) ∧ Below w.heap.size w w' := by
  have HC := Lib.hid (class_ok r w hw hr)
  obtain ⟨c, hc⟩ : ∃ c, clsV (r : Int) = c := ⟨_, rfl⟩
  have g1 := clsV_ge (r : Int)
  have g2 := clsV_bd (r : Int)
  rw [hc] at HC g1 g2
  have HS : Hid (∀ k : Nat, 1 ≤ k → k < 10 → ((c : Int) == (k : Int)) = hasB (setL.getD k []) (r : Int)) := by
    intro k h1 h2
    have := set_cls ⟨r, by omega⟩ ⟨k, h2⟩ h1
    rw [hc] at this
    exact this
  have HE := Lib.hid (fun w1 (h1 : Lay w1) => encode_ok r w1 h1 hr)
  clear hr hc
  have h1c : (1 : Int) ≤ (c : Int) := by omega
  have h2c : (c : Int) ≤ 10 := by omega
  go_enter Tryd.func8, Tryd.ntmps8
  go_wp2_with fail
  refine HC.out.mono ?_
  rintro e w1 ⟨rfl, hb1⟩
  have hL1 := hw.next hb1
  go_wp2_with fail
  refine (HE.out w1 hL1).mono ?_
  rintro e w2 ⟨v, rfl, _, hb2⟩
  have hL2 := hL1.next hb2
  have HB := Lib.hid (hb1.trans (hb2.mono hb1.size))
  clear hb1 hb2 hL1
  go_wp2_with fail
  have hblk := World.alloc_heap_new w2 (.cells #[.string ⟨#[]⟩, .string ⟨#[32]⟩, .string ⟨#[10]⟩, .string ⟨#[40, 91]⟩, .string ⟨#[93, 41]⟩, .string ⟨#[34]⟩, .string ⟨#[48, 49, 50, 51, 52, 53, 54, 55, 56, 57]⟩, .string ⟨#[45]⟩, .string ⟨#[97, 98, 99, 100, 101, 102, 103, 104, 105, 106, 107, 108, 109, 110, 111, 112, 113, 114, 115, 116, 117, 118, 119, 120, 121, 122]⟩, .string ⟨#[61, 60]⟩] 50)
  have hq : ∀ m, m < 10 → (w2.alloc (.cells #[.string ⟨#[]⟩, .string ⟨#[32]⟩, .string ⟨#[10]⟩, .string ⟨#[40, 91]⟩, .string ⟨#[93, 41]⟩, .string ⟨#[34]⟩, .string ⟨#[48, 49, 50, 51, 52, 53, 54, 55, 56, 57]⟩, .string ⟨#[45]⟩, .string ⟨#[97, 98, 99, 100, 101, 102, 103, 104, 105, 106, 107, 108, 109, 110, 111, 112, 113, 114, 115, 116, 117, 118, 119, 120, 121, 122]⟩, .string ⟨#[61, 60]⟩] 50)).cell? ⟨w2.heap.size, m, none⟩ = some (.string ⟨(setL.getD m []).toArray⟩) := by
    intro m hm
    rw [cell_of_block hblk m]
    have key : ∀ m : Fin 10, (#[.string ⟨#[]⟩, .string ⟨#[32]⟩, .string ⟨#[10]⟩, .string ⟨#[40, 91]⟩, .string ⟨#[93, 41]⟩, .string ⟨#[34]⟩, .string ⟨#[48, 49, 50, 51, 52, 53, 54, 55, 56, 57]⟩, .string ⟨#[45]⟩, .string ⟨#[97, 98, 99, 100, 101, 102, 103, 104, 105, 106, 107, 108, 109, 110, 111, 112, 113, 114, 115, 116, 117, 118, 119, 120, 121, 122]⟩, .string ⟨#[61, 60]⟩] : Array Value)[m.val]? = some (.string ⟨(setL.getD m.val []).toArray⟩) := by
      intro m
      match m with
      | ⟨0, _⟩ => rfl
      | ⟨1, _⟩ => rfl
      | ⟨2, _⟩ => rfl
      | ⟨3, _⟩ => rfl
      | ⟨4, _⟩ => rfl
      | ⟨5, _⟩ => rfl
      | ⟨6, _⟩ => rfl
      | ⟨7, _⟩ => rfl
      | ⟨8, _⟩ => rfl
      | ⟨9, _⟩ => rfl
      | ⟨n + 10, h⟩ => omega
    exact key ⟨m, hm⟩
  have hB0 := (Below.refl w2.heap.size w2).alloc (Nat.le_refl _) (.cells #[.string ⟨#[]⟩, .string ⟨#[32]⟩, .string ⟨#[10]⟩, .string ⟨#[40, 91]⟩, .string ⟨#[93, 41]⟩, .string ⟨#[34]⟩, .string ⟨#[48, 49, 50, 51, 52, 53, 54, 55, 56, 57]⟩, .string ⟨#[45]⟩, .string ⟨#[97, 98, 99, 100, 101, 102, 103, 104, 105, 106, 107, 108, 109, 110, 111, 112, 113, 114, 115, 116, 117, 118, 119, 120, 121, 122]⟩, .string ⟨#[61, 60]⟩] 50)
  generalize w2.alloc (.cells #[.string ⟨#[]⟩, .string ⟨#[32]⟩, .string ⟨#[10]⟩, .string ⟨#[40, 91]⟩, .string ⟨#[93, 41]⟩, .string ⟨#[34]⟩, .string ⟨#[48, 49, 50, 51, 52, 53, 54, 55, 56, 57]⟩, .string ⟨#[45]⟩, .string ⟨#[97, 98, 99, 100, 101, 102, 103, 104, 105, 106, 107, 108, 109, 110, 111, 112, 113, 114, 115, 116, 117, 118, 119, 120, 121, 122]⟩, .string ⟨#[61, 60]⟩] 50) = W0 at hq hB0 ⊢
  clear hblk
  have HQ := Lib.hid hq
  have hL0 := hL2.next hB0
  have HB0 := Lib.hid (HB.out.trans (hB0.mono HB.out.size))
  clear hB0 hL2 hq
  go_loop [8, 9, 10] (fun k _ _ => ∃ m : Nat, 1 ≤ m ∧ m ≤ 10 ∧ k = .int .i64 m) (fun k _ _ => 10 - (intOf k).toNat)
  case atStart => exact ⟨1, by omega, by omega, rfl⟩
  case round =>
    obtain ⟨m, hm1, hm2, rfl⟩ := hrel
    by_cases hlt : m < 10
    · have hS := HS.out m hm1 hlt
      have q := HQ.out m hlt
      obtain ⟨S, hSd⟩ : ∃ S, (⟨(setL.getD m []).toArray⟩ : ByteArray) = S := ⟨_, rfl⟩
      rw [hSd] at q
      have hdl : S.data.toList = setL.getD m [] := by rw [← hSd]
      have hsz : S.size ≤ 26 := by
        have : S.size = S.data.toList.length := Lib.size_eq S
        rw [this, hdl]
        have key : ∀ m : Fin 10, (setL.getD m.val []).length ≤ 26 := by decide +kernel
        exact key ⟨m, hlt⟩
      rw [← hdl] at hS
      have HS1 := Lib.hid hS
      have HN := Lib.hid (show S.size = S.data.toList.length from Lib.size_eq S)
      clear hS hSd hdl
      go_wp2_with fail
      go_loop [9, 10] (fun b i => ∃ j : Nat, j ≤ S.size ∧ i = .int .i64 j ∧ b = .bool (hasB (S.data.toList.take j) (r : Int))) (fun _ i => S.size - (intOf i).toNat)
      case atStart => exact ⟨0, by omega, rfl, rfl⟩
      case round =>
        obtain ⟨j, hj, rfl, rfl⟩ := hrel
        by_cases hjl : j < S.size
        · have hjl2 : j < S.data.toList.length := by have := HN.out; omega
          have hstep : hasB (S.data.toList.take (j + 1)) (r : Int) = (hasB (S.data.toList.take j) (r : Int) || decide (((S[j]'hjl).toNat : Int) = (r : Int))) := by
            rw [List.take_succ_eq_append_getElem hjl2]
            unfold hasB
            rw [List.any_append]
            simp [ByteArray.getElem_eq_getElem_data]
          have HT := Lib.hid hstep
          have h64 : wrap64 (((S[j]'hjl).toNat : Nat) : Int) = (((S[j]'hjl).toNat : Nat) : Int) := by have := (S[j]'hjl).toNat_lt; unfold wrap64; omega
          clear hstep
          cases hh : hasB (S.data.toList.take j) (r : Int)
          · rw [hh] at HT
            have HH := Lib.hid hh
            clear hh
            go_wp2
            go_round
            case rel => exact ⟨j + 1, by omega, by go_num, by rw [HT.out]; simp; rfl⟩
            case measure => simp [intOf]; omega
          · rw [hh] at HT
            have HH := Lib.hid hh
            clear hh
            go_wp2
            go_round
            case rel => exact ⟨j + 1, by omega, by go_num, by rw [HT.out]; simp⟩
            case measure => simp [intOf]; omega
        · have ht : S.data.toList.take j = S.data.toList := List.take_of_length_le (by have := HN.out; omega)
          rw [ht]
          have hS := HS1.out
          obtain ⟨bb, hbb⟩ : ∃ bb, hasB S.data.toList (r : Int) = bb := ⟨_, rfl⟩
          rw [hbb] at hS ⊢
          clear hbb ht
          cases bb
          · go_wp2
            go_round
            case rel => exact ⟨m + 1, by omega, by omega, by go_num⟩
            case measure => simp [intOf]; omega
          · go_wp2
            go_round
            case rel => exact ⟨m + 1, by omega, by omega, by go_num⟩
            case measure => simp [intOf]; omega
    · go_wp2_with fail
      refine (awake_any W0 hL0).mono ?_
      rintro e w3 ⟨rfl, hb3⟩
      have HB3 := Lib.hid (HB0.out.trans (hb3.mono HB0.out.size))
      clear hb3 hL0
      go_wp2_with fail
      go_ret
      exact ⟨rfl, HB3.out⟩
theorem lawClasses_any (r : Int) (w : World) (hw : Lay w) :
    Calls Tryd.prog 8 #[.int .i64 r] w fun e w' => e = .returned (.bool true) ∧ Below w.heap.size w w' := by
  cases hr : isR r with
  | false => exact lawClasses_no r w hw hr
  | true =>
    have h0 : 0 ≤ r := by simp [isR] at hr; omega
    obtain ⟨m, rfl⟩ : ∃ m : Nat, r = m := ⟨r.toNat, by omega⟩
    by_cases h : (m : Int) < 128
    · exact lawClasses_near m w hw hr h
    · exact lawClasses_far m w hw hr (by omega)
end Go.Proofs.YtfceggpegjjhiaaDoor
