/- Int, isDecimal of words. -/
import Derived.Test.YtocmnobcccjenaaDoorPlA
import Derived.Test.YtocmnobcccjenaaDoorLay
import Derived.Test.YtocmnobcccjenaaDoorShelf
import Derived.Deep.Light
namespace Go.Proofs.YtocmnobcccjenaaDoor
open Go.RowKit

set_option maxHeartbeats 2000000 in
theorem isDecimal_any (s : ByteArray) (w : World) (hs : s.size ≤ 9223372036854775807) :
    Calls Tryd.prog 23 #[.string s] w fun e w' => e = .returned (.bool (decS (byt s))) ∧ w = w' := by
  have HE : Hid (decW (byt s) = decS (byt s)) := decW_eq _
  unfold decW at HE
  rw [← HE.out]
  have hz : (⟨(Lib.trimPrefix (byt s) [45]).toArray⟩ : ByteArray).size ≤ 9223372036854775807 := by
    have : (Lib.trimPrefix (byt s) [45]).length ≤ (byt s).length := Lib.trimPrefix_le _ _
    rw [byt_len] at this; rw [size_mk]; omega
  go_enter Tryd.func23, Tryd.ntmps23
  go_wp2_with (first | (go_at_call 41; refine (Tryd.strings_CutPrefix _ _ _).mono ?_; rintro e w' ⟨rfl, rfl⟩) | (go_at_call 42; refine (isNatural_any _ _ ?_).mono ?_; exact hz; rintro e w' ⟨rfl, rfl⟩))
  all_goals (go_ret; refine ⟨ret_bool ?_, rfl⟩; go_light; simp_all [byt])

/-- What Int returns: the number, and the error. -/
def intV (l : List UInt8) (lo hi : Int) : Int := if decS l = true ∧ lo ≤ valI l ∧ valI l ≤ hi then valI l else 0
def intE (l : List UInt8) (lo hi : Int) : Int := if decS l = true then (if lo ≤ valI l ∧ valI l ≤ hi then 0 else 7) else 6
theorem int_form {l : List UInt8} {lo hi : Int} (h : decS l = false) : (0 : Int) = intV l lo hi ∧ (6 : Int) = intE l lo hi := by
  unfold intV intE; simp [h]
theorem int_out {l : List UInt8} {lo hi : Int} (h : decS l = true) (h2 : ¬ (lo ≤ valI l ∧ valI l ≤ hi)) : (0 : Int) = intV l lo hi ∧ (7 : Int) = intE l lo hi := by
  unfold intV intE; rw [if_neg (fun k => h2 k.2), if_pos h, if_neg h2]; exact ⟨rfl, rfl⟩
theorem int_in {l : List UInt8} {lo hi : Int} (h : decS l = true) (h1 : lo ≤ valI l) (h2 : valI l ≤ hi) : valI l = intV l lo hi ∧ (0 : Int) = intE l lo hi := by
  unfold intV intE; rw [if_pos ⟨h, h1, h2⟩, if_pos h, if_pos ⟨h1, h2⟩]; exact ⟨rfl, rfl⟩
theorem ret_pair {a b c d : Int} (h : a = c ∧ b = d) : Ending.returned (.tuple #[.int .i64 a, .int .i64 b]) = .returned (.tuple #[.int .i64 c, .int .i64 d]) := by rw [h.1, h.2]
theorem bytes_below {w w' : World} {e : TypeId} (h : w' = w ∨ ∃ t, w' = Lib.bytesWorld w e t) : Below w.heap.size w w' := by
  rcases h with rfl | ⟨t, rfl⟩
  · exact Below.refl _ _
  · exact Lib.bytesWorld_below w e t

set_option maxHeartbeats 2000000 in
theorem int_any (s : ByteArray) (lo hi : Int) (w : World) (hw : Lay w) (hs : s.size ≤ 281474976710656) (hlo : -9223372036854775808 ≤ lo) (hhi : hi ≤ 9223372036854775807) :
    Calls Tryd.prog 10 #[.string s, .int .i64 lo, .int .i64 hi] w fun e w' => e = .returned (.tuple #[.int .i64 (intV (byt s) lo hi), .int .i64 (intE (byt s) lo hi)]) ∧ Below w.heap.size w w' := by
  have hz : s.size ≤ 9223372036854775807 := by omega
  have hz2 : s.size ≤ 9223372036854775806 := by omega
  cases hd : decS (byt s)
  · have HF := Lib.hid (int_form (lo := lo) (hi := hi) hd)
    go_enter Tryd.func10, Tryd.ntmps10
    go_wp2_with (go_at_call 23; refine (isDecimal_any _ _ hz).mono ?_; rintro e w' ⟨rfl, rfl⟩)
    go_ret2
    exact ⟨ret_pair HF.out, Below.refl _ _⟩
  · by_cases hr : -9223372036854775808 ≤ valI (byt s) ∧ valI (byt s) ≤ 9223372036854775807
    · have hp := Lib.hid (parse_ok (byt s) hd hr.1 hr.2)
      have Hin := Lib.hid (fun h1 h2 => int_in (lo := lo) (hi := hi) hd h1 h2)
      have Hout := Lib.hid (fun h => int_out (lo := lo) (hi := hi) hd h)
      obtain ⟨hr1, hr2⟩ := hr
      go_enter Tryd.func10, Tryd.ntmps10
      go_wp2_with (first | (go_at_call 23; refine (isDecimal_any _ _ hz).mono ?_; rintro e w' ⟨rfl, rfl⟩) | (go_at_call 24; refine (Tryd.strconv_ParseInt_10_at64_ok _ hz2 _ hp.out _).mono ?_; rintro e w' ⟨rfl, hb⟩; have hB := Lib.hid (bytes_below hb); clear hb))
      all_goals (go_ret2; first | exact ⟨ret_pair (Hout.out (by omega)), hB.out⟩ | exact ⟨ret_pair (Hin.out (by omega) (by omega)), hB.out⟩)
    · have hp := Lib.hid (parse_range (byt s) hd (by omega))
      have HF := Lib.hid (int_out (lo := lo) (hi := hi) hd (by omega))
      obtain ⟨te, pe, hc⟩ := hw.rngCell
      go_enter Tryd.func10, Tryd.ntmps10
      go_wp2_with (first | (go_at_call 23; refine (isDecimal_any _ _ hz).mono ?_; rintro e w' ⟨rfl, rfl⟩) | (go_at_call 24; refine (Tryd.strconv_ParseInt_10_at64_range _ hs hp.out _ _ hc (.inr ⟨_, _, rfl⟩)).mono ?_; rintro e w' ⟨N, rfl, hN, hh, hb⟩; have hB := Lib.hid hb; clear hb hh))
      go_ret2
      exact ⟨ret_pair HF.out, hB.out⟩
end Go.Proofs.YtocmnobcccjenaaDoor
