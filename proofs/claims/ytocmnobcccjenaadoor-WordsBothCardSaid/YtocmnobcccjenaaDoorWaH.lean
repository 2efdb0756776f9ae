/- readHex, readByte. -/
import Derived.Test.YtocmnobcccjenaaDoorWaG
import Derived.Deep.QuietTactic
import Derived.BigQuiet
import Derived.Deep.Light
namespace Go.Proofs.YtocmnobcccjenaaDoor
open Go.RowKit

theorem Lay.drewN {w : World} (h : Lay w) (n : Nat) : Lay (w.drewN n) := h.next (below_drewN (Below.refl _ _) n)

def hexL : List UInt8 := [48, 49, 50, 51, 52, 53, 54, 55, 56, 57, 97, 98, 99, 100, 101, 102]
/-- What a digit of base 16 stands for (below 0: it is none). -/
def hexI (c : UInt8) : Int := Lib.indexByte hexL c
theorem toU8 (c : UInt8) : ((c.toNat : Int)).toNat.toUInt8 = c := by simp
theorem index16 (c : UInt8) (w : World) :
    Calls Tryd.prog 71 #[.string ⟨#[48, 49, 50, 51, 52, 53, 54, 55, 56, 57, 97, 98, 99, 100, 101, 102]⟩, .int .u8 c.toNat] w fun e w' => e = .returned (.int .i64 (hexI c)) ∧ w' = w := by
  have := Tryd.strings_IndexByte ⟨#[48, 49, 50, 51, 52, 53, 54, 55, 56, 57, 97, 98, 99, 100, 101, 102]⟩ (c.toNat : Int) w
  rw [toU8] at this
  exact this
theorem hexI_le (c : UInt8) : -1 ≤ hexI c ∧ hexI c ≤ 15 := by
  have key : ∀ c : Fin 256, -1 ≤ hexI (UInt8.ofNat c.val) ∧ hexI (UInt8.ofNat c.val) ≤ 15 := by decide +kernel
  have := key ⟨c.toNat, c.toNat_lt⟩
  simpa using this
theorem or16 (h l : Int) (h0 : 0 ≤ h) (h1 : h ≤ 15) (l0 : 0 ≤ l) (l1 : l ≤ 15) : bits BinOp.or IntKind.i64 (h * 16) l % 256 = 16 * h + l := by
  have key : ∀ a b : Fin 16, bits BinOp.or IntKind.i64 ((a.val : Int) * 16) (b.val : Int) % 256 = 16 * (a.val : Int) + (b.val : Int) := by decide +kernel
  have := key ⟨h.toNat, by omega⟩ ⟨l.toNat, by omega⟩
  simp only [Int.toNat_of_nonneg h0, Int.toNat_of_nonneg l0] at this
  exact this

theorem ret_three {a b c d e f : Value} (h : a = d) (k : b = e) (l : c = f) : Ending.returned (.tuple #[a, b, c]) = .returned (.tuple #[d, e, f]) := by rw [h, k, l]
theorem band_t {a b : Bool} (h : a = true) : false = (!a && !b) := by rw [h]; rfl
theorem band_f {a b : Bool} (h : ¬ a = true) : (!b) = (!a && !b) := by rw [eq_false_of_ne_true h]; rfl

set_option maxHeartbeats 2000000 in
theorem readHex_yes (s : ByteArray) (c : Int) (w : World) (hw : Lay w) (h4 : 4 ≤ s.size) (hz : s.size ≤ 9223372036854775807) (hc : c = (16 : Int) * hexI s[2] + hexI s[3]) (hh0 : (0 : Int) ≤ hexI s[2]) (hl0 : (0 : Int) ≤ hexI s[3]) :
    Calls Tryd.prog 60 #[.string s] w fun e w' => e = .returned (.tuple #[.int .u8 c, .int .i64 4, .bool (!escB c && !plainB c)]) ∧ Below w.heap.size w w' := by
  have hh1 : hexI s[2] ≤ 15 := (hexI_le _).2
  have hl1 : hexI s[3] ≤ 15 := (hexI_le _).2
  have hor := or16 (hexI s[2]) (hexI s[3]) hh0 hh1 hl0 hl1
  rw [← hc] at hor
  have hc0 : 0 ≤ c := by omega
  have hc1 : c ≤ 255 := by omega
  have b2 : (2 : Int) < (s.size : Int) := by omega
  have b3 : (3 : Int) < (s.size : Int) := by omega
  clear hc
  go_enter Tryd.func60, Tryd.ntmps60
  go_wp2_with fail
  go_quiet ((go_at_call 71; exact Calls.quiet_of_same (index16 _ _)))
  go_wp2_with (first | (go_at_call 48; refine (letterOf_any _ _ (hw.drewN _)).mono ?_; rintro e w' ⟨rfl, hb⟩) | (go_at_call 32; refine (isPlain_any _ _ hc0 hc1).mono ?_; rintro e w' ⟨rfl, rfl⟩))
  · go_ret3
    exact ⟨ret_three rfl rfl (congrArg Value.bool (band_t (by assumption))), (below_drewN (Below.refl _ _) _).trans (show Below w.heap.size (w.drewN nq) _ from hb)⟩
  · go_ret3
    exact ⟨ret_three rfl rfl (congrArg Value.bool (band_f (by assumption))), (below_drewN (Below.refl _ _) _).trans (show Below w.heap.size (w.drewN nq) _ from hb)⟩

set_option maxHeartbeats 2000000 in
theorem readHex_bad (s : ByteArray) (w : World) (h4 : 4 ≤ s.size) (hz : s.size ≤ 9223372036854775807) (hc : hexI s[2] < (0 : Int) ∨ hexI s[3] < (0 : Int)) :
    Calls Tryd.prog 60 #[.string s] w fun e w' => e = .returned (.tuple #[.int .u8 0, .int .i64 0, .bool false]) ∧ Below w.heap.size w w' := by
  have b2 : (2 : Int) < (s.size : Int) := by omega
  have b3 : (3 : Int) < (s.size : Int) := by omega
  by_cases h2 : hexI s[2] < (0 : Int)
  · clear hc
    go_enter Tryd.func60, Tryd.ntmps60
    go_wp2_with fail
    go_quiet ((go_at_call 71; exact Calls.quiet_of_same (index16 _ _)))
    go_wp2
    go_ret3
    exact ⟨rfl, below_drewN (Below.refl _ _) _⟩
  · have h3 : hexI s[3] < (0 : Int) := hc.resolve_left h2
    have h2' : (0 : Int) ≤ hexI s[2] := by omega
    clear hc h2
    go_enter Tryd.func60, Tryd.ntmps60
    go_wp2_with fail
    go_quiet ((go_at_call 71; exact Calls.quiet_of_same (index16 _ _)))
    go_wp2
    go_ret3
    exact ⟨rfl, below_drewN (Below.refl _ _) _⟩

set_option maxHeartbeats 2000000 in
theorem readHex_short (s : ByteArray) (w : World) (h4 : s.size < 4) :
    Calls Tryd.prog 60 #[.string s] w fun e w' => e = .returned (.tuple #[.int .u8 0, .int .i64 0, .bool false]) ∧ Below w.heap.size w w' := by
  go_enter Tryd.func60, Tryd.ntmps60
  go_wp2
  go_ret3
  exact ⟨rfl, Below.refl _ _⟩
end Go.Proofs.YtocmnobcccjenaaDoor
