/- One contract for each function, whatever is asked. -/
import Derived.Test.YtdkljpoecdinjaaGreatLbQ
namespace Go.Proofs.YtdkljpoecdinjaaGreat
open Go.RowKit

/-- A list that a call returns, and an error. -/
def SoL (L : List Nat) (x : Int) (w : World) (e : Ending) (w' : World) : Prop :=
  ∃ a cap, e = .returned (.tuple #[.slice a L.length cap, .int .i64 x]) ∧ RdN w'.heap.size w' (.slice a L.length cap) L ∧ Below w.heap.size w w'
theorem soL_nil {x : Int} {w : World} {e : Ending} {w' : World} (h : e = .returned (.tuple #[.slice none 0 0, .int .i64 x]) ∧ Below w.heap.size w w') : SoL [] x w e w' :=
  ⟨none, 0, h.1, ⟨none, 0, rfl, Nat.le_refl _, by omega, fun h => absurd rfl h⟩, h.2⟩
theorem soL_ok {up : List UInt8} {p : Nat → Bool} {w : World} {e : Ending} {w' : World} (h : SoT up p w e w') : SoL (srt up p) 0 w e w' := h
def dnV (ns : List ByteArray) (up : List UInt8) (a : Int) : List Nat := if (cl1 ns up a != 0) = true then [] else srt up (fun b => le up b a.toNat)
def upV (ns : List ByteArray) (up : List UInt8) (a : Int) : List Nat := if (cl1 ns up a != 0) = true then [] else srt up (fun b => le up a.toNat b)
def srV (ns : List ByteArray) (up : List UInt8) (zs : List Int) : List Nat := if ((lck ns up zs).2 != 0) = true then [] else srt up (fun b => decide (b ∈ zs.map Int.toNat))
def lsV (ns : List ByteArray) (up : List UInt8) (zs : List Int) : List Nat := if ((lck ns up zs).2 != 0) = true then [] else srt up (leB up (zs.map Int.toNat))
def chV (ns : List ByteArray) (up : List UInt8) (zs : List Int) : Bool := if ((lck ns up zs).2 != 0) = true then false else chB up (zs.map Int.toNat)
theorem ints_nat (ls : List Nat) : (ints ls).map Int.toNat = ls := by
  unfold ints
  rw [List.map_map]
  conv => rhs; rw [← List.map_id ls]
  exact List.map_congr_left fun a _ => rfl
theorem lsort_any (v u : Value) (ns : List ByteArray) (up : List UInt8) (zs : List Int) (w : World) (hv : RdL w.heap.size w v ns up) (hz : RdI w.heap.size w u zs) :
    Calls Tryz.prog 16 #[v, u] w (SoL (srV ns up zs) (lck ns up zs).2 w) := by
  cases e0 : ((lck ns up zs).2 != 0) with
  | true =>
    rw [show srV ns up zs = [] from if_pos e0]
    exact (lsort_bad v u ns up zs w hv hz e0).mono fun e w' h => soL_nil h
  | false =>
    obtain ⟨ls, rfl, hg⟩ := gl_of e0
    rw [show srV ns up (ints ls) = srt up _ from if_neg (by rw [e0]; decide), show (lck ns up (ints ls)).2 = 0 by rw [hg.lck], ints_nat]
    exact (lsort_ok v u ns up ls w hv (rd_nat hz) hg).mono fun e w' h => soL_ok h
theorem lleast_any (v u : Value) (ns : List ByteArray) (up : List UInt8) (zs : List Int) (w : World) (hv : RdL w.heap.size w v ns up) (hz : RdI w.heap.size w u zs) :
    Calls Tryz.prog 17 #[v, u] w (SoL (lsV ns up zs) (lck ns up zs).2 w) := by
  cases e0 : ((lck ns up zs).2 != 0) with
  | true =>
    rw [show lsV ns up zs = [] from if_pos e0]
    exact (lleast_bad v u ns up zs w hv hz e0).mono fun e w' h => soL_nil h
  | false =>
    obtain ⟨ls, rfl, hg⟩ := gl_of e0
    rw [show lsV ns up (ints ls) = srt up _ from if_neg (by rw [e0]; decide), show (lck ns up (ints ls)).2 = 0 by rw [hg.lck], ints_nat]
    exact (lleast_ok v u ns up ls w hv (rd_nat hz) hg).mono fun e w' h => soL_ok h
theorem same4_refl (u v : Value) (l : List Nat) (w : World) (hu : RdN w.heap.size w u l) (hv : RdN w.heap.size w v l) :
    Calls Tryz.prog 19 #[u, v] w fun e w' => e = .returned (.bool true) ∧ Below w.heap.size w w' := by
  have h := same4_any u v l l w hu hv
  rw [decide_eq_true rfl] at h
  exact h
end Go.Proofs.YtdkljpoecdinjaaGreat
