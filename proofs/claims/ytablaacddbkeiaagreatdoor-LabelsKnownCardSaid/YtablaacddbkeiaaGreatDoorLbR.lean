/- One contract for each function, whatever is asked. -/
import Derived.Test.YtablaacddbkeiaaGreatDoorLbQ
namespace Go.Proofs.YtablaacddbkeiaaGreatDoor
open Go.RowKit

/-- A list that a call returns, and an error. -/
def SoL (L : List Nat) (x : Int) (w : World) (e : Ending) (w' : World) : Prop :=
  ∃ a cap, e = .returned (.tuple #[.slice a L.length cap, .int .i64 x]) ∧ RdN w'.heap.size w' (.slice a L.length cap) L ∧ Below w.heap.size w w'
theorem soL_nil {x : Int} {w : World} {e : Ending} {w' : World} (h : e = .returned (.tuple #[.slice none 0 0, .int .i64 x]) ∧ Below w.heap.size w w') : SoL [] x w e w' :=
  ⟨none, 0, h.1, ⟨none, 0, rfl, Nat.le_refl _, by omega, fun h => absurd rfl h⟩, h.2⟩
theorem soL_ok {up : List UInt8} {p : Nat → Bool} {w : World} {e : Ending} {w' : World} (h : SoT up p w e w') : SoL (srt up p) 0 w e w' := h
def dnV (ns : List ByteArray) (up : List UInt8) (a : Int) : List Nat := if (cl1 ns up a != 0) = true then [] else srt up (fun b => le up b a.toNat)
def upV (ns : List ByteArray) (up : List UInt8) (a : Int) : List Nat := if (cl1 ns up a != 0) = true then [] else srt up (fun b => le up a.toNat b)
def srV (ns : List ByteArray) (up : List UInt8) (zs : List Int) : List Nat := if ((lck ns up zs).2 != 0) = true then [] else srt up (fun b => decide (b ∈ zs.map Int.toNat))
def lsV (ns : List ByteArray) (up : List UInt8) (zs : List Int) : List Nat := if ((lck ns up zs).2 != 0) = true then [] else srt up (leB up (zs.map Int.toNat))
def chV (ns : List ByteArray) (up : List UInt8) (zs : List Int) : Bool := if ((lck ns up zs).2 != 0) = true then false else chB up (zs.map Int.toNat)
theorem ints_nat (ls : List Nat) : (ints ls).map Int.toNat = ls := by
  unfold ints
  rw [List.map_map]
  conv => rhs; rw [← List.map_id ls]
  exact List.map_congr_left fun a _ => rfl
theorem ldown_any (v : Value) (ns : List ByteArray) (up : List UInt8) (a : Int) (w : World) (hv : RdL w.heap.size w v ns up) :
    Calls Tryz.prog 15 #[v, .int .i64 a] w (SoL (dnV ns up a) (cl1 ns up a) w) := by
  cases e0 : (cl1 ns up a != 0) with
  | true =>
    rw [show dnV ns up a = [] from if_pos e0]
    exact (ldown_bad v ns up a w hv e0).mono fun e w' h => soL_nil h
  | false =>
    obtain ⟨hg, x, rfl, hx⟩ := cl1_ok e0
    rw [show dnV ns up (x : Int) = srt up _ from if_neg (by rw [e0]; decide), show cl1 ns up (x : Int) = 0 from cl1_0 hg hx]
    exact (ldown_ok v ns up x w hv hg hx).mono fun e w' h => soL_ok h
theorem lup_any (v : Value) (ns : List ByteArray) (up : List UInt8) (a : Int) (w : World) (hv : RdL w.heap.size w v ns up) :
    Calls Tryz.prog 16 #[v, .int .i64 a] w (SoL (upV ns up a) (cl1 ns up a) w) := by
  cases e0 : (cl1 ns up a != 0) with
  | true =>
    rw [show upV ns up a = [] from if_pos e0]
    exact (lup_bad v ns up a w hv e0).mono fun e w' h => soL_nil h
  | false =>
    obtain ⟨hg, x, rfl, hx⟩ := cl1_ok e0
    rw [show upV ns up (x : Int) = srt up _ from if_neg (by rw [e0]; decide), show cl1 ns up (x : Int) = 0 from cl1_0 hg hx]
    exact (lup_ok v ns up x w hv hg hx).mono fun e w' h => soL_ok h
theorem lsort_any (v u : Value) (ns : List ByteArray) (up : List UInt8) (zs : List Int) (w : World) (hv : RdL w.heap.size w v ns up) (hz : RdI w.heap.size w u zs) :
    Calls Tryz.prog 20 #[v, u] w (SoL (srV ns up zs) (lck ns up zs).2 w) := by
  cases e0 : ((lck ns up zs).2 != 0) with
  | true =>
    rw [show srV ns up zs = [] from if_pos e0]
    exact (lsort_bad v u ns up zs w hv hz e0).mono fun e w' h => soL_nil h
  | false =>
    obtain ⟨ls, rfl, hg⟩ := gl_of e0
    rw [show srV ns up (ints ls) = srt up _ from if_neg (by rw [e0]; decide), show (lck ns up (ints ls)).2 = 0 by rw [hg.lck], ints_nat]
    exact (lsort_ok v u ns up ls w hv (rd_nat hz) hg).mono fun e w' h => soL_ok h
theorem lleast_any (v u : Value) (ns : List ByteArray) (up : List UInt8) (zs : List Int) (w : World) (hv : RdL w.heap.size w v ns up) (hz : RdI w.heap.size w u zs) :
    Calls Tryz.prog 21 #[v, u] w (SoL (lsV ns up zs) (lck ns up zs).2 w) := by
  cases e0 : ((lck ns up zs).2 != 0) with
  | true =>
    rw [show lsV ns up zs = [] from if_pos e0]
    exact (lleast_bad v u ns up zs w hv hz e0).mono fun e w' h => soL_nil h
  | false =>
    obtain ⟨ls, rfl, hg⟩ := gl_of e0
    rw [show lsV ns up (ints ls) = srt up _ from if_neg (by rw [e0]; decide), show (lck ns up (ints ls)).2 = 0 by rw [hg.lck], ints_nat]
    exact (lleast_ok v u ns up ls w hv (rd_nat hz) hg).mono fun e w' h => soL_ok h
theorem lchain_any (v u : Value) (ns : List ByteArray) (up : List UInt8) (zs : List Int) (w : World) (hv : RdL w.heap.size w v ns up) (hz : RdI w.heap.size w u zs) :
    Calls Tryz.prog 17 #[v, u] w fun e w' => e = .returned (.tuple #[.bool (chV ns up zs), .int .i64 (lck ns up zs).2]) ∧ Below w.heap.size w w' := by
  cases e0 : ((lck ns up zs).2 != 0) with
  | true =>
    rw [show chV ns up zs = false from if_pos e0]
    exact lchain_bad v u ns up zs w hv hz e0
  | false =>
    obtain ⟨ls, rfl, hg⟩ := gl_of e0
    rw [show chV ns up (ints ls) = chB up _ from if_neg (by rw [e0]; decide), show (lck ns up (ints ls)).2 = 0 by rw [hg.lck], ints_nat]
    exact lchain_ok v u ns up ls w hv (rd_nat hz) hg
theorem same4_refl (u v : Value) (l : List Nat) (w : World) (hu : RdN w.heap.size w u l) (hv : RdN w.heap.size w v l) :
    Calls Tryz.prog 11 #[u, v] w fun e w' => e = .returned (.bool true) ∧ Below w.heap.size w w' := by
  have h := same4_any u v l l w hu hv
  rw [decide_eq_true rfl] at h
  exact h
end Go.Proofs.YtablaacddbkeiaaGreatDoor
