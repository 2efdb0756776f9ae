/- The reference: JoinAll, Join, Meet, Flows; one contract for each function, whatever is asked. -/
import Derived.Test.YtablaacddbkeiaaGreatDoorLbR
namespace Go.Proofs.YtablaacddbkeiaaGreatDoor
open Go.RowKit

/-! Whatever is asked. -/
def jnV (ns : List ByteArray) (up : List UInt8) (zs : List Int) : Int := if ((lck ns up zs).2 != 0) = true then 0 else ((jn (le up) up.length (endF (ge up) up.length up.length) (zs.map Int.toNat) : Nat) : Int)
def mtV (ns : List ByteArray) (up : List UInt8) (zs : List Int) : Int := if ((lck ns up zs).2 != 0) = true then 0 else ((jn (ge up) up.length (endF (le up) up.length up.length) (zs.map Int.toNat) : Nat) : Int)
def fwV (ns : List ByteArray) (up : List UInt8) (zs : List Int) (t : Int) : Int × Int := if ((lck ns up zs).2 != 0) = true then lck ns up zs else if isL ns.length t = true then flV up (zs.map Int.toNat) t.toNat else (-1, 7)
theorem ljoin_any (v u : Value) (ns : List ByteArray) (up : List UInt8) (zs : List Int) (w : World) (hv : RdL w.heap.size w v ns up) (hz : RdI w.heap.size w u zs) :
    Calls Tryz.prog 13 #[v, u] w fun e w' => e = .returned (.tuple #[.int .i64 (jnV ns up zs), .int .i64 (lck ns up zs).2]) ∧ Below w.heap.size w w' := by
  cases e0 : ((lck ns up zs).2 != 0) with
  | true =>
    rw [show jnV ns up zs = 0 from if_pos e0]
    exact ljoin_bad v u ns up zs w hv hz e0
  | false =>
    obtain ⟨ls, rfl, hg⟩ := gl_of e0
    rw [show jnV ns up (ints ls) = _ from if_neg (by rw [e0]; decide), show (lck ns up (ints ls)).2 = 0 by rw [hg.lck], ints_nat]
    exact ljoin_ok v u ns up ls w hv (rd_nat hz) hg
theorem lmeet_any (v u : Value) (ns : List ByteArray) (up : List UInt8) (zs : List Int) (w : World) (hv : RdL w.heap.size w v ns up) (hz : RdI w.heap.size w u zs) :
    Calls Tryz.prog 14 #[v, u] w fun e w' => e = .returned (.tuple #[.int .i64 (mtV ns up zs), .int .i64 (lck ns up zs).2]) ∧ Below w.heap.size w w' := by
  cases e0 : ((lck ns up zs).2 != 0) with
  | true =>
    rw [show mtV ns up zs = 0 from if_pos e0]
    exact lmeet_bad v u ns up zs w hv hz e0
  | false =>
    obtain ⟨ls, rfl, hg⟩ := gl_of e0
    rw [show mtV ns up (ints ls) = _ from if_neg (by rw [e0]; decide), show (lck ns up (ints ls)).2 = 0 by rw [hg.lck], ints_nat]
    exact lmeet_ok v u ns up ls w hv (rd_nat hz) hg
theorem lflows_any (v u : Value) (ns : List ByteArray) (up : List UInt8) (zs : List Int) (t : Int) (w : World) (hv : RdL w.heap.size w v ns up) (hz : RdI w.heap.size w u zs) :
    Calls Tryz.prog 19 #[v, u, .int .i64 t] w fun e w' => e = .returned (.tuple #[.int .i64 (fwV ns up zs t).1, .int .i64 (fwV ns up zs t).2]) ∧ Below w.heap.size w w' := by
  cases e0 : ((lck ns up zs).2 != 0) with
  | true =>
    rw [show fwV ns up zs t = lck ns up zs from if_pos e0]
    exact lflows_bad v u ns up zs t w hv hz e0
  | false =>
    obtain ⟨ls, rfl, hg⟩ := gl_of e0
    have hnf : ¬ (((lck ns up (ints ls)).2 != 0) = true) := by rw [e0]; decide
    cases e1 : isL ns.length t with
    | false =>
      rw [show fwV ns up (ints ls) t = (-1, 7) by unfold fwV; rw [if_neg hnf, if_neg (by rw [e1]; decide)]]
      exact lflows_rng v u ns up ls t w hv (rd_nat hz) hg e1
    | true =>
      rw [show fwV ns up (ints ls) t = flV up ls t.toNat by unfold fwV; rw [if_neg hnf, if_pos e1, ints_nat]]
      have h1 := isL_iff.1 e1
      have h2 := hg.good.len
      obtain ⟨x, rfl⟩ : ∃ x : Nat, t = (x : Int) := ⟨t.toNat, by omega⟩
      rw [Int.toNat_natCast]
      exact lflows_ok v u ns up ls x w hv (rd_nat hz) hg (by omega)
end Go.Proofs.YtablaacddbkeiaaGreatDoor
