/- The reference: asked, Leq, Join, Meet, Bottom, Top. -/
import Derived.Test.YtablaacddbkeiaaGreatDoorLtU
namespace Go.Proofs.YtablaacddbkeiaaGreatDoor
open Go.RowKit

theorem Good.pre {ns : List ByteArray} {up : List UInt8} (h : Good ns up) : Pre up := (pre_of h.bad).1
theorem Good.n8 {ns : List ByteArray} {up : List UInt8} (h : Good ns up) : up.length ≤ 8 := by have := h.most; have := h.len; omega
theorem Good.nrJ {ns : List ByteArray} {up : List UInt8} (h : Good ns up) {a b : Nat} (ha : a < up.length) (hb : b < up.length) : nrV up a b = (J (le up) up.length a b : Int) :=
  nrV_J (nr_mt h.pre ha hb) (h.ords.1.ex a b ha hb)
theorem Good.nrM {ns : List ByteArray} {up : List UInt8} (h : Good ns up) {a b : Nat} (ha : a < up.length) (hb : b < up.length) : nrV (dnU up) a b = (J (ge up) up.length a b : Int) :=
  nrV_J (nr_dn h.pre h.n8 ha hb) (h.ords.2.ex a b ha hb)

theorem cl00 {ns : List ByteArray} {up : List UInt8} : cl ns up 0 0 = (ck ns up).2 := by
  cases h : ((ck ns up).2 != 0)
  · have hz : (ck ns up).2 = 0 := by simpa using h
    have := (good_of hz).pos
    rw [cl_3 h (by omega), hz]
  · exact cl_1 h
end Go.Proofs.YtablaacddbkeiaaGreatDoor
