/- The reference's At, In and Pick. -/
import Derived.Test.YtpbfbejckhbijaaDoorFiG
import Derived.Deep.DeepCutAuto
namespace Go.Proofs.YtpbfbejckhbijaaDoor
open Go.RowKit

theorem twoE_a {A B : Ar} {kA kB lA mA lB mB : Int} (h : ck A ≠ 0) : twoE A B kA kB lA mA lB mB = ck A := if_neg h
theorem twoE_b {A B : Ar} {kA kB lA mA lB mB : Int} (h : ck A = 0) (h2 : ck B ≠ 0) : twoE A B kA kB lA mA lB mB = ck B := (if_pos h).trans (if_neg h2)
theorem twoE_k {A B : Ar} {kA kB lA mA lB mB : Int} (h : ck A = 0) (h2 : ck B = 0) (h3 : ¬ (A.k = kA ∧ B.k = kB)) : twoE A B kA kB lA mA lB mB = 21 := (if_pos h).trans ((if_pos h2).trans (if_neg h3))
theorem twoE_r {A B : Ar} {kA kB lA mA lB mB : Int} (h : ck A = 0) (h2 : ck B = 0) (h3 : A.k = kA ∧ B.k = kB) (h4 : A.r < lA ∨ mA < A.r ∨ B.r < lB ∨ mB < B.r) : twoE A B kA kB lA mA lB mB = 22 := (if_pos h).trans ((if_pos h2).trans ((if_pos h3).trans (if_pos h4)))
theorem twoE_y {A B : Ar} {kA kB lA mA lB mB : Int} (h : ck A = 0) (h2 : ck B = 0) (h3 : A.k = kA ∧ B.k = kB) (h4 : ¬ (A.r < lA ∨ mA < A.r ∨ B.r < lB ∨ mB < B.r)) : twoE A B kA kB lA mA lB mB = 0 := (if_pos h).trans ((if_pos h2).trans ((if_pos h3).trans (if_neg h4)))
end Go.Proofs.YtpbfbejckhbijaaDoor
