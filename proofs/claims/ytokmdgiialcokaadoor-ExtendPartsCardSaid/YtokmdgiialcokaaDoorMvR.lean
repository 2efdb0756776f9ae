/- The reference's Two, taken, Take and Drop. -/
import Derived.Test.YtokmdgiialcokaaDoorMvZ
import Derived.Test.YtokmdgiialcokaaDoorMvP
namespace Go.Proofs.YtokmdgiialcokaaDoor
open Go.RowKit

/-- How many cells are taken, and from which end. -/
def tknN (n : Int) (m : Nat) : Nat := if n < 0 then m - ((m : Int) + n).toNat else min n.toNat m
end Go.Proofs.YtokmdgiialcokaaDoor
