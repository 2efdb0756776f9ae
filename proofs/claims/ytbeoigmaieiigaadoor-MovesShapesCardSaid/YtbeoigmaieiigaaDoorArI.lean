/- Int and Ints of both, the law's vector. -/
import Derived.Test.YtbeoigmaieiigaaDoorArH
namespace Go.Proofs.YtbeoigmaieiigaaDoor
open Go.RowKit

def inA (n : Int) : Ar := ⟨1, 0, 0, 0, [n]⟩
end Go.Proofs.YtbeoigmaieiigaaDoor
