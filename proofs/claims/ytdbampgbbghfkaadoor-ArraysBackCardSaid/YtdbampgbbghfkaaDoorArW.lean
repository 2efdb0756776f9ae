/- slices.Equal; Same of the code. -/
import Derived.Test.YtdbampgbbghfkaaDoorArG
namespace Go.Proofs.YtdbampgbbghfkaaDoor
open Go.RowKit

end Go.Proofs.YtdbampgbbghfkaaDoor
