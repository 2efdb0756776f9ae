/- The reference's In. -/
import Derived.Test.YtpbfbejckhbijaaDoorFiH
namespace Go.Proofs.YtpbfbejckhbijaaDoor
open Go.RowKit

end Go.Proofs.YtpbfbejckhbijaaDoor
