/- What recover hands back is told apart by its type. -/
import Derived.Test.YtpbfbejckhbijaaDoorExA
import Derived.Recover
namespace Go.Proofs.YtpbfbejckhbijaaDoor
open Go.RowKit

set_option maxRecDepth 100000 in
theorem ta_er (E : Int) (w : World) : (Instr.typeAssert (.iface 28 (.int .i64 E)) 20 28 true).run Tryd.prog w = .ok (.tuple #[.int .i64 E, .bool true]) w := by kernel_rfl
set_option maxRecDepth 100000 in
theorem ta_nil (w : World) : (Instr.typeAssert .nilIface 20 28 true).run Tryd.prog w = .ok (.tuple #[.int .i64 0, .bool false]) w := by kernel_rfl
end Go.Proofs.YtpbfbejckhbijaaDoor
