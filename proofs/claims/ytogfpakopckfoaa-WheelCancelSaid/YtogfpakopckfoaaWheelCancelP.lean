/- WheelCancel holds of this program for every input: a timer that is cancelled is never told, and one that is set anew is told at its new deadline alone. No condition. -/
import Derived.Test.YtogfpakopckfoaaWpT
import Derived.Test.YtogfpakopckfoaaWheelCancel
namespace Go.Proofs.Ytogfpakopckfoaa.wheelCancel
open Wl
theorem proved : Rows.WheelCancelSaid := over prg
#print axioms proved
end Go.Proofs.Ytogfpakopckfoaa.wheelCancel
