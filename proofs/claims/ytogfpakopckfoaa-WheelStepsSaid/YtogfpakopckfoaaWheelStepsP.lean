/- WheelSteps holds of this program for every input: to advance in many steps tells the same, in the same order, as in one, and leaves the same timers. No condition. -/
import Derived.Test.YtogfpakopckfoaaWpT
import Derived.Test.YtogfpakopckfoaaWheelSteps
namespace Go.Proofs.Ytogfpakopckfoaa.wheelSteps
open Wl
theorem proved : Rows.WheelStepsSaid := over prg
#print axioms proved
end Go.Proofs.Ytogfpakopckfoaa.wheelSteps
