/- WheelOrder holds of this program for every input: what an advance tells is in order of deadlines, of one of ids, none above its time, and no one twice. No condition. -/
import Derived.Test.YtogfpakopckfoaaWpT
import Derived.Test.YtogfpakopckfoaaWheelOrder
namespace Go.Proofs.Ytogfpakopckfoaa.wheelOrder
open Wl
theorem proved : Rows.WheelOrderSaid := over prg
#print axioms proved
end Go.Proofs.Ytogfpakopckfoaa.wheelOrder
