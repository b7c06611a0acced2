/- WheelOnce holds of this program for every input: each timer that is set once is told once, by the first advance to its deadline or beyond, and not ahead of that. No condition. -/
import Derived.Test.YtogfpakopckfoaaWpT
import Derived.Test.YtogfpakopckfoaaWheelOnce
namespace Go.Proofs.Ytogfpakopckfoaa.wheelOnce
open Wl
theorem proved : Rows.WheelOnceSaid := over prg
#print axioms proved
end Go.Proofs.Ytogfpakopckfoaa.wheelOnce
