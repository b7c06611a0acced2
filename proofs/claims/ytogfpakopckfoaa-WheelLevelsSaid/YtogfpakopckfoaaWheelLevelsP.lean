/- WheelLevels holds of this program for every input: the levels have as many timers as there are, each where Place tells of its deadline at the time of the wheel. No condition. -/
import Derived.Test.YtogfpakopckfoaaWpT
import Derived.Test.YtogfpakopckfoaaWheelLevels
namespace Go.Proofs.Ytogfpakopckfoaa.wheelLevels
open Wl
theorem proved : Rows.WheelLevelsSaid := over prg
#print axioms proved
end Go.Proofs.Ytogfpakopckfoaa.wheelLevels
