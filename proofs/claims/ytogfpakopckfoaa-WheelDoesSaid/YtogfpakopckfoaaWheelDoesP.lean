/- WheelDoes holds of this program for every input: whatever timers are set, set anew and cancelled, and however time goes on, what is told, found and counted is as the document says. No condition. -/
import Derived.Test.YtogfpakopckfoaaWpT
import Derived.Test.YtogfpakopckfoaaWheelDoes
namespace Go.Proofs.Ytogfpakopckfoaa.wheelDoes
open Wl
theorem proved : Rows.WheelDoesSaid := over prg
#print axioms proved
end Go.Proofs.Ytogfpakopckfoaa.wheelDoes
