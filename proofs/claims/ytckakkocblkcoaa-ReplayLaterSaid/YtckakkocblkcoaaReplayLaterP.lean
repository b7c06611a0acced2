/- ReplayLater holds of this program for every input: what does not live at a time does not live later. No condition. -/
import Derived.Test.YtckakkocblkcoaaRePrg
import Derived.Test.YtckakkocblkcoaaReplayLater
namespace Go.Proofs.Ytckakkocblkcoaa.replayLater
open Re
theorem proved : Rows.ReplayLaterSaid := over prg
#print axioms proved
end Go.Proofs.Ytckakkocblkcoaa.replayLater
