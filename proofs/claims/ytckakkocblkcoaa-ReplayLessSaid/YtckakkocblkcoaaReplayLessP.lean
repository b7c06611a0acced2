/- ReplayLess holds of this program for every input: a record that is not the newest, or stands twice, makes no difference to the sessions. No condition. -/
import Derived.Test.YtckakkocblkcoaaRePrg
import Derived.Test.YtckakkocblkcoaaReplayLess
namespace Go.Proofs.Ytckakkocblkcoaa.replayLess
open Re
theorem proved : Rows.ReplayLessSaid := over prg
#print axioms proved
end Go.Proofs.Ytckakkocblkcoaa.replayLess
