/- ReplayOrder holds of this program for every input: the order of records makes no difference where no two of an id have the same version. No condition. -/
import Derived.Test.YtckakkocblkcoaaRePrg
import Derived.Test.YtckakkocblkcoaaReplayOrder
namespace Go.Proofs.Ytckakkocblkcoaa.replayOrder
open Re
theorem proved : Rows.ReplayOrderSaid := over prg
#print axioms proved
end Go.Proofs.Ytckakkocblkcoaa.replayOrder
