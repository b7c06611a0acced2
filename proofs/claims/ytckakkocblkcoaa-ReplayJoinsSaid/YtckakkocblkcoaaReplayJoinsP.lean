/- ReplayJoins holds of this program for every input: the newest records of two lists joined are those of the newest ones of each. No condition. -/
import Derived.Test.YtckakkocblkcoaaRePrg
import Derived.Test.YtckakkocblkcoaaReplayJoins
namespace Go.Proofs.Ytckakkocblkcoaa.replayJoins
open Re
theorem proved : Rows.ReplayJoinsSaid := over prg
#print axioms proved
end Go.Proofs.Ytckakkocblkcoaa.replayJoins
