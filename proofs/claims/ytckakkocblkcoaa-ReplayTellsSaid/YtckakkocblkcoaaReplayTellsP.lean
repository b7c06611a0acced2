/- ReplayTells holds of this program for every input: the document's newest records, sessions and records up to a version are told. No condition. -/
import Derived.Test.YtckakkocblkcoaaRePrg
import Derived.Test.YtckakkocblkcoaaReplayTells
namespace Go.Proofs.Ytckakkocblkcoaa.replayTells
open Re
theorem proved : Rows.ReplayTellsSaid := over prg
#print axioms proved
end Go.Proofs.Ytckakkocblkcoaa.replayTells
