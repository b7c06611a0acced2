/- ReplayTomb holds of this program for every input: a Tomb of a greater version takes just its session away, a Live one brings just it. No condition. -/
import Derived.Test.YtckakkocblkcoaaRePrg
import Derived.Test.YtckakkocblkcoaaReplayTomb
namespace Go.Proofs.Ytckakkocblkcoaa.replayTomb
open Re
theorem proved : Rows.ReplayTombSaid := over prg
#print axioms proved
end Go.Proofs.Ytckakkocblkcoaa.replayTomb
