/- VictimScale holds of this program for every input: where all are as many times older, which is picked, and in which order, stays the same. No condition. -/
import Derived.Test.YtgepkomomjmmhaaVjF
import Derived.Test.YtgepkomomjmmhaaVictimScale
namespace Go.Proofs.Ytgepkomomjmmhaa.victimScale
open Vi
theorem proved : Rows.VictimScaleSaid := over Vj.prg
#print axioms proved
end Go.Proofs.Ytgepkomomjmmhaa.victimScale
