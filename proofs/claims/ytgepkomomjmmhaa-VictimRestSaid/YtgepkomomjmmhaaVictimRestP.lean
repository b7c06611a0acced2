/- VictimRest holds of this program for every input: without one that was not picked the same one is picked, and with one more, behind, that is no better, too. No condition. -/
import Derived.Test.YtgepkomomjmmhaaVjF
import Derived.Test.YtgepkomomjmmhaaVictimRest
namespace Go.Proofs.Ytgepkomomjmmhaa.victimRest
open Vi
theorem proved : Rows.VictimRestSaid := over Vj.prg
#print axioms proved
end Go.Proofs.Ytgepkomomjmmhaa.victimRest
