/- VictimBest holds of this program for every input: than the one that is picked none is better of those that need no more room, none ahead of it is as good, and more room picks one that is no worse. No condition. -/
import Derived.Test.YtgepkomomjmmhaaVjF
import Derived.Test.YtgepkomomjmmhaaVictimBest
namespace Go.Proofs.Ytgepkomomjmmhaa.victimBest
open Vi
theorem proved : Rows.VictimBestSaid := over Vj.prg
#print axioms proved
end Go.Proofs.Ytgepkomomjmmhaa.victimBest
