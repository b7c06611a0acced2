/- VictimAll holds of this program for every input: the order has each place once, none ahead of a better one, and of those that are as good the first one first. No condition. -/
import Derived.Test.YtgepkomomjmmhaaVjF
import Derived.Test.YtgepkomomjmmhaaVictimAll
namespace Go.Proofs.Ytgepkomomjmmhaa.victimAll
open Vi
theorem proved : Rows.VictimAllSaid := over Vj.prg
#print axioms proved
end Go.Proofs.Ytgepkomomjmmhaa.victimAll
