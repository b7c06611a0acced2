/- VictimOrder holds of this program for every input: none is better than itself, of two at most one is, what is better than a better one is better, and what is as good as one that is as good is as good. No condition. -/
import Derived.Test.YtgepkomomjmmhaaVjF
import Derived.Test.YtgepkomomjmmhaaVictimOrder
namespace Go.Proofs.Ytgepkomomjmmhaa.victimOrder
open Vi
theorem proved : Rows.VictimOrderSaid := over Vj.prg
#print axioms proved
end Go.Proofs.Ytgepkomomjmmhaa.victimOrder
