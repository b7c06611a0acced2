/- VictimPicks holds of this program for every input: which one of any two is better, which one of any many is picked, for any room, and in which order they are, is as the document says. No condition. -/
import Derived.Test.YtgepkomomjmmhaaVjF
import Derived.Test.YtgepkomomjmmhaaVictimPicks
namespace Go.Proofs.Ytgepkomomjmmhaa.victimPicks
open Vi
theorem proved : Rows.VictimPicksSaid := over Vj.prg
#print axioms proved
end Go.Proofs.Ytgepkomomjmmhaa.victimPicks
