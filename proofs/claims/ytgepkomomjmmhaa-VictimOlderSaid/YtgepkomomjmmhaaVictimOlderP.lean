/- VictimOlder holds of this program for every input: one that is older, of the same records, is not worse, nor is one of which less lives. No condition. -/
import Derived.Test.YtgepkomomjmmhaaVjF
import Derived.Test.YtgepkomomjmmhaaVictimOlder
namespace Go.Proofs.Ytgepkomomjmmhaa.victimOlder
open Vi
theorem proved : Rows.VictimOlderSaid := over Vj.prg
#print axioms proved
end Go.Proofs.Ytgepkomomjmmhaa.victimOlder
