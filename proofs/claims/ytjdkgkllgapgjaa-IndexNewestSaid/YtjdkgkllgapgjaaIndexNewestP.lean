/- IndexNewest holds of this program for every input. No condition. -/
import Derived.Test.YtjdkgkllgapgjaaPxQ
import Derived.Test.YtjdkgkllgapgjaaIndexNewest
namespace Go.Proofs.Ytjdkgkllgapgjaa.indexNewest
theorem proved : Rows.IndexNewestSaid := over Px.prg
#print axioms proved
end Go.Proofs.Ytjdkgkllgapgjaa.indexNewest
