/- IndexOrder holds of this program for every input. No condition. -/
import Derived.Test.YtjdkgkllgapgjaaPxQ
import Derived.Test.YtjdkgkllgapgjaaIndexOrder
namespace Go.Proofs.Ytjdkgkllgapgjaa.indexOrder
theorem proved : Rows.IndexOrderSaid := over Px.prg
#print axioms proved
end Go.Proofs.Ytjdkgkllgapgjaa.indexOrder
