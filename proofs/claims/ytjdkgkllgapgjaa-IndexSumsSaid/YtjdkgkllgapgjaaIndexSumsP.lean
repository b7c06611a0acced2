/- IndexSums holds of this program for every input. No condition. -/
import Derived.Test.YtjdkgkllgapgjaaPxQ
import Derived.Test.YtjdkgkllgapgjaaIndexSums
namespace Go.Proofs.Ytjdkgkllgapgjaa.indexSums
theorem proved : Rows.IndexSumsSaid := over Px.prg
#print axioms proved
end Go.Proofs.Ytjdkgkllgapgjaa.indexSums
