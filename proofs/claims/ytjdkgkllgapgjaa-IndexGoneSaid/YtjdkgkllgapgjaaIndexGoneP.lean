/- IndexGone holds of this program for every input. No condition. -/
import Derived.Test.YtjdkgkllgapgjaaPxQ
import Derived.Test.YtjdkgkllgapgjaaIndexGone
namespace Go.Proofs.Ytjdkgkllgapgjaa.indexGone
theorem proved : Rows.IndexGoneSaid := over Px.prg
#print axioms proved
end Go.Proofs.Ytjdkgkllgapgjaa.indexGone
