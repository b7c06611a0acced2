/- WheelPlaces holds of this program for every input: where any deadline stands, at any time, is as the document says. No condition. -/
import Derived.Test.YtogfpakopckfoaaWpT
import Derived.Test.YtogfpakopckfoaaWheelPlaces
namespace Go.Proofs.Ytogfpakopckfoaa.wheelPlaces
open Wl
theorem proved : Rows.WheelPlacesSaid := over prg
#print axioms proved
end Go.Proofs.Ytogfpakopckfoaa.wheelPlaces
