/- The appends and the plain side of ReplayTomb together. -/
import Derived.Test.YtckakkocblkcoaaReR
import Derived.Test.YtckakkocblkcoaaReS
