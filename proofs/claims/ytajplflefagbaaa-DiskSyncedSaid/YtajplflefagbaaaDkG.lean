/-
  The code's device (layer 8): its contracts, all in one place.
-/
import Derived.Test.YtajplflefagbaaaDkN
import Derived.Test.YtajplflefagbaaaDkR
import Derived.Test.YtajplflefagbaaaDkO
import Derived.Test.YtajplflefagbaaaDcF
import Derived.Test.YtajplflefagbaaaDcJ
import Derived.Test.YtajplflefagbaaaDcL
