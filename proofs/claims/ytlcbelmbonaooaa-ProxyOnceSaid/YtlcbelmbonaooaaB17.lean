/- The lower texts. -/
import Derived.Test.YtlcbelmbonaooaaK71
import Derived.Test.YtlcbelmbonaooaaK72
import Derived.Test.YtlcbelmbonaooaaK73
import Derived.Test.YtlcbelmbonaooaaK74
import Derived.Test.YtlcbelmbonaooaaK75
import Derived.Test.YtlcbelmbonaooaaK76
import Derived.Test.YtlcbelmbonaooaaK77
import Derived.Test.YtlcbelmbonaooaaK78
import Derived.Test.YtlcbelmbonaooaaK79
import Derived.Test.YtlcbelmbonaooaaK710
import Derived.Test.YtlcbelmbonaooaaK711
import Derived.Test.YtlcbelmbonaooaaK712
import Derived.Test.YtlcbelmbonaooaaK713
