/- The lower layers' texts, joined (shake.py, K 7). -/
import Derived.Test.YtfjffmjnnjckkaaK71
import Derived.Test.YtfjffmjnnjckkaaK72
import Derived.Test.YtfjffmjnnjckkaaK73
import Derived.Test.YtfjffmjnnjckkaaK74
import Derived.Test.YtfjffmjnnjckkaaK75
import Derived.Test.YtfjffmjnnjckkaaK76
import Derived.Test.YtfjffmjnnjckkaaK77
import Derived.Test.YtfjffmjnnjckkaaK78
import Derived.Test.YtfjffmjnnjckkaaK79
import Derived.Test.YtfjffmjnnjckkaaK710
import Derived.Test.YtfjffmjnnjckkaaK711
import Derived.Test.YtfjffmjnnjckkaaK712
import Derived.Test.YtfjffmjnnjckkaaK713
