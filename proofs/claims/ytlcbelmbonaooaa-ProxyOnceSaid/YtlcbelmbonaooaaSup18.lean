/- Nothing more. -/
import Derived.Test.YtlcbelmbonaooaaB17
