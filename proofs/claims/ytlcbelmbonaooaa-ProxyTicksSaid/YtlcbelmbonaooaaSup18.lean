/- Nothing is wanted here. -/
import Derived.Test.YtlcbelmbonaooaaB17
