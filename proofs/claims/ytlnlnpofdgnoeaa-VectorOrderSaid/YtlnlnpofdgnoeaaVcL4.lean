/- VectorOrder, walked, beside how what came in is opened. -/
import Derived.Test.YtlnlnpofdgnoeaaVcW4
import Derived.Test.YtlnlnpofdgnoeaaVcOpen
