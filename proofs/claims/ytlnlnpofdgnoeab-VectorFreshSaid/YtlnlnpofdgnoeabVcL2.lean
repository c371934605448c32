/- VectorFresh, walked, beside how what came in is opened. -/
import Derived.Test.YtlnlnpofdgnoeabVcW2
import Derived.Test.YtlnlnpofdgnoeabVcOpen
