/- VectorBytes, walked, beside how bytes that came in are opened. -/
import Derived.Test.YtlnlnpofdgnoeaaVcW7
import Derived.Test.YtlnlnpofdgnoeaaOpenB
