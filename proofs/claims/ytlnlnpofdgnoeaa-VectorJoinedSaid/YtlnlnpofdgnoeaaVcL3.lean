/- VectorJoined, walked, beside how what came in is opened. -/
import Derived.Test.YtlnlnpofdgnoeaaVcW3
import Derived.Test.YtlnlnpofdgnoeaaVcOpen
