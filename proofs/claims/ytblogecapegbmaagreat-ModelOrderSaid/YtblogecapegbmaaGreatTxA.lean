import Derived.Test.YtblogecapegbmaaGreatMem
import Derived.Lib.ItoaLen
import Derived.Lib.LaidTab
import Derived.Deep.AppendLies
import Derived.Laws.AppendOwn

/- Numbers as text, rows of texts, texts joined: the library's. -/
namespace Go.Proofs.YtblogecapegbmaaGreat.Tx
open Go.RowKit Go.Proofs.YtblogecapegbmaaGreat.Mem
set_option linter.unusedVariables false set_option linter.unusedSimpArgs false

def fitI (x : Int) : Prop := -9223372036854775808 ≤ x ∧ x ≤ 9223372036854775807
end Go.Proofs.YtblogecapegbmaaGreat.Tx
