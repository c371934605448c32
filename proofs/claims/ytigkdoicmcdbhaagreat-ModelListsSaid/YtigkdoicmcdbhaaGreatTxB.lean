import Derived.Test.YtigkdoicmcdbhaaGreatTxA
import Derived.Laws.NewBlocks
import Derived.Laws.BytesArg
import Derived.Laws.BytesString
import Derived.Deep.LoopGhost

/- Numbers in decimal digits: the document's. -/
namespace Go.Proofs.YtigkdoicmcdbhaaGreat.Tx
open Go.RowKit Go.Proofs.YtigkdoicmcdbhaaGreat.Mem
set_option linter.unusedVariables false set_option linter.unusedSimpArgs false

end Go.Proofs.YtigkdoicmcdbhaaGreat.Tx
