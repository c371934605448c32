/- Words of stamps, a row that grows by a text, lines. -/
import Derived.Test.YtigkdoicmcdbhaaGreatTxB
import Derived.Test.YtigkdoicmcdbhaaGreatOpenE
import Derived.Test.YtigkdoicmcdbhaaGreatReg
import Derived.Test.YtigkdoicmcdbhaaGreatWho
namespace Go.Proofs.YtigkdoicmcdbhaaGreat.Sr
open Go.RowKit Go.Proofs.YtigkdoicmcdbhaaGreat.Mem Go.Proofs.YtigkdoicmcdbhaaGreat.Tx
open Go.Proofs.YtigkdoicmcdbhaaGreat.Fc (fitS NodeP LinkP NodeC nodeC linkC)
open Go.Proofs.YtigkdoicmcdbhaaGreat.Vc (vecC stC eq8 eqv neq_st)
set_option linter.unusedVariables false set_option linter.unusedSimpArgs false

theorem neq_vec (x y : Nat → Int) (w : World) : (binOp .neq 24 (.agg (vecC x)) (.agg (vecC y))).run Tryz.prog w = .ok (.bool (!eq8 x y)) w := by
  simp only [binOp]
  simp [Op.equal, Op.maxDepth, eqv]
theorem stC_eq (a b : Int) : stC a b = #[.int .i64 a, .int .i64 b] := rfl
def zeroS (s : Int × Int) : Bool := s.1 == 0 && s.2 == 0
def zero8 (x : Nat → Int) : Bool := eq8 x (fun _ => 0)

end Go.Proofs.YtigkdoicmcdbhaaGreat.Sr
