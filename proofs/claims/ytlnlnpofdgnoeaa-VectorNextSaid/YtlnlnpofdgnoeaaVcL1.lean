/- VectorStamps, VectorTwo, VectorNext: walked, with what is known of what came in. -/
import Derived.Test.YtlnlnpofdgnoeaaVcW1
import Derived.Test.YtlnlnpofdgnoeaaVcOpen
namespace Go.Proofs.Ytlnlnpofdgnoeaa.Vc
open Go.RowKit
theorem stamps_law (a b c d : Int) (x : Nat → Int) (_ : (Lit.int .i64 a).wf = true) (_ : (Lit.int .i64 b).wf = true) (_ : (Lit.int .i64 c).wf = true) (_ : (Lit.int .i64 d).wf = true) (_ : ∀ i, i < 8 → (Lit.int .i64 (x i)).wf = true) (W : World) :
    Calls Try.prog 3 #[.agg (stC a b), .agg (stC c d), .agg (vecC x)] W fun e w' => e = .returned (.bool true) ∧ Below W.heap.size W w' := stamps_walk a b c d x W
theorem two_law (x y : Nat → Int) (_ : ∀ i, i < 8 → (Lit.int .i64 (x i)).wf = true) (_ : ∀ i, i < 8 → (Lit.int .i64 (y i)).wf = true) (W : World) :
    Calls Try.prog 4 #[.agg (vecC x), .agg (vecC y)] W fun e w' => e = .returned (.bool true) ∧ Below W.heap.size W w' := two_walk x y W
theorem next_law (x : Nat → Int) (who : Int) (_ : ∀ i, i < 8 → (Lit.int .i64 (x i)).wf = true) (_ : (Lit.int .i64 who).wf = true) (W : World) :
    Calls Try.prog 5 #[.agg (vecC x), .int .i64 who] W fun e w' => e = .returned (.bool true) ∧ Below W.heap.size W w' := next_walk x who W
end Go.Proofs.Ytlnlnpofdgnoeaa.Vc
