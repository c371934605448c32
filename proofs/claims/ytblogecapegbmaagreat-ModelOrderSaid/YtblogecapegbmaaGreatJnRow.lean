/- States by their rows alone. -/
import Derived.Test.YtblogecapegbmaaGreatJnM
namespace Go.Proofs.YtblogecapegbmaaGreat.Fc
open Go.RowKit Go.Proofs.YtblogecapegbmaaGreat.Mem Go.Proofs.YtblogecapegbmaaGreat.Vc
set_option linter.unusedVariables false

structure NodeRow (w : World) (x : NodeC) : Prop where
  ps : SRow w 4 pieceC x.A1 x.n1 x.p.ps
  xs : SRow w 5 xattrC x.A2 x.n2 x.p.xs
  m1 : x.n1 ≤ 9223372036854775807
  m2 : x.n2 ≤ 9223372036854775807
theorem NodeRow.below {w w' : World} {x : NodeC} (h : NodeRow w x) (hb : Below w.heap.size w w') : NodeRow w' x := ⟨h.ps.below hb, h.xs.below hb, h.m1, h.m2⟩
structure StateRow (w : World) (s : StateC) : Prop where
  nodes : SRow w 13 nodeC s.A1 s.n1 s.nodes
  links : SRow w 25 linkC s.A2 s.n2 s.links
  m1 : s.n1 ≤ 9223372036854775807
  m2 : s.n2 ≤ 9223372036854775807
  each : ∀ x ∈ s.nodes, NodeRow w x
theorem StateRow.below {w w' : World} {s : StateC} (h : StateRow w s) (hb : Below w.heap.size w w') : StateRow w' s := ⟨h.nodes.below hb, h.links.below hb, h.m1, h.m2, fun x hx => (h.each x hx).below hb⟩

/-- The same. -/
def SameP (a b : StateC) : Prop := (∀ i, i < 8 → a.seen i = b.seen i) ∧ a.nodes.map NodeC.p = b.nodes.map NodeC.p ∧ a.links.map linkC = b.links.map linkC
end Go.Proofs.YtblogecapegbmaaGreat.Fc
