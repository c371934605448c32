/- Vectors: the next event; the example. -/
import Derived.Test.YtfjmcklmoebnaaaDoorVcG
namespace Go.Proofs.YtfjmcklmoebnaaaDoor.Vc
open Go.RowKit Go.Proofs.YtfjmcklmoebnaaaDoor.Mem

def nextV (x : Nat → Int) (who : Int) : Value :=
  if whoB who = true ∧ goodB x = true then
    (if top x 7 = 1099511627776 then .tuple #[.agg (stC 0 0), .int .i64 75] else .tuple #[.agg (stC (top x 7 + 1) who), .int .i64 0])
  else .tuple #[.agg (stC 0 0), .int .i64 22]
theorem next_bad {x : Nat → Int} {who : Int} (h : ¬ (whoB who = true ∧ goodB x = true)) : nextV x who = .tuple #[.agg (stC 0 0), .int .i64 22] := if_neg h
theorem next_far {x : Nat → Int} {who : Int} (h1 : whoB who = true) (h2 : goodB x = true) (h : top x 7 = 1099511627776) : nextV x who = .tuple #[.agg (stC 0 0), .int .i64 75] := by
  unfold nextV
  rw [if_pos ⟨h1, h2⟩, if_pos h]
theorem next_ok {x : Nat → Int} {who : Int} (h1 : whoB who = true) (h2 : goodB x = true) (h : ¬ top x 7 = 1099511627776) : nextV x who = .tuple #[.agg (stC (top x 7 + 1) who), .int .i64 0] := by
  unfold nextV
  rw [if_pos ⟨h1, h2⟩, if_neg h]
theorem good_bounds {x : Nat → Int} (h : goodB x = true) : 0 ≤ top x 7 ∧ top x 7 ≤ 1099511627776 := by
  have h1 := good_low.1 h
  have h2 := ((low_iff x 0 7).1 h1.1) 0 (by omega)
  have h3 := ((top_iff x (top x 7) 7).1 (Int.le_refl _)) 0 (by omega)
  omega

section
variable {w : World} {g : Nat} {t : TypeId}
theorem cells_put2 {a b : Int} (h : Has w g t (stC a b)) (c d : Int) : (w.setCell ⟨g, 0, none⟩ (.int .i64 c)).cell? ⟨g, 0, none⟩ = some (.int .i64 c) ∧ ((w.setCell ⟨g, 0, none⟩ (.int .i64 c)).setCell ⟨g, 1, none⟩ (.int .i64 d)).cell? ⟨g, 1, none⟩ = some (.int .i64 d) :=
  ⟨Has.at_ (h.put 0 (.int .i64 c)) 0, Has.at_ (Has.put (h.put 0 (.int .i64 c)) 1 (.int .i64 d)) 1⟩
theorem below_put2 {B : Nat} {u : World} (h : Below B u w) (hg : B ≤ g) (c d : Int) : Below B u ((w.setCell ⟨g, 0, none⟩ (.int .i64 c)).setCell ⟨g, 1, none⟩ (.int .i64 d)) :=
  (h.setCell (p := ⟨g, 0, none⟩) hg _).setCell (p := ⟨g, 1, none⟩) hg _
end

end Go.Proofs.YtfjmcklmoebnaaaDoor.Vc
