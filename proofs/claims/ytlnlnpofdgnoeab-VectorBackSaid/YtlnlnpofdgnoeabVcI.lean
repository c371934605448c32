/- Vectors: the next event by the document; the example. -/
import Derived.Test.YtlnlnpofdgnoeabVcH
namespace Go.Proofs.Ytlnlnpofdgnoeab.Vc
open Go.RowKit Go.Proofs.Ytlnlnpofdgnoeab.Mem

/-- The greatest of the first so many, and of 0. -/
def tot (x : Nat → Int) : Nat → Int
  | 0 => 0
  | k + 1 => if tot x k < x k then x k else tot x k
theorem tot_top {x : Nat → Int} (h : ∀ i, i < 8 → 0 ≤ x i) : ∀ k, k < 8 → tot x (k + 1) = top x k
  | 0, hk => by
    have := h 0 hk
    show (if (0 : Int) < x 0 then x 0 else 0) = x 0
    split <;> omega
  | k + 1, hk => by
    have ih := tot_top h k (by omega)
    rw [tot, ih]
    rfl
theorem tot_good {x : Nat → Int} (h : goodB x = true) : tot x 8 = top x 7 := tot_top (fun i hi => (goodB_iff.1 h i hi).1) 7 (by decide)
theorem bad_who {w : Int} (h : ¬ (0 ≤ w ∧ w ≤ 7)) : whoB w = false := by
  unfold whoB
  by_cases h1 : 0 ≤ w
  · have : ¬ w < 8 := by omega
    simp [this]
  · simp [h1]
theorem good_who {w : Int} (h : 0 ≤ w) (h2 : w ≤ 7) : whoB w = true := by
  unfold whoB
  have : w < 8 := by omega
  simp [h, this]

end Go.Proofs.Ytlnlnpofdgnoeab.Vc
