/- Vectors: whether one may be; the document's own stamps. -/
import Derived.Test.YtlnlnpofdgnoeabVcE
namespace Go.Proofs.Ytlnlnpofdgnoeab.Vc
open Go.RowKit Go.Proofs.Ytlnlnpofdgnoeab.Mem

def goodB (x : Nat → Int) : Bool := (List.range 8).all fun i => decide (0 ≤ x i) && decide (x i ≤ 1099511627776)
theorem goodB_iff {x : Nat → Int} : goodB x = true ↔ ∀ i, i < 8 → 0 ≤ x i ∧ x i ≤ 1099511627776 := by
  unfold goodB
  simp only [List.all_eq_true, List.mem_range, Bool.and_eq_true, decide_eq_true_eq]
theorem good_low {x : Nat → Int} : goodB x = true ↔ 0 ≤ low x 7 ∧ top x 7 ≤ 1099511627776 := by
  rw [goodB_iff, low_iff, top_iff]
  exact ⟨fun h => ⟨fun i hi => (h i (by omega)).1, fun i hi => (h i (by omega)).2⟩, fun h i hi => ⟨h.1 i (by omega), h.2 i (by omega)⟩⟩
theorem good_any (x : Nat → Int) (W : World) : Calls Try.prog 18 #[.agg (vecC x)] W fun e W' => e = .returned (.bool (goodB x)) ∧ Below W.heap.size W W' := by
  have hb0 := Lib.hid ((Below.refl W.heap.size W).alloc (Nat.le_refl _) (.cells (vecC x) 23))
  have hx0 := Lib.hid (Has.fresh W 23 (vecC x))
  by_cases h1 : 0 ≤ low x 7
  · by_cases h2 : top x 7 ≤ 1099511627776
    · have HB := Lib.hid (good_low.2 ⟨h1, h2⟩)
      go_enter Try.func18, Try.ntmps18
      go_wp2_with fail
      refine (min_any x _ _ _ hx0.out).mono ?_
      rintro e w1 ⟨rfl, rfl⟩
      go_wp2_with fail
      refine (max_any x _ _ _ hx0.out).mono ?_
      rintro e w1 ⟨rfl, rfl⟩
      go_wp2
      go_ret
      exact ⟨by rw [HB.out]; rfl, hb0.out⟩
    · have HB := Lib.hid (Bool.eq_false_iff.2 fun h => h2 (good_low.1 h).2)
      have hd : decide (top x 7 ≤ 1099511627776) = false := decide_eq_false h2
      go_enter Try.func18, Try.ntmps18
      go_wp2_with fail
      refine (min_any x _ _ _ hx0.out).mono ?_
      rintro e w1 ⟨rfl, rfl⟩
      go_wp2_with fail
      refine (max_any x _ _ _ hx0.out).mono ?_
      rintro e w1 ⟨rfl, rfl⟩
      go_wp2
      go_ret
      exact ⟨by rw [HB.out]; rfl, hb0.out⟩
  · have HB := Lib.hid (Bool.eq_false_iff.2 fun h => h1 (good_low.1 h).1)
    go_enter Try.func18, Try.ntmps18
    go_wp2_with fail
    refine (min_any x _ _ _ hx0.out).mono ?_
    rintro e w1 ⟨rfl, rfl⟩
    go_wp2
    go_ret
    exact ⟨by rw [HB.out]; rfl, hb0.out⟩
end Go.Proofs.Ytlnlnpofdgnoeab.Vc
