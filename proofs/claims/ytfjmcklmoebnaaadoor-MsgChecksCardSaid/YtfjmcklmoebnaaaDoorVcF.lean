/- Vectors: whether one may be; the document's own stamps. -/
import Derived.Test.YtfjmcklmoebnaaaDoorVcE
namespace Go.Proofs.YtfjmcklmoebnaaaDoor.Vc
open Go.RowKit Go.Proofs.YtfjmcklmoebnaaaDoor.Mem

def goodB (x : Nat → Int) : Bool := (List.range 8).all fun i => decide (0 ≤ x i) && decide (x i ≤ 1099511627776)
theorem goodB_iff {x : Nat → Int} : goodB x = true ↔ ∀ i, i < 8 → 0 ≤ x i ∧ x i ≤ 1099511627776 := by
  unfold goodB
  simp only [List.all_eq_true, List.mem_range, Bool.and_eq_true, decide_eq_true_eq]
theorem good_low {x : Nat → Int} : goodB x = true ↔ 0 ≤ low x 7 ∧ top x 7 ≤ 1099511627776 := by
  rw [goodB_iff, low_iff, top_iff]
  exact ⟨fun h => ⟨fun i hi => (h i (by omega)).1, fun i hi => (h i (by omega)).2⟩, fun h i hi => ⟨h.1 i (by omega), h.2 i (by omega)⟩⟩
theorem good_any (x : Nat → Int) (W : World) : Calls Tryd.prog 56 #[.agg (vecC x)] W fun e W' => e = .returned (.bool (goodB x)) ∧ Below W.heap.size W W' := by
  have hb0 := Lib.hid ((Below.refl W.heap.size W).alloc (Nat.le_refl _) (.cells (vecC x) 25))
  have hx0 := Lib.hid (Has.fresh W 25 (vecC x))
  by_cases h1 : 0 ≤ low x 7
  · by_cases h2 : top x 7 ≤ 1099511627776
    · have HB := Lib.hid (good_low.2 ⟨h1, h2⟩)
      go_enter Tryd.func56, Tryd.ntmps56
      go_wp2_with fail
      refine (min_any x _ _ _ hx0.out).mono ?_
      rintro e w1 ⟨rfl, rfl⟩
      go_wp2_with fail
      refine (max_any x _ _ _ hx0.out).mono ?_
      rintro e w1 ⟨rfl, rfl⟩
      go_wp2
      go_ret
      exact ⟨by rw [HB.out]; rfl, hb0.out⟩
    · have HB := Lib.hid (Bool.eq_false_iff.2 fun h => h2 (good_low.1 h).2)
      have hd : decide (top x 7 ≤ 1099511627776) = false := decide_eq_false h2
      go_enter Tryd.func56, Tryd.ntmps56
      go_wp2_with fail
      refine (min_any x _ _ _ hx0.out).mono ?_
      rintro e w1 ⟨rfl, rfl⟩
      go_wp2_with fail
      refine (max_any x _ _ _ hx0.out).mono ?_
      rintro e w1 ⟨rfl, rfl⟩
      go_wp2
      go_ret
      exact ⟨by rw [HB.out]; rfl, hb0.out⟩
  · have HB := Lib.hid (Bool.eq_false_iff.2 fun h => h1 (good_low.1 h).1)
    go_enter Tryd.func56, Tryd.ntmps56
    go_wp2_with fail
    refine (min_any x _ _ _ hx0.out).mono ?_
    rintro e w1 ⟨rfl, rfl⟩
    go_wp2
    go_ret
    exact ⟨by rw [HB.out]; rfl, hb0.out⟩
set_option maxHeartbeats 1000000 in
theorem rgood_any (x : Nat → Int) (W : World) : Calls Tryd.prog 24 #[.agg (vecC x)] W fun e W' => e = .returned (.bool (goodB x)) ∧ Below W.heap.size W W' := by
  have HB := Lib.hid ((Below.refl W.heap.size W).alloc (Nat.le_refl _) (.cells (vecC x) 25))
  have HX := Lib.hid (Has.fresh W 25 (vecC x))
  go_enter Tryd.func24, Tryd.ntmps24
  go_wp2
  go_loop [4] (fun i => ∃ k : Nat, k ≤ 8 ∧ i = .int .i64 k ∧ Hid (∀ j, j < k → 0 ≤ x j ∧ x j ≤ 1099511627776)) (fun i => 8 - (intOf i).toNat)
  case atStart => exact ⟨0, by omega, rfl, Lib.hid (fun j h => absurd h (by omega))⟩
  case round =>
    obtain ⟨k, hk, rfl, hT⟩ := hrel
    by_cases hlt : k < 8
    · have k1 : (k : Int) < 8 := by omega
      have cx := has_vec_at HX.out hlt
      by_cases h1 : 0 ≤ x k
      · by_cases h2 : x k ≤ 1099511627776
        · have e1 := Lib.hid (show ∀ j, j < k + 1 → 0 ≤ x j ∧ x j ≤ 1099511627776 by
            intro j hj
            by_cases e : j = k
            · subst e; exact ⟨h1, h2⟩
            · exact hT.out j (by omega))
          go_wp2
          go_round
          case rel => exact ⟨k + 1, by omega, by go_num, e1⟩
          case measure => simp [intOf]; omega
        · have e1 := Lib.hid (show goodB x = false by
            rw [Bool.eq_false_iff]
            intro h
            exact h2 (goodB_iff.1 h k hlt).2)
          go_wp2
          go_ret
          exact ⟨by rw [e1.out]; rfl, HB.out⟩
      · have e1 := Lib.hid (show goodB x = false by
          rw [Bool.eq_false_iff]
          intro h
          exact h1 (goodB_iff.1 h k hlt).1)
        go_wp2
        go_ret
        exact ⟨by rw [e1.out]; rfl, HB.out⟩
    · obtain rfl : k = 8 := by omega
      have e1 := Lib.hid (show goodB x = true from goodB_iff.2 hT.out)
      go_wp2
      go_ret
      exact ⟨by rw [e1.out]; rfl, HB.out⟩
end Go.Proofs.YtfjmcklmoebnaaaDoor.Vc
