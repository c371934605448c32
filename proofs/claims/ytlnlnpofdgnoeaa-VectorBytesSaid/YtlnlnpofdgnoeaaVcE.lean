/- Vectors: one within another by the document; the least and the greatest number; whether one may be. -/
import Derived.Test.YtlnlnpofdgnoeaaVcD
namespace Go.Proofs.Ytlnlnpofdgnoeaa.Vc
open Go.RowKit Go.Proofs.Ytlnlnpofdgnoeaa.Mem

set_option maxHeartbeats 1000000 in
theorem rwithin_any (x y : Nat → Int) (W : World) : Calls Try.prog 25 #[.agg (vecC x), .agg (vecC y)] W fun e W' => e = .returned (.bool (withinB x y)) ∧ Below W.heap.size W W' := by
  have hb0 := ((Below.refl W.heap.size W).alloc (Nat.le_refl _) (.cells (vecC x) 25)).alloc (by simp) (.cells (vecC y) 25)
  have hx0 := (Has.fresh W 25 (vecC x)).past (.cells (vecC y) 25)
  have hy0 := Has.fresh (W.alloc (.cells (vecC x) 25)) 25 (vecC y)
  rw [World.size_alloc] at hy0
  have HX := Lib.hid hx0
  have HY := Lib.hid hy0
  have HB := Lib.hid hb0
  clear hx0 hy0 hb0
  go_enter Try.func25, Try.ntmps25
  go_wp2
  go_loopw [6] (fun i wr => ∃ k : Nat, k ≤ 8 ∧ i = .int .i64 k ∧ Hid (∀ j, j < k → x j ≤ y j) ∧ Hid (Has wr W.heap.size 25 (vecC x)) ∧ Hid (Has wr (W.heap.size + 1) 25 (vecC y)) ∧ Hid (Below W.heap.size W wr)) (fun i _ => 8 - (intOf i).toNat)
  case atStart => exact ⟨0, by omega, rfl, Lib.hid (fun j h => absurd h (by omega)), HX, HY, HB⟩
  case round =>
    obtain ⟨k, hk, rfl, hT, hX, hY, hB⟩ := hrel
    by_cases hlt : k < 8
    · have k1 : (k : Int) < 8 := by omega
      have cx := has_vec_at hX.out.drew hlt
      have cy := has_vec_at hY.out.drew hlt
      by_cases hc : y k < x k
      · have e1 := Lib.hid (show withinB x y = false by
          rw [Bool.eq_false_iff]
          intro h
          have := withinB_iff.1 h k hlt
          omega)
        go_wp2
        go_region
        go_wp2
        go_ret
        exact ⟨by rw [e1.out]; rfl, hB.out.drew⟩
      · have e1 := Lib.hid (show ∀ j, j < k + 1 → x j ≤ y j by
          intro j hj
          by_cases e : j = k
          · subst e; omega
          · exact hT.out j (by omega))
        go_wp2
        go_region
        go_wp2
        go_roundw
        case rel => exact ⟨k + 1, by omega, by go_num, e1, Lib.hid hX.out.drew, Lib.hid hY.out.drew, Lib.hid hB.out.drew⟩
        case measure => simp [intOf]; omega
    · obtain rfl : k = 8 := by omega
      have e1 := Lib.hid (show withinB x y = true from withinB_iff.2 hT.out)
      go_wp2
      go_ret
      exact ⟨by rw [e1.out]; rfl, hB.out⟩

/-- The least, the greatest of the first so many and one. -/
def low (x : Nat → Int) : Nat → Int
  | 0 => x 0
  | k + 1 => if x (k + 1) < low x k then x (k + 1) else low x k
def top (x : Nat → Int) : Nat → Int
  | 0 => x 0
  | k + 1 => if top x k < x (k + 1) then x (k + 1) else top x k
theorem low_iff (x : Nat → Int) (b : Int) : ∀ k, b ≤ low x k ↔ ∀ i, i ≤ k → b ≤ x i
  | 0 => by
    simp only [low]
    exact ⟨fun h i hi => by obtain rfl : i = 0 := by omega
                            exact h, fun h => h 0 (Nat.le_refl _)⟩
  | k + 1 => by
    have ih := low_iff x b k
    simp only [low]
    constructor
    · intro h i hi
      by_cases e : i = k + 1
      · subst e
        split at h <;> omega
      · refine ih.1 ?_ i (by omega)
        split at h <;> omega
    · intro h
      have h1 := ih.2 fun i hi => h i (by omega)
      have h2 := h (k + 1) (Nat.le_refl _)
      split <;> assumption
theorem top_iff (x : Nat → Int) (b : Int) : ∀ k, top x k ≤ b ↔ ∀ i, i ≤ k → x i ≤ b
  | 0 => by
    simp only [top]
    exact ⟨fun h i hi => by obtain rfl : i = 0 := by omega
                            exact h, fun h => h 0 (Nat.le_refl _)⟩
  | k + 1 => by
    have ih := top_iff x b k
    simp only [top]
    constructor
    · intro h i hi
      by_cases e : i = k + 1
      · subst e
        split at h <;> omega
      · refine ih.1 ?_ i (by omega)
        split at h <;> omega
    · intro h
      have h1 := ih.2 fun i hi => h i (by omega)
      have h2 := h (k + 1) (Nat.le_refl _)
      split <;> assumption
theorem min_any (x : Nat → Int) (g : Nat) (t : TypeId) (W : World) (h : Has W g t (vecC x)) : Calls Try.prog 45 #[.slice (some ⟨g, 0, none⟩) 8 8] W fun e W' => e = .returned (.int .i64 (low x 7)) ∧ W = W' := by
  have H := Lib.hid h
  have c0 := has_vec_at h (show 0 < 8 by decide)
  clear h
  go_enter Try.func45, Try.ntmps45
  go_wp2
  go_loop [3, 4] (fun m i => ∃ k : Nat, k ≤ 7 ∧ i = .int .i64 ((k : Int) + 1) ∧ m = .int .i64 (low x k)) (fun _ i => 8 - (intOf i).toNat)
  case atStart => exact ⟨0, by omega, by go_num, rfl⟩
  case round =>
    obtain ⟨k, hk, rfl, rfl⟩ := hrel
    by_cases hlt : k < 7
    · have k1 : (k : Int) + 1 < 8 := by omega
      have c1 := has_vec_at H.out (show k + 1 < 8 by omega)
      go_wp2
      go_round
      case rel => exact ⟨k + 1, by omega, by go_num, rfl⟩
      case measure => simp [intOf]; omega
    · obtain rfl : k = 7 := by omega
      go_wp2
      go_ret
      exact ⟨rfl, rfl⟩
theorem max_any (x : Nat → Int) (g : Nat) (t : TypeId) (W : World) (h : Has W g t (vecC x)) : Calls Try.prog 46 #[.slice (some ⟨g, 0, none⟩) 8 8] W fun e W' => e = .returned (.int .i64 (top x 7)) ∧ W = W' := by
  have H := Lib.hid h
  have c0 := has_vec_at h (show 0 < 8 by decide)
  clear h
  go_enter Try.func46, Try.ntmps46
  go_wp2
  go_loop [3, 4] (fun m i => ∃ k : Nat, k ≤ 7 ∧ i = .int .i64 ((k : Int) + 1) ∧ m = .int .i64 (top x k)) (fun _ i => 8 - (intOf i).toNat)
  case atStart => exact ⟨0, by omega, by go_num, rfl⟩
  case round =>
    obtain ⟨k, hk, rfl, rfl⟩ := hrel
    by_cases hlt : k < 7
    · have k1 : (k : Int) + 1 < 8 := by omega
      have c1 := has_vec_at H.out (show k + 1 < 8 by omega)
      go_wp2
      go_round
      case rel => exact ⟨k + 1, by omega, by go_num, rfl⟩
      case measure => simp [intOf]; omega
    · obtain rfl : k = 7 := by omega
      go_wp2
      go_ret
      exact ⟨rfl, rfl⟩
end Go.Proofs.Ytlnlnpofdgnoeaa.Vc
