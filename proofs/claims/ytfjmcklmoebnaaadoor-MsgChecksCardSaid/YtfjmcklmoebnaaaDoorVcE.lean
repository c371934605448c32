/- Vectors: one within another by the document; the least and the greatest number; whether one may be. -/
import Derived.Test.YtfjmcklmoebnaaaDoorVcD
namespace Go.Proofs.YtfjmcklmoebnaaaDoor.Vc
open Go.RowKit Go.Proofs.YtfjmcklmoebnaaaDoor.Mem


/-- The least, the greatest of the first so many and one. -/
def low (x : Nat → Int) : Nat → Int
  | 0 => x 0
  | k + 1 => if x (k + 1) < low x k then x (k + 1) else low x k
def top (x : Nat → Int) : Nat → Int
  | 0 => x 0
  | k + 1 => if top x k < x (k + 1) then x (k + 1) else top x k
theorem low_iff (x : Nat → Int) (b : Int) : ∀ k, b ≤ low x k ↔ ∀ i, i ≤ k → b ≤ x i
  | 0 => by
    simp only [low]
    exact ⟨fun h i hi => by obtain rfl : i = 0 := by omega
                            exact h, fun h => h 0 (Nat.le_refl _)⟩
  | k + 1 => by
    have ih := low_iff x b k
    simp only [low]
    constructor
    · intro h i hi
      by_cases e : i = k + 1
      · subst e
        split at h <;> omega
      · refine ih.1 ?_ i (by omega)
        split at h <;> omega
    · intro h
      have h1 := ih.2 fun i hi => h i (by omega)
      have h2 := h (k + 1) (Nat.le_refl _)
      split <;> assumption
theorem top_iff (x : Nat → Int) (b : Int) : ∀ k, top x k ≤ b ↔ ∀ i, i ≤ k → x i ≤ b
  | 0 => by
    simp only [top]
    exact ⟨fun h i hi => by obtain rfl : i = 0 := by omega
                            exact h, fun h => h 0 (Nat.le_refl _)⟩
  | k + 1 => by
    have ih := top_iff x b k
    simp only [top]
    constructor
    · intro h i hi
      by_cases e : i = k + 1
      · subst e
        split at h <;> omega
      · refine ih.1 ?_ i (by omega)
        split at h <;> omega
    · intro h
      have h1 := ih.2 fun i hi => h i (by omega)
      have h2 := h (k + 1) (Nat.le_refl _)
      split <;> assumption
theorem min_any (x : Nat → Int) (g : Nat) (t : TypeId) (W : World) (h : Has W g t (vecC x)) : Calls Tryd.prog 74 #[.slice (some ⟨g, 0, none⟩) 8 8] W fun e W' => e = .returned (.int .i64 (low x 7)) ∧ W = W' := by
  have H := Lib.hid h
  have c0 := has_vec_at h (show 0 < 8 by decide)
  clear h
  go_enter Tryd.func74, Tryd.ntmps74
  go_wp2
  go_loop [3, 4] (fun m i => ∃ k : Nat, k ≤ 7 ∧ i = .int .i64 ((k : Int) + 1) ∧ m = .int .i64 (low x k)) (fun _ i => 8 - (intOf i).toNat)
  case atStart => exact ⟨0, by omega, by go_num, rfl⟩
  case round =>
    obtain ⟨k, hk, rfl, rfl⟩ := hrel
    by_cases hlt : k < 7
    · have k1 : (k : Int) + 1 < 8 := by omega
      have c1 := has_vec_at H.out (show k + 1 < 8 by omega)
      go_wp2
      go_round
      case rel => exact ⟨k + 1, by omega, by go_num, rfl⟩
      case measure => simp [intOf]; omega
    · obtain rfl : k = 7 := by omega
      go_wp2
      go_ret
      exact ⟨rfl, rfl⟩
theorem max_any (x : Nat → Int) (g : Nat) (t : TypeId) (W : World) (h : Has W g t (vecC x)) : Calls Tryd.prog 75 #[.slice (some ⟨g, 0, none⟩) 8 8] W fun e W' => e = .returned (.int .i64 (top x 7)) ∧ W = W' := by
  have H := Lib.hid h
  have c0 := has_vec_at h (show 0 < 8 by decide)
  clear h
  go_enter Tryd.func75, Tryd.ntmps75
  go_wp2
  go_loop [3, 4] (fun m i => ∃ k : Nat, k ≤ 7 ∧ i = .int .i64 ((k : Int) + 1) ∧ m = .int .i64 (top x k)) (fun _ i => 8 - (intOf i).toNat)
  case atStart => exact ⟨0, by omega, by go_num, rfl⟩
  case round =>
    obtain ⟨k, hk, rfl, rfl⟩ := hrel
    by_cases hlt : k < 7
    · have k1 : (k : Int) + 1 < 8 := by omega
      have c1 := has_vec_at H.out (show k + 1 < 8 by omega)
      go_wp2
      go_round
      case rel => exact ⟨k + 1, by omega, by go_num, rfl⟩
      case measure => simp [intOf]; omega
    · obtain rfl : k = 7 := by omega
      go_wp2
      go_ret
      exact ⟨rfl, rfl⟩
end Go.Proofs.YtfjmcklmoebnaaaDoor.Vc
