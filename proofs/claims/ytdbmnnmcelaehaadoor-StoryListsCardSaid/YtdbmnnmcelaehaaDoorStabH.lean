/- What the symmetric search comes to: the parts that one merges, told apart. -/
import Derived.Test.YtdbmnnmcelaehaaDoorStabA
namespace Go.Proofs.YtdbmnnmcelaehaaDoor.Stab
set_option linter.unusedVariables false

theorem srt_le {β : Type} {lt : β → β → Prop} (tr : ∀ {u v w}, lt u v → lt v w → lt u w) {x : Nat → β} {a b c d : Nat} {i u v j : Nat} (hL : Srt lt x a b) (hR : Srt lt x c d) (hi : a ≤ i) (hiu : i ≤ u) (hu : u < b) (hv : c ≤ v) (hvj : v ≤ j) (hj : j < d) (h : lt (x u) (x v)) : lt (x i) (x j) := by
  have h1 : lt (x i) (x v) := by
    by_cases e : i = u
    · rw [e]
      exact h
    · exact tr (hL i u hi (by omega) hu) h
  by_cases e : v = j
  · rw [← e]
    exact h1
  · exact tr h1 (hR v j hv (by omega) hj)
/-- where the search begins and ends -/
def symA (a m b mid : Nat) : Nat := if mid < m then mid + m - b else a
def symB (m mid : Nat) : Nat := if mid < m then mid else m
theorem sym_bounds {a m b mid : Nat} (ham : a < m) (hmb : m < b) (h1 : 2 * mid ≤ a + b) (h2 : a + b < 2 * mid + 2) : a ≤ symA a m b mid ∧ symA a m b mid ≤ symB m mid ∧ symB m mid ≤ m ∧ a < mid ∧ mid < b ∧ mid + m ≤ b + symA a m b mid ∧ symB m mid ≤ mid := by
  unfold symA symB
  split <;> omega
theorem sym_done {β : Type} {lt : β → β → Prop} (tr : ∀ {u v w}, lt u v → lt v w → lt u w) {x : Nat → β} {a m b mid s : Nat} (ham : a < m) (hmb : m < b) (e1 : 2 * mid ≤ a + b) (e2 : a + b < 2 * mid + 2) (hL : Srt lt x a m) (hR : Srt lt x m b)
    (hs1 : symA a m b mid ≤ s) (hs2 : s ≤ symB m mid) (lo : ∀ k, symA a m b mid ≤ k → k < s → lt (x k) (x (mid + m - 1 - k))) (hi : ∀ k, s ≤ k → k < symB m mid → lt (x (mid + m - 1 - k)) (x k)) :
    (∀ i j, a ≤ i → i < s → mid + m - s ≤ j → j < b → lt (x i) (x j)) ∧ (∀ i j, m ≤ i → i < mid + m - s → s ≤ j → j < m → lt (x i) (x j)) := by
  obtain ⟨b1, b2, b3, b4, b5, b6, b7⟩ := sym_bounds ham hmb e1 e2
  refine ⟨fun i j i1 i2 j1 j2 => ?_, fun i j i1 i2 j1 j2 => ?_⟩
  · by_cases c : s = symA a m b mid
    · exfalso
      unfold symA at c
      split at c <;> omega
    · have h := lo (s - 1) (by omega) (by omega)
      exact srt_le (lt := lt) (x := x) (a := a) (b := m) (c := m) (d := b) (i := i) (j := j) (u := s - 1) (v := mid + m - 1 - (s - 1)) tr hL hR i1 (by omega) (by omega) (by omega) (by omega) j2 h
  · by_cases c : s = symB m mid
    · exfalso
      unfold symB at c
      split at c <;> omega
    · have h := hi s (Nat.le_refl _) (by omega)
      exact srt_le (lt := lt) (x := x) (a := m) (b := b) (c := a) (d := m) (i := i) (j := j) (u := mid + m - 1 - s) (v := s) tr hR hL i1 (by omega) (by omega) (by omega) j1 j2 h
end Go.Proofs.YtdbmnnmcelaehaaDoor.Stab
