/- The order of events with their places: an order in which no two are alike. -/
import Derived.Test.YtdbmnnmcelaehaaDoorStabE
namespace Go.Proofs.YtdbmnnmcelaehaaDoor.Stab
open Go.RowKit Go.Proofs.YtdbmnnmcelaehaaDoor.Mem
open Go.Proofs.YtdbmnnmcelaehaaDoor.Vc (lessB stC)
set_option linter.unusedVariables false set_option linter.unusedSimpArgs false

theorem less_iff (x y : Fc.EventC) : lessE x y = true ↔ x.at_.1 < y.at_.1 ∨ (x.at_.1 = y.at_.1 ∧ x.at_.2 < y.at_.2) := by
  unfold lessE lessB
  simp
/-- below 0 -/
def Low (x y : Fc.EventC) : Prop := x.at_.1 < y.at_.1 ∨ (x.at_.1 = y.at_.1 ∧ (x.at_.2 < y.at_.2 ∨ (x.at_.2 = y.at_.2 ∧ x.vol < y.vol)))
/-- 0: alike by stamp and volume -/
def Like (x y : Fc.EventC) : Prop := x.at_.1 = y.at_.1 ∧ x.at_.2 = y.at_.2 ∧ x.vol = y.vol
theorem ord_cases (x y : Fc.EventC) : (ordE x y = -1 ∧ Low x y) ∨ (ordE x y = 0 ∧ Like x y) ∨ (ordE x y = 1 ∧ Low y x) := by
  by_cases h1 : lessE x y = true
  · have := (less_iff x y).1 h1
    exact .inl ⟨by unfold ordE; rw [if_pos h1], by unfold Low; omega⟩
  · by_cases h2 : lessE y x = true
    · have := (less_iff y x).1 h2
      exact .inr (.inr ⟨by unfold ordE; rw [if_neg h1, if_pos h2], by unfold Low; omega⟩)
    · have e : ordE x y = cmpI x.vol y.vol := by unfold ordE; rw [if_neg h1, if_neg h2]
      have g1 : ¬ (x.at_.1 < y.at_.1 ∨ (x.at_.1 = y.at_.1 ∧ x.at_.2 < y.at_.2)) := fun h => h1 ((less_iff x y).2 h)
      have g2 : ¬ (y.at_.1 < x.at_.1 ∨ (y.at_.1 = x.at_.1 ∧ y.at_.2 < x.at_.2)) := fun h => h2 ((less_iff y x).2 h)
      rw [e]
      unfold cmpI
      by_cases c1 : x.vol < y.vol
      · exact .inl ⟨by rw [if_pos c1], by unfold Low; omega⟩
      · by_cases c2 : y.vol < x.vol
        · exact .inr (.inr ⟨by rw [if_neg c1, if_pos c2], by unfold Low; omega⟩)
        · exact .inr (.inl ⟨by rw [if_neg c1, if_neg c2], by unfold Like; omega⟩)
theorem low_neg {x y : Fc.EventC} : ordE x y < 0 ↔ Low x y := by
  rcases ord_cases x y with ⟨e, h⟩ | ⟨e, h⟩ | ⟨e, h⟩
  · exact ⟨fun _ => h, fun _ => by omega⟩
  · exact ⟨fun k => by omega, fun k => by unfold Low at k; unfold Like at h; omega⟩
  · exact ⟨fun k => by omega, fun k => by unfold Low at k h; omega⟩
theorem like_zero {x y : Fc.EventC} : ordE x y = 0 ↔ Like x y := by
  rcases ord_cases x y with ⟨e, h⟩ | ⟨e, h⟩ | ⟨e, h⟩
  · exact ⟨fun k => by omega, fun k => by unfold Low at h; unfold Like at k; omega⟩
  · exact ⟨fun _ => h, fun _ => e⟩
  · exact ⟨fun k => by omega, fun k => by unfold Low at h; unfold Like at k; omega⟩
/-- an event with its place: who is alike stands as he came -/
def Lex (p q : Fc.EventC × Nat) : Prop := Low p.1 q.1 ∨ (Like p.1 q.1 ∧ p.2 < q.2)
theorem lex_trans {p q r : Fc.EventC × Nat} (h : Lex p q) (k : Lex q r) : Lex p r := by
  unfold Lex Low Like at *
  omega
theorem lex_irrefl (p : Fc.EventC × Nat) : ¬ Lex p p := by
  unfold Lex Low Like
  omega
/-- what a comparison tells of two of which one came first -/
theorem lex_yes {x y : Fc.EventC} {i j : Nat} (h : ordE x y < 0) : Lex (x, i) (y, j) := .inl (low_neg.1 h)
theorem lex_no {x y : Fc.EventC} {i j : Nat} (h : ¬ ordE x y < 0) (hij : j < i) : Lex (y, j) (x, i) := by
  rcases ord_cases x y with ⟨e, k⟩ | ⟨e, k⟩ | ⟨e, k⟩
  · exact absurd (by omega) h
  · exact .inr ⟨⟨k.1.symm, k.2.1.symm, k.2.2.symm⟩, hij⟩
  · exact .inl k
end Go.Proofs.YtdbmnnmcelaehaaDoor.Stab
