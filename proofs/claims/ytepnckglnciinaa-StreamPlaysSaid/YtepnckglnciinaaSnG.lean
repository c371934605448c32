/- What the document's Get comes to: the same as the program's. -/
import Derived.Test.YtepnckglnciinaaSnF
namespace Go.Proofs.Ytepnckglnciinaa.Sm
open Go.RowKit Go.Proofs.Ytepnckglnciinaa.Mem
open Go.Proofs.Ytepnckglnciinaa.Oct (gotNum gotText)
set_option linter.unusedVariables false

def loopE : Nat → ES → List ChgP → Option (List ChgP × ES)
  | 0, st, acc => some (acc, st)
  | k + 1, st, acc => if (rtE (rtE (rnE st 1).2 64).2 300).2.isNone = true ∨ 1 < (rnE st 1).1 then none else loopE k (rtE (rtE (rnE st 1).2 64).2 300).2 (acc ++ [⟨(rtE (rnE st 1).2 64).1, (rtE (rtE (rnE st 1).2 64).2 300).1, (rnE st 1).1 == 1⟩])
theorem loop_e : ∀ (k : Nat) (r : ByteArray) (acc : List ChgP), loopE k (some r) acc = (match loopP k r acc with | .ok (l, q) => some (l, some q) | .error _ => none)
  | 0, r, acc => rfl
  | k + 1, r, acc => by
    unfold loopE loopP
    cases h1 : gotNum r 1 with
    | txt t q => exact (gotNum_txt h1).elim
    | bad q y =>
      have e1 : rnE (some r) 1 = (0, none) := by simp only [rnE, h1]
      rw [e1]
      simp [rtE]
    | num g r1 =>
      have e1 : rnE (some r) 1 = (g, some r1) := by simp only [rnE, h1]
      rw [e1]
      dsimp only
      by_cases hg : 1 < g
      · rw [if_pos (.inr hg), if_pos hg]
      · rw [if_neg hg]
        cases h2 : gotText r1 64 with
        | num v q => exact (gotText_num h2).elim
        | bad q y =>
          have e2 : rtE (some r1) 64 = (⟨#[]⟩, none) := by simp only [rtE, h2]
          rw [e2]
          simp [rtE]
        | txt key r2 =>
          have e2 : rtE (some r1) 64 = (key, some r2) := by simp only [rtE, h2]
          rw [e2]
          dsimp only
          cases h3 : gotText r2 300 with
          | num v q => exact (gotText_num h3).elim
          | bad q y =>
            have e3 : rtE (some r2) 300 = (⟨#[]⟩, none) := by simp only [rtE, h3]
            rw [e3]
            simp
          | txt val r3 =>
            have e3 : rtE (some r2) 300 = (val, some r3) := by simp only [rtE, h3]
            rw [e3]
            dsimp only
            rw [if_neg (by simp [hg]), loop_e k r3 _]
def GetsE (s : ByteArray) : Option (List ChgP) → Prop
  | some l => ∃ st, loopE (rnE (some s) 4).1.toNat (rnE (some s) 4).2 [] = some (l, st) ∧ endE st = true ∧ SortP ⟨#[]⟩ l
  | none => ∀ l st, loopE (rnE (some s) 4).1.toNat (rnE (some s) 4).2 [] = some (l, st) → endE st = true → ¬ SortP ⟨#[]⟩ l
theorem empty_isS (r : ByteArray) : r.toList.isEmpty = decide (r.size = 0) := by
  cases h : r.toList.isEmpty with
  | true => exact (decide_eq_true (empty_size h)).symm
  | false => exact (decide_eq_false (by have := full_size h; omega)).symm
theorem gets_same {s : ByteArray} {o o2 : Option (List ChgP)} (h : GetsTo s o) (h2 : GetsE s o2) : o = o2 := by
  have key : ∀ l, (∃ r, getP s = .ok (l, r) ∧ r.toList.isEmpty = true) ↔ (∃ st, loopE (rnE (some s) 4).1.toNat (rnE (some s) 4).2 [] = some (l, st) ∧ endE st = true) := by
    intro l
    unfold getP
    cases hn : gotNum s 4 with
    | txt t q => exact (gotNum_txt hn).elim
    | bad q y =>
      have e : rnE (some s) 4 = (0, none) := by simp only [rnE, hn]
      rw [e]
      constructor
      · rintro ⟨r, h1, _⟩
        cases h1
      · rintro ⟨st, h1, h3⟩
        have e2 : loopE (0 : Int).toNat none [] = some (([] : List ChgP), (none : ES)) := rfl
        dsimp only at h1
        rw [e2] at h1
        injection h1 with h1
        injection h1 with _ h1
        rw [← h1] at h3
        cases h3
    | num n r =>
      have e : rnE (some s) 4 = (n, some r) := by simp only [rnE, hn]
      rw [e]
      dsimp only
      rw [loop_e]
      constructor
      · rintro ⟨q, h1, h3⟩
        rw [h1]
        exact ⟨some q, rfl, by rw [empty_isS] at h3; exact h3⟩
      · rintro ⟨st, h1, h3⟩
        cases hp : loopP n.toNat r [] with
        | error x => rw [hp] at h1; cases h1
        | ok x =>
          obtain ⟨l2, q⟩ := x
          rw [hp] at h1
          injection h1 with h1
          injection h1 with a b
          subst a b
          exact ⟨q, rfl, by rw [empty_isS]; exact h3⟩
  cases o with
  | none =>
    cases o2 with
    | none => rfl
    | some l =>
      obtain ⟨st, a, b, c⟩ := h2
      obtain ⟨r, d, e⟩ := (key l).2 ⟨st, a, b⟩
      exact absurd c (h l r d e)
  | some l =>
    obtain ⟨r, a, b, c⟩ := h
    obtain ⟨st, d, e⟩ := (key l).1 ⟨r, a, b⟩
    cases o2 with
    | none => exact absurd c (h2 l st d e)
    | some l2 =>
      obtain ⟨st2, d2, _, _⟩ := h2
      rw [d] at d2
      injection d2 with d2
      injection d2 with d2 _
      rw [d2]
end Go.Proofs.Ytepnckglnciinaa.Sm
