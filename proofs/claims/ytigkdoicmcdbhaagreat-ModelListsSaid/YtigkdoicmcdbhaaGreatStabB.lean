/- A row of structs of k cells in a block, told by a function of its places; one of them overwritten. -/
import Derived.Test.YtigkdoicmcdbhaaGreatWho
import Derived.Test.YtigkdoicmcdbhaaGreatStabA
namespace Go.Proofs.YtigkdoicmcdbhaaGreat.Stab
open Go.RowKit Go.Proofs.YtigkdoicmcdbhaaGreat.Mem
set_option linter.unusedVariables false set_option linter.unusedSimpArgs false

/-- n structs of k cells from the block's start, and what stands behind them -/
def Rw {α : Type} (w : World) (g : Nat) (t : TypeId) (C : α → Array Value) (k n : Nat) (x : Nat → α) (z : List Value) : Prop :=
  ∃ cs : Array Value, Has w g t cs ∧ n * k + z.length = cs.size ∧ (∀ i j, i < n → j < k → cs[i * k + j]? = (C (x i))[j]?) ∧ (∀ j, j < z.length → cs[n * k + j]? = z[j]?)
section
variable {α : Type} {w : World} {g k n : Nat} {t : TypeId} {C : α → Array Value} {x : Nat → α} {z : List Value}
theorem mul_in {i n k : Nat} (h : i < n) : i * k + k ≤ n * k := by
  have := Nat.mul_le_mul_right k (show i + 1 ≤ n from h)
  rwa [Nat.add_mul, Nat.one_mul] at this
theorem mul_apart {i j k a b : Nat} (h : i ≠ j) (ha : a < k) (hb : b < k) : i * k + a ≠ j * k + b := by
  intro e
  rcases Nat.lt_or_gt_of_ne h with c | c
  · have := mul_in (k := k) c
    omega
  · have := mul_in (k := k) c
    omega
theorem Rw.bound (h : Rw w g t C k n x z) : g < w.heap.size := by
  obtain ⟨cs, h1, _⟩ := h
  exact h1.bound
theorem Rw.range (h : Rw w g t C k n x z) (hk : ∀ y, (C y).size = k) {i : Nat} (hi : i < n) : w.rangeAt g (i * k) (C (x i)).toList := by
  obtain ⟨cs, h1, h2, h3, h4⟩ := h
  intro j v hv
  have hj : j < k := by
    have := (List.getElem?_eq_some_iff.1 hv).1
    rw [Array.length_toList, hk] at this
    exact this
  rw [h1.at_, h3 i j hi hj]
  simpa using hv
theorem Rw.there (h : Rw w g t C k n x z) {i : Nat} (hi : i < n) : w.there g (i * k) k := by
  obtain ⟨cs, h1, h2, h3, h4⟩ := h
  intro j hj
  have := mul_in (k := k) hi
  rw [h1.at_ (i * k + j)]
  exact ⟨by simp; omega, h1.free (i * k + j)⟩
theorem lay_len : ∀ (vs : List Value) (d : Array Value) (i : Nat), (Lib.lay d i vs).size = d.size
  | [], _, _ => rfl
  | v :: r, d, i => by
    unfold Lib.lay
    rw [lay_len r]
    simp
/-- one of them overwritten -/
theorem Rw.set (h : Rw w g t C k n x z) (hk : ∀ y, (C y).size = k) {i : Nat} (hi : i < n) (y : α) : Rw (w.setCells g (i * k) (C y).toList) g t C k n (fun j => if j = i then y else x j) z := by
  obtain ⟨cs, h1, h2, h3, h4⟩ := h
  have hm := mul_in (k := k) hi
  have hl : i * k + (C y).toList.length ≤ cs.size := by rw [Array.length_toList, hk]; omega
  have hs : (Lib.lay cs (i * k) (C y).toList).size = cs.size := lay_len _ _ _
  refine ⟨Lib.lay cs (i * k) (C y).toList, Who.has_setCells _ _ _ _ h1, by rw [hs]; exact h2, fun a j ha hj => ?_, fun j hj => ?_⟩
  · show _ = (C (if a = i then y else x a))[j]?
    rw [Lib.lay_get? _ _ _ _ hl, Array.length_toList, hk]
    by_cases e : a = i
    · subst e
      rw [if_pos (c := a = a) rfl, if_pos ⟨by omega, by omega⟩, show a * k + j - a * k = j by omega]
      simp
    · rw [if_neg (c := a = i) e, if_neg, h3 a j ha hj]
      rintro ⟨c1, c2⟩
      exact mul_apart e hj (show a * k + j - i * k < k by omega) (by omega)
  · rw [Lib.lay_get? _ _ _ _ hl, Array.length_toList, hk, if_neg (by omega), h4 j hj]
theorem Rw.over {w' : World} {S : Nat → Prop} (h : Rw w g t C k n x z) (hb : Chg S w w') (hs : ¬ S g) : Rw w' g t C k n x z := by
  obtain ⟨cs, h1, h2⟩ := h
  exact ⟨cs, h1.over hb hs, h2⟩
theorem Rw.below {w' : World} (h : Rw w g t C k n x z) (hb : Below w.heap.size w w') : Rw w' g t C k n x z := by
  obtain ⟨cs, h1, h2⟩ := h
  exact ⟨cs, h1.below hb, h2⟩
theorem Rw.drew (h : Rw w g t C k n x z) : Rw w.drew g t C k n x z := h
theorem Rw.congr {y : Nat → α} (h : Rw w g t C k n x z) (e : ∀ i, i < n → y i = x i) : Rw w g t C k n y z := by
  obtain ⟨cs, h1, h2, h3, h4⟩ := h
  exact ⟨cs, h1, h2, fun i j hi hj => by rw [e i hi]; exact h3 i j hi hj, h4⟩
/-- two of them exchanged: j's cells laid at i, then i's at j -/
theorem Rw.swap (h : Rw w g t C k n x z) (hk : ∀ y, (C y).size = k) {i j : Nat} (hi : i < n) (hj : j < n) : Rw ((w.setCells g (i * k) (C (x j)).toList).setCells g (j * k) (C (x i)).toList) g t C k n (fun c => x (swapP i j c)) z := by
  refine ((h.set hk hi (x j)).set hk hj (x i)).congr fun c hc => ?_
  show x (swapP i j c) = if c = j then x i else if c = i then x j else x c
  unfold swapP
  by_cases e2 : c = i
  · subst e2
    by_cases e1 : c = j
    · subst e1
      simp
    · simp [e1]
  · by_cases e1 : c = j
    · subst e1
      simp [e2]
    · simp [e1, e2]
theorem chg_swap (w : World) (g o1 o2 : Nat) (u v : List Value) : Chg (· = g) w ((w.setCells g o1 u).setCells g o2 v) := (Who.chg_setCells g u o1 w).trans (Who.chg_setCells g v o2 _)
end
end Go.Proofs.YtigkdoicmcdbhaaGreat.Stab
