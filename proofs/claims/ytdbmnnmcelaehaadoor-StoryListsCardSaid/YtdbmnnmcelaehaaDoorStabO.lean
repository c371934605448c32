/- Events in order, each that is alike once: what it is, that there is one such list, and that a sorted row without its repetitions is it. -/
import Derived.Test.YtdbmnnmcelaehaaDoorStabN
namespace Go.Proofs.YtdbmnnmcelaehaaDoor.Stab
open Go.RowKit Go.Proofs.YtdbmnnmcelaehaaDoor.Mem
set_option linter.unusedVariables false set_option linter.unusedSimpArgs false

/-- one of a list of whom no earlier one is alike -/
def First (es : List Fc.EventC) (e : Fc.EventC) : Prop := ∃ i, es[i]? = some e ∧ ∀ (j : Nat) (e' : Fc.EventC), j < i → es[j]? = some e' → ¬ Like e' e
structure OrdL (es os : List Fc.EventC) : Prop where
  low : os.Pairwise Low
  mem : ∀ e, e ∈ os ↔ First es e
theorem low_irrefl (x : Fc.EventC) : ¬ Low x x := by unfold Low; omega
theorem low_asymm {x y : Fc.EventC} (h : Low x y) : ¬ Low y x := by unfold Low at *; omega
theorem low_trans {x y z : Fc.EventC} (h : Low x y) (k : Low y z) : Low x z := by unfold Low at *; omega
theorem low_like {x y : Fc.EventC} (h : Low x y) : ¬ Like x y := by unfold Low Like at *; omega
theorem like_symm {x y : Fc.EventC} (h : Like x y) : Like y x := by unfold Like at *; omega
theorem like_trans {x y z : Fc.EventC} (h : Like x y) (k : Like y z) : Like x z := by unfold Like at *; omega
theorem like_refl (x : Fc.EventC) : Like x x := ⟨rfl, rfl, rfl⟩
theorem lows_eq : ∀ {l k : List Fc.EventC}, l.Pairwise Low → k.Pairwise Low → (∀ e, e ∈ l ↔ e ∈ k) → l = k
  | [], [], _, _, _ => rfl
  | [], b :: k, _, _, h => absurd ((h b).2 List.mem_cons_self) (by simp)
  | a :: l, [], _, _, h => absurd ((h a).1 List.mem_cons_self) (by simp)
  | a :: l, b :: k, hl, hk, h => by
    have hl1 := (List.pairwise_cons.1 hl).1
    have hk1 := (List.pairwise_cons.1 hk).1
    have e : a = b := by
      rcases List.mem_cons.1 ((h a).1 List.mem_cons_self) with e | e
      · exact e
      · rcases List.mem_cons.1 ((h b).2 List.mem_cons_self) with f | f
        · exact f.symm
        · exact absurd (hl1 b f) (low_asymm (hk1 a e))
    subst e
    rw [lows_eq (List.pairwise_cons.1 hl).2 (List.pairwise_cons.1 hk).2 fun e => ⟨fun he => ?_, fun he => ?_⟩]
    · rcases List.mem_cons.1 ((h e).1 (List.mem_cons_of_mem _ he)) with f | f
      · subst f
        exact absurd (hl1 e he) (low_irrefl e)
      · exact f
    · rcases List.mem_cons.1 ((h e).2 (List.mem_cons_of_mem _ he)) with f | f
      · subst f
        exact absurd (hk1 e he) (low_irrefl e)
      · exact f
theorem OrdL.uniq {es os os' : List Fc.EventC} (h : OrdL es os) (k : OrdL es os') : os = os' := lows_eq h.low k.low fun e => (h.mem e).trans (k.mem e).symm
/-- of two of a list in order, one that comes earlier is no other's like -/
theorem lows_first {os : List Fc.EventC} (h : os.Pairwise Low) {k : List Fc.EventC} (hk : ∀ e, e ∈ k ↔ e ∈ os) (hu : ∀ (i j : Nat) (a b : Fc.EventC), i < j → k[i]? = some a → k[j]? = some b → ¬ Like a b) (e : Fc.EventC) : e ∈ os ↔ First k e := by
  constructor
  · intro he
    obtain ⟨i, hi, e1⟩ := List.mem_iff_getElem.1 ((hk e).2 he)
    exact ⟨i, by rw [List.getElem?_eq_getElem hi, e1], fun j e' hj hj' => hu j i e' e hj hj' (by rw [List.getElem?_eq_getElem hi, e1])⟩
  · rintro ⟨i, hi, _⟩
    exact (hk e).1 (List.mem_of_getElem? hi)
theorem lows_unlike {os : List Fc.EventC} (h : os.Pairwise Low) {i j : Nat} {a b : Fc.EventC} (hij : i < j) (hi : os[i]? = some a) (hj : os[j]? = some b) : Low a b := by
  obtain ⟨hi', rfl⟩ := List.getElem?_eq_some_iff.1 hi
  obtain ⟨hj', rfl⟩ := List.getElem?_eq_some_iff.1 hj
  exact List.pairwise_iff_getElem.1 h i j hi' hj' hij
/-- ordered once more it stays; and so does what is a list in order, turned -/
theorem OrdL.self {es os : List Fc.EventC} (h : OrdL es os) : OrdL os os := ⟨h.low, lows_first h.low (fun e => Iff.rfl) fun i j a b hij hi hj => low_like (lows_unlike h.low hij hi hj)⟩
theorem OrdL.turn {es os : List Fc.EventC} (h : OrdL es os) (m : Nat) : OrdL (os.drop m ++ os.take m) os := by
  refine ⟨h.low, lows_first h.low (fun e => ?_) fun i j a b hij hi hj hl => ?_⟩
  · rw [List.mem_append, Or.comm, ← List.mem_append, List.take_append_drop]
  · rw [List.getElem?_append] at hi hj
    split at hi <;> split at hj
    · rw [List.getElem?_drop] at hi hj
      exact low_like (lows_unlike h.low (show m + i < m + j by omega) hi hj) hl
    · rw [List.getElem?_drop] at hi
      rw [List.getElem?_take] at hj
      split at hj
      · exact low_like (lows_unlike h.low (show j - (os.drop m).length < m + i by omega) hj hi) (like_symm hl)
      · cases hj
    · rename_i c1 c2
      omega
    · rw [List.getElem?_take] at hi hj
      split at hi
      · split at hj
        · rename_i c1 c2 c3 c4
          exact low_like (lows_unlike h.low (show i - (os.drop m).length < j - (os.drop m).length by omega) hi hj) hl
        · cases hj
      · cases hi

/-- what stays when who is as the one ahead of him goes -/
def keeps (y : Nat → Fc.EventC) : Nat → Bool
  | 0 => true
  | i + 1 => !(ordE (y (i + 1)) (y i) == 0)
def dd (y : Nat → Fc.EventC) : Nat → List Fc.EventC
  | 0 => []
  | m + 1 => if keeps y m then dd y m ++ [y m] else dd y m
theorem dd_len (y : Nat → Fc.EventC) : ∀ m, (dd y m).length ≤ m
  | 0 => Nat.le_refl _
  | m + 1 => by
    have := dd_len y m
    unfold dd
    split
    · rw [List.length_append, List.length_singleton]
      omega
    · omega
theorem dd_all (y : Nat → Fc.EventC) : ∀ m, (∀ i, i < m → keeps y i = true) → (dd y m).length = m ∧ ∀ i, i < m → (dd y m)[i]? = some (y i)
  | 0, _ => ⟨rfl, fun i h => absurd h (Nat.not_lt_zero _)⟩
  | m + 1, h => by
    obtain ⟨h1, h2⟩ := dd_all y m (fun i hi => h i (by omega))
    unfold dd
    rw [if_pos (h m (by omega))]
    refine ⟨by rw [List.length_append, h1, List.length_singleton], fun i hi => ?_⟩
    by_cases e : i = m
    · subst e
      rw [List.getElem?_append_right (by omega), h1, Nat.sub_self]
      rfl
    · rw [List.getElem?_append_left (by omega)]
      exact h2 i (by omega)
theorem dd_mem (y : Nat → Fc.EventC) (e : Fc.EventC) : ∀ m, e ∈ dd y m ↔ ∃ k, k < m ∧ keeps y k = true ∧ y k = e
  | 0 => ⟨fun h => (by cases h), fun h => (by obtain ⟨k, h1, _⟩ := h; omega)⟩
  | m + 1 => by
    unfold dd
    constructor
    · intro h
      split at h
      · rename_i c
        rcases List.mem_append.1 h with g | g
        · obtain ⟨k, h1, h2⟩ := (dd_mem y e m).1 g
          exact ⟨k, by omega, h2⟩
        · exact ⟨m, by omega, c, (List.mem_singleton.1 g).symm⟩
      · obtain ⟨k, h1, h2⟩ := (dd_mem y e m).1 h
        exact ⟨k, by omega, h2⟩
    · rintro ⟨k, h1, h2, rfl⟩
      by_cases ek : k = m
      · subst ek
        rw [if_pos h2]
        exact List.mem_append.2 (.inr List.mem_cons_self)
      · have g := (dd_mem y (y k) m).2 ⟨k, by omega, h2, rfl⟩
        split
        · exact List.mem_append.2 (.inl g)
        · exact g
section
variable {x : Nat → Fc.EventC} {p : Nat → Nat} {n : Nat}
/-- between two that are alike all are alike -/
theorem srt_mid (hs : Srt Lex (fun k => (x (p k), p k)) 0 n) {i j : Nat} (hij : i < j) (hj : j < n) (hl : Like (x (p i)) (x (p j))) : Like (x (p (j - 1))) (x (p j)) := by
  by_cases e : i = j - 1
  · rw [← e]
    exact hl
  · have h1 := hs i (j - 1) (Nat.zero_le _) (by omega) (by omega)
    have h2 := hs (j - 1) j (Nat.zero_le _) (by omega) hj
    simp only [Lex, Low, Like] at *
    omega
theorem keeps_no {y : Nat → Fc.EventC} {j : Nat} (h0 : 0 < j) (hk : keeps y j = true) : ¬ Like (y (j - 1)) (y j) := by
  obtain ⟨i, rfl⟩ : ∃ i, j = i + 1 := ⟨j - 1, by omega⟩
  intro hl
  simp only [keeps] at hk
  have := like_zero.2 (like_symm hl)
  rw [show i + 1 - 1 = i by omega] at this
  rw [this] at hk
  simp at hk
theorem keeps_yes {y : Nat → Fc.EventC} {j : Nat} (h : 0 < j → ¬ Like (y (j - 1)) (y j)) : keeps y j = true := by
  match j, h with
  | 0, _ => rfl
  | i + 1, h =>
    unfold keeps
    rw [Bool.not_eq_true', beq_eq_false_iff_ne]
    intro e
    exact h (by omega) (like_symm (like_zero.1 e))
theorem dd_low (hs : Srt Lex (fun k => (x (p k), p k)) 0 n) : ∀ m, m ≤ n → (dd (fun k => x (p k)) m).Pairwise Low
  | 0, _ => List.Pairwise.nil
  | m + 1, h => by
    have ih := dd_low hs m (by omega)
    unfold dd
    split
    · rename_i c
      refine List.pairwise_append.2 ⟨ih, List.pairwise_singleton _ _, fun a ha b hb => ?_⟩
      obtain ⟨k, h1, h2, rfl⟩ := (dd_mem _ a m).1 ha
      rw [List.mem_singleton.1 hb]
      rcases hs k m (Nat.zero_le _) h1 (by omega) with g | g
      · exact g
      · exact absurd (srt_mid hs h1 (by omega) g.1) (keeps_no (y := fun k => x (p k)) (by omega) c)
    · exact ih
theorem ordL_of_sort {es : List Fc.EventC} (hn : es.length = n) (he : ∀ i, i < n → es[i]? = some (x i)) (hp : Re 0 n p) (hs : Srt Lex (fun k => (x (p k), p k)) 0 n) : OrdL es (dd (fun k => x (p k)) n) := by
  refine ⟨dd_low hs n (Nat.le_refl _), fun e => ?_⟩
  obtain ⟨q, q1, q2⟩ := hp.back
  have qin : ∀ k, k < n → q k < n := fun k hk => by
    by_cases c : q k < n
    · exact c
    · have := hp.out (q k) (by omega)
      rw [q1] at this
      omega
  rw [dd_mem]
  constructor
  · rintro ⟨k, h1, h2, rfl⟩
    have hk := (hp.ins k (Nat.zero_le _) h1).2
    refine ⟨p k, he _ hk, fun j e' hj hj' hl => ?_⟩
    rw [he j (by omega)] at hj'
    have hj2 : x j = e' := Option.some.inj hj'
    subst hj2
    have hq := qin j (by omega)
    have e1 := q1 j
    by_cases c : q j < k
    · have hl2 : Like (x (p (q j))) (x (p k)) := by rw [e1]; exact hl
      exact keeps_no (y := fun k => x (p k)) (by omega) h2 (srt_mid hs c h1 hl2)
    · by_cases c2 : q j = k
      · rw [← c2, e1] at hj
        omega
      · have h3 := hs k (q j) (Nat.zero_le _) (by omega) hq
        show False
        rw [show (fun k => (x (p k), p k)) (q j) = (x j, j) from by show (x (p (q j)), p (q j)) = _; rw [e1]] at h3
        have hl2 : Like (x j) (x (p k)) := hl
        rcases h3 with g | g
        · exact low_like g (like_symm hl2)
        · have := g.2
          simp only at this
          omega
  · rintro ⟨i, hi, hf⟩
    have hin : i < n := by rw [← hn]; exact (List.getElem?_eq_some_iff.1 hi).1
    rw [he i hin] at hi
    have hi2 : x i = e := Option.some.inj hi
    subst hi2
    refine ⟨q i, qin i hin, keeps_yes fun h0 hl => ?_, by show x (p (q i)) = x i; rw [q1]⟩
    have hl2 : Like (x (p (q i - 1))) (x i) := by
      have : Like (x (p (q i - 1))) (x (p (q i))) := hl
      rwa [q1] at this
    have h1 := hs (q i - 1) (q i) (Nat.zero_le _) (by omega) (qin i hin)
    have h2 : Lex (x (p (q i - 1)), p (q i - 1)) (x i, i) := by
      have h3 : Lex (x (p (q i - 1)), p (q i - 1)) (x (p (q i)), p (q i)) := h1
      rwa [q1] at h3
    rcases h2 with g | g
    · exact low_like g hl2
    · have := g.2
      simp only at this
      exact hf _ _ this (he _ (by omega)) hl2
end
end Go.Proofs.YtdbmnnmcelaehaaDoor.Stab
