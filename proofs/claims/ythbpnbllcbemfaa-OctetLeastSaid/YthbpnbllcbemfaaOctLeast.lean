/- What stands between a text and its After, and below its Beyond. -/
import Derived.Test.YthbpnbllcbemfaaOctWTexts
namespace Go.Proofs.Ythbpnbllcbemfaa.Oct
open Go.RowKit

theorem com_ex (a b : ByteArray) : ∃ k, Com a b k ∧ Stop a b k := by
  have : ∀ n k, a.size - k = n → Com a b k → ∃ k, Com a b k ∧ Stop a b k := by
    intro n
    induction n with
    | zero => exact fun k hk h => ⟨k, h, fun h1 _ => by omega⟩
    | succ n ih =>
      intro k hk h
      by_cases s : Stop a b k
      · exact ⟨k, h, s⟩
      · unfold Stop at s
        simp only [Classical.not_forall, Decidable.not_not] at s
        obtain ⟨h1, h2, e⟩ := s
        exact ih (k + 1) (by omega) (com_next h h1 h2 e)
  exact this _ 0 rfl (com_zero a b)
theorem app_left (s t : ByteArray) (i : Nat) (h : i < s.size) (h2 : i < (s ++ t).size) : (s ++ t)[i] = s[i] := ByteArray.getElem_append_left h
theorem app_here (s t : ByteArray) (h : 0 < t.size) (h2 : s.size < (s ++ t).size) : (s ++ t)[s.size] = t[0] := by
  rw [ByteArray.getElem_append_right (Nat.le_refl _)]
  simp
theorem app_on (s t : ByteArray) (q : Nat) (e : s.size = q) (h : 0 < t.size) (h2 : q < (s ++ t).size) : (s ++ t)[q] = t[0] := by
  subst e
  exact app_here s t h h2
theorem after_size (s : ByteArray) : (s ++ ⟨#[0]⟩ : ByteArray).size = s.size + 1 := by rw [ByteArray.size_append]; rfl
theorem after_above (s : ByteArray) : Ahead s (s ++ ⟨#[0]⟩) :=
  ⟨s.size, ⟨Nat.le_refl _, by rw [after_size]; omega, fun i h h' _ => (app_left s _ i h h').symm⟩, by rw [after_size]; omega, .inl rfl⟩
theorem after_least (s o : ByteArray) (h1 : Ahead s o) (h2 : Ahead o (s ++ ⟨#[0]⟩)) : False := by
  obtain ⟨k, hk, hko, h1⟩ := h1
  obtain ⟨j, hj, hja, h2⟩ := h2
  have hz := after_size s
  have hks := hk.la
  have hjo := hj.la
  by_cases e : j < k
  · have hjs : j < s.size := by omega
    rcases h2 with h2 | ⟨jo, h2⟩
    · omega
    · rw [app_left s _ j hjs hja, hk.same j hjs (by omega) e] at h2
      omega
  · rcases h1 with h1 | ⟨ks, h1⟩
    · have : j = s.size := by omega
      subst this
      rcases h2 with h2 | ⟨jo, h2⟩
      · omega
      · rw [app_here s ⟨#[0]⟩ (by decide) hja] at h2
        exact absurd h2 (Nat.not_lt_zero _)
    · by_cases e2 : j = k
      · subst e2
        rcases h2 with h2 | ⟨jo, h2⟩
        · omega
        · rw [app_left s _ j ks hja] at h2
          omega
      · have e3 := hj.same k hko (by omega) (by omega)
        rw [app_left s _ k ks (by omega)] at e3
        rw [e3] at h1
        omega

theorem nb_over (s : ByteArray) (k : Nat) (hk : k ≤ s.size) (i : Nat) (h : i < s.size) (h1 : nb s k < i) (h2 : i < k) : s[i] = 255 := by
  induction k with
  | zero => omega
  | succ k ih =>
    by_cases e : s[k] = 255
    · rw [nb_255 s k hk e] at h1
      by_cases e2 : i = k
      · subst e2; exact e
      · exact ih (by omega) h1 (by omega)
    · rw [nb_not s k hk e] at h1
      omega
/-- What begins as far as k with a text that has but 255 from there on, and stands not ahead of it, begins with it. -/
theorem from_on (s o : ByteArray) (k : Nat) (hc : ∀ i, (h : i < s.size) → k ≤ i → s[i] = 255) (ho : Com o s k) (hn : ¬ Ahead o s) : Com o s s.size := by
  obtain ⟨j, hj, sj⟩ := com_ex o s
  by_cases e : j = s.size
  · exact e ▸ hj
  · exfalso
    have hjs : j < s.size := by have := hj.lb; omega
    by_cases e2 : j = o.size
    · exact hn ⟨j, hj, hjs, .inl e2⟩
    · have hjo : j < o.size := by have := hj.la; omega
      have hd := sj hjo hjs
      by_cases hk : j < k
      · exact hd (ho.same j hjo hjs hk)
      · refine hn ⟨j, hj, hjs, .inr ⟨hjo, ?_⟩⟩
        rw [hc j hjs (by omega)] at hd ⊢
        have h255 : o[j].toNat ≠ 255 := fun e => hd (UInt8.toNat_inj.1 e)
        have := o[j].toNat_lt
        show o[j].toNat < 255
        omega
theorem least_none (s o : ByteArray) (h : nb s s.size = -1) : Com o s s.size ↔ ¬ Ahead o s :=
  ⟨Ahead.not_end, from_on s o 0 (fun i hi _ => nb_over s s.size (Nat.le_refl _) i hi (by omega) hi) (com_zero o s)⟩
theorem bey_size (s : ByteArray) (q : Nat) (hq : q < s.size) : (bey s q hq).size = q + 1 := by
  unfold bey
  rw [ByteArray.size_append, extract_size s q hq, strOfNums_size]
  rfl
theorem bey_left (s : ByteArray) (q : Nat) (hq : q < s.size) (i : Nat) (h : i < q) (h2 : i < (bey s q hq).size) : (bey s q hq)[i] = s[i] := by
  refine (app_left (s.extract 0 q) (strOfNums [((s[q].toNat : Int) + 1) % 256]) i (by rw [extract_size s q hq]; exact h) h2).trans ?_
  rw [ByteArray.getElem_extract]
  simp
theorem bey_here (s : ByteArray) (q : Nat) (hq : q < s.size) (hn : s[q] ≠ 255) (h2 : q < (bey s q hq).size) : (bey s q hq)[q].toNat = s[q].toNat + 1 := by
  have e : (bey s q hq)[q] = UInt8.ofNat (((s[q].toNat : Int) + 1) % 256).toNat := app_on (s.extract 0 q) (strOfNums [((s[q].toNat : Int) + 1) % 256]) q (extract_size s q hq) (by rw [strOfNums_size]; exact Nat.zero_lt_one) h2
  rw [e, UInt8.toNat_ofNat']
  have : s[q].toNat ≠ 255 := fun e => hn (UInt8.toNat_inj.1 e)
  have := s[q].toNat_lt
  omega
theorem least_some (s o : ByteArray) (q : Nat) (hq : q < s.size) (h : nb s s.size = (q : Int)) : Com o s s.size ↔ (¬ Ahead o s ∧ Ahead o (bey s q hq)) := by
  obtain ⟨_, hne⟩ := nb_at s s.size q h
  have hz := bey_size s q hq
  have hhere := bey_here s q hq hne (by omega)
  constructor
  · intro hc
    have hl := hc.la
    refine ⟨Ahead.not_end hc, q, ⟨by omega, by omega, fun i h1 h2 h3 => ?_⟩, by omega, .inr ⟨by omega, ?_⟩⟩
    · rw [bey_left s q hq i h3 h2]
      exact hc.same i h1 (by omega) (by omega)
    · rw [hhere, hc.same q (by omega) hq hq]
      omega
  · rintro ⟨hn, k, hk, hkb, h1⟩
    have hks : Com o s k := ⟨hk.la, by omega, fun i h1 h2 h3 => by
      rw [hk.same i h1 (by omega) h3]
      exact bey_left s q hq i (by omega) _⟩
    by_cases e : k = q
    · subst e
      rcases h1 with h1 | ⟨ko, h1⟩
      · exact absurd ⟨k, hks, hq, .inl h1⟩ hn
      · rw [hhere] at h1
        have h2 : ¬ o[k].toNat < s[k].toNat := fun h2 => hn ⟨k, hks, hq, .inr ⟨ko, h2⟩⟩
        have h3 : o[k] = s[k] := UInt8.toNat_inj.1 (by omega)
        exact from_on s o (k + 1) (fun i hi h4 => nb_over s s.size (Nat.le_refl _) i hi (by omega) hi) (com_next hks ko hq h3) hn
    · exfalso
      refine hn ⟨k, hks, by omega, ?_⟩
      rcases h1 with h1 | ⟨ko, h1⟩
      · exact .inl h1
      · rw [bey_left s q hq k (by omega) hkb] at h1
        exact .inr ⟨ko, h1⟩
end Go.Proofs.Ythbpnbllcbemfaa.Oct
