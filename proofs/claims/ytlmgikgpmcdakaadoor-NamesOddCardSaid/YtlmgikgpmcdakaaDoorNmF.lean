/- Whether a text has a slash or a byte 0, of whatever bytes it is. -/
import Derived.Test.YtlmgikgpmcdakaaDoorNmE
namespace Go.Proofs.YtlmgikgpmcdakaaDoor.Nm
open Go.RowKit Go.Proofs.YtlmgikgpmcdakaaDoor.Mem

theorem get_in (s : ByteArray) (k : Nat) (h : k < s.size) : s.get! k = s[k]'h := by
  simp [ByteArray.get!, getElem!_pos, h]
  rfl
theorem cont_high (s : ByteArray) (k : Nat) (h : (decide (k < s.size) && (s.get! k).toNat / 64 == 2) = true) : ∃ hk : k < s.size, 128 ≤ (s[k]'hk).toNat := by
  rw [Bool.and_eq_true] at h
  obtain ⟨h1, h2⟩ := h
  have hk := of_decide_eq_true h1
  rw [get_in s k hk] at h2
  have := beq_iff_eq.1 h2
  exact ⟨hk, by omega⟩
/-- Past a sign that is no byte below 128: all its bytes are from 128 on. -/
theorem decode_past (s : ByteArray) (pos : Nat) (h : pos < s.size) (hi : 128 ≤ (s[pos]'h).toNat) :
    1 ≤ (Utf8.decode s pos).2 ∧ pos + (Utf8.decode s pos).2 ≤ s.size ∧ ∀ j (hj : j < s.size), pos ≤ j → j < pos + (Utf8.decode s pos).2 → 128 ≤ (s[j]'hj).toNat := by
  have one : 1 ≤ 1 ∧ pos + 1 ≤ s.size ∧ ∀ j (hj : j < s.size), pos ≤ j → j < pos + 1 → 128 ≤ (s[j]'hj).toNat := ⟨by omega, by omega, fun j hj h1 h2 => by
    obtain rfl : j = pos := by omega
    exact hi⟩
  have hn : ¬ (s[pos]'h).toNat < 128 := by omega
  simp only [Utf8.decode, get_at s pos h, hn, if_false]
  split
  · next hc =>
    rw [Bool.and_eq_true] at hc
    obtain ⟨k1, b1⟩ := cont_high s _ hc.2
    split
    · exact ⟨by omega, by omega, fun j hj h1 h2 => by
        rcases (by omega : j = pos ∨ j = pos + 1) with rfl | rfl
        · exact hi
        · exact b1⟩
    · exact one
  · split
    · next hc =>
      rw [Bool.and_eq_true, Bool.and_eq_true] at hc
      obtain ⟨k1, b1⟩ := cont_high s _ hc.1.2
      obtain ⟨k2, b2⟩ := cont_high s _ hc.2
      split
      · exact ⟨by omega, by omega, fun j hj h1 h2 => by
          rcases (by omega : j = pos ∨ j = pos + 1 ∨ j = pos + 2) with rfl | rfl | rfl
          · exact hi
          · exact b1
          · exact b2⟩
      · exact one
    · split
      · next hc =>
        rw [Bool.and_eq_true, Bool.and_eq_true, Bool.and_eq_true] at hc
        obtain ⟨k1, b1⟩ := cont_high s _ hc.1.1.2
        obtain ⟨k2, b2⟩ := cont_high s _ hc.1.2
        obtain ⟨k3, b3⟩ := cont_high s _ hc.2
        split
        · exact ⟨by omega, by omega, fun j hj h1 h2 => by
            rcases (by omega : j = pos ∨ j = pos + 1 ∨ j = pos + 2 ∨ j = pos + 3) with rfl | rfl | rfl | rfl
            · exact hi
            · exact b1
            · exact b2
            · exact b3⟩
        · exact one
      · exact one
theorem decode_rune (s : ByteArray) (pos : Nat) : (Utf8.decode s pos).1 ≤ 1114111 := by
  have hb : ∀ k, (s.get! k).toNat < 256 := fun k => (s.get! k).toNat_lt
  simp only [Utf8.decode]
  have h0 := hb (pos + 0)
  have h1 := hb (pos + 1)
  have h2 := hb (pos + 2)
  split
  · show _ ≤ _
    omega
  · split
    · split
      · show _ ≤ _
        omega
      · decide
    · split
      · split
        · show _ ≤ _
          omega
        · decide
      · split
        · split
          · next hv =>
            rw [Bool.and_eq_true] at hv
            have := hv.2
            rw [Go.validRune_eq] at this
            unfold Go.validRune at this
            have := of_decide_eq_true this
            show _ ≤ _
            omega
          · decide
        · decide

/-- The index of a sign: none has one that is 128 or more. -/
theorem rune_any (r : Int) (h0 : 128 ≤ r) (h1 : r ≤ 1114111) (w : World) :
    Calls Tryd.prog 50 #[.string ⟨#[47, 0]⟩, .int .i32 r] w fun e w' => e = .returned (.int .i64 (-1)) ∧ Below w.heap.size w w' := by
  by_cases h : r = 65533
  · subst h
    exact rune_error w
  · exact rune_high r h0 h1 h w
end Go.Proofs.YtlmgikgpmcdakaaDoor.Nm
