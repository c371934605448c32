/- How texts stand in order, on: with how many bytes two begin alike; the document's Beyond; what stands ahead. -/
import Derived.Test.YthbpnbllcbemfaaOctTexts
namespace Go.Proofs.Ythbpnbllcbemfaa.Oct
open Go.RowKit

theorem byte_same (x y : UInt8) (h : x = y) : ((x.toNat : Int) == (y.toNat : Int)) = true := by rw [h]; exact beq_self_eq_true _
theorem byte_other (x y : UInt8) (h : x ≠ y) : ((x.toNat : Int) == (y.toNat : Int)) = false := beq_eq_false_iff_ne.2 (fun e => h (UInt8.toNat_inj.1 (by omega)))
theorem below_drewN {n : Nat} {a w : World} (h : Below n a w) (m : Nat) : Below n a (w.drewN m) := ⟨h.os, h.tape, h.output, h.size, h.block⟩
/-- k is with how many bytes a and b begin alike. -/
structure Com (a b : ByteArray) (k : Nat) : Prop where
  la : k ≤ a.size
  lb : k ≤ b.size
  same : ∀ i, (h : i < a.size) → (h' : i < b.size) → i < k → a[i] = b[i]
def Stop (a b : ByteArray) (k : Nat) : Prop := ∀ (h : k < a.size) (h' : k < b.size), a[k] ≠ b[k]
theorem com_one {a b : ByteArray} {k j : Nat} (h : Com a b k) (s : Stop a b k) (h' : Com a b j) (s' : Stop a b j) : k = j := by
  rcases Nat.lt_trichotomy k j with e | e | e
  · exact absurd (h'.same k (by have := h'.la; omega) (by have := h'.lb; omega) e) (s _ _)
  · exact e
  · exact absurd (h.same j (by have := h.la; omega) (by have := h.lb; omega) e) (s' _ _)
theorem com_zero (a b : ByteArray) : Com a b 0 := ⟨Nat.zero_le _, Nat.zero_le _, fun _ _ _ h => absurd h (Nat.not_lt_zero _)⟩
theorem com_next {a b : ByteArray} {k : Nat} (h : Com a b k) (ha : k < a.size) (hb : k < b.size) (e : a[k] = b[k]) : Com a b (k + 1) :=
  ⟨ha, hb, fun i h1 h2 h3 => by
    by_cases hk : i = k
    · subst hk; exact e
    · exact h.same i h1 h2 (by omega)⟩
set_option maxRecDepth 100000 in
theorem shared_any (a b : ByteArray) (ha : a.size ≤ 1048576) (hb : b.size ≤ 1048576) (w : World) :
    Calls Try.prog 42 #[.string a, .string b] w fun e w' => ∃ k : Nat, e = .returned (.int .i64 k) ∧ Com a b k ∧ Stop a b k ∧ Below w.heap.size w w' := by
  have hma : a.size ≤ maxLen := by unfold maxLen; omega
  have hmb : b.size ≤ maxLen := by unfold maxLen; omega
  go_enter Try.func42, Try.ntmps42
  go_wp2_with fail
  · rename_i hmn
    have H3 := Lib.hid hmn
    go_loopw [13] (fun z wr => ∃ j : Nat, j ≤ b.size ∧ z = .int .i64 j ∧ Com a b j ∧ Below w.heap.size w wr) (fun z _ => b.size - (intOf z).toNat)
    case atStart => exact ⟨0, Nat.zero_le _, rfl, com_zero a b, Below.refl _ _⟩
    case round =>
      obtain ⟨j, hj, rfl, hc, hbw⟩ := hrel
      have HC := Lib.hid hc
      clear hc
      by_cases hlt : j < b.size
      · have hja : j < a.size := by omega
        have hjb : j < b.size := by omega
        by_cases e : a[j] = b[j]
        · have t1 := byte_same _ _ e
          have HE := Lib.hid e
          clear e
          go_wp2_with fail
          go_quiet (fail)
          go_wp2
          go_roundw
          case rel => exact ⟨j + 1, by omega, by go_num, com_next HC.out hja hjb HE.out, below_drewN hbw _⟩
          case measure => simp [intOf]; omega
        · have t1 := byte_other _ _ e
          have HE := Lib.hid e
          clear e
          go_wp2_with fail
          go_quiet (fail)
          go_wp2
          go_ret
          exact ⟨j, rfl, HC.out, fun _ _ => HE.out, below_drewN hbw _⟩
      · obtain rfl : j = b.size := by omega
        go_wp2
        go_ret
        exact ⟨b.size, rfl, HC.out, fun h1 h2 => by omega, hbw⟩
  · rename_i hmn
    have H3 := Lib.hid hmn
    go_loopw [13] (fun z wr => ∃ j : Nat, j ≤ a.size ∧ z = .int .i64 j ∧ Com a b j ∧ Below w.heap.size w wr) (fun z _ => a.size - (intOf z).toNat)
    case atStart => exact ⟨0, Nat.zero_le _, rfl, com_zero a b, Below.refl _ _⟩
    case round =>
      obtain ⟨j, hj, rfl, hc, hbw⟩ := hrel
      have HC := Lib.hid hc
      clear hc
      by_cases hlt : j < a.size
      · have hja : j < a.size := by omega
        have hjb : j < b.size := by omega
        by_cases e : a[j] = b[j]
        · have t1 := byte_same _ _ e
          have HE := Lib.hid e
          clear e
          go_wp2_with fail
          go_quiet (fail)
          go_wp2
          go_roundw
          case rel => exact ⟨j + 1, by omega, by go_num, com_next HC.out hja hjb HE.out, below_drewN hbw _⟩
          case measure => simp [intOf]; omega
        · have t1 := byte_other _ _ e
          have HE := Lib.hid e
          clear e
          go_wp2_with fail
          go_quiet (fail)
          go_wp2
          go_ret
          exact ⟨j, rfl, HC.out, fun _ _ => HE.out, below_drewN hbw _⟩
      · obtain rfl : j = a.size := by omega
        go_wp2
        go_ret
        exact ⟨a.size, rfl, HC.out, fun h1 h2 => by omega, hbw⟩
set_option maxRecDepth 100000 in
theorem rshared_any (a b : ByteArray) (ha : a.size ≤ 1048576) (hb : b.size ≤ 1048576) (w : World) :
    Calls Try.prog 43 #[.string a, .string b] w fun e w' => ∃ k : Nat, e = .returned (.int .i64 k) ∧ Com a b k ∧ Stop a b k ∧ Below w.heap.size w w' := by
  have hma : a.size ≤ maxLen := by unfold maxLen; omega
  have hmb : b.size ≤ maxLen := by unfold maxLen; omega
  go_enter Try.func43, Try.ntmps43
  go_wp2_with fail
  go_loopw [8] (fun z wr => ∃ j : Nat, j ≤ a.size ∧ z = .int .i64 j ∧ Com a b j ∧ Below w.heap.size w wr) (fun z _ => a.size - (intOf z).toNat)
  case atStart => exact ⟨0, Nat.zero_le _, rfl, com_zero a b, Below.refl _ _⟩
  case round =>
    obtain ⟨j, hj, rfl, hc, hbw⟩ := hrel
    have HC := Lib.hid hc
    clear hc
    by_cases hlt : j < a.size
    · by_cases hjb : j < b.size
      · have hd : decide (b.size ≤ j) = false := decide_eq_false (by omega)
        by_cases e : a[j] = b[j]
        · have t1 := byte_same _ _ e
          have HE := Lib.hid e
          clear e
          go_wp2_with fail
          go_quiet (fail)
          go_wp2
          go_roundw
          case rel => exact ⟨j + 1, by omega, by go_num, com_next HC.out hlt hjb HE.out, below_drewN hbw _⟩
          case measure => simp [intOf]; omega
        · have t1 := byte_other _ _ e
          have HE := Lib.hid e
          clear e
          go_wp2_with fail
          go_quiet (fail)
          go_wp2
          go_ret
          exact ⟨j, rfl, HC.out, fun _ _ => HE.out, below_drewN hbw _⟩
      · have hd : decide (b.size ≤ j) = true := decide_eq_true (by omega)
        go_wp2_with fail
        go_quiet (fail)
        go_wp2
        go_ret
        exact ⟨j, rfl, HC.out, fun _ h2 => absurd h2 hjb, below_drewN hbw _⟩
    · obtain rfl : j = a.size := by omega
      go_wp2
      go_ret
      exact ⟨a.size, rfl, HC.out, fun h1 _ => absurd h1 hlt, hbw⟩
end Go.Proofs.Ythbpnbllcbemfaa.Oct
