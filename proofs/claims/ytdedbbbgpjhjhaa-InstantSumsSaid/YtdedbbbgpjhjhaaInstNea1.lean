/- Of a time that is near, the floor is a whole number within the integers. -/
import Derived.Test.YtdedbbbgpjhjhaaInstStep
namespace Go.Proofs.Ytdedbbbgpjhjhaa.Inst
open Go.RowKit
open Ieee

theorem cut_le (way : Toward) (s : Bool) (n d : Nat) : way.cut s n d ≤ n + 1 := by
  unfold Toward.cut
  generalize 1 <<< min d (n.log2 + 2) = gap
  have h1 : n / gap ≤ n := Nat.div_le_self _ _
  have h2 : ∀ b : Bool, b.toNat ≤ 1 := fun b => by cases b <;> decide
  simp only []
  exact Nat.add_le_add h1 (h2 _)
theorem read_low (b : Nat) (h : b % 9223372036854775808 ≤ 4868391197187506176) : ∃ s m p, double.read b = .number s m p ∧ m < 9007199254740992 ∧ p.toNat ≤ b % 9223372036854775808 / 4503599627370496 - 1075 := by
  have hw : double.signWeight = 9223372036854775808 := Flt.d_sw
  have hb : double.binade = 4503599627370496 := Flt.d_bin
  have hi : double.infRung = 9218868437227405312 := Flt.d_inf
  have hl : double.leastPlace = -1074 := Flt.d_lp
  unfold Format.read
  rw [hw, hb, hi, hl]
  generalize b % 9223372036854775808 = r at *
  simp only []
  by_cases h1 : r < 4503599627370496
  · rw [if_pos h1]
    exact ⟨_, r, -1074, rfl, by omega, by have : (-1074 : Int).toNat = 0 := rfl; omega⟩
  · rw [if_neg h1, if_pos (by omega)]
    exact ⟨_, _, _, rfl, by omega, by omega⟩
theorem shl_le (m p q : Nat) (h : p ≤ q) : m <<< p ≤ m * 2 ^ q := by
  rw [Nat.shiftLeft_eq]
  exact Nat.mul_le_mul_left _ (Nat.pow_le_pow_right (by decide) h)
theorem int_small (b : Nat) (h : b % 9223372036854775808 ≤ 4868391197187506176) : ∃ n, (double.read b).toInt .zero = some n ∧ -9223372036854775808 ≤ n ∧ n ≤ 9223372036854775807 := by
  obtain ⟨s, m, p, e, hm, hp⟩ := read_low b h
  have hp6 : p.toNat ≤ 6 := by omega
  have h1 := cut_le .zero s (m <<< p.toNat) (-p).toNat
  have h2 := shl_le m p.toNat 6 hp6
  rw [e]
  simp only [Datum.toInt, Datum.integral]
  refine ⟨signed s (Toward.zero.cut s (m <<< p.toNat) (-p).toNat) 0, rfl, ?_⟩
  generalize Toward.zero.cut s (m <<< p.toNat) (-p).toNat = c at *
  unfold signed
  rw [Nat.shiftLeft_zero]
  split <;> omega
end Go.Proofs.Ytdedbbbgpjhjhaa.Inst
