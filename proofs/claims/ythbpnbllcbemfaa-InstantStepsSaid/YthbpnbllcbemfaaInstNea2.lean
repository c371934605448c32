/- Of a time that is near, the floor is a whole number within the integers. -/
import Derived.Test.YthbpnbllcbemfaaInstNea1
namespace Go.Proofs.Ythbpnbllcbemfaa.Inst
open Go.RowKit
open Ieee

theorem word_low (s : Bool) (r : Nat) (hr : r < 9223372036854775808) : double.word s r % 9223372036854775808 = r := by
  unfold Format.word
  rw [Flt.d_sw]
  split <;> omega
theorem near_int (s : Bool) (n : Nat) (h : n ≤ 18014398509481985) : (double.nearest s n 0) % 9223372036854775808 ≤ 4868391197187506176 := by
  have hb : double.binade = 4503599627370496 := Flt.d_bin
  have hi : double.infRung = 9218868437227405312 := Flt.d_inf
  have hl : double.leastPlace = -1074 := Flt.d_lp
  have hf : double.fractionBits = 52 := rfl
  unfold Format.nearest
  by_cases h0 : n = 0
  · rw [if_pos h0, word_low s 0 (by decide)]
    decide
  · rw [if_neg h0, hb, hi, hl, hf]
    have hL : n.log2 < 55 := (Nat.log2_lt h0).2 (by omega)
    have hN : n < 2 ^ (n.log2 + 1) := Nat.lt_log2_self
    simp only []
    generalize hlast : max ((0 : Int) + (n.log2 : Int) - (52 : Nat)) (-1074) = last
    have hlast2 : last = (n.log2 : Int) - 52 := by omega
    have hk := cut_le .even s (n <<< (0 - last).toNat) (last - 0).toNat
    have hs : n <<< (0 - last).toNat ≤ 18014398509481985 := by
      by_cases h52 : n.log2 ≤ 52
      · have e : (0 - last).toNat = 52 - n.log2 := by omega
        rw [e, Nat.shiftLeft_eq]
        have h3 : n * 2 ^ (52 - n.log2) ≤ 2 ^ (n.log2 + 1) * 2 ^ (52 - n.log2) := Nat.mul_le_mul_right _ (Nat.le_of_lt hN)
        rw [← Nat.pow_add, show n.log2 + 1 + (52 - n.log2) = 53 by omega] at h3
        exact Nat.le_trans h3 (by decide)
      · have e : (0 - last).toNat = 0 := by omega
        rw [e, Nat.shiftLeft_zero]
        exact h
    have hkept := Nat.le_trans hk (Nat.add_le_add_right hs 1)
    clear hN hk hs hlast
    generalize Toward.even.cut s (n <<< (0 - last).toNat) (last - 0).toNat = kept at hkept ⊢
    have hr : (last - -1074).toNat ≤ 1076 := by omega
    have hm : (last - -1074).toNat * 4503599627370496 ≤ 4845873199050653696 := Nat.le_trans (Nat.mul_le_mul_right _ hr) (by decide)
    generalize (last - -1074).toNat * 4503599627370496 = R at hm ⊢
    clear hr hlast2 hL h h0
    rw [word_low s (min (R + kept) 9218868437227405312) (Nat.lt_of_le_of_lt (Nat.min_le_right _ _) (by decide))]
    exact Nat.le_trans (Nat.min_le_left _ _) (by omega)
end Go.Proofs.Ythbpnbllcbemfaa.Inst
