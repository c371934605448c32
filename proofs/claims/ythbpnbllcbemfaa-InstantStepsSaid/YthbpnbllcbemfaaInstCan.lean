/- The walk of the law InstantBack. -/
import Derived.Test.YthbpnbllcbemfaaInstEnds
namespace Go.Proofs.Ythbpnbllcbemfaa.Inst
open Go.RowKit
open Go.Proofs.Ythbpnbllcbemfaa.Flt
open Ieee

/-- A word whose zero has no sign. -/
def canon (x : Nat) : Nat := if low x = 0 then 0 else x
theorem canon_lt (x : Nat) (h : x < 18446744073709551616) : canon x < 18446744073709551616 := by unfold canon; split <;> omega
theorem canon_nan (x : Nat) (h : ¬ nan x) : ¬ nan (canon x) := by
  unfold canon
  split
  · exact nan_zero
  · exact h
theorem canon_sval (x : Nat) : sval (canon x) = sval x := by
  unfold canon
  split
  · next h => rw [sval_zero, sval_low.2 h]
  · rfl
theorem toB_ofK (x : Nat) (hx : x < 18446744073709551616) (h : ¬ nan x) : toB (ofK x) = canon x := by
  unfold ofK canon
  rw [if_neg h]
  by_cases hz : low x = 0
  · rw [if_pos hz, if_pos hz]
    rfl
  · rw [if_neg hz, if_neg hz]
    by_cases h1 : x < 9223372036854775808
    · rw [if_pos h1, toB_high (by omega)]
      omega
    · rw [if_neg h1, toB_low (by omega)]
      omega
theorem ofK_canon (x : Nat) (h : ¬ nan x) : ofK (canon x) = ofK x := by
  unfold canon
  split
  · next hz =>
    have e : ofK x = 9223372036854775808 := by unfold ofK; rw [if_neg h, if_pos hz]
    rw [e]
    decide
  · rfl
theorem good_ofK (x : Nat) (hx : x < 18446744073709551616) (h : ¬ nan x) : good (ofK x) := by
  unfold good
  rw [toB_ofK x hx h]
  exact ⟨if_neg (canon_nan x h), ofK_canon x h⟩
theorem toF_ofK (x : Nat) (hx : x < 18446744073709551616) (h : ¬ nan x) : toF (ofK x) = canon x := by
  rw [toF_good (good_ofK x hx h), toB_ofK x hx h]
end Go.Proofs.Ythbpnbllcbemfaa.Inst
