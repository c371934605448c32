/- The next bits that are a time's, by the document: one on, or two. -/
import Derived.Test.YthbpnbllcbemfaaInstNear
import Derived.Test.YthbpnbllcbemfaaInstNext
import Derived.Test.YthbpnbllcbemfaaInstCan
namespace Go.Proofs.Ythbpnbllcbemfaa.Inst
open Go.RowKit
open Go.Proofs.Ythbpnbllcbemfaa.Flt
open Ieee

theorem not_nan_low (b : Nat) (h : ¬ nan b) : low b ≤ 9218868437227405312 := by
  unfold nan at h
  have : inf = 9218868437227405312 := rfl
  omega
theorem nan_of_low (b : Nat) (h : low b ≤ 9218868437227405312) : ¬ nan b := by
  unfold nan
  have : inf = 9218868437227405312 := rfl
  omega
theorem good_toF (k : Nat) (h : good k) : toF k = toB k := if_pos h
theorem good_nan (k : Nat) (h : good k) : ¬ nan (toB k) := by
  have h1 := toF_nan k
  rw [good_toF k h] at h1
  exact h1
theorem mid_bad : ¬ good 9223372036854775807 := by decide +kernel
theorem low_lt (x : Nat) (h : x < 9223372036854775808) : low x = x := Nat.mod_eq_of_lt h
theorem ofK_pos (x : Nat) (h : ¬ nan x) (h1 : 0 < x) (h2 : x < 9223372036854775808) : ofK x = x + 9223372036854775808 := by
  unfold ofK
  rw [if_neg h, low_lt x h2, if_neg (by omega), if_pos h2]
theorem ofK_neg (x : Nat) (h : ¬ nan x) (h1 : 9223372036854775808 < x) (h2 : x < 18446744073709551616) : ofK x = 18446744073709551615 - x := by
  have hl : low x = x - 9223372036854775808 := by unfold low; omega
  unfold ofK
  rw [if_neg h, if_neg (by omega), if_neg (by omega)]
/-- What stands next to a time's bits. -/
inductive Step (k : Nat) : Prop where
  | last (h : sval (toF k) = 9218868437227405312) (e : nextK k = k)
  | one (h : sval (toF k) < 9218868437227405312) (g : good (k + 1)) (e : nextK k = k + 1)
  | two (h : sval (toF k) < 9218868437227405312) (g : ¬ good (k + 1)) (e : nextK k = k + 2)
theorem step_of (k : Nat) (hk : k < 18446744073709551616) (hg : good k) : Step k := by
  have hn := good_nan k hg
  have hf := good_toF k hg
  have he : nextK k = ofK (nextW (toB k)) := by
    have : nextK k = ofK (nextW (toF k)) := if_pos hg
    rw [this, hf]
  have hok : ofK (toB k) = k := hg.2
  have hlow := not_nan_low _ hn
  by_cases hh : k < 9223372036854775808
  · have hb : toB k = 18446744073709551615 - k := if_pos hh
    have hl : low (toB k) = 9223372036854775807 - k := by rw [hb]; unfold low; omega
    have hs : sval (toB k) = -((9223372036854775807 - k : Nat) : Int) := by
      have : sval (toB k) = -(low (toB k) : Int) := if_neg (by rw [hb]; omega)
      rw [this, hl]
    have hk7 : k ≠ 9223372036854775807 := fun e => mid_bad (e ▸ hg)
    have hw : nextW (toB k) = 18446744073709551614 - k := by
      unfold nextW
      rw [if_neg (by rw [hb]; omega), if_neg (by rw [hb]; omega), if_neg (by rw [hb]; omega), hb]
      omega
    have hx : sval (toF k) < 9218868437227405312 := by rw [hf, hs]; omega
    rw [hl] at hlow
    by_cases h6 : k = 9223372036854775806
    · refine .two hx (by rw [h6]; exact mid_bad) ?_
      rw [he, hw, h6]
      decide +kernel
    · have hnn : ¬ nan (18446744073709551614 - k) := nan_of_low _ (by unfold low; omega)
      have e1 : nextK k = k + 1 := by
        rw [he, hw, ofK_neg _ hnn (by omega) (by omega)]
        omega
      refine .one hx ?_ e1
      rw [← e1, he, hw]
      exact good_ofK _ (by omega) hnn
  · have hb : toB k = k - 9223372036854775808 := if_neg hh
    have hl : low (toB k) = k - 9223372036854775808 := by rw [hb]; unfold low; omega
    have hs : sval (toB k) = ((k - 9223372036854775808 : Nat) : Int) := by
      have : sval (toB k) = (low (toB k) : Int) := if_pos (by rw [hb]; omega)
      rw [this, hl]
    rw [hl] at hlow
    by_cases hi : k - 9223372036854775808 = 9218868437227405312
    · refine .last (by rw [hf, hs, hi]; rfl) ?_
      have hw : nextW (toB k) = toB k := if_pos (by rw [hb, hi])
      rw [he, hw, hok]
    · have hw : nextW (toB k) = k - 9223372036854775808 + 1 := by
        unfold nextW
        rw [hb, if_neg hi]
        split
        · omega
        · rw [if_pos (by omega)]
      have hnn : ¬ nan (k - 9223372036854775808 + 1) := nan_of_low _ (by unfold low; omega)
      have e1 : nextK k = k + 1 := by
        rw [he, hw, ofK_pos _ hnn (by omega) (by omega)]
        omega
      refine .one (by rw [hf, hs]; omega) ?_ e1
      rw [← e1, he, hw]
      exact good_ofK _ (by omega) hnn
theorem nextE_good (k : Nat) (hk : k < 18446744073709551616) (hg : good k) : nextE k = 0 := by
  have h1 : nextE k = ofE (nextW (toF k)) := if_pos hg
  rw [h1]
  have hn : ¬ nan (nextW (toF k)) := by
    have hx := not_nan_low _ (toF_nan k)
    have hlt := toF_lt k hk
    have hz : toF k < 9223372036854775808 ∨ low (toF k) ≠ 0 := by
      by_cases h : toF k < 9223372036854775808
      · exact .inl h
      · refine .inr fun e => ?_
        rcases toF_zero k with h2 | h2
        · omega
        · exact h2 (by unfold sval; rw [if_neg h, e]; rfl)
    apply nan_of_low
    unfold nextW
    generalize toF k = x at *
    unfold low at *
    split
    · omega
    · split
      · omega
      · split <;> omega
  unfold ofE
  rw [if_neg hn]
end Go.Proofs.Ythbpnbllcbemfaa.Inst
