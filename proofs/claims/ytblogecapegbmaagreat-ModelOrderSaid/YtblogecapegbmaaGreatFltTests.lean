/- The tests on floats as the walk writes them, decided by signed rungs. -/
import Derived.Test.YtblogecapegbmaaGreatFltOrder
import Derived.Laws.Cover2
namespace Go.Proofs.YtblogecapegbmaaGreat.Flt
open Ieee

theorem fmt64 : FloatKind.f64.format = double := rfl
section
variable {a b : Nat} (ha : a < 18446744073709551616) (hb : b < 18446744073709551616)
include ha hb
theorem eq_true (na : ¬ nan a) (nb : ¬ nan b) (h : sval a = sval b) : (FloatKind.f64.format.order a b == some Ordering.eq) = true := by
  rw [fmt64, order_sval a b ha hb na nb, cmp_eq h]; rfl
theorem eq_false (na : ¬ nan a) (nb : ¬ nan b) (h : sval a ≠ sval b) : (FloatKind.f64.format.order a b == some Ordering.eq) = false := by
  rw [fmt64, order_sval a b ha hb na nb]
  rcases Int.lt_or_gt_of_ne h with h1 | h1
  · rw [cmp_lt h1]; rfl
  · rw [cmp_gt h1]; rfl
theorem ne_true (na : ¬ nan a) (nb : ¬ nan b) (h : sval a ≠ sval b) : (FloatKind.f64.format.order a b != some Ordering.eq) = true := by
  rw [bne, eq_false ha hb na nb h]; rfl
theorem ne_false (na : ¬ nan a) (nb : ¬ nan b) (h : sval a = sval b) : (FloatKind.f64.format.order a b != some Ordering.eq) = false := by
  rw [bne, eq_true ha hb na nb h]; rfl
theorem gt_true (na : ¬ nan a) (nb : ¬ nan b) (h : sval b < sval a) : (FloatKind.f64.format.order a b == some Ordering.gt) = true := by
  rw [fmt64, order_sval a b ha hb na nb, cmp_gt h]; rfl
theorem gt_false (na : ¬ nan a) (nb : ¬ nan b) (h : sval a ≤ sval b) : (FloatKind.f64.format.order a b == some Ordering.gt) = false := by
  rw [fmt64, order_sval a b ha hb na nb]
  by_cases e : sval a = sval b
  · rw [cmp_eq e]; rfl
  · rw [cmp_lt (by omega)]; rfl
theorem lt_true (na : ¬ nan a) (nb : ¬ nan b) (h : sval a < sval b) : (FloatKind.f64.format.order a b == some Ordering.lt) = true := by
  rw [fmt64, order_sval a b ha hb na nb, cmp_lt h]; rfl
theorem lt_false (na : ¬ nan a) (nb : ¬ nan b) (h : sval b ≤ sval a) : (FloatKind.f64.format.order a b == some Ordering.lt) = false := by
  rw [fmt64, order_sval a b ha hb na nb]
  by_cases e : sval a = sval b
  · rw [cmp_eq e]; rfl
  · rw [cmp_gt (by omega)]; rfl
end
theorem nan_left (a b : Nat) (h : nan a) : FloatKind.f64.format.order a b = none := order_nan_left a b h
theorem nan_right (a b : Nat) (h : nan b) : FloatKind.f64.format.order a b = none := order_nan_right a b h
theorem nan_zero : ¬ nan 0 := by decide
theorem sval_zero : sval 0 = 0 := by decide
theorem sval_low {b : Nat} : (sval b = 0) ↔ (low b = 0) := by unfold sval; split <;> omega
theorem sval_pos {b : Nat} : (0 < sval b) ↔ (low b ≠ 0 ∧ b < 9223372036854775808) := by unfold sval; split <;> omega
end Go.Proofs.YtblogecapegbmaaGreat.Flt
