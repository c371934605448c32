/- Vectors: held against one another; one within another; the least and the greatest number; whether one may be. -/
import Derived.Test.YtigkdoicmcdbhaaGreatVcC
namespace Go.Proofs.YtigkdoicmcdbhaaGreat.Vc
open Go.RowKit Go.Proofs.YtigkdoicmcdbhaaGreat.Mem

def eq8 (x y : Nat → Int) : Bool := (List.range 8).all fun i => decide (x i = y i)
theorem eq8_iff {x y : Nat → Int} : eq8 x y = true ↔ ∀ i, i < 8 → x i = y i := by
  unfold eq8
  simp only [List.all_eq_true, List.mem_range, decide_eq_true_eq]
theorem eq8_self (x : Nat → Int) : eq8 x x = true := eq8_iff.2 fun _ _ => rfl
theorem eq8_and (x y : Nat → Int) : (x 0 == y 0 && (x 1 == y 1 && (x 2 == y 2 && (x 3 == y 3 && (x 4 == y 4 && (x 5 == y 5 && (x 6 == y 6 && x 7 == y 7))))))) = eq8 x y := by
  rw [Bool.eq_iff_iff, eq8_iff]
  simp only [Bool.and_eq_true, beq_iff_eq]
  constructor
  · rintro ⟨h0, h1, h2, h3, h4, h5, h6, h7⟩ i hi
    match i, hi with
    | 0, _ => exact h0
    | 1, _ => exact h1
    | 2, _ => exact h2
    | 3, _ => exact h3
    | 4, _ => exact h4
    | 5, _ => exact h5
    | 6, _ => exact h6
    | 7, _ => exact h7
  · intro h
    exact ⟨h 0 (by decide), h 1 (by decide), h 2 (by decide), h 3 (by decide), h 4 (by decide), h 5 (by decide), h 6 (by decide), h 7 (by decide)⟩
theorem eqv (x y : Nat → Int) (w : World) : (Op.equalIn 10000 24 (.agg (vecC x)) (.agg (vecC y))).run Tryz.prog w = .ok (eq8 x y) w := by
  have u3 := Tryz.underlying3
  have a3 := Tryz.isAgg3
  have z3 := Tryz.sizeOf3
  rw [← eq8_and, show (10000 : Nat) = 9999 + 1 from rfl, Op.equalIn]
  simp only [Sem.run_bind, run_underlying Tryz.underlying24, Result.andThen_ok]
  simp only [Std.Legacy.Range.forIn_eq_forIn_range', Std.Legacy.Range.size, Nat.sub_zero, Nat.add_sub_cancel, Nat.div_one, List.range'_succ, List.range'_zero, List.forIn_cons, List.forIn_nil]
  unfold vecC
  go_simp
  by_cases h0 : x 0 = y 0 <;> simp [h0]
  by_cases h1 : x 1 = y 1 <;> simp [h1]
  by_cases h2 : x 2 = y 2 <;> simp [h2]
  by_cases h3 : x 3 = y 3 <;> simp [h3]
  by_cases h4 : x 4 = y 4 <;> simp [h4]
  by_cases h5 : x 5 = y 5 <;> simp [h5]
  by_cases h6 : x 6 = y 6 <;> simp [h6]
  by_cases h7 : x 7 = y 7 <;> simp [h7]
theorem eqs (a b c d : Int) (w : World) : (Op.equalIn 10000 26 (.agg (stC a b)) (.agg (stC c d))).run Tryz.prog w = .ok (a == c && b == d) w := by
  have u3 := Tryz.underlying3
  have a3 := Tryz.isAgg3
  have z3 := Tryz.sizeOf3
  have hS : Tryz.prog.underlying 26 = some (.struct (Tryz.prog.fieldsOf 26)) := by kernel_rfl
  have hp : Tryz.prog.stoodInHeld 26 = false := by kernel_rfl
  rw [show (10000 : Nat) = 9999 + 1 from rfl]
  rw [run_equalIn_agg w 9999 26 _ _ hS hp]
  simp only [Program.fieldsOf, Tryz.underlying26]
  unfold stC
  go_simp
  by_cases h1 : a = c <;> by_cases h2 : b = d <;> simp [h1, h2]
theorem eql_vec (x y : Nat → Int) (w : World) : (binOp .eql 24 (.agg (vecC x)) (.agg (vecC y))).run Tryz.prog w = .ok (.bool (eq8 x y)) w := by
  rw [run_eql_struct, eqv]
  rfl
theorem eql_st (a b c d : Int) (w : World) : (binOp .eql 26 (.agg (stC a b)) (.agg (stC c d))).run Tryz.prog w = .ok (.bool (a == c && b == d)) w := by
  rw [run_eql_struct, eqs]
  rfl
theorem neq_st (a b c d : Int) (w : World) : (binOp .neq 26 (.agg (stC a b)) (.agg (stC c d))).run Tryz.prog w = .ok (.bool (!(a == c && b == d))) w := by
  rw [run_neq_struct, eqs]
  rfl

/-- Is all that one knows known to the other? -/
def withinB (x y : Nat → Int) : Bool := (List.range 8).all fun i => decide (x i ≤ y i)
theorem withinB_iff {x y : Nat → Int} : withinB x y = true ↔ ∀ i, i < 8 → x i ≤ y i := by
  unfold withinB
  simp only [List.all_eq_true, List.mem_range, decide_eq_true_eq]
theorem within_eq (x y : Nat → Int) : eq8 (joinV x y) y = withinB x y := by
  rw [Bool.eq_iff_iff, eq8_iff, withinB_iff]
  unfold joinV
  constructor
  · intro h i hi
    have := h i hi
    split at this <;> omega
  · intro h i hi
    have := h i hi
    split <;> omega
end Go.Proofs.YtigkdoicmcdbhaaGreat.Vc
