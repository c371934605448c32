/- Vectors: held against one another; one within another; the least and the greatest number; whether one may be. -/
import Derived.Test.YtblogecapegbmaaGreatVcC
namespace Go.Proofs.YtblogecapegbmaaGreat.Vc
open Go.RowKit Go.Proofs.YtblogecapegbmaaGreat.Mem

def eq8 (x y : Nat → Int) : Bool := (List.range 8).all fun i => decide (x i = y i)
theorem eq8_iff {x y : Nat → Int} : eq8 x y = true ↔ ∀ i, i < 8 → x i = y i := by
  unfold eq8
  simp only [List.all_eq_true, List.mem_range, decide_eq_true_eq]
theorem eq8_self (x : Nat → Int) : eq8 x x = true := eq8_iff.2 fun _ _ => rfl
theorem eq8_and (x y : Nat → Int) : (x 0 == y 0 && (x 1 == y 1 && (x 2 == y 2 && (x 3 == y 3 && (x 4 == y 4 && (x 5 == y 5 && (x 6 == y 6 && x 7 == y 7))))))) = eq8 x y := by
  rw [Bool.eq_iff_iff, eq8_iff]
  simp only [Bool.and_eq_true, beq_iff_eq]
  constructor
  · rintro ⟨h0, h1, h2, h3, h4, h5, h6, h7⟩ i hi
    match i, hi with
    | 0, _ => exact h0
    | 1, _ => exact h1
    | 2, _ => exact h2
    | 3, _ => exact h3
    | 4, _ => exact h4
    | 5, _ => exact h5
    | 6, _ => exact h6
    | 7, _ => exact h7
  · intro h
    exact ⟨h 0 (by decide), h 1 (by decide), h 2 (by decide), h 3 (by decide), h 4 (by decide), h 5 (by decide), h 6 (by decide), h 7 (by decide)⟩
theorem eqv (x y : Nat → Int) (w : World) : (Op.equalIn 10000 23 (.agg (vecC x)) (.agg (vecC y))).run Tryz.prog w = .ok (eq8 x y) w := by
  have u3 := Tryz.underlying3
  have a3 := Tryz.isAgg3
  have z3 := Tryz.sizeOf3
  rw [← eq8_and, show (10000 : Nat) = 9999 + 1 from rfl, Op.equalIn]
  simp only [Sem.run_bind, run_underlying Tryz.underlying23, Result.andThen_ok]
  simp only [Std.Legacy.Range.forIn_eq_forIn_range', Std.Legacy.Range.size, Nat.sub_zero, Nat.add_sub_cancel, Nat.div_one, List.range'_succ, List.range'_zero, List.forIn_cons, List.forIn_nil]
  unfold vecC
  go_simp
  by_cases h0 : x 0 = y 0 <;> simp [h0]
  by_cases h1 : x 1 = y 1 <;> simp [h1]
  by_cases h2 : x 2 = y 2 <;> simp [h2]
  by_cases h3 : x 3 = y 3 <;> simp [h3]
  by_cases h4 : x 4 = y 4 <;> simp [h4]
  by_cases h5 : x 5 = y 5 <;> simp [h5]
  by_cases h6 : x 6 = y 6 <;> simp [h6]
  by_cases h7 : x 7 = y 7 <;> simp [h7]
theorem eqs (a b c d : Int) (w : World) : (Op.equalIn 10000 37 (.agg (stC a b)) (.agg (stC c d))).run Tryz.prog w = .ok (a == c && b == d) w := by
  have u3 := Tryz.underlying3
  have a3 := Tryz.isAgg3
  have z3 := Tryz.sizeOf3
  have hS : Tryz.prog.underlying 37 = some (.struct (Tryz.prog.fieldsOf 37)) := by kernel_rfl
  have hp : Tryz.prog.stoodInHeld 37 = false := by kernel_rfl
  rw [show (10000 : Nat) = 9999 + 1 from rfl]
  rw [run_equalIn_agg w 9999 37 _ _ hS hp]
  simp only [Program.fieldsOf, Tryz.underlying37]
  unfold stC
  go_simp
  by_cases h1 : a = c <;> by_cases h2 : b = d <;> simp [h1, h2]
theorem eql_vec (x y : Nat → Int) (w : World) : (binOp .eql 23 (.agg (vecC x)) (.agg (vecC y))).run Tryz.prog w = .ok (.bool (eq8 x y)) w := by
  rw [run_eql_struct, eqv]
  rfl
theorem eql_st (a b c d : Int) (w : World) : (binOp .eql 37 (.agg (stC a b)) (.agg (stC c d))).run Tryz.prog w = .ok (.bool (a == c && b == d)) w := by
  rw [run_eql_struct, eqs]
  rfl
theorem neq_st (a b c d : Int) (w : World) : (binOp .neq 37 (.agg (stC a b)) (.agg (stC c d))).run Tryz.prog w = .ok (.bool (!(a == c && b == d))) w := by
  rw [run_neq_struct, eqs]
  rfl

/-- Is all that one knows known to the other? -/
def withinB (x y : Nat → Int) : Bool := (List.range 8).all fun i => decide (x i ≤ y i)
theorem withinB_iff {x y : Nat → Int} : withinB x y = true ↔ ∀ i, i < 8 → x i ≤ y i := by
  unfold withinB
  simp only [List.all_eq_true, List.mem_range, decide_eq_true_eq]
theorem within_eq (x y : Nat → Int) : eq8 (joinV x y) y = withinB x y := by
  rw [Bool.eq_iff_iff, eq8_iff, withinB_iff]
  unfold joinV
  constructor
  · intro h i hi
    have := h i hi
    split at this <;> omega
  · intro h i hi
    have := h i hi
    split <;> omega
theorem within_any (x y : Nat → Int) (W : World) : Calls Tryz.prog 71 #[.agg (vecC x), .agg (vecC y)] W fun e W' => e = .returned (.bool (withinB x y)) ∧ Below W.heap.size W W' := by
  have hb0 := ((Below.refl W.heap.size W).alloc (Nat.le_refl _) (.cells (vecC x) 23)).alloc (by simp) (.cells (vecC y) 23)
  have hx0 := (Has.fresh W 23 (vecC x)).past (.cells (vecC y) 23)
  have hy0 := Has.fresh (W.alloc (.cells (vecC x) 23)) 23 (vecC y)
  rw [World.size_alloc] at hy0
  have HJ := Lib.hid (fun W => join_any x y W)
  have hq := eql_vec (joinV x y) y
  have HW := Lib.hid (within_eq x y)
  go_enter Tryz.func71, Tryz.ntmps71
  go_wp2_with fail
  replace hb0 := hb0.drew
  replace hx0 := hx0.drew
  replace hy0 := hy0.drew
  generalize vecC (joinV x y) = C at *
  unfold vecC at hq
  (go_region_held3 (fun w' => (w'.cell? ⟨W.heap.size, 0, none⟩ = some (.int .i64 (x 0)) ∧ w'.cell? ⟨W.heap.size, 1, none⟩ = some (.int .i64 (x 1)) ∧ w'.cell? ⟨W.heap.size, 2, none⟩ = some (.int .i64 (x 2)) ∧ w'.cell? ⟨W.heap.size, 3, none⟩ = some (.int .i64 (x 3)) ∧ w'.cell? ⟨W.heap.size, 4, none⟩ = some (.int .i64 (x 4)) ∧ w'.cell? ⟨W.heap.size, 5, none⟩ = some (.int .i64 (x 5)) ∧ w'.cell? ⟨W.heap.size, 6, none⟩ = some (.int .i64 (x 6)) ∧ w'.cell? ⟨W.heap.size, 7, none⟩ = some (.int .i64 (x 7))) ∧ w'.cell? ⟨W.heap.size + 1, 0, none⟩ = some (.int .i64 (y 0)) ∧ w'.cell? ⟨W.heap.size + 1, 1, none⟩ = some (.int .i64 (y 1)) ∧ w'.cell? ⟨W.heap.size + 1, 2, none⟩ = some (.int .i64 (y 2)) ∧ w'.cell? ⟨W.heap.size + 1, 3, none⟩ = some (.int .i64 (y 3)) ∧ w'.cell? ⟨W.heap.size + 1, 4, none⟩ = some (.int .i64 (y 4)) ∧ w'.cell? ⟨W.heap.size + 1, 5, none⟩ = some (.int .i64 (y 5)) ∧ w'.cell? ⟨W.heap.size + 1, 6, none⟩ = some (.int .i64 (y 6)) ∧ w'.cell? ⟨W.heap.size + 1, 7, none⟩ = some (.int .i64 (y 7))) (exact ⟨has_vec hx0, has_vec hy0⟩) (first | (go_at_call 38; refine (HJ.out _).mono ?_; rintro e w' ⟨rfl, hb⟩; replace hx0 := hx0.below hb; replace hy0 := hy0.below hb; replace hb0 := hb0.trans (hb.mono hb0.size); clear hb)))
  go_wp2
  go_ret
  exact ⟨by rw [← HW.out]; rfl, hb0⟩
end Go.Proofs.YtblogecapegbmaaGreat.Vc
