/- Vectors: the example. -/
import Derived.Test.YtlnlnpofdgnoeaaVcI
namespace Go.Proofs.Ytlnlnpofdgnoeaa.Vc
open Go.RowKit Go.Proofs.Ytlnlnpofdgnoeaa.Mem

def v35 : Nat → Int := fun i => if i = 0 then 3 else if i = 1 then 5 else 0
def vFar : Nat → Int := fun i => if i = 0 then 1099511627776 else 0
theorem next_a (W : World) : Calls Try.prog 28 #[.agg #[.int .i64 3, .int .i64 5, .int .i64 0, .int .i64 0, .int .i64 0, .int .i64 0, .int .i64 0, .int .i64 0], .int .i64 2] W fun e W' => e = .returned (.tuple #[.agg #[.int .i64 6, .int .i64 2], .int .i64 0]) ∧ Below W.heap.size W W' := next_any v35 2 W
theorem next_b (W : World) : Calls Try.prog 28 #[.agg #[.int .i64 1099511627776, .int .i64 0, .int .i64 0, .int .i64 0, .int .i64 0, .int .i64 0, .int .i64 0, .int .i64 0], .int .i64 0] W fun e W' => e = .returned (.tuple #[.agg #[.int .i64 0, .int .i64 0], .int .i64 75]) ∧ Below W.heap.size W W' := by
  have h := next_any vFar 0 W
  rw [next_far (by decide) (by decide) (by decide)] at h
  exact h
theorem has_a (W : World) : Calls Try.prog 15 #[.agg #[.int .i64 3, .int .i64 5, .int .i64 0, .int .i64 0, .int .i64 0, .int .i64 0, .int .i64 0, .int .i64 0], .agg #[.int .i64 5, .int .i64 1]] W fun e W' => e = .returned (.bool true) ∧ Below W.heap.size W W' := has_any v35 5 1 W
theorem has_b (W : World) : Calls Try.prog 15 #[.agg #[.int .i64 3, .int .i64 5, .int .i64 0, .int .i64 0, .int .i64 0, .int .i64 0, .int .i64 0, .int .i64 0], .agg #[.int .i64 4, .int .i64 0]] W fun e W' => e = .returned (.bool false) ∧ Below W.heap.size W W' := has_any v35 4 0 W
theorem below_two {B : Nat} {a b c : World} (h : Below B a b) (hB : B ≤ b.heap.size) (k : Below b.heap.size b c) : Below B a c := h.trans (k.mono hB)

set_option maxHeartbeats 2000000 in
theorem awake_any (W : World) : Calls Try.prog 19 #[] W fun e W' => e = .returned (.bool true) ∧ Below W.heap.size W W' := by
  have b1 : ∀ w : World, (Instr.build 25 #[(0, .int .i64 3), (1, .int .i64 5)]).run Try.prog w = .ok (.agg #[.int .i64 3, .int .i64 5, .int .i64 0, .int .i64 0, .int .i64 0, .int .i64 0, .int .i64 0, .int .i64 0]) w := fun w => run_build w _ _ _ (by kernel_rfl)
  have b2 : ∀ w : World, (Instr.build 25 #[(0, .int .i64 1099511627776)]).run Try.prog w = .ok (.agg #[.int .i64 1099511627776, .int .i64 0, .int .i64 0, .int .i64 0, .int .i64 0, .int .i64 0, .int .i64 0, .int .i64 0]) w := fun w => run_build w _ _ _ (by kernel_rfl)
  have b3 : ∀ w : World, (Instr.build 23 #[(0, .int .i64 6), (1, .int .i64 2)]).run Try.prog w = .ok (.agg #[.int .i64 6, .int .i64 2]) w := fun w => run_build w _ _ _ (by kernel_rfl)
  have b4 : ∀ w : World, (Instr.build 23 #[(0, .int .i64 5), (1, .int .i64 1)]).run Try.prog w = .ok (.agg #[.int .i64 5, .int .i64 1]) w := fun w => run_build w _ _ _ (by kernel_rfl)
  have b5 : ∀ w : World, (Instr.build 23 #[(0, .int .i64 4)]).run Try.prog w = .ok (.agg #[.int .i64 4, .int .i64 0]) w := fun w => run_build w _ _ _ (by kernel_rfl)
  have q1 : ∀ w : World, (binOp .eql 23 (.agg #[.int .i64 6, .int .i64 2]) (.agg #[.int .i64 6, .int .i64 2])).run Try.prog w = .ok (.bool true) w := fun w => eql_st 6 2 6 2 w
  go_enter Try.func19, Try.ntmps19
  go_wp2_with fail
  refine (next_a _).mono ?_
  rintro e w1 ⟨rfl, hb1⟩
  go_wp2_with fail
  refine (next_b _).mono ?_
  rintro e w2 ⟨rfl, hb2⟩
  have g1 := hb1.alloc hb1.size (.cells (stC 6 2) 23)
  have h1 := Has.below (Has.fresh w1 23 (stC 6 2)) hb2
  have g2 := g1.trans (hb2.mono g1.size)
  have h3 := h1.past (.cells (stC 0 0) 23)
  have g3 := g2.alloc g2.size (.cells (stC 0 0) 23)
  unfold stC at *
  obtain ⟨c0, c1⟩ := has_st h3
  clear hb1 hb2 h1 g1 g2
  go_wp2_with fail
  refine (has_a _).mono ?_
  rintro e w4 ⟨rfl, hb4⟩
  have g4 := g3.trans (hb4.mono g3.size)
  clear g3 hb4
  go_wp2_with fail
  refine (has_b _).mono ?_
  rintro e w5 ⟨rfl, hb5⟩
  have g5 := g4.trans (hb5.mono g4.size)
  go_wp2
  go_ret
  exact ⟨rfl, g5⟩
end Go.Proofs.Ytlnlnpofdgnoeaa.Vc
