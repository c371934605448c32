/- The first and the last time, signs, infinities: contracts. -/
import Derived.Test.YthbpnbllcbemfaaInstAwake
namespace Go.Proofs.Ythbpnbllcbemfaa.Inst
open Go.RowKit
open Go.Proofs.Ythbpnbllcbemfaa.Flt
open Ieee

theorem cF : ((ofK 18442240474082181120 : Nat) : Int) = 4503599627370495 := by decide +kernel
theorem eF : ofE 18442240474082181120 = 0 := by decide +kernel
theorem cL : ((ofK 9218868437227405312 : Nat) : Int) = 18442240474082181120 := by decide +kernel
theorem eL : ofE 9218868437227405312 = 0 := by decide +kernel
theorem end_down (w : World) : Calls Try.prog 90 #[.int .i64 (-1)] w fun e w' => e = .returned (.int .u64 4503599627370495) ∧ w = w' := by
  go_enter Try.func90, Try.ntmps90
  go_wp2_with fail
  refine (inf_down _).mono ?_
  rintro e w' ⟨rfl, rfl⟩
  go_wp2_with fail
  refine (of_at 18442240474082181120 (by decide) _ _ cF eF _).mono ?_
  rintro e w' ⟨rfl, rfl⟩
  go_wp2
  go_ret
  exact ⟨rfl, rfl⟩
theorem end_up (w : World) : Calls Try.prog 90 #[.int .i64 1] w fun e w' => e = .returned (.int .u64 18442240474082181120) ∧ w = w' := by
  go_enter Try.func90, Try.ntmps90
  go_wp2_with fail
  refine (inf_up _).mono ?_
  rintro e w' ⟨rfl, rfl⟩
  go_wp2_with fail
  refine (of_at 9218868437227405312 (by decide) _ _ cL eL _).mono ?_
  rintro e w' ⟨rfl, rfl⟩
  go_wp2
  go_ret
  exact ⟨rfl, rfl⟩
theorem first_any (w : World) : Calls Try.prog 54 #[] w fun e w' => e = .returned (.int .u64 4503599627370495) ∧ w = w' := by
  go_enter Try.func54, Try.ntmps54
  go_wp2_with fail
  refine (end_down _).mono ?_
  rintro e w' ⟨rfl, rfl⟩
  go_wp2
  go_ret
  exact ⟨rfl, rfl⟩
theorem last_any (w : World) : Calls Try.prog 55 #[] w fun e w' => e = .returned (.int .u64 18442240474082181120) ∧ w = w' := by
  go_enter Try.func55, Try.ntmps55
  go_wp2_with fail
  refine (end_up _).mono ?_
  rintro e w' ⟨rfl, rfl⟩
  go_wp2
  go_ret
  exact ⟨rfl, rfl⟩
/-- The sign of a word. -/
def neg (b : Nat) : Bool := decide (wrap64 (b : Int) < 0)
theorem sign_any (b : Nat) (w : World) : Calls Try.prog 56 #[.float .f64 b] w fun e w' => e = .returned (.bool (neg b)) ∧ w = w' := by
  have k2 := run_bits
  go_enter Try.func56, Try.ntmps56
  go_wp2
  go_ret
  exact ⟨rfl, rfl⟩
end Go.Proofs.Ythbpnbllcbemfaa.Inst
