/- The first and the last time, signs, infinities: contracts. -/
import Derived.Test.YthbpnbllcbemfabInstAwake
namespace Go.Proofs.Ythbpnbllcbemfab.Inst
open Go.RowKit
open Go.Proofs.Ythbpnbllcbemfab.Flt
open Ieee

theorem cF : ((ofK 18442240474082181120 : Nat) : Int) = 4503599627370495 := by decide +kernel
theorem eF : ofE 18442240474082181120 = 0 := by decide +kernel
theorem cL : ((ofK 9218868437227405312 : Nat) : Int) = 18442240474082181120 := by decide +kernel
theorem eL : ofE 9218868437227405312 = 0 := by decide +kernel
theorem end_down (w : World) : Calls Try.prog 40 #[.int .i64 (-1)] w fun e w' => e = .returned (.int .u64 4503599627370495) ∧ w = w' := by
  go_enter Try.func40, Try.ntmps40
  go_wp2_with fail
  refine (inf_down _).mono ?_
  rintro e w' ⟨rfl, rfl⟩
  go_wp2_with fail
  refine (of_at 18442240474082181120 (by decide) _ _ cF eF _).mono ?_
  rintro e w' ⟨rfl, rfl⟩
  go_wp2
  go_ret
  exact ⟨rfl, rfl⟩
theorem end_up (w : World) : Calls Try.prog 40 #[.int .i64 1] w fun e w' => e = .returned (.int .u64 18442240474082181120) ∧ w = w' := by
  go_enter Try.func40, Try.ntmps40
  go_wp2_with fail
  refine (inf_up _).mono ?_
  rintro e w' ⟨rfl, rfl⟩
  go_wp2_with fail
  refine (of_at 9218868437227405312 (by decide) _ _ cL eL _).mono ?_
  rintro e w' ⟨rfl, rfl⟩
  go_wp2
  go_ret
  exact ⟨rfl, rfl⟩
theorem first_any (w : World) : Calls Try.prog 19 #[] w fun e w' => e = .returned (.int .u64 4503599627370495) ∧ w = w' := by
  go_enter Try.func19, Try.ntmps19
  go_wp2_with fail
  refine (end_down _).mono ?_
  rintro e w' ⟨rfl, rfl⟩
  go_wp2
  go_ret
  exact ⟨rfl, rfl⟩
theorem last_any (w : World) : Calls Try.prog 18 #[] w fun e w' => e = .returned (.int .u64 18442240474082181120) ∧ w = w' := by
  go_enter Try.func18, Try.ntmps18
  go_wp2_with fail
  refine (end_up _).mono ?_
  rintro e w' ⟨rfl, rfl⟩
  go_wp2
  go_ret
  exact ⟨rfl, rfl⟩
/-- The sign of a word. -/
def neg (b : Nat) : Bool := decide (wrap64 (b : Int) < 0)
theorem sign_any (b : Nat) (w : World) : Calls Try.prog 14 #[.float .f64 b] w fun e w' => e = .returned (.bool (neg b)) ∧ w = w' := by
  have k2 := run_bits
  go_enter Try.func14, Try.ntmps14
  go_wp2
  go_ret
  exact ⟨rfl, rfl⟩
end Go.Proofs.Ythbpnbllcbemfab.Inst
