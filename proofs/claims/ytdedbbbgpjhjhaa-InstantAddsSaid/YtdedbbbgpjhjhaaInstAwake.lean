/- The package's example is as the document has it; and the first and the last time. -/
import Derived.Test.YtdedbbbgpjhjhaaInstNext
namespace Go.Proofs.Ytdedbbbgpjhjhaa.Inst
open Go.RowKit
open Go.Proofs.Ytdedbbbgpjhjhaa.Flt
open Ieee

theorem of_at (b : Nat) (hb : b < 18446744073709551616) (k e : Int) (h1 : ((ofK b : Nat) : Int) = k) (h2 : ofE b = e) (w : World) :
    Calls Try.prog 68 #[.float .f64 b] w fun r w' => r = .returned (.tuple #[.int .u64 k, .int .i64 e]) ∧ w = w' := by
  rw [← h1, ← h2]
  exact of_any b hb w
theorem copy_neg (w : World) : Calls Try.prog 69 #[.float .f64 0, .float .f64 13830554455654793216] w fun e w' => e = .returned (.float .f64 9223372036854775808) ∧ w = w' := by
  have k1 := run_frombits
  have k2 := run_bits
  go_enter Try.func69, Try.ntmps69
  iterate 80 (try go_step)
  go_ret
  exact ⟨rfl, rfl⟩
theorem nan_any (w : World) : Calls Try.prog 72 #[] w fun e w' => e = .returned (.float .f64 9221120237041090561) ∧ w = w' := by
  have k1 := run_frombits
  go_enter Try.func72, Try.ntmps72
  go_wp2
  go_ret
  exact ⟨rfl, rfl⟩
theorem c0 : ((ofK 0 : Nat) : Int) = 9223372036854775808 := by decide +kernel
theorem e0 : ofE 0 = 0 := by decide +kernel
theorem c1 : ((ofK 9223372036854775808 : Nat) : Int) = 9223372036854775808 := by decide +kernel
theorem e1 : ofE 9223372036854775808 = 0 := by decide +kernel
theorem c2 : ((ofK 13826050856027422720 : Nat) : Int) = 4620693217682128895 := by decide +kernel
theorem e2 : ofE 13826050856027422720 = 0 := by decide +kernel
theorem c3 : ((ofK 9221120237041090561 : Nat) : Int) = 0 := by decide +kernel
theorem e3 : ofE 9221120237041090561 = 202 := by decide +kernel
theorem c4 : ((ofK 1 : Nat) : Int) = 9223372036854775809 := by decide +kernel
theorem e4 : ofE 1 = 0 := by decide +kernel
theorem g5 : good 4620693217682128895 := by decide +kernel
theorem f5 : ¬ tooFar (toF 4620693217682128895) := by decide +kernel
theorem n5 : wh (toF 4620693217682128895) = some (-1) := by decide +kernel
theorem k6 : ((nextK 9223372036854775808 : Nat) : Int) = 9223372036854775809 := by decide +kernel
theorem e6 : nextE 9223372036854775808 = 0 := by decide +kernel
theorem e7 : toE 0 = 202 := by decide +kernel
theorem next_at (w : World) :
    Calls Try.prog 71 #[.int .u64 9223372036854775808] w fun e w' => e = .returned (.tuple #[.int .u64 9223372036854775809, .int .i64 0]) ∧ w = w' := by
  have h := next_any 9223372036854775808 (by decide) w
  rw [k6, e6] at h
  exact h
theorem whole_at (w : World) :
    Calls Try.prog 70 #[.int .u64 4620693217682128895] w fun e w' => e = .returned (.tuple #[.int .i64 (-1), .int .i64 0]) ∧ w = w' :=
  whole_near 4620693217682128895 (-1) (by decide) g5 f5 n5 w
theorem to_at (w : World) :
    Calls Try.prog 42 #[.int .u64 0] w fun e w' => e = .returned (.tuple #[.float .f64 (toF 0), .int .i64 202]) ∧ w = w' := by
  have h := to_any 0 (by decide) w
  rw [e7] at h
  exact h

set_option maxRecDepth 100000 in
theorem awake_any (w : World) : Calls Try.prog 40 #[] w fun e w' => e = .returned (.bool true) ∧ w = w' := by
  go_enter Try.func40, Try.ntmps40
  go_wp2_with fail
  refine (of_at 0 (by decide) _ _ c0 e0 _).mono ?_
  rintro e w' ⟨rfl, rfl⟩
  go_wp2_with fail
  refine (copy_neg _).mono ?_
  rintro e w' ⟨rfl, rfl⟩
  go_wp2_with fail
  refine (of_at 9223372036854775808 (by decide) _ _ c1 e1 _).mono ?_
  rintro e w' ⟨rfl, rfl⟩
  go_wp2_with fail
  refine (of_at 13826050856027422720 (by decide) _ _ c2 e2 _).mono ?_
  rintro e w' ⟨rfl, rfl⟩
  go_wp2_with fail
  refine (whole_at _).mono ?_
  rintro e w' ⟨rfl, rfl⟩
  go_wp2_with fail
  refine (next_at _).mono ?_
  rintro e w' ⟨rfl, rfl⟩
  go_wp2_with fail
  refine (to_at _).mono ?_
  rintro e w' ⟨rfl, rfl⟩
  go_wp2_with fail
  refine (nan_any _).mono ?_
  rintro e w' ⟨rfl, rfl⟩
  go_wp2_with fail
  refine (of_at 9221120237041090561 (by decide) _ _ c3 e3 _).mono ?_
  rintro e w' ⟨rfl, rfl⟩
  go_wp2_with fail
  refine (of_at 1 (by decide) _ _ c4 e4 _).mono ?_
  rintro e w' ⟨rfl, rfl⟩
  go_wp2
  go_ret
  exact ⟨rfl, rfl⟩
end Go.Proofs.Ytdedbbbgpjhjhaa.Inst
