/- The walk of the law InstantTo. -/
import Derived.Test.YthbpnbllcbemfaaInstEnds
import Derived.Test.YthbpnbllcbemfaaInstRef
namespace Go.Proofs.Ythbpnbllcbemfaa.Inst
open Go.RowKit
open Go.Proofs.Ythbpnbllcbemfaa.Flt
open Ieee

theorem run_neg_inf (w : World) : Sem.run Try.prog (Op.unary UnOp.neg (.float .f64 18442240474082181120)) w = .ok (.float .f64 9218868437227405312) w := by kernel_rfl
theorem isinf_down (w : World) : Calls Try.prog 59 #[.float .f64 18442240474082181120, .int .i64 (-1)] w fun e w' => e = .returned (.bool true) ∧ w = w' := by
  have t := gt_true (a := 9218868437227405312) (b := 9218868437227405311) (by decide) (by decide) (by decide) (by decide) (by decide)
  have k := run_neg_inf
  go_enter Try.func59, Try.ntmps59
  go_wp2
  go_ret
  exact ⟨rfl, rfl⟩
theorem isinf_up (w : World) : Calls Try.prog 59 #[.float .f64 9218868437227405312, .int .i64 1] w fun e w' => e = .returned (.bool true) ∧ w = w' := by
  have t := gt_true (a := 9218868437227405312) (b := 9218868437227405311) (by decide) (by decide) (by decide) (by decide) (by decide)
  go_enter Try.func59, Try.ntmps59
  go_wp2
  go_ret
  exact ⟨rfl, rfl⟩
theorem tF : toF 4503599627370495 = 18442240474082181120 := by decide +kernel
theorem tFe : toE 4503599627370495 = 0 := by decide +kernel
theorem tL : toF 18442240474082181120 = 9218868437227405312 := by decide +kernel
theorem tLe : toE 18442240474082181120 = 0 := by decide +kernel
theorem rto_first (w : World) : Calls Try.prog 53 #[.int .u64 4503599627370495] w fun e w' => e = .returned (.tuple #[.float .f64 18442240474082181120, .int .i64 0]) ∧ w = w' := by
  have h := rto_any 4503599627370495 (by decide) w
  rw [tF, tFe] at h
  exact h
theorem rto_last (w : World) : Calls Try.prog 53 #[.int .u64 18442240474082181120] w fun e w' => e = .returned (.tuple #[.float .f64 9218868437227405312, .int .i64 0]) ∧ w = w' := by
  have h := rto_any 18442240474082181120 (by decide) w
  rw [tL, tLe] at h
  exact h
theorem u64_nat (n : Int) (h : (Lit.int .u64 n).wf = true) : ∃ k : Nat, n = k ∧ k < 18446744073709551616 := by
  have hx : 0 ≤ n ∧ n ≤ 18446744073709551615 := by simpa [Lit.wf, IntKind.min, IntKind.max, IntKind.signed, IntKind.bits] using h
  exact ⟨n.toNat, by omega, by omega⟩
set_option maxRecDepth 100000 in
theorem to_walk (a0 : Int) (w0 : (Lit.int .u64 a0).wf = true) (w : World) :
    Calls Try.prog 11 #[.int .u64 a0] w fun e w' => e = .returned (.bool true) ∧ Below w.heap.size w w' := by
  obtain ⟨k, rfl, hk⟩ := u64_nat a0 w0
  have hx := toF_lt k hk
  have hn := toF_nan k
  have t1 := eq_true hx hx hn hn rfl
  have t2 : (toE k == toE k) = true := by simp
  have t3 : ((toE k == 0) == (toE k == 0)) = true := by simp
  have t4 : (neg (toF k) == neg (toF k)) = true := by simp
  clear w0 hx hn
  go_enter Try.func11, Try.ntmps11
  go_wp2_with fail
  refine (to_any k hk _).mono ?_
  rintro e w' ⟨rfl, rfl⟩
  go_wp2_with fail
  refine (rto_any k (by assumption) _).mono ?_
  rintro e w' ⟨rfl, rfl⟩
  go_wp2_with fail
  refine (first_any _).mono ?_
  rintro e w' ⟨rfl, rfl⟩
  go_wp2_with fail
  refine (rto_first _).mono ?_
  rintro e w' ⟨rfl, rfl⟩
  go_wp2_with fail
  refine (last_any _).mono ?_
  rintro e w' ⟨rfl, rfl⟩
  go_wp2_with fail
  refine (rto_last _).mono ?_
  rintro e w' ⟨rfl, rfl⟩
  go_wp2_with fail
  refine (sign_any _ _).mono ?_
  rintro e w' ⟨rfl, rfl⟩
  go_wp2_with fail
  refine (sign_any _ _).mono ?_
  rintro e w' ⟨rfl, rfl⟩
  go_wp2_with fail
  refine (good_any k (by assumption) _).mono ?_
  rintro e w' ⟨rfl, rfl⟩
  go_wp2_with fail
  refine (rgood_any k (by assumption) _).mono ?_
  rintro e w' ⟨rfl, rfl⟩
  go_wp2_with fail
  refine (isinf_down _).mono ?_
  rintro e w' ⟨rfl, rfl⟩
  go_wp2_with fail
  refine (isinf_up _).mono ?_
  rintro e w' ⟨rfl, rfl⟩
  go_wp2_with fail
  refine (awake_any _).mono ?_
  rintro e w' ⟨rfl, rfl⟩
  go_wp2
  go_ret
  exact ⟨rfl, Below.refl _ _⟩
end Go.Proofs.Ythbpnbllcbemfaa.Inst
