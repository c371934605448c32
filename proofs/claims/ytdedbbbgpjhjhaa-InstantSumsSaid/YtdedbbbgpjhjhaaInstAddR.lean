/- The document's Two and Add: contracts. -/
import Derived.Test.YtdedbbbgpjhjhaaInstAdd
namespace Go.Proofs.Ytdedbbbgpjhjhaa.Inst
open Go.RowKit
open Go.Proofs.Ytdedbbbgpjhjhaa.Flt
open Ieee

theorem good_test (k : Nat) (h : good k) : (toE k == 0) = true := by rw [toE_good h]; rfl
theorem bad_test (k : Nat) (h : ¬ good k) : (toE k == 0) = false := by rw [toE_bad h]; rfl
theorem two_good (a b : Nat) (ha : a < 18446744073709551616) (hb : b < 18446744073709551616) (ga : good a) (gb : good b) (w : World) :
    Calls Try.prog 62 #[.int .u64 a, .int .u64 b] w fun e w' => e = .returned (.tuple #[.float .f64 (toF a), .float .f64 (toF b), .int .i64 0]) ∧ w = w' := by
  have h1 := Lib.hid (good_test a ga)
  have h2 := Lib.hid (good_test b gb)
  go_enter Try.func62, Try.ntmps62
  go_wp2_with fail
  refine (rgood_any a ha _).mono ?_
  rintro e w' ⟨rfl, rfl⟩
  rw [h1.out]
  go_wp2_with fail
  refine (rgood_any b hb _).mono ?_
  rintro e w' ⟨rfl, rfl⟩
  rw [h2.out]
  go_wp2_with fail
  refine (rto_any a ha _).mono ?_
  rintro e w' ⟨rfl, rfl⟩
  go_wp2_with fail
  refine (rto_any b hb _).mono ?_
  rintro e w' ⟨rfl, rfl⟩
  go_wp2
  go_ret3
  exact ⟨rfl, rfl⟩
theorem two_bad (a b : Nat) (ha : a < 18446744073709551616) (hb : b < 18446744073709551616) (g : ¬ (good a ∧ good b)) (w : World) :
    Calls Try.prog 62 #[.int .u64 a, .int .u64 b] w fun e w' => e = .returned (.tuple #[.float .f64 0, .float .f64 0, .int .i64 202]) ∧ w = w' := by
  by_cases ga : good a
  · have h1 := Lib.hid (good_test a ga)
    have h2 := Lib.hid (bad_test b (fun h => g ⟨ga, h⟩))
    clear g ga
    go_enter Try.func62, Try.ntmps62
    go_wp2_with fail
    refine (rgood_any a ha _).mono ?_
    rintro e w' ⟨rfl, rfl⟩
    rw [h1.out]
    go_wp2_with fail
    refine (rgood_any b hb _).mono ?_
    rintro e w' ⟨rfl, rfl⟩
    rw [h2.out]
    go_wp2
    go_ret3
    exact ⟨rfl, rfl⟩
  · have h1 := Lib.hid (bad_test a ga)
    clear g ga
    go_enter Try.func62, Try.ntmps62
    go_wp2_with fail
    refine (rgood_any a ha _).mono ?_
    rintro e w' ⟨rfl, rfl⟩
    rw [h1.out]
    go_wp2
    go_ret3
    exact ⟨rfl, rfl⟩
theorem radd_any (a b : Nat) (ha : a < 18446744073709551616) (hb : b < 18446744073709551616) (w : World) :
    Calls Try.prog 35 #[.int .u64 a, .int .u64 b] w fun e w' => e = .returned (.tuple #[.int .u64 (addK a b : Nat), .int .i64 (addE a b)]) ∧ Below w.heap.size w w' := by
  by_cases g : good a ∧ good b
  · have e1 : addK a b = opK .add (toF a) (toF b) := if_pos g
    have e2 : addE a b = opE .add (toF a) (toF b) := if_pos g
    rw [e1, e2]
    obtain ⟨r, w1, hr, hg, hb1⟩ := run_op .add (.inl rfl) 67 (toF a) (toF b) w
    have HG := Lib.hid hg
    clear hg e1 e2
    go_enter Try.func35, Try.ntmps35
    go_wp2_with fail
    refine (two_good a b ha hb g.1 g.2 _).mono ?_
    rintro e w' ⟨rfl, rfl⟩
    go_wp2_with fail
    refine (rof_any r HG.out.1 _).mono ?_
    rintro e w' ⟨rfl, rfl⟩
    rw [HG.out.key, HG.out.err]
    go_wp2
    go_ret2
    exact ⟨rfl, hb1⟩
  · have e1 : addK a b = 0 := if_neg g
    have e2 : addE a b = 202 := if_neg g
    rw [e1, e2]
    clear e1 e2
    go_enter Try.func35, Try.ntmps35
    go_wp2_with fail
    refine (two_bad a b ha hb g _).mono ?_
    rintro e w' ⟨rfl, rfl⟩
    go_wp2
    go_ret2
    exact ⟨rfl, Below.refl _ _⟩
end Go.Proofs.Ytdedbbbgpjhjhaa.Inst
