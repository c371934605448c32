/- The walk of the law InstantSums. -/
import Derived.Test.YtdedbbbgpjhjhaaInstMid
namespace Go.Proofs.Ytdedbbbgpjhjhaa.Inst
open Go.RowKit
open Go.Proofs.Ytdedbbbgpjhjhaa.Flt
open Ieee

theorem sums_any (a b : Nat) (ha : a < 18446744073709551616) (hb : b < 18446744073709551616) (w : World) :
    Calls Try.prog 7 #[.int .u64 a, .int .u64 b] w fun e w' => e = .returned (.bool true) ∧ Below w.heap.size w w' := by
  have t1 : (((addK a b : Nat) : Int) == ((addK a b : Nat) : Int)) = true := by simp
  have t2 : (addE a b == addE a b) = true := by simp
  have t3 : (((midK a b : Nat) : Int) == ((midK a b : Nat) : Int)) = true := by simp
  have t4 : (midE a b == midE a b) = true := by simp
  have t5 : (((sinK a b : Nat) : Int) == ((sinK a b : Nat) : Int)) = true := by simp
  have t6 : (sinE a b == sinE a b) = true := by simp
  go_enter Try.func7, Try.ntmps7
  go_wp2_with fail
  refine (add_any a b ha hb _).mono ?_
  rintro e w1 ⟨rfl, b1⟩
  go_wp2_with fail
  refine (radd_any a b ha hb _).mono ?_
  rintro e w2 ⟨rfl, b2⟩
  have c2 := b1.trans (b2.mono b1.size)
  clear b1 b2
  go_wp2_with fail
  refine (mid_any a b ha hb _).mono ?_
  rintro e w3 ⟨rfl, b3⟩
  have c3 := c2.trans (b3.mono c2.size)
  clear c2 b3
  go_wp2_with fail
  refine (rmid_any a b ha hb _).mono ?_
  rintro e w4 ⟨rfl, b4⟩
  have c4 := c3.trans (b4.mono c3.size)
  clear c3 b4
  go_wp2_with fail
  refine (since_any a b ha hb _).mono ?_
  rintro e w5 ⟨rfl, b5⟩
  have c5 := c4.trans (b5.mono c4.size)
  clear c4 b5
  go_wp2_with fail
  refine (rsince_any a b ha hb _).mono ?_
  rintro e w6 ⟨rfl, b6⟩
  have c6 := c5.trans (b6.mono c5.size)
  clear c5 b6
  go_wp2_with fail
  refine (awake_any _).mono ?_
  rintro e w' ⟨rfl, rfl⟩
  go_wp2
  go_ret
  exact ⟨rfl, c6⟩
theorem u64_nat2 (n : Int) (h : (Lit.int .u64 n).wf = true) : ∃ k : Nat, n = k ∧ k < 18446744073709551616 := by
  have hx : 0 ≤ n ∧ n ≤ 18446744073709551615 := by simpa [Lit.wf, IntKind.min, IntKind.max, IntKind.signed, IntKind.bits] using h
  exact ⟨n.toNat, by omega, by omega⟩
theorem sums_walk (a0 a1 : Int) (w0 : (Lit.int .u64 a0).wf = true) (w1 : (Lit.int .u64 a1).wf = true) (w : World) :
    Calls Try.prog 7 #[.int .u64 a0, .int .u64 a1] w fun e w' => e = .returned (.bool true) ∧ Below w.heap.size w w' := by
  obtain ⟨a, rfl, ha⟩ := u64_nat2 a0 w0
  obtain ⟨b, rfl, hb⟩ := u64_nat2 a1 w1
  exact sums_any a b ha hb w
end Go.Proofs.Ytdedbbbgpjhjhaa.Inst
