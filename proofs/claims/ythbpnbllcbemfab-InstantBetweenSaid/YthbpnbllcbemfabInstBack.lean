/- The walk of the law InstantBack. -/
import Derived.Test.YthbpnbllcbemfabInstEnds
namespace Go.Proofs.Ythbpnbllcbemfab.Inst
open Go.RowKit
open Go.Proofs.Ythbpnbllcbemfab.Flt
open Ieee

/-- A word whose zero has no sign. -/
def canon (x : Nat) : Nat := if low x = 0 then 0 else x
theorem canon_lt (x : Nat) (h : x < 18446744073709551616) : canon x < 18446744073709551616 := by unfold canon; split <;> omega
theorem canon_nan (x : Nat) (h : ¬ nan x) : ¬ nan (canon x) := by
  unfold canon
  split
  · exact nan_zero
  · exact h
theorem canon_sval (x : Nat) : sval (canon x) = sval x := by
  unfold canon
  split
  · next h => rw [sval_zero, sval_low.2 h]
  · rfl
theorem toB_ofK (x : Nat) (hx : x < 18446744073709551616) (h : ¬ nan x) : toB (ofK x) = canon x := by
  unfold ofK canon
  rw [if_neg h]
  by_cases hz : low x = 0
  · rw [if_pos hz, if_pos hz]
    rfl
  · rw [if_neg hz, if_neg hz]
    by_cases h1 : x < 9223372036854775808
    · rw [if_pos h1, toB_high (by omega)]
      omega
    · rw [if_neg h1, toB_low (by omega)]
      omega
theorem ofK_canon (x : Nat) (h : ¬ nan x) : ofK (canon x) = ofK x := by
  unfold canon
  split
  · next hz =>
    have e : ofK x = 9223372036854775808 := by unfold ofK; rw [if_neg h, if_pos hz]
    rw [e]
    decide
  · rfl
theorem good_ofK (x : Nat) (hx : x < 18446744073709551616) (h : ¬ nan x) : good (ofK x) := by
  unfold good
  rw [toB_ofK x hx h]
  exact ⟨if_neg (canon_nan x h), ofK_canon x h⟩
theorem toF_ofK (x : Nat) (hx : x < 18446744073709551616) (h : ¬ nan x) : toF (ofK x) = canon x := by
  rw [toF_good (good_ofK x hx h), toB_ofK x hx h]
theorem neg_zero : neg 0 = false := by decide +kernel

/-- What the second half of the law's walk wants to know of k. -/
theorem u64_nat' (n : Int) (h : (Lit.int .u64 n).wf = true) : ∃ k : Nat, n = k ∧ k < 18446744073709551616 := by
  have hx : 0 ≤ n ∧ n ≤ 18446744073709551615 := by simpa [Lit.wf, IntKind.min, IntKind.max, IntKind.signed, IntKind.bits] using h
  exact ⟨n.toNat, by omega, by omega⟩
theorem f64_lt' (b : Nat) (h : (Lit.float .f64 b).wf = true) : b < 18446744073709551616 := by
  simpa [Lit.wf] using h
/-- Of any bits: the time, and the bits of that. -/
structure Turn (k z : Nat) (g : Int) (b : Nat) (h : Int) : Prop where
  lt : z < 18446744073709551616
  bits : ofK z = b
  err : ofE z = h
theorem turn_of (k : Nat) (hk : k < 18446744073709551616) : Turn k (toF k) (toE k) (ofK (toF k)) (ofE (toF k)) := ⟨toF_lt k hk, rfl, rfl⟩
set_option maxRecDepth 100000 in
set_option maxHeartbeats 400000 in
theorem back_nan_good (x k : Nat) (hx : x < 18446744073709551616) (hk : k < 18446744073709551616) (h : nan x) (hg : good k) (w : World) :
    Calls Try.prog 3 #[.float .f64 x, .int .u64 k] w fun e w' => e = .returned (.bool true) ∧ Below w.heap.size w w' := by
  have he := Lib.hid (show ofE x = 202 from if_pos h)
  have t1 : (FloatKind.f64.format.order x x == some Ordering.eq) = false := by rw [nan_left x x h]; rfl
  have hg1 := Lib.hid (toE_good hg)
  have hb := Lib.hid (show ofK (toF k) = k from by rw [toF_good hg]; exact hg.2)
  have hb2 := Lib.hid (show ofE (toF k) = 0 from by rw [toF_good hg]; exact hg.1)
  have hz' := toF_lt k hk
  have t5 : ((k : Int) == (k : Int)) = true := by simp
  clear h hg
  go_enter Try.func3, Try.ntmps3
  go_wp2_with fail
  refine (of_any x hx _).mono ?_
  rintro e w' ⟨rfl, rfl⟩
  rw [he.out]
  go_wp2_with fail
  refine (to_any k hk _).mono ?_
  rintro e w' ⟨rfl, rfl⟩
  rw [hg1.out]
  go_wp2_with fail
  refine (of_any (toF k) (by assumption) _).mono ?_
  rintro e w' ⟨rfl, rfl⟩
  rw [hb.out, hb2.out]
  go_wp2_with fail
  refine (awake_any _).mono ?_
  rintro e w' ⟨rfl, rfl⟩
  go_wp2
  go_ret
  exact ⟨rfl, Below.refl _ _⟩
set_option maxRecDepth 100000 in
set_option maxHeartbeats 400000 in
theorem back_nan_bad (x k : Nat) (hx : x < 18446744073709551616) (hk : k < 18446744073709551616) (h : nan x) (hg : ¬ good k) (w : World) :
    Calls Try.prog 3 #[.float .f64 x, .int .u64 k] w fun e w' => e = .returned (.bool true) ∧ Below w.heap.size w w' := by
  have he := Lib.hid (show ofE x = 202 from if_pos h)
  have t1 : (FloatKind.f64.format.order x x == some Ordering.eq) = false := by rw [nan_left x x h]; rfl
  have hg1 := Lib.hid (toE_bad hg)
  have hz0 := Lib.hid (toF_bad hg)
  have t5 : (FloatKind.f64.format.order 0 0 == some Ordering.eq) = true := eq_true (by decide) (by decide) nan_zero nan_zero rfl
  clear h hg
  go_enter Try.func3, Try.ntmps3
  go_wp2_with fail
  refine (of_any x hx _).mono ?_
  rintro e w' ⟨rfl, rfl⟩
  rw [he.out]
  go_wp2_with fail
  refine (to_any k hk _).mono ?_
  rintro e w' ⟨rfl, rfl⟩
  rw [hg1.out, hz0.out]
  go_wp2_with fail
  refine (of_any 0 (by decide) _).mono ?_
  rintro e w' ⟨rfl, rfl⟩
  go_wp2_with fail
  refine (awake_any _).mono ?_
  rintro e w' ⟨rfl, rfl⟩
  go_wp2
  go_ret
  exact ⟨rfl, Below.refl _ _⟩
set_option maxRecDepth 100000 in
set_option maxHeartbeats 400000 in
theorem back_zero_good (x k : Nat) (hx : x < 18446744073709551616) (hk : k < 18446744073709551616) (h : ¬ nan x) (hz : low x = 0) (hg : good k) (w : World) :
    Calls Try.prog 3 #[.float .f64 x, .int .u64 k] w fun e w' => e = .returned (.bool true) ∧ Below w.heap.size w w' := by
  have he := Lib.hid (show ofE x = 0 from if_neg h)
  have t1 := eq_true hx hx h h rfl
  have hy := Lib.hid (toF_ofK x hx h)
  have hf := Lib.hid (toE_good (good_ofK x hx h))
  have hkl := ofK_lt x hx
  have hc := Lib.hid (show canon x = 0 from if_pos hz)
  have hs := Lib.hid neg_zero
  have t2 : (FloatKind.f64.format.order 0 x != some Ordering.eq) = false := ne_false (by decide) hx nan_zero h (by rw [sval_zero, sval_low.2 hz])
  have t3 : (FloatKind.f64.format.order x 0 == some Ordering.eq) = true := eq_true hx (by decide) h nan_zero (by rw [sval_zero, sval_low.2 hz])
  have hg1 := Lib.hid (toE_good hg)
  have hb := Lib.hid (show ofK (toF k) = k from by rw [toF_good hg]; exact hg.2)
  have hb2 := Lib.hid (show ofE (toF k) = 0 from by rw [toF_good hg]; exact hg.1)
  have hz' := toF_lt k hk
  have t5 : ((k : Int) == (k : Int)) = true := by simp
  clear h hg hz
  go_enter Try.func3, Try.ntmps3
  go_wp2_with fail
  refine (of_any x hx _).mono ?_
  rintro e w' ⟨rfl, rfl⟩
  rw [he.out]
  go_wp2_with fail
  refine (to_any (ofK x) hkl _).mono ?_
  rintro e w' ⟨rfl, rfl⟩
  rw [hy.out, hf.out, hc.out]
  go_wp2_with fail
  refine (sign_any 0 _).mono ?_
  rintro e w' ⟨rfl, rfl⟩
  rw [hs.out]
  go_wp2_with fail
  refine (good_any (ofK x) hkl _).mono ?_
  rintro e w' ⟨rfl, rfl⟩
  rw [hf.out]
  go_wp2_with fail
  refine (to_any k hk _).mono ?_
  rintro e w' ⟨rfl, rfl⟩
  rw [hg1.out]
  go_wp2_with fail
  refine (of_any (toF k) (by assumption) _).mono ?_
  rintro e w' ⟨rfl, rfl⟩
  rw [hb.out, hb2.out]
  go_wp2_with fail
  refine (awake_any _).mono ?_
  rintro e w' ⟨rfl, rfl⟩
  go_wp2
  go_ret
  exact ⟨rfl, Below.refl _ _⟩
set_option maxRecDepth 100000 in
set_option maxHeartbeats 400000 in
theorem back_zero_bad (x k : Nat) (hx : x < 18446744073709551616) (hk : k < 18446744073709551616) (h : ¬ nan x) (hz : low x = 0) (hg : ¬ good k) (w : World) :
    Calls Try.prog 3 #[.float .f64 x, .int .u64 k] w fun e w' => e = .returned (.bool true) ∧ Below w.heap.size w w' := by
  have he := Lib.hid (show ofE x = 0 from if_neg h)
  have t1 := eq_true hx hx h h rfl
  have hy := Lib.hid (toF_ofK x hx h)
  have hf := Lib.hid (toE_good (good_ofK x hx h))
  have hkl := ofK_lt x hx
  have hc := Lib.hid (show canon x = 0 from if_pos hz)
  have hs := Lib.hid neg_zero
  have t2 : (FloatKind.f64.format.order 0 x != some Ordering.eq) = false := ne_false (by decide) hx nan_zero h (by rw [sval_zero, sval_low.2 hz])
  have t3 : (FloatKind.f64.format.order x 0 == some Ordering.eq) = true := eq_true hx (by decide) h nan_zero (by rw [sval_zero, sval_low.2 hz])
  have hg1 := Lib.hid (toE_bad hg)
  have hz0 := Lib.hid (toF_bad hg)
  have t5 : (FloatKind.f64.format.order 0 0 == some Ordering.eq) = true := eq_true (by decide) (by decide) nan_zero nan_zero rfl
  clear h hg hz
  go_enter Try.func3, Try.ntmps3
  go_wp2_with fail
  refine (of_any x hx _).mono ?_
  rintro e w' ⟨rfl, rfl⟩
  rw [he.out]
  go_wp2_with fail
  refine (to_any (ofK x) hkl _).mono ?_
  rintro e w' ⟨rfl, rfl⟩
  rw [hy.out, hf.out, hc.out]
  go_wp2_with fail
  refine (sign_any 0 _).mono ?_
  rintro e w' ⟨rfl, rfl⟩
  rw [hs.out]
  go_wp2_with fail
  refine (good_any (ofK x) hkl _).mono ?_
  rintro e w' ⟨rfl, rfl⟩
  rw [hf.out]
  go_wp2_with fail
  refine (to_any k hk _).mono ?_
  rintro e w' ⟨rfl, rfl⟩
  rw [hg1.out, hz0.out]
  go_wp2_with fail
  refine (of_any 0 (by decide) _).mono ?_
  rintro e w' ⟨rfl, rfl⟩
  go_wp2_with fail
  refine (awake_any _).mono ?_
  rintro e w' ⟨rfl, rfl⟩
  go_wp2
  go_ret
  exact ⟨rfl, Below.refl _ _⟩
set_option maxRecDepth 100000 in
set_option maxHeartbeats 400000 in
theorem back_other_good (x k : Nat) (hx : x < 18446744073709551616) (hk : k < 18446744073709551616) (h : ¬ nan x) (hz : low x ≠ 0) (hg : good k) (w : World) :
    Calls Try.prog 3 #[.float .f64 x, .int .u64 k] w fun e w' => e = .returned (.bool true) ∧ Below w.heap.size w w' := by
  have he := Lib.hid (show ofE x = 0 from if_neg h)
  have t1 := eq_true hx hx h h rfl
  have hy := Lib.hid (toF_ofK x hx h)
  have hf := Lib.hid (toE_good (good_ofK x hx h))
  have hkl := ofK_lt x hx
  have hc := Lib.hid (show canon x = x from if_neg hz)
  have t2 : (FloatKind.f64.format.order x x != some Ordering.eq) = false := ne_false hx hx h h rfl
  have t3 : (FloatKind.f64.format.order x 0 == some Ordering.eq) = false := eq_false hx (by decide) h nan_zero (by rw [sval_zero]; exact fun e => hz (sval_low.1 e))
  have hg1 := Lib.hid (toE_good hg)
  have hb := Lib.hid (show ofK (toF k) = k from by rw [toF_good hg]; exact hg.2)
  have hb2 := Lib.hid (show ofE (toF k) = 0 from by rw [toF_good hg]; exact hg.1)
  have hz' := toF_lt k hk
  have t5 : ((k : Int) == (k : Int)) = true := by simp
  clear h hg hz
  go_enter Try.func3, Try.ntmps3
  go_wp2_with fail
  refine (of_any x hx _).mono ?_
  rintro e w' ⟨rfl, rfl⟩
  rw [he.out]
  go_wp2_with fail
  refine (to_any (ofK x) hkl _).mono ?_
  rintro e w' ⟨rfl, rfl⟩
  rw [hy.out, hf.out, hc.out]
  go_wp2_with fail
  refine (good_any (ofK x) hkl _).mono ?_
  rintro e w' ⟨rfl, rfl⟩
  rw [hf.out]
  go_wp2_with fail
  refine (to_any k hk _).mono ?_
  rintro e w' ⟨rfl, rfl⟩
  rw [hg1.out]
  go_wp2_with fail
  refine (of_any (toF k) (by assumption) _).mono ?_
  rintro e w' ⟨rfl, rfl⟩
  rw [hb.out, hb2.out]
  go_wp2_with fail
  refine (awake_any _).mono ?_
  rintro e w' ⟨rfl, rfl⟩
  go_wp2
  go_ret
  exact ⟨rfl, Below.refl _ _⟩
set_option maxRecDepth 100000 in
set_option maxHeartbeats 400000 in
theorem back_other_bad (x k : Nat) (hx : x < 18446744073709551616) (hk : k < 18446744073709551616) (h : ¬ nan x) (hz : low x ≠ 0) (hg : ¬ good k) (w : World) :
    Calls Try.prog 3 #[.float .f64 x, .int .u64 k] w fun e w' => e = .returned (.bool true) ∧ Below w.heap.size w w' := by
  have he := Lib.hid (show ofE x = 0 from if_neg h)
  have t1 := eq_true hx hx h h rfl
  have hy := Lib.hid (toF_ofK x hx h)
  have hf := Lib.hid (toE_good (good_ofK x hx h))
  have hkl := ofK_lt x hx
  have hc := Lib.hid (show canon x = x from if_neg hz)
  have t2 : (FloatKind.f64.format.order x x != some Ordering.eq) = false := ne_false hx hx h h rfl
  have t3 : (FloatKind.f64.format.order x 0 == some Ordering.eq) = false := eq_false hx (by decide) h nan_zero (by rw [sval_zero]; exact fun e => hz (sval_low.1 e))
  have hg1 := Lib.hid (toE_bad hg)
  have hz0 := Lib.hid (toF_bad hg)
  have t5 : (FloatKind.f64.format.order 0 0 == some Ordering.eq) = true := eq_true (by decide) (by decide) nan_zero nan_zero rfl
  clear h hg hz
  go_enter Try.func3, Try.ntmps3
  go_wp2_with fail
  refine (of_any x hx _).mono ?_
  rintro e w' ⟨rfl, rfl⟩
  rw [he.out]
  go_wp2_with fail
  refine (to_any (ofK x) hkl _).mono ?_
  rintro e w' ⟨rfl, rfl⟩
  rw [hy.out, hf.out, hc.out]
  go_wp2_with fail
  refine (good_any (ofK x) hkl _).mono ?_
  rintro e w' ⟨rfl, rfl⟩
  rw [hf.out]
  go_wp2_with fail
  refine (to_any k hk _).mono ?_
  rintro e w' ⟨rfl, rfl⟩
  rw [hg1.out, hz0.out]
  go_wp2_with fail
  refine (of_any 0 (by decide) _).mono ?_
  rintro e w' ⟨rfl, rfl⟩
  go_wp2_with fail
  refine (awake_any _).mono ?_
  rintro e w' ⟨rfl, rfl⟩
  go_wp2
  go_ret
  exact ⟨rfl, Below.refl _ _⟩
theorem back_walk (x : Nat) (a1 : Int) (w0 : (Lit.float .f64 x).wf = true) (w1 : (Lit.int .u64 a1).wf = true) (w : World) :
    Calls Try.prog 3 #[.float .f64 x, .int .u64 a1] w fun e w' => e = .returned (.bool true) ∧ Below w.heap.size w w' := by
  obtain ⟨k, rfl, hk⟩ := u64_nat' a1 w1
  have hx := f64_lt' x w0
  by_cases h : nan x
  · by_cases hg : good k
    · exact back_nan_good x k hx hk h hg w
    · exact back_nan_bad x k hx hk h hg w
  · by_cases hz : low x = 0
    · by_cases hg : good k
      · exact back_zero_good x k hx hk h hz hg w
      · exact back_zero_bad x k hx hk h hz hg w
    · by_cases hg : good k
      · exact back_other_good x k hx hk h hz hg w
      · exact back_other_bad x k hx hk h hz hg w
end Go.Proofs.Ythbpnbllcbemfab.Inst
