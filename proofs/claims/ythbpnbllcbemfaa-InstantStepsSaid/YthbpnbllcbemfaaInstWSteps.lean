/- The walk of the law InstantSteps. -/
import Derived.Test.YthbpnbllcbemfaaInstNextM
import Derived.Test.YthbpnbllcbemfaaInstRef
namespace Go.Proofs.Ythbpnbllcbemfaa.Inst
open Go.RowKit
open Go.Proofs.Ythbpnbllcbemfaa.Flt
open Ieee

theorem rwhole_bad (k : Nat) (hk : k < 18446744073709551616) (h : ¬ good k) (w : World) :
    Calls Try.prog 69 #[.int .u64 k] w fun e w' => e = .returned (.tuple #[.int .i64 0, .int .i64 202]) ∧ w = w' := by
  have he := Lib.hid (toE_bad h)
  go_enter Try.func69, Try.ntmps69
  go_wp2_with fail
  refine (rto_any k hk _).mono ?_
  rintro e w' ⟨rfl, rfl⟩
  rw [he.out]
  go_wp2
  go_ret2
  exact ⟨rfl, rfl⟩
theorem rwhole_far (k : Nat) (hk : k < 18446744073709551616) (h : good k) (hf : tooFar (toF k)) (w : World) :
    Calls Try.prog 69 #[.int .u64 k] w fun e w' => e = .returned (.tuple #[.int .i64 0, .int .i64 75]) ∧ w = w' := by
  have he := Lib.hid (toE_good h)
  have hlt := toF_lt k hk
  have hn := toF_nan k
  by_cases h1 : sval 4845873199050653696 < sval (toF k)
  · have t1 := gt_true hlt (by decide) hn (by decide : ¬ nan 4845873199050653696) h1
    clear h1 hlt
    go_enter Try.func69, Try.ntmps69
    go_wp2_with fail
    refine (rto_any k hk _).mono ?_
    rintro e w' ⟨rfl, rfl⟩
    rw [he.out]
    go_wp2
    go_ret2
    exact ⟨rfl, rfl⟩
  · have h2 : sval (toF k) < sval 14069245235905429504 := by
      rcases hf with h3 | h3
      · exact h3
      · exact absurd h3 h1
    have t1 := gt_false hlt (by decide) hn (by decide : ¬ nan 4845873199050653696) (by omega)
    have t2 := lt_true hlt (by decide) hn (by decide : ¬ nan 14069245235905429504) h2
    clear h1 h2 hlt
    go_enter Try.func69, Try.ntmps69
    go_wp2_with fail
    refine (rto_any k hk _).mono ?_
    rintro e w' ⟨rfl, rfl⟩
    rw [he.out]
    go_wp2
    go_ret2
    exact ⟨rfl, rfl⟩
theorem rwhole_near (k : Nat) (n : Int) (hk : k < 18446744073709551616) (h : good k) (hf : ¬ tooFar (toF k)) (hw : wh (toF k) = some n) (w : World) :
    Calls Try.prog 69 #[.int .u64 k] w fun e w' => e = .returned (.tuple #[.int .i64 n, .int .i64 0]) ∧ w = w' := by
  have he := Lib.hid (toE_good h)
  have hlt := toF_lt k hk
  have hn := toF_nan k
  unfold tooFar at hf
  have t1 := lt_false hlt (by decide) hn (by decide : ¬ nan 14069245235905429504) (by omega)
  have t2 := gt_false hlt (by decide) hn (by decide : ¬ nan 4845873199050653696) (by omega)
  have kf := run_floor (toF k) hlt hn
  have kc := fun W : World => run_convert_float_int (P := Try.prog) W 69 3 .f64 .i64 (fl (toF k)) n (by kernel_rfl) Try.underlying3 hw
  clear hf hlt
  go_enter Try.func69, Try.ntmps69
  go_wp2_with fail
  refine (rto_any k hk _).mono ?_
  rintro e w' ⟨rfl, rfl⟩
  rw [he.out]
  go_wp2
  go_ret2
  exact ⟨rfl, rfl⟩
theorem near_wh (k : Nat) (h : ¬ tooFar (toF k)) : ∃ n, wh (toF k) = some n := by
  apply wh_near
  have hd : sval 14069245235905429504 = -4845873199050653696 := by decide
  have hu : sval 4845873199050653696 = 4845873199050653696 := by decide
  unfold tooFar at h
  rw [hd, hu] at h
  generalize toF k = x at *
  unfold sval low at h
  split at h <;> omega
/-- Whole answers as the document's does. -/
theorem whole_both (k : Nat) (hk : k < 18446744073709551616) : ∃ n y : Int, (∀ w, Calls Try.prog 68 #[.int .u64 k] w fun e w' => e = .returned (.tuple #[.int .i64 n, .int .i64 y]) ∧ w = w') ∧
    (∀ w, Calls Try.prog 69 #[.int .u64 k] w fun e w' => e = .returned (.tuple #[.int .i64 n, .int .i64 y]) ∧ w = w') := by
  by_cases hg : good k
  · by_cases hf : tooFar (toF k)
    · exact ⟨0, 75, whole_far k hk hg hf, rwhole_far k hk hg hf⟩
    · obtain ⟨n, hn⟩ := near_wh k hf
      exact ⟨n, 0, whole_near k n hk hg hf hn, rwhole_near k n hk hg hf hn⟩
  · exact ⟨0, 202, whole_bad k hk hg, rwhole_bad k hk hg⟩

theorem rgood_one (k : Nat) (hk : k + 1 < 18446744073709551616) (w : World) :
    Calls Try.prog 58 #[.int .u64 ((k : Int) + 1)] w fun e w' => e = .returned (.bool (toE (k + 1) == 0)) ∧ w = w' := by
  have e : (k : Int) + 1 = ((k + 1 : Nat) : Int) := by omega
  rw [e]
  exact rgood_any (k + 1) hk w
theorem good_top (k : Nat) (hk : k < 18446744073709551616) (hg : good k) (h : sval (toF k) < 9218868437227405312) : k + 2 < 18446744073709551616 := by
  rw [good_toF k hg] at h
  unfold sval low toB at h
  split at h <;> split at h <;> omega
set_option maxRecDepth 100000 in
theorem rnext_any (k : Nat) (hk : k < 18446744073709551616) (w : World) :
    Calls Try.prog 67 #[.int .u64 k] w fun e w' => e = .returned (.tuple #[.int .u64 (nextK k : Nat), .int .i64 (nextE k)]) ∧ w = w' := by
  by_cases hg : good k
  · rw [nextE_good k hk hg]
    have he := Lib.hid (toE_good hg)
    have hlt := toF_lt k hk
    have hn := toF_nan k
    have hm : sval 9218868437227405311 = 9218868437227405311 := by decide
    rcases step_of k hk hg with ⟨h, e⟩ | ⟨h, g1, e⟩ | ⟨h, g1, e⟩
    · rw [e]
      have t1 := gt_true hlt (by decide) hn (by decide : ¬ nan 9218868437227405311) (by omega)
      clear h e hm hlt hn hg
      go_enter Try.func67, Try.ntmps67
      go_wp2_with fail
      refine (rto_any k hk _).mono ?_
      rintro e w' ⟨rfl, rfl⟩
      rw [he.out]
      go_wp2
      go_ret2
      exact ⟨rfl, rfl⟩
    · rw [e]
      have hk2 := good_top k hk hg h
      have t1 := gt_false hlt (by decide) hn (by decide : ¬ nan 9218868437227405311) (by omega)
      have HG := Lib.hid (fun W => rgood_one k (by omega) W)
      have hy := Lib.hid (toE_good g1)
      clear h e hm hlt hn hg g1
      go_enter Try.func67, Try.ntmps67
      go_wp2_with fail
      refine (rto_any k hk _).mono ?_
      rintro e w' ⟨rfl, rfl⟩
      rw [he.out]
      go_wp2_with fail
      refine (HG.out _).mono ?_
      rintro e w' ⟨rfl, rfl⟩
      rw [hy.out]
      go_wp2
      go_ret2
      exact ⟨rfl, rfl⟩
    · rw [e]
      have hk2 := good_top k hk hg h
      have t1 := gt_false hlt (by decide) hn (by decide : ¬ nan 9218868437227405311) (by omega)
      have HG := Lib.hid (fun W => rgood_one k (by omega) W)
      have hy := Lib.hid (toE_bad g1)
      clear h e hm hlt hn hg g1
      go_enter Try.func67, Try.ntmps67
      go_wp2_with fail
      refine (rto_any k hk _).mono ?_
      rintro e w' ⟨rfl, rfl⟩
      rw [he.out]
      go_wp2_with fail
      refine (HG.out _).mono ?_
      rintro e w' ⟨rfl, rfl⟩
      rw [hy.out]
      go_wp2
      go_ret2
      exact ⟨by congr 4, rfl⟩
  · have h1 : nextK k = 0 := if_neg hg
    have h2 : nextE k = 202 := if_neg hg
    rw [h1, h2]
    have he := Lib.hid (toE_bad hg)
    clear h1 h2
    go_enter Try.func67, Try.ntmps67
    go_wp2_with fail
    refine (rto_any k hk _).mono ?_
    rintro e w' ⟨rfl, rfl⟩
    rw [he.out]
    go_wp2
    go_ret2
    exact ⟨rfl, rfl⟩
set_option maxRecDepth 100000 in
theorem steps_walk (a0 : Int) (w0 : (Lit.int .u64 a0).wf = true) (w : World) :
    Calls Try.prog 13 #[.int .u64 a0] w fun e w' => e = .returned (.bool true) ∧ Below w.heap.size w w' := by
  have hx : 0 ≤ a0 ∧ a0 ≤ 18446744073709551615 := by simpa [Lit.wf, IntKind.min, IntKind.max, IntKind.signed, IntKind.bits] using w0
  obtain ⟨k, rfl⟩ := Int.eq_ofNat_of_zero_le hx.1
  have hk : k < 18446744073709551616 := by omega
  clear hx w0
  obtain ⟨n, y, hw, hr⟩ := whole_both k hk
  have HW := Lib.hid (And.intro hw hr)
  clear hw hr
  have t1 : ((n : Int) == n) = true := by simp
  have t2 : ((y : Int) == y) = true := by simp
  have t3 : (((nextK k : Nat) : Int) == ((nextK k : Nat) : Int)) = true := by simp
  have t4 : ((nextE k) == (nextE k)) = true := by simp
  go_enter Try.func13, Try.ntmps13
  go_wp2_with fail
  refine (next_any k hk _).mono ?_
  rintro e w' ⟨rfl, rfl⟩
  go_wp2_with fail
  refine (rnext_any k hk _).mono ?_
  rintro e w' ⟨rfl, rfl⟩
  go_wp2_with fail
  refine (HW.out.1 _).mono ?_
  rintro e w' ⟨rfl, rfl⟩
  go_wp2_with fail
  refine (HW.out.2 _).mono ?_
  rintro e w' ⟨rfl, rfl⟩
  go_wp2_with fail
  refine (awake_any _).mono ?_
  rintro e w' ⟨rfl, rfl⟩
  go_wp2
  go_ret
  exact ⟨rfl, Below.refl _ _⟩
end Go.Proofs.Ythbpnbllcbemfaa.Inst
