/- The next float above a word's number; the next time: contracts. -/
import Derived.Test.YtdedbbbgpjhjhaaInstStep
namespace Go.Proofs.Ytdedbbbgpjhjhaa.Inst
open Go.RowKit
open Go.Proofs.Ytdedbbbgpjhjhaa.Flt
open Ieee

theorem inf_up (w : World) : Calls Try.prog 81 #[.int .i64 1] w fun e w' => e = .returned (.float .f64 9218868437227405312) ∧ w = w' := by
  have k1 := run_frombits
  go_enter Try.func81, Try.ntmps81
  go_wp2
  go_ret
  exact ⟨rfl, rfl⟩
theorem inf_down (w : World) : Calls Try.prog 81 #[.int .i64 (-1)] w fun e w' => e = .returned (.float .f64 18442240474082181120) ∧ w = w' := by
  have k1 := run_frombits
  go_enter Try.func81, Try.ntmps81
  go_wp2
  go_ret
  exact ⟨rfl, rfl⟩
/-- The next word above. -/
def nextW (x : Nat) : Nat := if x = 9218868437227405312 then x else if x = 0 then 1 else if x < 9223372036854775808 then x + 1 else x - 1
theorem nan_inf : ¬ nan 9218868437227405312 := by decide
theorem sval_inf : sval 9218868437227405312 = 9218868437227405312 := by decide
theorem copy_one (w : World) : Calls Try.prog 69 #[.float .f64 1, .float .f64 9218868437227405312] w fun e w' => e = .returned (.float .f64 1) ∧ w = w' := by
  have k1 := run_frombits
  have k2 := run_bits
  go_enter Try.func69, Try.ntmps69
  iterate 80 (try go_step)
  go_ret
  exact ⟨rfl, rfl⟩
theorem isnan_any (b : Nat) (w : World) : Calls Try.prog 78 #[.float .f64 b] w fun e w' => e = .returned (.bool (FloatKind.f64.format.order b b != some Ordering.eq)) ∧ w = w' := by
  go_enter Try.func78, Try.ntmps78
  go_wp2
  go_ret
  exact ⟨rfl, rfl⟩
theorem after_inf (w : World) : Calls Try.prog 80 #[.float .f64 9218868437227405312, .float .f64 9218868437227405312] w fun e w' => e = .returned (.float .f64 9218868437227405312) ∧ w = w' := by
  have t1 : (FloatKind.f64.format.order 9218868437227405312 9218868437227405312 != some Ordering.eq) = false := ne_false (by decide) (by decide) nan_inf nan_inf rfl
  have t2 : (FloatKind.f64.format.order 9218868437227405312 9218868437227405312 == some Ordering.eq) = true := eq_true (by decide) (by decide) nan_inf nan_inf rfl
  go_enter Try.func80, Try.ntmps80
  go_wp2
  go_ret
  exact ⟨rfl, rfl⟩
theorem after_zero (w : World) : Calls Try.prog 80 #[.float .f64 0, .float .f64 9218868437227405312] w fun e w' => e = .returned (.float .f64 1) ∧ w = w' := by
  have k1 := run_frombits
  have t1 : (FloatKind.f64.format.order 9218868437227405312 9218868437227405312 != some Ordering.eq) = false := ne_false (by decide) (by decide) nan_inf nan_inf rfl
  have t2 : (FloatKind.f64.format.order 0 9218868437227405312 == some Ordering.eq) = false := eq_false (by decide) (by decide) nan_zero nan_inf (by decide)
  have t3 : (FloatKind.f64.format.order 0 0 == some Ordering.eq) = true := eq_true (by decide) (by decide) nan_zero nan_zero rfl
  have t4 : (FloatKind.f64.format.order 0 0 != some Ordering.eq) = false := ne_false (by decide) (by decide) nan_zero nan_zero rfl
  go_enter Try.func80, Try.ntmps80
  go_wp2_with (first | (go_at_call 69; refine (copy_one _).mono ?_; rintro e w' ⟨rfl, rfl⟩) | (go_at_call 78; refine (isnan_any _ _).mono ?_; rintro e w' ⟨rfl, rfl⟩))
  go_ret
  exact ⟨rfl, rfl⟩
theorem after_pos (x : Nat) (hx : x < 18446744073709551616) (hn : ¬ nan x) (h0 : 0 < sval x) (hi : sval x < 9218868437227405312) (w : World) :
    Calls Try.prog 80 #[.float .f64 x, .float .f64 9218868437227405312] w fun e w' => e = .returned (.float .f64 (x + 1)) ∧ w = w' := by
  have k1 := run_frombits
  have k2 := run_bits
  have t1 : (FloatKind.f64.format.order 9218868437227405312 9218868437227405312 != some Ordering.eq) = false := ne_false (by decide) (by decide) nan_inf nan_inf rfl
  have t2 : (FloatKind.f64.format.order x 9218868437227405312 == some Ordering.eq) = false := eq_false hx (by decide) hn nan_inf (by rw [sval_inf]; omega)
  have t3 : (FloatKind.f64.format.order x 0 == some Ordering.eq) = false := eq_false hx (by decide) hn nan_zero (by rw [sval_zero]; omega)
  have t4 : (FloatKind.f64.format.order x x != some Ordering.eq) = false := ne_false hx hx hn hn rfl
  have t5 : (FloatKind.f64.format.order 9218868437227405312 x == some Ordering.gt) = true := gt_true (by decide) hx nan_inf hn (by rw [sval_inf]; exact hi)
  have t6 : (FloatKind.f64.format.order x 0 == some Ordering.gt) = true := gt_true hx (by decide) hn nan_zero (by rw [sval_zero]; exact h0)
  have hb : (x : Int) + 1 ≤ 18446744073709551615 := by
    have := (sval_pos.1 h0).2
    omega
  clear hx hn h0 hi
  go_enter Try.func80, Try.ntmps80
  go_wp2
  go_ret
  exact ⟨rfl, rfl⟩
theorem after_neg (x : Nat) (hx : x < 18446744073709551616) (hn : ¬ nan x) (h0 : sval x < 0) (w : World) :
    Calls Try.prog 80 #[.float .f64 x, .float .f64 9218868437227405312] w fun e w' => e = .returned (.float .f64 (x - 1)) ∧ w = w' := by
  have k1 := run_frombits
  have k2 := run_bits
  have t1 : (FloatKind.f64.format.order 9218868437227405312 9218868437227405312 != some Ordering.eq) = false := ne_false (by decide) (by decide) nan_inf nan_inf rfl
  have t2 : (FloatKind.f64.format.order x 9218868437227405312 == some Ordering.eq) = false := eq_false hx (by decide) hn nan_inf (by rw [sval_inf]; omega)
  have t3 : (FloatKind.f64.format.order x 0 == some Ordering.eq) = false := eq_false hx (by decide) hn nan_zero (by rw [sval_zero]; omega)
  have t4 : (FloatKind.f64.format.order x x != some Ordering.eq) = false := ne_false hx hx hn hn rfl
  have t5 : (FloatKind.f64.format.order 9218868437227405312 x == some Ordering.gt) = true := gt_true (by decide) hx nan_inf hn (by rw [sval_inf]; omega)
  have t6 : (FloatKind.f64.format.order x 0 == some Ordering.gt) = false := gt_false hx (by decide) hn nan_zero (by rw [sval_zero]; omega)
  have hb : 1 ≤ (x : Int) := by
    have h1 : x ≠ 0 := by rintro rfl; rw [sval_zero] at h0; omega
    omega
  have hb2 : (x : Int) ≤ 18446744073709551615 := by omega
  have he := Lib.hid (show ((x : Int) - 1).toNat = x - 1 from by omega)
  clear hx hn h0
  go_enter Try.func80, Try.ntmps80
  go_wp2
  go_ret
  exact ⟨by rw [← he.out]; rfl, rfl⟩
theorem nextW_inf : nextW 9218868437227405312 = 9218868437227405312 := rfl
theorem nextW_zero : nextW 0 = 1 := rfl
theorem toF_zero (k : Nat) : toF k = 0 ∨ sval (toF k) ≠ 0 := by
  rcases Classical.em (good k) with h | h
  · by_cases hz : low (toB k) = 0
    · left
      have h1 := h.2
      have hn : ¬ nan (toB k) := by unfold nan; rw [hz]; decide
      unfold ofK at h1
      rw [if_neg hn, if_pos hz] at h1
      rw [toF_good h, ← h1]
      decide
    · right
      rw [toF_good h]
      exact fun e => hz (sval_low.1 e)
  · left
    exact toF_bad h
theorem sval_le_inf (b : Nat) (h : ¬ nan b) : sval b ≤ 9218868437227405312 := by
  unfold nan inf at h
  unfold sval
  split <;> omega
theorem sval_eq_inf (b : Nat) (hb : b < 18446744073709551616) (h : sval b = 9218868437227405312) : b = 9218868437227405312 := by
  unfold sval low at h
  split at h <;> omega
theorem after_any (x : Nat) (hx : x < 18446744073709551616) (hn : ¬ nan x) (h0 : x = 0 ∨ sval x ≠ 0) (w : World) :
    Calls Try.prog 80 #[.float .f64 x, .float .f64 9218868437227405312] w fun e w' => e = .returned (.float .f64 (nextW x)) ∧ w = w' := by
  by_cases hi : x = 9218868437227405312
  · subst hi
    exact after_inf w
  · by_cases hz : x = 0
    · subst hz
      exact after_zero w
    · have h1 : sval x ≠ 0 := by
        rcases h0 with h | h
        · exact absurd h hz
        · exact h
      have h2 : sval x ≠ 9218868437227405312 := fun e => hi (sval_eq_inf x hx e)
      have h3 := sval_le_inf x hn
      by_cases hp : 0 < sval x
      · have h4 := (sval_pos.1 hp).2
        have he : nextW x = x + 1 := by unfold nextW; rw [if_neg hi, if_neg hz, if_pos h4]
        rw [he]
        exact after_pos x hx hn hp (by omega) w
      · have h4 : ¬ x < 9223372036854775808 := fun h => hp (sval_pos.2 ⟨fun e => h1 (sval_low.2 e), h⟩)
        have he : nextW x = x - 1 := by unfold nextW; rw [if_neg hi, if_neg hz, if_neg h4]
        rw [he]
        exact after_neg x hx hn (by omega) w
theorem nextW_lt (x : Nat) (hx : x < 18446744073709551616) : nextW x < 18446744073709551616 := by
  unfold nextW
  split
  · exact hx
  · split
    · omega
    · split <;> omega
def nextK (k : Nat) : Nat := if good k then ofK (nextW (toF k)) else 0
def nextE (k : Nat) : Int := if good k then ofE (nextW (toF k)) else 202
theorem next_any (k : Nat) (hk : k < 18446744073709551616) (w : World) :
    Calls Try.prog 71 #[.int .u64 k] w fun e w' => e = .returned (.tuple #[.int .u64 (nextK k : Nat), .int .i64 (nextE k)]) ∧ w = w' := by
  by_cases hg : good k
  · have h1 : nextK k = ofK (nextW (toF k)) := if_pos hg
    have h2 : nextE k = ofE (nextW (toF k)) := if_pos hg
    rw [h1, h2]
    have he := Lib.hid (toE_good hg)
    have hx := toF_lt k hk
    have hn := toF_nan k
    have h0 := toF_zero k
    have hl := nextW_lt _ hx
    clear h1 h2
    go_enter Try.func71, Try.ntmps71
    go_wp2_with fail
    refine (to_any k hk _).mono ?_
    rintro e w' ⟨rfl, rfl⟩
    rw [he.out]
    go_wp2_with fail
    refine (inf_up _).mono ?_
    rintro e w' ⟨rfl, rfl⟩
    go_wp2_with fail
    refine (after_any (toF k) hx hn h0 _).mono ?_
    rintro e w' ⟨rfl, rfl⟩
    go_wp2_with fail
    refine (of_any (nextW (toF k)) hl _).mono ?_
    rintro e w' ⟨rfl, rfl⟩
    go_wp2
    go_ret2
    exact ⟨rfl, rfl⟩
  · have h1 : nextK k = 0 := if_neg hg
    have h2 : nextE k = 202 := if_neg hg
    rw [h1, h2]
    have he := Lib.hid (toE_bad hg)
    clear h1 h2
    go_enter Try.func71, Try.ntmps71
    go_wp2_with fail
    refine (to_any k hk _).mono ?_
    rintro e w' ⟨rfl, rfl⟩
    rw [he.out]
    go_wp2
    go_ret2
    exact ⟨rfl, rfl⟩
end Go.Proofs.Ytdedbbbgpjhjhaa.Inst
