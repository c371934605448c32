/- The walk of the law InstantBetween. -/
import Derived.Test.YthbpnbllcbemfabInstBack
namespace Go.Proofs.Ythbpnbllcbemfab.Inst
open Go.RowKit
open Go.Proofs.Ythbpnbllcbemfab.Flt
open Ieee

/-- The bits of a signed rung. -/
def fS (s : Int) : Int := if 0 ≤ s then 9223372036854775808 + s else 9223372036854775807 + s
theorem fS_lt {s t : Int} (h : s < t) : fS s < fS t := by unfold fS; split <;> split <;> omega
theorem fS_le {s t : Int} (h : fS s ≤ fS t) : s ≤ t := by
  by_cases h1 : t < s
  · have := fS_lt h1; omega
  · omega
theorem ofK_fS (b : Nat) (hb : b < 18446744073709551616) (h : ¬ nan b) : ((ofK b : Nat) : Int) = fS (sval b) := by
  have hl : low b < 9223372036854775808 := low_lt b
  unfold fS
  by_cases h1 : b < 9223372036854775808
  · have s : sval b = (low b : Int) := if_pos h1
    have hb2 : low b = b := by unfold low; omega
    rw [s, if_pos (by omega)]
    unfold ofK
    rw [if_neg h]
    by_cases h2 : low b = 0
    · rw [if_pos h2]; omega
    · rw [if_neg h2, if_pos h1]; omega
  · have s : sval b = -(low b : Int) := if_neg h1
    have hb2 : b = low b + 9223372036854775808 := by unfold low; omega
    rw [s]
    unfold ofK
    rw [if_neg h]
    by_cases h2 : low b = 0
    · rw [if_pos h2, if_pos (by omega)]; omega
    · rw [if_neg h2, if_neg h1, if_neg (by omega)]; omega
theorem good_fS (k : Nat) (hk : k < 18446744073709551616) (h : good k) : (k : Int) = fS (sval (toF k)) := by
  have h1 := ofK_fS (toF k) (toF_lt k hk) (toF_nan k)
  rw [toF_good h] at h1 ⊢
  rw [h.2] at h1
  exact h1
theorem sval_bounds (b : Nat) (h : ¬ nan b) : -9218868437227405312 ≤ sval b ∧ sval b ≤ 9218868437227405312 := by
  unfold nan inf at h
  unfold sval
  split <;> omega
theorem good_ends (k : Nat) (hk : k < 18446744073709551616) (h : good k) : 4503599627370495 ≤ (k : Int) ∧ (k : Int) ≤ 18442240474082181120 := by
  have h1 := good_fS k hk h
  have h2 := sval_bounds (toF k) (toF_nan k)
  rw [h1]
  unfold fS
  split <;> omega
theorem next_sval (x : Nat) (hx : x < 18446744073709551616) (hn : ¬ nan x) (h0 : x = 0 ∨ sval x ≠ 0) (hi : x ≠ 9218868437227405312) : ¬ nan (nextW x) ∧ sval (nextW x) = sval x + 1 := by
  unfold nextW
  rw [if_neg hi]
  by_cases hz : x = 0
  · subst hz
    rw [if_pos rfl]
    decide
  · rw [if_neg hz]
    have hs : sval x ≠ 0 := by
      rcases h0 with h | h
      · exact absurd h hz
      · exact h
    have hl : low x ≠ 0 := fun e => hs (sval_low.2 e)
    by_cases h1 : x < 9223372036854775808
    · rw [if_pos h1]
      have hle := sval_le_inf x hn
      have hne : sval x ≠ 9218868437227405312 := fun e => hi (sval_eq_inf x hx e)
      unfold sval at hle hne ⊢
      rw [if_pos h1] at hle hne ⊢
      unfold low nan inf at *
      unfold low
      refine ⟨by omega, ?_⟩
      rw [if_pos (by omega)]
      omega
    · rw [if_neg h1]
      have hl' : x % 9223372036854775808 ≠ 0 := hl
      have hn' : ¬ 9218868437227405312 < x % 9223372036854775808 := hn
      have h2 : ¬ x - 1 < 9223372036854775808 := by omega
      have s1 : sval x = -((x % 9223372036854775808 : Nat) : Int) := if_neg h1
      have s2 : sval (x - 1) = -(((x - 1) % 9223372036854775808 : Nat) : Int) := if_neg h2
      have m : (x - 1) % 9223372036854775808 = x % 9223372036854775808 - 1 := by omega
      rw [s1, s2, m]
      refine ⟨?_, by omega⟩
      show ¬ 9218868437227405312 < (x - 1) % 9223372036854775808
      rw [m]
      omega
theorem nextK_last (k : Nat) (h : good k) (hx : toF k = 9218868437227405312) : nextK k = k ∧ k = 18442240474082181120 := by
  have h1 : nextK k = ofK (nextW (toF k)) := if_pos h
  have h2 : ofK (toF k) = k := by rw [toF_good h]; exact h.2
  rw [h1, hx, nextW_inf]
  rw [hx] at h2
  exact ⟨h2, by rw [← h2]; decide +kernel⟩
/-- The bits of the next time: above, and no time's between. -/
theorem nextK_step (k : Nat) (hk : k < 18446744073709551616) (h : good k) (hx : toF k ≠ 9218868437227405312) :
    (nextK k : Int) = fS (sval (toF k) + 1) ∧ nextE k = 0 := by
  obtain ⟨h1, h2⟩ := next_sval (toF k) (toF_lt k hk) (toF_nan k) (toF_zero k) hx
  have e1 : nextK k = ofK (nextW (toF k)) := if_pos h
  have e2 : nextE k = ofE (nextW (toF k)) := if_pos h
  rw [e1, e2, ofK_fS _ (nextW_lt _ (toF_lt k hk)) h1, h2]
  exact ⟨rfl, if_neg h1⟩
theorem nextE_last (k : Nat) (h : good k) (hx : toF k = 9218868437227405312) : nextE k = 0 := by
  have e2 : nextE k = ofE (nextW (toF k)) := if_pos h
  rw [e2, hx]
  decide +kernel
theorem nextK_lt (k : Nat) (hk : k < 18446744073709551616) : nextK k < 18446744073709551616 := by
  unfold nextK
  split
  · exact ofK_lt _ (nextW_lt _ (toF_lt k hk))
  · omega

theorem betw_bad (k o : Nat) (hk : k < 18446744073709551616) (h : ¬ good k) (w : World) :
    Calls Try.prog 4 #[.int .u64 k, .int .u64 o] w fun e w' => e = .returned (.bool true) ∧ Below w.heap.size w w' := by
  have h1 := Lib.hid (show nextK k = 0 from if_neg h)
  have h2 := Lib.hid (show nextE k = 202 from if_neg h)
  go_enter Try.func4, Try.ntmps4
  go_wp2_with fail
  refine (next_any k hk _).mono ?_
  rintro e w' ⟨rfl, rfl⟩
  rw [h1.out, h2.out]
  go_wp2_with fail
  refine (awake_any _).mono ?_
  rintro e w' ⟨rfl, rfl⟩
  go_wp2
  go_ret
  exact ⟨rfl, Below.refl _ _⟩
set_option maxRecDepth 100000 in
set_option maxHeartbeats 400000 in
theorem betw_last_bad (k o : Nat) (hk : k < 18446744073709551616) (ho : o < 18446744073709551616) (h : good k) (hx : toF k = 9218868437227405312) (hg : ¬ good o) (w : World) :
    Calls Try.prog 4 #[.int .u64 k, .int .u64 o] w fun e w' => e = .returned (.bool true) ∧ Below w.heap.size w w' := by
  have e1 := good_ends k hk h
  have b1 : decide (4503599627370495 ≤ (k : Int)) = true := decide_eq_true e1.1
  have b2 : decide ((k : Int) ≤ 18442240474082181120) = true := decide_eq_true e1.2
  have hn := Lib.hid (nextK_last k h hx).1
  have hm := Lib.hid (nextK_last k h hx).2
  have he := Lib.hid (nextE_last k h hx)
  have q1 : ((k : Int) == (k : Int)) = true := by simp
  have q2 : ((k : Int) != 18442240474082181120) = false := by rw [hm.out]; rfl
  have q3 : decide (k < k) = false := decide_eq_false (by omega)
  have hoE := Lib.hid (toE_bad hg)
  clear e1 h hx hg
  go_enter Try.func4, Try.ntmps4
  go_wp2_with fail
  refine (next_any k hk _).mono ?_
  rintro e w' ⟨rfl, rfl⟩
  rw [he.out]
  rw [hn.out]
  go_wp2_with fail
  refine (last_any _).mono ?_
  rintro e w' ⟨rfl, rfl⟩
  go_wp2_with fail
  refine (good_any o ho _).mono ?_
  rintro e w' ⟨rfl, rfl⟩
  rw [hoE.out]
  go_wp2_with fail
  refine (first_any _).mono ?_
  rintro e w' ⟨rfl, rfl⟩
  go_wp2_with fail
  refine (last_any _).mono ?_
  rintro e w' ⟨rfl, rfl⟩
  go_wp2_with fail
  refine (awake_any _).mono ?_
  rintro e w' ⟨rfl, rfl⟩
  go_wp2
  go_ret
  exact ⟨rfl, Below.refl _ _⟩
set_option maxRecDepth 100000 in
set_option maxHeartbeats 400000 in
theorem betw_last_down (k o : Nat) (hk : k < 18446744073709551616) (ho : o < 18446744073709551616) (h : good k) (hx : toF k = 9218868437227405312) (hg : good o) (hd : o ≤ k) (w : World) :
    Calls Try.prog 4 #[.int .u64 k, .int .u64 o] w fun e w' => e = .returned (.bool true) ∧ Below w.heap.size w w' := by
  have e1 := good_ends k hk h
  have b1 : decide (4503599627370495 ≤ (k : Int)) = true := decide_eq_true e1.1
  have b2 : decide ((k : Int) ≤ 18442240474082181120) = true := decide_eq_true e1.2
  have hn := Lib.hid (nextK_last k h hx).1
  have hm := Lib.hid (nextK_last k h hx).2
  have he := Lib.hid (nextE_last k h hx)
  have q1 : ((k : Int) == (k : Int)) = true := by simp
  have q2 : ((k : Int) != 18442240474082181120) = false := by rw [hm.out]; rfl
  have q3 : decide (k < k) = false := decide_eq_false (by omega)
  have hoE := Lib.hid (toE_good hg)
  have r1 : decide (k < o) = false := decide_eq_false (by omega)
  clear e1 h hx hg hd
  go_enter Try.func4, Try.ntmps4
  go_wp2_with fail
  refine (next_any k hk _).mono ?_
  rintro e w' ⟨rfl, rfl⟩
  rw [he.out]
  rw [hn.out]
  go_wp2_with fail
  refine (last_any _).mono ?_
  rintro e w' ⟨rfl, rfl⟩
  go_wp2_with fail
  refine (good_any o ho _).mono ?_
  rintro e w' ⟨rfl, rfl⟩
  rw [hoE.out]
  go_wp2_with fail
  refine (first_any _).mono ?_
  rintro e w' ⟨rfl, rfl⟩
  go_wp2_with fail
  refine (last_any _).mono ?_
  rintro e w' ⟨rfl, rfl⟩
  go_wp2_with fail
  refine (awake_any _).mono ?_
  rintro e w' ⟨rfl, rfl⟩
  go_wp2
  go_ret
  exact ⟨rfl, Below.refl _ _⟩
set_option maxRecDepth 100000 in
set_option maxHeartbeats 400000 in
theorem betw_last_up (k o : Nat) (hk : k < 18446744073709551616) (ho : o < 18446744073709551616) (h : good k) (hx : toF k = 9218868437227405312) (hg : good o) (hd : k < o) (w : World) :
    Calls Try.prog 4 #[.int .u64 k, .int .u64 o] w fun e w' => e = .returned (.bool true) ∧ Below w.heap.size w w' := by
  have e1 := good_ends k hk h
  have b1 : decide (4503599627370495 ≤ (k : Int)) = true := decide_eq_true e1.1
  have b2 : decide ((k : Int) ≤ 18442240474082181120) = true := decide_eq_true e1.2
  have hn := Lib.hid (nextK_last k h hx).1
  have hm := Lib.hid (nextK_last k h hx).2
  have he := Lib.hid (nextE_last k h hx)
  have q1 : ((k : Int) == (k : Int)) = true := by simp
  have q2 : ((k : Int) != 18442240474082181120) = false := by rw [hm.out]; rfl
  have q3 : decide (k < k) = false := decide_eq_false (by omega)
  have hoE := Lib.hid (toE_good hg)
  have r1 : decide (k < o) = true := decide_eq_true hd
  have r2 : decide (o < k) = false := decide_eq_false (by omega)
  clear e1 h hx hg hd
  go_enter Try.func4, Try.ntmps4
  go_wp2_with fail
  refine (next_any k hk _).mono ?_
  rintro e w' ⟨rfl, rfl⟩
  rw [he.out]
  rw [hn.out]
  go_wp2_with fail
  refine (last_any _).mono ?_
  rintro e w' ⟨rfl, rfl⟩
  go_wp2_with fail
  refine (good_any o ho _).mono ?_
  rintro e w' ⟨rfl, rfl⟩
  rw [hoE.out]
  go_wp2_with fail
  refine (first_any _).mono ?_
  rintro e w' ⟨rfl, rfl⟩
  go_wp2_with fail
  refine (last_any _).mono ?_
  rintro e w' ⟨rfl, rfl⟩
  go_wp2_with fail
  refine (awake_any _).mono ?_
  rintro e w' ⟨rfl, rfl⟩
  go_wp2
  go_ret
  exact ⟨rfl, Below.refl _ _⟩
set_option maxRecDepth 100000 in
set_option maxHeartbeats 400000 in
theorem betw_step_bad (k o : Nat) (hk : k < 18446744073709551616) (ho : o < 18446744073709551616) (h : good k) (hx : toF k ≠ 9218868437227405312) (hg : ¬ good o) (w : World) :
    Calls Try.prog 4 #[.int .u64 k, .int .u64 o] w fun e w' => e = .returned (.bool true) ∧ Below w.heap.size w w' := by
  have e1 := good_ends k hk h
  have b1 : decide (4503599627370495 ≤ (k : Int)) = true := decide_eq_true e1.1
  have b2 : decide ((k : Int) ≤ 18442240474082181120) = true := decide_eq_true e1.2
  have hs := nextK_step k hk h hx
  have hkf := good_fS k hk h
  have hlt : k < nextK k := by
    have := fS_lt (show sval (toF k) < sval (toF k) + 1 by omega)
    omega
  have he := Lib.hid hs.2
  have q1 : (((nextK k : Nat) : Int) == (k : Int)) = false := beq_eq_false_iff_ne.2 (by omega)
  have q3 : decide (nextK k < k) = false := decide_eq_false (by omega)
  have hoE := Lib.hid (toE_bad hg)
  clear e1 h hx hg hs hkf hlt
  go_enter Try.func4, Try.ntmps4
  go_wp2_with fail
  refine (next_any k hk _).mono ?_
  rintro e w' ⟨rfl, rfl⟩
  rw [he.out]
  go_wp2_with fail
  refine (good_any o ho _).mono ?_
  rintro e w' ⟨rfl, rfl⟩
  rw [hoE.out]
  go_wp2_with fail
  refine (first_any _).mono ?_
  rintro e w' ⟨rfl, rfl⟩
  go_wp2_with fail
  refine (last_any _).mono ?_
  rintro e w' ⟨rfl, rfl⟩
  go_wp2_with fail
  refine (awake_any _).mono ?_
  rintro e w' ⟨rfl, rfl⟩
  go_wp2
  go_ret
  exact ⟨rfl, Below.refl _ _⟩
set_option maxRecDepth 100000 in
set_option maxHeartbeats 400000 in
theorem betw_step_down (k o : Nat) (hk : k < 18446744073709551616) (ho : o < 18446744073709551616) (h : good k) (hx : toF k ≠ 9218868437227405312) (hg : good o) (hd : o ≤ k) (w : World) :
    Calls Try.prog 4 #[.int .u64 k, .int .u64 o] w fun e w' => e = .returned (.bool true) ∧ Below w.heap.size w w' := by
  have e1 := good_ends k hk h
  have b1 : decide (4503599627370495 ≤ (k : Int)) = true := decide_eq_true e1.1
  have b2 : decide ((k : Int) ≤ 18442240474082181120) = true := decide_eq_true e1.2
  have hs := nextK_step k hk h hx
  have hkf := good_fS k hk h
  have hlt : k < nextK k := by
    have := fS_lt (show sval (toF k) < sval (toF k) + 1 by omega)
    omega
  have he := Lib.hid hs.2
  have q1 : (((nextK k : Nat) : Int) == (k : Int)) = false := beq_eq_false_iff_ne.2 (by omega)
  have q3 : decide (nextK k < k) = false := decide_eq_false (by omega)
  have hoE := Lib.hid (toE_good hg)
  have r1 : decide (k < o) = false := decide_eq_false (by omega)
  clear e1 h hx hg hd hs hkf hlt
  go_enter Try.func4, Try.ntmps4
  go_wp2_with fail
  refine (next_any k hk _).mono ?_
  rintro e w' ⟨rfl, rfl⟩
  rw [he.out]
  go_wp2_with fail
  refine (good_any o ho _).mono ?_
  rintro e w' ⟨rfl, rfl⟩
  rw [hoE.out]
  go_wp2_with fail
  refine (first_any _).mono ?_
  rintro e w' ⟨rfl, rfl⟩
  go_wp2_with fail
  refine (last_any _).mono ?_
  rintro e w' ⟨rfl, rfl⟩
  go_wp2_with fail
  refine (awake_any _).mono ?_
  rintro e w' ⟨rfl, rfl⟩
  go_wp2
  go_ret
  exact ⟨rfl, Below.refl _ _⟩
set_option maxRecDepth 100000 in
set_option maxHeartbeats 400000 in
theorem betw_step_up (k o : Nat) (hk : k < 18446744073709551616) (ho : o < 18446744073709551616) (h : good k) (hx : toF k ≠ 9218868437227405312) (hg : good o) (hd : k < o) (w : World) :
    Calls Try.prog 4 #[.int .u64 k, .int .u64 o] w fun e w' => e = .returned (.bool true) ∧ Below w.heap.size w w' := by
  have e1 := good_ends k hk h
  have b1 : decide (4503599627370495 ≤ (k : Int)) = true := decide_eq_true e1.1
  have b2 : decide ((k : Int) ≤ 18442240474082181120) = true := decide_eq_true e1.2
  have hs := nextK_step k hk h hx
  have hkf := good_fS k hk h
  have hlt : k < nextK k := by
    have := fS_lt (show sval (toF k) < sval (toF k) + 1 by omega)
    omega
  have he := Lib.hid hs.2
  have q1 : (((nextK k : Nat) : Int) == (k : Int)) = false := beq_eq_false_iff_ne.2 (by omega)
  have q3 : decide (nextK k < k) = false := decide_eq_false (by omega)
  have hoE := Lib.hid (toE_good hg)
  have r1 : decide (k < o) = true := decide_eq_true hd
  have hof := good_fS o ho hg
  have r2 : decide (o < nextK k) = false := decide_eq_false (by
    intro hc
    have g1 : sval (toF o) < sval (toF k) + 1 := by
      by_cases g0 : sval (toF o) < sval (toF k) + 1
      · exact g0
      · have g : sval (toF k) + 1 ≤ sval (toF o) := by omega
        rcases Int.lt_or_eq_of_le g with g2 | g2
        · have := fS_lt g2; omega
        · rw [g2] at hs; omega
    have g3 : fS (sval (toF o)) ≤ fS (sval (toF k)) := by
      rcases Int.lt_or_eq_of_le (show sval (toF o) ≤ sval (toF k) by omega) with g | g
      · have := fS_lt g; omega
      · rw [g]; exact Int.le_refl _
    omega)
  clear e1 h hx hg hd hs hkf hlt hof
  go_enter Try.func4, Try.ntmps4
  go_wp2_with fail
  refine (next_any k hk _).mono ?_
  rintro e w' ⟨rfl, rfl⟩
  rw [he.out]
  go_wp2_with fail
  refine (good_any o ho _).mono ?_
  rintro e w' ⟨rfl, rfl⟩
  rw [hoE.out]
  go_wp2_with fail
  refine (first_any _).mono ?_
  rintro e w' ⟨rfl, rfl⟩
  go_wp2_with fail
  refine (last_any _).mono ?_
  rintro e w' ⟨rfl, rfl⟩
  go_wp2_with fail
  refine (awake_any _).mono ?_
  rintro e w' ⟨rfl, rfl⟩
  go_wp2
  go_ret
  exact ⟨rfl, Below.refl _ _⟩
theorem betw_walk (a0 a1 : Int) (w0 : (Lit.int .u64 a0).wf = true) (w1 : (Lit.int .u64 a1).wf = true) (w : World) :
    Calls Try.prog 4 #[.int .u64 a0, .int .u64 a1] w fun e w' => e = .returned (.bool true) ∧ Below w.heap.size w w' := by
  obtain ⟨k, rfl, hk⟩ := u64_nat' a0 w0
  obtain ⟨o, rfl, ho⟩ := u64_nat' a1 w1
  by_cases h : good k
  · by_cases hx : toF k = 9218868437227405312
    · by_cases hg : good o
      · by_cases hd : o ≤ k
        · exact betw_last_down k o hk ho h hx hg hd w
        · exact betw_last_up k o hk ho h hx hg (by omega) w
      · exact betw_last_bad k o hk ho h hx hg w
    · by_cases hg : good o
      · by_cases hd : o ≤ k
        · exact betw_step_down k o hk ho h hx hg hd w
        · exact betw_step_up k o hk ho h hx hg (by omega) w
      · exact betw_step_bad k o hk ho h hx hg w
  · exact betw_bad k o hk h w
end Go.Proofs.Ythbpnbllcbemfab.Inst
