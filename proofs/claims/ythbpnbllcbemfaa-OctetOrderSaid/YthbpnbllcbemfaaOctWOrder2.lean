/- The walk of the law of the order of numbers, whole. -/
import Derived.Test.YthbpnbllcbemfaaOctWOrder
namespace Go.Proofs.Ythbpnbllcbemfaa.Oct
open Go.RowKit

set_option maxRecDepth 100000 in
theorem order_o1 (a b c : Int) (k : Nat) (hk : wrap64 (1 + wrap64 ((IntKind.u64.wrap c).tmod 8)) = (k : Int)) (_ : a < 0) (w : World) :
    Calls Try.prog 6 #[.int .i64 a, .int .i64 b, .int .i64 c] w fun e w' => e = .returned (.bool true) ∧ Below w.heap.size w w' := by
  have g : Below w.heap.size w (w.alloc (.cells #[.int .i64 k] 3)) := (Below.refl _ w).alloc (Nat.le_refl _) _
  go_enter Try.func6, Try.ntmps6
  go_wp2_with fail
  clear hk
  refine (awake_any _).mono ?_
  rintro e w5 ⟨rfl, hb5⟩
  go_wp2
  go_ret
  exact ⟨rfl, g.trans (hb5.mono g.size)⟩
set_option maxRecDepth 100000 in
theorem order_o2 (a b c : Int) (k : Nat) (hk : wrap64 (1 + wrap64 ((IntKind.u64.wrap c).tmod 8)) = (k : Int)) (d1 : decide (a < 0) = false) (d2 : decide (b < 0) = true) (w : World) :
    Calls Try.prog 6 #[.int .i64 a, .int .i64 b, .int .i64 c] w fun e w' => e = .returned (.bool true) ∧ Below w.heap.size w w' := by
  have g : Below w.heap.size w (w.alloc (.cells #[.int .i64 k] 3)) := (Below.refl _ w).alloc (Nat.le_refl _) _
  go_enter Try.func6, Try.ntmps6
  go_wp2_with fail
  clear hk
  refine (awake_any _).mono ?_
  rintro e w5 ⟨rfl, hb5⟩
  go_wp2
  go_ret
  exact ⟨rfl, g.trans (hb5.mono g.size)⟩
set_option maxRecDepth 100000 in
theorem order_o3 (a b : Nat) (c : Int) (k : Nat) (hk : wrap64 (1 + wrap64 ((IntKind.u64.wrap c).tmod 8)) = (k : Int)) (h8 : k < 8) (d1 : decide ((a : Int) < 0) = false) (d2 : decide ((b : Int) < 0) = false) (d3 : decide (0 < (a : Int) / 2 ^ (8 * k)) = true) (w : World) :
    Calls Try.prog 6 #[.int .i64 a, .int .i64 b, .int .i64 c] w fun e w' => e = .returned (.bool true) ∧ Below w.heap.size w w' := by
  have g : Below w.heap.size w (w.alloc (.cells #[.int .i64 k] 3)) := (Below.refl _ w).alloc (Nat.le_refl _) _
  go_enter Try.func6, Try.ntmps6
  go_wp2_with fail
  clear hk
  refine (awake_any _).mono ?_
  rintro e w5 ⟨rfl, hb5⟩
  go_wp2
  go_ret
  exact ⟨rfl, g.trans (hb5.mono g.size)⟩
set_option maxRecDepth 100000 in
theorem order_o4 (a b : Nat) (c : Int) (k : Nat) (hk : wrap64 (1 + wrap64 ((IntKind.u64.wrap c).tmod 8)) = (k : Int)) (h8 : k < 8) (d1 : decide ((a : Int) < 0) = false) (d2 : decide ((b : Int) < 0) = false) (d3 : decide (0 < (a : Int) / 2 ^ (8 * k)) = false) (d4 : decide (0 < (b : Int) / 2 ^ (8 * k)) = true) (w : World) :
    Calls Try.prog 6 #[.int .i64 a, .int .i64 b, .int .i64 c] w fun e w' => e = .returned (.bool true) ∧ Below w.heap.size w w' := by
  have g : Below w.heap.size w (w.alloc (.cells #[.int .i64 k] 3)) := (Below.refl _ w).alloc (Nat.le_refl _) _
  go_enter Try.func6, Try.ntmps6
  go_wp2_with fail
  clear hk
  refine (awake_any _).mono ?_
  rintro e w5 ⟨rfl, hb5⟩
  go_wp2
  go_ret
  exact ⟨rfl, g.trans (hb5.mono g.size)⟩
theorem over_yes (a k : Nat) (h : 2 ^ (8 * k) ≤ a) : decide (0 < (a : Int) / 2 ^ (8 * k)) = true := by
  have e : (a : Int) / 2 ^ (8 * k) = ((a / 2 ^ (8 * k) : Nat) : Int) := by rw [Int.natCast_ediv, Int.natCast_pow]; rfl
  have h2 : 0 < a / 2 ^ (8 * k) := Nat.div_pos h (Nat.two_pow_pos _)
  rw [e]
  exact decide_eq_true (by omega)
theorem over_no (a k : Nat) (h : a < 2 ^ (8 * k)) : decide (0 < (a : Int) / 2 ^ (8 * k)) = false := by
  have e : (a : Int) / 2 ^ (8 * k) = ((a / 2 ^ (8 * k) : Nat) : Int) := by rw [Int.natCast_ediv, Int.natCast_pow]; rfl
  rw [e, Nat.div_eq_of_lt h]
  rfl
theorem i64_at (n : Int) (h : (Lit.int .i64 n).wf = true) : -9223372036854775808 ≤ n ∧ n ≤ 9223372036854775807 := by
  simpa [Lit.wf, IntKind.min, IntKind.max, IntKind.signed, IntKind.bits] using h
theorem order_walk (a b c : Int) (wa : (Lit.int .i64 a).wf = true) (wb : (Lit.int .i64 b).wf = true) (_ : (Lit.int .i64 c).wf = true) (w : World) :
    Calls Try.prog 6 #[.int .i64 a, .int .i64 b, .int .i64 c] w fun e w' => e = .returned (.bool true) ∧ Below w.heap.size w w' := by
  have ra := (i64_at a wa).2
  have rb := (i64_at b wb).2
  clear wa wb
  obtain ⟨k, h1, h8, hk⟩ := width_of c
  have HK := Lib.hid hk
  clear hk
  by_cases a0 : a < 0
  · exact order_o1 a b c k HK.out a0 w
  · by_cases b0 : b < 0
    · exact order_o2 a b c k HK.out (decide_eq_false a0) (decide_eq_true b0) w
    · obtain ⟨A, rfl⟩ := Int.eq_ofNat_of_zero_le (Int.not_lt.1 a0)
      obtain ⟨B, rfl⟩ := Int.eq_ofNat_of_zero_le (Int.not_lt.1 b0)
      have d1 := decide_eq_false a0
      have d2 := decide_eq_false b0
      have lA : A < 9223372036854775808 := by omega
      have lB : B < 9223372036854775808 := by omega
      by_cases e8 : k < 8
      · by_cases hA : A < 2 ^ (8 * k)
        · by_cases hB : B < 2 ^ (8 * k)
          · exact order_in A B c k h1 h8 HK.out lA lB hA hB d1 d2 (fun _ => ⟨over_no A k hA, over_no B k hB⟩) w
          · exact order_o4 A B c k HK.out e8 d1 d2 (over_no A k hA) (over_yes B k (Nat.not_lt.1 hB)) w
        · exact order_o3 A B c k HK.out e8 d1 d2 (over_yes A k (Nat.not_lt.1 hA)) w
      · have hk8 : 2 ^ (8 * k) = 18446744073709551616 := by rw [show k = 8 by omega]
        exact order_in A B c k h1 h8 HK.out lA lB (by rw [hk8]; omega) (by rw [hk8]; omega) d1 d2 (fun h => absurd h e8) w
end Go.Proofs.Ythbpnbllcbemfaa.Oct
