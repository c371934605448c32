/- The walk of the law InstantMiddle. -/
import Derived.Test.YtdedbbbgpjhjhaaInstMiddM
namespace Go.Proofs.Ytdedbbbgpjhjhaa.Inst
open Go.RowKit
open Go.Proofs.Ytdedbbbgpjhjhaa.Flt
open Ieee

theorem clash_comm (x y : Nat) : clash x y ↔ clash y x := by
  rw [clash_iff x y, clash_iff y x]
  omega
theorem midK_comm (a b : Nat) : midK a b = midK b a := by
  have hc := clash_comm (toF a) (toF b)
  unfold midK
  by_cases h : good a ∧ good b
  · rw [if_pos h, if_pos h.symm, opK_comm]
    by_cases c : clash (toF a) (toF b)
    · rw [if_pos c, if_pos (hc.1 c)]
    · rw [if_neg c, if_neg (fun k => c (hc.2 k))]
  · rw [if_neg h, if_neg (fun k => h k.symm)]
theorem midE_comm (a b : Nat) : midE a b = midE b a := by
  have hc := clash_comm (toF a) (toF b)
  unfold midE
  by_cases h : good a ∧ good b
  · rw [if_pos h, if_pos h.symm, opE_comm]
    by_cases c : clash (toF a) (toF b)
    · rw [if_pos c, if_pos (hc.1 c)]
    · rw [if_neg c, if_neg (fun k => c (hc.2 k))]
  · rw [if_neg h, if_neg (fun k => h k.symm)]
theorem midE_good (a b : Nat) (ha : a < 18446744073709551616) (hb : b < 18446744073709551616) (ga : good a) (gb : good b) : midE a b = 0 := by
  unfold midE
  rw [if_pos ⟨ga, gb⟩]
  by_cases c : clash (toF a) (toF b)
  · rw [if_pos c]
  · rw [if_neg c]
    exact middle_ok _ _ (toF_lt a ha) (toF_lt b hb) ((nan_le _).1 (toF_nan a)) ((nan_le _).1 (toF_nan b)) c
/-- The middle lies between, of times in order. -/
theorem mid_between (a b : Nat) (ha : a < 18446744073709551616) (hb : b < 18446744073709551616) (ga : good a) (gb : good b) (h : a ≤ b) (f1 : 9007199254740992 ≤ low (toF a)) (f2 : 9007199254740992 ≤ low (toF b)) : a ≤ midK a b ∧ midK a b ≤ b := by
  have g1 := good_key a ha ga
  have g2 := good_key b hb gb
  have hs : sval (toF a) ≤ sval (toF b) := key_le.1 (by omega)
  unfold midK
  rw [if_pos ⟨ga, gb⟩]
  by_cases c : clash (toF a) (toF b)
  · rw [if_pos c]
    have hk : key 0 = 9223372036854775808 := by decide
    have h1 := c.2
    have k1 := key_le (u := sval (toF a)) (v := 0)
    have k2 := key_le (u := 0) (v := sval (toF b))
    omega
  · rw [if_neg c]
    have hm := middle _ _ (toF_lt a ha) (toF_lt b hb) ((nan_le _).1 (toF_nan a)) ((nan_le _).1 (toF_nan b)) f1 f2 c hs
    omega
theorem near_true (x : Nat) (h : ¬ nan x) (hl : low x < 118622047889322841) : (FloatKind.f64.format.order (low x) 118622047889322841 == some Ordering.lt) = true := by
  have := Flt.low_lt x
  refine lt_true (by omega) (by decide) (nan_low2 x h) (by decide) ?_
  rw [sval_lowlow, show sval 118622047889322841 = 118622047889322841 by decide]
  omega
theorem near_false (x : Nat) (h : ¬ nan x) (hl : ¬ low x < 118622047889322841) : (FloatKind.f64.format.order (low x) 118622047889322841 == some Ordering.lt) = false := by
  have := Flt.low_lt x
  refine lt_false (by omega) (by decide) (nan_low2 x h) (by decide) ?_
  rw [sval_lowlow, show sval 118622047889322841 = 118622047889322841 by decide]
  omega
theorem midd_bad1 (a b : Nat) (ha : a < 18446744073709551616) (hb : b < 18446744073709551616) (g : ¬ good a) (w : World) :
    Calls Try.prog 9 #[.int .u64 a, .int .u64 b] w fun e w' => e = .returned (.bool true) ∧ Below w.heap.size w w' := by
  have hk := Lib.hid (midK_comm b a)
  have he := Lib.hid (midE_comm b a)
  have h1 := Lib.hid (show midE a b = 202 from if_neg (fun k => g k.1))
  have h2 := Lib.hid (bad_test a g)
  have t1 : (((midK a b : Nat) : Int) != ((midK a b : Nat) : Int)) = false := by simp
  clear g
  go_enter Try.func9, Try.ntmps9
  go_wp2_with fail
  refine (mid_any a b ha hb _).mono ?_
  rintro e w1 ⟨rfl, b1⟩
  go_wp2_with fail
  refine (mid_any b a hb ha _).mono ?_
  rintro e w2 ⟨rfl, b2⟩
  rw [hk.out, he.out, h1.out]
  go_wp2_with fail
  refine (good_any a ha _).mono ?_
  rintro e w' ⟨rfl, rfl⟩
  rw [h2.out]
  go_wp2_with fail
  refine (awake_any _).mono ?_
  rintro e w' ⟨rfl, rfl⟩
  go_wp2
  go_ret
  exact ⟨rfl, b1.trans (b2.mono b1.size)⟩
theorem midd_bad2 (a b : Nat) (ha : a < 18446744073709551616) (hb : b < 18446744073709551616) (ga : good a) (g : ¬ good b) (w : World) :
    Calls Try.prog 9 #[.int .u64 a, .int .u64 b] w fun e w' => e = .returned (.bool true) ∧ Below w.heap.size w w' := by
  have hk := Lib.hid (midK_comm b a)
  have he := Lib.hid (midE_comm b a)
  have h1 := Lib.hid (show midE a b = 202 from if_neg (fun k => g k.2))
  have h2 := Lib.hid (good_test a ga)
  have h3 := Lib.hid (bad_test b g)
  have t1 : (((midK a b : Nat) : Int) != ((midK a b : Nat) : Int)) = false := by simp
  clear g ga
  go_enter Try.func9, Try.ntmps9
  go_wp2_with fail
  refine (mid_any a b ha hb _).mono ?_
  rintro e w1 ⟨rfl, b1⟩
  go_wp2_with fail
  refine (mid_any b a hb ha _).mono ?_
  rintro e w2 ⟨rfl, b2⟩
  rw [hk.out, he.out, h1.out]
  go_wp2_with fail
  refine (good_any a ha _).mono ?_
  rintro e w' ⟨rfl, rfl⟩
  rw [h2.out]
  go_wp2_with fail
  refine (good_any b hb _).mono ?_
  rintro e w' ⟨rfl, rfl⟩
  rw [h3.out]
  go_wp2_with fail
  refine (awake_any _).mono ?_
  rintro e w' ⟨rfl, rfl⟩
  go_wp2
  go_ret
  exact ⟨rfl, b1.trans (b2.mono b1.size)⟩
set_option maxRecDepth 100000 in
set_option maxHeartbeats 400000 in
theorem midd_near1_0 (a b : Nat) (ha : a < 18446744073709551616) (hb : b < 18446744073709551616) (ga : good a) (gb : good b) (g1 : b < a) (g2 : ¬ a < b) (hn : low (toF b) < 118622047889322841) (w : World) :
    Calls Try.prog 9 #[.int .u64 a, .int .u64 b] w fun e w' => e = .returned (.bool true) ∧ Below w.heap.size w w' := by
  have hk := Lib.hid (midK_comm b a)
  have he := Lib.hid (midE_comm b a)
  have h1 := Lib.hid (midE_good a b ha hb ga gb)
  have t1 : (((midK a b : Nat) : Int) != ((midK a b : Nat) : Int)) = false := by simp
  have xp := toF_lt b hb
  have t2 := near_true (toF b) (toF_nan b) hn
  clear ga gb hn
  go_enter Try.func9, Try.ntmps9
  go_wp2_with fail
  refine (mid_any a b ha hb _).mono ?_
  rintro e w1 ⟨rfl, b1⟩
  go_wp2_with fail
  refine (mid_any b a hb ha _).mono ?_
  rintro e w2 ⟨rfl, b2⟩
  rw [hk.out, he.out, h1.out]
  go_wp2_with fail
  refine (to_any b hb _).mono ?_
  rintro e w' ⟨rfl, rfl⟩
  go_wp2_with fail
  refine (to_any a ha _).mono ?_
  rintro e w' ⟨rfl, rfl⟩
  go_wp2_with fail
  refine (abs_any _ xp _).mono ?_
  rintro e w' ⟨rfl, rfl⟩
  go_wp2_with fail
  refine (awake_any _).mono ?_
  rintro e w' ⟨rfl, rfl⟩
  go_wp2
  go_ret
  exact ⟨rfl, b1.trans (b2.mono b1.size)⟩
set_option maxRecDepth 100000 in
set_option maxHeartbeats 400000 in
theorem midd_near1_1 (a b : Nat) (ha : a < 18446744073709551616) (hb : b < 18446744073709551616) (ga : good a) (gb : good b) (g1 : ¬ b < a) (g2 : a < b) (hn : low (toF a) < 118622047889322841) (w : World) :
    Calls Try.prog 9 #[.int .u64 a, .int .u64 b] w fun e w' => e = .returned (.bool true) ∧ Below w.heap.size w w' := by
  have hk := Lib.hid (midK_comm b a)
  have he := Lib.hid (midE_comm b a)
  have h1 := Lib.hid (midE_good a b ha hb ga gb)
  have t1 : (((midK a b : Nat) : Int) != ((midK a b : Nat) : Int)) = false := by simp
  have xp := toF_lt a ha
  have t2 := near_true (toF a) (toF_nan a) hn
  clear ga gb hn
  go_enter Try.func9, Try.ntmps9
  go_wp2_with fail
  refine (mid_any a b ha hb _).mono ?_
  rintro e w1 ⟨rfl, b1⟩
  go_wp2_with fail
  refine (mid_any b a hb ha _).mono ?_
  rintro e w2 ⟨rfl, b2⟩
  rw [hk.out, he.out, h1.out]
  go_wp2_with fail
  refine (to_any a ha _).mono ?_
  rintro e w' ⟨rfl, rfl⟩
  go_wp2_with fail
  refine (to_any b hb _).mono ?_
  rintro e w' ⟨rfl, rfl⟩
  go_wp2_with fail
  refine (abs_any _ xp _).mono ?_
  rintro e w' ⟨rfl, rfl⟩
  go_wp2_with fail
  refine (awake_any _).mono ?_
  rintro e w' ⟨rfl, rfl⟩
  go_wp2
  go_ret
  exact ⟨rfl, b1.trans (b2.mono b1.size)⟩
set_option maxRecDepth 100000 in
set_option maxHeartbeats 400000 in
theorem midd_near1_2 (a b : Nat) (ha : a < 18446744073709551616) (hb : b < 18446744073709551616) (ga : good a) (gb : good b) (g1 : ¬ b < a) (g2 : ¬ a < b) (hn : low (toF a) < 118622047889322841) (w : World) :
    Calls Try.prog 9 #[.int .u64 a, .int .u64 b] w fun e w' => e = .returned (.bool true) ∧ Below w.heap.size w w' := by
  have hk := Lib.hid (midK_comm b a)
  have he := Lib.hid (midE_comm b a)
  have h1 := Lib.hid (midE_good a b ha hb ga gb)
  have t1 : (((midK a b : Nat) : Int) != ((midK a b : Nat) : Int)) = false := by simp
  have xp := toF_lt a ha
  have t2 := near_true (toF a) (toF_nan a) hn
  clear ga gb hn
  go_enter Try.func9, Try.ntmps9
  go_wp2_with fail
  refine (mid_any a b ha hb _).mono ?_
  rintro e w1 ⟨rfl, b1⟩
  go_wp2_with fail
  refine (mid_any b a hb ha _).mono ?_
  rintro e w2 ⟨rfl, b2⟩
  rw [hk.out, he.out, h1.out]
  go_wp2_with fail
  refine (to_any a ha _).mono ?_
  rintro e w' ⟨rfl, rfl⟩
  go_wp2_with fail
  refine (to_any a ha _).mono ?_
  rintro e w' ⟨rfl, rfl⟩
  go_wp2_with fail
  refine (abs_any _ xp _).mono ?_
  rintro e w' ⟨rfl, rfl⟩
  go_wp2_with fail
  refine (awake_any _).mono ?_
  rintro e w' ⟨rfl, rfl⟩
  go_wp2
  go_ret
  exact ⟨rfl, b1.trans (b2.mono b1.size)⟩
set_option maxRecDepth 100000 in
set_option maxHeartbeats 400000 in
theorem midd_near2_0 (a b : Nat) (ha : a < 18446744073709551616) (hb : b < 18446744073709551616) (ga : good a) (gb : good b) (g1 : b < a) (g2 : ¬ a < b) (hn : ¬ low (toF b) < 118622047889322841) (hn2 : low (toF a) < 118622047889322841) (w : World) :
    Calls Try.prog 9 #[.int .u64 a, .int .u64 b] w fun e w' => e = .returned (.bool true) ∧ Below w.heap.size w w' := by
  have hk := Lib.hid (midK_comm b a)
  have he := Lib.hid (midE_comm b a)
  have h1 := Lib.hid (midE_good a b ha hb ga gb)
  have t1 : (((midK a b : Nat) : Int) != ((midK a b : Nat) : Int)) = false := by simp
  have xp := toF_lt b hb
  have t2 := near_false (toF b) (toF_nan b) hn
  have t3 := near_true (toF a) (toF_nan a) hn2
  have xq := toF_lt a ha
  clear ga gb hn hn2
  go_enter Try.func9, Try.ntmps9
  go_wp2_with fail
  refine (mid_any a b ha hb _).mono ?_
  rintro e w1 ⟨rfl, b1⟩
  go_wp2_with fail
  refine (mid_any b a hb ha _).mono ?_
  rintro e w2 ⟨rfl, b2⟩
  rw [hk.out, he.out, h1.out]
  go_wp2_with fail
  refine (to_any b hb _).mono ?_
  rintro e w' ⟨rfl, rfl⟩
  go_wp2_with fail
  refine (to_any a ha _).mono ?_
  rintro e w' ⟨rfl, rfl⟩
  go_wp2_with fail
  refine (abs_any _ xp _).mono ?_
  rintro e w' ⟨rfl, rfl⟩
  go_wp2_with fail
  refine (abs_any _ xq _).mono ?_
  rintro e w' ⟨rfl, rfl⟩
  go_wp2_with fail
  refine (awake_any _).mono ?_
  rintro e w' ⟨rfl, rfl⟩
  go_wp2
  go_ret
  exact ⟨rfl, b1.trans (b2.mono b1.size)⟩
set_option maxRecDepth 100000 in
set_option maxHeartbeats 400000 in
theorem midd_near2_1 (a b : Nat) (ha : a < 18446744073709551616) (hb : b < 18446744073709551616) (ga : good a) (gb : good b) (g1 : ¬ b < a) (g2 : a < b) (hn : ¬ low (toF a) < 118622047889322841) (hn2 : low (toF b) < 118622047889322841) (w : World) :
    Calls Try.prog 9 #[.int .u64 a, .int .u64 b] w fun e w' => e = .returned (.bool true) ∧ Below w.heap.size w w' := by
  have hk := Lib.hid (midK_comm b a)
  have he := Lib.hid (midE_comm b a)
  have h1 := Lib.hid (midE_good a b ha hb ga gb)
  have t1 : (((midK a b : Nat) : Int) != ((midK a b : Nat) : Int)) = false := by simp
  have xp := toF_lt a ha
  have t2 := near_false (toF a) (toF_nan a) hn
  have t3 := near_true (toF b) (toF_nan b) hn2
  have xq := toF_lt b hb
  clear ga gb hn hn2
  go_enter Try.func9, Try.ntmps9
  go_wp2_with fail
  refine (mid_any a b ha hb _).mono ?_
  rintro e w1 ⟨rfl, b1⟩
  go_wp2_with fail
  refine (mid_any b a hb ha _).mono ?_
  rintro e w2 ⟨rfl, b2⟩
  rw [hk.out, he.out, h1.out]
  go_wp2_with fail
  refine (to_any a ha _).mono ?_
  rintro e w' ⟨rfl, rfl⟩
  go_wp2_with fail
  refine (to_any b hb _).mono ?_
  rintro e w' ⟨rfl, rfl⟩
  go_wp2_with fail
  refine (abs_any _ xp _).mono ?_
  rintro e w' ⟨rfl, rfl⟩
  go_wp2_with fail
  refine (abs_any _ xq _).mono ?_
  rintro e w' ⟨rfl, rfl⟩
  go_wp2_with fail
  refine (awake_any _).mono ?_
  rintro e w' ⟨rfl, rfl⟩
  go_wp2
  go_ret
  exact ⟨rfl, b1.trans (b2.mono b1.size)⟩
set_option maxRecDepth 100000 in
set_option maxHeartbeats 400000 in
theorem midd_far_0 (a b : Nat) (ha : a < 18446744073709551616) (hb : b < 18446744073709551616) (ga : good a) (gb : good b) (g1 : b < a) (g2 : ¬ a < b) (hn : ¬ low (toF b) < 118622047889322841) (hn2 : ¬ low (toF a) < 118622047889322841) (hlo : b ≤ midK a b) (hhi : midK a b ≤ a) (w : World) :
    Calls Try.prog 9 #[.int .u64 a, .int .u64 b] w fun e w' => e = .returned (.bool true) ∧ Below w.heap.size w w' := by
  have hk := Lib.hid (midK_comm b a)
  have he := Lib.hid (midE_comm b a)
  have h1 := Lib.hid (midE_good a b ha hb ga gb)
  have t1 : (((midK a b : Nat) : Int) != ((midK a b : Nat) : Int)) = false := by simp
  have xp := toF_lt b hb
  have t2 := near_false (toF b) (toF_nan b) hn
  have t3 := near_false (toF a) (toF_nan a) hn2
  have xq := toF_lt a ha
  have t4 : decide (b ≤ midK a b) = true := decide_eq_true hlo
  have t5 : decide (midK a b ≤ a) = true := decide_eq_true hhi
  clear ga gb hn hn2 hlo hhi
  go_enter Try.func9, Try.ntmps9
  go_wp2_with fail
  refine (mid_any a b ha hb _).mono ?_
  rintro e w1 ⟨rfl, b1⟩
  go_wp2_with fail
  refine (mid_any b a hb ha _).mono ?_
  rintro e w2 ⟨rfl, b2⟩
  rw [hk.out, he.out, h1.out]
  go_wp2_with fail
  refine (to_any b hb _).mono ?_
  rintro e w' ⟨rfl, rfl⟩
  go_wp2_with fail
  refine (to_any a ha _).mono ?_
  rintro e w' ⟨rfl, rfl⟩
  go_wp2_with fail
  refine (abs_any _ xp _).mono ?_
  rintro e w' ⟨rfl, rfl⟩
  go_wp2_with fail
  refine (abs_any _ xq _).mono ?_
  rintro e w' ⟨rfl, rfl⟩
  go_wp2_with fail
  refine (awake_any _).mono ?_
  rintro e w' ⟨rfl, rfl⟩
  go_wp2
  go_ret
  exact ⟨rfl, b1.trans (b2.mono b1.size)⟩
set_option maxRecDepth 100000 in
set_option maxHeartbeats 400000 in
theorem midd_far_1 (a b : Nat) (ha : a < 18446744073709551616) (hb : b < 18446744073709551616) (ga : good a) (gb : good b) (g1 : ¬ b < a) (g2 : a < b) (hn : ¬ low (toF a) < 118622047889322841) (hn2 : ¬ low (toF b) < 118622047889322841) (hlo : a ≤ midK a b) (hhi : midK a b ≤ b) (w : World) :
    Calls Try.prog 9 #[.int .u64 a, .int .u64 b] w fun e w' => e = .returned (.bool true) ∧ Below w.heap.size w w' := by
  have hk := Lib.hid (midK_comm b a)
  have he := Lib.hid (midE_comm b a)
  have h1 := Lib.hid (midE_good a b ha hb ga gb)
  have t1 : (((midK a b : Nat) : Int) != ((midK a b : Nat) : Int)) = false := by simp
  have xp := toF_lt a ha
  have t2 := near_false (toF a) (toF_nan a) hn
  have t3 := near_false (toF b) (toF_nan b) hn2
  have xq := toF_lt b hb
  have t4 : decide (a ≤ midK a b) = true := decide_eq_true hlo
  have t5 : decide (midK a b ≤ b) = true := decide_eq_true hhi
  clear ga gb hn hn2 hlo hhi
  go_enter Try.func9, Try.ntmps9
  go_wp2_with fail
  refine (mid_any a b ha hb _).mono ?_
  rintro e w1 ⟨rfl, b1⟩
  go_wp2_with fail
  refine (mid_any b a hb ha _).mono ?_
  rintro e w2 ⟨rfl, b2⟩
  rw [hk.out, he.out, h1.out]
  go_wp2_with fail
  refine (to_any a ha _).mono ?_
  rintro e w' ⟨rfl, rfl⟩
  go_wp2_with fail
  refine (to_any b hb _).mono ?_
  rintro e w' ⟨rfl, rfl⟩
  go_wp2_with fail
  refine (abs_any _ xp _).mono ?_
  rintro e w' ⟨rfl, rfl⟩
  go_wp2_with fail
  refine (abs_any _ xq _).mono ?_
  rintro e w' ⟨rfl, rfl⟩
  go_wp2_with fail
  refine (awake_any _).mono ?_
  rintro e w' ⟨rfl, rfl⟩
  go_wp2
  go_ret
  exact ⟨rfl, b1.trans (b2.mono b1.size)⟩
set_option maxRecDepth 100000 in
set_option maxHeartbeats 400000 in
theorem midd_far_2 (a b : Nat) (ha : a < 18446744073709551616) (hb : b < 18446744073709551616) (ga : good a) (gb : good b) (g1 : ¬ b < a) (g2 : ¬ a < b) (hn : ¬ low (toF a) < 118622047889322841) (hn2 : ¬ low (toF a) < 118622047889322841) (hlo : a ≤ midK a b) (hhi : midK a b ≤ a) (w : World) :
    Calls Try.prog 9 #[.int .u64 a, .int .u64 b] w fun e w' => e = .returned (.bool true) ∧ Below w.heap.size w w' := by
  have hk := Lib.hid (midK_comm b a)
  have he := Lib.hid (midE_comm b a)
  have h1 := Lib.hid (midE_good a b ha hb ga gb)
  have xp := toF_lt a ha
  have t2 := near_false (toF a) (toF_nan a) hn
  have t3 := near_false (toF a) (toF_nan a) hn2
  have xq := toF_lt a ha
  have hme := Lib.hid (show midK a b = a by omega)
  have t4 : ((a : Int) != (a : Int)) = false := by simp
  clear ga gb hn hn2 hlo hhi
  go_enter Try.func9, Try.ntmps9
  go_wp2_with fail
  refine (mid_any a b ha hb _).mono ?_
  rintro e w1 ⟨rfl, b1⟩
  go_wp2_with fail
  refine (mid_any b a hb ha _).mono ?_
  rintro e w2 ⟨rfl, b2⟩
  rw [hk.out, he.out, h1.out, hme.out]
  go_wp2_with fail
  refine (to_any a ha _).mono ?_
  rintro e w' ⟨rfl, rfl⟩
  go_wp2_with fail
  refine (to_any a ha _).mono ?_
  rintro e w' ⟨rfl, rfl⟩
  go_wp2_with fail
  refine (abs_any _ xp _).mono ?_
  rintro e w' ⟨rfl, rfl⟩
  go_wp2_with fail
  refine (abs_any _ xq _).mono ?_
  rintro e w' ⟨rfl, rfl⟩
  go_wp2_with fail
  refine (awake_any _).mono ?_
  rintro e w' ⟨rfl, rfl⟩
  go_wp2
  go_ret
  exact ⟨rfl, b1.trans (b2.mono b1.size)⟩
theorem midd_any (a b : Nat) (ha : a < 18446744073709551616) (hb : b < 18446744073709551616) (w : World) :
    Calls Try.prog 9 #[.int .u64 a, .int .u64 b] w fun e w' => e = .returned (.bool true) ∧ Below w.heap.size w w' := by
  by_cases ga : good a
  · by_cases gb : good b
    · by_cases g1 : b < a
      · have g2 : ¬ a < b := by omega
        by_cases n1 : low (toF b) < 118622047889322841
        · exact midd_near1_0 a b ha hb ga gb g1 g2 n1 w
        · by_cases n2 : low (toF a) < 118622047889322841
          · exact midd_near2_0 a b ha hb ga gb g1 g2 n1 n2 w
          · have hm := mid_between b a hb ha gb ga (by omega) (by omega) (by omega)
            rw [midK_comm b a] at hm
            exact midd_far_0 a b ha hb ga gb g1 g2 n1 n2 hm.1 hm.2 w
      · by_cases g2 : a < b
        · by_cases n1 : low (toF a) < 118622047889322841
          · exact midd_near1_1 a b ha hb ga gb g1 g2 n1 w
          · by_cases n2 : low (toF b) < 118622047889322841
            · exact midd_near2_1 a b ha hb ga gb g1 g2 n1 n2 w
            · have hm := mid_between a b ha hb ga gb (by omega) (by omega) (by omega)
              exact midd_far_1 a b ha hb ga gb g1 g2 n1 n2 hm.1 hm.2 w
        · obtain rfl : a = b := by omega
          by_cases n1 : low (toF a) < 118622047889322841
          · exact midd_near1_2 a a ha hb ga gb g1 g2 n1 w
          · by_cases n2 : low (toF a) < 118622047889322841
            · exact absurd n2 n1
            · have hm := mid_between a a ha hb ga gb (by omega) (by omega) (by omega)
              exact midd_far_2 a a ha hb ga gb g1 g2 n1 n2 hm.1 hm.2 w
    · exact midd_bad2 a b ha hb ga gb w
  · exact midd_bad1 a b ha hb ga w
theorem midd_walk (a0 a1 : Int) (w0 : (Lit.int .u64 a0).wf = true) (w1 : (Lit.int .u64 a1).wf = true) (w : World) :
    Calls Try.prog 9 #[.int .u64 a0, .int .u64 a1] w fun e w' => e = .returned (.bool true) ∧ Below w.heap.size w w' := by
  obtain ⟨a, rfl, ha⟩ := u64_nat a0 w0
  obtain ⟨b, rfl, hb⟩ := u64_nat a1 w1
  exact midd_any a b ha hb w
end Go.Proofs.Ytdedbbbgpjhjhaa.Inst
