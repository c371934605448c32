/- Mid, in the program and in the document: contracts. -/
import Derived.Test.YtdedbbbgpjhjhaaInstSince
import Derived.Test.YtdedbbbgpjhjhaaInstHalf
namespace Go.Proofs.Ytdedbbbgpjhjhaa.Inst
open Go.RowKit
open Go.Proofs.Ytdedbbbgpjhjhaa.Flt
open Ieee

open Go.Op (negFloat)

theorem xor_top (b : Nat) (hb : b < 18446744073709551616) : (b ^^^ 9223372036854775808) % 9223372036854775808 = b % 9223372036854775808 ∧ (b ^^^ 9223372036854775808) / 9223372036854775808 = 1 - b / 9223372036854775808 := by
  have h1 := @Nat.xor_mod_two_pow b 9223372036854775808 63
  have h2 := @Nat.xor_div_two_pow b 9223372036854775808 63
  rw [show (2 : Nat) ^ 63 = 9223372036854775808 from by decide] at h1 h2
  rw [Nat.mod_self, Nat.xor_zero] at h1
  rw [show 9223372036854775808 / 9223372036854775808 = 1 from by decide] at h2
  refine ⟨h1, ?_⟩
  rw [h2]
  rcases (show b / 9223372036854775808 = 0 ∨ b / 9223372036854775808 = 1 by omega) with h | h
  · rw [h]; decide
  · rw [h]; decide
theorem neg_word (b : Nat) : negFloat .f64 b = b ^^^ 9223372036854775808 := rfl
theorem neg_lt (b : Nat) (hb : b < 18446744073709551616) : negFloat .f64 b < 18446744073709551616 := by
  rw [neg_word]
  have h := (xor_top b hb).2
  generalize b ^^^ 9223372036854775808 = c at h ⊢
  omega
theorem neg_low (b : Nat) (hb : b < 18446744073709551616) : low (negFloat .f64 b) = low b := by
  rw [neg_word]
  exact (xor_top b hb).1
theorem neg_sval (b : Nat) (hb : b < 18446744073709551616) : sval (negFloat .f64 b) = -sval b := by
  have h := (xor_top b hb).2
  have h1 := neg_low b hb
  have h2 : (negFloat .f64 b < 9223372036854775808) ↔ ¬ (b < 9223372036854775808) := by
    rw [neg_word]
    clear h1
    generalize b ^^^ 9223372036854775808 = c at h ⊢
    omega
  unfold sval
  rw [h1]
  by_cases hh : b < 9223372036854775808
  · rw [if_neg (fun k => (h2.1 k) hh), if_pos hh]
  · rw [if_pos (h2.2 hh), if_neg hh]
    omega
theorem neg_nan (b : Nat) (hb : b < 18446744073709551616) (h : ¬ nan b) : ¬ nan (negFloat .f64 b) := by
  unfold nan at *
  rw [neg_low b hb]
  exact h

theorem abs_any (b : Nat) (hb : b < 18446744073709551616) (w : World) :
    Calls Try.prog 43 #[.float .f64 b] w fun e w' => e = .returned (.float .f64 (low b)) ∧ w = w' := by
  have k1 := run_bits b
  have k2 := run_frombits
  have HE := Lib.hid (andNot_high b hb)
  go_enter Try.func43, Try.ntmps43
  iterate 40 (try go_step)
  go_ret
  refine ⟨?_, rfl⟩
  rw [HE.out]
  rfl
def infB (b : Nat) : Bool := FloatKind.f64.format.order (low b) 9218868437227405311 == some Ordering.gt
theorem isinf_any (b : Nat) (hb : b < 18446744073709551616) (w : World) :
    Calls Try.prog 65 #[.float .f64 b, .int .i64 0] w fun e w' => e = .returned (.bool (infB b)) ∧ w = w' := by
  go_enter Try.func65, Try.ntmps65
  go_wp2_with fail
  refine (abs_any b hb _).mono ?_
  rintro e w' ⟨rfl, rfl⟩
  go_wp2
  go_ret
  exact ⟨rfl, rfl⟩
theorem nan_max : ¬ nan 9218868437227405311 := by decide
theorem nan_min : ¬ nan 18442240474082181119 := by decide
theorem sval_max : sval 9218868437227405311 = 9218868437227405311 := by decide
theorem sval_min : sval 18442240474082181119 = -9218868437227405311 := by decide
theorem low_low (b : Nat) : low (low b) = low b := by unfold low; omega
theorem sval_lowlow (b : Nat) : sval (low b) = low b := by
  unfold sval
  rw [if_pos (Flt.low_lt b), low_low]
theorem nan_low2 (b : Nat) (h : ¬ nan b) : ¬ nan (low b) := by
  unfold nan at *
  rw [low_low]
  exact h
theorem infB_true (b : Nat) (h : ¬ nan b) (hi : low b = inf) : infB b = true := by
  have hl := Flt.low_lt b
  refine gt_true (by omega) (by decide) (nan_low2 b h) nan_max ?_
  rw [sval_lowlow, sval_max, hi]
  decide
theorem infB_false (b : Nat) (h : ¬ nan b) (hi : low b ≠ inf) : infB b = false := by
  have hl := Flt.low_lt b
  refine gt_false (by omega) (by decide) (nan_low2 b h) nan_max ?_
  rw [sval_lowlow, sval_max]
  unfold nan at h
  have : inf = 9218868437227405312 := rfl
  omega
/-- Both ends at once. -/
def clash (x y : Nat) : Prop := low x = inf ∧ sval x = -sval y
instance (x y : Nat) : Decidable (clash x y) := by unfold clash; infer_instance
theorem half_lt (x : Nat) (hx : x < 18446744073709551616) (hn : ¬ nan x) : half x < 18446744073709551616 := by
  have := floatBits_wf (half_mul x hx hn)
  simpa [Lit.wf] using this

theorem run_neg (y : Nat) (w : World) : (Op.unary .neg (.float .f64 y)).run Try.prog w = .ok (.float .f64 (negFloat .f64 y)) w := rfl
theorem mid_clash (x y : Nat) (hx : x < 18446744073709551616) (hy : y < 18446744073709551616) (nx : ¬ nan x) (ny : ¬ nan y) (h : clash x y) (w : World) :
    Calls Try.prog 64 #[.float .f64 x, .float .f64 y] w fun e w' => e = .returned (.float .f64 0) ∧ w = w' := by
  have h1 := infB_true x nx h.1
  have hng := run_neg y
  have h2 := eq_true hx (neg_lt y hy) nx (neg_nan y hy ny) (by rw [neg_sval y hy]; exact h.2)
  clear h
  go_enter Try.func64, Try.ntmps64
  go_wp2_with fail
  refine (isinf_any x hx _).mono ?_
  rintro e w' ⟨rfl, rfl⟩
  rw [h1]
  go_wp2
  go_ret
  exact ⟨rfl, rfl⟩
theorem mid_sum (x y : Nat) (hx : x < 18446744073709551616) (hy : y < 18446744073709551616) (nx : ¬ nan x) (ny : ¬ nan y) (h : ¬ clash x y) (w : World) :
    Calls Try.prog 64 #[.float .f64 x, .float .f64 y] w fun e w' => ∃ r, e = .returned (.float .f64 r) ∧ (r < 18446744073709551616 ∧ ofK r = opK .add (half x) (half y) ∧ ofE r = opE .add (half x) (half y)) ∧ Below w.heap.size w w' := by
  obtain ⟨r, w', hr, hg, hb⟩ := run_op .add (.inl rfl) 67 (half x) (half y) w
  have HG := Lib.hid (And.intro hg.1 (And.intro hg.key hg.err))
  have k1 := run_float_arith (P := Try.prog) w .quo 67 .f64 x 4611686018427387904 (half x) (half_quo x hx nx)
  have k2 := run_float_arith (P := Try.prog) w .quo 67 .f64 y 4611686018427387904 (half y) (half_quo y hy ny)
  clear hg
  by_cases hi : low x = inf
  · have h1 := infB_true x nx hi
    have hng := run_neg y
    have h2 := eq_false hx (neg_lt y hy) nx (neg_nan y hy ny) (by rw [neg_sval y hy]; exact fun k => h ⟨hi, k⟩)
    clear h
    go_enter Try.func64, Try.ntmps64
    go_wp2_with fail
    refine (isinf_any x hx _).mono ?_
    rintro e w' ⟨rfl, rfl⟩
    rw [h1]
    go_wp2
    go_ret
    exact ⟨r, rfl, HG.out, hb⟩
  · have h1 := infB_false x nx hi
    clear h
    go_enter Try.func64, Try.ntmps64
    go_wp2_with fail
    refine (isinf_any x hx _).mono ?_
    rintro e w' ⟨rfl, rfl⟩
    rw [h1]
    go_wp2
    go_ret
    exact ⟨r, rfl, HG.out, hb⟩
theorem enter_mid (args : Array Value) (W : World) : (callFunc 64 args).run Try.prog W = .ok (.enter 64 args) W := by kernel_rfl
def midK (a b : Nat) : Nat := if good a ∧ good b then (if clash (toF a) (toF b) then 9223372036854775808 else opK .add (half (toF a)) (half (toF b))) else 0
def midE (a b : Nat) : Int := if good a ∧ good b then (if clash (toF a) (toF b) then 0 else opE .add (half (toF a)) (half (toF b))) else 202
theorem mid_any (a b : Nat) (ha : a < 18446744073709551616) (hb : b < 18446744073709551616) (w : World) :
    Calls Try.prog 36 #[.int .u64 a, .int .u64 b] w fun e w' => e = .returned (.tuple #[.int .u64 (midK a b : Nat), .int .i64 (midE a b)]) ∧ Below w.heap.size w w' := by
  have HO := Lib.hid (fun W => of_made a b (midK a b) (midE a b) 64 ha hb enter_mid
    (fun ga gb W => by
      have g : good a ∧ good b := And.intro ga gb
      have xa := toF_lt a ha
      have xb := toF_lt b hb
      by_cases h : clash (toF a) (toF b)
      · have e1 : midK a b = 9223372036854775808 := by unfold midK; rw [if_pos g, if_pos h]
        have e2 : midE a b = 0 := by unfold midE; rw [if_pos g, if_pos h]
        rw [e1, e2]
        exact (mid_clash (toF a) (toF b) xa xb (toF_nan a) (toF_nan b) h W).mono fun e w' k => ⟨0, k.1, ⟨by decide, by decide +kernel, by decide +kernel⟩, k.2 ▸ Below.refl _ _⟩
      · have e1 : midK a b = opK .add (half (toF a)) (half (toF b)) := by unfold midK; rw [if_pos g, if_neg h]
        have e2 : midE a b = opE .add (half (toF a)) (half (toF b)) := by unfold midE; rw [if_pos g, if_neg h]
        rw [e1, e2]
        exact mid_sum (toF a) (toF b) xa xb (toF_nan a) (toF_nan b) h W)
    (fun h => ⟨if_neg h, if_neg h⟩) W)
  go_enter Try.func36, Try.ntmps36
  go_wp2_with fail
  refine (HO.out _).mono ?_
  rintro e w' ⟨rfl, hb1⟩
  go_wp2
  go_ret2
  exact ⟨rfl, hb1⟩
def infR (x : Nat) : Bool := (FloatKind.f64.format.order x 9218868437227405311 == some Ordering.gt) || (FloatKind.f64.format.order x 18442240474082181119 == some Ordering.lt)
theorem rinf_any (x : Nat) (w : World) :
    Calls Try.prog 66 #[.float .f64 x] w fun e w' => e = .returned (.bool (infR x)) ∧ w = w' := by
  by_cases h1 : (FloatKind.f64.format.order x 9218868437227405311 == some Ordering.gt) = true
  · have e1 : infR x = true := by unfold infR; rw [h1]; rfl
    rw [e1]
    go_enter Try.func66, Try.ntmps66
    go_wp2
    go_ret
    exact ⟨rfl, rfl⟩
  · have h1 : (FloatKind.f64.format.order x 9218868437227405311 == some Ordering.gt) = false := by revert h1; cases (FloatKind.f64.format.order x 9218868437227405311 == some Ordering.gt) <;> simp
    have e1 : infR x = (FloatKind.f64.format.order x 18442240474082181119 == some Ordering.lt) := by unfold infR; rw [h1]; rfl
    rw [e1]
    clear e1
    go_enter Try.func66, Try.ntmps66
    go_wp2
    go_ret
    exact ⟨rfl, rfl⟩
theorem infR_eq (x : Nat) (hx : x < 18446744073709551616) (h : ¬ nan x) : infR x = decide (low x = inf) := by
  have hi : inf = 9218868437227405312 := rfl
  have hl := Flt.low_lt x
  have hn : low x ≤ inf := by unfold nan at h; omega
  unfold infR
  by_cases e : low x = inf
  · rw [decide_eq_true e]
    by_cases hp : x < 9223372036854775808
    · have hs : sval x = (low x : Int) := if_pos hp
      rw [gt_true hx (by decide) h nan_max (by rw [sval_max]; omega)]
      rfl
    · have hs : sval x = -(low x : Int) := if_neg hp
      rw [lt_true hx (by decide) h nan_min (by rw [sval_min]; omega), Bool.or_true]
  · rw [decide_eq_false e]
    have hs : -9218868437227405311 ≤ sval x ∧ sval x ≤ 9218868437227405311 := by
      by_cases hp : x < 9223372036854775808
      · have hs : sval x = (low x : Int) := if_pos hp
        omega
      · have hs : sval x = -(low x : Int) := if_neg hp
        omega
    rw [gt_false hx (by decide) h nan_max (by rw [sval_max]; omega), lt_false hx (by decide) h nan_min (by rw [sval_min]; omega)]
    rfl
theorem clash_iff (x y : Nat) : clash x y ↔ (low x = inf ∧ low y = inf ∧ sval x ≠ sval y) := by
  have hi : inf = 9218868437227405312 := rfl
  have h1 : sval x = (low x : Int) ∨ sval x = -(low x : Int) := by unfold sval; split <;> simp
  have h2 : sval y = (low y : Int) ∨ sval y = -(low y : Int) := by unfold sval; split <;> simp
  unfold clash
  omega
theorem rmid_any (a b : Nat) (ha : a < 18446744073709551616) (hb : b < 18446744073709551616) (w : World) :
    Calls Try.prog 37 #[.int .u64 a, .int .u64 b] w fun e w' => e = .returned (.tuple #[.int .u64 (midK a b : Nat), .int .i64 (midE a b)]) ∧ Below w.heap.size w w' := by
  by_cases g : good a ∧ good b
  · have xa := toF_lt a ha
    have xb := toF_lt b hb
    have na := toF_nan a
    have nb := toF_nan b
    have i1 := Lib.hid (infR_eq _ xa na)
    have i2 := Lib.hid (infR_eq _ xb nb)
    have hc := clash_iff (toF a) (toF b)
    by_cases h : clash (toF a) (toF b)
    · have e1 : midK a b = 9223372036854775808 := by unfold midK; rw [if_pos g, if_pos h]
      have e2 : midE a b = 0 := by unfold midE; rw [if_pos g, if_pos h]
      rw [e1, e2]
      obtain ⟨c1, c2, c3⟩ := hc.1 h
      have t3 := ne_true xa xb na nb c3
      rw [decide_eq_true c1] at i1
      rw [decide_eq_true c2] at i2
      clear h hc c1 c2 c3 e1 e2
      go_enter Try.func37, Try.ntmps37
      go_wp2_with fail
      refine (two_good a b ha hb g.1 g.2 _).mono ?_
      rintro e w' ⟨rfl, rfl⟩
      go_wp2_with fail
      refine (rinf_any _ _).mono ?_
      rintro e w' ⟨rfl, rfl⟩
      rw [i1.out]
      go_wp2_with fail
      refine (rinf_any _ _).mono ?_
      rintro e w' ⟨rfl, rfl⟩
      rw [i2.out]
      go_wp2
      go_ret2
      exact ⟨rfl, Below.refl _ _⟩
    · have e1 : midK a b = opK .add (half (toF a)) (half (toF b)) := by unfold midK; rw [if_pos g, if_neg h]
      have e2 : midE a b = opE .add (half (toF a)) (half (toF b)) := by unfold midE; rw [if_pos g, if_neg h]
      rw [e1, e2]
      obtain ⟨r, w1, hr, hg, hb1⟩ := run_op .add (.inl rfl) 67 (half (toF a)) (half (toF b)) w
      have HG := Lib.hid hg
      have k1 := run_float_arith (P := Try.prog) w .mul 67 .f64 (toF a) 4602678819172646912 (half (toF a)) (half_mul _ xa na)
      have k2 := run_float_arith (P := Try.prog) w .mul 67 .f64 (toF b) 4602678819172646912 (half (toF b)) (half_mul _ xb nb)
      clear hg e1 e2
      by_cases c1 : low (toF a) = inf
      · rw [decide_eq_true c1] at i1
        by_cases c2 : low (toF b) = inf
        · rw [decide_eq_true c2] at i2
          have c3 : sval (toF a) = sval (toF b) := by
            by_cases c3 : sval (toF a) = sval (toF b)
            · exact c3
            · exact absurd (hc.2 ⟨c1, c2, c3⟩) h
          have t3 := ne_false xa xb na nb c3
          clear h hc c1 c2 c3
          go_enter Try.func37, Try.ntmps37
          go_wp2_with fail
          refine (two_good a b ha hb g.1 g.2 _).mono ?_
          rintro e w' ⟨rfl, rfl⟩
          go_wp2_with fail
          refine (rinf_any _ _).mono ?_
          rintro e w' ⟨rfl, rfl⟩
          rw [i1.out]
          go_wp2_with fail
          refine (rinf_any _ _).mono ?_
          rintro e w' ⟨rfl, rfl⟩
          rw [i2.out]
          go_wp2_with fail
          refine (rof_any r HG.out.1 _).mono ?_
          rintro e w' ⟨rfl, rfl⟩
          rw [HG.out.key, HG.out.err]
          go_wp2
          go_ret2
          exact ⟨rfl, hb1⟩
        · rw [decide_eq_false c2] at i2
          clear h hc c1 c2
          go_enter Try.func37, Try.ntmps37
          go_wp2_with fail
          refine (two_good a b ha hb g.1 g.2 _).mono ?_
          rintro e w' ⟨rfl, rfl⟩
          go_wp2_with fail
          refine (rinf_any _ _).mono ?_
          rintro e w' ⟨rfl, rfl⟩
          rw [i1.out]
          go_wp2_with fail
          refine (rinf_any _ _).mono ?_
          rintro e w' ⟨rfl, rfl⟩
          rw [i2.out]
          go_wp2_with fail
          refine (rof_any r HG.out.1 _).mono ?_
          rintro e w' ⟨rfl, rfl⟩
          rw [HG.out.key, HG.out.err]
          go_wp2
          go_ret2
          exact ⟨rfl, hb1⟩
      · rw [decide_eq_false c1] at i1
        clear h hc c1
        go_enter Try.func37, Try.ntmps37
        go_wp2_with fail
        refine (two_good a b ha hb g.1 g.2 _).mono ?_
        rintro e w' ⟨rfl, rfl⟩
        go_wp2_with fail
        refine (rinf_any _ _).mono ?_
        rintro e w' ⟨rfl, rfl⟩
        rw [i1.out]
        go_wp2_with fail
        refine (rof_any r HG.out.1 _).mono ?_
        rintro e w' ⟨rfl, rfl⟩
        rw [HG.out.key, HG.out.err]
        go_wp2
        go_ret2
        exact ⟨rfl, hb1⟩
  · have e1 : midK a b = 0 := if_neg g
    have e2 : midE a b = 202 := if_neg g
    rw [e1, e2]
    clear e1 e2
    go_enter Try.func37, Try.ntmps37
    go_wp2_with fail
    refine (two_bad a b ha hb g _).mono ?_
    rintro e w' ⟨rfl, rfl⟩
    go_wp2
    go_ret2
    exact ⟨rfl, Below.refl _ _⟩
end Go.Proofs.Ytdedbbbgpjhjhaa.Inst
