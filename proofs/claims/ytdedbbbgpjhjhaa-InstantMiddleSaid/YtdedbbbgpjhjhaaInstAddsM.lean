/- Sums of times: which way round does not matter, and a greater one makes no lesser sum. -/
import Derived.Test.YtdedbbbgpjhjhaaFltRound
import Derived.Test.YtdedbbbgpjhjhaaInstAddR
namespace Go.Proofs.Ytdedbbbgpjhjhaa.Inst
open Go.RowKit
open Go.Proofs.Ytdedbbbgpjhjhaa.Flt
open Ieee

theorem u64_nat (n : Int) (h : (Lit.int .u64 n).wf = true) : ∃ k : Nat, n = k ∧ k < 18446744073709551616 := by
  have hx : 0 ≤ n ∧ n ≤ 18446744073709551615 := by simpa [Lit.wf, IntKind.min, IntKind.max, IntKind.signed, IntKind.bits] using h
  exact ⟨n.toNat, by omega, by omega⟩
/-- The bits of a signed rung. -/
def key (v : Int) : Int := if v < 0 then 9223372036854775807 + v else 9223372036854775808 + v
theorem key_le {u v : Int} : key u ≤ key v ↔ u ≤ v := by
  unfold key
  split <;> split <;> omega
theorem ofK_key (b : Nat) (hb : b < 18446744073709551616) (h : ¬ nan b) : ((ofK b : Nat) : Int) = key (sval b) := by
  have hl : low b < 9223372036854775808 := Flt.low_lt b
  unfold key
  by_cases h1 : b < 9223372036854775808
  · have s : sval b = (low b : Int) := if_pos h1
    have hb2 : low b = b := by unfold low; omega
    rw [s, if_neg (by omega)]
    unfold ofK
    rw [if_neg h]
    by_cases h2 : low b = 0
    · rw [if_pos h2]; omega
    · rw [if_neg h2, if_pos h1]; omega
  · have s : sval b = -(low b : Int) := if_neg h1
    have hb2 : b = low b + 9223372036854775808 := by unfold low; omega
    rw [s]
    unfold ofK
    rw [if_neg h]
    by_cases h2 : low b = 0
    · rw [if_pos h2, if_neg (by omega)]; omega
    · rw [if_neg h2, if_neg h1, if_pos (by omega)]; omega
theorem good_key (k : Nat) (hk : k < 18446744073709551616) (h : good k) : (k : Int) = key (sval (toF k)) := by
  have e : ofK (toF k) = k := by rw [toF_good h]; exact h.2
  rw [← ofK_key (toF k) (toF_lt k hk) (toF_nan k), e]
theorem nan_le (b : Nat) : ¬ nan b ↔ low b ≤ inf := by unfold nan; omega

theorem op_add (x y : Nat) : floatBits .add .f64 x y = double.add x y := rfl
theorem add_comm (x y : Nat) : double.add x y = double.add y x := by
  unfold Format.add
  rw [sum_comm]
theorem opK_comm (x y : Nat) : opK .add x y = opK .add y x := by
  unfold opK
  rw [op_add, op_add, add_comm]
theorem opE_comm (x y : Nat) : opE .add x y = opE .add y x := by
  unfold opE
  rw [op_add, op_add, add_comm]
theorem addK_comm (a b : Nat) : addK a b = addK b a := by
  unfold addK
  by_cases h : good a ∧ good b
  · rw [if_pos h, if_pos h.symm, opK_comm]
  · rw [if_neg h, if_neg (fun k => h k.symm)]
theorem addE_comm (a b : Nat) : addE a b = addE b a := by
  unfold addE
  by_cases h : good a ∧ good b
  · rw [if_pos h, if_pos h.symm, opE_comm]
  · rw [if_neg h, if_neg (fun k => h k.symm)]

/-- The signed rung of a sum that is a number or infinite. -/
def T (x y : Nat) : Int := if low x = inf then sval x else if low y = inf then sval y else RS (SV x + SV y)
theorem opK_T (x y : Nat) (hx : x < 18446744073709551616) (hy : y < 18446744073709551616) (nx : low x ≤ inf) (ny : low y ≤ inf) (h : low x = inf → low y = inf → sval x = sval y) :
    opE .add x y = 0 ∧ (opK .add x y : Int) = key (T x y) := by
  have hz : ∃ z, double.add x y = some z ∧ z < 18446744073709551616 ∧ low z ≤ inf ∧ sval z = T x y := by
    unfold T
    by_cases i1 : low x = inf
    · rw [if_pos i1]
      by_cases i2 : low y = inf
      · have := add_infs x y hx hy i1 i2
        rw [if_pos (h i1 i2)] at this
        exact this
      · exact add_inf x y hx hy i1 (by omega)
    · rw [if_neg i1]
      by_cases i2 : low y = inf
      · rw [if_pos i2, add_comm]
        exact add_inf y x hy hx i2 (by omega)
      · rw [if_neg i2]
        exact add_fin x y hx hy (by omega) (by omega)
  obtain ⟨z, e, z1, z2, z3⟩ := hz
  have nz : ¬ nan z := (nan_le z).2 z2
  unfold opE opK
  rw [op_add, e]
  exact ⟨if_neg nz, by rw [← z3]; exact ofK_key z z1 nz⟩
theorem opE_clash (x y : Nat) (hx : x < 18446744073709551616) (hy : y < 18446744073709551616) (h : opE .add x y = 0) : low x = inf → low y = inf → sval x = sval y := by
  intro i1 i2
  have := add_infs x y hx hy i1 i2
  by_cases e : sval x = sval y
  · exact e
  · rw [if_neg e] at this
    unfold opE at h
    rw [op_add, this] at h
    cases h
theorem sval_bound (b : Nat) (h : low b ≤ inf) : -(inf : Int) ≤ sval b ∧ sval b ≤ inf := by
  rw [sval_sg]
  have := sg_le (decide (9223372036854775808 ≤ b)) (low b)
  omega
theorem RS_bound (S : Int) : -(inf : Int) ≤ RS S ∧ RS S ≤ inf := by
  have := R_inf S.natAbs
  unfold RS
  split <;> omega
theorem sval_low_inf (b : Nat) (h : low b = inf) : sval b = inf ∨ sval b = -(inf : Int) := by
  rw [sval_sg, h]
  cases decide (9223372036854775808 ≤ b) with
  | true => exact .inr rfl
  | false => exact .inl rfl
theorem low_of_sval (b : Nat) (h : sval b = inf ∨ sval b = -(inf : Int)) : low b = inf := by
  rw [sval_sg] at h
  revert h
  cases decide (9223372036854775808 ≤ b) with
  | true => rw [sg_true]; omega
  | false => rw [sg_false]; omega
theorem T_mono (x y z : Nat) (ny : low y ≤ inf) (nz : low z ≤ inf) (h : sval y ≤ sval z) : T x y ≤ T x z := by
  have by_ := sval_bound y ny
  have bz := sval_bound z nz
  unfold T
  by_cases i1 : low x = inf
  · rw [if_pos i1, if_pos i1]
    exact Int.le_refl _
  · rw [if_neg i1, if_neg i1]
    have r1 := RS_bound (SV x + SV y)
    have r2 := RS_bound (SV x + SV z)
    by_cases i2 : low y = inf
    · rw [if_pos i2]
      by_cases i3 : low z = inf
      · rw [if_pos i3]; exact h
      · rw [if_neg i3]
        rcases sval_low_inf y i2 with e | e
        · exact absurd (low_of_sval z (.inl (by omega))) i3
        · omega
    · rw [if_neg i2]
      by_cases i3 : low z = inf
      · rw [if_pos i3]
        rcases sval_low_inf z i3 with e | e
        · omega
        · exact absurd (low_of_sval y (.inr (by omega))) i2
      · rw [if_neg i3]
        refine RS_mono ?_
        have := (SV_le y z).2 h
        omega
theorem addE_good {a b : Nat} (h : addE a b = 0) : good a ∧ good b ∧ opE .add (toF a) (toF b) = 0 := by
  unfold addE at h
  by_cases g : good a ∧ good b
  · rw [if_pos g] at h
    exact ⟨g.1, g.2, h⟩
  · rw [if_neg g] at h
    cases h
theorem adds_mono (a b c : Nat) (ha : a < 18446744073709551616) (hb : b < 18446744073709551616) (hc : c < 18446744073709551616) (h1 : addE a b = 0) (h2 : addE a c = 0) (h : b ≤ c) : addK a b ≤ addK a c := by
  obtain ⟨ga, gb, e1⟩ := addE_good h1
  obtain ⟨_, gc, e2⟩ := addE_good h2
  have k1 : addK a b = opK .add (toF a) (toF b) := if_pos ⟨ga, gb⟩
  have k2 : addK a c = opK .add (toF a) (toF c) := if_pos ⟨ga, gc⟩
  have xa := toF_lt a ha
  have xb := toF_lt b hb
  have xc := toF_lt c hc
  have na := (nan_le _).1 (toF_nan a)
  have nb := (nan_le _).1 (toF_nan b)
  have nc := (nan_le _).1 (toF_nan c)
  have t1 := (opK_T _ _ xa xb na nb (opE_clash _ _ xa xb e1)).2
  have t2 := (opK_T _ _ xa xc na nc (opE_clash _ _ xa xc e2)).2
  have hs : sval (toF b) ≤ sval (toF c) := by
    have g1 := good_key b hb gb
    have g2 := good_key c hc gc
    refine key_le.1 ?_
    omega
  have := key_le.2 (T_mono (toF a) (toF b) (toF c) nb nc hs)
  omega
theorem addE_cases (a b : Nat) : addE a b = 0 ∨ addE a b = 202 := by
  unfold addE opE
  split
  · split
    · exact ofE_cases _
    · exact .inr rfl
  · exact .inr rfl
end Go.Proofs.Ytdedbbbgpjhjhaa.Inst
