/- Rounding does not depend on how a magnitude is written: a factor of two may stand in the place. -/
import Derived.Test.YtdedbbbgpjhjhaaInstNea1
namespace Go.Proofs.Ytdedbbbgpjhjhaa.Inst
open Ieee

theorem log_scale (n a : Nat) (h : n ≠ 0) : (n * 2 ^ a).log2 = n.log2 + a := by
  induction a with
  | zero => rw [Nat.pow_zero, Nat.mul_one]; rfl
  | succ a ih =>
    have hp : n * 2 ^ a ≠ 0 := Nat.mul_ne_zero h (Nat.ne_of_gt (Nat.two_pow_pos a))
    rw [Nat.pow_succ, ← Nat.mul_assoc, Nat.mul_comm _ 2, Nat.log2_two_mul hp, ih]
    omega
theorem cut_scale (s : Bool) (n d a : Nat) (h : n ≠ 0) : Toward.even.cut s (n * 2 ^ a) (d + a) = Toward.even.cut s n d := by
  unfold Toward.cut
  have hg : 1 <<< min (d + a) ((n * 2 ^ a).log2 + 2) = (1 <<< min d (n.log2 + 2)) * 2 ^ a := by
    rw [log_scale n a h, show min (d + a) (n.log2 + a + 2) = min d (n.log2 + 2) + a by omega, Nat.one_shiftLeft, Nat.one_shiftLeft, Nat.pow_add]
  rw [hg]
  have hp := Nat.two_pow_pos a
  generalize 2 ^ a = P at *
  generalize 1 <<< min d (n.log2 + 2) = G
  simp only []
  rw [Nat.mul_div_mul_right _ _ hp, Nat.mul_mod_mul_right]
  have e1 : decide (G * P < 2 * (n % G * P)) = decide (G < 2 * (n % G)) := by
    rw [← Nat.mul_assoc]
    exact decide_eq_decide.2 (Nat.mul_lt_mul_right hp)
  have e2 : (G * P == 2 * (n % G * P)) = (G == 2 * (n % G)) := by
    rw [← Nat.mul_assoc]
    apply Bool.eq_iff_iff.2
    rw [beq_iff_eq, beq_iff_eq]
    exact Nat.mul_left_inj (Nat.ne_of_gt hp)
  rw [e1, e2]
theorem nearest_scale (s : Bool) (m a : Nat) (p : Int) : double.nearest s (m * 2 ^ a) p = double.nearest s m (p + a) := by
  have hp := Nat.two_pow_pos a
  by_cases h : m = 0
  · subst h
    unfold Format.nearest
    rw [Nat.zero_mul, if_pos rfl, if_pos rfl]
  · have h2 : m * 2 ^ a ≠ 0 := Nat.mul_ne_zero h (Nat.ne_of_gt hp)
    unfold Format.nearest
    rw [if_neg h, if_neg h2, log_scale m a h]
    simp only []
    have hl : max (p + ((m.log2 + a : Nat) : Int) - (double.fractionBits : Int)) double.leastPlace = max (p + (a : Int) + (m.log2 : Int) - (double.fractionBits : Int)) double.leastPlace := by
      congr 1
      omega
    rw [hl]
    generalize max (p + (a : Int) + (m.log2 : Int) - (double.fractionBits : Int)) double.leastPlace = last
    have hk : Toward.even.cut s ((m * 2 ^ a) <<< (p - last).toNat) (last - p).toNat = Toward.even.cut s (m <<< (p + a - last).toNat) (last - (p + a)).toNat := by
      rcases Int.lt_or_le p last with c | c
      · rcases Int.lt_or_le (p + a) last with d | d
        · have e1 : (p - last).toNat = 0 := by omega
          have e2 : (p + a - last).toNat = 0 := by omega
          have e3 : (last - p).toNat = (last - (p + a)).toNat + a := by omega
          rw [e1, e2, e3, Nat.shiftLeft_zero, Nat.shiftLeft_zero]
          exact cut_scale s m _ a h
        · have e1 : (p - last).toNat = 0 := by omega
          have e2 : (last - (p + a)).toNat = 0 := by omega
          have e3 : a = (p + a - last).toNat + (last - p).toNat := by omega
          rw [e1, e2, Nat.shiftLeft_zero, Nat.shiftLeft_eq]
          generalize (last - p).toNat = e at *
          generalize (p + a - last).toNat = f at *
          subst e3
          rw [Nat.pow_add, ← Nat.mul_assoc]
          have hz : m * 2 ^ f ≠ 0 := Nat.mul_ne_zero h (Nat.ne_of_gt (Nat.two_pow_pos f))
          have := cut_scale s (m * 2 ^ f) 0 e hz
          rw [Nat.zero_add] at this
          exact this
      · have e1 : (last - p).toNat = 0 := by omega
        have e2 : (last - (p + a)).toNat = 0 := by omega
        have e3 : (p + a - last).toNat = a + (p - last).toNat := by omega
        rw [e1, e2, e3, Nat.shiftLeft_eq, Nat.shiftLeft_eq, Nat.pow_add, Nat.mul_assoc]
    rw [hk]
end Go.Proofs.Ytdedbbbgpjhjhaa.Inst
