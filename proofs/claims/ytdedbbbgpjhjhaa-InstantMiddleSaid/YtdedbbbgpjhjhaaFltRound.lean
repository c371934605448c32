/- Rounding on whole numbers of the least unit: the rung below, the rung taken; it is monotone, and exact on rungs. Plain. -/
import Derived.Test.YtdedbbbgpjhjhaaFltOrder
import Derived.Test.YtdedbbbgpjhjhaaInstScale
namespace Go.Proofs.Ytdedbbbgpjhjhaa.Flt
open Ieee

def dr (M : Nat) : Nat := M.log2 - 52
def lo (M : Nat) : Nat := M / 2 ^ dr M
def up (M : Nat) : Bool := decide (2 ^ dr M < 2 * (M % 2 ^ dr M)) || (2 ^ dr M == 2 * (M % 2 ^ dr M) && lo M % 2 == 1)
def rb (M : Nat) : Nat := dr M * 4503599627370496 + lo M
def R (M : Nat) : Nat := min (rb M + (up M).toNat) inf

theorem R_zero : R 0 = 0 := by decide
theorem nearest_R (s : Bool) (M : Nat) : double.nearest s M (-1074) = double.word s (R M) := by
  by_cases h : M = 0
  · subst h
    rw [R_zero]
    unfold Format.nearest
    rw [if_pos rfl]
  · unfold Format.nearest
    rw [if_neg h]
    simp only []
    have hf : (double.fractionBits : Int) = 52 := rfl
    have hl : max ((-1074 : Int) + (M.log2 : Int) - (double.fractionBits : Int)) double.leastPlace = -1074 + (dr M : Int) := by
      rw [hf, d_lp]
      unfold dr
      omega
    rw [hl, d_lp, d_bin, d_inf]
    have e1 : (-1074 - (-1074 + (dr M : Int))).toNat = 0 := by omega
    have e2 : (-1074 + (dr M : Int) - -1074).toNat = dr M := by omega
    rw [e1, e2, Nat.shiftLeft_zero]
    have hc : Toward.even.cut s M (dr M) = lo M + (up M).toNat := by
      unfold Toward.cut
      have hg : 1 <<< min (dr M) (M.log2 + 2) = 2 ^ dr M := by
        rw [show min (dr M) (M.log2 + 2) = dr M by unfold dr; omega, Nat.one_shiftLeft]
      rw [hg]
      rfl
    rw [hc]
    unfold R rb
    rw [Nat.add_assoc]
theorem gap_pos (M : Nat) : 0 < 2 ^ dr M := Nat.two_pow_pos _
theorem lo_small (M : Nat) (h : M.log2 < 52) : dr M = 0 ∧ lo M = M ∧ M < 4503599627370496 := by
  have h0 : dr M = 0 := by unfold dr; omega
  refine ⟨h0, by unfold lo; rw [h0]; simp, ?_⟩
  by_cases hz : M = 0
  · omega
  · exact (Nat.log2_lt (k := 52) hz).1 h
theorem lo_range (M : Nat) (h : ¬ M.log2 < 52) : 4503599627370496 ≤ lo M ∧ lo M < 9007199254740992 := by
  have hz : M ≠ 0 := by
    rintro rfl
    exact h (by decide)
  have e : M.log2 = dr M + 52 := by unfold dr; omega
  have h1 : 2 ^ M.log2 ≤ M := Nat.log2_self_le hz
  have h2 : M < 2 ^ (M.log2 + 1) := Nat.lt_log2_self
  rw [e] at h1 h2
  rw [show dr M + 52 + 1 = 53 + dr M by omega, Nat.pow_add] at h2
  rw [show dr M + 52 = 52 + dr M by omega, Nat.pow_add] at h1
  unfold lo
  exact ⟨(Nat.le_div_iff_mul_le (gap_pos M)).2 h1, (Nat.div_lt_iff_lt_mul (gap_pos M)).2 h2⟩
theorem V_rb (M : Nat) : V (rb M) = lo M * 2 ^ dr M := by
  by_cases h : M.log2 < 52
  · obtain ⟨h0, h1, h2⟩ := lo_small M h
    unfold rb V
    rw [h0, h1, Nat.zero_mul, Nat.zero_add, if_pos h2]
    simp
  · obtain ⟨h1, h2⟩ := lo_range M h
    unfold rb V
    generalize lo M = l at *
    generalize dr M = d at *
    rw [if_neg (by omega), show (d * 4503599627370496 + l) / 4503599627370496 - 1 = d by omega, show 4503599627370496 + (d * 4503599627370496 + l) % 4503599627370496 = l by omega]
theorem V_rb_succ (M : Nat) : V (rb M + 1) = (lo M + 1) * 2 ^ dr M := by
  by_cases h : M.log2 < 52
  · obtain ⟨h0, h1, h2⟩ := lo_small M h
    unfold rb V
    rw [h0, h1, Nat.zero_mul, Nat.zero_add]
    by_cases h3 : M + 1 < 4503599627370496
    · rw [if_pos h3]; simp
    · have e : M + 1 = 4503599627370496 := by omega
      rw [e]; decide
  · obtain ⟨h1, h2⟩ := lo_range M h
    unfold rb V
    generalize lo M = l at *
    generalize dr M = d at *
    rw [if_neg (by omega)]
    by_cases h3 : l + 1 < 9007199254740992
    · rw [show (d * 4503599627370496 + l + 1) / 4503599627370496 - 1 = d by omega, show 4503599627370496 + (d * 4503599627370496 + l + 1) % 4503599627370496 = l + 1 by omega]
    · have e : l + 1 = 2 * 4503599627370496 := by omega
      rw [show (d * 4503599627370496 + l + 1) / 4503599627370496 - 1 = d + 1 by omega, show 4503599627370496 + (d * 4503599627370496 + l + 1) % 4503599627370496 = 4503599627370496 by omega, e, Nat.pow_succ]
      generalize 2 ^ d = p
      omega
theorem V_le_self (M : Nat) : V (rb M) ≤ M := by
  rw [V_rb]
  exact Nat.div_mul_le_self _ _
theorem self_lt_V (M : Nat) : M < V (rb M + 1) := by
  rw [V_rb_succ, Nat.add_mul, Nat.one_mul]
  have h1 := Nat.div_add_mod M (2 ^ dr M)
  have h2 := Nat.mod_lt M (gap_pos M)
  have h3 : lo M * 2 ^ dr M = 2 ^ dr M * (M / 2 ^ dr M) := by unfold lo; rw [Nat.mul_comm]
  omega
theorem V_le_iff {a b : Nat} : V a ≤ V b ↔ a ≤ b := by
  constructor
  · intro h
    rcases Nat.lt_or_ge b a with h1 | h1
    · have := V_lt h1; omega
    · exact h1
  · intro h
    rcases Nat.eq_or_lt_of_le h with h1 | h1
    · rw [h1]; exact Nat.le_refl _
    · exact Nat.le_of_lt (V_lt h1)
theorem up_rest (M : Nat) (h : up M = true) : V (rb M) < M := by
  have h3 : V (rb M) = 2 ^ dr M * (M / 2 ^ dr M) := by rw [V_rb]; unfold lo; rw [Nat.mul_comm]
  have h1 := Nat.div_add_mod M (2 ^ dr M)
  have hp := gap_pos M
  have hr : M % 2 ^ dr M ≠ 0 := by
    intro h0
    unfold up at h
    rw [h0] at h
    simp at h
  omega
theorem R_le {M r : Nat} (h : M ≤ V r) : R M ≤ r := by
  have h0 : rb M + (up M).toNat ≤ r := by
    cases hu : up M with
    | true =>
      have h1 := up_rest M hu
      have h2 : V (rb M) < V r := by omega
      have h3 : rb M < r := by
        rcases Nat.lt_or_ge (rb M) r with h4 | h4
        · exact h4
        · have := V_le_iff.2 h4; omega
      have h5 : true.toNat = 1 := rfl
      omega
    | false =>
      have h5 : false.toNat = 0 := rfl
      have := V_le_iff.1 (Nat.le_trans (V_le_self M) h)
      omega
  exact Nat.le_trans (Nat.min_le_left _ _) h0
theorem le_R {M r : Nat} (hr : r ≤ inf) (h : V r ≤ M) : r ≤ R M := by
  have h1 := self_lt_V M
  have h2 : V r < V (rb M + 1) := by omega
  have h3 : r < rb M + 1 := by
    rcases Nat.lt_or_ge r (rb M + 1) with h4 | h4
    · exact h4
    · have := V_le_iff.2 h4; omega
  unfold R
  omega
theorem R_V {r : Nat} (hr : r ≤ inf) : R (V r) = r := Nat.le_antisymm (R_le (Nat.le_refl _)) (le_R hr (Nat.le_refl _))
theorem log_mono {M N : Nat} (h : M ≤ N) : M.log2 ≤ N.log2 := by
  by_cases hm : M = 0
  · subst hm
    rw [show Nat.log2 0 = 0 by decide]
    exact Nat.zero_le _
  · have hn : N ≠ 0 := by omega
    exact (Nat.le_log2 hn).2 (Nat.le_trans (Nat.log2_self_le hm) h)
theorem R_mono {M N : Nat} (h : M ≤ N) : R M ≤ R N := by
  have key : rb M + (up M).toNat ≤ rb N + (up N).toNat := by
    have hu : (up M).toNat ≤ 1 := by cases up M <;> decide
    have hd : dr M ≤ dr N := by have := log_mono h; unfold dr; omega
    rcases Nat.eq_or_lt_of_le hd with e | hlt
    · have hl : lo M ≤ lo N := by unfold lo; rw [e]; exact Nat.div_le_div_right h
      rcases Nat.eq_or_lt_of_le hl with e2 | hlt2
      · have hu2 : up M = true → up N = true := by
          have h1 := Nat.div_add_mod M (2 ^ dr M)
          have h2 := Nat.div_add_mod N (2 ^ dr N)
          have e3 : M / 2 ^ dr M = N / 2 ^ dr N := e2
          unfold up
          rw [e2]
          rw [e] at h1 e3 ⊢
          rw [e3] at h1
          generalize 2 ^ dr N = g at *
          generalize g * (N / g) = q at *
          have hr : M % g ≤ N % g := by omega
          generalize M % g = r1 at *
          generalize N % g = r2 at *
          intro hh
          simp only [Bool.or_eq_true, decide_eq_true_eq, Bool.and_eq_true, beq_iff_eq] at hh ⊢
          omega
        have hu3 : (up M).toNat ≤ (up N).toNat := by
          cases hm : up M with
          | false => exact Nat.zero_le _
          | true => rw [hu2 hm]; exact Nat.le_refl _
        unfold rb
        rw [e, e2]
        omega
      · unfold rb
        rw [e]
        omega
    · have hn : ¬ N.log2 < 52 := by unfold dr at hlt; omega
      have hl := lo_range N hn
      have hm : lo M < 9007199254740992 := by
        by_cases h5 : M.log2 < 52
        · obtain ⟨_, h6, h7⟩ := lo_small M h5
          omega
        · exact (lo_range M h5).2
      unfold rb
      omega
  unfold R
  omega

/-- A signed whole number's rung, with its sign. -/
def RS (S : Int) : Int := if S < 0 then -(R S.natAbs : Int) else (R S.natAbs : Int)
theorem RS_mono {S T : Int} (h : S ≤ T) : RS S ≤ RS T := by
  unfold RS
  by_cases h1 : S < 0
  · rw [if_pos h1]
    by_cases h2 : T < 0
    · rw [if_pos h2]
      have := R_mono (M := T.natAbs) (N := S.natAbs) (by omega)
      omega
    · rw [if_neg h2]
      omega
  · rw [if_neg h1, if_neg (by omega)]
    have := R_mono (M := S.natAbs) (N := T.natAbs) (by omega)
    omega
/-- What a finite word stands for, in least units. -/
def SV (b : Nat) : Int := sg (decide (9223372036854775808 ≤ b)) (V (low b))
theorem SV_le (a b : Nat) : SV a ≤ SV b ↔ sval a ≤ sval b := by
  unfold SV
  rw [sval_sg, sval_sg]
  have := sg_lt (decide (9223372036854775808 ≤ b)) (decide (9223372036854775808 ≤ a)) (low b) (low a)
  omega
theorem RS_SV (b : Nat) (h : low b ≤ inf) : RS (SV b) = sval b := by
  unfold SV
  rw [sval_sg]
  generalize decide (9223372036854775808 ≤ b) = s
  generalize low b = l at *
  have h1 : (sg s (V l)).natAbs = V l := by cases s <;> simp [sg]
  unfold RS
  rw [h1, R_V h]
  cases s with
  | false =>
    rw [sg_false, sg_false, if_neg (by omega)]
  | true =>
    rw [sg_true, sg_true]
    by_cases h0 : l = 0
    · subst h0
      rw [V_zero]
      decide
    · have := V_pos (a := l) (by omega)
      rw [if_pos (by omega)]
/-- A word stands between two others if what was rounded does. -/
theorem RS_between {p q : Nat} {S : Int} (hp : low p ≤ inf) (hq : low q ≤ inf) (h1 : SV p ≤ S) (h2 : S ≤ SV q) : sval p ≤ RS S ∧ RS S ≤ sval q := by
  rw [← RS_SV p hp, ← RS_SV q hq]
  exact ⟨RS_mono h1, RS_mono h2⟩
theorem R_inf (M : Nat) : R M ≤ inf := Nat.min_le_right _ _
theorem word_eq (s : Bool) (r : Nat) : double.word s r = if s = true then 9223372036854775808 + r else r := by
  unfold Format.word
  rw [d_sw]
theorem word_facts (s : Bool) (r : Nat) (h : r ≤ inf) : double.word s r < 18446744073709551616 ∧ low (double.word s r) = r ∧ sval (double.word s r) = sg s r := by
  have hi : inf = 9218868437227405312 := rfl
  rw [word_eq]
  cases s with
  | true =>
    rw [if_pos rfl, sg_true]
    have hl : low (9223372036854775808 + r) = r := by unfold low; omega
    refine ⟨by omega, hl, ?_⟩
    unfold sval
    rw [if_neg (by omega), hl]
  | false =>
    rw [if_neg (by decide), sg_false]
    have hl : low r = r := by unfold low; omega
    refine ⟨by omega, hl, ?_⟩
    unfold sval
    rw [if_pos (by omega), hl]
theorem sg_RS (S : Int) (s : Bool) (h : S ≠ 0 → s = decide (S < 0)) : sg s (R S.natAbs) = RS S := by
  unfold RS
  by_cases h0 : S = 0
  · subst h0
    rw [show (0 : Int).natAbs = 0 from rfl, R_zero]
    cases s <;> decide
  · rw [h h0]
    by_cases h1 : S < 0
    · rw [decide_eq_true h1, if_pos h1, sg_true]
    · rw [decide_eq_false h1, if_neg h1, sg_false]

theorem sum_comm (d e : Datum) : d.sum e = e.sum d := by
  cases d with
  | nan s f => cases e <;> rfl
  | infinity s =>
    cases e with
    | nan t g => rfl
    | infinity t =>
      show (if s = t then some (Datum.infinity s) else none) = (if t = s then some (Datum.infinity t) else none)
      by_cases h : s = t
      · subst h; rfl
      · rw [if_neg h, if_neg (fun k => h k.symm)]
    | number t n j => rfl
  | number s m i =>
    cases e with
    | nan t g => rfl
    | infinity t => rfl
    | number t n j =>
      unfold Datum.sum
      simp only []
      rw [Int.min_comm j i, Int.add_comm (signed t n _), Bool.and_comm t s]
theorem signed_scale (s : Bool) (m e k : Nat) : signed s m e * (2 ^ k : Nat) = sg s (m * 2 ^ (e + k)) := by
  rw [← signed_mul]
  unfold signed sg
  rw [Nat.shiftLeft_eq]
/-- The sum of two finite words. -/
theorem add_fin (x y : Nat) (hx : x < 18446744073709551616) (hy : y < 18446744073709551616) (fx : low x < inf) (fy : low y < inf) :
    ∃ z, double.add x y = some z ∧ z < 18446744073709551616 ∧ low z ≤ inf ∧ sval z = RS (SV x + SV y) := by
  obtain ⟨m, i, e1, v1⟩ := read_num x hx fx
  obtain ⟨n, j, e2, v2⟩ := read_num y hy fy
  have hS1 : SV x = sg (decide (9223372036854775808 ≤ x)) (m * 2 ^ i) := by unfold SV; rw [v1]
  have hS2 : SV y = sg (decide (9223372036854775808 ≤ y)) (n * 2 ^ j) := by unfold SV; rw [v2]
  rw [hS1, hS2]
  unfold Format.add
  rw [e1, e2]
  generalize decide (9223372036854775808 ≤ x) = s
  generalize decide (9223372036854775808 ≤ y) = t
  unfold Datum.sum
  simp only []
  have hb : min (-1074 + (i : Int)) (-1074 + (j : Int)) = -1074 + ((min i j : Nat) : Int) := by omega
  rw [hb]
  generalize hk : min i j = k
  have g1 : (-1074 + (i : Int) - (-1074 + (k : Int))).toNat = i - k := by omega
  have g2 : (-1074 + (j : Int) - (-1074 + (k : Int))).toNat = j - k := by omega
  rw [g1, g2]
  have t1 := signed_scale s m (i - k) k
  have t2 := signed_scale t n (j - k) k
  rw [show i - k + k = i by omega] at t1
  rw [show j - k + k = j by omega] at t2
  generalize signed s m (i - k) = a at *
  generalize signed t n (j - k) = b at *
  rw [← t1, ← t2, ← Int.add_mul]
  generalize a + b = T
  have hp : (0 : Int) < ((2 ^ k : Nat) : Int) := by have := Nat.two_pow_pos k; omega
  have hn : (T * ((2 ^ k : Nat) : Int)).natAbs = T.natAbs * 2 ^ k := by rw [Int.natAbs_mul, Int.natAbs_natCast]
  refine ⟨_, rfl, ?_⟩
  simp only [Format.write]
  rw [← Inst.nearest_scale, nearest_R, ← hn]
  obtain ⟨w1, w2, w3⟩ := word_facts (if T = 0 then s && t else decide (T < 0)) _ (R_inf (T * ((2 ^ k : Nat) : Int)).natAbs)
  refine ⟨w1, by rw [w2]; exact R_inf _, ?_⟩
  rw [w3]
  refine sg_RS _ _ fun h0 => ?_
  have hT : T ≠ 0 := by
    rintro rfl
    exact h0 (by simp)
  rw [if_neg hT]
  refine decide_eq_decide.2 ⟨fun h => ?_, fun h => ?_⟩
  · exact Int.mul_neg_of_neg_of_pos h hp
  · rcases Int.lt_or_le T 0 with h1 | h1
    · exact h1
    · have := Int.mul_nonneg h1 (Int.le_of_lt hp)
      omega
theorem add_inf (x y : Nat) (hx : x < 18446744073709551616) (hy : y < 18446744073709551616) (fx : low x = inf) (fy : low y < inf) :
    ∃ z, double.add x y = some z ∧ z < 18446744073709551616 ∧ low z ≤ inf ∧ sval z = sval x := by
  obtain ⟨n, j, e2, _⟩ := read_num y hy fy
  have e1 := read_inf x hx fx
  obtain ⟨w1, w2, w3⟩ := word_facts (decide (9223372036854775808 ≤ x)) inf (Nat.le_refl _)
  refine ⟨double.word (decide (9223372036854775808 ≤ x)) inf, ?_, w1, by rw [w2]; exact Nat.le_refl _, by rw [w3, sval_sg, fx]⟩
  unfold Format.add
  rw [e1, e2]
  rfl
theorem add_infs (x y : Nat) (hx : x < 18446744073709551616) (hy : y < 18446744073709551616) (fx : low x = inf) (fy : low y = inf) :
    if sval x = sval y then ∃ z, double.add x y = some z ∧ z < 18446744073709551616 ∧ low z ≤ inf ∧ sval z = sval x else double.add x y = none := by
  have e1 := read_inf x hx fx
  have e2 := read_inf y hy fy
  obtain ⟨w1, w2, w3⟩ := word_facts (decide (9223372036854775808 ≤ x)) inf (Nat.le_refl _)
  have hs : sval x = sval y ↔ decide (9223372036854775808 ≤ x) = decide (9223372036854775808 ≤ y) := by
    rw [sval_sg, sval_sg, fx, fy]
    generalize decide (9223372036854775808 ≤ x) = s
    generalize decide (9223372036854775808 ≤ y) = t
    cases s <;> cases t <;> decide
  unfold Format.add
  rw [e1, e2]
  by_cases h : sval x = sval y
  · rw [if_pos h]
    have h2 := hs.1 h
    refine ⟨double.word (decide (9223372036854775808 ≤ x)) inf, ?_, w1, by rw [w2]; exact Nat.le_refl _, by rw [w3, sval_sg, fx]⟩
    show Option.map _ (if _ = _ then _ else _) = _
    rw [if_pos h2]
    rfl
  · rw [if_neg h]
    show Option.map _ (if _ = _ then _ else _) = _
    rw [if_neg (fun k => h (hs.2 k))]
    rfl
end Go.Proofs.Ytdedbbbgpjhjhaa.Flt
