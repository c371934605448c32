/- How two words of the double format stand to each other: as their signed rungs do. Plain. -/
import Derived.Laws.FloatBits
namespace Go.Proofs.YtblogecapegbmaaGreat.Flt
open Ieee

def inf : Nat := 9218868437227405312
def low (b : Nat) : Nat := b % 9223372036854775808
def nan (b : Nat) : Prop := inf < low b
instance (b : Nat) : Decidable (nan b) := by unfold nan; infer_instance
/-- The rung with its sign. -/
def sval (b : Nat) : Int := if b < 9223372036854775808 then (low b : Int) else -(low b : Int)

theorem d_sw : double.signWeight = 9223372036854775808 := by decide
theorem d_inf : double.infRung = inf := by decide
theorem d_bin : double.binade = 4503599627370496 := by decide
theorem d_lp : double.leastPlace = -1074 := by decide

/-- The magnitude of a rung, in units of the least number. -/
def V (r : Nat) : Nat := if r < 4503599627370496 then r else (4503599627370496 + r % 4503599627370496) * 2 ^ (r / 4503599627370496 - 1)
theorem V_succ (r : Nat) : V r < V (r + 1) := by
  unfold V
  by_cases h : r + 1 < 4503599627370496
  · rw [if_pos (by omega), if_pos h]
    omega
  · rw [if_neg h]
    by_cases h2 : r < 4503599627370496
    · rw [if_pos h2]
      have e : r + 1 = 4503599627370496 := by omega
      rw [e]
      simp
      omega
    · rw [if_neg h2]
      by_cases h3 : r % 4503599627370496 + 1 < 4503599627370496
      · have e1 : (r + 1) / 4503599627370496 = r / 4503599627370496 := by omega
        have e2 : (r + 1) % 4503599627370496 = r % 4503599627370496 + 1 := by omega
        rw [e1, e2]
        exact Nat.mul_lt_mul_of_pos_right (by omega) (Nat.two_pow_pos _)
      · have e1 : (r + 1) / 4503599627370496 - 1 = (r / 4503599627370496 - 1) + 1 := by omega
        have e2 : (r + 1) % 4503599627370496 = 0 := by omega
        rw [e1, e2, Nat.pow_succ, Nat.mul_comm (2 ^ _) 2, ← Nat.mul_assoc]
        exact Nat.mul_lt_mul_of_pos_right (by omega) (Nat.two_pow_pos _)
theorem V_lt {a b : Nat} (h : a < b) : V a < V b := by
  induction b with
  | zero => omega
  | succ b ih =>
    rcases Nat.lt_or_ge a b with h1 | h1
    · exact Nat.lt_trans (ih h1) (V_succ b)
    · obtain rfl : a = b := by omega
      exact V_succ a
theorem V_zero : V 0 = 0 := by decide
theorem V_pos {a : Nat} (h : 0 < a) : 0 < V a := by
  have := V_lt h
  rw [V_zero] at this
  exact this

/-- What a finite word stands for. -/
theorem read_num (b : Nat) (hb : b < 18446744073709551616) (h : low b < inf) :
    ∃ m e : Nat, double.read b = .number (decide (9223372036854775808 ≤ b)) m (-1074 + (e : Int)) ∧ m * 2 ^ e = V (low b) := by
  have hn : (b / double.signWeight % 2 == 1) = decide (9223372036854775808 ≤ b) := by
    rw [d_sw]
    by_cases h0 : 9223372036854775808 ≤ b
    · have : b / 9223372036854775808 % 2 = 1 := by omega
      simp [h0, this]
    · have : b / 9223372036854775808 % 2 = 0 := by omega
      simp [h0, this]
  unfold low at h
  unfold Format.read
  simp only [hn]
  rw [d_sw, d_bin, d_inf, d_lp]
  unfold V low
  by_cases h1 : b % 9223372036854775808 < 4503599627370496
  · rw [if_pos h1, if_pos h1]
    exact ⟨b % 9223372036854775808, 0, by simp, by simp⟩
  · rw [if_neg h1, if_pos h, if_neg h1]
    exact ⟨_, _, rfl, rfl⟩
theorem read_inf (b : Nat) (hb : b < 18446744073709551616) (h : low b = inf) : double.read b = .infinity (decide (9223372036854775808 ≤ b)) := by
  have hn : (b / double.signWeight % 2 == 1) = decide (9223372036854775808 ≤ b) := by
    rw [d_sw]
    by_cases h0 : 9223372036854775808 ≤ b
    · have : b / 9223372036854775808 % 2 = 1 := by omega
      simp [h0, this]
    · have : b / 9223372036854775808 % 2 = 0 := by omega
      simp [h0, this]
  unfold low at h
  unfold Format.read
  simp only [hn]
  rw [d_sw, d_bin, d_inf, d_lp, h]
  rw [if_neg (by decide), if_neg (by omega), if_pos rfl]
theorem read_nan (b : Nat) (h : nan b) : ∃ s f, double.read b = .nan s f := by
  unfold nan low at h
  unfold Format.read
  simp only
  rw [d_sw, d_bin, d_inf, d_lp]
  have : ¬ inf < 4503599627370496 := by decide
  rw [if_neg (by omega), if_neg (by omega), if_neg (by omega)]
  exact ⟨_, _, rfl⟩

theorem signed_mul (s : Bool) (m e k : Nat) : signed s m (e + k) = signed s m e * (2 ^ k : Nat) := by
  unfold signed
  rw [Nat.shiftLeft_eq, Nat.shiftLeft_eq, Nat.pow_add, ← Nat.mul_assoc]
  cases s
  · simp
  · simp [Int.neg_mul]
theorem compare_mul (a b : Int) (c : Nat) (hc : 0 < c) : compare (a * (c : Int)) (b * (c : Int)) = compare a b := by
  have hc' : (0 : Int) < (c : Int) := by omega
  simp only [compare, compareOfLessAndEq]
  have h1 : (a * (c : Int) < b * (c : Int)) ↔ a < b := ⟨fun h => Int.lt_of_mul_lt_mul_right h (by omega), fun h => Int.mul_lt_mul_of_pos_right h hc'⟩
  have h2 : (a * (c : Int) = b * (c : Int)) ↔ a = b := ⟨fun h => Int.eq_of_mul_eq_mul_right (by omega) h, fun h => by rw [h]⟩
  by_cases ha : a < b
  · rw [if_pos (h1.2 ha), if_pos ha]
  · rw [if_neg (fun h => ha (h1.1 h)), if_neg ha]
    by_cases hb : a = b
    · rw [if_pos (h2.2 hb), if_pos hb]
    · rw [if_neg (fun h => hb (h2.1 h)), if_neg hb]
theorem compare_num (s t : Bool) (m n i j : Nat) :
    (Datum.number s m (-1074 + (i : Int))).order (.number t n (-1074 + (j : Int))) = some (compare (signed s (m * 2 ^ i) 0) (signed t (n * 2 ^ j) 0)) := by
  have hz : ∀ (s : Bool) (m i : Nat), signed s (m * 2 ^ i) 0 = signed s m i := by
    intro s m i
    unfold signed
    rw [Nat.shiftLeft_eq, Nat.shiftLeft_eq]
    simp
  rw [hz, hz]
  unfold Datum.order
  simp only
  congr 1
  rcases Nat.le_total i j with h | h
  · have e1 : (-1074 + (i : Int) - min (-1074 + (i : Int)) (-1074 + (j : Int))).toNat = 0 := by omega
    have e2 : (-1074 + (j : Int) - min (-1074 + (i : Int)) (-1074 + (j : Int))).toNat = j - i := by omega
    rw [e1, e2]
    have h1 := signed_mul s m 0 i
    have h2 := signed_mul t n (j - i) i
    rw [Nat.zero_add] at h1
    rw [show j - i + i = j from by omega] at h2
    rw [h1, h2, compare_mul _ _ _ (Nat.two_pow_pos _)]
  · have e1 : (-1074 + (i : Int) - min (-1074 + (i : Int)) (-1074 + (j : Int))).toNat = i - j := by omega
    have e2 : (-1074 + (j : Int) - min (-1074 + (i : Int)) (-1074 + (j : Int))).toNat = 0 := by omega
    rw [e1, e2]
    have h1 := signed_mul s m (i - j) j
    have h2 := signed_mul t n 0 j
    rw [Nat.zero_add] at h2
    rw [show i - j + j = i from by omega] at h1
    rw [h1, h2, compare_mul _ _ _ (Nat.two_pow_pos _)]

/-- A signed magnitude. -/
def sg (s : Bool) (n : Nat) : Int := if s then -(n : Int) else n
theorem signed_zero (s : Bool) (n : Nat) : signed s n 0 = sg s n := by
  unfold signed sg
  simp
theorem sg_lt (s t : Bool) (a b : Nat) : (sg s (V a) < sg t (V b)) ↔ (sg s a < sg t b) := by
  unfold sg
  have h1 : ∀ {a b : Nat}, (V a < V b) ↔ a < b := fun {a b} => ⟨fun h => by
    rcases Nat.lt_or_ge a b with h2 | h2
    · exact h2
    · rcases Nat.eq_or_lt_of_le h2 with h3 | h3
      · rw [h3] at h; omega
      · have := V_lt h3; omega, V_lt⟩
  have h2 := @h1 a b
  have h3 := @h1 b a
  have h4 := @h1 0 a
  have h5 := @h1 0 b
  rw [V_zero] at h4 h5
  cases s <;> cases t <;> simp <;> omega
theorem sg_eq (s t : Bool) (a b : Nat) : (sg s (V a) = sg t (V b)) ↔ (sg s a = sg t b) := by
  have h1 := sg_lt s t a b
  have h2 := sg_lt t s b a
  omega
theorem compare_sg (s t : Bool) (a b : Nat) : compare (sg s (V a)) (sg t (V b)) = compare (sg s a) (sg t b) := by
  simp only [compare, compareOfLessAndEq, sg_lt, sg_eq]
theorem sval_sg (b : Nat) : sval b = sg (decide (9223372036854775808 ≤ b)) (low b) := by
  unfold sval sg
  by_cases h : b < 9223372036854775808
  · rw [if_pos h, if_neg (by simp; omega)]
  · rw [if_neg h, if_pos (by simp; omega)]

theorem low_lt (b : Nat) : low b < 9223372036854775808 := by unfold low; omega
theorem cmp_lt {a b : Int} (h : a < b) : compare a b = .lt := by
  simp only [compare, compareOfLessAndEq]
  rw [if_pos h]
theorem cmp_gt {a b : Int} (h : b < a) : compare a b = .gt := by
  simp only [compare, compareOfLessAndEq]
  rw [if_neg (by omega), if_neg (by omega)]
theorem cmp_eq {a b : Int} (h : a = b) : compare a b = .eq := by
  simp only [compare, compareOfLessAndEq]
  rw [if_neg (by omega), if_pos h]
theorem sg_le (s : Bool) (n : Nat) : sg s n ≤ n ∧ -(n : Int) ≤ sg s n := by
  unfold sg
  cases s <;> simp <;> omega
theorem sg_true (n : Nat) : sg true n = -(n : Int) := rfl
theorem sg_false (n : Nat) : sg false n = (n : Int) := rfl
theorem order_nan_left (a b : Nat) (h : nan a) : double.order a b = none := by
  obtain ⟨s, f, h1⟩ := read_nan a h
  unfold Format.order
  rw [h1]
  rfl
theorem order_nan_right (a b : Nat) (h : nan b) : double.order a b = none := by
  obtain ⟨s, f, h1⟩ := read_nan b h
  unfold Format.order
  rw [h1]
  cases double.read a <;> rfl
/-- Words that are numbers or infinite stand as their signed rungs do. -/
theorem order_sval (a b : Nat) (ha : a < 18446744073709551616) (hb : b < 18446744073709551616) (na : ¬ nan a) (nb : ¬ nan b) :
    double.order a b = some (compare (sval a) (sval b)) := by
  unfold nan at na nb
  have hi : 0 < inf := by decide
  unfold Format.order
  rw [sval_sg, sval_sg]
  have ga := sg_le (decide (9223372036854775808 ≤ a)) (low a)
  have gb := sg_le (decide (9223372036854775808 ≤ b)) (low b)
  rcases Nat.lt_or_ge (low a) inf with h1 | h1
  · obtain ⟨m, i, e1, v1⟩ := read_num a ha h1
    rcases Nat.lt_or_ge (low b) inf with h2 | h2
    · obtain ⟨n, j, e2, v2⟩ := read_num b hb h2
      rw [e1, e2, compare_num, v1, v2, signed_zero, signed_zero, compare_sg]
    · have e2 := read_inf b hb (by omega)
      rw [e1, e2]
      show some _ = _
      congr 1
      by_cases hs : 9223372036854775808 ≤ b
      · rw [decide_eq_true hs, sg_true]
        exact (cmp_gt (by omega)).symm
      · rw [decide_eq_false hs, sg_false]
        exact (cmp_lt (by omega)).symm
  · have e1 := read_inf a ha (by omega)
    rcases Nat.lt_or_ge (low b) inf with h2 | h2
    · obtain ⟨n, j, e2, v2⟩ := read_num b hb h2
      rw [e1, e2]
      show some _ = _
      congr 1
      by_cases hs : 9223372036854775808 ≤ a
      · rw [decide_eq_true hs, sg_true]
        exact (cmp_lt (by omega)).symm
      · rw [decide_eq_false hs, sg_false]
        exact (cmp_gt (by omega)).symm
    · have e2 := read_inf b hb (by omega)
      have f1 : low a = inf := by omega
      have f2 : low b = inf := by omega
      rw [e1, e2, f1, f2]
      by_cases hs : 9223372036854775808 ≤ a <;> by_cases ht : 9223372036854775808 ≤ b <;> simp only [hs, ht, decide_true, decide_false] <;> decide
end Go.Proofs.YtblogecapegbmaaGreat.Flt
