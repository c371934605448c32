/- Half of a word, by a quotient and by a product. -/
import Derived.Test.YtdedbbbgpjhjhaaInstScale
import Derived.Test.YtdedbbbgpjhjhaaInstArith
namespace Go.Proofs.Ytdedbbbgpjhjhaa.Inst
open Go.RowKit
open Go.Proofs.Ytdedbbbgpjhjhaa.Flt
open Ieee

theorem read_small (b : Nat) (s : Bool) (m : Nat) (p : Int) (h : double.read b = .number s m p) : m < 9007199254740992 := by
  unfold Format.read at h
  rw [d_sw, d_bin, d_inf, d_lp] at h
  simp only [] at h
  generalize b % 9223372036854775808 = r at h
  split at h
  · injection h with h1 h2 h3
    omega
  · split at h
    · injection h with h1 h2 h3
      omega
    · split at h <;> cases h
theorem read_two : double.read 4611686018427387904 = .number false 4503599627370496 (-51) := by decide +kernel
theorem read_half : double.read 4602678819172646912 = .number false 4503599627370496 (-53) := by decide +kernel
def half (x : Nat) : Nat := (floatBits .mul .f64 x 4602678819172646912).getD 0
theorem some_get {o : Option Nat} (h : o ≠ none) : o = some (o.getD 0) := by
  cases o with
  | none => exact absurd rfl h
  | some a => rfl
theorem prod_some (d : Datum) (hr : ∀ s f, d ≠ .nan s f) (D : Nat) (p : Int) (hD : D ≠ 0) : d.product (.number false D p) ≠ none := by
  cases d with
  | nan s f => exact absurd rfl (hr s f)
  | infinity s =>
    show (if D = 0 then none else some (Datum.infinity (s ^^ false))) ≠ none
    rw [if_neg hD]
    exact Option.some_ne_none _
  | number s m i => exact Option.some_ne_none _
theorem half_mul (x : Nat) (hx : x < 18446744073709551616) (hn : ¬ nan x) : floatBits .mul .f64 x 4602678819172646912 = some (half x) := by
  unfold half
  refine some_get fun h => ?_
  have hf : floatBits .mul .f64 x 4602678819172646912 = ((double.read x).product (double.read 4602678819172646912)).map double.write := rfl
  rw [hf, Option.map_eq_none_iff, read_half] at h
  exact prod_some (double.read x) (read_not_nan x hx hn) _ _ (by decide) h
theorem half_num (s : Bool) (m D q more : Nat) (i : Int) (hD : D = 2 ^ 52) (hp : 0 < D) (hm : more = q + 52) :
    double.nearest s (2 * (m <<< more / D) + (m <<< more % D != 0).toNat) (i - (-51) - (more : Int) - 1) = double.nearest s (m * D) (i + (-53)) := by
  have e1 : m <<< more = m * 2 ^ q * D := by rw [hm, Nat.shiftLeft_eq, Nat.pow_add, ← Nat.mul_assoc, hD]
  rw [e1, Nat.mul_div_cancel _ hp, Nat.mul_mod_left]
  have e0 : ((0 : Nat) != 0).toNat = 0 := rfl
  have e2 : 2 * (m * 2 ^ q) = m * 2 ^ (q + 1) := by rw [Nat.pow_succ, Nat.mul_comm 2, Nat.mul_assoc]
  rw [e0, Nat.add_zero, e2, nearest_scale, hD, nearest_scale]
  congr 1
  omega
theorem half_quo (x : Nat) (hx : x < 18446744073709551616) (hn : ¬ nan x) : floatBits .quo .f64 x 4611686018427387904 = some (half x) := by
  rw [← half_mul x hx hn]
  have hr := read_not_nan x hx hn
  have hf : floatBits .mul .f64 x 4602678819172646912 = ((double.read x).product (double.read 4602678819172646912)).map double.write := rfl
  have hq : floatBits .quo .f64 x 4611686018427387904 = ((double.read x).quotient 54 (double.read 4611686018427387904)).map double.write := rfl
  rw [hf, hq, read_half, read_two]
  have hl2 : (4503599627370496 : Nat).log2 = 52 := by decide +kernel
  have hD : (4503599627370496 : Nat) = 2 ^ 52 := by decide +kernel
  have hp : 0 < (4503599627370496 : Nat) := by decide
  generalize (4503599627370496 : Nat) = D at hl2 hD hp ⊢
  have hne : D ≠ 0 := Nat.ne_of_gt hp
  cases h : double.read x with
  | nan s f => exact absurd h (hr s f)
  | infinity s => simp only [Datum.quotient, Datum.product, if_neg hne]
  | number s m i =>
    have hm := read_small x s m i h
    have hlog : m.log2 ≤ 52 := by
      by_cases h0 : m = 0
      · rw [h0]; decide
      · have := (Nat.log2_lt (k := 53) h0).2 (by omega)
        omega
    simp only [Datum.quotient, Datum.product, hl2, if_neg hne, Option.map_some, Format.write]
    rw [half_num (s ^^ false) m D (54 - m.log2) (54 + 52 - m.log2) i hD hp (by omega)]
end Go.Proofs.Ytdedbbbgpjhjhaa.Inst
