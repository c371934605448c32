/- Bits of times: what the program's and the document's functions answer, as contracts. -/
import Derived.Test.YtblogecapegbmaaGreatChecked
import Derived.Test.YtblogecapegbmaaGreatFltTests
import Derived.WalkKit
import Derived.WalkLawsBesides
import Derived.Laws.BitsAllLaws
import Derived.Laws.Cover2
import Derived.Laws.Externs
import Derived.Outline
import Derived.Lib.Hide
namespace Go.Proofs.YtblogecapegbmaaGreat.Inst
open Go.RowKit
open Go.Proofs.YtblogecapegbmaaGreat.Flt

/-- The bits of a number's word, and the error. -/
def ofK (b : Nat) : Nat := if nan b then 0 else if low b = 0 then 9223372036854775808 else if b < 9223372036854775808 then b + 9223372036854775808 else 18446744073709551615 - b
def ofE (b : Nat) : Int := if nan b then 202 else 0

theorem run_bits (b : Nat) (w : World) : (callFunc 136 #[.float .f64 b]).run Tryz.prog w = .ok (.value (.int .u64 b)) w := by kernel_rfl

theorem or_high (b : Nat) (h : b < 9223372036854775808) : bits .or .u64 (b : Int) 9223372036854775808 = ((b + 9223372036854775808 : Nat) : Int) := by
  have h1 := u64_or_nat b 9223372036854775808 (by omega) (by omega)
  rw [Nat.or_comm, nat_join 63 9223372036854775808 b (by decide) (by simpa using h), Nat.add_comm] at h1
  exact h1
theorem not_walk (c : Nat) (h : c < 18446744073709551616) : bits .xor .u64 IntKind.u64.max (c : Int) = ((18446744073709551615 - c : Nat) : Int) := by
  show bits .xor .u64 ((18446744073709551615 : Nat) : Int) (c : Int) = _
  rw [u64_xor_nat _ _ (by omega) h]
  have h1 : ((BitVec.allOnes 64) ^^^ (BitVec.ofNat 64 c)).toNat = 18446744073709551615 ^^^ c := by
    rw [BitVec.toNat_xor, BitVec.toNat_ofNat, Nat.mod_eq_of_lt h]
    rfl
  rw [← h1, BitVec.allOnes_xor, BitVec.toNat_not, BitVec.toNat_ofNat, Nat.mod_eq_of_lt h]

theorem of_nan (b : Nat) (h : nan b) (w : World) :
    Calls Tryz.prog 105 #[.float .f64 b] w fun e w' => e = .returned (.tuple #[.int .u64 (ofK b : Nat), .int .i64 (ofE b)]) ∧ w = w' := by
  have hk : ofK b = 0 := if_pos h
  have he : ofE b = 202 := if_pos h
  rw [hk, he]
  have k1 := run_bits b
  have t1 : (FloatKind.f64.format.order b b != some Ordering.eq) = true := by rw [nan_left b b h]; rfl
  clear hk he
  go_enter Tryz.func105, Tryz.ntmps105
  go_wp2
  go_ret2
  exact ⟨rfl, rfl⟩
theorem of_zero (b : Nat) (hb : b < 18446744073709551616) (h : ¬ nan b) (hz : low b = 0) (w : World) :
    Calls Tryz.prog 105 #[.float .f64 b] w fun e w' => e = .returned (.tuple #[.int .u64 (ofK b : Nat), .int .i64 (ofE b)]) ∧ w = w' := by
  have hk : ofK b = 9223372036854775808 := by unfold ofK; rw [if_neg h, if_pos hz]
  have he : ofE b = 0 := if_neg h
  rw [hk, he]
  have k1 := run_bits b
  have t1 := ne_false hb hb h h rfl
  have t2 : (FloatKind.f64.format.order b 0 == some Ordering.eq) = true := eq_true hb (by omega) h nan_zero (by rw [sval_zero]; exact sval_low.2 hz)
  clear hk he hb
  go_enter Tryz.func105, Tryz.ntmps105
  go_wp2
  go_ret2
  exact ⟨rfl, rfl⟩
theorem of_pos (b : Nat) (hb : b < 9223372036854775808) (h : ¬ nan b) (hz : low b ≠ 0) (w : World) :
    Calls Tryz.prog 105 #[.float .f64 b] w fun e w' => e = .returned (.tuple #[.int .u64 (ofK b : Nat), .int .i64 (ofE b)]) ∧ w = w' := by
  have hk : ofK b = b + 9223372036854775808 := by unfold ofK; rw [if_neg h, if_neg hz, if_pos hb]
  have he : ofE b = 0 := if_neg h
  rw [hk, he]
  have k1 := run_bits b
  have t1 := ne_false (a := b) (b := b) (by omega) (by omega) h h rfl
  have t2 : (FloatKind.f64.format.order b 0 == some Ordering.eq) = false := eq_false (by omega) (by omega) h nan_zero (by rw [sval_zero]; exact fun e => hz (sval_low.1 e))
  have t3 : (FloatKind.f64.format.order b 0 == some Ordering.gt) = true := gt_true (by omega) (by omega) h nan_zero (by rw [sval_zero]; exact sval_pos.2 ⟨hz, hb⟩)
  have HO := Lib.hid (or_high b hb)
  clear hk he
  go_enter Tryz.func105, Tryz.ntmps105
  go_wp2
  go_ret2
  exact ⟨by rw [← HO.out]; rfl, rfl⟩
theorem of_neg (b : Nat) (hb : b < 18446744073709551616) (h2 : ¬ b < 9223372036854775808) (h : ¬ nan b) (hz : low b ≠ 0) (w : World) :
    Calls Tryz.prog 105 #[.float .f64 b] w fun e w' => e = .returned (.tuple #[.int .u64 (ofK b : Nat), .int .i64 (ofE b)]) ∧ w = w' := by
  have hk : ofK b = 18446744073709551615 - b := by unfold ofK; rw [if_neg h, if_neg hz, if_neg h2]
  have he : ofE b = 0 := if_neg h
  rw [hk, he]
  have k1 := run_bits b
  have t1 := ne_false hb hb h h rfl
  have t2 : (FloatKind.f64.format.order b 0 == some Ordering.eq) = false := eq_false hb (by omega) h nan_zero (by rw [sval_zero]; exact fun e => hz (sval_low.1 e))
  have t3 : (FloatKind.f64.format.order b 0 == some Ordering.gt) = false := gt_false hb (by omega) h nan_zero (by rw [sval_zero]; have := @sval_pos b; omega)
  have HO := Lib.hid (not_walk b hb)
  clear hk he h2
  go_enter Tryz.func105, Tryz.ntmps105
  go_wp2
  go_ret2
  exact ⟨by rw [← HO.out]; rfl, rfl⟩
theorem of_any (b : Nat) (hb : b < 18446744073709551616) (w : World) :
    Calls Tryz.prog 105 #[.float .f64 b] w fun e w' => e = .returned (.tuple #[.int .u64 (ofK b : Nat), .int .i64 (ofE b)]) ∧ w = w' := by
  by_cases h : nan b
  · exact of_nan b h w
  · by_cases hz : low b = 0
    · exact of_zero b hb h hz w
    · by_cases h2 : b < 9223372036854775808
      · exact of_pos b h2 h hz w
      · exact of_neg b hb h2 h hz w
end Go.Proofs.YtblogecapegbmaaGreat.Inst
