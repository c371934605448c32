/- The time of bits, whether bits are a time's, the first time and the last one: contracts. -/
import Derived.Test.YtdedbbbgpjhjhaaInstOf
namespace Go.Proofs.Ytdedbbbgpjhjhaa.Inst
open Go.RowKit
open Go.Proofs.Ytdedbbbgpjhjhaa.Flt

/-- The word that bits would be of. -/
def toB (k : Nat) : Nat := if k < 9223372036854775808 then 18446744073709551615 - k else k - 9223372036854775808
def good (k : Nat) : Prop := ofE (toB k) = 0 ∧ ofK (toB k) = k
instance (k : Nat) : Decidable (good k) := by unfold good; infer_instance
def toF (k : Nat) : Nat := if good k then toB k else 0
def toE (k : Nat) : Int := if good k then 0 else 202

theorem toB_lt (k : Nat) (h : k < 18446744073709551616) : toB k < 18446744073709551616 := by unfold toB; split <;> omega
theorem ofK_lt (b : Nat) (h : b < 18446744073709551616) : ofK b < 18446744073709551616 := by
  unfold ofK
  split
  · omega
  · split
    · omega
    · split <;> omega
theorem ofE_cases (b : Nat) : ofE b = 0 ∨ ofE b = 202 := by unfold ofE; split <;> simp
theorem run_frombits (n : Int) (w : World) : (callFunc 73 #[.int .u64 n]).run Try.prog w = .ok (.value (.float .f64 n.toNat)) w := by kernel_rfl

theorem andNot_high (k : Nat) (h : k < 18446744073709551616) : bits .andNot .u64 (k : Int) 9223372036854775808 = ((k % 9223372036854775808 : Nat) : Int) := by
  have h1 := u64_andNot_nat k 9223372036854775808 h (by omega)
  have h2 : k &&& 9223372036854775807 = k % 9223372036854775808 := Nat.and_two_pow_sub_one_eq_mod k 63
  rw [show 18446744073709551615 - 9223372036854775808 = 9223372036854775807 from by decide, h2] at h1
  exact h1

theorem toB_low {k : Nat} (h : k < 9223372036854775808) : toB k = 18446744073709551615 - k := if_pos h
theorem toB_high {k : Nat} (h : ¬ k < 9223372036854775808) : toB k = k - 9223372036854775808 := if_neg h
theorem toF_good {k : Nat} (h : good k) : toF k = toB k := if_pos h
theorem toE_good {k : Nat} (h : good k) : toE k = 0 := if_pos h
theorem toF_bad {k : Nat} (h : ¬ good k) : toF k = 0 := if_neg h
theorem toE_bad {k : Nat} (h : ¬ good k) : toE k = 202 := if_neg h

/-- What the walk of To wants to know of the word B. -/
structure Back (k B : Nat) (x : Nat) (y : Int) : Prop where
  lt : B < 18446744073709551616
  yes : ofE B = 0 → ofK B = k → x = B ∧ y = 0
  no : ¬ (ofE B = 0 ∧ ofK B = k) → x = 0 ∧ y = 202
theorem back_of (k : Nat) (hk : k < 18446744073709551616) : Back k (toB k) (toF k) (toE k) :=
  ⟨toB_lt k hk, fun h1 h2 => ⟨toF_good ⟨h1, h2⟩, toE_good ⟨h1, h2⟩⟩, fun h => ⟨toF_bad h, toE_bad h⟩⟩

theorem max_if : (if IntKind.u64.signed = true then (-1 : Int) else IntKind.u64.max) = IntKind.u64.max := if_neg (by decide)
set_option maxHeartbeats 400000 in
theorem to_low (k B x : Nat) (y : Int) (hh : (k : Int) < 9223372036854775808) (h1 : Hid (bits .xor .u64 (if IntKind.u64.signed = true then -1 else IntKind.u64.max) (k : Int) = (B : Int))) (hb : Back k B x y) (w : World) :
    Calls Try.prog 42 #[.int .u64 k] w fun e w' => e = .returned (.tuple #[.float .f64 x, .int .i64 y]) ∧ w = w' := by
  have k1 := run_frombits
  by_cases hE : ofE B = 0
  · by_cases hK : ofK B = k
    · obtain ⟨rfl, rfl⟩ := hb.yes hE hK
      have hlt := hb.lt
      have he : (ofE x != 0) = false := by rw [hE]; rfl
      have hn : (((ofK x : Nat) : Int) != (k : Int)) = false := by rw [hK]; simp
      clear hE hK hb
      go_enter Try.func42, Try.ntmps42
      iterate 80 (try go_step)
      rw [h1.out, Int.toNat_natCast]
      refine (of_any x hlt _).mono ?_
      rintro e w' ⟨rfl, rfl⟩
      go_wp2
      go_ret2
      exact ⟨rfl, rfl⟩
    · obtain ⟨rfl, rfl⟩ := hb.no (fun h => hK h.2)
      have hlt := hb.lt
      have he : (ofE B != 0) = false := by rw [hE]; rfl
      have hn : (((ofK B : Nat) : Int) != (k : Int)) = true := by rw [bne_iff_ne]; omega
      clear hE hK hb
      go_enter Try.func42, Try.ntmps42
      iterate 80 (try go_step)
      rw [h1.out, Int.toNat_natCast]
      refine (of_any B hlt _).mono ?_
      rintro e w' ⟨rfl, rfl⟩
      go_wp2
      go_ret2
      exact ⟨rfl, rfl⟩
  · obtain ⟨rfl, rfl⟩ := hb.no (fun h => hE h.1)
    have hlt := hb.lt
    have he : (ofE B != 0) = true := by rw [bne_iff_ne]; exact hE
    clear hE hb
    go_enter Try.func42, Try.ntmps42
    iterate 80 (try go_step)
    rw [h1.out, Int.toNat_natCast]
    refine (of_any B hlt _).mono ?_
    rintro e w' ⟨rfl, rfl⟩
    go_wp2
    go_ret2
    exact ⟨rfl, rfl⟩
set_option maxHeartbeats 400000 in
theorem to_high (k B x : Nat) (y : Int) (hh : ¬ (k : Int) < 9223372036854775808) (h1 : Hid (bits .andNot .u64 (k : Int) 9223372036854775808 = (B : Int))) (hb : Back k B x y) (w : World) :
    Calls Try.prog 42 #[.int .u64 k] w fun e w' => e = .returned (.tuple #[.float .f64 x, .int .i64 y]) ∧ w = w' := by
  have k1 := run_frombits
  by_cases hE : ofE B = 0
  · by_cases hK : ofK B = k
    · obtain ⟨rfl, rfl⟩ := hb.yes hE hK
      have hlt := hb.lt
      have he : (ofE x != 0) = false := by rw [hE]; rfl
      have hn : (((ofK x : Nat) : Int) != (k : Int)) = false := by rw [hK]; simp
      clear hE hK hb
      go_enter Try.func42, Try.ntmps42
      iterate 80 (try go_step)
      rw [h1.out, Int.toNat_natCast]
      refine (of_any x hlt _).mono ?_
      rintro e w' ⟨rfl, rfl⟩
      go_wp2
      go_ret2
      exact ⟨rfl, rfl⟩
    · obtain ⟨rfl, rfl⟩ := hb.no (fun h => hK h.2)
      have hlt := hb.lt
      have he : (ofE B != 0) = false := by rw [hE]; rfl
      have hn : (((ofK B : Nat) : Int) != (k : Int)) = true := by rw [bne_iff_ne]; omega
      clear hE hK hb
      go_enter Try.func42, Try.ntmps42
      iterate 80 (try go_step)
      rw [h1.out, Int.toNat_natCast]
      refine (of_any B hlt _).mono ?_
      rintro e w' ⟨rfl, rfl⟩
      go_wp2
      go_ret2
      exact ⟨rfl, rfl⟩
  · obtain ⟨rfl, rfl⟩ := hb.no (fun h => hE h.1)
    have hlt := hb.lt
    have he : (ofE B != 0) = true := by rw [bne_iff_ne]; exact hE
    clear hE hb
    go_enter Try.func42, Try.ntmps42
    iterate 80 (try go_step)
    rw [h1.out, Int.toNat_natCast]
    refine (of_any B hlt _).mono ?_
    rintro e w' ⟨rfl, rfl⟩
    go_wp2
    go_ret2
    exact ⟨rfl, rfl⟩
theorem to_any (k : Nat) (hk : k < 18446744073709551616) (w : World) :
    Calls Try.prog 42 #[.int .u64 k] w fun e w' => e = .returned (.tuple #[.float .f64 (toF k), .int .i64 (toE k)]) ∧ w = w' := by
  by_cases hh : k < 9223372036854775808
  · exact to_low k (toB k) (toF k) (toE k) (by omega) (Lib.hid (by rw [max_if, not_walk k hk, toB_low hh])) (back_of k hk) w
  · exact to_high k (toB k) (toF k) (toE k) (by omega) (Lib.hid (by rw [andNot_high k hk, toB_high hh, Nat.mod_eq_sub_mod (by omega), Nat.mod_eq_of_lt (by omega)])) (back_of k hk) w
theorem good_any (k : Nat) (hk : k < 18446744073709551616) (w : World) :
    Calls Try.prog 41 #[.int .u64 k] w fun e w' => e = .returned (.bool (toE k == 0)) ∧ w = w' := by
  go_enter Try.func41, Try.ntmps41
  go_wp2_with fail
  refine (to_any k hk _).mono ?_
  rintro e w' ⟨rfl, rfl⟩
  go_wp2
  go_ret
  exact ⟨rfl, rfl⟩
end Go.Proofs.Ytdedbbbgpjhjhaa.Inst
