/- The document's Of, To and Good answer as the program's do: contracts. -/
import Derived.Test.YtdedbbbgpjhjhaaInstAwake
namespace Go.Proofs.Ytdedbbbgpjhjhaa.Inst
open Go.RowKit
open Go.Proofs.Ytdedbbbgpjhjhaa.Flt
open Ieee

theorem low_int (b : Nat) : (b : Int) % 9223372036854775808 = ((low b : Nat) : Int) := by unfold low; omega
theorem rof_nan (b : Nat) (h : nan b) (w : World) :
    Calls Try.prog 63 #[.float .f64 b] w fun e w' => e = .returned (.tuple #[.int .u64 (ofK b : Nat), .int .i64 (ofE b)]) ∧ w = w' := by
  have hk : ofK b = 0 := if_pos h
  have he : ofE b = 202 := if_pos h
  rw [hk, he]
  have k1 := run_bits b
  have t1 : 9218868437227405312 < (b : Int) % 9223372036854775808 := by rw [low_int]; unfold nan inf at h; omega
  clear hk he h
  go_enter Try.func63, Try.ntmps63
  iterate 80 (try go_step)
  go_ret2
  exact ⟨rfl, rfl⟩
theorem rof_zero (b : Nat) (h : ¬ nan b) (hz : low b = 0) (w : World) :
    Calls Try.prog 63 #[.float .f64 b] w fun e w' => e = .returned (.tuple #[.int .u64 (ofK b : Nat), .int .i64 (ofE b)]) ∧ w = w' := by
  have hk : ofK b = 9223372036854775808 := by unfold ofK; rw [if_neg h, if_pos hz]
  have he : ofE b = 0 := if_neg h
  rw [hk, he]
  have k1 := run_bits b
  have t1 : ¬ 9218868437227405312 < (b : Int) % 9223372036854775808 := by rw [low_int]; unfold nan inf at h; omega
  have t2 : ((b : Int) % 9223372036854775808 == 0) = true := by rw [low_int, hz]; rfl
  clear hk he h hz
  go_enter Try.func63, Try.ntmps63
  iterate 140 (try go_step)
  go_ret2
  exact ⟨rfl, rfl⟩
theorem rof_pos (b : Nat) (hb : b < 9223372036854775808) (h : ¬ nan b) (hz : low b ≠ 0) (w : World) :
    Calls Try.prog 63 #[.float .f64 b] w fun e w' => e = .returned (.tuple #[.int .u64 (ofK b : Nat), .int .i64 (ofE b)]) ∧ w = w' := by
  have hk : ofK b = b + 9223372036854775808 := by unfold ofK; rw [if_neg h, if_neg hz, if_pos hb]
  have he : ofE b = 0 := if_neg h
  rw [hk, he]
  have k1 := run_bits b
  have t1 : ¬ 9218868437227405312 < (b : Int) % 9223372036854775808 := by rw [low_int]; unfold nan inf at h; omega
  have t2 : ((b : Int) % 9223372036854775808 == 0) = false := by rw [low_int]; exact beq_eq_false_iff_ne.2 (by omega)
  have t3 : (b : Int) < 9223372036854775808 := by omega
  have HE := Lib.hid (show (b : Int) + 9223372036854775808 = ((b + 9223372036854775808 : Nat) : Int) from by omega)
  clear hk he h hz hb
  go_enter Try.func63, Try.ntmps63
  iterate 140 (try go_step)
  go_ret2
  exact ⟨by rw [← HE.out]; rfl, rfl⟩
theorem rof_neg (b : Nat) (hb : b < 18446744073709551616) (h2 : ¬ b < 9223372036854775808) (h : ¬ nan b) (hz : low b ≠ 0) (w : World) :
    Calls Try.prog 63 #[.float .f64 b] w fun e w' => e = .returned (.tuple #[.int .u64 (ofK b : Nat), .int .i64 (ofE b)]) ∧ w = w' := by
  have hk : ofK b = 18446744073709551615 - b := by unfold ofK; rw [if_neg h, if_neg hz, if_neg h2]
  have he : ofE b = 0 := if_neg h
  rw [hk, he]
  have k1 := run_bits b
  have t1 : ¬ 9218868437227405312 < (b : Int) % 9223372036854775808 := by rw [low_int]; unfold nan inf at h; omega
  have t2 : ((b : Int) % 9223372036854775808 == 0) = false := by rw [low_int]; exact beq_eq_false_iff_ne.2 (by omega)
  have t3 : ¬ (b : Int) < 9223372036854775808 := by omega
  have HE := Lib.hid (show IntKind.u64.wrap (18446744073709551615 - (b : Int)) = ((18446744073709551615 - b : Nat) : Int) from by rw [IntKind.wrap_u64]; omega)
  clear hk he h hz hb h2
  go_enter Try.func63, Try.ntmps63
  iterate 140 (try go_step)
  go_ret2
  exact ⟨by rw [← HE.out]; rfl, rfl⟩
theorem rof_any (b : Nat) (hb : b < 18446744073709551616) (w : World) :
    Calls Try.prog 63 #[.float .f64 b] w fun e w' => e = .returned (.tuple #[.int .u64 (ofK b : Nat), .int .i64 (ofE b)]) ∧ w = w' := by
  by_cases h : nan b
  · exact rof_nan b h w
  · by_cases hz : low b = 0
    · exact rof_zero b h hz w
    · by_cases h2 : b < 9223372036854775808
      · exact rof_pos b h2 h hz w
      · exact rof_neg b hb h2 h hz w

theorem rto_low (k B x : Nat) (y : Int) (hh : (k : Int) < 9223372036854775808) (h1 : Hid (18446744073709551615 - k = B)) (hb : Back k B x y) (w : World) :
    Calls Try.prog 77 #[.int .u64 k] w fun e w' => e = .returned (.tuple #[.float .f64 x, .int .i64 y]) ∧ w = w' := by
  have k1 := run_frombits
  by_cases hE : ofE B = 0
  · by_cases hK : ofK B = k
    · obtain ⟨rfl, rfl⟩ := hb.yes hE hK
      have hlt := hb.lt
      have he : (ofE x != 0) = false := by rw [hE]; rfl
      have hn : (((ofK x : Nat) : Int) != (k : Int)) = false := by rw [hK]; simp
      clear hE hK hb
      go_enter Try.func77, Try.ntmps77
      iterate 100 (try go_step)
      rw [h1.out]
      refine (rof_any x hlt _).mono ?_
      rintro e w' ⟨rfl, rfl⟩
      go_wp2
      go_ret2
      exact ⟨rfl, rfl⟩
    · obtain ⟨rfl, rfl⟩ := hb.no (fun h => hK h.2)
      have hlt := hb.lt
      have he : (ofE B != 0) = false := by rw [hE]; rfl
      have hn : (((ofK B : Nat) : Int) != (k : Int)) = true := by rw [bne_iff_ne]; omega
      clear hE hK hb
      go_enter Try.func77, Try.ntmps77
      iterate 100 (try go_step)
      rw [h1.out]
      refine (rof_any B hlt _).mono ?_
      rintro e w' ⟨rfl, rfl⟩
      go_wp2
      go_ret2
      exact ⟨rfl, rfl⟩
  · obtain ⟨rfl, rfl⟩ := hb.no (fun h => hE h.1)
    have hlt := hb.lt
    have he : (ofE B != 0) = true := by rw [bne_iff_ne]; exact hE
    clear hE hb
    go_enter Try.func77, Try.ntmps77
    iterate 100 (try go_step)
    rw [h1.out]
    refine (rof_any B hlt _).mono ?_
    rintro e w' ⟨rfl, rfl⟩
    go_wp2
    go_ret2
    exact ⟨rfl, rfl⟩
theorem rto_high (k B x : Nat) (y : Int) (hh : ¬ (k : Int) < 9223372036854775808) (h1 : Hid ((IntKind.u64.wrap ((k : Int) - 9223372036854775808)).toNat = B)) (hb : Back k B x y) (w : World) :
    Calls Try.prog 77 #[.int .u64 k] w fun e w' => e = .returned (.tuple #[.float .f64 x, .int .i64 y]) ∧ w = w' := by
  have k1 := run_frombits
  by_cases hE : ofE B = 0
  · by_cases hK : ofK B = k
    · obtain ⟨rfl, rfl⟩ := hb.yes hE hK
      have hlt := hb.lt
      have he : (ofE x != 0) = false := by rw [hE]; rfl
      have hn : (((ofK x : Nat) : Int) != (k : Int)) = false := by rw [hK]; simp
      clear hE hK hb
      go_enter Try.func77, Try.ntmps77
      iterate 100 (try go_step)
      rw [h1.out]
      refine (rof_any x hlt _).mono ?_
      rintro e w' ⟨rfl, rfl⟩
      go_wp2
      go_ret2
      exact ⟨rfl, rfl⟩
    · obtain ⟨rfl, rfl⟩ := hb.no (fun h => hK h.2)
      have hlt := hb.lt
      have he : (ofE B != 0) = false := by rw [hE]; rfl
      have hn : (((ofK B : Nat) : Int) != (k : Int)) = true := by rw [bne_iff_ne]; omega
      clear hE hK hb
      go_enter Try.func77, Try.ntmps77
      iterate 100 (try go_step)
      rw [h1.out]
      refine (rof_any B hlt _).mono ?_
      rintro e w' ⟨rfl, rfl⟩
      go_wp2
      go_ret2
      exact ⟨rfl, rfl⟩
  · obtain ⟨rfl, rfl⟩ := hb.no (fun h => hE h.1)
    have hlt := hb.lt
    have he : (ofE B != 0) = true := by rw [bne_iff_ne]; exact hE
    clear hE hb
    go_enter Try.func77, Try.ntmps77
    iterate 100 (try go_step)
    rw [h1.out]
    refine (rof_any B hlt _).mono ?_
    rintro e w' ⟨rfl, rfl⟩
    go_wp2
    go_ret2
    exact ⟨rfl, rfl⟩
theorem rto_any (k : Nat) (hk : k < 18446744073709551616) (w : World) :
    Calls Try.prog 77 #[.int .u64 k] w fun e w' => e = .returned (.tuple #[.float .f64 (toF k), .int .i64 (toE k)]) ∧ w = w' := by
  by_cases hh : k < 9223372036854775808
  · exact rto_low k (toB k) (toF k) (toE k) (by omega) (Lib.hid (toB_low hh).symm) (back_of k hk) w
  · exact rto_high k (toB k) (toF k) (toE k) (by omega) (Lib.hid (by rw [IntKind.wrap_u64, toB_high hh]; omega)) (back_of k hk) w
theorem rgood_any (k : Nat) (hk : k < 18446744073709551616) (w : World) :
    Calls Try.prog 76 #[.int .u64 k] w fun e w' => e = .returned (.bool (toE k == 0)) ∧ w = w' := by
  go_enter Try.func76, Try.ntmps76
  go_wp2_with fail
  refine (rto_any k hk _).mono ?_
  rintro e w' ⟨rfl, rfl⟩
  go_wp2
  go_ret
  exact ⟨rfl, rfl⟩
end Go.Proofs.Ytdedbbbgpjhjhaa.Inst
