/- The walks of the laws InstantOf and InstantOrder. -/
import Derived.Test.YthbpnbllcbemfaaInstRef
namespace Go.Proofs.Ythbpnbllcbemfaa.Inst
open Go.RowKit
open Go.Proofs.Ythbpnbllcbemfaa.Flt
open Ieee

theorem f64_lt (b : Nat) (h : (Lit.float .f64 b).wf = true) : b < 18446744073709551616 := by
  simpa [Lit.wf] using h
theorem ofK_sval (b : Nat) (hb : b < 18446744073709551616) (h : ¬ nan b) : ((ofK b : Nat) : Int) = if 0 ≤ sval b then 9223372036854775808 + sval b else 9223372036854775807 + sval b := by
  have hl : low b < 9223372036854775808 := low_lt b
  by_cases h1 : b < 9223372036854775808
  · have s : sval b = (low b : Int) := if_pos h1
    have hb2 : low b = b := by unfold low; omega
    rw [s, if_pos (by omega)]
    unfold ofK
    rw [if_neg h]
    by_cases h2 : low b = 0
    · rw [if_pos h2]; omega
    · rw [if_neg h2, if_pos h1]; omega
  · have s : sval b = -(low b : Int) := if_neg h1
    have hb2 : b = low b + 9223372036854775808 := by unfold low; omega
    rw [s]
    unfold ofK
    rw [if_neg h]
    by_cases h2 : low b = 0
    · rw [if_pos h2, if_pos (by omega)]; omega
    · rw [if_neg h2, if_neg h1, if_neg (by omega)]; omega

theorem of_walk (b : Nat) (w0 : (Lit.float .f64 b).wf = true) (w : World) :
    Calls Try.prog 10 #[.float .f64 b] w fun e w' => e = .returned (.bool true) ∧ Below w.heap.size w w' := by
  have hb := f64_lt b w0
  have t1 : (((ofK b : Nat) : Int) == ((ofK b : Nat) : Int)) = true := by simp
  have t2 : (ofE b == ofE b) = true := by simp
  clear w0
  go_enter Try.func10, Try.ntmps10
  go_wp2_with fail
  refine (of_any b hb _).mono ?_
  rintro e w' ⟨rfl, rfl⟩
  go_wp2_with fail
  refine (rof_any b hb _).mono ?_
  rintro e w' ⟨rfl, rfl⟩
  go_wp2_with fail
  refine (awake_any _).mono ?_
  rintro e w' ⟨rfl, rfl⟩
  go_wp2
  go_ret
  exact ⟨rfl, Below.refl _ _⟩

/-- What the walk of the law of the order wants to know. -/
theorem order_nan (x y : Nat) (hx : x < 18446744073709551616) (hy : y < 18446744073709551616) (h : nan x ∨ nan y) (w : World) :
    Calls Try.prog 14 #[.float .f64 x, .float .f64 y] w fun e w' => e = .returned (.bool true) ∧ Below w.heap.size w w' := by
  by_cases hn : nan x
  · have t1 : (FloatKind.f64.format.order x x != some Ordering.eq) = true := by rw [nan_left x x hn]; rfl
    have he := Lib.hid (show ofE x = 202 from if_pos hn)
    clear h hn
    go_enter Try.func14, Try.ntmps14
    go_wp2_with fail
    refine (of_any x hx _).mono ?_
    rintro e w' ⟨rfl, rfl⟩
    rw [he.out]
    go_wp2_with fail
    refine (of_any y (by assumption) _).mono ?_
    rintro e w' ⟨rfl, rfl⟩
    go_wp2_with fail
    refine (awake_any _).mono ?_
    rintro e w' ⟨rfl, rfl⟩
    go_wp2
    go_ret
    exact ⟨rfl, Below.refl _ _⟩
  · have hm : nan y := by
      rcases h with h | h
      · exact absurd h hn
      · exact h
    have t1 : (FloatKind.f64.format.order x x != some Ordering.eq) = false := ne_false hx hx hn hn rfl
    have t2 : (FloatKind.f64.format.order y y != some Ordering.eq) = true := by rw [nan_left y y hm]; rfl
    have he := Lib.hid (show ofE x = 0 from if_neg hn)
    have hf := Lib.hid (show ofE y = 202 from if_pos hm)
    clear h hn hm
    go_enter Try.func14, Try.ntmps14
    go_wp2_with fail
    refine (of_any x hx _).mono ?_
    rintro e w' ⟨rfl, rfl⟩
    rw [he.out]
    go_wp2_with fail
    refine (of_any y (by assumption) _).mono ?_
    rintro e w' ⟨rfl, rfl⟩
    rw [hf.out]
    go_wp2_with fail
    refine (awake_any _).mono ?_
    rintro e w' ⟨rfl, rfl⟩
    go_wp2
    go_ret
    exact ⟨rfl, Below.refl _ _⟩
theorem order_num (x y : Nat) (hx : x < 18446744073709551616) (hy : y < 18446744073709551616) (nx : ¬ nan x) (ny : ¬ nan y) (w : World) :
    Calls Try.prog 14 #[.float .f64 x, .float .f64 y] w fun e w' => e = .returned (.bool true) ∧ Below w.heap.size w w' := by
  have he := Lib.hid (show ofE x = 0 from if_neg nx)
  have hf := Lib.hid (show ofE y = 0 from if_neg ny)
  have kx := ofK_sval x hx nx
  have ky := ofK_sval y hy ny
  rcases Int.lt_trichotomy (sval x) (sval y) with h | h | h
  · have u1 : ((ofK x : Nat) : Int) < ((ofK y : Nat) : Int) := by rw [kx, ky]; split <;> split <;> omega
    have u2 : (((ofK x : Nat) : Int) == ((ofK y : Nat) : Int)) = false := beq_eq_false_iff_ne.2 (by omega)
    have t1 := lt_true hx hy nx ny h
    have t2 := eq_false hx hy nx ny (by omega)
    clear kx ky nx ny h
    go_enter Try.func14, Try.ntmps14
    go_wp2_with fail
    refine (of_any x hx _).mono ?_
    rintro e w' ⟨rfl, rfl⟩
    rw [he.out]
    go_wp2_with fail
    refine (of_any y (by assumption) _).mono ?_
    rintro e w' ⟨rfl, rfl⟩
    rw [hf.out]
    go_wp2_with fail
    refine (awake_any _).mono ?_
    rintro e w' ⟨rfl, rfl⟩
    go_wp2
    go_ret
    exact ⟨rfl, Below.refl _ _⟩
  · have u0 : ¬ ((ofK x : Nat) : Int) < ((ofK y : Nat) : Int) := by rw [kx, ky, h]; omega
    have u1 : decide (ofK x < ofK y) = false := decide_eq_false (by omega)
    clear u0
    have u2 : (((ofK x : Nat) : Int) == ((ofK y : Nat) : Int)) = true := by rw [kx, ky, h]; simp
    have t1 := lt_false hx hy nx ny (by omega)
    have t2 := eq_true hx hy nx ny h
    clear kx ky nx ny h
    go_enter Try.func14, Try.ntmps14
    go_wp2_with fail
    refine (of_any x hx _).mono ?_
    rintro e w' ⟨rfl, rfl⟩
    rw [he.out]
    go_wp2_with fail
    refine (of_any y (by assumption) _).mono ?_
    rintro e w' ⟨rfl, rfl⟩
    rw [hf.out]
    go_wp2_with fail
    refine (awake_any _).mono ?_
    rintro e w' ⟨rfl, rfl⟩
    go_wp2
    go_ret
    exact ⟨rfl, Below.refl _ _⟩
  · have u0 : ¬ ((ofK x : Nat) : Int) < ((ofK y : Nat) : Int) := by rw [kx, ky]; split <;> split <;> omega
    have u1 : decide (ofK x < ofK y) = false := decide_eq_false (by omega)
    clear u0
    have u2 : (((ofK x : Nat) : Int) == ((ofK y : Nat) : Int)) = false := beq_eq_false_iff_ne.2 (by rw [kx, ky]; split <;> split <;> omega)
    have t1 := lt_false hx hy nx ny (by omega)
    have t2 := eq_false hx hy nx ny (by omega)
    clear kx ky nx ny h
    go_enter Try.func14, Try.ntmps14
    go_wp2_with fail
    refine (of_any x hx _).mono ?_
    rintro e w' ⟨rfl, rfl⟩
    rw [he.out]
    go_wp2_with fail
    refine (of_any y (by assumption) _).mono ?_
    rintro e w' ⟨rfl, rfl⟩
    rw [hf.out]
    go_wp2_with fail
    refine (awake_any _).mono ?_
    rintro e w' ⟨rfl, rfl⟩
    go_wp2
    go_ret
    exact ⟨rfl, Below.refl _ _⟩
theorem order_walk (x y : Nat) (w0 : (Lit.float .f64 x).wf = true) (w1 : (Lit.float .f64 y).wf = true) (w : World) :
    Calls Try.prog 14 #[.float .f64 x, .float .f64 y] w fun e w' => e = .returned (.bool true) ∧ Below w.heap.size w w' := by
  by_cases h : nan x ∨ nan y
  · exact order_nan x y (f64_lt x w0) (f64_lt y w1) h w
  · exact order_num x y (f64_lt x w0) (f64_lt y w1) (fun k => h (.inl k)) (fun k => h (.inr k)) w
end Go.Proofs.Ythbpnbllcbemfaa.Inst
