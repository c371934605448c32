/- Since, in the program and in the document: contracts. -/
import Derived.Test.YtdedbbbgpjhjhaaInstAddR
namespace Go.Proofs.Ytdedbbbgpjhjhaa.Inst
open Go.RowKit
open Go.Proofs.Ytdedbbbgpjhjhaa.Flt
open Ieee

def leB (x y : Nat) : Bool := FloatKind.f64.format.order x y == some Ordering.lt || FloatKind.f64.format.order x y == some Ordering.eq
def sinK (a b : Nat) : Nat := if good a ∧ good b then (if leB (toF a) (toF b) = true then 9223372036854775808 else opK .sub (toF a) (toF b)) else 0
def sinE (a b : Nat) : Int := if good a ∧ good b then (if leB (toF a) (toF b) = true then 0 else opE .sub (toF a) (toF b)) else 202
theorem leB_none {x y : Nat} (h : ¬ leB x y = true) : (FloatKind.f64.format.order x y == some Ordering.lt) = false ∧ (FloatKind.f64.format.order x y == some Ordering.eq) = false := by
  unfold leB at h
  revert h
  cases (FloatKind.f64.format.order x y == some Ordering.lt) <;> cases (FloatKind.f64.format.order x y == some Ordering.eq) <;> simp
theorem leB_some {x y : Nat} (h : leB x y = true) : (FloatKind.f64.format.order x y == some Ordering.lt) = true ∨ ((FloatKind.f64.format.order x y == some Ordering.lt) = false ∧ (FloatKind.f64.format.order x y == some Ordering.eq) = true) := by
  unfold leB at h
  revert h
  cases (FloatKind.f64.format.order x y == some Ordering.lt) <;> cases (FloatKind.f64.format.order x y == some Ordering.eq) <;> simp
theorem since_le (x y : Nat) (h : leB x y = true) (w : World) :
    Calls Try.prog 67 #[.float .f64 x, .float .f64 y] w fun e w' => e = .returned (.float .f64 0) ∧ w = w' := by
  rcases leB_some h with h1 | ⟨h1, h2⟩
  · clear h
    go_enter Try.func67, Try.ntmps67
    go_wp2
    go_ret
    exact ⟨rfl, rfl⟩
  · clear h
    go_enter Try.func67, Try.ntmps67
    go_wp2
    go_ret
    exact ⟨rfl, rfl⟩
theorem since_gt (x y : Nat) (h : ¬ leB x y = true) (w : World) :
    Calls Try.prog 67 #[.float .f64 x, .float .f64 y] w fun e w' => ∃ r, e = .returned (.float .f64 r) ∧ (r < 18446744073709551616 ∧ ofK r = opK .sub x y ∧ ofE r = opE .sub x y) ∧ Below w.heap.size w w' := by
  obtain ⟨r, w', hr, hg, hb⟩ := run_op .sub (.inr rfl) 67 x y w
  have HG := Lib.hid (And.intro hg.1 (And.intro hg.key hg.err))
  obtain ⟨h1, h2⟩ := leB_none h
  clear hg h
  go_enter Try.func67, Try.ntmps67
  go_wp2
  go_ret
  exact ⟨r, rfl, HG.out, hb⟩
theorem enter_since (args : Array Value) (W : World) : (callFunc 67 args).run Try.prog W = .ok (.enter 67 args) W := by kernel_rfl
theorem since_any (a b : Nat) (ha : a < 18446744073709551616) (hb : b < 18446744073709551616) (w : World) :
    Calls Try.prog 38 #[.int .u64 a, .int .u64 b] w fun e w' => e = .returned (.tuple #[.int .u64 (sinK a b : Nat), .int .i64 (sinE a b)]) ∧ Below w.heap.size w w' := by
  have HO := Lib.hid (fun W => of_made a b (sinK a b) (sinE a b) 67 ha hb enter_since
    (fun ga gb W => by
      have g : good a ∧ good b := And.intro ga gb
      by_cases h : leB (toF a) (toF b) = true
      · have e1 : sinK a b = 9223372036854775808 := by unfold sinK; rw [if_pos g, if_pos h]
        have e2 : sinE a b = 0 := by unfold sinE; rw [if_pos g, if_pos h]
        rw [e1, e2]
        exact (since_le (toF a) (toF b) h W).mono fun e w' k => ⟨0, k.1, ⟨by decide, by decide +kernel, by decide +kernel⟩, k.2 ▸ Below.refl _ _⟩
      · have e1 : sinK a b = opK .sub (toF a) (toF b) := by unfold sinK; rw [if_pos g, if_neg h]
        have e2 : sinE a b = opE .sub (toF a) (toF b) := by unfold sinE; rw [if_pos g, if_neg h]
        rw [e1, e2]
        exact since_gt (toF a) (toF b) h W)
    (fun h => ⟨if_neg h, if_neg h⟩) W)
  go_enter Try.func38, Try.ntmps38
  go_wp2_with fail
  refine (HO.out _).mono ?_
  rintro e w' ⟨rfl, hb1⟩
  go_wp2
  go_ret2
  exact ⟨rfl, hb1⟩
theorem rsince_any (a b : Nat) (ha : a < 18446744073709551616) (hb : b < 18446744073709551616) (w : World) :
    Calls Try.prog 39 #[.int .u64 a, .int .u64 b] w fun e w' => e = .returned (.tuple #[.int .u64 (sinK a b : Nat), .int .i64 (sinE a b)]) ∧ Below w.heap.size w w' := by
  by_cases g : good a ∧ good b
  · by_cases h : leB (toF a) (toF b) = true
    · have e1 : sinK a b = 9223372036854775808 := by unfold sinK; rw [if_pos g, if_pos h]
      have e2 : sinE a b = 0 := by unfold sinE; rw [if_pos g, if_pos h]
      rw [e1, e2]
      clear e1 e2
      rcases leB_some h with h1 | ⟨h1, h2⟩
      · clear h
        go_enter Try.func39, Try.ntmps39
        go_wp2_with fail
        refine (two_good a b ha hb g.1 g.2 _).mono ?_
        rintro e w' ⟨rfl, rfl⟩
        go_wp2
        go_ret2
        exact ⟨rfl, Below.refl _ _⟩
      · clear h
        go_enter Try.func39, Try.ntmps39
        go_wp2_with fail
        refine (two_good a b ha hb g.1 g.2 _).mono ?_
        rintro e w' ⟨rfl, rfl⟩
        go_wp2
        go_ret2
        exact ⟨rfl, Below.refl _ _⟩
    · have e1 : sinK a b = opK .sub (toF a) (toF b) := by unfold sinK; rw [if_pos g, if_neg h]
      have e2 : sinE a b = opE .sub (toF a) (toF b) := by unfold sinE; rw [if_pos g, if_neg h]
      rw [e1, e2]
      obtain ⟨r, w1, hr, hg, hb1⟩ := run_op .sub (.inr rfl) 67 (toF a) (toF b) w
      have HG := Lib.hid hg
      obtain ⟨h1, h2⟩ := leB_none h
      clear hg e1 e2 h
      go_enter Try.func39, Try.ntmps39
      go_wp2_with fail
      refine (two_good a b ha hb g.1 g.2 _).mono ?_
      rintro e w' ⟨rfl, rfl⟩
      go_wp2_with fail
      refine (rof_any r HG.out.1 _).mono ?_
      rintro e w' ⟨rfl, rfl⟩
      rw [HG.out.key, HG.out.err]
      go_wp2
      go_ret2
      exact ⟨rfl, hb1⟩
  · have e1 : sinK a b = 0 := if_neg g
    have e2 : sinE a b = 202 := if_neg g
    rw [e1, e2]
    clear e1 e2
    go_enter Try.func39, Try.ntmps39
    go_wp2_with fail
    refine (two_bad a b ha hb g _).mono ?_
    rintro e w' ⟨rfl, rfl⟩
    go_wp2
    go_ret2
    exact ⟨rfl, Below.refl _ _⟩
end Go.Proofs.Ytdedbbbgpjhjhaa.Inst
