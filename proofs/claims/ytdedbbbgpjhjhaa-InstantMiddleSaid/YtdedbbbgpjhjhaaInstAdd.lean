/- Add, in the program and in the document: contracts. -/
import Derived.Test.YtdedbbbgpjhjhaaInstArith
namespace Go.Proofs.Ytdedbbbgpjhjhaa.Inst
open Go.RowKit
open Go.Proofs.Ytdedbbbgpjhjhaa.Flt
open Ieee

theorem enter_add (args : Array Value) (W : World) : (callFunc 61 args).run Try.prog W = .ok (.enter 61 args) W := by kernel_rfl
theorem of_bad1 (a b : Nat) (f : FuncId) (ha : a < 18446744073709551616) (ga : ¬ good a) (w : World) :
    Calls Try.prog 60 #[.int .u64 a, .int .u64 b, .func (.func f) #[] #[]] w fun e w' => e = .returned (.tuple #[.int .u64 0, .int .i64 202]) ∧ w = w' := by
  have he := Lib.hid (toE_bad ga)
  clear ga
  go_enter Try.func60, Try.ntmps60
  go_wp2_with fail
  refine (to_any a ha _).mono ?_
  rintro e w' ⟨rfl, rfl⟩
  rw [he.out]
  go_wp2
  go_ret2
  exact ⟨rfl, rfl⟩
theorem of_bad2 (a b : Nat) (f : FuncId) (ha : a < 18446744073709551616) (hb : b < 18446744073709551616) (ga : good a) (gb : ¬ good b) (w : World) :
    Calls Try.prog 60 #[.int .u64 a, .int .u64 b, .func (.func f) #[] #[]] w fun e w' => e = .returned (.tuple #[.int .u64 0, .int .i64 202]) ∧ w = w' := by
  have he := Lib.hid (toE_good ga)
  have hf := Lib.hid (toE_bad gb)
  clear ga gb
  go_enter Try.func60, Try.ntmps60
  go_wp2_with fail
  refine (to_any a ha _).mono ?_
  rintro e w' ⟨rfl, rfl⟩
  rw [he.out]
  go_wp2_with fail
  refine (to_any b hb _).mono ?_
  rintro e w' ⟨rfl, rfl⟩
  rw [hf.out]
  go_wp2
  go_ret2
  exact ⟨rfl, rfl⟩
/-- of, whatever the two bits are. -/
theorem of_made (a b K : Nat) (E : Int) (f : FuncId) (ha : a < 18446744073709551616) (hb : b < 18446744073709551616)
    (henter : ∀ (args : Array Value) (W : World), (callFunc f args).run Try.prog W = .ok (.enter f args) W)
    (hmade : good a → good b → ∀ W, Calls Try.prog f #[.float .f64 (toF a), .float .f64 (toF b)] W fun e w' => ∃ r, e = .returned (.float .f64 r) ∧ (r < 18446744073709551616 ∧ ofK r = K ∧ ofE r = E) ∧ Below W.heap.size W w')
    (hbad : ¬ (good a ∧ good b) → K = 0 ∧ E = 202) (w : World) :
    Calls Try.prog 60 #[.int .u64 a, .int .u64 b, .func (.func f) #[] #[]] w fun e w' => e = .returned (.tuple #[.int .u64 K, .int .i64 E]) ∧ Below w.heap.size w w' := by
  by_cases ga : good a
  · by_cases gb : good b
    · exact of_good a b K E f ha hb ga gb henter (hmade ga gb) w
    · obtain ⟨rfl, rfl⟩ := hbad (fun h => gb h.2)
      exact (of_bad2 a b f ha hb ga gb w).mono fun e w' h => ⟨h.1, h.2 ▸ Below.refl _ _⟩
  · obtain ⟨rfl, rfl⟩ := hbad (fun h => ga h.1)
    exact (of_bad1 a b f ha ga w).mono fun e w' h => ⟨h.1, h.2 ▸ Below.refl _ _⟩
def addK (a b : Nat) : Nat := if good a ∧ good b then opK .add (toF a) (toF b) else 0
def addE (a b : Nat) : Int := if good a ∧ good b then opE .add (toF a) (toF b) else 202
theorem add_any (a b : Nat) (ha : a < 18446744073709551616) (hb : b < 18446744073709551616) (w : World) :
    Calls Try.prog 34 #[.int .u64 a, .int .u64 b] w fun e w' => e = .returned (.tuple #[.int .u64 (addK a b : Nat), .int .i64 (addE a b)]) ∧ Below w.heap.size w w' := by
  have HO := Lib.hid (fun W => of_made a b (addK a b) (addE a b) 61 ha hb enter_add
    (fun ga gb W => by
      have e1 : addK a b = opK .add (toF a) (toF b) := if_pos ⟨ga, gb⟩
      have e2 : addE a b = opE .add (toF a) (toF b) := if_pos ⟨ga, gb⟩
      rw [e1, e2]
      exact add_made (toF a) (toF b) W)
    (fun h => ⟨if_neg h, if_neg h⟩) W)
  go_enter Try.func34, Try.ntmps34
  go_wp2_with fail
  refine (HO.out _).mono ?_
  rintro e w' ⟨rfl, hb1⟩
  go_wp2
  go_ret2
  exact ⟨rfl, hb1⟩
end Go.Proofs.Ytdedbbbgpjhjhaa.Inst
