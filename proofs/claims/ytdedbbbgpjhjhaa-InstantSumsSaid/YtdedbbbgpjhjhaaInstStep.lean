/- The next time, and the whole number below a time: contracts. -/
import Derived.Test.YtdedbbbgpjhjhaaInstTo
import Derived.Laws.FloatArith
namespace Go.Proofs.Ytdedbbbgpjhjhaa.Inst
open Go.RowKit
open Go.Proofs.Ytdedbbbgpjhjhaa.Flt
open Ieee

/-- The greatest whole number that is not above a word's number, as a word. -/
def fl (b : Nat) : Nat := double.write ((double.read b).integral .down)
theorem floor_num (b : Nat) (s : Bool) (m : Nat) (e : Int) (h : FloatKind.f64.decode b = .number s m e) : Extern.MathFloor.toIntegral "math.archFloor" .down #[.float .f64 b] = pure (.float .f64 (FloatKind.f64.encode ((Datum.number s m e).integral .down))) := by
  conv => lhs; whnf
  rw [h]
theorem floor_inf (b : Nat) (s : Bool) (h : FloatKind.f64.decode b = .infinity s) : Extern.MathFloor.toIntegral "math.archFloor" .down #[.float .f64 b] = pure (.float .f64 (FloatKind.f64.encode ((Datum.infinity s).integral .down))) := by
  conv => lhs; whnf
  rw [h]
theorem floor_run (b : Nat) (h : ∀ s f, double.read b ≠ .nan s f) (w : World) : (Extern.MathFloor.toIntegral "math.archFloor" .down #[.float .f64 b]).run Try.prog w = .ok (.float .f64 (fl b)) w := by
  unfold fl
  cases hr : double.read b with
  | nan s f => exact (h s f hr).elim
  | number s m e => rw [floor_num b s m e hr]; rfl
  | infinity s => rw [floor_inf b s hr]; rfl
theorem read_not_nan (b : Nat) (hb : b < 18446744073709551616) (h : ¬ nan b) : ∀ s f, double.read b ≠ .nan s f := by
  intro s f e
  unfold nan at h
  rcases Nat.lt_or_ge (low b) inf with h1 | h1
  · obtain ⟨m, j, e2, _⟩ := read_num b hb h1
    rw [e2] at e
    cases e
  · rw [read_inf b hb (by omega)] at e
    cases e
theorem floor_fn : Try.prog.funcs[82]? = some Try.f82 := by kernel_rfl
theorem floor_name : (Try.f82.name == "runtime.NumGoroutine") = false := by kernel_rfl
theorem floor_body : Try.f82.body.isNone = true := by kernel_rfl
theorem floor_next : Extern.findNext Try.f82 = none := by kernel_rfl
theorem floor_find : Extern.find Try.f82 = some (Extern.MathFloor.toIntegral "math.archFloor" .down) := by kernel_rfl
theorem run_floor (b : Nat) (hb : b < 18446744073709551616) (h : ¬ nan b) (w : World) : (callFunc 82 #[.float .f64 b]).run Try.prog w = .ok (.value (.float .f64 (fl b))) w := by
  rw [run_callFunc_extern floor_fn floor_name floor_body floor_next floor_find, floor_run b (read_not_nan b hb h)]
  rfl

/-- The whole number below a word's number, where it is small enough. -/
def wh (b : Nat) : Option Int := floatToIntVal .f64 (fl b) .i64
def tooFar (b : Nat) : Prop := sval b < sval 14069245235905429504 ∨ sval 4845873199050653696 < sval b
instance (b : Nat) : Decidable (tooFar b) := by unfold tooFar; infer_instance

theorem toF_lt (k : Nat) (h : k < 18446744073709551616) : toF k < 18446744073709551616 := by
  unfold toF
  split
  · exact toB_lt k h
  · omega
theorem toF_nan (k : Nat) : ¬ nan (toF k) := by
  unfold toF
  split
  · next h =>
    intro hn
    have h1 := h.1
    unfold ofE at h1
    rw [if_pos hn] at h1
    omega
  · exact nan_zero

theorem whole_bad (k : Nat) (hk : k < 18446744073709551616) (h : ¬ good k) (w : World) :
    Calls Try.prog 70 #[.int .u64 k] w fun e w' => e = .returned (.tuple #[.int .i64 0, .int .i64 202]) ∧ w = w' := by
  have he := Lib.hid (toE_bad h)
  go_enter Try.func70, Try.ntmps70
  go_wp2_with fail
  refine (to_any k hk _).mono ?_
  rintro e w' ⟨rfl, rfl⟩
  rw [he.out]
  go_wp2
  go_ret2
  exact ⟨rfl, rfl⟩
theorem whole_far (k : Nat) (hk : k < 18446744073709551616) (h : good k) (hf : tooFar (toF k)) (w : World) :
    Calls Try.prog 70 #[.int .u64 k] w fun e w' => e = .returned (.tuple #[.int .i64 0, .int .i64 75]) ∧ w = w' := by
  have he := Lib.hid (toE_good h)
  have hlt := toF_lt k hk
  have hn := toF_nan k
  by_cases h1 : sval (toF k) < sval 14069245235905429504
  · have t1 := lt_true hlt (by decide) hn (by decide : ¬ nan 14069245235905429504) h1
    clear h1 hlt
    go_enter Try.func70, Try.ntmps70
    go_wp2_with fail
    refine (to_any k hk _).mono ?_
    rintro e w' ⟨rfl, rfl⟩
    rw [he.out]
    go_wp2
    go_ret2
    exact ⟨rfl, rfl⟩
  · have h2 : sval 4845873199050653696 < sval (toF k) := by
      rcases hf with h3 | h3
      · exact absurd h3 h1
      · exact h3
    have t1 := lt_false hlt (by decide) hn (by decide : ¬ nan 14069245235905429504) (by omega)
    have t2 := gt_true hlt (by decide) hn (by decide : ¬ nan 4845873199050653696) h2
    clear h1 h2 hlt
    go_enter Try.func70, Try.ntmps70
    go_wp2_with fail
    refine (to_any k hk _).mono ?_
    rintro e w' ⟨rfl, rfl⟩
    rw [he.out]
    go_wp2
    go_ret2
    exact ⟨rfl, rfl⟩
theorem whole_near (k : Nat) (n : Int) (hk : k < 18446744073709551616) (h : good k) (hf : ¬ tooFar (toF k)) (hw : wh (toF k) = some n) (w : World) :
    Calls Try.prog 70 #[.int .u64 k] w fun e w' => e = .returned (.tuple #[.int .i64 n, .int .i64 0]) ∧ w = w' := by
  have he := Lib.hid (toE_good h)
  have hlt := toF_lt k hk
  have hn := toF_nan k
  unfold tooFar at hf
  have t1 := lt_false hlt (by decide) hn (by decide : ¬ nan 14069245235905429504) (by omega)
  have t2 := gt_false hlt (by decide) hn (by decide : ¬ nan 4845873199050653696) (by omega)
  have kf := run_floor (toF k) hlt hn
  have kc := fun W : World => run_convert_float_int (P := Try.prog) W 67 3 .f64 .i64 (fl (toF k)) n (by kernel_rfl) Try.underlying3 hw
  clear hf hlt
  go_enter Try.func70, Try.ntmps70
  go_wp2_with fail
  refine (to_any k hk _).mono ?_
  rintro e w' ⟨rfl, rfl⟩
  rw [he.out]
  go_wp2
  go_ret2
  exact ⟨rfl, rfl⟩
end Go.Proofs.Ytdedbbbgpjhjhaa.Inst
