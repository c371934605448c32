/- A sum's or a difference's bits, and what Of answers of them. -/
import Derived.Test.YtdedbbbgpjhjhaaInstRef
import Derived.Laws.FloatArith
namespace Go.Proofs.Ytdedbbbgpjhjhaa.Inst
open Go.RowKit
open Go.Proofs.Ytdedbbbgpjhjhaa.Flt
open Ieee

/-- What an operation on two words may give: the rounded word, or, where it has no answer, some NaN. -/
def Gives (op : BinOp) (x y r : Nat) : Prop := r < 18446744073709551616 ∧ (floatBits op .f64 x y = some r ∨ floatBits op .f64 x y = none ∧ nan r)
def opK (op : BinOp) (x y : Nat) : Nat := match floatBits op .f64 x y with | some r => ofK r | none => 0
def opE (op : BinOp) (x y : Nat) : Int := match floatBits op .f64 x y with | some r => ofE r | none => 202
theorem Gives.key {op : BinOp} {x y r : Nat} (h : Gives op x y r) : ofK r = opK op x y := by
  unfold opK
  rcases h.2 with e | ⟨e, hn⟩
  · rw [e]
  · rw [e]
    exact if_pos hn
theorem Gives.err {op : BinOp} {x y r : Nat} (h : Gives op x y r) : ofE r = opE op x y := by
  unfold opE
  rcases h.2 with e | ⟨e, hn⟩
  · rw [e]
  · rw [e]
    exact if_pos hn
theorem run_op (op : BinOp) (hop : op = .add ∨ op = .sub) (t : TypeId) (x y : Nat) (w : World) :
    ∃ r w', (binOp op t (.float .f64 x) (.float .f64 y)).run Try.prog w = .ok (.float .f64 r) w' ∧ Gives op x y r ∧ Below w.heap.size w w' := by
  cases h : floatBits op .f64 x y with
  | some r =>
    have hw : r < 18446744073709551616 := by
      have := floatBits_wf h
      simpa [Lit.wf] using this
    exact ⟨r, w, run_float_arith w op t .f64 x y r h, ⟨hw, .inl h⟩, Below.refl _ _⟩
  | none =>
    refine ⟨Question.cut (.nanBits .f64 x y) (w.tape w.drawn (.nanBits .f64 x y)), w.drew, ?_, ⟨?_, .inr ⟨h, ?_⟩⟩, (Below.refl _ _).drew⟩
    · unfold floatBits at h
      rcases hop with rfl | rfl <;> (simp only at h; simp [binOp, Op.floatArith, h, Question.forced])
    · simp only [Question.cut]
      omega
    · simp only [Question.cut]
      unfold nan low
      have hi : inf = 9218868437227405312 := rfl
      generalize w.tape w.drawn (.nanBits .f64 x y) = t
      rw [hi]
      have h1 : t / 2 % (2 ^ 52 - 1) < 4503599627370495 := Nat.mod_lt _ (by decide)
      have h2 : t % 2 < 2 := Nat.mod_lt _ (by decide)
      generalize t / 2 % (2 ^ 52 - 1) = u at *
      generalize t % 2 = v at *
      omega

/-- of, where what is made of two times is known but for a NaN's bits. -/
theorem of_good (a b K : Nat) (E : Int) (f : FuncId) (ha : a < 18446744073709551616) (hb : b < 18446744073709551616) (ga : good a) (gb : good b)
    (henter : ∀ (args : Array Value) (W : World), (callFunc f args).run Try.prog W = .ok (.enter f args) W)
    (hmade : ∀ W, Calls Try.prog f #[.float .f64 (toF a), .float .f64 (toF b)] W fun e w' => ∃ r, e = .returned (.float .f64 r) ∧ (r < 18446744073709551616 ∧ ofK r = K ∧ ofE r = E) ∧ Below W.heap.size W w') (w : World) :
    Calls Try.prog 60 #[.int .u64 a, .int .u64 b, .func (.func f) #[] #[]] w fun e w' => e = .returned (.tuple #[.int .u64 K, .int .i64 E]) ∧ Below w.heap.size w w' := by
  have he := Lib.hid (toE_good ga)
  have hf := Lib.hid (toE_good gb)
  have HM := Lib.hid hmade
  clear ga gb hmade
  go_enter Try.func60, Try.ntmps60
  go_wp2_with fail
  refine (to_any a ha _).mono ?_
  rintro e w' ⟨rfl, rfl⟩
  rw [he.out]
  go_wp2_with fail
  refine (to_any b hb _).mono ?_
  rintro e w' ⟨rfl, rfl⟩
  rw [hf.out]
  go_wp2_with fail
  refine (HM.out _).mono ?_
  rintro e w1 ⟨r, rfl, ⟨hr, rfl, rfl⟩, hb1⟩
  go_wp2_with fail
  refine (of_any r hr _).mono ?_
  rintro e w2 ⟨rfl, rfl⟩
  go_wp2
  go_ret2
  exact ⟨rfl, hb1⟩
theorem add_made (x y : Nat) (w : World) :
    Calls Try.prog 61 #[.float .f64 x, .float .f64 y] w fun e w' => ∃ r, e = .returned (.float .f64 r) ∧ (r < 18446744073709551616 ∧ ofK r = opK .add x y ∧ ofE r = opE .add x y) ∧ Below w.heap.size w w' := by
  obtain ⟨r, w', hr, hg, hb⟩ := run_op .add (.inl rfl) 67 x y w
  have hk := hg.key
  have he := hg.err
  have HG := Lib.hid (And.intro hg.1 (And.intro hk he))
  clear hg hk he
  go_enter Try.func61, Try.ntmps61
  go_wp2
  go_ret
  exact ⟨r, rfl, HG.out, hb⟩
end Go.Proofs.Ytdedbbbgpjhjhaa.Inst
