/- The walk of the law InstantAdds. -/
import Derived.Test.YtdedbbbgpjhjhaaInstAddsM
namespace Go.Proofs.Ytdedbbbgpjhjhaa.Inst
open Go.RowKit
open Go.Proofs.Ytdedbbbgpjhjhaa.Flt
open Ieee

/-- What the walk wants to know, by the way it takes. -/
theorem adds_bad (a b c : Nat) (ha : a < 18446744073709551616) (hb : b < 18446744073709551616) (hc : c < 18446744073709551616) (h : addE a b = 202) (w : World) :
    Calls Try.prog 8 #[.int .u64 a, .int .u64 b, .int .u64 c] w fun e w' => e = .returned (.bool true) ∧ Below w.heap.size w w' := by
  have hk := Lib.hid (addK_comm b a)
  have he := Lib.hid (addE_comm b a)
  have h1 := Lib.hid h
  have t1 : (((addK a b : Nat) : Int) != ((addK a b : Nat) : Int)) = false := by simp
  clear h
  go_enter Try.func8, Try.ntmps8
  go_wp2_with fail
  refine (add_any a b ha hb _).mono ?_
  rintro e w1 ⟨rfl, b1⟩
  go_wp2_with fail
  refine (add_any b a hb ha _).mono ?_
  rintro e w2 ⟨rfl, b2⟩
  rw [hk.out, he.out, h1.out]
  go_wp2_with fail
  refine (add_any a c ha hc _).mono ?_
  rintro e w3 ⟨rfl, b3⟩
  go_wp2_with fail
  refine (awake_any _).mono ?_
  rintro e w' ⟨rfl, rfl⟩
  go_wp2
  go_ret
  exact ⟨rfl, (b1.trans (b2.mono b1.size)).trans (b3.mono (Nat.le_trans b1.size b2.size))⟩
theorem adds_bad2 (a b c : Nat) (ha : a < 18446744073709551616) (hb : b < 18446744073709551616) (hc : c < 18446744073709551616) (h : addE a b = 0) (h' : addE a c = 202) (w : World) :
    Calls Try.prog 8 #[.int .u64 a, .int .u64 b, .int .u64 c] w fun e w' => e = .returned (.bool true) ∧ Below w.heap.size w w' := by
  have hk := Lib.hid (addK_comm b a)
  have he := Lib.hid (addE_comm b a)
  have h1 := Lib.hid h
  have h2 := Lib.hid h'
  have t1 : (((addK a b : Nat) : Int) != ((addK a b : Nat) : Int)) = false := by simp
  clear h h'
  go_enter Try.func8, Try.ntmps8
  go_wp2_with fail
  refine (add_any a b ha hb _).mono ?_
  rintro e w1 ⟨rfl, b1⟩
  go_wp2_with fail
  refine (add_any b a hb ha _).mono ?_
  rintro e w2 ⟨rfl, b2⟩
  rw [hk.out, he.out, h1.out]
  go_wp2_with fail
  refine (add_any a c ha hc _).mono ?_
  rintro e w3 ⟨rfl, b3⟩
  rw [h2.out]
  go_wp2_with fail
  refine (awake_any _).mono ?_
  rintro e w' ⟨rfl, rfl⟩
  go_wp2
  go_ret
  exact ⟨rfl, (b1.trans (b2.mono b1.size)).trans (b3.mono (Nat.le_trans b1.size b2.size))⟩
theorem adds_over (a b c : Nat) (ha : a < 18446744073709551616) (hb : b < 18446744073709551616) (hc : c < 18446744073709551616) (h : addE a b = 0) (h' : addE a c = 0) (hbc : ¬ b ≤ c) (w : World) :
    Calls Try.prog 8 #[.int .u64 a, .int .u64 b, .int .u64 c] w fun e w' => e = .returned (.bool true) ∧ Below w.heap.size w w' := by
  have hk := Lib.hid (addK_comm b a)
  have he := Lib.hid (addE_comm b a)
  have h1 := Lib.hid h
  have h2 := Lib.hid h'
  have t1 : (((addK a b : Nat) : Int) != ((addK a b : Nat) : Int)) = false := by simp
  have t2 : decide (c < b) = true := decide_eq_true (by omega)
  clear h h' hbc
  go_enter Try.func8, Try.ntmps8
  go_wp2_with fail
  refine (add_any a b ha hb _).mono ?_
  rintro e w1 ⟨rfl, b1⟩
  go_wp2_with fail
  refine (add_any b a hb ha _).mono ?_
  rintro e w2 ⟨rfl, b2⟩
  rw [hk.out, he.out, h1.out]
  go_wp2_with fail
  refine (add_any a c ha hc _).mono ?_
  rintro e w3 ⟨rfl, b3⟩
  rw [h2.out]
  go_wp2_with fail
  refine (awake_any _).mono ?_
  rintro e w' ⟨rfl, rfl⟩
  go_wp2
  go_ret
  exact ⟨rfl, (b1.trans (b2.mono b1.size)).trans (b3.mono (Nat.le_trans b1.size b2.size))⟩
theorem adds_up (a b c : Nat) (ha : a < 18446744073709551616) (hb : b < 18446744073709551616) (hc : c < 18446744073709551616) (h : addE a b = 0) (h' : addE a c = 0) (hbc : b ≤ c) (w : World) :
    Calls Try.prog 8 #[.int .u64 a, .int .u64 b, .int .u64 c] w fun e w' => e = .returned (.bool true) ∧ Below w.heap.size w w' := by
  have hk := Lib.hid (addK_comm b a)
  have he := Lib.hid (addE_comm b a)
  have h1 := Lib.hid h
  have h2 := Lib.hid h'
  have hm := adds_mono a b c ha hb hc h h' hbc
  have t1 : (((addK a b : Nat) : Int) != ((addK a b : Nat) : Int)) = false := by simp
  have t2 : decide (c < b) = false := decide_eq_false (by omega)
  have t3 : decide (addK a b ≤ addK a c) = true := decide_eq_true hm
  clear h h' hbc hm
  go_enter Try.func8, Try.ntmps8
  go_wp2_with fail
  refine (add_any a b ha hb _).mono ?_
  rintro e w1 ⟨rfl, b1⟩
  go_wp2_with fail
  refine (add_any b a hb ha _).mono ?_
  rintro e w2 ⟨rfl, b2⟩
  rw [hk.out, he.out, h1.out]
  go_wp2_with fail
  refine (add_any a c ha hc _).mono ?_
  rintro e w3 ⟨rfl, b3⟩
  rw [h2.out]
  go_wp2_with fail
  refine (awake_any _).mono ?_
  rintro e w' ⟨rfl, rfl⟩
  go_wp2
  go_ret
  exact ⟨rfl, (b1.trans (b2.mono b1.size)).trans (b3.mono (Nat.le_trans b1.size b2.size))⟩
theorem adds_any (a b c : Nat) (ha : a < 18446744073709551616) (hb : b < 18446744073709551616) (hc : c < 18446744073709551616) (w : World) :
    Calls Try.prog 8 #[.int .u64 a, .int .u64 b, .int .u64 c] w fun e w' => e = .returned (.bool true) ∧ Below w.heap.size w w' := by
  rcases addE_cases a b with h | h
  · rcases addE_cases a c with h' | h'
    · by_cases hbc : b ≤ c
      · exact adds_up a b c ha hb hc h h' hbc w
      · exact adds_over a b c ha hb hc h h' hbc w
    · exact adds_bad2 a b c ha hb hc h h' w
  · exact adds_bad a b c ha hb hc h w
theorem adds_walk (a0 a1 a2 : Int) (w0 : (Lit.int .u64 a0).wf = true) (w1 : (Lit.int .u64 a1).wf = true) (w2 : (Lit.int .u64 a2).wf = true) (w : World) :
    Calls Try.prog 8 #[.int .u64 a0, .int .u64 a1, .int .u64 a2] w fun e w' => e = .returned (.bool true) ∧ Below w.heap.size w w' := by
  obtain ⟨a, rfl, ha⟩ := u64_nat a0 w0
  obtain ⟨b, rfl, hb⟩ := u64_nat a1 w1
  obtain ⟨c, rfl, hc⟩ := u64_nat a2 w2
  exact adds_any a b c ha hb hc w
end Go.Proofs.Ytdedbbbgpjhjhaa.Inst
