/- slices.Clone of bytes: contract. -/
import Derived.Test.YtancbkmgbhigpaaOctAwake
import Derived.Lib.SliceRun
import Derived.Lib.AppendStr
namespace Go.Proofs.Ytancbkmgbhigpaa.Oct
open Go.RowKit

set_option maxRecDepth 100000 in
theorem clone_some (ad : Addr) (n c : Nat) (l : List UInt8) (hn : n ≤ 1048576) (w : World) (h : RowB w (some ad) n l) :
    Calls Try.prog 7 #[.slice (some ad) n c] w fun e w' => ∃ v, e = .returned v ∧ Owns w' w.heap.size v l ∧ Below w.heap.size w w' := by
  obtain ⟨i0, hi, hz0, hz1, hz2⟩ := info_parts info_u8
  have HI := Lib.hid (And.intro hi (And.intro hz0 (And.intro hz1 hz2)))
  clear hi hz0 hz1 hz2
  have HB := Lib.hid ((Below.refl w.heap.size w).alloc (Nat.le_refl _) (.cells #[] 5))
  have HR := Lib.hid (row_news (h.below HB.out))
  have HL := Lib.hid h.1
  have q22 : ∀ (w : World) (a : Option Addr) (n c n' c' : Nat), (binOp .eql 22 (.slice a n c) (.slice none n' c')).run Try.prog w = .ok (.bool a.isNone) w := fun w a n c n' c' => Lib.run_eql_slice_nil w _ _ a n c n' c' Try.underlying22
  clear h
  go_enter Try.func7, Try.ntmps7
  go_wp2_with (at_builtin; refine wpList_append_own (w.alloc (.cells #[] 5)) rfl _ _ _ rfl w.heap.size 5 i0 (.int .u8 0) 1 1 Try.underlying22 HI.out.1 HI.out.2.1 HI.out.2.2.1 HI.out.2.2.2 rfl (by decide) _ 0 [] rfl (World.ownsRow_made w #[] 0 (Nat.le_refl _) (Nat.zero_le _) (by simp)) ad n c (l.map bv) rfl ?c1 HR.out (bytes_one l) ?c2 ?c3 ?c4 ?_)
  case c1 => rw [List.length_map, HL.out, Nat.mul_one]
  case c2 => unfold maxLen; omega
  case c3 => omega
  case c4 => simp
  intro v w1 h1 h2 _
  go_wp2
  go_ret
  refine ⟨_, rfl, ?_, HB.out.grown h2 (by simp) (fun k hk => ?_)⟩
  · unfold Owns
    rw [HL.out]
    simpa using h1
  · simp [Value.ownBlock] at hk
    omega
theorem clone_nil (w : World) :
    Calls Try.prog 7 #[.slice none 0 0] w fun e w' => ∃ v, e = .returned v ∧ Owns w' w.heap.size v [] ∧ Below w.heap.size w w' := by
  have q22 : ∀ (w : World) (a : Option Addr) (n c n' c' : Nat), (binOp .eql 22 (.slice a n c) (.slice none n' c')).run Try.prog w = .ok (.bool a.isNone) w := fun w a n c n' c' => Lib.run_eql_slice_nil w _ _ a n c n' c' Try.underlying22
  go_enter Try.func7, Try.ntmps7
  go_wp2
  go_ret
  exact ⟨_, rfl, World.ownsRow_nil _ _ _ _, Below.refl _ _⟩
theorem clone_any (A : Option Addr) (n c : Nat) (l : List UInt8) (hn : n ≤ 1048576) (w : World) (h : RowB w A n l) (h0 : A = none → n = 0 ∧ c = 0) :
    Calls Try.prog 7 #[.slice A n c] w fun e w' => ∃ v, e = .returned v ∧ Owns w' w.heap.size v l ∧ Below w.heap.size w w' := by
  cases A with
  | none =>
    obtain ⟨rfl, rfl⟩ := h0 rfl
    obtain rfl : l = [] := List.eq_nil_of_length_eq_zero h.1
    exact clone_nil w
  | some ad => exact clone_some ad n c l hn w h
end Go.Proofs.Ytancbkmgbhigpaa.Oct
