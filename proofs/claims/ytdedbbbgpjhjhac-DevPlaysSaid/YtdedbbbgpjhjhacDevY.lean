/- slices.Clone of numbers: contract. -/
import Derived.Test.YtdedbbbgpjhjhacDevV
import Derived.Test.YtdedbbbgpjhjhacDevX
import Derived.Lib.SliceRun
import Derived.Lib.AppendStr
namespace Go.Proofs.Ytdedbbbgpjhjhac.Dv
open Go.RowKit
open Mem
open Rws

theorem num_news {w : World} {ad : Addr} {n : Nat} {l : List Int} (h : NumRow w (some ad) n l) : ∀ j u, (l.map (Value.int .i64))[j]? = some u → w.cell? (ad.add j) = some u := by
  intro j u hu
  have hj : j < l.length := by
    have := (List.getElem?_eq_some_iff.1 hu).1
    simpa using this
  obtain ⟨b, off, e, _, hx⟩ := h.2 (by have := h.1; omega)
  injection e with e
  subst e
  rw [List.getElem?_map, List.getElem?_eq_getElem hj] at hu
  have ha : (⟨b, off, none⟩ : Addr).add j = ⟨b, off + j, none⟩ := by
    unfold Addr.add
    split
    · next h => rw [h]; rfl
    · rfl
  rw [ha, hx j hj]
  exact hu
theorem nums_one (l : List Int) : ∀ u ∈ l.map (Value.int .i64), u.oneCell' = true := by
  intro u hu
  obtain ⟨b, _, rfl⟩ := List.mem_map.1 hu
  rfl
set_option maxRecDepth 100000 in
theorem cloni_some (ad : Addr) (n c : Nat) (l : List Int) (hn : n ≤ 1048576) (w : World) (h : NumRow w (some ad) n l) :
    Calls Try.prog 14 #[.slice (some ad) n c] w fun e w' => ∃ v, e = .returned v ∧ Ints w' w.heap.size v l ∧ Below w.heap.size w w' := by
  obtain ⟨i0, hi, hz0, hz1, hz2⟩ := info_parts info_i
  have HI := Lib.hid (And.intro hi (And.intro hz0 (And.intro hz1 hz2)))
  clear hi hz0 hz1 hz2
  have HB := Lib.hid ((Below.refl w.heap.size w).alloc (Nat.le_refl _) (.cells #[] 3))
  have HR := Lib.hid (num_news (h.below HB.out))
  have HL := Lib.hid h.1
  have q22 : ∀ (w : World) (a : Option Addr) (n c n' c' : Nat), (binOp .eql 32 (.slice a n c) (.slice none n' c')).run Try.prog w = .ok (.bool a.isNone) w := fun w a n c n' c' => Lib.run_eql_slice_nil w _ _ a n c n' c' Try.underlying32
  clear h
  go_enter Try.func14, Try.ntmps14
  go_wp2_with (at_builtin; refine wpList_append_own (w.alloc (.cells #[] 3)) rfl _ _ _ rfl w.heap.size 3 i0 (.int .i64 0) 1 8 Try.underlying32 HI.out.1 HI.out.2.1 HI.out.2.2.1 HI.out.2.2.2 rfl (by decide) _ 0 [] rfl (World.ownsRow_made w #[] 0 (Nat.le_refl _) (Nat.zero_le _) (by simp)) ad n c (l.map (Value.int .i64)) rfl ?c1 HR.out (nums_one l) ?c2 ?c3 ?c4 ?_)
  case c1 => rw [List.length_map, HL.out, Nat.mul_one]
  case c2 => unfold maxLen; omega
  case c3 => omega
  case c4 => simp
  intro v w1 h1 h2 _
  go_wp2
  go_ret
  refine ⟨_, rfl, ?_, HB.out.grown h2 (by simp) (fun k hk => ?_)⟩
  · unfold Ints
    rw [HL.out]
    simpa using h1
  · simp [Value.ownBlock] at hk
    omega
theorem cloni_nil (c : Nat) (w : World) :
    Calls Try.prog 14 #[.slice none 0 c] w fun e w' => ∃ v, e = .returned v ∧ Ints w' w.heap.size v [] ∧ Below w.heap.size w w' := by
  have q22 : ∀ (w : World) (a : Option Addr) (n c n' c' : Nat), (binOp .eql 32 (.slice a n c) (.slice none n' c')).run Try.prog w = .ok (.bool a.isNone) w := fun w a n c n' c' => Lib.run_eql_slice_nil w _ _ a n c n' c' Try.underlying32
  go_enter Try.func14, Try.ntmps14
  go_wp2
  go_ret
  exact ⟨_, rfl, World.ownsRow_nil _ _ _ _, Below.refl _ _⟩
theorem cloni_any (A : Option Addr) (n c : Nat) (l : List Int) (hn : n ≤ 1048576) (w : World) (h : NumRow w A n l) :
    Calls Try.prog 14 #[.slice A n c] w fun e w' => ∃ v, e = .returned v ∧ Ints w' w.heap.size v l ∧ Below w.heap.size w w' := by
  cases A with
  | none =>
    obtain rfl : n = 0 := by
      rcases Nat.eq_zero_or_pos n with k | k
      · exact k
      · obtain ⟨b, off, e, _⟩ := h.2 k
        cases e
    obtain rfl : l = [] := List.eq_nil_of_length_eq_zero h.1
    exact cloni_nil c w
  | some ad => exact cloni_some ad n c l hn w h
end Go.Proofs.Ytdedbbbgpjhjhac.Dv
