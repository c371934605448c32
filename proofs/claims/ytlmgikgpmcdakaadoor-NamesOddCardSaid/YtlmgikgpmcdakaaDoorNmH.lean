/- Good: whether a text is a name. -/
import Derived.Test.YtlmgikgpmcdakaaDoorNmG
namespace Go.Proofs.YtlmgikgpmcdakaaDoor.Nm
open Go.RowKit Go.Proofs.YtlmgikgpmcdakaaDoor.Mem

theorem any_index (s : ByteArray) (hs : s.size ≤ 4294967280) (w : World) :
    Calls Tryd.prog 39 #[.string s, .string ⟨#[47, 0]⟩] w fun e w' => e = .returned (.int .i64 (Lib.indexAny s.data.toList [47, 0])) ∧ Below w.heap.size w w' := by
  by_cases h8 : s.size ≤ 8
  · exact any_short s h8 w
  · refine (Tryd.strings_IndexAny_long (by intro w; kernel_rfl) s ⟨#[47, 0]⟩ w (by decide) (by omega) (by omega) (by decide) ?_).mono ?_
    · intro j b hj
      rcases j with _ | _ | j
      · injection hj with hj; subst hj; decide
      · injection hj with hj; subst hj; decide
      · cases hj
    · rintro e w' ⟨h, rfl⟩
      exact ⟨h, ((Below.refl _ w).alloc (Nat.le_refl _) _).alloc (by simp) _⟩
/-- Has it a slash or a byte 0? -/
def bad (l : List UInt8) : Bool := decide (0 ≤ Lib.indexAny l [47, 0])
theorem any_has (s : ByteArray) (hs : s.size ≤ 4294967280) (w : World) :
    Calls Tryd.prog 31 #[.string s, .string ⟨#[47, 0]⟩] w fun e w' => e = .returned (.bool (bad s.data.toList)) ∧ Below w.heap.size w w' := by
  have H := Lib.hid (any_index s hs w)
  have HB := Lib.hid (show bad s.data.toList = decide (0 ≤ Lib.indexAny s.data.toList [47, 0]) from rfl)
  go_enter Tryd.func31, Tryd.ntmps31
  go_wp2_with fail
  refine H.out.mono ?_
  rintro e w1 ⟨rfl, hb⟩
  generalize Lib.indexAny s.data.toList [47, 0] = n at *
  go_wp2
  go_ret
  exact ⟨by rw [HB.out]; rfl, hb⟩
/-- What Good answers. -/
def goodM (l : List UInt8) : Int := if l = [] ∨ l = [46] ∨ l = [46, 46] ∨ bad l = true then 22 else if 16 < l.length then 36 else 0
theorem good_any (s : ByteArray) (hs : s.size ≤ 4294967280) (w : World) :
    Calls Tryd.prog 15 #[.string s] w fun e w' => e = .returned (.int .i64 (goodM s.data.toList)) ∧ Below w.heap.size w w' := by
  have H := Lib.hid (any_has s hs w)
  by_cases h0 : s = ⟨#[]⟩
  · subst h0
    go_enter Tryd.func15, Tryd.ntmps15
    go_wp2
    go_ret
    exact ⟨rfl, Below.refl _ _⟩
  · by_cases h1 : s = ⟨#[46]⟩
    · subst h1
      go_enter Tryd.func15, Tryd.ntmps15
      go_wp2
      go_ret
      exact ⟨rfl, Below.refl _ _⟩
    · by_cases h2 : s = ⟨#[46, 46]⟩
      · subst h2
        go_enter Tryd.func15, Tryd.ntmps15
        go_wp2
        go_ret
        exact ⟨rfl, Below.refl _ _⟩
      · have q0 := txt_other h0
        have q1 := txt_other h1
        have q2 := txt_other h2
        have k0 : ¬ s.data.toList = [] := fun h => h0 (bytes_ext h)
        have k1 : ¬ s.data.toList = [46] := fun h => h1 (bytes_ext h)
        have k2 : ¬ s.data.toList = [46, 46] := fun h => h2 (bytes_ext h)
        have q1 : ¬ s.toList = [46] := by rw [ByteArray.toList_eq]; exact k1
        have q2 : ¬ s.toList = [46, 46] := by rw [ByteArray.toList_eq]; exact k2
        have r1 : (s.toList == [46]) = false := beq_eq_false_iff_ne.2 q1
        have r2 : (s.toList == [46, 46]) = false := beq_eq_false_iff_ne.2 q2
        have hemp : s.toList.isEmpty = false := by
          rw [← decide_eq_emptyBytes]
          exact decide_eq_false h0
        have hl : s.data.toList.length = s.size := by simp
        have HG := Lib.hid (show goodM s.data.toList = if bad s.data.toList = true then 22 else if 16 < s.size then 36 else 0 by unfold goodM; rw [hl]; simp [k0, k1, k2])
        clear h0 h1 h2 k0 k1 k2 hl
        go_enter Tryd.func15, Tryd.ntmps15
        go_wp2_with fail
        refine H.out.mono ?_
        rintro e w1 ⟨rfl, hb⟩
        cases hB : bad s.data.toList with
        | true =>
          rw [hB] at HG
          go_wp2
          go_ret
          exact ⟨by rw [HG.out]; rfl, hb⟩
        | false =>
          rw [hB] at HG
          by_cases h16 : 16 < s.size
          · have HG2 := Lib.hid (HG.out.trans (by simp [h16] : _ = (36 : Int)))
            go_wp2
            go_ret
            exact ⟨by rw [HG2.out]; rfl, hb⟩
          · have HG2 := Lib.hid (HG.out.trans (by simp [h16] : _ = (0 : Int)))
            go_wp2
            go_ret
            exact ⟨by rw [HG2.out]; rfl, hb⟩
end Go.Proofs.YtlmgikgpmcdakaaDoor.Nm
