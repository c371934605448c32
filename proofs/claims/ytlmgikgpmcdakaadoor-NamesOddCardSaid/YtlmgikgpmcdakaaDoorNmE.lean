/- Whether a text has a slash or a byte 0. -/
import Derived.Test.YtlmgikgpmcdakaaDoorNmD
import Derived.Laws.RangeAny
import Derived.Laws.Runes
import Derived.Deep.LoopGhost
import Derived.RegionTactic
namespace Go.Proofs.YtlmgikgpmcdakaaDoor.Nm
open Go.RowKit Go.Proofs.YtlmgikgpmcdakaaDoor.Mem

/-- The two signs. -/
def two : ByteArray := ⟨#[47, 0]⟩
set_option maxRecDepth 100000 in
theorem rune_error (w : World) :
    Calls Tryd.prog 50 #[.string ⟨#[47, 0]⟩, .int .i32 65533] w fun e w' => e = .returned (.int .i64 (-1)) ∧ Below w.heap.size w w' := by
  go_enter Tryd.func50, Tryd.ntmps50
  go_wp2_with fail
  go_loopg [5, 6] 2 (fun g _ _ wx => ∃ i : Nat, i + g = 2 ∧ wx = w.iter ⟨#[47, 0]⟩ i)
  case atStart => exact ⟨0, rfl, rfl⟩
  case round =>
    obtain ⟨i, hi, rfl⟩ := hrel
    have n0 := fun ty => run_next_ascii (P := Tryd.prog) w ⟨#[47, 0]⟩ 0 ty (by decide) (by decide)
    have n1 := fun ty => run_next_ascii (P := Tryd.prog) w ⟨#[47, 0]⟩ 1 ty (by decide) (by decide)
    have n2 := run_next_end (P := Tryd.prog) w ⟨#[47, 0]⟩ 2
    rcases gk with _ | _ | _ | g
    · obtain rfl : i = 2 := by omega
      go_wp2
      go_ret
      exact ⟨rfl, (Below.refl _ w).alloc (Nat.le_refl _) _⟩
    · obtain rfl : i = 1 := by omega
      go_wp2
      go_roundg 0
      case measure => omega
      case rel => exact ⟨2, rfl, rfl⟩
    · obtain rfl : i = 0 := by omega
      go_wp2
      go_roundg 1
      case measure => omega
      case rel => exact ⟨1, rfl, rfl⟩
    · omega
theorem idx_empty (c : Int) (w : World) : Calls Tryd.prog 66 #[.string ByteArray.empty, .int .u8 c] w fun e w' => e = .returned (.int .i64 (-1)) ∧ w' = w :=
  (Tryd.strings_IndexByte ByteArray.empty c w).mono fun e w' ⟨h, k⟩ => ⟨by rw [h]; rfl, k⟩
theorem size_two (R : ByteArray) (h : R.size = 2) : ∃ a b, R = ⟨#[a, b]⟩ := by
  obtain ⟨⟨l⟩⟩ := R
  match l, h with
  | [a, b], _ => exact ⟨a, b, rfl⟩
set_option maxRecDepth 100000 in
theorem rune_high (r : Int) (h0 : 128 ≤ r) (h1 : r ≤ 1114111) (hne : ¬ r = 65533) (w : World) :
    Calls Tryd.prog 50 #[.string ⟨#[47, 0]⟩, .int .i32 r] w fun e w' => e = .returned (.int .i64 (-1)) ∧ Below w.heap.size w w' := by
  have hV := Lib.hid (Tryd.utf8_ValidRune r w)
  by_cases hv : Utf8.valid r = true
  · have hl : Lib.validRune r = true := by
      rw [Go.validRune_eq] at hv
      unfold Go.validRune at hv
      unfold Lib.validRune
      exact hv
    obtain ⟨hs2, hs4, hb⟩ := encode_facts r hv h0
    clear hv
    go_enter Tryd.func50, Tryd.ntmps50
    go_wp2_with fail
    refine hV.out.mono ?_
    rintro e w' ⟨rfl, hw'⟩
    rw [hl, hw']
    clear hw'
    go_wp2_with fail
    go_step3
    go_wp2_with fail
    generalize Utf8.encode r = R at *
    go_loopw [9, 10] (fun i f wr => i = .int .i64 ((R.size : Int) - 1) ∧ f = .int .i64 0 ∧ wr = w) (fun _ _ _ => 0)
    case atStart => exact ⟨rfl, rfl, rfl⟩
    case round =>
      obtain ⟨rfl, rfl, hwr⟩ := hrel
      subst hwr
      by_cases h2 : R.size = 2
      · obtain ⟨a, b, rfl⟩ := size_two R h2
        have hI := Lib.hid idx_empty
        have hb2 : 128 ≤ b.toNat := hb (by show 1 < 2; omega)
        have hb3 : ((((⟨#[47, 0]⟩ : ByteArray)[1]'(by decide)).toNat : Int) != (((⟨#[a, b]⟩ : ByteArray)[1]'(by show 1 < 2; omega)).toNat : Int)) = true := by
          show ((0 : Int) != (b.toNat : Int)) = true
          simp
          omega
        clear hb hs2 hs4
        go_wp2_with fail
        go_step3
        go_wp2_with fail
        go_region
        go_wp2_with fail
        go_region_with (go_at_call 66; refine (hI.out _ _).mono ?_; rintro e w' ⟨rfl, rfl⟩)
        all_goals go_wp2_with fail
        all_goals rw [Exit.noGoto_ret]
        all_goals show bodyPost Tryd.prog Tryd.f50 (fun e w' => e = .returned (.int .i64 (-1)) ∧ Below wr.heap.size wr w') Exit.ret _ _
        all_goals go_ret
        all_goals exact ⟨rfl, ((Below.refl _ wr).drew).drew⟩
      · have h3 : ¬ ((R.size : Int) - 1 < 2) := by omega
        go_wp2_with fail
        go_ret
        exact ⟨rfl, Below.refl _ _⟩
  · have hl : Lib.validRune r = false := by
      rw [Go.validRune_eq] at hv
      unfold Go.validRune at hv
      unfold Lib.validRune
      simpa using hv
    go_enter Tryd.func50, Tryd.ntmps50
    go_wp2_with fail
    refine hV.out.mono ?_
    rintro e w' ⟨rfl, hw'⟩
    rw [hl, hw']
    clear hw'
    go_wp2_with fail
    go_ret
    exact ⟨rfl, Below.refl _ _⟩

end Go.Proofs.YtlmgikgpmcdakaaDoor.Nm
