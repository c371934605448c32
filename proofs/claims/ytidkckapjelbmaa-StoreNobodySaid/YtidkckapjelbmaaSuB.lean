/- A store that no call made: nothing befalls it. -/
import Derived.Test.YtidkckapjelbmaaSuA
namespace Go.Proofs.Ytidkckapjelbmaa.Sto
open Go.RowKit
open Oct (Has Chg)
open Rws

inductive Nob (w : World) : Option Addr → Prop where
  | none : Nob w none
  | bare (q : Nat) : Has w q 55 #[.int .i64 0, .int .i64 0, .string ⟨#[]⟩, .pointer none, .map none, .map none] → Nob w (some ⟨q, 0, none⟩)
theorem Nob.below {w w' : World} {e : Option Addr} (h : Nob w e) (hb : Below w.heap.size w w') : Nob w' e := by
  cases h with
  | none => exact .none
  | bare q h => exact .bare q (has_blw h hb)
theorem made_no (e : Option Addr) (w : World) (h : Nob w e) :
    Calls Try.prog 33 #[.pointer e] w fun x w' => x = .returned (.bool false) ∧ w = w' := by
  cases h with
  | none =>
    go_enter Try.func33, Try.ntmps33
    go_wp2
    go_ret
    exact ⟨rfl, rfl⟩
  | bare q h =>
    have c3 := Has.at_ h 3
    simp at c3
    go_enter Try.func33, Try.ntmps33
    go_wp2
    go_ret
    exact ⟨rfl, rfl⟩
theorem put_no (e : Option Addr) (A : Option Addr) (n c : Nat) (t : ByteArray) (w : World) (h : Nob w e) :
    Calls Try.prog 14 #[.pointer e, .slice A n c, .string t] w fun x w' => x = .returned (.tuple #[.int .i64 0, .int .i64 200]) ∧ w = w' := by
  have HM := Lib.hid (made_no e w h)
  clear h
  go_enter Try.func14, Try.ntmps14
  go_wp2_with fail
  refine HM.out.mono ?_
  rintro x w' ⟨rfl, rfl⟩
  go_wp2
  go_ret2
  exact ⟨rfl, rfl⟩
theorem hold_no (e : Option Addr) (i : Int) (w : World) (h : Nob w e) :
    Calls Try.prog 22 #[.pointer e, .int .i64 i] w fun x w' => x = .returned (.int .i64 200) ∧ w = w' := by
  have HM := Lib.hid (made_no e w h)
  clear h
  go_enter Try.func22, Try.ntmps22
  go_wp2_with fail
  refine HM.out.mono ?_
  rintro x w' ⟨rfl, rfl⟩
  go_wp2
  go_ret
  exact ⟨rfl, rfl⟩
theorem drop_no (e : Option Addr) (i : Int) (w : World) (h : Nob w e) :
    Calls Try.prog 31 #[.pointer e, .int .i64 i] w fun x w' => x = .returned (.int .i64 200) ∧ w = w' := by
  have HM := Lib.hid (made_no e w h)
  clear h
  go_enter Try.func31, Try.ntmps31
  go_wp2_with fail
  refine HM.out.mono ?_
  rintro x w' ⟨rfl, rfl⟩
  go_wp2
  go_ret
  exact ⟨rfl, rfl⟩
theorem sweep_no (e : Option Addr) (w : World) (h : Nob w e) :
    Calls Try.prog 20 #[.pointer e] w fun x w' => x = .returned (.int .i64 0) ∧ w = w' := by
  have HM := Lib.hid (made_no e w h)
  clear h
  go_enter Try.func20, Try.ntmps20
  go_wp2_with fail
  refine HM.out.mono ?_
  rintro x w' ⟨rfl, rfl⟩
  go_wp2
  go_ret
  exact ⟨rfl, rfl⟩
theorem commit_no (e : Option Addr) (i : Int) (t : ByteArray) (w : World) (h : Nob w e) :
    Calls Try.prog 23 #[.pointer e, .int .i64 i, .string t] w fun x w' => x = .returned (.int .i64 200) ∧ w = w' := by
  have HM := Lib.hid (made_no e w h)
  clear h
  go_enter Try.func23, Try.ntmps23
  go_wp2_with fail
  refine HM.out.mono ?_
  rintro x w' ⟨rfl, rfl⟩
  go_wp2
  go_ret
  exact ⟨rfl, rfl⟩
theorem root_no (e : Option Addr) (w : World) (h : Nob w e) :
    Calls Try.prog 18 #[.pointer e] w fun x w' => x = .returned (.tuple #[.int .i64 0, .string ⟨#[]⟩, .int .i64 0]) ∧ w = w' := by
  have HM := Lib.hid (made_no e w h)
  clear h
  go_enter Try.func18, Try.ntmps18
  go_wp2_with fail
  refine HM.out.mono ?_
  rintro x w' ⟨rfl, rfl⟩
  go_wp2
  go_ret3
  exact ⟨rfl, rfl⟩
theorem refs_no (e : Option Addr) (i : Int) (w : World) (h : Nob w e) :
    Calls Try.prog 16 #[.pointer e, .int .i64 i] w fun x w' => x = .returned (.tuple #[.int .i64 0, .int .i64 0, .bool false]) ∧ w = w' := by
  have HM := Lib.hid (made_no e w h)
  clear h
  go_enter Try.func16, Try.ntmps16
  go_wp2_with fail
  refine HM.out.mono ?_
  rintro x w' ⟨rfl, rfl⟩
  go_wp2
  go_ret3
  exact ⟨rfl, rfl⟩
theorem live_no (e : Option Addr) (w : World) (h : Nob w e) :
    Calls Try.prog 19 #[.pointer e] w fun x w' => x = .returned (.slice none 0 0) ∧ w = w' := by
  have HM := Lib.hid (made_no e w h)
  clear h
  go_enter Try.func19, Try.ntmps19
  go_wp2_with fail
  refine HM.out.mono ?_
  rintro x w' ⟨rfl, rfl⟩
  go_wp2
  go_ret
  exact ⟨rfl, rfl⟩
theorem free_no (e : Option Addr) (w : World) (h : Nob w e) :
    Calls Try.prog 12 #[.pointer e] w fun x w' => x = .returned (.int .i64 0) ∧ w = w' := by
  have HM := Lib.hid (made_no e w h)
  clear h
  go_enter Try.func12, Try.ntmps12
  go_wp2_with fail
  refine HM.out.mono ?_
  rintro x w' ⟨rfl, rfl⟩
  go_wp2
  go_ret
  exact ⟨rfl, rfl⟩
theorem get_no (e : Option Addr) (i : Int) (w : World) (h : Nob w e) :
    Calls Try.prog 15 #[.pointer e, .int .i64 i] w fun x w' => x = .returned (.tuple #[.agg #[.slice none 0 0, .string ⟨#[]⟩], .int .i64 200]) ∧ Below w.heap.size w w' := by
  have hB0 := (Below.refl w.heap.size w).alloc (Nat.le_refl _) (.cells #[.slice none 0 0, .string ⟨#[]⟩] 38)
  have HM := Lib.hid (made_no e _ (h.below hB0))
  have HB0 := Lib.hid hB0
  clear h hB0
  go_enter Try.func15, Try.ntmps15
  go_wp2_with fail
  refine HM.out.mono ?_
  rintro x w' ⟨rfl, rfl⟩
  go_wp2
  exact bodyPost_ret (v := .tuple #[.agg #[.slice none 0 0, .string ⟨#[]⟩], .int .i64 200]) (by simp [results, Try.results15, go_sem]) rfl ⟨rfl, HB0.out⟩
theorem dsize_no (w : World) :
    Calls Try.prog 26 #[.pointer none] w fun x w' => x = .returned (.int .i64 0) ∧ w = w' := by
  go_enter Try.func26, Try.ntmps26
  go_wp2
  go_ret
  exact ⟨rfl, rfl⟩
theorem open_no (w : World) :
    Calls Try.prog 21 #[.pointer none] w fun x w' => x = .returned (.tuple #[.pointer none, .int .i64 200]) ∧ w = w' := by
  go_enter Try.func21, Try.ntmps21
  go_wp2_with fail
  refine (dsize_no _).mono ?_
  rintro x w' ⟨rfl, rfl⟩
  go_wp2
  go_ret2
  exact ⟨rfl, rfl⟩
theorem format_no (t : ByteArray) (w : World) :
    Calls Try.prog 9 #[.pointer none, .string t] w fun x w' => x = .returned (.tuple #[.pointer none, .int .i64 200]) ∧ w = w' := by
  go_enter Try.func9, Try.ntmps9
  go_wp2_with fail
  refine (dsize_no _).mono ?_
  rintro x w' ⟨rfl, rfl⟩
  go_wp2
  go_ret2
  exact ⟨rfl, rfl⟩
end Go.Proofs.Ytidkckapjelbmaa.Sto
