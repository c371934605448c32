/- An eye that does not look, or not any more: zero answers. -/
import Derived.Test.YtancbkmgbhigpaaOctAwake
namespace Go.Proofs.Ytancbkmgbhigpaa.Oct
open Go.RowKit

inductive Idle (w : World) : Option Addr → Prop where
  | nobody : Idle w none
  | bare (q : Nat) : Has w q 61 #[.pointer none] → Idle w (some ⟨q, 0, none⟩)
  | done (q s : Nat) (r : ByteArray) (y : Int) : Has w q 61 #[.pointer (some ⟨s, 0, none⟩)] → Sight w s r true y → Idle w (some ⟨q, 0, none⟩)
theorem Has.below {w w' : World} {g : Nat} {t : TypeId} {cs : Array Value} (h : Has w g t cs) (hb : Below w.heap.size w w') : Has w' g t cs := by
  unfold Has
  rw [hb.block g h.bound]
  exact h
theorem Idle.below {w w' : World} {e : Option Addr} (h : Idle w e) (hb : Below w.heap.size w w') : Idle w' e := by
  cases h with
  | nobody => exact .nobody
  | bare q h => exact .bare q (h.below hb)
  | done q s r y h k => exact .done q s r y (h.below hb) (Has.below k hb)
theorem open_idle (e : Option Addr) (w : World) (h : Idle w e) :
    Calls Try.prog 37 #[.pointer e] w fun x w' => x = .returned (.pointer none) ∧ w = w' := by
  cases h with
  | nobody =>
    go_enter Try.func37, Try.ntmps37
    go_wp2
    go_ret
    exact ⟨rfl, rfl⟩
  | bare q h =>
    have cq := Has.at_ h 0
    simp at cq
    go_enter Try.func37, Try.ntmps37
    go_wp2
    go_ret
    exact ⟨rfl, rfl⟩
  | done q s r y h k =>
    have cq := Has.at_ h 0
    have c1 := Has.at_ k 1
    simp at cq c1
    go_enter Try.func37, Try.ntmps37
    go_wp2
    go_ret
    exact ⟨rfl, rfl⟩
theorem fail_idle (e : Option Addr) (n : Int) (w : World) (h : Idle w e) :
    Calls Try.prog 32 #[.pointer e, .int .i64 n] w fun x w' => x = .returned (.tuple #[]) ∧ w = w' := by
  go_enter Try.func32, Try.ntmps32
  go_wp2_with fail
  refine (open_idle e _ h).mono ?_
  rintro x w' ⟨rfl, rfl⟩
  go_wp2
  go_end0
  exact ⟨rfl, rfl⟩
theorem left_idle (e : Option Addr) (w : World) (h : Idle w e) :
    Calls Try.prog 31 #[.pointer e] w fun x w' => x = .returned (.int .i64 0) ∧ w = w' := by
  go_enter Try.func31, Try.ntmps31
  go_wp2_with fail
  refine (open_idle e _ h).mono ?_
  rintro x w' ⟨rfl, rfl⟩
  go_wp2
  go_ret
  exact ⟨rfl, rfl⟩
theorem raw_idle (e : Option Addr) (n : Int) (w : World) (h : Idle w e) :
    Calls Try.prog 30 #[.pointer e, .int .i64 n] w fun x w' => x = .returned (.string ⟨#[]⟩) ∧ w = w' := by
  go_enter Try.func30, Try.ntmps30
  go_wp2_with fail
  refine (open_idle e _ h).mono ?_
  rintro x w' ⟨rfl, rfl⟩
  go_wp2
  go_ret
  exact ⟨rfl, rfl⟩
theorem num_idle (e : Option Addr) (n : Int) (w : World) (h : Idle w e) :
    Calls Try.prog 19 #[.pointer e, .int .i64 n] w fun x w' => x = .returned (.int .i64 0) ∧ w = w' := by
  by_cases h1 : n < 1
  · go_enter Try.func19, Try.ntmps19
    go_wp2_with fail
    refine (fail_idle e _ _ h).mono ?_
    rintro x w' ⟨rfl, rfl⟩
    go_wp2
    go_ret
    exact ⟨rfl, rfl⟩
  · by_cases h2 : 8 < n
    · go_enter Try.func19, Try.ntmps19
      go_wp2_with fail
      refine (fail_idle e _ _ h).mono ?_
      rintro x w' ⟨rfl, rfl⟩
      go_wp2
      go_ret
      exact ⟨rfl, rfl⟩
    · go_enter Try.func19, Try.ntmps19
      go_wp2_with fail
      refine (raw_idle e _ _ h).mono ?_
      rintro x w' ⟨rfl, rfl⟩
      go_wp2
      go_loop [6, 21] (fun m i => i = .int .i64 0 ∧ m = .int .u64 0) (fun _ _ => 0)
      case atStart => exact ⟨rfl, rfl⟩
      case round =>
        obtain ⟨rfl, rfl⟩ := hrel
        go_wp2
        go_ret
        exact ⟨rfl, rfl⟩
theorem text_idle (e : Option Addr) (n : Int) (w : World) (h : Idle w e) :
    Calls Try.prog 29 #[.pointer e, .int .i64 n] w fun x w' => x = .returned (.string ⟨#[]⟩) ∧ w = w' := by
  by_cases h1 : n < 0
  · go_enter Try.func29, Try.ntmps29
    go_wp2_with fail
    refine (num_idle e _ _ h).mono ?_
    rintro x w' ⟨rfl, rfl⟩
    go_wp2_with fail
    refine (fail_idle e _ _ h).mono ?_
    rintro x w' ⟨rfl, rfl⟩
    go_wp2_with fail
    refine (raw_idle e _ _ h).mono ?_
    rintro x w' ⟨rfl, rfl⟩
    go_wp2
    go_ret
    exact ⟨rfl, rfl⟩
  · go_enter Try.func29, Try.ntmps29
    go_wp2_with fail
    refine (num_idle e _ _ h).mono ?_
    rintro x w' ⟨rfl, rfl⟩
    go_wp2_with fail
    refine (raw_idle e _ _ h).mono ?_
    rintro x w' ⟨rfl, rfl⟩
    go_wp2
    go_ret
    exact ⟨rfl, rfl⟩
end Go.Proofs.Ytancbkmgbhigpaa.Oct
