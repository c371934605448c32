/- Fail: what it throws, and what it leaves; the eye's calls that throw. -/
import Derived.Test.YtfjmcklmoebnaaaDoorOctEye
import Derived.Recover
namespace Go.Proofs.YtfjmcklmoebnaaaDoor.Oct
open Go.RowKit

/-- What a looking throws: itself. -/
def own (s : Nat) : List PanicEntry := [{ v := .iface 89 (.pointer (some ⟨s, 0, none⟩)), recovered := false }]
theorem end_any (s : Nat) (r : ByteArray) (y z : Int) (w : World) (h : Sight w s r false y) :
    Calls Tryd.prog 82 #[.pointer (some ⟨s, 0, none⟩), .int .i64 z] w fun e w' => e = .returned (.tuple #[]) ∧ Sight w' s r true z ∧ Chg (· = s) w w' := by
  have c1 := Has.at_ h 1
  have c2 := Has.at_ h 2
  have f1 := Has.free h 1
  have f2 := Has.free h 2
  simp at c1 c2
  go_enter Tryd.func82, Tryd.ntmps82
  go_wp2
  all_goals go_end0
  all_goals exact ⟨rfl, Has.put (Has.put h 1 _) 2 _, ((Chg.refl (· = s) w).setCell (p := ⟨s, 1, none⟩) (.inl rfl) _).setCell (p := ⟨s, 2, none⟩) (.inl rfl) _⟩
theorem fail_ok (q s : Nat) (z : Int) (r : ByteArray) (w : World) (h : Looks w q s r) :
    Calls Tryd.prog 83 #[.pointer (some ⟨q, 0, none⟩), .int .i64 z] w fun e w' => e = .panicked (own s) ∧ Sight w' s r true z ∧ Chg (· = s) w w' := by
  go_enter Tryd.func83, Tryd.ntmps83
  go_wp2_with fail
  refine (open_any q s r w h).mono ?_
  rintro e w1 ⟨rfl, rfl⟩
  go_wp2_with fail
  refine (end_any s r 0 z w h.sight).mono ?_
  rintro e w2 ⟨rfl, hs, hc⟩
  go_wp2
  show _ ∧ _
  exact ⟨rfl, rfl, hs, hc⟩
theorem raw_fail (q s : Nat) (n : Int) (r : ByteArray) (hn : n < 0 ∨ (r.size : Int) < n) (w : World) (h : Looks w q s r) :
    Calls Tryd.prog 84 #[.pointer (some ⟨q, 0, none⟩), .int .i64 n] w fun e w' => e = .panicked (own s) ∧ Sight w' s r true 201 ∧ Chg (· = s) w w' := by
  have c0 := Has.at_ h.sight 0
  simp at c0
  by_cases h0 : n < 0
  · clear hn
    go_enter Tryd.func84, Tryd.ntmps84
    go_wp2_with fail
    refine (open_any q s r w h).mono ?_
    rintro e w1 ⟨rfl, rfl⟩
    go_wp2_with fail
    refine (fail_ok q s 201 r w h).mono ?_
    rintro e w1 ⟨rfl, hs, hc⟩
    go_wp2
    show _ ∧ _
    exact ⟨rfl, rfl, hs, hc⟩
  · have h1 : (r.size : Int) < n := hn.resolve_left h0
    clear hn
    go_enter Tryd.func84, Tryd.ntmps84
    go_wp2_with fail
    refine (open_any q s r w h).mono ?_
    rintro e w1 ⟨rfl, rfl⟩
    go_wp2_with fail
    refine (fail_ok q s 201 r w h).mono ?_
    rintro e w1 ⟨rfl, hs, hc⟩
    go_wp2
    show _ ∧ _
    exact ⟨rfl, rfl, hs, hc⟩
/-- A number whose bytes are not there. -/
theorem num_short (q s k : Nat) (r : ByteArray) (h1 : 1 ≤ k) (h8 : k ≤ 8) (hn : r.size < k) (w : World) (h : Looks w q s r) :
    Calls Tryd.prog 68 #[.pointer (some ⟨q, 0, none⟩), .int .i64 k] w fun e w' => e = .panicked (own s) ∧ Sight w' s r true 201 ∧ Chg (· = s) w w' := by
  go_enter Tryd.func68, Tryd.ntmps68
  go_wp2_with fail
  refine (raw_fail q s k r (.inr (by omega)) w h).mono ?_
  rintro e w1 ⟨rfl, hs, hc⟩
  go_wp2
  show _ ∧ _
  exact ⟨rfl, rfl, hs, hc⟩
/-- A number in so many bytes as there are none. -/
theorem num_width (q s : Nat) (k : Int) (r : ByteArray) (hk : k < 1 ∨ 8 < k) (w : World) (h : Looks w q s r) :
    Calls Tryd.prog 68 #[.pointer (some ⟨q, 0, none⟩), .int .i64 k] w fun e w' => e = .panicked (own s) ∧ Sight w' s r true 22 ∧ Chg (· = s) w w' := by
  by_cases h0 : k < 1
  · clear hk
    go_enter Tryd.func68, Tryd.ntmps68
    go_wp2_with fail
    refine (fail_ok q s 22 r w h).mono ?_
    rintro e w1 ⟨rfl, hs, hc⟩
    go_wp2
    show _ ∧ _
    exact ⟨rfl, rfl, hs, hc⟩
  · have h1 : 8 < k := hk.resolve_left h0
    clear hk
    go_enter Tryd.func68, Tryd.ntmps68
    go_wp2_with fail
    refine (fail_ok q s 22 r w h).mono ?_
    rintro e w1 ⟨rfl, hs, hc⟩
    go_wp2
    show _ ∧ _
    exact ⟨rfl, rfl, hs, hc⟩
/-- A text whose length is not there. -/
theorem text_short (q s : Nat) (most : Int) (r : ByteArray) (hn : r.size < 2) (w : World) (h : Looks w q s r) :
    Calls Tryd.prog 71 #[.pointer (some ⟨q, 0, none⟩), .int .i64 most] w fun e w' => e = .panicked (own s) ∧ Sight w' s r true 201 ∧ Chg (· = s) w w' := by
  go_enter Tryd.func71, Tryd.ntmps71
  go_wp2_with fail
  refine (num_short q s 2 r (by omega) (by omega) hn w h).mono ?_
  rintro e w1 ⟨rfl, hs, hc⟩
  go_wp2
  show _ ∧ _
  exact ⟨rfl, rfl, hs, hc⟩
end Go.Proofs.YtfjmcklmoebnaaaDoor.Oct
