/- Parent: a path's directory, and its own name. -/
import Derived.Test.YtlmgikgpmcdakaaDoorNmL
import Derived.OwnWalk
import Derived.Deep.QuietTactic
namespace Go.Proofs.YtlmgikgpmcdakaaDoor.Nm
open Go.RowKit Go.Proofs.YtlmgikgpmcdakaaDoor.Mem Go.Proofs.YtlmgikgpmcdakaaDoor.Rws

def parErr (p : ByteArray) : Int := if splitErr p ≠ 0 then splitErr p else if splitL p = [] then 16 else 0
def ParEnds (p : ByteArray) (B : Nat) (e : Ending) (w : World) : Prop :=
  (parErr p ≠ 0 ∧ e = .returned (.tuple #[.slice none 0 0, .string ⟨#[]⟩, .int .i64 (parErr p)])) ∨
  (parErr p = 0 ∧ splitErr p = 0 ∧ ∃ g L x, splitL p = L ++ [x] ∧ B ≤ g ∧ e = .returned (.tuple #[.slice (some ⟨g, 0, none⟩) L.length L.length, .string x, .int .i64 0]) ∧ Has w g 9 ((L ++ [x]).map Value.string).toArray)
theorem splitL_le (p : ByteArray) : (splitL p).length ≤ 8 := by
  unfold splitL
  split
  · next h =>
    obtain ⟨h1, h2⟩ := h
    unfold splitErr at h1
    split at h1
    · cases h1
    · split at h1
      · cases h1
      · split at h1
        · cases h1
        · omega
  · simp
theorem first_any (g n m : Nat) (h : m ≤ n) (w : World) : Calls Tryd.prog 30 #[.slice (some ⟨g, 0, none⟩) n n, .int .i64 m] w fun e w' => e = .returned (.slice (some ⟨g, 0, none⟩) m m) ∧ w' = w := by
  go_enter Tryd.func30, Tryd.ntmps30
  go_wp2
  go_ret
  exact ⟨rfl, rfl⟩
set_option maxRecDepth 100000 in
theorem parent_any (p : ByteArray) (hp : p.size ≤ 4294967280) (w : World) (h : Tabs w) :
    Calls Tryd.prog 13 #[.string p] w fun e w' => ParEnds p w.heap.size e w' ∧ Below w.heap.size w w' := by
  have S := Lib.hid (split_any p hp w h)
  by_cases hz : splitErr p = 0
  · by_cases hn : splitL p = []
    · have hE : parErr p = 16 := by unfold parErr; rw [if_neg (by simp [hz]), if_pos hn]
      go_enter Tryd.func13, Tryd.ntmps13
      go_wp2_with fail
      refine S.out.mono ?_
      rintro e w1 ⟨⟨v, rfl, hs⟩, hb⟩
      rcases hs with ⟨_, rfl⟩ | ⟨hs, _⟩
      · rw [hz]
        go_wp2
        go_ret3
        exact ⟨.inl ⟨by rw [hE]; decide, by rw [hE]; rfl⟩, hb⟩
      · exact absurd hn hs
    · have hE : parErr p = 0 := by unfold parErr; rw [if_neg (by simp [hz]), if_neg hn]
      obtain ⟨L, x, hL⟩ : ∃ L x, splitL p = L ++ [x] := ⟨_, _, (List.dropLast_concat_getLast hn).symm⟩
      have F := Lib.hid (fun g w => first_any g (L.length + 1) L.length (by omega) w)
      go_enter Tryd.func13, Tryd.ntmps13
      go_wp2_with fail
      refine S.out.mono ?_
      rintro e w1 ⟨⟨v, rfl, hs⟩, hb⟩
      rw [hL] at hs
      rcases hs with ⟨hs, _⟩ | ⟨_, g, hg, rfl, hx⟩
      · simp at hs
      · rw [hz]
        have hc := Has.at_ hx L.length
        rw [List.getElem?_toArray, List.getElem?_map] at hc
        simp at hc
        have HX := Lib.hid hx
        have HL := Lib.hid hL
        have hlen : (L ++ [x]).length = L.length + 1 := by simp
        have hwr : wrap64 (L.length : Int) = L.length := by
          have h8 := splitL_le p
          rw [hL, hlen] at h8
          unfold wrap64
          omega
        rw [hlen]
        clear hx hL hn
        go_wp2_with fail
        go_quiet (first | (go_at_call 30; exact Calls.quiet_of_same (F.out g _)))
        go_wp2_with fail
        go_ret3
        exact ⟨.inr ⟨hE, hz, g, L, x, HL.out, hg, rfl, HX.out⟩, below_drewN hb _⟩
  · have hE : parErr p = splitErr p := by unfold parErr; rw [if_pos hz]
    go_enter Tryd.func13, Tryd.ntmps13
    go_wp2_with fail
    refine S.out.mono ?_
    rintro e w1 ⟨⟨v, rfl, hs⟩, hb⟩
    have HE := Lib.hid hE
    generalize splitErr p = n at *
    clear hE
    go_wp2
    go_ret3
    exact ⟨.inl ⟨by rw [HE.out]; exact hz, by rw [HE.out]; rfl⟩, hb⟩
end Go.Proofs.YtlmgikgpmcdakaaDoor.Nm
