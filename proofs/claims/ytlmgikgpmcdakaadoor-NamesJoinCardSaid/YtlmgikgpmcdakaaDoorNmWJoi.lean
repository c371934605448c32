/- NamesJoin, walked. -/
import Derived.Test.YtlmgikgpmcdakaaDoorNmT
namespace Go.Proofs.YtlmgikgpmcdakaaDoor.Nm
open Go.RowKit Go.Proofs.YtlmgikgpmcdakaaDoor.Mem Go.Proofs.YtlmgikgpmcdakaaDoor.Rws

theorem clone_row (A : Option Addr) (n c : Nat) (l : List ByteArray) (hn : n ≤ 1000) (hz : A = none → n = 0 ∧ c = 0) (w : World) (h : TxtRow w A n l) :
    Calls Tryd.prog 19 #[.slice A n c] w fun e w' => ∃ A2 c2, e = .returned (.slice A2 n c2) ∧ n ≤ c2 ∧ TxtRow w' A2 n l ∧ Below w.heap.size w w' := by
  have hl := h.1
  by_cases h0 : n = 0
  · subst h0
    have e1 : l = [] := List.length_eq_zero_iff.1 hl
    subst e1
    cases A with
    | none =>
      refine (Tryd.slices_Clone_string_nil 0 c w).mono ?_
      rintro e w' ⟨he, rfl⟩
      exact ⟨none, 0, he, Nat.le_refl _, ⟨rfl, fun h => absurd h (by omega)⟩, Below.refl _ _⟩
    | some a =>
      refine (Tryd.slices_Clone_string_zero a c w).mono ?_
      rintro e w' ⟨v, he, ho, _, hb⟩
      obtain ⟨A2, c2, rfl, hc, hr⟩ := row_of2 (l := []) ho
      exact ⟨A2, c2, he, hc, hr, hb⟩
  · obtain ⟨b, off, rfl, hbk, hx⟩ := h.2 (by omega)
    refine (Tryd.slices_Clone_string b off n c l w (by omega) (by omega) (fun j hj => by rw [hx j hj]; simp [List.getD, List.getElem?_eq_getElem hj])).mono ?_
    rintro e w' ⟨v, he, ho, _, hb⟩
    rw [List.take_of_length_le (by omega)] at ho
    obtain ⟨A2, c2, rfl, hc, hr⟩ := row_of2 ho
    exact ⟨A2, c2, he, hc, hr, hb⟩
set_option maxHeartbeats 4000000 in
set_option maxRecDepth 100000 in
theorem join_walk (W : World) (A : Option Addr) (n c : Nat) (l : List ByteArray)
    (h : TxtRow W A n l) (hz : A = none → n = 0 ∧ c = 0) (hnc : n ≤ c) (hcm : c ≤ maxLen) (_ : ∀ x ∈ l, x.size ≤ maxLen) (hT : Tabs W) :
    Calls Tryd.prog 4 #[.slice A n c] W fun e w' => e = .returned (.bool true) ∧ Below W.heap.size W w' := by
  have hn : n ≤ 9223372036854775807 := Nat.le_trans hnc hcm
  have S1 := Lib.hid (short_any A n c l hn W h)
  have AW0 := Lib.hid (awake_true W hT)
  have AW := Lib.hid (fun w h => awake_true w h)
  have HT := Lib.hid hT
  clear hT
  cases hs1 : shortB l with
  | false =>
    rw [hs1] at S1
    go_enter Tryd.func4, Tryd.ntmps4
    go_wp2_with fail
    refine S1.out.mono ?_
    rintro e w1 ⟨rfl, hw⟩
    rw [hw]
    go_wp2_with fail
    refine AW0.out.mono ?_
    rintro e w2 ⟨rfl, hb⟩
    go_wp2
    go_ret
    exact ⟨rfl, hb⟩
  | true =>
    rw [hs1] at S1
    have hlen := short_join l hs1
    have hsum : sumL l ≤ 4096 := by
      unfold shortB at hs1
      simp only [Bool.and_eq_true, decide_eq_true_eq] at hs1
      exact hs1.2
    have hn40 : n ≤ 1000 := by
      have := h.1
      unfold shortB at hs1
      simp only [Bool.and_eq_true, decide_eq_true_eq] at hs1
      omega
    have CL := Lib.hid (clone_row A n c l hn40 hz W h)
    have JJ := Lib.hid (fun A2 c2 (hc : n ≤ c2) w h hT => join_any A2 n c2 l hc hlen w h hT)
    have RJ := Lib.hid (fun w h => rjoin_any A n c l hsum hn40 w h)
    clear hs1 hlen hsum
    go_enter Tryd.func4, Tryd.ntmps4
    go_wp2_with fail
    refine S1.out.mono ?_
    rintro e w1 ⟨rfl, hw⟩
    rw [hw]
    go_wp2_with fail
    refine CL.out.mono ?_
    rintro e w2 ⟨A2, c2, rfl, hc2, hr, hb2⟩
    clear CL S1 AW0
    go_wp2_with fail
    refine (JJ.out A2 c2 hc2 w2 hr (HT.out.self hb2)).mono ?_
    rintro e w3 ⟨he3, hb⟩
    have he3' : e = .returned (joinAns l) := he3
    subst he3'
    have hb3 := hb2.trans (hb.mono hb2.size)
    replace hr := hr.below hb
    have hl3 := h.below hb3
    clear he3 hb hb2
    have HJ : ∃ x y, joinAns l = .tuple #[.string x, .int .i64 y] := ⟨_, _, rfl⟩
    obtain ⟨x, y, hxy⟩ := HJ
    rw [hxy]
    go_wp2_with fail
    refine (RJ.out w3 hl3).mono ?_
    rintro e w4 ⟨rfl, hb⟩
    rw [hxy]
    have hb4 := hb3.trans (hb.mono hb3.size)
    replace hr := hr.below hb
    replace hl3 := hl3.below hb
    clear hb hb3 hxy
    go_wp2_with fail
    refine (eqs A2 A n n c2 c l l hn hn w4 hr hl3).mono ?_
    rintro e w5 ⟨rfl, q, hq⟩
    rw [decide_eq_true rfl]
    have hb := below_drewN hb4 q
    rw [← hq] at hb
    clear hq
    go_wp2_with fail
    refine (AW.out _ (HT.out.self hb)).mono ?_
    rintro e w6 ⟨rfl, hb6⟩
    go_wp2
    go_ret
    exact ⟨rfl, hb.trans (hb6.mono hb.size)⟩
end Go.Proofs.YtlmgikgpmcdakaaDoor.Nm
