/- The walks of the laws of texts. -/
import Derived.Test.YthbpnbllcbemfaaOctTexts3
import Derived.Test.YthbpnbllcbemfaaOctAwake
import Derived.Handy
namespace Go.Proofs.Ythbpnbllcbemfaa.Oct
open Go.RowKit

theorem nb_cases (s : ByteArray) : nb s s.size = -1 ∨ ∃ q : Nat, q < s.size ∧ nb s s.size = (q : Int) := by
  have h := nb_lt s s.size
  by_cases e : nb s s.size = -1
  · exact .inl e
  · exact .inr ⟨(nb s s.size).toNat, by omega, by omega⟩
/-- What Beyond answers. -/
def beyS (s : ByteArray) : ByteArray := if h : (nb s s.size).toNat < s.size ∧ 0 ≤ nb s s.size then bey s (nb s s.size).toNat h.1 else ⟨#[]⟩
def beyOk (s : ByteArray) : Bool := decide (0 ≤ nb s s.size)
theorem bey_none (s : ByteArray) (h : nb s s.size = -1) : beyS s = ⟨#[]⟩ ∧ beyOk s = false := by
  unfold beyS beyOk
  rw [dif_neg (by rw [h]; omega), h]
  exact ⟨rfl, rfl⟩
theorem bey_some (s : ByteArray) (q : Nat) (hq : q < s.size) (h : nb s s.size = (q : Int)) : beyS s = bey s q hq ∧ beyOk s = true := by
  unfold beyS beyOk
  have e : (nb s s.size).toNat = q := by omega
  refine ⟨?_, decide_eq_true (by omega)⟩
  rw [dif_pos ⟨by omega, by omega⟩]
  simp only [e]
theorem beyond_any (s : ByteArray) (hm : s.size ≤ 1048576) (w : World) :
    Calls Try.prog 40 #[.string s] w fun e w' => e = .returned (.tuple #[.string (beyS s), .bool (beyOk s)]) ∧ Below w.heap.size w w' := by
  rcases nb_cases s with h | ⟨q, hq, h⟩
  · rw [(bey_none s h).1, (bey_none s h).2]
    exact (beyond_none s (by unfold maxLen; omega) h w).mono fun e w' k => ⟨k.1, k.2 ▸ Below.refl _ _⟩
  · rw [(bey_some s q hq h).1, (bey_some s q hq h).2]
    exact beyond_some s hm q hq h w
theorem rbeyond_any (s : ByteArray) (hm : s.size ≤ 1048576) (w : World) :
    Calls Try.prog 41 #[.string s] w fun e w' => e = .returned (.tuple #[.string (beyS s), .bool (beyOk s)]) ∧ Below w.heap.size w w' := by
  rcases nb_cases s with h | ⟨q, hq, h⟩
  · rw [(bey_none s h).1, (bey_none s h).2]
    exact (rbeyond_none s hm h w).mono fun e w' k => ⟨k.1, k.2 ▸ Below.refl _ _⟩
  · rw [(bey_some s q hq h).1, (bey_some s q hq h).2]
    exact rbeyond_some s hm q hq h w
set_option maxRecDepth 100000 in
set_option maxHeartbeats 400000 in
theorem texts_walk (a b : ByteArray) (_ : a.size ≤ maxLen) (_ : b.size ≤ maxLen) (w : World) :
    Calls Try.prog 7 #[.string a, .string b] w fun e w' => e = .returned (.bool true) ∧ Below w.heap.size w w' := by
  by_cases h1 : 8192 < a.size
  · go_enter Try.func7, Try.ntmps7
    go_wp2_with fail
    refine (awake_any _).mono ?_
    rintro e w1 ⟨rfl, hb1⟩
    go_wp2
    go_ret
    exact ⟨rfl, hb1⟩
  by_cases h2 : 8192 < b.size
  · go_enter Try.func7, Try.ntmps7
    go_wp2_with fail
    refine (awake_any _).mono ?_
    rintro e w1 ⟨rfl, hb1⟩
    go_wp2
    go_ret
    exact ⟨rfl, hb1⟩
  have ha : a.size ≤ 1048576 := by omega
  have hb : b.size ≤ 1048576 := by omega
  have t1 : ((beyS a).toList == (beyS a).toList) = true := by simp
  have t2 : (beyOk a == beyOk a) = true := by simp
  have t3 : ((a ++ ⟨#[0]⟩ : ByteArray).toList == (a ++ ⟨#[0]⟩ : ByteArray).toList) = true := by simp
  go_enter Try.func7, Try.ntmps7
  go_wp2_with fail
  refine (beyond_any a ha _).mono ?_
  rintro e w2 ⟨rfl, hb2⟩
  go_wp2_with fail
  refine (rbeyond_any a ha _).mono ?_
  rintro e w3 ⟨rfl, hb3⟩
  go_wp2_with fail
  refine (shared_any a b ha hb _).mono ?_
  rintro e w4 ⟨k, rfl, hc, hs, hb4⟩
  go_wp2_with fail
  refine (rshared_any a b ha hb _).mono ?_
  rintro e w5 ⟨j, rfl, hc', hs', hb5⟩
  obtain rfl := com_one hc hs hc' hs'
  clear hc hs hc' hs'
  have t4 : ((k : Int) == (k : Int)) = true := by simp
  go_wp2_with fail
  refine (after_any a ha _).mono ?_
  rintro e w6 ⟨rfl, rfl⟩
  go_wp2_with fail
  refine (awake_any _).mono ?_
  rintro e w7 ⟨rfl, hb7⟩
  go_wp2
  go_ret
  have g3 := hb2.trans (hb3.mono hb2.size)
  have g4 := g3.trans (hb4.mono g3.size)
  have g5 := g4.trans (hb5.mono g4.size)
  exact ⟨rfl, g5.trans (hb7.mono g5.size)⟩
end Go.Proofs.Ythbpnbllcbemfaa.Oct
