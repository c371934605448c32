/- The library's stable sort over a type of structs: two parts in turn. -/
import Derived.Test.YtdbmnnmcelaehaaDoorStabC
namespace Go.Proofs.YtdbmnnmcelaehaaDoor.Stab
open Go.RowKit Go.Proofs.YtdbmnnmcelaehaaDoor.Mem
set_option linter.unusedVariables false set_option linter.unusedSimpArgs false

set_option maxRecDepth 100000 in
set_option maxHeartbeats 1000000 in
theorem rotate_any (g c n a m b : Nat) (f : Value) (x : Nat → Fc.EventC) (z : List Value) (hn : n ≤ 4000000000) (ham : a < m) (hmb : m < b) (hbn : b ≤ n) (w : World) (h : RwE w g n x z) :
    Calls Tryd.prog 73 #[.slice (some ⟨g, 0, none⟩) n c, .int .i64 a, .int .i64 m, .int .i64 b, f] w fun e w' => e = .returned (.tuple #[]) ∧ Chg (· = g) w w' ∧ RwE w' g n (fun k => x (rotP a m b k)) z := by
  have H0 := Lib.hid h
  clear h
  go_enter Tryd.func73, Tryd.ntmps73
  go_wp2
  go_loopw [10, 11] (fun si sj wr => ∃ i j : Nat, si = .int .i64 i ∧ sj = .int .i64 j ∧ 0 < i ∧ 0 < j ∧ a + i ≤ m ∧ m + j ≤ b ∧ Hid (∃ y : Nat → Fc.EventC, RwE wr g n y z ∧ ∀ k, y (rotP (m - i) m (m + j) k) = x (rotP a m b k)) ∧ Hid (Chg (· = g) w wr)) (fun si sj _ => (intOf si).toNat + (intOf sj).toNat)
  case atStart => exact ⟨m - a, b - m, by congr 1; omega, by congr 1; omega, by omega, by omega, by omega, by omega, Lib.hid ⟨x, H0.out, fun k => by rw [show m - (m - a) = a by omega, show m + (b - m) = b by omega]⟩, Lib.hid (Chg.refl _ _)⟩
  case round =>
    obtain ⟨i, j, rfl, rfl, hi, hj, him, hjb, HY, HC⟩ := hrel
    obtain ⟨y, hr, hy⟩ := HY.out
    have HR := Lib.hid hr
    have HE := Lib.hid hy
    clear HY hr hy
    have em : ((m - i : Nat) : Int) = (m : Int) - (i : Int) := by omega
    have ej : ((m + j - i : Nat) : Int) = (m : Int) + (j : Int) - (i : Int) := by omega
    by_cases hij : i = j
    · subst hij
      have HS := Lib.hid (fun V => swapRange_any g c n (m - i) m i f y z hn (by omega) (by omega) V)
      rw [em] at HS
      clear ej em
      go_wp2_with fail
      go_at_call 81
      refine (HS.out _ HR.out).mono ?_
      rintro e w1 ⟨rfl, hc, hr⟩
      have HR1 := Lib.hid hr
      have HC1 := Lib.hid (HC.out.trans hc)
      clear hc hr
      go_wp2
      go_end0
      exact ⟨rfl, HC1.out, HR1.out.congr fun k _ => by rw [← HE.out k, rot_same m i k (by omega)]⟩
    · by_cases hlt : j < i
      · have HS := Lib.hid (fun V => swapRange_any g c n (m - i) m j f y z hn (by omega) (by omega) V)
        rw [em] at HS
        clear ej em
        go_wp2_with fail
        go_at_call 81
        refine (HS.out _ HR.out).mono ?_
        rintro e w1 ⟨rfl, hc, hr⟩
        have HR1 := Lib.hid hr
        have HC1 := Lib.hid (HC.out.trans hc)
        clear hc hr
        go_wp2
        go_roundw
        case rel => exact ⟨i - j, j, by congr 1; omega, rfl, by omega, by omega, by omega, by omega, Lib.hid ⟨_, HR1.out, fun k => by rw [← HE.out k, ← rot_left m i j k (by omega) (by omega) hlt, show m - (i - j) = m - i + j by omega]⟩, HC1⟩
        case measure => simp [intOf]; omega
      · have HS := Lib.hid (fun V => swapRange_any g c n (m - i) (m + j - i) i f y z hn (by omega) (by omega) V)
        rw [em, ej] at HS
        clear ej em
        go_wp2_with fail
        go_at_call 81
        refine (HS.out _ HR.out).mono ?_
        rintro e w1 ⟨rfl, hc, hr⟩
        have HR1 := Lib.hid hr
        have HC1 := Lib.hid (HC.out.trans hc)
        clear hc hr
        go_wp2
        go_roundw
        case rel => exact ⟨i, j - i, rfl, by congr 1; omega, by omega, by omega, by omega, by omega, Lib.hid ⟨_, HR1.out, fun k => by rw [← HE.out k, ← rot_right m i j k (by omega) (by omega) (by omega), show m + (j - i) = m + j - i by omega]⟩, HC1⟩
        case measure => simp [intOf]; omega
end Go.Proofs.YtdbmnnmcelaehaaDoor.Stab
