/- Stamps and vectors: their values, what is known of one, and whether one is an event's. -/
import Derived.Test.YtblogecapegbmaaGreatMem
import Derived.Test.YtblogecapegbmaaGreatReg
import Derived.Laws.StructEq
import Derived.ChangeKeysEq
import Derived.Deep.RegionHeld3
import Derived.BigRegion
import Derived.Deep.QuietTactic
import Derived.BigQuiet
import Derived.Tactics2
import Derived.KernelRfl
namespace Go.Proofs.YtblogecapegbmaaGreat.Vc
open Go.RowKit Go.Proofs.YtblogecapegbmaaGreat.Mem

def stC (t w : Int) : Array Value := #[.int .i64 t, .int .i64 w]
def vecC (x : Nat → Int) : Array Value := #[.int .i64 (x 0), .int .i64 (x 1), .int .i64 (x 2), .int .i64 (x 3), .int .i64 (x 4), .int .i64 (x 5), .int .i64 (x 6), .int .i64 (x 7)]

/-- Is a stamp an event's? -/
def isB (t w : Int) : Bool := decide (1 ≤ t) && decide (t ≤ 1099511627776) && decide (0 ≤ w) && decide (w < 8)
/-- Is a number a replica's? -/
def whoB (w : Int) : Bool := decide (0 ≤ w) && decide (w < 8)
/-- Does one stand ahead of another one? -/
def lessB (a b c d : Int) : Bool := decide (a < c) || (decide (a = c) && decide (b < d))
theorem isB_iff {t w : Int} : isB t w = true ↔ (1 ≤ t ∧ t ≤ 1099511627776) ∧ 0 ≤ w ∧ w < 8 := by
  unfold isB
  simp [and_assoc]
theorem lessB_iff {a b c d : Int} : lessB a b c d = true ↔ a < c ∨ a = c ∧ b < d := by
  unfold lessB
  simp

theorem isWho_any (w : Int) (W : World) : Calls Tryz.prog 138 #[.int .i64 w] W fun e W' => e = .returned (.bool (whoB w)) ∧ W = W' := by
  by_cases h1 : 0 ≤ w
  · by_cases h2 : w < 8
    · have HB := Lib.hid (show whoB w = true by simp [whoB, h1, h2])
      go_enter Tryz.func138, Tryz.ntmps138
      go_wp2
      go_ret
      exact ⟨by rw [HB.out]; rfl, rfl⟩
    · have HB := Lib.hid (show whoB w = false by simp [whoB, h2])
      go_enter Tryz.func138, Tryz.ntmps138
      go_wp2
      go_ret
      exact ⟨by rw [HB.out]; rfl, rfl⟩
  · have HB := Lib.hid (show whoB w = false by simp [whoB, h1])
    go_enter Tryz.func138, Tryz.ntmps138
    go_wp2
    go_ret
    exact ⟨by rw [HB.out]; rfl, rfl⟩

theorem is_any (t w : Int) (W : World) : Calls Tryz.prog 106 #[.agg (stC t w)] W fun e W' => e = .returned (.bool (isB t w)) ∧ Below W.heap.size W W' := by
  have hb0 := Lib.hid ((Below.refl W.heap.size W).alloc (Nat.le_refl _) (.cells #[.int .i64 t, .int .i64 w] 37))
  unfold stC
  by_cases h1 : 1 ≤ t
  · by_cases h2 : t ≤ 1099511627776
    · by_cases h3 : 0 ≤ w
      · by_cases h4 : w < 8
        · have HB := Lib.hid (show isB t w = true by simp [isB, h1, h2, h3, h4])
          go_enter Tryz.func106, Tryz.ntmps106
          go_wp2
          go_ret
          exact ⟨by rw [HB.out]; rfl, hb0.out⟩
        · have HB := Lib.hid (show isB t w = false by simp [isB, h4])
          go_enter Tryz.func106, Tryz.ntmps106
          go_wp2
          go_ret
          exact ⟨by rw [HB.out]; rfl, hb0.out⟩
      · have HB := Lib.hid (show isB t w = false by simp [isB, h3])
        go_enter Tryz.func106, Tryz.ntmps106
        go_wp2
        go_ret
        exact ⟨by rw [HB.out]; rfl, hb0.out⟩
    · have HB := Lib.hid (show isB t w = false by simp [isB, h2])
      go_enter Tryz.func106, Tryz.ntmps106
      go_wp2
      go_ret
      exact ⟨by rw [HB.out]; rfl, hb0.out⟩
  · have HB := Lib.hid (show isB t w = false by simp [isB, h1])
    go_enter Tryz.func106, Tryz.ntmps106
    go_wp2
    go_ret
    exact ⟨by rw [HB.out]; rfl, hb0.out⟩
theorem ris_any (t w : Int) (W : World) : Calls Tryz.prog 107 #[.agg (stC t w)] W fun e W' => e = .returned (.bool (isB t w)) ∧ Below W.heap.size W W' := by
  have hb0 := Lib.hid ((Below.refl W.heap.size W).alloc (Nat.le_refl _) (.cells #[.int .i64 t, .int .i64 w] 37))
  unfold stC
  by_cases h1 : 1 ≤ t
  · by_cases h2 : t ≤ 1099511627776
    · by_cases h3 : 0 ≤ w
      · by_cases h4 : w < 8
        · have HB := Lib.hid (show isB t w = true by simp [isB, h1, h2, h3, h4])
          go_enter Tryz.func107, Tryz.ntmps107
          go_wp2
          go_ret
          exact ⟨by rw [HB.out]; rfl, hb0.out⟩
        · have HB := Lib.hid (show isB t w = false by simp [isB, h4])
          go_enter Tryz.func107, Tryz.ntmps107
          go_wp2
          go_ret
          exact ⟨by rw [HB.out]; rfl, hb0.out⟩
      · have HB := Lib.hid (show isB t w = false by simp [isB, h3])
        go_enter Tryz.func107, Tryz.ntmps107
        go_wp2
        go_ret
        exact ⟨by rw [HB.out]; rfl, hb0.out⟩
    · have HB := Lib.hid (show isB t w = false by simp [isB, h2])
      go_enter Tryz.func107, Tryz.ntmps107
      go_wp2
      go_ret
      exact ⟨by rw [HB.out]; rfl, hb0.out⟩
  · have HB := Lib.hid (show isB t w = false by simp [isB, h1])
    go_enter Tryz.func107, Tryz.ntmps107
    go_wp2
    go_ret
    exact ⟨by rw [HB.out]; rfl, hb0.out⟩
theorem less_any (a b c d : Int) (W : World) : Calls Tryz.prog 111 #[.agg (stC a b), .agg (stC c d)] W fun e W' => e = .returned (.bool (lessB a b c d)) ∧ Below W.heap.size W W' := by
  have hb0 := Lib.hid (((Below.refl W.heap.size W).alloc (Nat.le_refl _) (.cells #[.int .i64 a, .int .i64 b] 37)).alloc (by simp) (.cells #[.int .i64 c, .int .i64 d] 37))
  unfold stC
  by_cases h1 : a < c
  · have HB := Lib.hid (show lessB a b c d = true by simp [lessB, h1])
    go_enter Tryz.func111, Tryz.ntmps111
    go_wp2
    go_ret
    exact ⟨by rw [HB.out]; rfl, hb0.out⟩
  · by_cases h2 : a = c
    · subst h2
      by_cases h3 : b < d
      · have HB := Lib.hid (show lessB a b a d = true by simp [lessB, h3])
        go_enter Tryz.func111, Tryz.ntmps111
        go_wp2
        go_ret
        exact ⟨by rw [HB.out]; rfl, hb0.out⟩
      · have HB := Lib.hid (show lessB a b a d = false by simp [lessB, h3])
        go_enter Tryz.func111, Tryz.ntmps111
        go_wp2
        go_ret
        exact ⟨by rw [HB.out]; rfl, hb0.out⟩
    · have HB := Lib.hid (show lessB a b c d = false by simp [lessB, h1, h2])
      have h3 : (a == c) = false := by simp [h2]
      go_enter Tryz.func111, Tryz.ntmps111
      go_wp2
      go_ret
      exact ⟨by rw [HB.out]; rfl, hb0.out⟩
theorem rless_any (a b c d : Int) (W : World) : Calls Tryz.prog 22 #[.agg (stC a b), .agg (stC c d)] W fun e W' => e = .returned (.bool (lessB a b c d)) ∧ Below W.heap.size W W' := by
  have hb0 := Lib.hid (((Below.refl W.heap.size W).alloc (Nat.le_refl _) (.cells #[.int .i64 a, .int .i64 b] 37)).alloc (by simp) (.cells #[.int .i64 c, .int .i64 d] 37))
  unfold stC
  by_cases h1 : a < c
  · have HB := Lib.hid (show lessB a b c d = true by simp [lessB, h1])
    go_enter Tryz.func22, Tryz.ntmps22
    go_wp2
    go_ret
    exact ⟨by rw [HB.out]; rfl, hb0.out⟩
  · by_cases h2 : a = c
    · subst h2
      by_cases h3 : b < d
      · have HB := Lib.hid (show lessB a b a d = true by simp [lessB, h3])
        go_enter Tryz.func22, Tryz.ntmps22
        go_wp2
        go_ret
        exact ⟨by rw [HB.out]; rfl, hb0.out⟩
      · have HB := Lib.hid (show lessB a b a d = false by simp [lessB, h3])
        go_enter Tryz.func22, Tryz.ntmps22
        go_wp2
        go_ret
        exact ⟨by rw [HB.out]; rfl, hb0.out⟩
    · have HB := Lib.hid (show lessB a b c d = false by simp [lessB, h1, h2])
      have h3 : (a == c) = false := by simp [h2]
      go_enter Tryz.func22, Tryz.ntmps22
      go_wp2
      go_ret
      exact ⟨by rw [HB.out]; rfl, hb0.out⟩
end Go.Proofs.YtblogecapegbmaaGreat.Vc
