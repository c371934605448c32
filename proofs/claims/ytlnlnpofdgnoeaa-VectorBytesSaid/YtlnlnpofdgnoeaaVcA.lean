/- Stamps and vectors: their values, what is known of one, and whether one is an event's. -/
import Derived.Test.YtlnlnpofdgnoeaaMem
import Derived.Laws.StructEq
import Derived.ChangeKeysEq
import Derived.Deep.RegionHeld3
import Derived.BigRegion
import Derived.Deep.QuietTactic
import Derived.BigQuiet
import Derived.Tactics2
import Derived.KernelRfl
namespace Go.Proofs.Ytlnlnpofdgnoeaa.Vc
open Go.RowKit Go.Proofs.Ytlnlnpofdgnoeaa.Mem

def stC (t w : Int) : Array Value := #[.int .i64 t, .int .i64 w]
def vecC (x : Nat → Int) : Array Value := #[.int .i64 (x 0), .int .i64 (x 1), .int .i64 (x 2), .int .i64 (x 3), .int .i64 (x 4), .int .i64 (x 5), .int .i64 (x 6), .int .i64 (x 7)]

/-- An operation of a drawn region that only reads, taken first; where it writes is said. -/
theorem wpAnyH_read {P : Program} {md : Region.Mode} {ops : Array Oper} {Q : Exit → Act → World → Prop} {S : World → Prop} {i : Nat} {oi : Oper} {d : Option Tmp} {fuel : Nat} {listed : Array Bool} {a : Act} {w : World} {v : Value} (hi : ops[i]? = some oi) (hd : oi.dst = d)
    (hs : Region.noSelect ops = true) (hf : Region.free md ops listed i = true) (hr : (Region.ready md ops listed).contains i = true)
    (hQ : ∀ c a w, Q (.panic c) (a.put d v) w → Q (.panic c) a w) (hw : Region.wanted oi (yielded ops a.tmps) = true) (hy : ∀ w, S w → (execOp a.eval oi).run P w = .ok (.value v) w) (hS : S w)
    (h : wpAnyH P md ops Q S fuel (listed.setIfInBounds i true) (a.put d v) w) : wpAnyH P md ops Q S (fuel + 1) listed a w := by
  subst hd
  exact wpAnyH_take hi hs hf hr hQ (Or.inl ⟨hw, hy⟩) hS h
/-- One whose guard is false is passed over first. -/
theorem wpAnyH_skip {P : Program} {md : Region.Mode} {ops : Array Oper} {Q : Exit → Act → World → Prop} {S : World → Prop} {i : Nat} {oi : Oper} {d : Option Tmp} {fuel : Nat} {listed : Array Bool} {a : Act} {w : World} (hi : ops[i]? = some oi) (hd : oi.dst = d)
    (hs : Region.noSelect ops = true) (hf : Region.free md ops listed i = true) (hr : (Region.ready md ops listed).contains i = true)
    (hQ : ∀ c a w, Q (.panic c) (a.put d undef) w → Q (.panic c) a w) (hy : Region.wanted oi (yielded ops a.tmps) = false) (hS : S w)
    (h : wpAnyH P md ops Q S fuel (listed.setIfInBounds i true) (a.put d undef) w) : wpAnyH P md ops Q S (fuel + 1) listed a w := by
  subst hd
  exact wpAnyH_take hi hs hf hr hQ (Or.inr ⟨hy, rfl⟩) hS h

/-- Is a stamp an event's? -/
def isB (t w : Int) : Bool := decide (1 ≤ t) && decide (t ≤ 1099511627776) && decide (0 ≤ w) && decide (w < 8)
/-- Is a number a replica's? -/
def whoB (w : Int) : Bool := decide (0 ≤ w) && decide (w < 8)
/-- Does one stand ahead of another one? -/
def lessB (a b c d : Int) : Bool := decide (a < c) || (decide (a = c) && decide (b < d))
theorem isB_iff {t w : Int} : isB t w = true ↔ (1 ≤ t ∧ t ≤ 1099511627776) ∧ 0 ≤ w ∧ w < 8 := by
  unfold isB
  simp [and_assoc]
theorem lessB_iff {a b c d : Int} : lessB a b c d = true ↔ a < c ∨ a = c ∧ b < d := by
  unfold lessB
  simp

theorem isWho_any (w : Int) (W : World) : Calls Try.prog 44 #[.int .i64 w] W fun e W' => e = .returned (.bool (whoB w)) ∧ W = W' := by
  by_cases h1 : 0 ≤ w
  · by_cases h2 : w < 8
    · have HB := Lib.hid (show whoB w = true by simp [whoB, h1, h2])
      go_enter Try.func44, Try.ntmps44
      go_wp2
      go_ret
      exact ⟨by rw [HB.out]; rfl, rfl⟩
    · have HB := Lib.hid (show whoB w = false by simp [whoB, h2])
      go_enter Try.func44, Try.ntmps44
      go_wp2
      go_ret
      exact ⟨by rw [HB.out]; rfl, rfl⟩
  · have HB := Lib.hid (show whoB w = false by simp [whoB, h1])
    go_enter Try.func44, Try.ntmps44
    go_wp2
    go_ret
    exact ⟨by rw [HB.out]; rfl, rfl⟩

theorem is_any (t w : Int) (W : World) : Calls Try.prog 9 #[.agg (stC t w)] W fun e W' => e = .returned (.bool (isB t w)) ∧ Below W.heap.size W W' := by
  have hb0 := Lib.hid ((Below.refl W.heap.size W).alloc (Nat.le_refl _) (.cells #[.int .i64 t, .int .i64 w] 23))
  unfold stC
  by_cases h1 : 1 ≤ t
  · by_cases h2 : t ≤ 1099511627776
    · by_cases h3 : 0 ≤ w
      · by_cases h4 : w < 8
        · have HB := Lib.hid (show isB t w = true by simp [isB, h1, h2, h3, h4])
          go_enter Try.func9, Try.ntmps9
          go_wp2
          go_ret
          exact ⟨by rw [HB.out]; rfl, hb0.out⟩
        · have HB := Lib.hid (show isB t w = false by simp [isB, h4])
          go_enter Try.func9, Try.ntmps9
          go_wp2
          go_ret
          exact ⟨by rw [HB.out]; rfl, hb0.out⟩
      · have HB := Lib.hid (show isB t w = false by simp [isB, h3])
        go_enter Try.func9, Try.ntmps9
        go_wp2
        go_ret
        exact ⟨by rw [HB.out]; rfl, hb0.out⟩
    · have HB := Lib.hid (show isB t w = false by simp [isB, h2])
      go_enter Try.func9, Try.ntmps9
      go_wp2
      go_ret
      exact ⟨by rw [HB.out]; rfl, hb0.out⟩
  · have HB := Lib.hid (show isB t w = false by simp [isB, h1])
    go_enter Try.func9, Try.ntmps9
    go_wp2
    go_ret
    exact ⟨by rw [HB.out]; rfl, hb0.out⟩
theorem ris_any (t w : Int) (W : World) : Calls Try.prog 10 #[.agg (stC t w)] W fun e W' => e = .returned (.bool (isB t w)) ∧ Below W.heap.size W W' := by
  have hb0 := Lib.hid ((Below.refl W.heap.size W).alloc (Nat.le_refl _) (.cells #[.int .i64 t, .int .i64 w] 23))
  unfold stC
  by_cases h1 : 1 ≤ t
  · by_cases h2 : t ≤ 1099511627776
    · by_cases h3 : 0 ≤ w
      · by_cases h4 : w < 8
        · have HB := Lib.hid (show isB t w = true by simp [isB, h1, h2, h3, h4])
          go_enter Try.func10, Try.ntmps10
          go_wp2
          go_ret
          exact ⟨by rw [HB.out]; rfl, hb0.out⟩
        · have HB := Lib.hid (show isB t w = false by simp [isB, h4])
          go_enter Try.func10, Try.ntmps10
          go_wp2
          go_ret
          exact ⟨by rw [HB.out]; rfl, hb0.out⟩
      · have HB := Lib.hid (show isB t w = false by simp [isB, h3])
        go_enter Try.func10, Try.ntmps10
        go_wp2
        go_ret
        exact ⟨by rw [HB.out]; rfl, hb0.out⟩
    · have HB := Lib.hid (show isB t w = false by simp [isB, h2])
      go_enter Try.func10, Try.ntmps10
      go_wp2
      go_ret
      exact ⟨by rw [HB.out]; rfl, hb0.out⟩
  · have HB := Lib.hid (show isB t w = false by simp [isB, h1])
    go_enter Try.func10, Try.ntmps10
    go_wp2
    go_ret
    exact ⟨by rw [HB.out]; rfl, hb0.out⟩
theorem less_any (a b c d : Int) (W : World) : Calls Try.prog 11 #[.agg (stC a b), .agg (stC c d)] W fun e W' => e = .returned (.bool (lessB a b c d)) ∧ Below W.heap.size W W' := by
  have hb0 := Lib.hid (((Below.refl W.heap.size W).alloc (Nat.le_refl _) (.cells #[.int .i64 a, .int .i64 b] 23)).alloc (by simp) (.cells #[.int .i64 c, .int .i64 d] 23))
  unfold stC
  by_cases h1 : a < c
  · have HB := Lib.hid (show lessB a b c d = true by simp [lessB, h1])
    go_enter Try.func11, Try.ntmps11
    go_wp2
    go_ret
    exact ⟨by rw [HB.out]; rfl, hb0.out⟩
  · by_cases h2 : a = c
    · subst h2
      by_cases h3 : b < d
      · have HB := Lib.hid (show lessB a b a d = true by simp [lessB, h3])
        go_enter Try.func11, Try.ntmps11
        go_wp2
        go_ret
        exact ⟨by rw [HB.out]; rfl, hb0.out⟩
      · have HB := Lib.hid (show lessB a b a d = false by simp [lessB, h3])
        go_enter Try.func11, Try.ntmps11
        go_wp2
        go_ret
        exact ⟨by rw [HB.out]; rfl, hb0.out⟩
    · have HB := Lib.hid (show lessB a b c d = false by simp [lessB, h1, h2])
      have h3 : (a == c) = false := by simp [h2]
      go_enter Try.func11, Try.ntmps11
      go_wp2
      go_ret
      exact ⟨by rw [HB.out]; rfl, hb0.out⟩
theorem rless_any (a b c d : Int) (W : World) : Calls Try.prog 12 #[.agg (stC a b), .agg (stC c d)] W fun e W' => e = .returned (.bool (lessB a b c d)) ∧ Below W.heap.size W W' := by
  have hb0 := Lib.hid (((Below.refl W.heap.size W).alloc (Nat.le_refl _) (.cells #[.int .i64 a, .int .i64 b] 23)).alloc (by simp) (.cells #[.int .i64 c, .int .i64 d] 23))
  unfold stC
  by_cases h1 : a < c
  · have HB := Lib.hid (show lessB a b c d = true by simp [lessB, h1])
    go_enter Try.func12, Try.ntmps12
    go_wp2
    go_ret
    exact ⟨by rw [HB.out]; rfl, hb0.out⟩
  · by_cases h2 : a = c
    · subst h2
      by_cases h3 : b < d
      · have HB := Lib.hid (show lessB a b a d = true by simp [lessB, h3])
        go_enter Try.func12, Try.ntmps12
        go_wp2
        go_ret
        exact ⟨by rw [HB.out]; rfl, hb0.out⟩
      · have HB := Lib.hid (show lessB a b a d = false by simp [lessB, h3])
        go_enter Try.func12, Try.ntmps12
        go_wp2
        go_ret
        exact ⟨by rw [HB.out]; rfl, hb0.out⟩
    · have HB := Lib.hid (show lessB a b c d = false by simp [lessB, h1, h2])
      have h3 : (a == c) = false := by simp [h2]
      go_enter Try.func12, Try.ntmps12
      go_wp2
      go_ret
      exact ⟨by rw [HB.out]; rfl, hb0.out⟩
end Go.Proofs.Ytlnlnpofdgnoeaa.Vc
