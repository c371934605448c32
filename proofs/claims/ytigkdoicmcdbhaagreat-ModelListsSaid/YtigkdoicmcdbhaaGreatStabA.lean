/- A stable sort in pure terms: what swaps, rotations, insertions and symmetric merges make of a row, as rearrangements of its places. No program. -/
namespace Go.Proofs.YtigkdoicmcdbhaaGreat.Stab
set_option linter.unusedVariables false set_option linter.unusedSimpArgs false

/-- sorted from a up to b, by a relation that is asked of each two -/
def Srt {β : Type} (lt : β → β → Prop) (x : Nat → β) (a b : Nat) : Prop := ∀ i j, a ≤ i → i < j → j < b → lt (x i) (x j)
/-- a rearrangement of the places from a up to b -/
structure Re (a b : Nat) (p : Nat → Nat) : Prop where
  ins : ∀ k, a ≤ k → k < b → a ≤ p k ∧ p k < b
  out : ∀ k, ¬ (a ≤ k ∧ k < b) → p k = k
  back : ∃ q : Nat → Nat, (∀ k, p (q k) = k) ∧ (∀ k, q (p k) = k)
theorem Re.refl (a b : Nat) : Re a b (fun k => k) := ⟨fun k h1 h2 => ⟨h1, h2⟩, fun k h => rfl, fun k => k, fun k => rfl, fun k => rfl⟩
theorem Re.comp {a b : Nat} {p r : Nat → Nat} (h : Re a b p) (g : Re a b r) : Re a b (fun k => p (r k)) := by
  obtain ⟨q, h1, h2⟩ := h.back
  obtain ⟨s, g1, g2⟩ := g.back
  refine ⟨fun k k1 k2 => ?_, fun k hk => ?_, fun k => s (q k), fun k => ?_, fun k => ?_⟩
  · exact h.ins _ (g.ins k k1 k2).1 (g.ins k k1 k2).2
  · show p (r k) = k
    rw [g.out k hk, h.out k hk]
  · show p (r (s (q k))) = k
    rw [g1, h1]
  · show s (q (p (r k))) = k
    rw [h2, g2]
theorem Re.wide {a b c d : Nat} {p : Nat → Nat} (h : Re a b p) (h1 : c ≤ a) (h2 : b ≤ d) : Re c d p := by
  refine ⟨fun k k1 k2 => ?_, fun k hk => h.out k (by omega), h.back⟩
  by_cases hk : a ≤ k ∧ k < b
  · have := h.ins k hk.1 hk.2
    omega
  · rw [h.out k hk]
    exact ⟨k1, k2⟩
theorem Re.inj {a b : Nat} {p : Nat → Nat} (h : Re a b p) {i j : Nat} (hi : p i = p j) : i = j := by
  obtain ⟨q, h1, h2⟩ := h.back
  rw [← h2 i, hi, h2]

/-- two places exchanged -/
def swapP (i j k : Nat) : Nat := if k = i then j else if k = j then i else k
theorem swapP_self (i j k : Nat) : swapP i j (swapP i j k) = k := by
  unfold swapP
  repeat' split
  all_goals omega
theorem Re.swap {a b i j : Nat} (hi : a ≤ i) (hi' : i < b) (hj : a ≤ j) (hj' : j < b) : Re a b (swapP i j) := by
  refine ⟨fun k k1 k2 => ?_, fun k hk => ?_, swapP i j, swapP_self i j, swapP_self i j⟩
  · unfold swapP
    repeat' split
    all_goals omega
  · unfold swapP
    repeat' split
    all_goals omega
/-- n places from a exchanged with n from b -/
def swapR (a b n k : Nat) : Nat := if a ≤ k ∧ k < a + n then k - a + b else if b ≤ k ∧ k < b + n then k - b + a else k
theorem swapR_zero (a b k : Nat) : swapR a b 0 k = k := by
  unfold swapR
  repeat' split
  all_goals omega
theorem swapR_step (a b n k : Nat) (h : a + (n + 1) ≤ b) : swapR a b n (swapP (a + n) (b + n) k) = swapR a b (n + 1) k := by
  unfold swapR swapP
  repeat' split
  all_goals omega
theorem swapR_self (a b n k : Nat) (h : a + n ≤ b) : swapR a b n (swapR a b n k) = k := by
  unfold swapR
  repeat' split
  all_goals omega
theorem Re.swaps {a b n c d : Nat} (h : a + n ≤ b) (h1 : c ≤ a) (h2 : b + n ≤ d) : Re c d (swapR a b n) := by
  refine ⟨fun k k1 k2 => ?_, fun k hk => ?_, swapR a b n, fun k => swapR_self a b n k h, fun k => swapR_self a b n k h⟩
  · unfold swapR
    repeat' split
    all_goals omega
  · unfold swapR
    repeat' split
    all_goals omega
/-- what stands from a up to m, and from m up to b, in turn -/
def rotP (a m b k : Nat) : Nat := if a ≤ k ∧ k < a + (b - m) then k - a + m else if a + (b - m) ≤ k ∧ k < b then k - (b - m) else k
theorem rotP_back (a m b k : Nat) (h1 : a ≤ m) (h2 : m ≤ b) : rotP a m b (rotP a (a + (b - m)) b k) = k := by
  unfold rotP
  repeat' split
  all_goals omega
theorem Re.rot {a m b : Nat} (h1 : a ≤ m) (h2 : m ≤ b) : Re a b (rotP a m b) := by
  refine ⟨fun k k1 k2 => ?_, fun k hk => ?_, rotP a (a + (b - m)) b, fun k => rotP_back a m b k h1 h2, fun k => ?_⟩
  · unfold rotP
    repeat' split
    all_goals omega
  · unfold rotP
    repeat' split
    all_goals omega
  · have h := rotP_back a (a + (b - m)) b k (by omega) (by omega)
    rw [show a + (b - (a + (b - m))) = m by omega] at h
    exact h
/-- rotate: the longer left part, the longer right part, two of one length -/
theorem rot_left (m i j k : Nat) (hi : i ≤ m) (hj : 0 < j) (h : j < i) : swapR (m - i) m j (rotP (m - i + j) m (m + j) k) = rotP (m - i) m (m + j) k := by
  unfold swapR rotP
  repeat' split
  all_goals omega
theorem rot_right (m i j k : Nat) (hi : i ≤ m) (h0 : 0 < i) (h : i < j) : swapR (m - i) (m + j - i) i (rotP (m - i) m (m + j - i) k) = rotP (m - i) m (m + j) k := by
  unfold swapR rotP
  repeat' split
  all_goals omega
theorem rot_same (m i k : Nat) (hi : i ≤ m) : swapR (m - i) m i k = rotP (m - i) m (m + i) k := by
  unfold swapR rotP
  repeat' split
  all_goals omega
/-- one place carried up, one step further; one place carried down, one step further -/
theorem rot_up (a k c : Nat) (h : a ≤ k) : rotP a (a + 1) (k + 1) (swapP k (k + 1) c) = rotP a (a + 1) (k + 2) c := by
  unfold rotP swapP
  repeat' split
  all_goals omega
theorem rot_up0 (a c : Nat) : rotP a (a + 1) (a + 1) c = c := by
  unfold rotP
  repeat' split
  all_goals omega
theorem rot_down (k m c : Nat) (hk : 0 < k) (h : k ≤ m) : rotP k m (m + 1) (swapP k (k - 1) c) = rotP (k - 1) m (m + 1) c := by
  unfold rotP swapP
  repeat' split
  all_goals omega
theorem rot_down0 (m c : Nat) : rotP m m (m + 1) c = c := by
  unfold rotP
  repeat' split
  all_goals omega

section
variable {β : Type} {lt : β → β → Prop}
theorem Srt.sub {x : Nat → β} {a b c d : Nat} (h : Srt lt x a b) (h1 : a ≤ c) (h2 : d ≤ b) : Srt lt x c d := fun i j hi hij hj => h i j (by omega) hij (by omega)
theorem Srt.short (x : Nat → β) {a b : Nat} (h : b ≤ a + 1) : Srt lt x a b := fun i j hi hij hj => by omega
theorem Srt.congr {x y : Nat → β} {a b : Nat} (h : Srt lt x a b) (e : ∀ k, a ≤ k → k < b → y k = x k) : Srt lt y a b := fun i j hi hij hj => by
  rw [e i hi (by omega), e j (by omega) hj]
  exact h i j hi hij hj
/-- the first carried up to where it belongs -/
theorem ins_up (x : Nat → β) {a i b : Nat} (hi : a + 1 ≤ i) (hib : i ≤ b) (hs : Srt lt x (a + 1) b) (h1 : ∀ k, a + 1 ≤ k → k < i → lt (x k) (x a)) (h2 : ∀ k, i ≤ k → k < b → lt (x a) (x k)) : Srt lt (fun k => x (rotP a (a + 1) i k)) a b := by
  have e : ∀ k, rotP a (a + 1) i k = if a ≤ k ∧ k + 1 < i then k + 1 else if k + 1 = i then a else k := by
    intro k
    unfold rotP
    repeat' split
    all_goals omega
  intro c d hc hcd hd
  show lt (x _) (x _)
  rw [e c, e d]
  repeat' split
  · exact hs _ _ (by omega) (by omega) (by omega)
  · exact h1 _ (by omega) (by omega)
  · exact hs _ _ (by omega) (by omega) (by omega)
  · omega
  · omega
  · exact h2 _ (by omega) (by omega)
  · omega
  · omega
  · exact hs _ _ (by omega) (by omega) (by omega)
/-- the last carried down to where it belongs -/
theorem ins_down (x : Nat → β) {a i m : Nat} (hi : a ≤ i) (him : i ≤ m) (hs : Srt lt x a m) (h1 : ∀ k, a ≤ k → k < i → lt (x k) (x m)) (h2 : ∀ k, i ≤ k → k < m → lt (x m) (x k)) : Srt lt (fun k => x (rotP i m (m + 1) k)) a (m + 1) := by
  have e : ∀ k, k < m + 1 → rotP i m (m + 1) k = if k < i then k else if k = i then m else k - 1 := by
    intro k hk
    unfold rotP
    repeat' split
    all_goals omega
  intro c d hc hcd hd
  show lt (x _) (x _)
  rw [e c (by omega), e d (by omega)]
  repeat' split
  · exact hs _ _ (by omega) (by omega) (by omega)
  · exact h1 _ (by omega) (by omega)
  · exact hs _ _ (by omega) (by omega) (by omega)
  · omega
  · omega
  · exact h2 _ (by omega) (by omega)
  · omega
  · omega
  · exact hs _ _ (by omega) (by omega) (by omega)
/-- the symmetric search's step: what is less below is less further below; and above -/
theorem sym_low (tr : ∀ {u v w}, lt u v → lt v w → lt u w) {x : Nat → β} {a m b p s c : Nat} (hL : Srt lt x a m) (hR : Srt lt x m b) (hs : a ≤ s) (hc : c < m) (hp : m ≤ p - c) (hb : p - s < b) (hcp : c ≤ p) (h : lt (x c) (x (p - c))) : ∀ k, s ≤ k → k ≤ c → lt (x k) (x (p - k)) := by
  intro k h1 h2
  by_cases e : k = c
  · subst e
    exact h
  · exact tr (hL k c (by omega) (by omega) hc) (tr h (hR (p - c) (p - k) hp (by omega) (by omega)))
theorem sym_high (tr : ∀ {u v w}, lt u v → lt v w → lt u w) {x : Nat → β} {a m b p r c : Nat} (hL : Srt lt x a m) (hR : Srt lt x m b) (hc : a ≤ c) (hr : r ≤ m) (hp : ∀ k, k < r → m ≤ p - k) (hb : p - c < b) (hcp : r ≤ p + 1) (h : lt (x (p - c)) (x c)) : ∀ k, c ≤ k → k < r → lt (x (p - k)) (x k) := by
  intro k h1 h2
  by_cases e : k = c
  · subst e
    exact h
  · exact tr (hR (p - k) (p - c) (hp k h2) (by omega) (by omega)) (tr h (hL c k (by omega) (by omega) (by omega)))
/-- what one rearranges of a row whose parts stand apart stays apart -/
theorem merge_step (tr : ∀ {u v w}, lt u v → lt v w → lt u w) {x y z : Nat → β} {a m b s mid en : Nat} {p q : Nat → Nat} (hmid : a ≤ mid) (hmb : mid ≤ b) (hs : a ≤ s) (hsm : s ≤ m) (hme : m ≤ en) (heb : en ≤ b) (hen : en + s = mid + m)
    (hL : Srt lt x a m) (hR : Srt lt x m b) (h1 : ∀ i j, a ≤ i → i < s → en ≤ j → j < b → lt (x i) (x j)) (h2 : ∀ i j, m ≤ i → i < en → s ≤ j → j < m → lt (x i) (x j))
    (hy : Re a mid p) (ey : ∀ k, y k = x (rotP s m en (p k))) (sy : Srt lt y a mid) (hz : Re mid b q) (ez : ∀ k, z k = y (q k)) (sz : Srt lt z mid b) : Srt lt z a b := by
  have low : ∀ k, a ≤ k → k < mid → (a ≤ rotP s m en k ∧ rotP s m en k < s) ∨ (m ≤ rotP s m en k ∧ rotP s m en k < en) := by
    intro k k1 k2
    unfold rotP
    repeat' split
    all_goals omega
  have high : ∀ k, mid ≤ k → k < b → (s ≤ rotP s m en k ∧ rotP s m en k < m) ∨ (en ≤ rotP s m en k ∧ rotP s m en k < b) := by
    intro k k1 k2
    unfold rotP
    repeat' split
    all_goals omega
  have apart : ∀ i j, a ≤ i → i < mid → mid ≤ j → j < b → lt (x (rotP s m en i)) (x (rotP s m en j)) := by
    intro i j i1 i2 j1 j2
    rcases low i i1 i2 with h | h <;> rcases high j j1 j2 with g | g
    · exact hL _ _ h.1 (by omega) g.2
    · exact h1 _ _ h.1 h.2 g.1 g.2
    · exact h2 _ _ h.1 h.2 g.1 g.2
    · exact hR _ _ h.1 (by omega) g.2
  have zlow : ∀ k, k < mid → z k = y k := by
    intro k hk
    rw [ez, hz.out k (by omega)]
  intro i j hi hij hj
  by_cases c1 : j < mid
  · rw [zlow i (by omega), zlow j c1]
    exact sy i j hi hij c1
  · by_cases c2 : mid ≤ i
    · exact sz i j c2 hij hj
    · rw [zlow i (by omega), ey, ez, ey]
      have g := hz.ins j (by omega) hj
      rw [hy.out (q j) (by omega)]
      have f := hy.ins i hi (by omega)
      exact apart _ _ f.1 f.2 g.1 g.2
end
end Go.Proofs.YtigkdoicmcdbhaaGreat.Stab
