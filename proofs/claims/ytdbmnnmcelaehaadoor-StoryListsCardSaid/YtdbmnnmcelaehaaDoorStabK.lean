/- What a rotation makes of two sorted parts: four sorted parts. -/
import Derived.Test.YtdbmnnmcelaehaaDoorStabH
namespace Go.Proofs.YtdbmnnmcelaehaaDoor.Stab
set_option linter.unusedVariables false

theorem rot_none {s m en : Nat} (k : Nat) (h1 : s ≤ m) (h2 : m ≤ en) (h : ¬ (s < m ∧ m < en)) : rotP s m en k = k := by
  unfold rotP
  repeat' split
  all_goals omega
theorem rot_lo {s m en k : Nat} (h : k < s) : rotP s m en k = k := by
  unfold rotP
  repeat' split
  all_goals omega
theorem rot_mi {s m en k : Nat} (h1 : s ≤ k) (h2 : k + m < s + en) : rotP s m en k = k - s + m := by
  unfold rotP
  repeat' split
  all_goals omega
theorem rot_ne {s m en k : Nat} (h0 : m ≤ en) (h1 : s + en ≤ k + m) (h2 : k < en) : rotP s m en k = k - (en - m) := by
  unfold rotP
  repeat' split
  all_goals omega
theorem rot_hi {s m en k : Nat} (hs : s ≤ m) (h : en ≤ k) : rotP s m en k = k := by
  unfold rotP
  repeat' split
  all_goals omega
section
variable {β : Type} {lt : β → β → Prop} {x : Nat → β} {a m b s mid en : Nat}
structure Parts (a m b s mid en : Nat) : Prop where
  h1 : a ≤ s
  h2 : s ≤ m
  h3 : m ≤ en
  h4 : en ≤ b
  h5 : en + s = mid + m
theorem parts_lo (h : Parts a m b s mid en) (hL : Srt lt x a m) : Srt lt (fun k => x (rotP s m en k)) a s := fun i j hi hij hj => by
  obtain ⟨h1, h2, h3, h4, h5⟩ := h
  show lt (x _) (x _)
  rw [rot_lo (by omega), rot_lo hj]
  exact hL i j hi hij (by omega)
theorem parts_mi (h : Parts a m b s mid en) (hR : Srt lt x m b) : Srt lt (fun k => x (rotP s m en k)) s mid := fun i j hi hij hj => by
  obtain ⟨h1, h2, h3, h4, h5⟩ := h
  show lt (x _) (x _)
  rw [rot_mi hi (by omega), rot_mi (by omega) (by omega)]
  exact hR _ _ (by omega) (by omega) (by omega)
theorem parts_ne (h : Parts a m b s mid en) (hL : Srt lt x a m) : Srt lt (fun k => x (rotP s m en k)) mid en := fun i j hi hij hj => by
  obtain ⟨h1, h2, h3, h4, h5⟩ := h
  show lt (x _) (x _)
  rw [rot_ne h3 (by omega) (by omega), rot_ne h3 (by omega) hj]
  exact hL _ _ (by omega) (by omega) (by omega)
theorem parts_hi (h : Parts a m b s mid en) (hR : Srt lt x m b) : Srt lt (fun k => x (rotP s m en k)) en b := fun i j hi hij hj => by
  obtain ⟨h1, h2, h3, h4, h5⟩ := h
  show lt (x _) (x _)
  rw [rot_hi h2 hi, rot_hi h2 (by omega)]
  exact hR _ _ (by omega) (by omega) hj
theorem parts_one (h : Parts a m b s mid en) (hL : Srt lt x a m) (hR : Srt lt x m b) (hn : ¬ (a < s ∧ s < mid)) : Srt lt (fun k => x (rotP s m en k)) a mid := fun i j hi hij hj => by
  have h0 := h
  obtain ⟨h1, h2, h3, h4, h5⟩ := h
  by_cases c : a < s
  · exact parts_lo h0 hL i j hi hij (by omega)
  · exact parts_mi h0 hR i j (by omega) hij hj
theorem parts_two (h : Parts a m b s mid en) (hL : Srt lt x a m) (hR : Srt lt x m b) (hn : ¬ (mid < en ∧ en < b)) : Srt lt (fun k => x (rotP s m en k)) mid b := fun i j hi hij hj => by
  have h0 := h
  obtain ⟨h1, h2, h3, h4, h5⟩ := h
  by_cases c : mid < en
  · exact parts_ne h0 hL i j hi hij (by omega)
  · exact parts_hi h0 hR i j (by omega) hij hj
theorem parts_tag1 {t : Nat → Nat} (h : Parts a m b s mid en) (ht : ∀ i j, a ≤ i → i < m → m ≤ j → j < b → t i < t j) : ∀ i j, a ≤ i → i < s → s ≤ j → j < mid → t (rotP s m en i) < t (rotP s m en j) := fun i j i1 i2 j1 j2 => by
  obtain ⟨h1, h2, h3, h4, h5⟩ := h
  rw [rot_lo i2, rot_mi j1 (by omega)]
  exact ht _ _ i1 (by omega) (by omega) (by omega)
theorem parts_tag2 {t : Nat → Nat} (h : Parts a m b s mid en) (ht : ∀ i j, a ≤ i → i < m → m ≤ j → j < b → t i < t j) : ∀ i j, mid ≤ i → i < en → en ≤ j → j < b → t (rotP s m en i) < t (rotP s m en j) := fun i j i1 i2 j1 j2 => by
  obtain ⟨h1, h2, h3, h4, h5⟩ := h
  rw [rot_ne h3 (by omega) i2, rot_hi h2 j1]
  exact ht _ _ (by omega) (by omega) (by omega) (by omega)
/-- a rearrangement of what lies below leaves what lies above -/
theorem Re.above {a b k : Nat} {p : Nat → Nat} (h : Re a b p) (hk : b ≤ k) : p k = k := h.out k (by omega)
theorem parts_ne2 {p : Nat → Nat} (h : Parts a m b s mid en) (hp : Re a mid p) (hL : Srt lt x a m) : Srt lt (fun k => x (rotP s m en (p k))) mid en :=
  (parts_ne h hL).congr fun k k1 k2 => by show x _ = x _; rw [hp.above k1]
theorem parts_hi2 {p : Nat → Nat} (h : Parts a m b s mid en) (hme : mid ≤ en) (hp : Re a mid p) (hR : Srt lt x m b) : Srt lt (fun k => x (rotP s m en (p k))) en b :=
  (parts_hi h hR).congr fun k k1 k2 => by show x _ = x _; rw [hp.above (by omega)]
theorem parts_two2 {p : Nat → Nat} (h : Parts a m b s mid en) (hp : Re a mid p) (hL : Srt lt x a m) (hR : Srt lt x m b) (hn : ¬ (mid < en ∧ en < b)) : Srt lt (fun k => x (rotP s m en (p k))) mid b :=
  (parts_two h hL hR hn).congr fun k k1 k2 => by show x _ = x _; rw [hp.above k1]
theorem parts_tag3 {t p : Nat → Nat} (h : Parts a m b s mid en) (hme : mid ≤ en) (hp : Re a mid p) (ht : ∀ i j, a ≤ i → i < m → m ≤ j → j < b → t i < t j) : ∀ i j, mid ≤ i → i < en → en ≤ j → j < b → t (rotP s m en (p i)) < t (rotP s m en (p j)) := fun i j i1 i2 j1 j2 => by
  rw [hp.above i1, hp.above (show mid ≤ j by omega)]
  exact parts_tag2 h ht i j i1 i2 j1 j2
theorem parts_end (tr : ∀ {u v w}, lt u v → lt v w → lt u w) {p q : Nat → Nat} (h : Parts a m b s mid en) (ham : a ≤ mid) (hmb : mid ≤ b) (hL : Srt lt x a m) (hR : Srt lt x m b) (h1 : ∀ i j, a ≤ i → i < s → en ≤ j → j < b → lt (x i) (x j)) (h2 : ∀ i j, m ≤ i → i < en → s ≤ j → j < m → lt (x i) (x j))
    (hp : Re a mid p) (sp : Srt lt (fun k => x (rotP s m en (p k))) a mid) (hq : Re mid b q) (sq : Srt lt (fun k => x (rotP s m en (p (q k)))) mid b) :
    Re a b (fun k => rotP s m en (p (q k))) ∧ Srt lt (fun k => x (rotP s m en (p (q k)))) a b :=
  ⟨((Re.rot h.h2 h.h3).wide h.h1 h.h4).comp ((hp.wide (Nat.le_refl _) hmb).comp (hq.wide ham (Nat.le_refl _))),
   merge_step (lt := lt) (x := x) (y := fun k => x (rotP s m en (p k))) (z := fun k => x (rotP s m en (p (q k)))) tr ham hmb h.h1 h.h2 h.h3 h.h4 h.h5 hL hR h1 h2 hp (fun k => rfl) sp hq (fun k => rfl) sq⟩
end
end Go.Proofs.YtdbmnnmcelaehaaDoor.Stab
