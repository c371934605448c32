/- Blocks of a row, each sorted for itself: what insertions and merges make of them. -/
import Derived.Test.YtdbmnnmcelaehaaDoorStabK
namespace Go.Proofs.YtdbmnnmcelaehaaDoor.Stab
set_option linter.unusedVariables false

section
variable {β : Type}
/-- a block, cut at n: its places stay in it, and it is sorted -/
structure Blk (lt : β → β → Prop) (f : Nat → β) (p : Nat → Nat) (n lo hi : Nat) : Prop where
  keep : ∀ k, lo ≤ k → k < hi → k < n → lo ≤ p k ∧ p k < hi
  srt : ∀ i j, lo ≤ i → i < j → j < hi → j < n → lt (f (p i)) (f (p j))
/-- blocks of B places, all sorted -/
structure Blks (lt : β → β → Prop) (f : Nat → β) (p : Nat → Nat) (n B : Nat) : Prop where
  re : Re 0 n p
  blk : ∀ q, Blk lt f p n (q * B) (q * B + B)
/-- the first Q blocks are sorted, the rest is as it was -/
structure Ins (lt : β → β → Prop) (f : Nat → β) (p : Nat → Nat) (n B Q : Nat) : Prop where
  re : Re 0 n p
  rest : ∀ k, Q * B ≤ k → p k = k
  blk : ∀ q, q < Q → Blk lt f p n (q * B) (q * B + B)
/-- the first Q pairs of blocks are merged -/
structure Mer (lt : β → β → Prop) (f : Nat → β) (p : Nat → Nat) (n B Q : Nat) : Prop where
  re : Re 0 n p
  done : ∀ q, q < Q → Blk lt f p n (q * (2 * B)) (q * (2 * B) + 2 * B)
  left : ∀ q, Q ≤ q → Blk lt f p n (q * (2 * B)) (q * (2 * B) + B)
  right : ∀ q, Q ≤ q → Blk lt f p n (q * (2 * B) + B) (q * (2 * B) + 2 * B)
variable {lt : β → β → Prop} {f : Nat → β} {p p2 r : Nat → Nat} {n B Q lo hi : Nat}
theorem Blk.congr (h : Blk lt f p n lo hi) (e : ∀ k, lo ≤ k → k < hi → p2 k = p k) : Blk lt f p2 n lo hi :=
  ⟨fun k k1 k2 k3 => by rw [e k k1 k2]; exact h.keep k k1 k2 k3, fun i j i1 i2 j1 j2 => by rw [e i i1 (by omega), e j (by omega) j1]; exact h.srt i j i1 i2 j1 j2⟩
theorem Blk.none (h : n ≤ lo) : Blk lt f p n lo hi := ⟨fun k k1 k2 k3 => by omega, fun i j i1 i2 j1 j2 => by omega⟩
theorem mul_lt {q Q C : Nat} (h : q < Q) : q * C + C ≤ Q * C := by
  have := Nat.mul_le_mul_right C (show q + 1 ≤ Q from h)
  rwa [Nat.add_mul, Nat.one_mul] at this
theorem Ins.zero : Ins lt f (fun k => k) n B 0 := ⟨Re.refl _ _, fun k _ => rfl, fun q h => absurd h (Nat.not_lt_zero _)⟩
theorem Ins.step (h : Ins lt f p n B Q) (hb : Q * B + B ≤ n) (hr : Re (Q * B) (Q * B + B) r) (hs : Srt lt (fun k => f (p (r k))) (Q * B) (Q * B + B)) : Ins lt f (fun k => p (r k)) n B (Q + 1) := by
  refine ⟨h.re.comp (hr.wide (Nat.zero_le _) hb), fun k hk => ?_, fun q hq => ?_⟩
  · rw [Nat.add_mul, Nat.one_mul] at hk
    show p (r k) = k
    rw [hr.out k (by omega), h.rest k (by omega)]
  · by_cases e : q = Q
    · subst e
      refine ⟨fun k k1 k2 k3 => ?_, fun i j i1 i2 j1 j2 => hs i j i1 i2 j1⟩
      have g := hr.ins k k1 k2
      show q * B ≤ p (r k) ∧ p (r k) < q * B + B
      rw [h.rest (r k) g.1]
      exact g
    · have g := mul_lt (C := B) (show q < Q by omega)
      exact (h.blk q (by omega)).congr fun k k1 k2 => by show p (r k) = p k; rw [hr.out k (by omega)]
theorem Ins.last (h : Ins lt f p n B Q) (hn : n < Q * B + B) (hQ : Q * B ≤ n) (hr : Re (Q * B) n r) (hs : Srt lt (fun k => f (p (r k))) (Q * B) n) : Blks lt f (fun k => p (r k)) n B := by
  refine ⟨h.re.comp (hr.wide (Nat.zero_le _) (Nat.le_refl _)), fun q => ?_⟩
  by_cases e : q = Q
  · subst e
    refine ⟨fun k k1 k2 k3 => ?_, fun i j i1 i2 j1 j2 => hs i j i1 i2 j2⟩
    have g := hr.ins k k1 k3
    show q * B ≤ p (r k) ∧ p (r k) < q * B + B
    rw [h.rest (r k) g.1]
    exact ⟨g.1, by omega⟩
  · by_cases e2 : q < Q
    · have g := mul_lt (C := B) e2
      exact (h.blk q e2).congr fun k k1 k2 => by show p (r k) = p k; rw [hr.out k (by omega)]
    · have g := mul_lt (C := B) (show Q < q by omega)
      exact Blk.none (by omega)
theorem Mer.zero (h : Blks lt f p n B) : Mer lt f p n B 0 := by
  refine ⟨h.re, fun q hq => absurd hq (Nat.not_lt_zero _), fun q _ => ?_, fun q _ => ?_⟩
  · have := h.blk (2 * q)
    rwa [show 2 * q * B = q * (2 * B) by rw [Nat.mul_comm 2 q, Nat.mul_assoc]] at this
  · have := h.blk (2 * q + 1)
    rwa [Nat.add_mul, Nat.one_mul, show 2 * q * B = q * (2 * B) by rw [Nat.mul_comm 2 q, Nat.mul_assoc], show q * (2 * B) + B + B = q * (2 * B) + 2 * B by omega] at this
theorem Mer.low (h : Mer lt f p n B Q) (hb : Q * (2 * B) + B ≤ n) : Srt lt (fun k => f (p k)) (Q * (2 * B)) (Q * (2 * B) + B) := fun i j i1 i2 j1 => (h.left Q (Nat.le_refl _)).srt i j i1 i2 j1 (by omega)
theorem Mer.high (h : Mer lt f p n B Q) {e : Nat} (he : e ≤ n) (hb : e ≤ Q * (2 * B) + 2 * B) : Srt lt (fun k => f (p k)) (Q * (2 * B) + B) e := fun i j i1 i2 j1 => (h.right Q (Nat.le_refl _)).srt i j i1 i2 (by omega) (by omega)
theorem Mer.tags (h : Mer lt f p n B Q) {e : Nat} (he : e ≤ n) (hb : e ≤ Q * (2 * B) + 2 * B) : ∀ i j, Q * (2 * B) ≤ i → i < Q * (2 * B) + B → Q * (2 * B) + B ≤ j → j < e → p i < p j := fun i j i1 i2 j1 j2 => by
  have g1 := (h.left Q (Nat.le_refl _)).keep i i1 i2 (by omega)
  have g2 := (h.right Q (Nat.le_refl _)).keep j j1 (by omega) (by omega)
  omega
theorem Mer.keeps (h : Mer lt f p n B Q) {k : Nat} (k1 : Q * (2 * B) ≤ k) (k2 : k < Q * (2 * B) + 2 * B) (k3 : k < n) : Q * (2 * B) ≤ p k ∧ p k < Q * (2 * B) + 2 * B := by
  by_cases c : k < Q * (2 * B) + B
  · have g := (h.left Q (Nat.le_refl _)).keep k k1 c k3
    omega
  · have g := (h.right Q (Nat.le_refl _)).keep k (by omega) k2 k3
    omega
theorem Mer.step (h : Mer lt f p n B Q) (hb : Q * (2 * B) + 2 * B ≤ n) (hr : Re (Q * (2 * B)) (Q * (2 * B) + 2 * B) r) (hs : Srt lt (fun k => f (p (r k))) (Q * (2 * B)) (Q * (2 * B) + 2 * B)) : Mer lt f (fun k => p (r k)) n B (Q + 1) := by
  refine ⟨h.re.comp (hr.wide (Nat.zero_le _) hb), fun q hq => ?_, fun q hq => ?_, fun q hq => ?_⟩
  · by_cases e : q = Q
    · subst e
      refine ⟨fun k k1 k2 k3 => ?_, fun i j i1 i2 j1 j2 => hs i j i1 i2 j1⟩
      have g := hr.ins k k1 k2
      exact h.keeps g.1 g.2 (by omega)
    · have g := mul_lt (C := 2 * B) (show q < Q by omega)
      exact (h.done q (by omega)).congr fun k k1 k2 => by show p (r k) = p k; rw [hr.out k (by omega)]
  · have g := mul_lt (C := 2 * B) (show Q < q by omega)
    exact (h.left q (by omega)).congr fun k k1 k2 => by show p (r k) = p k; rw [hr.out k (by omega)]
  · have g := mul_lt (C := 2 * B) (show Q < q by omega)
    exact (h.right q (by omega)).congr fun k k1 k2 => by show p (r k) = p k; rw [hr.out k (by omega)]
theorem Mer.last (h : Mer lt f p n B Q) (h1 : Q * (2 * B) + B < n) (hn : n < Q * (2 * B) + 2 * B) (hr : Re (Q * (2 * B)) n r) (hs : Srt lt (fun k => f (p (r k))) (Q * (2 * B)) n) : Blks lt f (fun k => p (r k)) n (2 * B) := by
  refine ⟨h.re.comp (hr.wide (Nat.zero_le _) (Nat.le_refl _)), fun q => ?_⟩
  by_cases e : q = Q
  · subst e
    refine ⟨fun k k1 k2 k3 => ?_, fun i j i1 i2 j1 j2 => hs i j i1 i2 j2⟩
    have g := hr.ins k k1 k3
    exact h.keeps g.1 (by omega) g.2
  · by_cases e2 : q < Q
    · have g := mul_lt (C := 2 * B) e2
      exact (h.done q e2).congr fun k k1 k2 => by show p (r k) = p k; rw [hr.out k (by omega)]
    · have g := mul_lt (C := 2 * B) (show Q < q by omega)
      exact Blk.none (by omega)
theorem Mer.rest (h : Mer lt f p n B Q) (h1 : n ≤ Q * (2 * B) + B) : Blks lt f p n (2 * B) := by
  refine ⟨h.re, fun q => ?_⟩
  by_cases e : q = Q
  · subst e
    refine ⟨fun k k1 k2 k3 => h.keeps k1 k2 k3, fun i j i1 i2 j1 j2 => (h.left q (Nat.le_refl _)).srt i j i1 i2 (by omega) j2⟩
  · by_cases e2 : q < Q
    · exact h.done q e2
    · have g := mul_lt (C := 2 * B) (show Q < q by omega)
      exact Blk.none (by omega)
theorem Blks.all (h : Blks lt f p n B) (hB : n ≤ B) : Srt lt (fun k => f (p k)) 0 n := fun i j i1 i2 j1 => by
  have := (h.blk 0).srt i j (by omega) i2 (by omega) j1
  exact this
end
end Go.Proofs.YtdbmnnmcelaehaaDoor.Stab
