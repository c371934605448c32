/- What befalls a store and its device; what hangs on a block: in pure terms. -/
import Derived.Test.YtkbpjegegjgbkaaGreatSwC
namespace Go.Proofs.YtkbpjegegjgbkaaGreat.Sto
open Go.RowKit
open Dv (DoV)
set_option linter.unusedVariables false

/-- A thing befalls a store: it goes on with a commit, or without, or the power is gone. -/
theorem img_does {N a : Nat} {s s' : SV} {T : Int → Option TV} {k : DoV} {E : Int} (hI : Inv N a s) (ha : a ≤ 1000) (h : Img N s T) (hd : DoesV N s k E s') :
    (opM k.op = 9 ∧ E = 0 ∧ (k.i = 0 ∨ (s.nodes k.i).isSome = true) ∧ Img N s' (treeOf N s k.i) ∧ s'.root = k.i ∧ s'.note = k.s) ∨
    (E ≠ 5 ∧ ¬ (opM k.op = 9 ∧ E = 0) ∧ Img N s' T ∧ s'.root = s.root ∧ s'.note = s.note) ∨
    (E = 5 ∧ Safe N s'.dev s.gen s.root s.note T) ∨
    (E = 5 ∧ opM k.op = 9 ∧ (k.i = 0 ∨ (s.nodes k.i).isSome = true) ∧ Half N s'.dev s.gen s.root s.note T k.i k.s (treeOf N s k.i)) := by
  have hsame : ∀ E : Int, E = 22 → s' = s → (E ≠ 5 ∧ ¬ (opM k.op = 9 ∧ E = 0) ∧ Img N s' T ∧ s'.root = s.root ∧ s'.note = s.note) := fun E e1 e2 => by
    rw [e1, e2]
    exact ⟨by decide, (fun q => absurd q.2 (by decide)), h, rfl, rfl⟩
  have hnodes : ∀ (f : Int → Option NodeV), opM k.op ≠ 9 → E = 0 → s' = { s with nodes := f } → (∀ z n, f z = some n → ∃ m, s.nodes z = some m ∧ n.kids = m.kids) → (E ≠ 5 ∧ ¬ (opM k.op = 9 ∧ E = 0) ∧ Img N s' T ∧ s'.root = s.root ∧ s'.note = s.note) := fun f e0 e1 e2 e3 => by
    rw [e1, e2]
    exact ⟨by decide, (fun q => e0 q.1), h.nodes e3, rfl, rfl⟩
  rcases hd with ⟨ho, ⟨_, e1, e2⟩ | ⟨nd, hn, e1, e2⟩⟩ | ⟨ho, ⟨_, e1, e2⟩ | ⟨nd, hn, h1, e1, e2⟩⟩ | ⟨ho, e1, f, ha, hs, e2⟩ | ⟨ho, ⟨_, e1, e2⟩ | ⟨hr, h1, e1, e2⟩⟩ | ⟨ho, e1, e2⟩ | ⟨ho, e1, e2⟩
  · exact .inr (.inl (hsame E e1 e2))
  · refine .inr (.inl (hnodes _ (by omega) e1 e2 fun z n hz => ?_))
    obtain ⟨m, hm, e, _⟩ := held_is hz
    exact ⟨m, hm, e⟩
  · exact .inr (.inl (hsame E e1 e2))
  · refine .inr (.inl (hnodes _ (by omega) e1 e2 fun z n hz => ?_))
    obtain ⟨m, hm, e, _⟩ := (drop_acc hI hn h1).2 z n hz
    obtain ⟨q, hq, e', _⟩ := held_is hm
    exact ⟨q, hq, e.trans e'⟩
  · refine .inr (.inl (hnodes _ (by omega) e1 e2 fun z n hz => ?_))
    obtain ⟨m, hm, e, _⟩ := hs z n hz
    exact ⟨m, hm, e⟩
  · exact .inr (.inl (hsame E e1 e2))
  · rw [e1, e2]
    rcases img_commit hI ha h hr h1 with ⟨c1, c2, c3, c4⟩ | ⟨c1, c2⟩ | ⟨c1, c2⟩
    · exact .inl ⟨ho, c1, hr, c2, c3, c4⟩
    · exact .inr (.inr (.inl ⟨c1, c2⟩))
    · exact .inr (.inr (.inr ⟨c1, ho, hr, c2⟩))
  · rw [e2]
    refine .inr (.inl ⟨?_, (fun q => by omega), h, rfl, rfl⟩)
    rw [e1, get_img hI h.on h.tells]
    cases s.nodes k.i with
    | none => exact (by decide : (22 : Int) ≠ 5)
    | some n => exact (by decide : (0 : Int) ≠ 5)
  · rw [e1, e2]
    rcases img_put hI h k.ks k.s with ⟨c1, c2, c3, c4, _⟩ | ⟨c1, c2⟩
    · exact .inr (.inl ⟨c1, (fun q => ho q.1), c2, c3, c4⟩)
    · exact .inr (.inr (.inl ⟨c1, c2⟩))
/-- A new store. -/
theorem img_new {K : Nat} (hK : 8 ≤ K ∧ K ≤ 40) (note : ByteArray) (hn : note.size ≤ 3900) : Img K (bareV 1 0 note (fmtZ note (Dv.newSt K))) fun _ => none := by
  have hI := (inv_new hK note hn).1
  have hat : AtD (fmtZ note (Dv.newSt K)) 1 (beginB 1 0 K note) := ⟨rfl, rfl⟩
  have ha0 : AtD (fmtZ note (Dv.newSt K)) 0 ⟨#[]⟩ := ⟨rfl, rfl⟩
  refine ⟨rfl, ⟨rfl, hI.small, ⟨(fun h => absurd rfl h), (fun z v hz => by cases hz), (fun z v hz => by cases hz), (fun L _ _ z hz => by cases hz)⟩, (fun z v hz => by cases hz), hat, hn, ⟨by show (1 : Int) ≤ 1; decide, by show (1 : Int) ≤ 2000; decide⟩, ⟨#[]⟩, ha0, fun x hx => ?_⟩, (fun z => rfl), (fun z n hz => by cases hz)⟩
  have hp : parseG K (⟨#[]⟩ : ByteArray) = none := by
    unfold parseG parOf
    rw [if_neg]
    unfold lookB
    rw [show decide (8 ≤ (⟨#[]⟩ : ByteArray).size) = false from rfl]
    simp
  rw [hp] at hx
  cases hx
/-- What hangs on blocks, in the order in which they are come to. -/
def belowV (get : Int → Option (List Int × ByteArray) × Int) : Nat → List Int → List (List Int × ByteArray) → List (List Int × ByteArray)
  | 0, _, out => out
  | _ + 1, [], out => out
  | n + 1, z :: todo, out => if out.length < 200 then (match (get z).1 with
    | some b => belowV get n (todo ++ b.1) (out ++ [b])
    | none => belowV get n todo out) else out
/-- So many steps are enough. -/
def fuelV (todo : List Int) (out : List (List Int × ByteArray)) : Nat := (200 - out.length) * 20 + todo.length
theorem below_same {g1 g2 : Int → Option (List Int × ByteArray) × Int} {R : Int → Prop} (h1 : ∀ z, R z → g1 z = g2 z) (h2 : ∀ z b, R z → (g1 z).1 = some b → ∀ k ∈ b.1, R k) : ∀ (n : Nat) (todo : List Int) (out : List (List Int × ByteArray)), (∀ z ∈ todo, R z) → belowV g1 n todo out = belowV g2 n todo out
  | 0, _, _, _ => rfl
  | n + 1, [], _, _ => rfl
  | n + 1, z :: todo, out, h => by
    have hz := h z List.mem_cons_self
    unfold belowV
    rw [← h1 z hz]
    by_cases hl : out.length < 200
    · rw [if_pos hl, if_pos hl]
      cases hg : (g1 z).1 with
      | none => exact below_same h1 h2 n todo out (fun y hy => h y (List.mem_cons_of_mem _ hy))
      | some b =>
        refine below_same h1 h2 n (todo ++ b.1) (out ++ [b]) (fun y hy => ?_)
        rcases List.mem_append.1 hy with hy | hy
        · exact h y (List.mem_cons_of_mem _ hy)
        · exact h2 z b hz hg y hy
    · rw [if_neg hl, if_neg hl]
/-- Whatever more steps there are. -/
theorem below_more {g : Int → Option (List Int × ByteArray) × Int} (hg : ∀ z b, (g z).1 = some b → b.1.length ≤ 16) : ∀ (n m : Nat) (todo : List Int) (out : List (List Int × ByteArray)), fuelV todo out ≤ n → fuelV todo out ≤ m → belowV g n todo out = belowV g m todo out
  | 0, m, todo, out, h1, h2 => by
    have h3 : todo = [] := List.eq_nil_of_length_eq_zero (by unfold fuelV at h1; omega)
    subst h3
    cases m <;> rfl
  | n + 1, 0, todo, out, h1, h2 => by
    have h3 : todo = [] := List.eq_nil_of_length_eq_zero (by unfold fuelV at h2; omega)
    subst h3
    rfl
  | n + 1, m + 1, [], out, h1, h2 => rfl
  | n + 1, m + 1, z :: todo, out, h1, h2 => by
    unfold belowV
    by_cases hl : out.length < 200
    · rw [if_pos hl, if_pos hl]
      unfold fuelV at h1 h2
      rw [List.length_cons] at h1 h2
      cases hz : (g z).1 with
      | none => exact below_more hg n m todo out (by unfold fuelV; omega) (by unfold fuelV; omega)
      | some b =>
        have := hg z b hz
        exact below_more hg n m _ _ (by unfold fuelV; rw [List.length_append, List.length_append, List.length_singleton]; omega) (by unfold fuelV; rw [List.length_append, List.length_append, List.length_singleton]; omega)
    · rw [if_neg hl, if_neg hl]
/-- What hangs on a block. -/
def hangs (g : Int → Option (List Int × ByteArray) × Int) (id : Int) : List (List Int × ByteArray) := belowV g 4001 [id] []
/-- What hangs on a root as it is committed is what the tree says. -/
theorem hangs_tree {N a : Nat} {s : SV} (hI : Inv N a s) (ho : s.dev.on = true) (h : TellsN s) {root : Int} (hr : root = 0 ∨ (s.nodes root).isSome = true) : hangs (getV s) root = hangs (getT (treeOf N s root)) root := by
  obtain ⟨k1, k2⟩ := kept_at hI hr
  refine below_same (R := fun z => keptOf s root z = true ∨ z = 0) (fun z hz => ?_) (fun z b hz hb k hk => ?_) _ _ _ (fun z hz => ?_)
  · rw [get_img hI ho h]
    rcases hz with hz | hz
    · obtain ⟨n, hn⟩ := Option.isSome_iff_exists.1 (kept_in hI hr hz)
      unfold getT treeOf
      rw [hn, if_pos hz]
      rfl
    · have h0 : s.nodes z = none := by
        cases hn : s.nodes z with
        | none => rfl
        | some n =>
          obtain ⟨i, e, e2, _⟩ := hI.acc.ids z (by rw [hn]; rfl)
          omega
      have ht : treeOf N s root z = none := by
        unfold treeOf
        rw [h0]
        split <;> rfl
      unfold getT
      rw [ht, h0]
  · rw [get_img hI ho h] at hb
    cases hn : s.nodes z with
    | none => rw [hn] at hb; cases hb
    | some n =>
      rw [hn] at hb
      have hb : some (n.kids, dataOf N s z) = some b := hb
      injection hb with hb
      subst hb
      rcases hz with hz | hz
      · exact .inl (k2 z hz n hn k hk)
      · obtain ⟨i, e, e2, _⟩ := hI.acc.ids z (by rw [hn]; rfl)
        omega
  · rw [List.mem_singleton.1 hz]
    by_cases h0 : root = 0
    · exact .inr h0
    · exact .inl (k1 h0)
theorem hangs_none : hangs (getT fun _ => none) 0 = [] := rfl
end Go.Proofs.YtkbpjegegjgbkaaGreat.Sto
