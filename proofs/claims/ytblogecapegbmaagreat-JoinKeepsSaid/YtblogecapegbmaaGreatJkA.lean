import Derived.Test.YtblogecapegbmaaGreatFcA
import Derived.Test.YtblogecapegbmaaGreatVcB
import Derived.Test.YtblogecapegbmaaGreatVcC

/- What stays of a state that is pruned. (No program.) -/
namespace Go.Proofs.YtblogecapegbmaaGreat.Jn
open Go.Proofs.YtblogecapegbmaaGreat.Fc (LinkP NodeP StateP linkC)
open Go.Proofs.YtblogecapegbmaaGreat.Vc (withinB hasB meetV withinB_iff)
set_option linter.unusedVariables false set_option linter.unusedSimpArgs false set_option linter.unusedSectionVars false

/-- A link stays: it is a root, or one that stays is placed in its inode. -/
inductive Keep (root : LinkP → Bool) (ls : List LinkP) : LinkP → Prop
  | root {l : LinkP} : root l = true → Keep root ls l
  | step {k l : LinkP} : k ∈ ls → Keep root ls k → k.par = l.node → Keep root ls l
noncomputable def keepB (root : LinkP → Bool) (ls : List LinkP) (l : LinkP) : Bool := @decide (Keep root ls l) (Classical.propDecidable _)
theorem keepB_iff {root : LinkP → Bool} {ls : List LinkP} {l : LinkP} : keepB root ls l = true ↔ Keep root ls l := by
  unfold keepB
  exact @decide_eq_true_iff _ (Classical.propDecidable _)
theorem keep_less {root : LinkP → Bool} {ls : List LinkP} {l : LinkP} (h : Keep root ls l) : Keep root (ls.filter (keepB root ls)) l := by
  induction h with
  | root h => exact .root h
  | step hk h e ih => exact .step (List.mem_filter.2 ⟨hk, keepB_iff.2 h⟩) ih e
theorem keep_same {root : LinkP → Bool} {ls : List LinkP} {x y : LinkP} (hr : root x = root y) (hn : x.node = y.node) (h : Keep root ls x) : Keep root ls y := by
  cases h with
  | root h => exact .root (hr ▸ h)
  | step hk h e => exact .step hk h (e.trans hn)
/-- Whether others may see a link yet where it was; whether all know all that was done to it. -/
def movedB (known : Nat → Int) (l : LinkP) : Bool := !decide (l.at_ = l.id) && !hasB known l.at_.1 l.at_.2
def settledB (known : Nat → Int) (l : LinkP) : Bool := withinB l.al known && (withinB l.de known && hasB known l.at_.1 l.at_.2)
def rootB (known : Nat → Int) (all : Bool) (l : LinkP) : Bool := all || (!withinB l.al l.de || !settledB known l)
noncomputable def keptL (known : Nat → Int) (ls : List LinkP) : List LinkP := ls.filter (keepB (rootB known (ls.any (movedB known))) ls)
def usedB (known : Nat → Int) (ls : List LinkP) (n : NodeP) : Bool := ls.any (fun l => decide (l.node = n.id)) || !hasB known n.id.1 n.id.2
noncomputable def pruneP (s : StateP) (stable : Nat → Int) : StateP :=
  ⟨s.seen, s.nodes.filter (usedB (meetV s.seen stable) (keptL (meetV s.seen stable) s.links)), keptL (meetV s.seen stable) s.links⟩
theorem filter_all {α : Type} {p : α → Bool} {l : List α} (h : ∀ x ∈ l, p x = true) : l.filter p = l := List.filter_eq_self.2 h
theorem keptL_twice (known : Nat → Int) (ls : List LinkP) : keptL known (keptL known ls) = keptL known ls := by
  unfold keptL
  cases ha : ls.any (movedB known) with
  | true =>
    have h1 : ls.filter (keepB (rootB known true) ls) = ls := filter_all fun x _ => keepB_iff.2 (.root (by simp [rootB]))
    rw [h1, ha, h1]
  | false =>
    have h2 : (ls.filter (keepB (rootB known false) ls)).any (movedB known) = false := by
      rw [List.any_eq_false] at ha ⊢
      exact fun x hx => ha x (List.mem_filter.1 hx).1
    rw [h2]
    exact filter_all fun x hx => keepB_iff.2 (keep_less (keepB_iff.1 (List.mem_filter.1 hx).2))
theorem prune_twice (s : StateP) (stable : Nat → Int) : pruneP (pruneP s stable) stable = pruneP s stable := by
  have h := keptL_twice (meetV s.seen stable) s.links
  unfold pruneP
  simp only [h]
  congr 1
  exact filter_all fun x hx => (List.mem_filter.1 hx).2
/-- What a link that does not stay is. -/
theorem gone_is {known : Nat → Int} {ls : List LinkP} {l : LinkP} (h : keepB (rootB known (ls.any (movedB known))) ls l = false) : withinB l.al known = true ∧ withinB l.de known = true := by
  have h2 : ¬ rootB known (ls.any (movedB known)) l = true := fun e => by rw [keepB_iff.2 (.root e)] at h; cases h
  unfold rootB settledB at h2
  simp at h2
  exact ⟨h2.2.2.1, h2.2.2.2.1⟩
theorem within_meet {x a b : Nat → Int} (h : withinB x (meetV a b) = true) : withinB x a = true ∧ withinB x b = true := by
  rw [withinB_iff] at h
  constructor <;> (rw [withinB_iff]; intro i hi; have := h i hi; unfold meetV at this; split at this <;> omega)
theorem has_same {x : Nat → Int} {a b : Int × Int} (h : a = b) : hasB x a.1 a.2 = hasB x b.1 b.2 := by rw [h]
theorem root_same {known : Nat → Int} {all : Bool} {x y : LinkP} (h1 : x.node = y.node) (h2 : x.at_ = y.at_) (h3 : ∀ i, i < 8 → x.al i = y.al i) (h4 : ∀ i, i < 8 → x.de i = y.de i) : rootB known all x = rootB known all y := by
  have e : ∀ {u v u' v' : Nat → Int}, (∀ i, i < 8 → u i = u' i) → (∀ i, i < 8 → v i = v' i) → withinB u v = withinB u' v' := by
    intro u v u' v' hu hv
    rw [Bool.eq_iff_iff, withinB_iff, withinB_iff]
    constructor <;> (intro h i hi; have := h i hi; have := hu i hi; have := hv i hi; omega)
  unfold rootB settledB
  rw [e h3 h4, e (v' := known) h3 (fun _ _ => rfl), e (v' := known) h4 (fun _ _ => rfl), h2]
theorem cells_same {x y : LinkP} (e : linkC x = linkC y) : x.node = y.node ∧ x.at_ = y.at_ ∧ (∀ i, i < 8 → x.al i = y.al i) ∧ ∀ i, i < 8 → x.de i = y.de i := by
  have g : ∀ j : Nat, (linkC x)[j]? = (linkC y)[j]? := fun j => by rw [e]
  have k2 := g 2; have k3 := g 3; have k4 := g 4; have k5 := g 5
  have k9 := g 9; have k10 := g 10; have k11 := g 11; have k12 := g 12; have k13 := g 13; have k14 := g 14; have k15 := g 15; have k16 := g 16
  have k17 := g 17; have k18 := g 18; have k19 := g 19; have k20 := g 20; have k21 := g 21; have k22 := g 22; have k23 := g 23; have k24 := g 24
  simp [linkC] at k2 k3 k4 k5 k9 k10 k11 k12 k13 k14 k15 k16 k17 k18 k19 k20 k21 k22 k23 k24
  refine ⟨Prod.ext k2 k3, Prod.ext k4 k5, fun i hi => ?_, fun i hi => ?_⟩
  · match i, hi with
    | 0, _ => exact k9
    | 1, _ => exact k10
    | 2, _ => exact k11
    | 3, _ => exact k12
    | 4, _ => exact k13
    | 5, _ => exact k14
    | 6, _ => exact k15
    | 7, _ => exact k16
    | i + 8, hi => omega
  · match i, hi with
    | 0, _ => exact k17
    | 1, _ => exact k18
    | 2, _ => exact k19
    | 3, _ => exact k20
    | 4, _ => exact k21
    | 5, _ => exact k22
    | 6, _ => exact k23
    | 7, _ => exact k24
    | i + 8, hi => omega
/-- Links that are alike stay alike. -/
theorem keep_alike {known : Nat → Int} {all : Bool} {ls : List LinkP} {x y : LinkP} (e : linkC x = linkC y) : keepB (rootB known all) ls x = keepB (rootB known all) ls y := by
  obtain ⟨h1, h2, h3, h4⟩ := cells_same e
  have hr := root_same (known := known) (all := all) h1 h2 h3 h4
  rw [Bool.eq_iff_iff, keepB_iff, keepB_iff]
  exact ⟨keep_same hr h1, keep_same hr.symm h1.symm⟩
/-- The place in what is left of a list. -/
theorem filter_at {α : Type} (p : α → Bool) : ∀ (l : List α) (i : Nat) (hi : i < l.length), p l[i] = true → (l.filter p)[((l.take i).filter p).length]? = some l[i]
  | x :: r, 0, _, h => by
    have h' : p x = true := h
    simp [List.filter_cons, h']
  | x :: r, i + 1, hi, h => by
    have ih := filter_at p r i (by simpa using hi) h
    rw [List.take_succ_cons, List.filter_cons, List.filter_cons]
    split
    · simpa using ih
    · simpa using ih
theorem filter_next {α : Type} (p : α → Bool) {l : List α} {i : Nat} (hi : i < l.length) : ((l.take (i + 1)).filter p).length = ((l.take i).filter p).length + if p l[i] = true then 1 else 0 := by
  rw [List.take_succ_eq_append_getElem hi, List.filter_append, List.length_append]
  by_cases h : p l[i] = true <;> simp [List.filter_cons, h]
/-- What Up answers lies within what stays. -/
structure UpOk (ls : List LinkP) (us : List Bool) : Prop where
  len : us.length = ls.length
  up : ∀ G : LinkP → Prop, (∀ l ∈ ls, withinB l.al l.de = false → G l) → (∀ k ∈ ls, ∀ l ∈ ls, G k → k.par = l.node → G l) → ∀ i (h : i < ls.length) (h2 : i < us.length), us[i] = true → G ls[i]
theorem up_keeps {known : Nat → Int} {ls : List LinkP} {us : List Bool} (h : UpOk ls us) {i : Nat} (hi : i < ls.length) (h2 : i < us.length) (hu : us[i] = true) : keepB (rootB known (ls.any (movedB known))) ls ls[i] = true :=
  keepB_iff.2 (h.up (Keep (rootB known (ls.any (movedB known))) ls) (fun l _ hl => .root (by simp [rootB, hl])) (fun k hk l _ h e => .step hk h e) i hi h2 hu)
end Go.Proofs.YtblogecapegbmaaGreat.Jn
