import Derived.Test.YtblogecapegbmaaGreatMem

/- Rows as one, by keys: one of each key, in order. What comes of it hangs neither on order nor on repetition. (No program.) -/
namespace Go.Proofs.YtblogecapegbmaaGreat.Jn
set_option linter.unusedVariables false set_option linter.unusedSimpArgs false set_option linter.unusedSectionVars false

structure KLt {κ : Type} (lt : κ → κ → Bool) : Prop where
 irr : ∀ a, lt a a = false
 trans : ∀ {a b c}, lt a b = true → lt b c = true → lt a c = true
 tot : ∀ a b, lt a b = false → lt b a = false → a = b
/-- How two of one key become one. -/
structure Joins {α κ : Type} (key : α → κ) (op : α → α → α) (nrm : α → α) : Prop where
 kop : ∀ a b, key a = key b → key (op a b) = key a
 knrm : ∀ a, key (nrm a) = key a
 comm : ∀ a b, key a = key b → op a b = op b a
 assoc : ∀ a b c, key a = key b → key b = key c → op (op a b) c = op a (op b c)
 self : ∀ a, op a a = nrm a
 nop : ∀ a b, key a = key b → op (nrm a) b = op a b
section
variable {α κ : Type} [DecidableEq κ] (lt : κ → κ → Bool) (key : α → κ) (op : α → α → α) (nrm : α → α)
def ins : List α → α → List α
 | [], x => [nrm x]
 | y :: r, x => if key y = key x then op y x :: r else if lt (key x) (key y) = true then nrm x :: y :: r else y :: ins r x
def mrg (l : List α) : List α := l.foldl (ins lt key op nrm) []
def red : List α → Option α
 | [] => none
 | x :: xs => some (xs.foldl op (nrm x))
def Ris (l : List α) : Prop := l.Pairwise fun a b => lt (key a) (key b) = true
def look (k : κ) (l : List α) : Option α := l.find? fun y => decide (key y = k)
def ofKey (k : κ) (l : List α) : List α := l.filter fun y => decide (key y = k)
end
section
variable {α κ : Type} [DecidableEq κ] {lt : κ → κ → Bool} {key : α → κ} {op : α → α → α} {nrm : α → α}
theorem ins_keys (hJ : Joins key op nrm) : ∀ (l : List α) (x : α), ∀ y ∈ ins lt key op nrm l x, key y = key x ∨ ∃ z ∈ l, key y = key z
 | [], x, y, h => by
  simp [ins] at h
  subst h
  exact .inl (hJ.knrm x)
 | z :: r, x, y, h => by
  unfold ins at h
  split at h
  ·next e =>
   rcases List.mem_cons.1 h with rfl | h
   ·exact .inl ((hJ.kop _ _ e).trans e)
   ·exact .inr ⟨y, List.mem_cons_of_mem _ h, rfl⟩
  ·split at h
   ·rcases List.mem_cons.1 h with rfl | h
    ·exact .inl (hJ.knrm x)
    ·exact .inr ⟨y, h, rfl⟩
   ·rcases List.mem_cons.1 h with rfl | h
    ·exact .inr ⟨y, List.mem_cons_self, rfl⟩
    ·rcases ins_keys hJ r x y h with e | ⟨q, hq, e⟩
     ·exact .inl e
     ·exact .inr ⟨q, List.mem_cons_of_mem _ hq, e⟩
theorem ins_ris (hK : KLt lt) (hJ : Joins key op nrm) : ∀ (l : List α) (x : α), Ris lt key l → Ris lt key (ins lt key op nrm l x)
 | [], x, _ => by simp [ins, Ris]
 | z :: r, x, h => by
  have h1 := (List.pairwise_cons.1 h).1
  have h2 := (List.pairwise_cons.1 h).2
  unfold ins
  split
  ·next e => exact List.pairwise_cons.2 ⟨fun y hy => by rw [hJ.kop _ _ e]; exact h1 y hy, h2⟩
  ·next e =>
   split
   ·next l => exact List.pairwise_cons.2 ⟨fun y hy => by
     rw [hJ.knrm]
     rcases List.mem_cons.1 hy with rfl | hy
     ·exact l
     ·exact hK.trans l (h1 y hy), h⟩
   ·next l =>
    have hl : lt (key z) (key x) = true := by
     cases q : lt (key z) (key x) with
     | true => rfl
     | false => exact absurd (hK.tot _ _ q (by simpa using l)) e
    refine List.pairwise_cons.2 ⟨fun y hy => ?_, ins_ris hK hJ r x h2⟩
    rcases ins_keys hJ r x y hy with e2 | ⟨q, hq, e2⟩
    ·rw [e2]; exact hl
    ·rw [e2]; exact h1 q hq
theorem look_none {k : κ} {l : List α} (h : ∀ y ∈ l, key y ≠ k) : look key k l = none := by
 unfold look
 rw [List.find?_eq_none]
 intro y hy
 simpa using h y hy
theorem look_ins (hK : KLt lt) (hJ : Joins key op nrm) (k : κ) : ∀ (l : List α) (x : α), Ris lt key l → look key k (ins lt key op nrm l x) = if key x = k then (match look key k l with | none => some (nrm x) | some y => some (op y x)) else look key k l
 | [], x, _ => by
  unfold ins look
  by_cases e : key x = k
  ·simp [e, hJ.knrm]
  ·simp [e, hJ.knrm]
 | z :: r, x, h => by
  have h1 := (List.pairwise_cons.1 h).1
  have h2 := (List.pairwise_cons.1 h).2
  unfold ins
  split
  ·next e =>
   by_cases e2 : key x = k
   ·simp [look, e2, e, hJ.kop _ _ e]
   ·have e3 : ¬ key z = k := fun q => e2 (e.symm.trans q)
    simp [look, e2, e3, hJ.kop _ _ e]
  ·next e =>
   split
   ·next l =>
    by_cases e2 : key x = k
    ·have hn : look key k (z :: r) = none := look_none fun y hy q => by
      rcases List.mem_cons.1 hy with rfl | hy
      ·exact e (q.trans e2.symm)
      ·have := hK.trans l (h1 y hy)
       rw [q, e2, hK.irr] at this
       cases this
     rw [if_pos e2, hn]
     simp [look, hJ.knrm, e2]
    ·simp [look, hJ.knrm, e2]
   ·next l =>
    by_cases e3 : key z = k
    ·have e2 : ¬ key x = k := fun q => e (e3.trans q.symm)
     simp [look, e3, e2]
    ·have ih := look_ins hK hJ k r x h2
     simp only [look, List.find?_cons, e3, decide_false] at ih ⊢
     exact ih
theorem red_snoc (l : List α) (x : α) : red op nrm (l ++ [x]) = (match red op nrm l with | none => some (nrm x) | some y => some (op y x)) := by
 cases l with
 | nil => rfl
 | cons y r => simp [red]
theorem mrg_go (hK : KLt lt) (hJ : Joins key op nrm) : ∀ (l pre acc : List α), Ris lt key acc → (∀ k, look key k acc = red op nrm (ofKey key k pre)) →
  Ris lt key (l.foldl (ins lt key op nrm) acc) ∧ ∀ k, look key k (l.foldl (ins lt key op nrm) acc) = red op nrm (ofKey key k (pre ++ l))
 | [], pre, acc, h1, h2 => by simpa using ⟨h1, h2⟩
 | x :: r, pre, acc, h1, h2 => by
  have := mrg_go hK hJ r (pre ++ [x]) (ins lt key op nrm acc x) (ins_ris hK hJ acc x h1) (fun k => by
   rw [look_ins hK hJ k acc x h1, h2 k]
   unfold ofKey
   rw [List.filter_append]
   by_cases e : key x = k
   ·simp only [e, if_true, List.filter_cons, List.filter_nil, decide_true]
    rw [red_snoc]
   ·simp [e])
  simpa using this
theorem mrg_ris (hK : KLt lt) (hJ : Joins key op nrm) (l : List α) : Ris lt key (mrg lt key op nrm l) := (mrg_go hK hJ l [] [] List.Pairwise.nil (fun k => rfl)).1
theorem mrg_look (hK : KLt lt) (hJ : Joins key op nrm) (l : List α) (k : κ) : look key k (mrg lt key op nrm l) = red op nrm (ofKey key k l) := by
 exact (mrg_go hK hJ l [] [] List.Pairwise.nil (fun k => rfl)).2 k
theorem look_some {k : κ} {l : List α} {x : α} (h : look key k l = some x) : x ∈ l ∧ key x = k := by
 unfold look at h
 have h1 := List.mem_of_find?_eq_some h
 have h2 := List.find?_some h
 exact ⟨h1, by simpa using h2⟩
theorem ris_ext (hK : KLt lt) : ∀ (a b : List α), Ris lt key a → Ris lt key b → (∀ k, look key k a = look key k b) → a = b
 | [], [], _, _, _ => rfl
 | [], y :: r, _, _, h => by
  have := h (key y)
  simp [look] at this
 | x :: r, [], _, _, h => by
  have := h (key x)
  simp [look] at this
 | x :: r, y :: s, h1, h2, h => by
  have a1 := (List.pairwise_cons.1 h1).1
  have a2 := (List.pairwise_cons.1 h2).1
  have e1 : look key (key x) (y :: s) = some x := by rw [← h (key x)]; simp [look]
  have e2 : look key (key y) (x :: r) = some y := by rw [h (key y)]; simp [look]
  have m1 := (look_some e1).1
  have m2 := (look_some e2).1
  have hxy : x = y := by
   rcases List.mem_cons.1 m1 with e | m1
   ·exact e
   ·rcases List.mem_cons.1 m2 with e | m2
    ·exact e.symm
    ·have := hK.trans (a1 y m2) (a2 x m1)
     rw [hK.irr] at this
     cases this
  subst hxy
  have hr : r = s := ris_ext hK r s (List.pairwise_cons.1 h1).2 (List.pairwise_cons.1 h2).2 fun k => by
   by_cases e : key x = k
   ·have n1 : ∀ z ∈ r, key z ≠ k := fun z hz q => by have := a1 z hz; rw [q, e, hK.irr] at this; cases this
    have n2 : ∀ z ∈ s, key z ≠ k := fun z hz q => by have := a2 z hz; rw [q, e, hK.irr] at this; cases this
    rw [look_none n1, look_none n2]
   ·have := h k
    simpa [look, e] using this
  rw [hr]
/-! ### what comes of those of one key -/
theorem fold_key (hJ : Joins key op nrm) (k : κ) : ∀ (l : List α) (s : α), key s = k → (∀ x ∈ l, key x = k) → key (l.foldl op s) = k
 | [], s, h, _ => h
 | x :: r, s, h, hl => fold_key hJ k r (op s x) ((hJ.kop _ _ (h.trans (hl x List.mem_cons_self).symm)).trans h) fun y hy => hl y (List.mem_cons_of_mem _ hy)
theorem fold_assoc (hJ : Joins key op nrm) (k : κ) : ∀ (l : List α) (a b : α), key a = k → key b = k → (∀ x ∈ l, key x = k) → l.foldl op (op a b) = op a (l.foldl op b)
 | [], a, b, _, _, _ => rfl
 | x :: r, a, b, h1, h2, h => by
  have hx : key x = k := h x List.mem_cons_self
  rw [List.foldl_cons, List.foldl_cons, hJ.assoc a b x (h1.trans h2.symm) (h2.trans hx.symm)]
  exact fold_assoc hJ k r a (op b x) h1 ((hJ.kop _ _ (h2.trans hx.symm)).trans h2) fun y hy => h y (List.mem_cons_of_mem _ hy)
theorem nop2 (hJ : Joins key op nrm) {a b : α} (h : key a = key b) : op a (nrm b) = op a b := by
 rw [hJ.comm a (nrm b) (h.trans (hJ.knrm b).symm), hJ.nop b a h.symm, hJ.comm b a h.symm]
theorem fold_has (hJ : Joins key op nrm) (k : κ) (y : α) (hy : key y = k) : ∀ (l : List α) (s : α), key s = k → (∀ x ∈ l, key x = k) → (op s y = s ∨ y ∈ l) → op (l.foldl op s) y = l.foldl op s
 | [], s, _, _, h => by
  rcases h with h | h
  ·exact h
  ·cases h
 | z :: r, s, hs, hl, h => by
  have hz : key z = k := hl z List.mem_cons_self
  refine fold_has hJ k y hy r (op s z) ((hJ.kop _ _ (hs.trans hz.symm)).trans hs) (fun x hx => hl x (List.mem_cons_of_mem _ hx)) ?_
  rcases h with h | h
  ·left
   rw [hJ.assoc s z y (hs.trans hz.symm) (hz.trans hy.symm), hJ.comm z y (hz.trans hy.symm), ← hJ.assoc s y z (hs.trans hy.symm) (hy.trans hz.symm), h]
  ·rcases List.mem_cons.1 h with rfl | h
   ·left
    rw [hJ.assoc s y y (hs.trans hy.symm) rfl, hJ.self, nop2 hJ (hs.trans hy.symm)]
   ·exact .inr h
theorem fold_same (op : α → α → α) : ∀ (l : List α) (s : α), (∀ y ∈ l, op s y = s) → l.foldl op s = s
 | [], _, _ => rfl
 | x :: r, s, h => by
  rw [List.foldl_cons, h x List.mem_cons_self]
  exact fold_same op r s fun y hy => h y (List.mem_cons_of_mem _ hy)
theorem red_has (hJ : Joins key op nrm) (k : κ) (x : α) (xs : List α) (h : ∀ z ∈ x :: xs, key z = k) (y : α) (hy : y ∈ x :: xs) : op (xs.foldl op (nrm x)) y = xs.foldl op (nrm x) := by
 have hx := h x List.mem_cons_self
 refine fold_has hJ k y (h y hy) xs (nrm x) ((hJ.knrm x).trans hx) (fun z hz => h z (List.mem_cons_of_mem _ hz)) ?_
 rcases List.mem_cons.1 hy with rfl | hy
 ·left; rw [hJ.nop y y rfl, hJ.self]
 ·exact .inr hy
theorem red_op (hJ : Joins key op nrm) (k : κ) (x y : α) (xs ys : List α) (h : ∀ z ∈ x :: xs, key z = k) (h2 : ∀ z ∈ y :: ys, z ∈ x :: xs) : op (xs.foldl op (nrm x)) (ys.foldl op (nrm y)) = xs.foldl op (nrm x) := by
 have hF : key (xs.foldl op (nrm x)) = k := fold_key hJ k xs _ ((hJ.knrm x).trans (h x List.mem_cons_self)) fun z hz => h z (List.mem_cons_of_mem _ hz)
 have hy : key y = k := h y (h2 y List.mem_cons_self)
 rw [← fold_assoc hJ k ys _ (nrm y) hF ((hJ.knrm y).trans hy) (fun z hz => h z (h2 z (List.mem_cons_of_mem _ hz))), nop2 hJ (hF.trans hy.symm), red_has hJ k x xs h y (h2 y List.mem_cons_self)]
 exact fold_same op ys _ fun z hz => red_has hJ k x xs h z (h2 z (List.mem_cons_of_mem _ hz))
theorem red_set (hJ : Joins key op nrm) (k : κ) (g g2 : List α) (h : ∀ z ∈ g, key z = k) (hs : ∀ z, z ∈ g ↔ z ∈ g2) : red op nrm g = red op nrm g2 := by
 cases g with
 | nil => cases g2 with
  | nil => rfl
  | cons y r => exact absurd ((hs y).2 List.mem_cons_self) (by simp)
 | cons x xs => cases g2 with
  | nil => exact absurd ((hs x).1 List.mem_cons_self) (by simp)
  | cons y ys =>
   have h2 : ∀ z ∈ y :: ys, key z = k := fun z hz => h z ((hs z).2 hz)
   have e1 := red_op hJ k x y xs ys h (fun z hz => (hs z).2 hz)
   have e2 := red_op hJ k y x ys xs h2 (fun z hz => (hs z).1 hz)
   have hF : key (xs.foldl op (nrm x)) = k := fold_key hJ k xs _ ((hJ.knrm x).trans (h x List.mem_cons_self)) fun z hz => h z (List.mem_cons_of_mem _ hz)
   have hG : key (ys.foldl op (nrm y)) = k := fold_key hJ k ys _ ((hJ.knrm y).trans (h2 y List.mem_cons_self)) fun z hz => h2 z (List.mem_cons_of_mem _ hz)
   have e3 : xs.foldl op (nrm x) = ys.foldl op (nrm y) := by rw [← e1, hJ.comm _ _ (hF.trans hG.symm), e2]
   show some _ = some _
   rw [e3]
theorem mem_ofKey {k : κ} {l : List α} {z : α} : z ∈ ofKey key k l ↔ z ∈ l ∧ key z = k := by simp [ofKey]
theorem mrg_set (hK : KLt lt) (hJ : Joins key op nrm) (l l2 : List α) (h : ∀ z, z ∈ l ↔ z ∈ l2) : mrg lt key op nrm l = mrg lt key op nrm l2 := by
 refine ris_ext hK _ _ (mrg_ris hK hJ l) (mrg_ris hK hJ l2) fun k => ?_
 rw [mrg_look hK hJ, mrg_look hK hJ]
 exact red_set hJ k _ _ (fun z hz => (mem_ofKey.1 hz).2) fun z => by rw [mem_ofKey, mem_ofKey, h z]
theorem ofKey_ris (hK : KLt lt) (k : κ) : ∀ (l : List α), Ris lt key l → ofKey key k l = (look key k l).toList
 | [], _ => rfl
 | x :: r, h => by
  have a1 := (List.pairwise_cons.1 h).1
  have ih := ofKey_ris hK k r (List.pairwise_cons.1 h).2
  by_cases e : key x = k
  ·have n1 : ∀ z ∈ r, key z ≠ k := fun z hz q => by have := a1 z hz; rw [q, e, hK.irr] at this; cases this
   rw [look_none n1] at ih
   simp only [ofKey, List.filter_cons, e, decide_true, if_true, look, List.find?_cons]
   have : List.filter (fun y => decide (key y = k)) r = [] := ih
   rw [this]
   rfl
  ·simp only [ofKey, List.filter_cons, e, decide_false, look, List.find?_cons]
   exact ih
theorem red_nrm (hJ : Joins key op nrm) (k : κ) (x : α) (xs : List α) (h : ∀ z ∈ x :: xs, key z = k) : nrm (xs.foldl op (nrm x)) = xs.foldl op (nrm x) := by
 rw [← hJ.self]
 exact red_op hJ k x x xs xs h fun z hz => hz
theorem mrg_flat (hK : KLt lt) (hJ : Joins key op nrm) (l l2 : List α) : mrg lt key op nrm (mrg lt key op nrm l ++ l2) = mrg lt key op nrm (l ++ l2) := by
 refine ris_ext hK _ _ (mrg_ris hK hJ _) (mrg_ris hK hJ _) fun k => ?_
 rw [mrg_look hK hJ, mrg_look hK hJ]
 have e1 : ofKey key k (mrg lt key op nrm l ++ l2) = ofKey key k (mrg lt key op nrm l) ++ ofKey key k l2 := by simp [ofKey]
 have e2 : ofKey key k (l ++ l2) = ofKey key k l ++ ofKey key k l2 := by simp [ofKey]
 rw [e1, e2, ofKey_ris hK k _ (mrg_ris hK hJ l), mrg_look hK hJ]
 have hk : ∀ z ∈ ofKey key k l, key z = k := fun z hz => (mem_ofKey.1 hz).2
 cases hg : ofKey key k l with
 | nil => rfl
 | cons x xs =>
  rw [hg] at hk
  simp only [red, Option.toList, List.cons_append, List.nil_append, List.foldl_append]
  rw [red_nrm hJ k x xs hk]
theorem mrg_flat2 (hK : KLt lt) (hJ : Joins key op nrm) (l l2 : List α) : mrg lt key op nrm (l ++ mrg lt key op nrm l2) = mrg lt key op nrm (l ++ l2) := by
 rw [mrg_set hK hJ (l ++ mrg lt key op nrm l2) (mrg lt key op nrm l2 ++ l) (fun z => by simp [or_comm]), mrg_flat hK hJ, mrg_set hK hJ (l2 ++ l) (l ++ l2) (fun z => by simp [or_comm])]
theorem mrg_mrg (hK : KLt lt) (hJ : Joins key op nrm) (l : List α) : mrg lt key op nrm (mrg lt key op nrm l) = mrg lt key op nrm l := by
 have := mrg_flat hK hJ l []
 simpa using this
/-! ### a sorted row, group by group -/
theorem ins_end (hK : KLt lt) : ∀ (l : List α) (x : α), (∀ d ∈ l, lt (key d) (key x) = true) → ins lt key op nrm l x = l ++ [nrm x]
 | [], _, _ => rfl
 | y :: r, x, h => by
  have h1 := h y List.mem_cons_self
  have n1 : ¬ key y = key x := fun q => by rw [q, hK.irr] at h1; cases h1
  have n2 : ¬ lt (key x) (key y) = true := fun q => by have := hK.trans h1 q; rw [hK.irr] at this; cases this
  unfold ins
  rw [if_neg n1, if_neg n2, ins_end hK r x fun d hd => h d (List.mem_cons_of_mem _ hd)]
  rfl
theorem ins_last (hK : KLt lt) : ∀ (l : List α) (f x : α), (∀ d ∈ l, lt (key d) (key x) = true) → key f = key x → ins lt key op nrm (l ++ [f]) x = l ++ [op f x]
 | [], f, x, _, e => by simp [ins, e]
 | y :: r, f, x, h, e => by
  have h1 := h y List.mem_cons_self
  have n1 : ¬ key y = key x := fun q => by rw [q, hK.irr] at h1; cases h1
  have n2 : ¬ lt (key x) (key y) = true := fun q => by have := hK.trans h1 q; rw [hK.irr] at this; cases this
  rw [List.cons_append]
  unfold ins
  rw [if_neg n1, if_neg n2, ins_last hK r f x (fun d hd => h d (List.mem_cons_of_mem _ hd)) e]
  rfl
theorem ins_more (hK : KLt lt) (hJ : Joins key op nrm) (k : κ) (l : List α) : ∀ (xs : List α) (f : α), (∀ d ∈ l, lt (key d) k = true) → key f = k → (∀ z ∈ xs, key z = k) → xs.foldl (ins lt key op nrm) (l ++ [f]) = l ++ [xs.foldl op f]
 | [], _, _, _, _ => rfl
 | x :: r, f, h, hf, hx => by
  have e := hx x List.mem_cons_self
  rw [List.foldl_cons, List.foldl_cons, ins_last hK l f x (fun d hd => by rw [e]; exact h d hd) (hf.trans e.symm)]
  exact ins_more hK hJ k l r (op f x) h ((hJ.kop _ _ (hf.trans e.symm)).trans hf) fun z hz => hx z (List.mem_cons_of_mem _ hz)
theorem mrg_keys (hJ : Joins key op nrm) : ∀ (l acc : List α), ∀ y ∈ l.foldl (ins lt key op nrm) acc, (∃ z ∈ acc, key y = key z) ∨ ∃ z ∈ l, key y = key z
 | [], acc, y, h => .inl ⟨y, h, rfl⟩
 | x :: r, acc, y, h => by
  rcases mrg_keys hJ r _ y h with ⟨z, hz, e⟩ | ⟨z, hz, e⟩
  ·rcases ins_keys hJ acc x z hz with e2 | ⟨q, hq, e2⟩
   ·exact .inr ⟨x, List.mem_cons_self, e.trans e2⟩
   ·exact .inl ⟨q, hq, e.trans e2⟩
  ·exact .inr ⟨z, List.mem_cons_of_mem _ hz, e⟩
/-- One group more. -/
theorem mrg_group (hK : KLt lt) (hJ : Joins key op nrm) (l : List α) (x : α) (xs : List α) (h : ∀ d ∈ l, lt (key d) (key x) = true) (hx : ∀ z ∈ xs, key z = key x) : mrg lt key op nrm (l ++ x :: xs) = mrg lt key op nrm l ++ [xs.foldl op (nrm x)] := by
 unfold mrg
 have hm : ∀ d ∈ l.foldl (ins lt key op nrm) [], lt (key d) (key x) = true := fun d hd => by
  rcases mrg_keys hJ l [] d hd with ⟨z, hz, _⟩ | ⟨z, hz, e⟩
  ·cases hz
  ·rw [e]; exact h z hz
 rw [List.foldl_append, List.foldl_cons, ins_end hK _ x hm]
 exact ins_more hK hJ (key x) _ xs (nrm x) hm (hJ.knrm x) hx
end
end Go.Proofs.YtblogecapegbmaaGreat.Jn
/- Join: the document's insertion is the one of keys. (No program.) -/
namespace Go.Proofs.YtblogecapegbmaaGreat.Jn
set_option linter.unusedVariables false set_option linter.unusedSimpArgs false set_option linter.unusedSectionVars false

section
variable {α κ : Type} [DecidableEq κ] (lt : κ → κ → Bool) (key : α → κ) (op : α → α → α) (nrm : α → α)
/-- One round of the document's loop: what is out so far, and whether x is done. -/
def stepD (x : α) (st : List α × Bool) (n : α) : List α × Bool :=
 if key n = key x then (st.1 ++ [op n x], true)
 else if st.2 = false ∧ lt (key x) (key n) = true then (st.1 ++ [nrm x, n], true)
 else (st.1 ++ [n], st.2)
/-- What its loop comes to. -/
def docIns (l : List α) (x : α) : List α := if (l.foldl (stepD lt key op nrm x) ([], false)).2 = true then (l.foldl (stepD lt key op nrm x) ([], false)).1 else (l.foldl (stepD lt key op nrm x) ([], false)).1 ++ [nrm x]
end
section
variable {α κ : Type} [DecidableEq κ] {lt : κ → κ → Bool} {key : α → κ} {op : α → α → α} {nrm : α → α}
theorem done_fold (x : α) : ∀ (r out : List α), (∀ n ∈ r, key n ≠ key x) → r.foldl (stepD lt key op nrm x) (out, true) = (out ++ r, true)
 | [], out, _ => by simp
 | n :: r, out, h => by
  rw [List.foldl_cons]
  have e : stepD lt key op nrm x (out, true) n = (out ++ [n], true) := by
   unfold stepD
   rw [if_neg (h n List.mem_cons_self), if_neg (by simp)]
  rw [e, done_fold x r _ (fun m hm => h m (List.mem_cons_of_mem _ hm))]
  simp
theorem doc_go (hK : KLt lt) (x : α) : ∀ (l out : List α), Ris lt key l →
  (if (l.foldl (stepD lt key op nrm x) (out, false)).2 = true then (l.foldl (stepD lt key op nrm x) (out, false)).1 else (l.foldl (stepD lt key op nrm x) (out, false)).1 ++ [nrm x]) = out ++ ins lt key op nrm l x
 | [], out, _ => by simp [ins]
 | n :: r, out, h => by
  have h1 := (List.pairwise_cons.1 h).1
  have h2 := (List.pairwise_cons.1 h).2
  rw [List.foldl_cons]
  by_cases e : key n = key x
  ·have e1 : stepD lt key op nrm x (out, false) n = (out ++ [op n x], true) := by unfold stepD; rw [if_pos e]
   rw [e1, done_fold x r _ (fun m hm q => by have := h1 m hm; rw [e, q, hK.irr] at this; cases this)]
   unfold ins
   rw [if_pos e]
   simp
  ·by_cases e2 : lt (key x) (key n) = true
   ·have e1 : stepD lt key op nrm x (out, false) n = (out ++ [nrm x, n], true) := by unfold stepD; rw [if_neg e, if_pos ⟨rfl, e2⟩]
    rw [e1, done_fold x r _ (fun m hm q => by
     have h3 := hK.trans e2 (h1 m hm)
     rw [q, hK.irr] at h3
     cases h3)]
    unfold ins
    rw [if_neg e, if_pos e2]
    simp
   ·have e1 : stepD lt key op nrm x (out, false) n = (out ++ [n], false) := by unfold stepD; rw [if_neg e, if_neg (fun q => e2 q.2)]
    rw [e1, doc_go hK x r (out ++ [n]) h2]
    have e3 : ins lt key op nrm (n :: r) x = n :: ins lt key op nrm r x := by
     show (if key n = key x then op n x :: r else if lt (key x) (key n) = true then nrm x :: n :: r else n :: ins lt key op nrm r x) = _
     rw [if_neg e, if_neg e2]
    rw [e3]
    simp
theorem doc_ins (hK : KLt lt) (l : List α) (x : α) (h : Ris lt key l) : docIns lt key op nrm l x = ins lt key op nrm l x := by
 have := doc_go (op := op) (nrm := nrm) hK x l [] h
 simpa [docIns] using this
end
end Go.Proofs.YtblogecapegbmaaGreat.Jn
