/- Join: what two as one have of each of the two, as data. (No program.) -/
import Derived.Test.YtblogecapegbmaaGreatJnB
namespace Go.Proofs.YtblogecapegbmaaGreat.Jn
open Go.RowKit Go.Proofs.YtblogecapegbmaaGreat.Fc
set_option linter.unusedVariables false set_option linter.unusedSimpArgs false set_option linter.unusedSectionVars false

section
variable {α κ : Type} [DecidableEq κ] {lt : κ → κ → Bool} {key : α → κ} {op : α → α → α} {nrm : α → α}
theorem ins_has (hJ : Joins key op nrm) (R : α → α → Prop) (h1 : ∀ x, R x (nrm x)) (h2 : ∀ y x, key y = key x → R x (op y x)) (h3 : ∀ z y x, key y = key x → R z y → R z (op y x)) : ∀ (l : List α) (x : α),
    (∃ m ∈ ins lt key op nrm l x, key m = key x ∧ R x m) ∧ ∀ z, (∃ m ∈ l, key m = key z ∧ R z m) → ∃ m ∈ ins lt key op nrm l x, key m = key z ∧ R z m
  | [], x => ⟨⟨nrm x, by simp [ins], hJ.knrm x, h1 x⟩, fun z ⟨m, h, _⟩ => by cases h⟩
  | y :: r, x => by
    obtain ⟨i1, i2⟩ := ins_has hJ R h1 h2 h3 r x
    unfold ins
    split
    · next e =>
      refine ⟨⟨op y x, List.mem_cons_self, (hJ.kop _ _ e).trans e, h2 y x e⟩, ?_⟩
      rintro z ⟨m, hm, k, rr⟩
      rcases List.mem_cons.1 hm with rfl | hm
      · exact ⟨op m x, List.mem_cons_self, (hJ.kop _ _ e).trans k, h3 z m x e rr⟩
      · exact ⟨m, List.mem_cons_of_mem _ hm, k, rr⟩
    · split
      · refine ⟨⟨nrm x, List.mem_cons_self, hJ.knrm x, h1 x⟩, ?_⟩
        rintro z ⟨m, hm, k, rr⟩
        exact ⟨m, List.mem_cons_of_mem _ hm, k, rr⟩
      · refine ⟨?_, ?_⟩
        · obtain ⟨m, hm, k⟩ := i1
          exact ⟨m, List.mem_cons_of_mem _ hm, k⟩
        · rintro z ⟨m, hm, k, rr⟩
          rcases List.mem_cons.1 hm with rfl | hm
          · exact ⟨m, List.mem_cons_self, k, rr⟩
          · obtain ⟨q, hq, kk⟩ := i2 z ⟨m, hm, k, rr⟩
            exact ⟨q, List.mem_cons_of_mem _ hq, kk⟩
theorem fold_hold (hJ : Joins key op nrm) (R : α → α → Prop) (h1 : ∀ x, R x (nrm x)) (h2 : ∀ y x, key y = key x → R x (op y x)) (h3 : ∀ z y x, key y = key x → R z y → R z (op y x)) : ∀ (l acc : List α) (z : α),
    (z ∈ l ∨ ∃ m ∈ acc, key m = key z ∧ R z m) → ∃ m ∈ l.foldl (ins lt key op nrm) acc, key m = key z ∧ R z m
  | [], acc, z, h => by
    rcases h with h | h
    · cases h
    · exact h
  | x :: r, acc, z, h => by
    refine fold_hold hJ R h1 h2 h3 r _ z ?_
    rcases h with h | h
    · rcases List.mem_cons.1 h with rfl | h
      · exact .inr (ins_has hJ R h1 h2 h3 acc z).1
      · exact .inl h
    · exact .inr ((ins_has hJ R h1 h2 h3 acc x).2 z h)
theorem mrg_has (hJ : Joins key op nrm) (R : α → α → Prop) (h1 : ∀ x, R x (nrm x)) (h2 : ∀ y x, key y = key x → R x (op y x)) (h3 : ∀ z y x, key y = key x → R z y → R z (op y x)) {l : List α} {x : α} (hx : x ∈ l) : ∃ m ∈ mrg lt key op nrm l, key m = key x ∧ R x m := fold_hold hJ R h1 h2 h3 l [] x (.inl hx)
theorem mrg_from (hJ : Joins key op nrm) {l : List α} {m : α} (hm : m ∈ mrg lt key op nrm l) : ∃ x ∈ l, key m = key x := by
  rcases mrg_keys hJ l [] m hm with ⟨z, hz, _⟩ | h
  · cases hz
  · exact h
end
theorem nlt_trans {κ : Type} {lt : κ → κ → Bool} (hK : KLt lt) {m y z : κ} (h1 : lt m y = false) (h2 : lt y z = false) : lt m z = false := by
  cases h : lt m z with
  | false => rfl
  | true =>
    cases h3 : lt z y with
    | true => rw [hK.trans h h3] at h1; exact h1
    | false => rw [hK.tot _ _ h2 h3, h] at h1; exact h1
theorem top_left {κ : Type} {lt : κ → κ → Bool} (hK : KLt lt) (a b : κ) : lt (top lt a b) a = false := by
  unfold top
  split
  · next h =>
    cases h2 : lt b a with
    | false => rfl
    | true =>
      have h3 := hK.trans h h2
      rw [hK.irr] at h3
      cases h3
  · exact hK.irr a
theorem top_right {κ : Type} {lt : κ → κ → Bool} (hK : KLt lt) (a b : κ) : lt (top lt a b) b = false := by
  rw [top_comm hK]; exact top_left hK b a
theorem lex_fst {α β : Type} [DecidableEq α] {l1 : α → α → Bool} {l2 : β → β → Bool} {u v : α × β} (h : lexLt l1 l2 u v = false) : l1 u.1 v.1 = false := by
  unfold lexLt at h
  cases q : l1 u.1 v.1 with
  | false => rfl
  | true => rw [q] at h; simp at h
/-- An inode stands nowhere behind another one. -/
structure GeN (x m : NodeP) : Prop where
  kind : intLt m.kind x.kind = false
  aat : stLt m.aat x.aat = false
  sat : stLt m.sat x.sat = false
theorem ge_nrm (x : NodeP) : GeN x (nrmN x) := ⟨klt_int.irr _, klt_st.irr _, klt_st.irr _⟩
theorem ge_right (y x : NodeP) : GeN x (opN y x) := ⟨top_right klt_int _ _, lex_fst (top_right klt_A (atN y) (atN x)), lex_fst (top_right klt_Z (szN y) (szN x))⟩
theorem ge_left (y x : NodeP) : GeN y (opN y x) := ⟨top_left klt_int _ _, lex_fst (top_left klt_A (atN y) (atN x)), lex_fst (top_left klt_Z (szN y) (szN x))⟩
theorem GeN.trans {z y m : NodeP} (h : GeN z y) (k : GeN y m) : GeN z m := ⟨nlt_trans klt_int k.kind h.kind, nlt_trans klt_st k.aat h.aat, nlt_trans klt_st k.sat h.sat⟩
theorem nodes_have {l : List NodeP} {x : NodeP} (h : x ∈ l) : ∃ m ∈ mrgN l, m.id = x.id ∧ GeN x m := mrg_has joins_N GeN ge_nrm (fun y x _ => ge_right y x) (fun z y x _ h => h.trans (ge_left y x)) h
theorem nodes_from {l : List NodeP} {m : NodeP} (h : m ∈ mrgN l) : ∃ x ∈ l, m.id = x.id := mrg_from joins_N h
theorem nodes_ris (l : List NodeP) : Ris stLt NodeP.id (mrgN l) := mrg_ris klt_st joins_N l
theorem within_iff {x y : Nat → Int} : Vc.withinB x y = true ↔ ∀ i, i < 8 → x i ≤ y i := Vc.withinB_iff
/-- A link stands nowhere behind another one. -/
structure GeL (x m : LinkP) : Prop where
  at_ : stLt m.at_ x.at_ = false
  al : ∀ i, x.al i ≤ m.al i
  de : ∀ i, x.de i ≤ m.de i
theorem joinV_left (x y : Nat → Int) (i : Nat) : x i ≤ Vc.joinV x y i := by unfold Vc.joinV; split <;> omega
theorem joinV_right (x y : Nat → Int) (i : Nat) : y i ≤ Vc.joinV x y i := by unfold Vc.joinV; split <;> omega
theorem gl_nrm (x : LinkP) : GeL x (id x) := ⟨klt_st.irr _, fun _ => Int.le_refl _, fun _ => Int.le_refl _⟩
theorem gl_right (y x : LinkP) : GeL x (opL y x) := ⟨lex_fst (top_right klt_L (plL y) (plL x)), joinV_right _ _, joinV_right _ _⟩
theorem gl_left (y x : LinkP) : GeL y (opL y x) := ⟨lex_fst (top_left klt_L (plL y) (plL x)), joinV_left _ _, joinV_left _ _⟩
theorem GeL.trans {z y m : LinkP} (h : GeL z y) (k : GeL y m) : GeL z m := ⟨nlt_trans klt_st k.at_ h.at_, fun i => Int.le_trans (h.al i) (k.al i), fun i => Int.le_trans (h.de i) (k.de i)⟩
theorem links_have {l : List LinkP} {x : LinkP} (h : x ∈ l) : ∃ m ∈ mrgL l, m.id = x.id ∧ GeL x m := mrg_has joins_L GeL gl_nrm (fun y x _ => gl_right y x) (fun z y x _ h => h.trans (gl_left y x)) h
end Go.Proofs.YtblogecapegbmaaGreat.Jn
