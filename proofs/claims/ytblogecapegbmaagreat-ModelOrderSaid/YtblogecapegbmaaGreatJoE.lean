/- Join: the document's insertion is the one of keys. (No program.) -/
import Derived.Test.YtblogecapegbmaaGreatJnA
namespace Go.Proofs.YtblogecapegbmaaGreat.Jn
set_option linter.unusedVariables false set_option linter.unusedSimpArgs false set_option linter.unusedSectionVars false

section
variable {α κ : Type} [DecidableEq κ] (lt : κ → κ → Bool) (key : α → κ) (op : α → α → α) (nrm : α → α)
/-- One round of the document's loop: what is out so far, and whether x is done. -/
def stepD (x : α) (st : List α × Bool) (n : α) : List α × Bool :=
  if key n = key x then (st.1 ++ [op n x], true)
  else if st.2 = false ∧ lt (key x) (key n) = true then (st.1 ++ [nrm x, n], true)
  else (st.1 ++ [n], st.2)
/-- What its loop comes to. -/
def docIns (l : List α) (x : α) : List α := if (l.foldl (stepD lt key op nrm x) ([], false)).2 = true then (l.foldl (stepD lt key op nrm x) ([], false)).1 else (l.foldl (stepD lt key op nrm x) ([], false)).1 ++ [nrm x]
end
section
variable {α κ : Type} [DecidableEq κ] {lt : κ → κ → Bool} {key : α → κ} {op : α → α → α} {nrm : α → α}
theorem done_fold (x : α) : ∀ (r out : List α), (∀ n ∈ r, key n ≠ key x) → r.foldl (stepD lt key op nrm x) (out, true) = (out ++ r, true)
  | [], out, _ => by simp
  | n :: r, out, h => by
    rw [List.foldl_cons]
    have e : stepD lt key op nrm x (out, true) n = (out ++ [n], true) := by
      unfold stepD
      rw [if_neg (h n List.mem_cons_self), if_neg (by simp)]
    rw [e, done_fold x r _ (fun m hm => h m (List.mem_cons_of_mem _ hm))]
    simp
theorem doc_go (hK : KLt lt) (x : α) : ∀ (l out : List α), Ris lt key l →
    (if (l.foldl (stepD lt key op nrm x) (out, false)).2 = true then (l.foldl (stepD lt key op nrm x) (out, false)).1 else (l.foldl (stepD lt key op nrm x) (out, false)).1 ++ [nrm x]) = out ++ ins lt key op nrm l x
  | [], out, _ => by simp [ins]
  | n :: r, out, h => by
    have h1 := (List.pairwise_cons.1 h).1
    have h2 := (List.pairwise_cons.1 h).2
    rw [List.foldl_cons]
    by_cases e : key n = key x
    · have e1 : stepD lt key op nrm x (out, false) n = (out ++ [op n x], true) := by unfold stepD; rw [if_pos e]
      rw [e1, done_fold x r _ (fun m hm q => by have := h1 m hm; rw [e, q, hK.irr] at this; cases this)]
      unfold ins
      rw [if_pos e]
      simp
    · by_cases e2 : lt (key x) (key n) = true
      · have e1 : stepD lt key op nrm x (out, false) n = (out ++ [nrm x, n], true) := by unfold stepD; rw [if_neg e, if_pos ⟨rfl, e2⟩]
        rw [e1, done_fold x r _ (fun m hm q => by
          have h3 := hK.trans e2 (h1 m hm)
          rw [q, hK.irr] at h3
          cases h3)]
        unfold ins
        rw [if_neg e, if_pos e2]
        simp
      · have e1 : stepD lt key op nrm x (out, false) n = (out ++ [n], false) := by unfold stepD; rw [if_neg e, if_neg (fun q => e2 q.2)]
        rw [e1, doc_go hK x r (out ++ [n]) h2]
        have e3 : ins lt key op nrm (n :: r) x = n :: ins lt key op nrm r x := by
          show (if key n = key x then op n x :: r else if lt (key x) (key n) = true then nrm x :: n :: r else n :: ins lt key op nrm r x) = _
          rw [if_neg e, if_neg e2]
        rw [e3]
        simp
theorem doc_ins (hK : KLt lt) (l : List α) (x : α) (h : Ris lt key l) : docIns lt key op nrm l x = ins lt key op nrm l x := by
  have := doc_go (op := op) (nrm := nrm) hK x l [] h
  simpa [docIns] using this
end
end Go.Proofs.YtblogecapegbmaaGreat.Jn
