import Derived.Test.YtblogecapegbmaaGreatJkA

/- Links by their inodes: the last one, and the one ahead of each; what work keeps. (No program.) -/
namespace Go.Proofs.YtblogecapegbmaaGreat.Jn
open Go.Proofs.YtblogecapegbmaaGreat.Fc (LinkP)
set_option linter.unusedVariables false set_option linter.unusedSimpArgs false set_option linter.unusedSectionVars false

/-- The place of the last link of an inode among the first i; 0 is none. -/
def lastP (ls : List LinkP) (z : Int × Int) : Nat → Nat
  | 0 => 0
  | i + 1 => if (ls[i]?).map LinkP.node = some z then i + 1 else lastP ls z i
theorem lastP_le (ls : List LinkP) (z : Int × Int) : ∀ i, lastP ls z i ≤ i
  | 0 => Nat.le_refl _
  | i + 1 => by
    unfold lastP
    split
    · exact Nat.le_refl _
    · exact Nat.le_succ_of_le (lastP_le ls z i)
theorem lastP_at {ls : List LinkP} {z : Int × Int} : ∀ {i k : Nat}, lastP ls z i = k + 1 → k < i ∧ (ls[k]?).map LinkP.node = some z
  | 0, k, h => by cases h
  | i + 1, k, h => by
    unfold lastP at h
    split at h
    · next e =>
      obtain rfl : i = k := by omega
      exact ⟨Nat.lt_succ_self _, e⟩
    · have := lastP_at h
      exact ⟨Nat.lt_succ_of_lt this.1, this.2⟩
theorem lastP_max {ls : List LinkP} {z : Int × Int} : ∀ {i k : Nat}, k < i → (ls[k]?).map LinkP.node = some z → k + 1 ≤ lastP ls z i
  | i + 1, k, h, e => by
    unfold lastP
    split
    · omega
    · next q =>
      rcases Nat.lt_succ_iff_lt_or_eq.1 h with h | rfl
      · exact lastP_max h e
      · exact absurd e q
theorem lastP_next {ls : List LinkP} {z : Int × Int} {i : Nat} (hi : i < ls.length) : lastP ls z (i + 1) = if ls[i].node = z then i + 1 else lastP ls z i := by
  show (if (ls[i]?).map LinkP.node = some z then i + 1 else lastP ls z i) = _
  rw [List.getElem?_eq_getElem hi]
  simp only [Option.map_some, Option.some.injEq]
/-- What a map by inodes holds. -/
def LastI (ls : List LinkP) (j : Nat) (m : Int × Int → Option Value) : Prop := ∀ z, m z = if lastP ls z j = 0 then none else some (.int .i64 (lastP ls z j : Int))
theorem lastI_nil (ls : List LinkP) : LastI ls 0 (fun _ => none) := fun z => by simp [lastP]
theorem lastI_get {ls : List LinkP} {j : Nat} {m : Int × Int → Option Value} (h : LastI ls j m) (z : Int × Int) : (m z).getD (.int .i64 0) = .int .i64 (lastP ls z j : Int) := by
  rw [h z]
  split
  · rename_i e; rw [e]; rfl
  · rfl
/-- What befalls the links while some are marked: s tells which stay, wk what is to be marked yet (places from 1 on). -/
structure Work (root : LinkP → Bool) (ls : List LinkP) (ss : List Bool) (wk : List Nat) (m : Int × Int → Option Value) : Prop where
  len : ss.length = ls.length
  sound : ∀ i (h : i < ls.length), ss[i]? = some true → Keep root ls ls[i]
  place : ∀ p ∈ wk, 1 ≤ p ∧ p ≤ ls.length ∧ ∀ h : p - 1 < ls.length, Keep root ls ls[p - 1]
  shut : ∀ i k (h : i < ls.length) (h2 : k < ls.length), ss[i]? = some true → ls[k].node = ls[i].par → ss[k]? = some true ∨ k + 1 ∈ wk
  last : ∀ z, m z = (if lastP ls z ls.length = 0 then none else some (.int .i64 (lastP ls z ls.length : Int))) ∨ (m z = none ∧ ∀ k (h : k < ls.length), ls[k].node = z → ss[k]? = some true ∨ k + 1 ∈ wk)
/-- The links of an inode from place j down: those behind it are marked, or will be. -/
structure Chain (root : LinkP → Bool) (ls : List LinkP) (ss : List Bool) (wk : List Nat) (z : Int × Int) (j : Nat) : Prop where
  le : j ≤ ls.length
  here : ∀ k, j = k + 1 → ∀ h : k < ls.length, ls[k].node = z
  rest : ∀ k (h : k < ls.length), ls[k].node = z → k + 1 ≤ j ∨ ss[k]? = some true ∨ k + 1 ∈ wk
section
variable {root : LinkP → Bool} {ls : List LinkP} {ss : List Bool} {wk : List Nat} {m : Int × Int → Option Value}
theorem Work.start {n : Nat} (hl : ls.length = n) (hm : LastI ls n m) : Work root ls (List.replicate n false) [] m where
  len := by simp [hl]
  sound := fun i h e => by rw [List.getElem?_replicate] at e; split at e <;> cases e
  place := fun p h => by cases h
  shut := fun i k h h2 e => by rw [List.getElem?_replicate] at e; split at e <;> cases e
  last := fun z => .inl (by rw [hl]; exact hm z)
/-- The number that the map tells of an inode. -/
theorem last_chain (hl : ∀ z, m z = (if lastP ls z ls.length = 0 then none else some (.int .i64 (lastP ls z ls.length : Int))) ∨ (m z = none ∧ ∀ k (h : k < ls.length), ls[k].node = z → ss[k]? = some true ∨ k + 1 ∈ wk)) (z : Int × Int) : ∃ j : Nat, (m z).getD (.int .i64 0) = .int .i64 (j : Int) ∧ Chain root ls ss wk z j := by
  rcases hl z with e | ⟨e, hz⟩
  · refine ⟨lastP ls z ls.length, ?_, ⟨lastP_le _ _ _, fun k hk h => ?_, fun k h hn => .inl (lastP_max h (by rw [List.getElem?_eq_getElem h]; exact congrArg some hn))⟩⟩
    · rw [e]
      split
      · rename_i e; rw [e]; rfl
      · rfl
    · have := (lastP_at hk).2
      rw [List.getElem?_eq_getElem h] at this
      exact Option.some.inj this
  · exact ⟨0, by rw [e]; rfl, ⟨Nat.zero_le _, (fun k hk => by cases hk), fun k h hn => .inr (hz k h hn)⟩⟩
theorem Chain.next {z : Int × Int} {k : Nat} (h : Chain root ls ss wk z (k + 1)) (hk : k < ls.length) : Chain root ls ss (wk ++ [k + 1]) z (lastP ls ls[k].node k) := by
  have hz := h.here k rfl hk
  refine ⟨Nat.le_trans (lastP_le _ _ _) (Nat.le_of_lt hk), fun q hq hql => ?_, fun q hq hn => ?_⟩
  · have := (lastP_at hq).2
    rw [List.getElem?_eq_getElem hql] at this
    exact (Option.some.inj this).trans hz
  · rcases h.rest q hq hn with e | e | e
    · rcases Nat.lt_or_ge q k with hl | hl
      · exact .inl (lastP_max hl (by rw [List.getElem?_eq_getElem hq, hz]; exact congrArg some hn))
      · obtain rfl : q = k := by omega
        exact .inr (.inr (by simp))
    · exact .inr (.inl e)
    · exact .inr (.inr (List.mem_append_left _ e))
theorem Chain.more {z : Int × Int} {j : Nat} {l : List Nat} (h : Chain root ls ss wk z j) : Chain root ls ss (wk ++ l) z j :=
  ⟨h.le, h.here, fun k hk hn => (h.rest k hk hn).imp id (Or.imp id (List.mem_append_left _))⟩
/-- One more place to be marked, of an inode in which one that stays is placed. -/
theorem Work.push (h : Work root ls ss wk m) {p : Nat} (h1 : 1 ≤ p) (h2 : p ≤ ls.length) (h3 : ∀ h : p - 1 < ls.length, Keep root ls ls[p - 1]) : Work root ls ss (wk ++ [p]) m where
  len := h.len
  sound := h.sound
  place := fun q hq => by
    rcases List.mem_append.1 hq with hq | hq
    · exact h.place q hq
    · rw [List.mem_singleton.1 hq]; exact ⟨h1, h2, h3⟩
  shut := fun i k hi hk e hn => (h.shut i k hi hk e hn).imp id (List.mem_append_left _)
  last := fun z => (h.last z).imp id fun ⟨e, hz⟩ => ⟨e, fun k hk hn => (hz k hk hn).imp id (List.mem_append_left _)⟩
/-- The last place was marked already. -/
theorem Work.pop {p : Nat} (h : Work root ls ss (wk ++ [p]) m) (hp : ss[p - 1]? = some true) : Work root ls ss wk m := by
  have hpl := (h.place p (by simp)).1
  have hin : ∀ k, k + 1 ∈ wk ++ [p] → ss[k]? = some true ∨ k + 1 ∈ wk := fun k hk => by
    rcases List.mem_append.1 hk with hk | hk
    · exact .inr hk
    · have e := List.mem_singleton.1 hk
      exact .inl (by rw [show k = p - 1 by omega]; exact hp)
  exact ⟨h.len, h.sound, fun q hq => h.place q (List.mem_append_left _ hq), fun i k hi hk e hn => (h.shut i k hi hk e hn).elim .inl (hin k), fun z => (h.last z).imp id fun ⟨e, hz⟩ => ⟨e, fun k hk hn => (hz k hk hn).elim .inl (hin k)⟩⟩
theorem set_mono {ss : List Bool} {i k : Nat} (h : ss[k]? = some true) : (ss.set i true)[k]? = some true := by
  rw [List.getElem?_set]
  split
  · next e => subst e; rw [if_pos (List.getElem?_eq_some_iff.1 h).1]
  · exact h
/-- What holds while the chain of a link that was marked just now is gone through. -/
structure Work1 (root : LinkP → Bool) (ls : List LinkP) (ss : List Bool) (wk : List Nat) (m : Int × Int → Option Value) (i : Nat) : Prop where
  len : ss.length = ls.length
  hi : i < ls.length
  mark : ss[i]? = some true
  sound : ∀ i (h : i < ls.length), ss[i]? = some true → Keep root ls ls[i]
  place : ∀ p ∈ wk, 1 ≤ p ∧ p ≤ ls.length ∧ ∀ h : p - 1 < ls.length, Keep root ls ls[p - 1]
  shut : ∀ j k (h : j < ls.length) (h2 : k < ls.length), ss[j]? = some true → j ≠ i → ls[k].node = ls[j].par → ss[k]? = some true ∨ k + 1 ∈ wk
  last : ∀ z, m z = (if lastP ls z ls.length = 0 then none else some (.int .i64 (lastP ls z ls.length : Int))) ∨ (m z = none ∧ ∀ k (h : k < ls.length), ls[k].node = z → ss[k]? = some true ∨ k + 1 ∈ wk)
theorem Work.mark {i : Nat} (h : Work root ls ss (wk ++ [i + 1]) m) : Work1 root ls (ss.set i true) wk m i := by
  obtain ⟨h1, h2, h3⟩ := h.place (i + 1) (by simp)
  have hi : i < ls.length := h2
  have hm : (ss.set i true)[i]? = some true := by rw [List.getElem?_set_self (by rw [h.len]; exact hi)]
  have hin : ∀ k, ss[k]? = some true ∨ k + 1 ∈ wk ++ [i + 1] → (ss.set i true)[k]? = some true ∨ k + 1 ∈ wk := fun k hk => by
    rcases hk with hk | hk
    · exact .inl (set_mono hk)
    · rcases List.mem_append.1 hk with hk | hk
      · exact .inr hk
      · have e := List.mem_singleton.1 hk
        obtain rfl : k = i := by omega
        exact .inl hm
  refine ⟨by rw [List.length_set]; exact h.len, hi, hm, fun j hj e => ?_, fun q hq => h.place q (List.mem_append_left _ hq), fun j k hj hk e hne hn => ?_, fun z => (h.last z).imp id fun ⟨e, hz⟩ => ⟨e, fun k hk hn => hin k (hz k hk hn)⟩⟩
  · rw [List.getElem?_set] at e
    split at e
    · next q => subst q; exact h3 hi
    · exact h.sound j hj e
  · rw [List.getElem?_set] at e
    rw [if_neg (fun q => hne q.symm)] at e
    exact hin k (h.shut j k hj hk e hn)
theorem Work1.push {i : Nat} (h : Work1 root ls ss wk m i) {k : Nat} (hk : k < ls.length) (hn : ls[k].node = (ls[i]'h.hi).par) : Work1 root ls ss (wk ++ [k + 1]) m i where
  len := h.len
  hi := h.hi
  mark := h.mark
  sound := h.sound
  place := fun q hq => by
    rcases List.mem_append.1 hq with hq | hq
    · exact h.place q hq
    · rw [List.mem_singleton.1 hq]
      exact ⟨Nat.succ_le_succ (Nat.zero_le _), hk, fun _ => .step (List.getElem_mem h.hi) (h.sound i h.hi h.mark) hn.symm⟩
  shut := fun j q hj hq e hne hn => (h.shut j q hj hq e hne hn).imp id (List.mem_append_left _)
  last := fun z => (h.last z).imp id fun ⟨e, hz⟩ => ⟨e, fun k hk hn => (hz k hk hn).imp id (List.mem_append_left _)⟩
/-- The chain is at its end, and the inode's last link is forgotten. -/
theorem Work1.end_ {i : Nat} (h : Work1 root ls ss wk m i) (hc : Chain root ls ss wk (ls[i]'h.hi).par 0) : Work root ls ss wk (fun y => if y = (ls[i]'h.hi).par then none else m y) := by
  have hz : ∀ k (q : k < ls.length), ls[k].node = (ls[i]'h.hi).par → ss[k]? = some true ∨ k + 1 ∈ wk := fun k q hn => (hc.rest k q hn).elim (fun e => by omega) id
  refine ⟨h.len, h.sound, h.place, fun j k hj hk e hn => ?_, fun z => ?_⟩
  · by_cases hji : j = i
    · subst hji
      exact hz k hk hn
    · exact h.shut j k hj hk e hji hn
  · by_cases e : z = (ls[i]'h.hi).par
    · exact .inr ⟨if_pos e, fun k hk hn => hz k hk (hn.trans e)⟩
    · show (if z = _ then none else m z) = _ ∨ (if z = _ then none else m z) = _ ∧ _
      rw [if_neg e]
      exact h.last z
/-- Behind all links: which stay. -/
theorem Work.all (h : Work root ls ss [] m) (hr : ∀ i (q : i < ls.length), root ls[i] = true → ss[i]? = some true) (i : Nat) (hi : i < ls.length) : ss[i]? = some (keepB root ls ls[i]) := by
  have key : ∀ l, Keep root ls l → ∀ i (q : i < ls.length), ls[i] = l → ss[i]? = some true := by
    intro l hk
    induction hk with
    | root e => intro i q el; exact hr i q (el ▸ e)
    | step hk hK e ih =>
      intro i q el
      obtain ⟨j, hj, ej⟩ := List.mem_iff_getElem.1 hk
      rcases h.shut j i hj q (ih j hj ej) (by rw [el, ej, e]) with e | e
      · exact e
      · cases e
  have hsl : i < ss.length := by rw [h.len]; exact hi
  rw [List.getElem?_eq_getElem hsl]
  congr 1
  rw [Bool.eq_iff_iff, keepB_iff]
  constructor
  · intro e
    exact h.sound i hi (by rw [List.getElem?_eq_getElem hsl, e])
  · intro e
    have := key _ e i hi rfl
    rw [List.getElem?_eq_getElem hsl] at this
    exact Option.some.inj this
end
end Go.Proofs.YtblogecapegbmaaGreat.Jn
