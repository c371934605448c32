/- Events in order, each that is alike once: Clone, and story's Order. -/
import Derived.Test.YtigkdoicmcdbhaaGreatStabB
import Derived.Test.YtigkdoicmcdbhaaGreatSrF
import Derived.Lib.SliceRun
namespace Go.Proofs.YtigkdoicmcdbhaaGreat.Stab
open Go.RowKit Go.Proofs.YtigkdoicmcdbhaaGreat.Mem
open Go.Proofs.YtigkdoicmcdbhaaGreat.Sr (EOwn eL info_parts_ev event_one zeroE)
set_option linter.unusedVariables false set_option linter.unusedSimpArgs false

theorem chg_low {w W W' : World} {B g : Nat} (h : Below B w W) (hc : Chg (· = g) W W') (hg : B ≤ g) (hB : B ≤ w.heap.size) : Below B w W' := h.trans (hc.below (B := B) (Nat.le_trans hB h.size) (fun k hk e => by omega))
theorem flat_at {α : Type} {f : α → List Value} {k : Nat} (hk : ∀ x, (f x).length = k) : ∀ (l : List α) (i j : Nat) (x : α), l[i]? = some x → j < k → (l.flatMap f)[i * k + j]? = (f x)[j]?
  | [], i, j, x, h, _ => by simp at h
  | y :: r, 0, j, x, h, hj => by
    simp at h
    subst h
    rw [List.flatMap_cons, Nat.zero_mul, Nat.zero_add, List.getElem?_append_left (by rw [hk]; exact hj)]
  | y :: r, i + 1, j, x, h, hj => by
    have h2 : r[i]? = some x := by simpa using h
    rw [List.flatMap_cons, List.getElem?_append_right (by rw [hk, Nat.succ_mul]; omega), hk]
    have e : (i + 1) * k + j - k = i * k + j := by rw [Nat.succ_mul]; omega
    rw [e]
    exact flat_at hk r i j x h2 hj
theorem flat_len {α : Type} {f : α → List Value} {k : Nat} (hk : ∀ x, (f x).length = k) (l : List α) : (l.flatMap f).length = l.length * k := by
  induction l with
  | nil => simp
  | cons x r ih => simp [ih, hk, Nat.succ_mul]; omega
theorem eL_len (e : Fc.EventC) : (eL e).length = 21 := rfl
/-- the cells of a row that is only read -/
theorem srow_news {w : World} {b off n : Nat} {es : List Fc.EventC} (h : Fc.SRow w 21 Fc.eventC (some ⟨b, off, none⟩) n es) : ∀ j u, (es.flatMap eL)[j]? = some u → w.cell? ((⟨b, off, none⟩ : Addr).add j) = some u := by
  intro j u hu
  have hj : j < es.length * 21 := by rw [← flat_len eL_len]; exact (List.getElem?_eq_some_iff.1 hu).1
  have hi : j / 21 < es.length := by omega
  obtain ⟨b', off', e, hl, hx⟩ := h.cells (by rw [← h.len]; omega)
  cases e
  have ej : j = j / 21 * 21 + j % 21 := by omega
  rw [Fc.add_plain]
  have hf := flat_at eL_len es (j / 21) (j % 21) es[j / 21] (List.getElem?_eq_getElem hi) (by omega)
  rw [← ej, hu] at hf
  have := hx (j / 21) hi (j % 21) u (by simpa [eL] using hf.symm)
  rwa [Nat.add_assoc, ← ej] at this
theorem flat_one (es : List Fc.EventC) : ∀ v ∈ es.flatMap eL, v.oneCell' = true := by
  intro v hv
  obtain ⟨x, _, hx⟩ := List.mem_flatMap.1 hv
  exact (Array.all_eq_true_iff_forall_mem.1 (event_one x)) v (by simpa [eL] using hx)
/-- a row of one's own as a row that one may exchange -/
theorem own_rw {w : World} {B g cap n : Nat} {es : List Fc.EventC} (h : EOwn w B (.slice (some ⟨g, 0, none⟩) n cap) es) : es.length = n ∧ n ≤ cap ∧ B ≤ g ∧ ∃ z, Rw w g 34 Fc.eventC 21 n (fun i => (es[i]?).getD zeroE) z := by
  unfold EOwn at h
  rcases h.2 with ⟨e, _⟩ | ⟨g', cap', cur, e, hB, hw, hn, hm, hs, ht⟩
  · cases e
  · cases e
    refine ⟨rfl, hn, hB, cur.toList.drop (es.length * 21), cur, hw, by simp; omega, fun i j hi hj => ?_, fun j hj => ?_⟩
    · show cur[i * 21 + j]? = (Fc.eventC ((es[i]?).getD zeroE))[j]?
      have hf := flat_at eL_len es i j es[i] (List.getElem?_eq_getElem hi) hj
      rw [← ht, List.getElem?_take] at hf
      have m := mul_in (k := 21) hi
      rw [if_pos (by omega)] at hf
      rw [show (es[i]?).getD zeroE = es[i] by rw [List.getElem?_eq_getElem hi]; rfl]
      simpa [eL] using hf
    · rw [List.getElem?_drop]
      simp
/-- what a copy comes to -/
def EOut (es : List Fc.EventC) (w : World) (e : Ending) (w' : World) : Prop := ∃ v, e = .returned v ∧ EOwn w' w.heap.size v es ∧ Below w.heap.size w w'
theorem eown_nil (w : World) (B : Nat) : EOwn w B (.slice none 0 0) [] := ⟨rfl, .inl ⟨rfl, rfl⟩⟩
theorem eown_sl {w : World} {B : Nat} {v : Value} {es : List Fc.EventC} (h : EOwn w B v es) : ∃ A c, v = .slice A es.length c ∧ (A = none → v = .slice none 0 0 ∧ es = []) ∧ ∀ a, A = some a → ∃ g, a = ⟨g, 0, none⟩ := by
  unfold EOwn at h
  rcases h.2 with ⟨rfl, e⟩ | ⟨g', cap', cur, rfl, hB, hw, hn, hm, hs, ht⟩
  · exact ⟨none, 0, by rw [e], fun _ => ⟨rfl, List.length_eq_zero_iff.1 e⟩, fun a h => by cases h⟩
  · exact ⟨_, cap', rfl, (fun h => by cases h), fun a h => ⟨g', (Option.some.inj h).symm⟩⟩
end Go.Proofs.YtigkdoicmcdbhaaGreat.Stab
