/- Maps by keys of some kind: one key is taken out. -/
import Derived.Test.YtblogecapegbmaaGreatKMap
import Derived.MapKept
namespace Go.Proofs.YtblogecapegbmaaGreat.Mem
open Go.RowKit
open Go.ChangeMaps (setBlock)
set_option linter.unusedVariables false set_option linter.unusedSimpArgs false

theorem kerase_mem {l : List MapEntry} (hn : (l.map (·.key)).Nodup) {j : Nat} {x : MapEntry} (h : l[j]? = some x) (y : MapEntry) : y ∈ l.eraseIdx j ↔ y ∈ l ∧ y.key ≠ x.key := by
  rw [List.mem_eraseIdx_iff_getElem?]
  constructor
  · rintro ⟨i, hi, hy⟩
    refine ⟨List.mem_of_getElem? hy, fun e => hi ?_⟩
    have hl : i < (l.map (·.key)).length := by rw [List.length_map]; exact (List.getElem?_eq_some_iff.1 hy).1
    refine (List.getElem?_inj hl hn).1 ?_
    rw [List.getElem?_map, List.getElem?_map, hy, h]
    exact congrArg some e
  · rintro ⟨hy, hne⟩
    obtain ⟨i, hi⟩ := List.mem_iff_getElem?.1 hy
    refine ⟨i, fun e => hne ?_, hi⟩
    subst e
    rw [h] at hi
    injection hi with hi
    rw [hi]
section
variable {K : Type} [DecidableEq K] {key : K → Value} {P : Program} {T kt e : TypeId} (hT : P.underlying T = some (.map kt e)) (hk : KeyIs P kt key)
include hT hk
theorem KMap.delete {w : World} {b : Nat} {m : K → Option Value} (h : KMap key w b m) (z : K) :
    ∃ w2, (∀ ty, (Builtin.delete_ #[T, kt] ty #[.map (some b), key z]).run P w = .ok (.tuple #[]) w2) ∧ KMap key w2 b (fun y => if y = z then none else m y) ∧ Chg (· = b) w w2 ∧ w2.heap.size = w.heap.size := by
  have hbd := h.bound
  obtain ⟨es, c, h1, h2, h3⟩ := h
  have hg := MapKept.run_getObj_map (P := P) h1
  have hc := fun q => hk.check q w z
  have hso := fun o => MapKept.run_setObj_map (P := P) o h1
  have hch : ∀ o, Chg (· = b) w (setBlock w b o) := fun o => ⟨rfl, rfl, rfl, by simp [setBlock], fun k _ hk => by simp [setBlock, Ne.symm hk]⟩
  rcases hk.find es.toList w z h2.keys with ⟨f1, f2⟩ | ⟨j, x, f1, f4, f5⟩
  · refine ⟨setBlock w b (.map es c), fun ty => ?_, ⟨es, c, by simp [setBlock, hbd], h2, fun y v => ?_⟩, hch _, by simp [setBlock]⟩
    · simp [Builtin.delete_, run_underlying hT, hg, hc, f1, hso, Result.andThen, setBlock]
    · by_cases hy : y = z
      · subst hy
        simp only [if_true]
        exact ⟨(fun k => by cases k), fun ⟨x, hx, hkx, _⟩ => absurd hkx (f2 x hx)⟩
      · simp only [if_neg hy]
        exact h3 y v
  · have hjs : j < es.size := by simpa using (List.getElem?_eq_some_iff.1 f4).1
    have hsub : (es.eraseIdxIfInBounds j).toList = es.toList.eraseIdx j := by
      unfold Array.eraseIdxIfInBounds
      rw [dif_pos hjs]
      simp
    have hmem := kerase_mem h2.once f4
    refine ⟨setBlock w b (.map (es.eraseIdxIfInBounds j) c), fun ty => ?_, ⟨es.eraseIdxIfInBounds j, c, by simp [setBlock, hbd], ⟨fun y hy => ?_, ?_, fun y hy => ?_, ?_⟩, fun y v => ?_⟩, hch _, by simp [setBlock]⟩
    · simp [Builtin.delete_, run_underlying hT, hg, hc, f1, hso, Result.andThen, setBlock]
    · rw [hsub] at hy
      exact h2.keys y ((hmem y).1 hy).1
    · rw [hsub]
      exact h2.once.sublist ((List.eraseIdx_sublist _ _).map _)
    · rw [hsub] at hy
      exact h2.born y ((hmem y).1 hy).1
    · rw [hsub]
      exact h2.apart.sublist ((List.eraseIdx_sublist _ _).map _)
    · rw [hsub]
      by_cases hy : y = z
      · subst hy
        simp only [if_true]
        exact ⟨(fun k => by cases k), fun ⟨q, hq, hkq, _⟩ => absurd (hkq.trans f5.symm) ((hmem q).1 hq).2⟩
      · simp only [if_neg hy]
        rw [h3 y v]
        constructor
        · rintro ⟨q, hq, hkq, hv⟩
          exact ⟨q, (hmem q).2 ⟨hq, fun k => hy (hk.inj _ _ (hkq.symm.trans (k.trans f5)))⟩, hkq, hv⟩
        · rintro ⟨q, hq, hkq, hv⟩
          exact ⟨q, ((hmem q).1 hq).1, hkq, hv⟩
end
end Go.Proofs.YtblogecapegbmaaGreat.Mem
