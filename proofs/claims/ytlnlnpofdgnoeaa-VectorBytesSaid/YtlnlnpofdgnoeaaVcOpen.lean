/- A stamp, and a vector, that came in by value: opened. -/
import Derived.Test.YtlnlnpofdgnoeaaVcA
import Derived.ProofKit
import Derived.OpenShut
import Derived.ChangeShapes
import Derived.WideShapes
namespace Go.Proofs.Ytlnlnpofdgnoeaa.Vc
open Go.ChangeShapes Go.WideShapes Go.ChangeAt Go.RowKit

theorem cells_int : Try.prog.cellsOf 3 = 1 := by kernel_rfl
theorem cells_stamp : Try.prog.cellsOf 23 = 2 := by kernel_rfl
theorem cells_vector : Try.prog.cellsOf 25 = 8 := by kernel_rfl
theorem okWide_struct {P : Program} {W : World} {r : Reach} {b0 : Nat} {t : TypeId} {fs : Array Field} {v : Value} (ht : P.underlying t = some (.struct fs)) (h : Value.okWide P W r b0 t v) : ∃ xs : Array Value, v = .agg xs := by
  simp only [Value.okWide, ht] at h
  cases v <;> simp_all
theorem okWide_array {P : Program} {W : World} {r : Reach} {b0 : Nat} {t e : TypeId} {n : Nat} {v : Value} (ht : P.underlying t = some (.array n e)) (h : Value.okWide P W r b0 t v) : ∃ xs : Array Value, v = .agg xs := by
  simp only [Value.okWide, ht] at h
  cases v <;> simp_all
set_option maxRecDepth 100000 in
theorem open_stamp {H : Type} {enc : TypeId × Value → H} {w : World} {base b0 : Nat} {r : Reach} {spare : Nat → Bool} {held : Bool} {v : Value} {d : DataW H} {ps : List MemPlace}
    (hv : Value.okWide Try.prog w r b0 23 v) (h : DataW.Trod enc Try.prog w base spare held 23 v d ps) :
    ∃ s t : Int, v = .agg (stC s t) ∧ (Lit.int .i64 s).wf = true ∧ (Lit.int .i64 t).wf = true := by
  obtain ⟨cs, rfl⟩ := okWide_struct Try.underlying23 hv
  obtain ⟨fuel, hf⟩ := h
  obtain ⟨xs, n, _, _, hlen, hxs, hf⟩ := DataW.trod_struct Try.underlying23 hf
  rw [cells_stamp] at hlen
  have hx2 : xs.length = 2 := hxs
  obtain ⟨l⟩ := cs
  match l, hlen with
  | [v0, v1], _ =>
    match xs, hx2 with
    | [x0, x1], _ =>
      have t0 : DataW.trod enc Try.prog w base spare held n 3 (([v0, v1].drop 0).take (Try.prog.cellsOf 3)) = some x0 := hf 0 _ rfl
      have t1 : DataW.trod enc Try.prog w base spare held n 3 (([v0, v1].drop 1).take (Try.prog.cellsOf 3)) = some x1 := hf 1 _ rfl
      rw [cells_int] at t0 t1
      obtain ⟨z0, e0, _, w0⟩ := DataW.trod_int Try.underlying3 t0
      obtain ⟨z1, e1, _, w1⟩ := DataW.trod_int Try.underlying3 t1
      simp at e0 e1
      subst e0 e1
      exact ⟨z0, z1, rfl, w0, w1⟩
theorem open_vec {H : Type} {enc : TypeId × Value → H} {w : World} {base b0 : Nat} {r : Reach} {spare : Nat → Bool} {held : Bool} {v : Value} {d : DataW H} {ps : List MemPlace}
    (hv : Value.okWide Try.prog w r b0 25 v) (h : DataW.Trod enc Try.prog w base spare held 25 v d ps) :
    ∃ x : Nat → Int, v = .agg (vecC x) ∧ ∀ i, i < 8 → (Lit.int .i64 (x i)).wf = true := by
  obtain ⟨xs, rfl⟩ := okWide_array Try.underlying25 hv
  obtain ⟨fuel, hf⟩ := h
  obtain ⟨ys, m, _, _, hlen, hl, hx⟩ := DataW.trod_array Try.underlying25 hf
  have hsz : xs.toList.length = 8 := by rw [cells_vector] at hlen; simpa [Value.cells] using hlen
  have hel : ∀ i, i < 8 → ∃ z : Int, xs[i]? = some (.int .i64 z) ∧ (Lit.int .i64 z).wf = true := by
    intro i hi
    have h1 := hx i hi
    rw [cells_int] at h1
    have hi' : i < xs.toList.length := by omega
    have h2 : ((Value.agg xs).cells.toList.drop (i * 1)).take 1 = [xs.toList[i]] := by
      rw [Nat.mul_one]
      show (xs.toList.drop i).take 1 = _
      rw [List.drop_eq_getElem_cons hi']
      rfl
    rw [h2, List.getElem?_eq_getElem (by omega)] at h1
    obtain ⟨z, e0, _, wz⟩ := DataW.trod_int Try.underlying3 h1
    refine ⟨z, ?_, wz⟩
    have e1 : xs.toList[i] = .int .i64 z := by simpa using e0
    rw [← e1, ← Array.getElem?_toList, List.getElem?_eq_getElem hi']
  obtain ⟨z0, g0, b0⟩ := hel 0 (by omega)
  obtain ⟨z1, g1, b1⟩ := hel 1 (by omega)
  obtain ⟨z2, g2, b2⟩ := hel 2 (by omega)
  obtain ⟨z3, g3, b3⟩ := hel 3 (by omega)
  obtain ⟨z4, g4, b4⟩ := hel 4 (by omega)
  obtain ⟨z5, g5, b5⟩ := hel 5 (by omega)
  obtain ⟨z6, g6, b6⟩ := hel 6 (by omega)
  obtain ⟨z7, g7, b7⟩ := hel 7 (by omega)
  refine ⟨fun i => [z0, z1, z2, z3, z4, z5, z6, z7].getD i 0, ?_, ?_⟩
  · unfold vecC
    congr 1
    apply Array.ext_getElem?
    intro i
    match i with
    | 0 => exact g0
    | 1 => exact g1
    | 2 => exact g2
    | 3 => exact g3
    | 4 => exact g4
    | 5 => exact g5
    | 6 => exact g6
    | 7 => exact g7
    | i + 8 =>
      rw [Array.getElem?_eq_none (by rw [← Array.length_toList]; omega), Array.getElem?_eq_none (by simp)]
  · intro i hi
    match i, hi with
    | 0, _ => exact b0
    | 1, _ => exact b1
    | 2, _ => exact b2
    | 3, _ => exact b3
    | 4, _ => exact b4
    | 5, _ => exact b5
    | 6, _ => exact b6
    | 7, _ => exact b7
end Go.Proofs.Ytlnlnpofdgnoeaa.Vc
