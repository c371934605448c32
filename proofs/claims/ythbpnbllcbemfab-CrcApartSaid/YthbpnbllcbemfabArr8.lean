/- An array of eight bytes that came in by value, opened. -/
import Derived.Test.YthbpnbllcbemfabChecked
import Derived.ProofKit
import Derived.OpenShut
import Derived.KernelRfl
namespace Go.Proofs.Ythbpnbllcbemfab.Arr8
open Go.ChangeShapes Go.WideShapes Go.ChangeAt Go.RowKit

theorem cells8 : Try.prog.cellsOf 50 = 8 := by kernel_rfl
theorem cells1 : Try.prog.cellsOf 5 = 1 := by kernel_rfl

/-- The value of an array of eight bytes. -/
def val (x : Nat → Int) : Value := .agg #[.int .u8 (x 0), .int .u8 (x 1), .int .u8 (x 2), .int .u8 (x 3), .int .u8 (x 4), .int .u8 (x 5), .int .u8 (x 6), .int .u8 (x 7)]

theorem okWide_agg {P : Program} {W : World} {r : Reach} {b0 : Nat} {t e : TypeId} {n : Nat} {v : Value} (ht : P.underlying t = some (.array n e)) (h : Value.okWide P W r b0 t v) : ∃ xs : Array Value, v = .agg xs := by
  simp only [Value.okWide, ht] at h
  cases v <;> simp_all

theorem open_arr8 {H : Type} {enc : TypeId × Value → H} {w : World} {base b0 : Nat} {r : Reach} {spare : Nat → Bool} {held : Bool} {v : Value} {d : DataW H} {ps : List MemPlace}
    (hv : Value.okWide Try.prog w r b0 50 v) (h : DataW.Trod enc Try.prog w base spare held 50 v d ps) :
    ∃ x : Nat → Int, v = val x ∧ ∀ i, i < 8 → 0 ≤ x i ∧ x i ≤ 255 := by
  obtain ⟨xs, rfl⟩ := okWide_agg Try.underlying50 hv
  obtain ⟨fuel, hf⟩ := h
  obtain ⟨ys, m, _, _, hlen, hl, hx⟩ := DataW.trod_array Try.underlying50 hf
  have hsz : xs.toList.length = 8 := by rw [cells8] at hlen; simpa [Value.cells] using hlen
  have hel : ∀ i, i < 8 → ∃ z : Int, xs[i]? = some (.int .u8 z) ∧ (Lit.int .u8 z).wf = true := by
    intro i hi
    have h1 := hx i hi
    rw [cells1] at h1
    have hi' : i < xs.toList.length := by omega
    have h2 : ((Value.agg xs).cells.toList.drop (i * 1)).take 1 = [xs.toList[i]] := by
      rw [Nat.mul_one]
      show (xs.toList.drop i).take 1 = _
      rw [List.drop_eq_getElem_cons hi']
      rfl
    rw [h2, List.getElem?_eq_getElem (by omega)] at h1
    obtain ⟨z, e0, _, wz⟩ := DataW.trod_int Try.underlying5 h1
    refine ⟨z, ?_, wz⟩
    have e1 : xs.toList[i] = .int .u8 z := by simpa using e0
    rw [← e1, ← Array.getElem?_toList, List.getElem?_eq_getElem hi']
  obtain ⟨z0, g0, b0⟩ := hel 0 (by omega)
  obtain ⟨z1, g1, b1⟩ := hel 1 (by omega)
  obtain ⟨z2, g2, b2⟩ := hel 2 (by omega)
  obtain ⟨z3, g3, b3⟩ := hel 3 (by omega)
  obtain ⟨z4, g4, b4⟩ := hel 4 (by omega)
  obtain ⟨z5, g5, b5⟩ := hel 5 (by omega)
  obtain ⟨z6, g6, b6⟩ := hel 6 (by omega)
  obtain ⟨z7, g7, b7⟩ := hel 7 (by omega)
  refine ⟨fun i => [z0, z1, z2, z3, z4, z5, z6, z7].getD i 0, ?_, ?_⟩
  · unfold val
    congr 1
    apply Array.ext_getElem?
    intro i
    match i with
    | 0 => exact g0
    | 1 => exact g1
    | 2 => exact g2
    | 3 => exact g3
    | 4 => exact g4
    | 5 => exact g5
    | 6 => exact g6
    | 7 => exact g7
    | i + 8 =>
      rw [Array.getElem?_eq_none (by rw [← Array.length_toList]; omega), Array.getElem?_eq_none (by simp)]
  · intro i hi
    match i, hi with
    | 0, _ => exact bounds_u8 b0
    | 1, _ => exact bounds_u8 b1
    | 2, _ => exact bounds_u8 b2
    | 3, _ => exact bounds_u8 b3
    | 4, _ => exact bounds_u8 b4
    | 5, _ => exact bounds_u8 b5
    | 6, _ => exact bounds_u8 b6
    | 7, _ => exact bounds_u8 b7

theorem idx0 (x : Nat → Int) (w : World) : (Instr.index 50 (val x) (.int .i64 0)).run Try.prog w = .ok (.int .u8 (x 0)) w := by kernel_rfl
theorem idx1 (x : Nat → Int) (w : World) : (Instr.index 50 (val x) (.int .i64 1)).run Try.prog w = .ok (.int .u8 (x 1)) w := by kernel_rfl
theorem idx2 (x : Nat → Int) (w : World) : (Instr.index 50 (val x) (.int .i64 2)).run Try.prog w = .ok (.int .u8 (x 2)) w := by kernel_rfl
theorem idx3 (x : Nat → Int) (w : World) : (Instr.index 50 (val x) (.int .i64 3)).run Try.prog w = .ok (.int .u8 (x 3)) w := by kernel_rfl
theorem idx4 (x : Nat → Int) (w : World) : (Instr.index 50 (val x) (.int .i64 4)).run Try.prog w = .ok (.int .u8 (x 4)) w := by kernel_rfl
theorem idx5 (x : Nat → Int) (w : World) : (Instr.index 50 (val x) (.int .i64 5)).run Try.prog w = .ok (.int .u8 (x 5)) w := by kernel_rfl
theorem idx6 (x : Nat → Int) (w : World) : (Instr.index 50 (val x) (.int .i64 6)).run Try.prog w = .ok (.int .u8 (x 6)) w := by kernel_rfl
theorem idx7 (x : Nat → Int) (w : World) : (Instr.index 50 (val x) (.int .i64 7)).run Try.prog w = .ok (.int .u8 (x 7)) w := by kernel_rfl
/-- One of the eight, at a place that is not known. -/
theorem index_at (x : Nat → Int) (k : Nat) (h : k < 8) (w : World) : (Instr.index 50 (val x) (.int .i64 (k : Int))).run Try.prog w = .ok (.int .u8 (x k)) w := by
  match k, h with
  | 0, _ => exact idx0 x w
  | 1, _ => exact idx1 x w
  | 2, _ => exact idx2 x w
  | 3, _ => exact idx3 x w
  | 4, _ => exact idx4 x w
  | 5, _ => exact idx5 x w
  | 6, _ => exact idx6 x w
  | 7, _ => exact idx7 x w
end Go.Proofs.Ythbpnbllcbemfab.Arr8
