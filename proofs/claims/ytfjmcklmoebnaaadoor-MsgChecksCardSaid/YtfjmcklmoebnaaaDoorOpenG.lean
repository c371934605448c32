/- A message opened; the listed tables, and a world that has them. -/
import Derived.Test.YtfjmcklmoebnaaaDoorMgX
import Derived.Test.YtfjmcklmoebnaaaDoorCards
import Derived.Test.YtfjmcklmoebnaaaDoorTie
import Derived.ProofKit
import Derived.OpenShut
import Derived.ChangeShapes
import Derived.WideShapes
import Derived.Deep.Slices
import Derived.Deep.DeepHandedRow
import Derived.Deep.DeepWitnessRowRef
import Derived.Deep.DeepLaidRun
import Derived.Lib.LaidTab
import Derived.Lib.LaidU8
import Derived.LaidMore
import Derived.Stop.LaidErr
import Derived.Stop.Joined
namespace Go.Proofs.YtfjmcklmoebnaaaDoor.Mg
open Go.ChangeShapes Go.WideShapes Go.ChangeAt Go.RowKit Go.Proofs.YtfjmcklmoebnaaaDoor.Vc Go.Proofs.YtfjmcklmoebnaaaDoor.Nt
set_option linter.unusedVariables false
set_option maxRecDepth 100000

theorem wf_fit {n : Int} (h : (Lit.int .i64 n).wf = true) : fitI n := by
  unfold fitI
  simpa [Lit.wf, IntKind.min, IntKind.max, IntKind.signed, IntKind.bits] using h
theorem cells_i : Tryd.prog.cellsOf 3 = 1 := by kernel_rfl
theorem cells_s : Tryd.prog.cellsOf 9 = 1 := by kernel_rfl
theorem cells_m : Tryd.prog.cellsOf 23 = 2 := by kernel_rfl
theorem cells_v : Tryd.prog.cellsOf 25 = 8 := by kernel_rfl
theorem cells_msg : Tryd.prog.cellsOf 27 = 19 := by kernel_rfl
theorem mark_cells {H : Type} {enc : TypeId × Value → H} {w : World} {base : Nat} {spare : Nat → Bool} {held : Bool} {fuel : Nat} {cs : List Value} {x : DataW H × List MemPlace} (h : DataW.trod enc Tryd.prog w base spare held fuel 23 cs = some x) : ∃ k : Int × Int, cs = [.int .i64 k.1, .int .i64 k.2] ∧ fitI k.1 ∧ fitI k.2 := by
  obtain ⟨xs, n, _, rfl, hlen, hxs, hf⟩ := DataW.trod_struct Tryd.underlying23 h
  rw [cells_m] at hlen
  have hx : xs.length = 2 := hxs
  match cs, hlen with
  | [v0, v1], _ =>
    match xs, hx with
    | [x0, x1], _ =>
      have t0 : DataW.trod enc Tryd.prog w base spare held n 3 (([v0, v1].drop 0).take (Tryd.prog.cellsOf 3)) = some x0 := hf 0 _ rfl
      have t1 : DataW.trod enc Tryd.prog w base spare held n 3 (([v0, v1].drop 1).take (Tryd.prog.cellsOf 3)) = some x1 := hf 1 _ rfl
      rw [cells_i] at t0 t1
      obtain ⟨z0, e0, _, w0⟩ := DataW.trod_int Tryd.underlying3 t0
      obtain ⟨z1, e1, _, w1⟩ := DataW.trod_int Tryd.underlying3 t1
      simp at e0 e1
      subst e0 e1
      exact ⟨(z0, z1), rfl, wf_fit w0, wf_fit w1⟩
theorem vec_cells {H : Type} {enc : TypeId × Value → H} {w : World} {base : Nat} {spare : Nat → Bool} {held : Bool} {fuel : Nat} {cs : List Value} {x : DataW H × List MemPlace} (h : DataW.trod enc Tryd.prog w base spare held fuel 25 cs = some x) : ∃ v : Nat → Int, cs = (vecC v).toList ∧ ∀ i, i < 8 → fitI (v i) := by
  obtain ⟨ys, m, _, _, hlen, hl, hx⟩ := DataW.trod_array Tryd.underlying25 h
  rw [cells_v] at hlen
  have hel : ∀ i, i < 8 → ∃ z : Int, cs[i]? = some (.int .i64 z) ∧ fitI z := by
    intro i hi
    have h1 := hx i hi
    rw [cells_i] at h1
    have hi' : i < cs.length := by omega
    have h2 : (cs.drop (i * 1)).take 1 = [cs[i]] := by
      rw [Nat.mul_one, List.drop_eq_getElem_cons hi']
      rfl
    rw [h2, List.getElem?_eq_getElem (by omega)] at h1
    obtain ⟨z, e0, _, wz⟩ := DataW.trod_int Tryd.underlying3 h1
    refine ⟨z, ?_, wf_fit wz⟩
    rw [List.getElem?_eq_getElem hi']
    have e1 : cs[i] = .int .i64 z := by simpa using e0
    rw [e1]
  obtain ⟨z0, g0, f0⟩ := hel 0 (by omega)
  obtain ⟨z1, g1, f1⟩ := hel 1 (by omega)
  obtain ⟨z2, g2, f2⟩ := hel 2 (by omega)
  obtain ⟨z3, g3, f3⟩ := hel 3 (by omega)
  obtain ⟨z4, g4, f4⟩ := hel 4 (by omega)
  obtain ⟨z5, g5, f5⟩ := hel 5 (by omega)
  obtain ⟨z6, g6, f6⟩ := hel 6 (by omega)
  obtain ⟨z7, g7, f7⟩ := hel 7 (by omega)
  refine ⟨fun i => [z0, z1, z2, z3, z4, z5, z6, z7].getD i 0, ?_, fun i hi => match i, hi with | 0, _ => f0 | 1, _ => f1 | 2, _ => f2 | 3, _ => f3 | 4, _ => f4 | 5, _ => f5 | 6, _ => f6 | 7, _ => f7⟩
  apply List.ext_getElem?
  intro i
  match i with
  | 0 => exact g0
  | 1 => exact g1
  | 2 => exact g2
  | 3 => exact g3
  | 4 => exact g4
  | 5 => exact g5
  | 6 => exact g6
  | 7 => exact g7
  | i + 8 => rw [List.getElem?_eq_none (by omega), List.getElem?_eq_none (by simp [vecC])]
set_option maxRecDepth 100000 in
theorem msg_cells {H : Type} {enc : TypeId × Value → H} {w : World} {base : Nat} {spare : Nat → Bool} {held : Bool} {fuel : Nat} {cs : List Value} {x : DataW H × List MemPlace} (h : DataW.trod enc Tryd.prog w base spare held fuel 27 cs = some x) : ∃ m : MsgP, cs = (msgC m).toList ∧ FitM m := by
  obtain ⟨xs, n, _, rfl, hlen, hxs, hf⟩ := DataW.trod_struct Tryd.underlying27 h
  rw [cells_msg] at hlen
  have hx : xs.length = 10 := hxs
  match cs, hlen with
  | [v0, v1, v2, v3, v4, v5, v6, v7, v8, v9, v10, v11, v12, v13, v14, v15, v16, v17, v18], _ =>
    match xs, hx with
    | [x0, x1, x2, x3, x4, x5, x6, x7, x8, x9], _ =>
      have t0 : DataW.trod enc Tryd.prog w base spare held n 3 (([v0, v1, v2, v3, v4, v5, v6, v7, v8, v9, v10, v11, v12, v13, v14, v15, v16, v17, v18].drop 0).take (Tryd.prog.cellsOf 3)) = some x0 := hf 0 _ rfl
      rw [cells_i] at t0
      have t1 : DataW.trod enc Tryd.prog w base spare held n 3 (([v0, v1, v2, v3, v4, v5, v6, v7, v8, v9, v10, v11, v12, v13, v14, v15, v16, v17, v18].drop 1).take (Tryd.prog.cellsOf 3)) = some x1 := hf 1 _ rfl
      rw [cells_i] at t1
      have t2 : DataW.trod enc Tryd.prog w base spare held n 3 (([v0, v1, v2, v3, v4, v5, v6, v7, v8, v9, v10, v11, v12, v13, v14, v15, v16, v17, v18].drop 2).take (Tryd.prog.cellsOf 3)) = some x2 := hf 2 _ rfl
      rw [cells_i] at t2
      have t3 : DataW.trod enc Tryd.prog w base spare held n 3 (([v0, v1, v2, v3, v4, v5, v6, v7, v8, v9, v10, v11, v12, v13, v14, v15, v16, v17, v18].drop 3).take (Tryd.prog.cellsOf 3)) = some x3 := hf 3 _ rfl
      rw [cells_i] at t3
      have t4 : DataW.trod enc Tryd.prog w base spare held n 23 (([v0, v1, v2, v3, v4, v5, v6, v7, v8, v9, v10, v11, v12, v13, v14, v15, v16, v17, v18].drop 4).take (Tryd.prog.cellsOf 23)) = some x4 := hf 4 _ rfl
      rw [cells_m] at t4
      have t5 : DataW.trod enc Tryd.prog w base spare held n 23 (([v0, v1, v2, v3, v4, v5, v6, v7, v8, v9, v10, v11, v12, v13, v14, v15, v16, v17, v18].drop 6).take (Tryd.prog.cellsOf 23)) = some x5 := hf 5 _ rfl
      rw [cells_m] at t5
      have t6 : DataW.trod enc Tryd.prog w base spare held n 3 (([v0, v1, v2, v3, v4, v5, v6, v7, v8, v9, v10, v11, v12, v13, v14, v15, v16, v17, v18].drop 8).take (Tryd.prog.cellsOf 3)) = some x6 := hf 6 _ rfl
      rw [cells_i] at t6
      have t7 : DataW.trod enc Tryd.prog w base spare held n 3 (([v0, v1, v2, v3, v4, v5, v6, v7, v8, v9, v10, v11, v12, v13, v14, v15, v16, v17, v18].drop 9).take (Tryd.prog.cellsOf 3)) = some x7 := hf 7 _ rfl
      rw [cells_i] at t7
      have t8 : DataW.trod enc Tryd.prog w base spare held n 25 (([v0, v1, v2, v3, v4, v5, v6, v7, v8, v9, v10, v11, v12, v13, v14, v15, v16, v17, v18].drop 10).take (Tryd.prog.cellsOf 25)) = some x8 := hf 8 _ rfl
      rw [cells_v] at t8
      have t9 : DataW.trod enc Tryd.prog w base spare held n 9 (([v0, v1, v2, v3, v4, v5, v6, v7, v8, v9, v10, v11, v12, v13, v14, v15, v16, v17, v18].drop 18).take (Tryd.prog.cellsOf 9)) = some x9 := hf 9 _ rfl
      rw [cells_s] at t9
      obtain ⟨z0, e0, _, w0⟩ := DataW.trod_int Tryd.underlying3 t0
      simp at e0
      subst e0
      obtain ⟨z1, e1, _, w1⟩ := DataW.trod_int Tryd.underlying3 t1
      simp at e1
      subst e1
      obtain ⟨z2, e2, _, w2⟩ := DataW.trod_int Tryd.underlying3 t2
      simp at e2
      subst e2
      obtain ⟨z3, e3, _, w3⟩ := DataW.trod_int Tryd.underlying3 t3
      simp at e3
      subst e3
      obtain ⟨z4, e4, w4⟩ := mark_cells t4
      simp at e4
      obtain ⟨rfl, rfl⟩ := e4
      obtain ⟨z5, e5, w5⟩ := mark_cells t5
      simp at e5
      obtain ⟨rfl, rfl⟩ := e5
      obtain ⟨z6, e6, _, w6⟩ := DataW.trod_int Tryd.underlying3 t6
      simp at e6
      subst e6
      obtain ⟨z7, e7, _, w7⟩ := DataW.trod_int Tryd.underlying3 t7
      simp at e7
      subst e7
      obtain ⟨z8, e8, w8⟩ := vec_cells t8
      simp [vecC] at e8
      obtain ⟨rfl, rfl, rfl, rfl, rfl, rfl, rfl, rfl⟩ := e8
      obtain ⟨z9, e9, _, ws⟩ := DataW.trod_string Tryd.underlying9 t9
      simp at e9
      subst e9
      exact ⟨⟨z0, z1, z2, z3, z4, z5, z6, z7, z8, z9⟩, rfl, ⟨wf_fit w0, wf_fit w1, wf_fit w2, wf_fit w3⟩, w4, w5, ⟨wf_fit w6, wf_fit w7⟩, w8, by unfold maxLen at ws; simpa using ws⟩
theorem okWide_strG {P : Program} {W : World} {r : Reach} {b0 : Nat} {t : TypeId} {fs : Array Field} {v : Value} (ht : P.underlying t = some (.struct fs)) (h : Value.okWide P W r b0 t v) : ∃ xs : Array Value, v = .agg xs := by
  simp only [Value.okWide, ht] at h
  cases v <;> simp_all
theorem open_msg {H : Type} {enc : TypeId × Value → H} {w : World} {base b0 : Nat} {r : Reach} {spare : Nat → Bool} {held : Bool} {v : Value} {d : DataW H} {ps : List MemPlace}
    (hv : Value.okWide Tryd.prog w r b0 27 v) (h : DataW.Trod enc Tryd.prog w base spare held 27 v d ps) : ∃ y : MsgP, v = .agg (msgC y) ∧ FitM y := by
  obtain ⟨xs, rfl⟩ := okWide_strG Tryd.underlying27 hv
  obtain ⟨fuel, hf⟩ := h
  obtain ⟨y, hy, ws⟩ := msg_cells hf
  refine ⟨y, ?_, ws⟩
  have h2 : xs.toList = _ := hy
  congr 1
  exact Array.toList_inj.1 h2
theorem tabs_of {W : World} (h : laidMet Tryd.prog Rows.msgPutsRow.laid W) (hsh : W.ShapedOpen Tryd.prog) : Tabs W := by
  have h1 : laidMet Tryd.prog [("math/bits.deBruijn64tab", Rows.laid_math_bits_deBruijn64tab), ("internal/strconv.uint64pow10", Rows.laid_internal_strconv_uint64pow10)] W := laidMet.tail h
  have h2 := laidMet.tail h1
  have hT : Lib.TabIs Tryd.prog W "internal/strconv.uint64pow10" .u64 Lib.pow10Tab := Lib.tabIs_of_head (k := .u64) (zs := Lib.pow10Tab) (g := 0) (h := h2) (by kernel_rfl) (by kernel_rfl) Tryd.underlying113 Tryd.underlying84 (by kernel_rfl) (by kernel_rfl)
  refine ⟨hT, ?_⟩
  have hb := hT.cell (g := 0) (by kernel_rfl) 0 (by decide)
  by_cases hlt : 1 ≤ W.heap.size
  · exact hlt
  · exfalso
    have e : W.heap[0]? = none := Array.getElem?_eq_none (by omega)
    simp [World.cell?, e] at hb
noncomputable def laidWorld (os : Os) : World := World.doorLaid Tryd.prog 200 os
theorem laid_met (os : Os) (args : Array Value) : laidMet Tryd.prog Rows.msgPutsRow.laid ((laidWorld os).forCall (fun _ _ => 0) ⟨#[], args, []⟩).memory :=
  laidMet_of_run3 10 (by kernel_rfl) (by kernel_rfl) (by kernel_rfl)
end Go.Proofs.YtfjmcklmoebnaaaDoor.Mg
