/- Messages, and what befalls them, opened. -/
import Derived.Test.YtjbbifmjhagfiaaNtO
import Derived.ProofKit
import Derived.OpenShut
import Derived.ChangeShapes
import Derived.WideShapes
import Derived.Deep.Slices
namespace Go.Proofs.Ytjbbifmjhagfiaa.Nt
open Go.ChangeShapes Go.WideShapes Go.ChangeAt Go.RowKit Go.Proofs.Ytjbbifmjhagfiaa.Vc
set_option linter.unusedVariables false
set_option maxRecDepth 100000

theorem cells_i : Try.prog.cellsOf 3 = 1 := by kernel_rfl
theorem cells_s : Try.prog.cellsOf 9 = 1 := by kernel_rfl
theorem cells_m : Try.prog.cellsOf 32 = 2 := by kernel_rfl
theorem cells_v : Try.prog.cellsOf 34 = 8 := by kernel_rfl
theorem cells_msg : Try.prog.cellsOf 36 = 19 := by kernel_rfl
theorem mark_cells {H : Type} {enc : TypeId × Value → H} {w : World} {base : Nat} {spare : Nat → Bool} {held : Bool} {fuel : Nat} {cs : List Value} {x : DataW H × List MemPlace} (h : DataW.trod enc Try.prog w base spare held fuel 32 cs = some x) : ∃ k : Int × Int, cs = [.int .i64 k.1, .int .i64 k.2] := by
  obtain ⟨xs, n, _, rfl, hlen, hxs, hf⟩ := DataW.trod_struct Try.underlying32 h
  rw [cells_m] at hlen
  have hx : xs.length = 2 := hxs
  match cs, hlen with
  | [v0, v1], _ =>
    match xs, hx with
    | [x0, x1], _ =>
      have t0 : DataW.trod enc Try.prog w base spare held n 3 (([v0, v1].drop 0).take (Try.prog.cellsOf 3)) = some x0 := hf 0 _ rfl
      have t1 : DataW.trod enc Try.prog w base spare held n 3 (([v0, v1].drop 1).take (Try.prog.cellsOf 3)) = some x1 := hf 1 _ rfl
      rw [cells_i] at t0 t1
      obtain ⟨z0, e0, _, w0⟩ := DataW.trod_int Try.underlying3 t0
      obtain ⟨z1, e1, _, w1⟩ := DataW.trod_int Try.underlying3 t1
      simp at e0 e1
      subst e0 e1
      exact ⟨(z0, z1), rfl⟩
theorem vec_cells {H : Type} {enc : TypeId × Value → H} {w : World} {base : Nat} {spare : Nat → Bool} {held : Bool} {fuel : Nat} {cs : List Value} {x : DataW H × List MemPlace} (h : DataW.trod enc Try.prog w base spare held fuel 34 cs = some x) : ∃ v : Nat → Int, cs = (vecC v).toList := by
  obtain ⟨ys, m, _, _, hlen, hl, hx⟩ := DataW.trod_array Try.underlying34 h
  rw [cells_v] at hlen
  have hel : ∀ i, i < 8 → ∃ z : Int, cs[i]? = some (.int .i64 z) := by
    intro i hi
    have h1 := hx i hi
    rw [cells_i] at h1
    have hi' : i < cs.length := by omega
    have h2 : (cs.drop (i * 1)).take 1 = [cs[i]] := by
      rw [Nat.mul_one, List.drop_eq_getElem_cons hi']
      rfl
    rw [h2, List.getElem?_eq_getElem (by omega)] at h1
    obtain ⟨z, e0, _, wz⟩ := DataW.trod_int Try.underlying3 h1
    refine ⟨z, ?_⟩
    rw [List.getElem?_eq_getElem hi']
    have e1 : cs[i] = .int .i64 z := by simpa using e0
    rw [e1]
  obtain ⟨z0, g0⟩ := hel 0 (by omega)
  obtain ⟨z1, g1⟩ := hel 1 (by omega)
  obtain ⟨z2, g2⟩ := hel 2 (by omega)
  obtain ⟨z3, g3⟩ := hel 3 (by omega)
  obtain ⟨z4, g4⟩ := hel 4 (by omega)
  obtain ⟨z5, g5⟩ := hel 5 (by omega)
  obtain ⟨z6, g6⟩ := hel 6 (by omega)
  obtain ⟨z7, g7⟩ := hel 7 (by omega)
  refine ⟨fun i => [z0, z1, z2, z3, z4, z5, z6, z7].getD i 0, ?_⟩
  apply List.ext_getElem?
  intro i
  match i with
  | 0 => exact g0
  | 1 => exact g1
  | 2 => exact g2
  | 3 => exact g3
  | 4 => exact g4
  | 5 => exact g5
  | 6 => exact g6
  | 7 => exact g7
  | i + 8 => rw [List.getElem?_eq_none (by omega), List.getElem?_eq_none (by simp [vecC])]
set_option maxRecDepth 100000 in
theorem msg_cells {H : Type} {enc : TypeId × Value → H} {w : World} {base : Nat} {spare : Nat → Bool} {held : Bool} {fuel : Nat} {cs : List Value} {x : DataW H × List MemPlace} (h : DataW.trod enc Try.prog w base spare held fuel 36 cs = some x) : ∃ m : MsgP, cs = (msgC m).toList ∧ m.data.size ≤ maxLen := by
  obtain ⟨xs, n, _, rfl, hlen, hxs, hf⟩ := DataW.trod_struct Try.underlying36 h
  rw [cells_msg] at hlen
  have hx : xs.length = 10 := hxs
  match cs, hlen with
  | [v0, v1, v2, v3, v4, v5, v6, v7, v8, v9, v10, v11, v12, v13, v14, v15, v16, v17, v18], _ =>
    match xs, hx with
    | [x0, x1, x2, x3, x4, x5, x6, x7, x8, x9], _ =>
      have t0 : DataW.trod enc Try.prog w base spare held n 3 (([v0, v1, v2, v3, v4, v5, v6, v7, v8, v9, v10, v11, v12, v13, v14, v15, v16, v17, v18].drop 0).take (Try.prog.cellsOf 3)) = some x0 := hf 0 _ rfl
      rw [cells_i] at t0
      have t1 : DataW.trod enc Try.prog w base spare held n 3 (([v0, v1, v2, v3, v4, v5, v6, v7, v8, v9, v10, v11, v12, v13, v14, v15, v16, v17, v18].drop 1).take (Try.prog.cellsOf 3)) = some x1 := hf 1 _ rfl
      rw [cells_i] at t1
      have t2 : DataW.trod enc Try.prog w base spare held n 3 (([v0, v1, v2, v3, v4, v5, v6, v7, v8, v9, v10, v11, v12, v13, v14, v15, v16, v17, v18].drop 2).take (Try.prog.cellsOf 3)) = some x2 := hf 2 _ rfl
      rw [cells_i] at t2
      have t3 : DataW.trod enc Try.prog w base spare held n 3 (([v0, v1, v2, v3, v4, v5, v6, v7, v8, v9, v10, v11, v12, v13, v14, v15, v16, v17, v18].drop 3).take (Try.prog.cellsOf 3)) = some x3 := hf 3 _ rfl
      rw [cells_i] at t3
      have t4 : DataW.trod enc Try.prog w base spare held n 32 (([v0, v1, v2, v3, v4, v5, v6, v7, v8, v9, v10, v11, v12, v13, v14, v15, v16, v17, v18].drop 4).take (Try.prog.cellsOf 32)) = some x4 := hf 4 _ rfl
      rw [cells_m] at t4
      have t5 : DataW.trod enc Try.prog w base spare held n 32 (([v0, v1, v2, v3, v4, v5, v6, v7, v8, v9, v10, v11, v12, v13, v14, v15, v16, v17, v18].drop 6).take (Try.prog.cellsOf 32)) = some x5 := hf 5 _ rfl
      rw [cells_m] at t5
      have t6 : DataW.trod enc Try.prog w base spare held n 3 (([v0, v1, v2, v3, v4, v5, v6, v7, v8, v9, v10, v11, v12, v13, v14, v15, v16, v17, v18].drop 8).take (Try.prog.cellsOf 3)) = some x6 := hf 6 _ rfl
      rw [cells_i] at t6
      have t7 : DataW.trod enc Try.prog w base spare held n 3 (([v0, v1, v2, v3, v4, v5, v6, v7, v8, v9, v10, v11, v12, v13, v14, v15, v16, v17, v18].drop 9).take (Try.prog.cellsOf 3)) = some x7 := hf 7 _ rfl
      rw [cells_i] at t7
      have t8 : DataW.trod enc Try.prog w base spare held n 34 (([v0, v1, v2, v3, v4, v5, v6, v7, v8, v9, v10, v11, v12, v13, v14, v15, v16, v17, v18].drop 10).take (Try.prog.cellsOf 34)) = some x8 := hf 8 _ rfl
      rw [cells_v] at t8
      have t9 : DataW.trod enc Try.prog w base spare held n 9 (([v0, v1, v2, v3, v4, v5, v6, v7, v8, v9, v10, v11, v12, v13, v14, v15, v16, v17, v18].drop 18).take (Try.prog.cellsOf 9)) = some x9 := hf 9 _ rfl
      rw [cells_s] at t9
      obtain ⟨z0, e0, _, _⟩ := DataW.trod_int Try.underlying3 t0
      simp at e0
      subst e0
      obtain ⟨z1, e1, _, _⟩ := DataW.trod_int Try.underlying3 t1
      simp at e1
      subst e1
      obtain ⟨z2, e2, _, _⟩ := DataW.trod_int Try.underlying3 t2
      simp at e2
      subst e2
      obtain ⟨z3, e3, _, _⟩ := DataW.trod_int Try.underlying3 t3
      simp at e3
      subst e3
      obtain ⟨z4, e4⟩ := mark_cells t4
      simp at e4
      obtain ⟨rfl, rfl⟩ := e4
      obtain ⟨z5, e5⟩ := mark_cells t5
      simp at e5
      obtain ⟨rfl, rfl⟩ := e5
      obtain ⟨z6, e6, _, _⟩ := DataW.trod_int Try.underlying3 t6
      simp at e6
      subst e6
      obtain ⟨z7, e7, _, _⟩ := DataW.trod_int Try.underlying3 t7
      simp at e7
      subst e7
      obtain ⟨z8, e8⟩ := vec_cells t8
      simp [vecC] at e8
      obtain ⟨rfl, rfl, rfl, rfl, rfl, rfl, rfl, rfl⟩ := e8
      obtain ⟨z9, e9, _, ws⟩ := DataW.trod_string Try.underlying9 t9
      simp at e9
      subst e9
      exact ⟨⟨z0, z1, z2, z3, z4, z5, z6, z7, z8, z9⟩, rfl, ws⟩
theorem cells_do : Try.prog.cellsOf 38 = 21 := by kernel_rfl
set_option maxRecDepth 100000 in
theorem nd_cells {H : Type} {enc : TypeId × Value → H} {w : World} {base : Nat} {spare : Nat → Bool} {held : Bool} {fuel : Nat} {cs : List Value} {x : DataW H × List MemPlace} (h : DataW.trod enc Try.prog w base spare held fuel 38 cs = some x) : ∃ d : DoP, cs = (doC d).toList ∧ d.m.data.size ≤ maxLen := by
  obtain ⟨xs, n, _, rfl, hlen, hxs, hf⟩ := DataW.trod_struct Try.underlying38 h
  rw [cells_do] at hlen
  have hx : xs.length = 3 := hxs
  match cs, hlen with
  | a :: b :: r, hr =>
    match xs, hx with
    | [x0, x1, x2], _ =>
      have t0 : DataW.trod enc Try.prog w base spare held n 3 (((a :: b :: r).drop 0).take (Try.prog.cellsOf 3)) = some x0 := hf 0 _ rfl
      have t1 : DataW.trod enc Try.prog w base spare held n 3 (((a :: b :: r).drop 1).take (Try.prog.cellsOf 3)) = some x1 := hf 1 _ rfl
      have t2 : DataW.trod enc Try.prog w base spare held n 36 (((a :: b :: r).drop 2).take (Try.prog.cellsOf 36)) = some x2 := hf 2 _ rfl
      rw [cells_i] at t0 t1
      rw [cells_msg] at t2
      obtain ⟨z0, e0, _, _⟩ := DataW.trod_int Try.underlying3 t0
      obtain ⟨z1, e1, _, _⟩ := DataW.trod_int Try.underlying3 t1
      obtain ⟨m, e2, ws⟩ := msg_cells t2
      simp at e0 e1
      subst e0 e1
      have hr2 : r.length = 19 := by simpa using hr
      have e3 : r = (msgC m).toList := by
        have e4 : ((Value.int .i64 z0 :: Value.int .i64 z1 :: r).drop 2).take 19 = r := by
          show r.take 19 = r
          exact List.take_of_length_le (by omega)
        rw [← e4]
        exact e2
      exact ⟨⟨z0, z1, m⟩, by rw [e3]; rfl, ws⟩
theorem okWide_strN {P : Program} {W : World} {r : Reach} {b0 : Nat} {t : TypeId} {fs : Array Field} {v : Value} (ht : P.underlying t = some (.struct fs)) (h : Value.okWide P W r b0 t v) : ∃ xs : Array Value, v = .agg xs := by
  simp only [Value.okWide, ht] at h
  cases v <;> simp_all
theorem open_nd {H : Type} {enc : TypeId × Value → H} {w : World} {base b0 : Nat} {r : Reach} {spare : Nat → Bool} {held : Bool} {v : Value} {d : DataW H} {ps : List MemPlace}
    (hv : Value.okWide Try.prog w r b0 38 v) (h : DataW.Trod enc Try.prog w base spare held 38 v d ps) : ∃ y : DoP, v = .agg (doC y) ∧ y.m.data.size ≤ maxLen := by
  obtain ⟨xs, rfl⟩ := okWide_strN Try.underlying38 hv
  obtain ⟨fuel, hf⟩ := h
  obtain ⟨y, hy, ws⟩ := nd_cells hf
  refine ⟨y, ?_, ws⟩
  have h2 : xs.toList = _ := hy
  congr 1
  exact Array.toList_inj.1 h2
theorem cells_range {w : World} {base : Nat} {a : Addr} {k : Nat} {cs : List Value} (h : w.cells? base a k = some cs) : cs.length = k ∧ ∀ j v, cs[j]? = some v → w.cell? (a.add j) = some v := by
  obtain ⟨_, hl, hx⟩ := World.cells?_some h
  refine ⟨hl, fun j v hv => ?_⟩
  have hj : j < k := by rw [← hl]; exact (List.getElem?_eq_some_iff.1 hv).1
  rw [hx j hj]
  exact hv
set_option maxRecDepth 100000 in
theorem open_nds {H : Type} {enc : TypeId × Value → H} {w : World} {base b0 : Nat} {r : Reach} {spare : Nat → Bool} {held : Bool} {v : Value} {d : DataW H} {ps : List MemPlace}
    (hv : Value.okWide Try.prog w r b0 22 v) (h : DataW.Trod enc Try.prog w base spare held 22 v d ps) (hlt : ∀ x ∈ ps, x.block < w.heap.size) :
    ∃ A n cap xs, v = .slice A n cap ∧ DRow w A n xs ∧ n ≤ cap ∧ cap ≤ maxLen := by
  obtain ⟨a0, len, cap, rfl⟩ := okWide_slice Try.underlying22 hv
  obtain ⟨fuel, hf⟩ := h
  rcases Deep.open_slice Try.underlying22 hf with ⟨hcs, hx⟩ | ⟨a, len', cap', m, n, D, Pl, hcs, _, hl, hm, hmm, hx, hcell⟩
  · simp [Value.cells] at hcs
    obtain ⟨rfl, rfl, rfl⟩ := hcs
    exact ⟨none, 0, 0, [], rfl, ⟨rfl, fun i d hd => by simp at hd⟩, Nat.le_refl _, Nat.zero_le _⟩
  · simp [Value.cells] at hcs
    obtain ⟨rfl, rfl, rfl⟩ := hcs
    simp only [Prod.mk.injEq] at hx
    obtain ⟨rfl, rfl⟩ := hx
    rw [cells_do] at hcell hlt
    have hle : len ≤ m := by rw [hmm]; split <;> omega
    have each : ∀ i, i < m → ∃ y : DoP, w.cells? base (a.add (i * 21)) 21 = some (doC y).toList ∧ y.m.data.size ≤ maxLen := by
      intro i hi
      obtain ⟨cs', hc, ht⟩ := hcell i hi
      obtain ⟨y, rfl, hfit⟩ := nd_cells ht
      exact ⟨y, hc, hfit⟩
    have hex : ∃ f : Nat → DoP, ∀ i, i < m → w.cells? base (a.add (i * 21)) 21 = some (doC (f i)).toList ∧ (f i).m.data.size ≤ maxLen := by
      refine ⟨fun i => if h : i < m then (each i h).choose else ⟨0, 0, msg0⟩, fun i hi => ?_⟩
      simp only [dif_pos hi]
      exact (each i hi).choose_spec
    obtain ⟨f, hf⟩ := hex
    refine ⟨some a, len, cap, (List.range len).map f, rfl, ⟨by simp, fun i d hd => ?_⟩, hl, hm⟩
    have hi : i < len := by have := (List.getElem?_eq_some_iff.1 hd).1; simpa using this
    have he : d = f i := by
      rw [List.getElem?_map, List.getElem?_range hi] at hd
      exact (Option.some.inj hd).symm
    subst he
    obtain ⟨h1, h2⟩ := hf i (by omega)
    obtain ⟨_, hr⟩ := cells_range h1
    obtain ⟨b, off, spot⟩ := a
    have hspot : spot = none := by
      have h5 := World.cell?_spot ((cells_range (hf 0 (by omega)).1).2 0 _ rfl)
      simpa [Addr.add] using h5
    subst hspot
    have hbW : b < w.heap.size := hlt (.cell b off) (List.mem_append_left _ (MemPlace.mem_row.2 ⟨0, by omega, by simp⟩))
    refine ⟨b, off, rfl, hbW, fun j v hv => ?_, h2⟩
    have := hr j v hv
    simpa only [add_plain] using this
end Go.Proofs.Ytjbbifmjhagfiaa.Nt
