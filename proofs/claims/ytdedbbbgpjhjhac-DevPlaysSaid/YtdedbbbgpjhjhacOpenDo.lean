/- What befalls a device, opened: one thing, and a row of things. -/
import Derived.Test.YtdedbbbgpjhjhacDevH
import Derived.Deep.Slices
namespace Go.Proofs.Ytdedbbbgpjhjhac.Dv
open Go.ChangeShapes Go.WideShapes Go.ChangeAt Go.RowKit
open Mem
open Rws

theorem cells_do : Try.prog.cellsOf 34 = 4 := by kernel_rfl
theorem cells_is : Try.prog.cellsOf 32 = 1 := by kernel_rfl
set_option maxRecDepth 100000 in
theorem do_cells {H : Type} {enc : TypeId × Value → H} {w : World} {base : Nat} {spare : Nat → Bool} {held : Bool} {fuel : Nat} {cs : List Value} {x : DataW H × List MemPlace}
    (h : DataW.trod enc Try.prog w base spare held fuel 34 cs = some x) (hlt : ∀ q ∈ x.2, q.block < w.heap.size) :
    ∃ y : DoC, cs = [.int .i64 y.v.op, .int .i64 y.v.i, .string y.v.s, .slice y.A y.n y.c] ∧ Fits w y := by
  obtain ⟨xs, n, _, rfl, hlen, hxs, hf⟩ := DataW.trod_struct Try.underlying34 h
  rw [cells_do] at hlen
  have hx4 : xs.length = 4 := hxs
  match cs, hlen with
  | [v0, v1, v2, v3], _ =>
    match xs, hx4 with
    | [x0, x1, x2, x3], _ =>
      have t0 : DataW.trod enc Try.prog w base spare held n 3 (([v0, v1, v2, v3].drop 0).take (Try.prog.cellsOf 3)) = some x0 := hf 0 _ rfl
      have t1 : DataW.trod enc Try.prog w base spare held n 3 (([v0, v1, v2, v3].drop 1).take (Try.prog.cellsOf 3)) = some x1 := hf 1 _ rfl
      have t2 : DataW.trod enc Try.prog w base spare held n 9 (([v0, v1, v2, v3].drop 2).take (Try.prog.cellsOf 9)) = some x2 := hf 2 _ rfl
      have t3 : DataW.trod enc Try.prog w base spare held n 32 (([v0, v1, v2, v3].drop 3).take (Try.prog.cellsOf 32)) = some x3 := hf 3 _ rfl
      rw [cells_i] at t0 t1
      rw [cells_s] at t2
      rw [cells_is] at t3
      have hl3 : ∀ q ∈ x3.2, q.block < w.heap.size := fun q hq => hlt q (by simp [hq])
      obtain ⟨z0, e0, _, w0⟩ := DataW.trod_int Try.underlying3 t0
      obtain ⟨z1, e1, _, w1⟩ := DataW.trod_int Try.underlying3 t1
      obtain ⟨z2, e2, _, w2⟩ := DataW.trod_string Try.underlying9 t2
      simp at e0 e1 e2
      subst e0 e1 e2
      rcases open_ints Try.underlying32 Try.underlying3 cells_i t3 with ⟨hcs, _⟩ | ⟨a, len, cap, zs, hcs, _, hl, hm, hz, hx, hcell, hwz⟩
      · simp at hcs
        subst hcs
        exact ⟨⟨⟨z0, z1, z2, []⟩, none, 0, 0⟩, rfl, ⟨rfl, fun h => absurd (show 0 < 0 from h) (by omega)⟩, Nat.le_refl _, Nat.zero_le _, w2, wf_i64 w0, wf_i64 w1⟩
      · simp at hcs
        subst hcs
        have hle : len ≤ zs.length := by rw [hz]; split <;> omega
        refine ⟨⟨⟨z0, z1, z2, zs.take len⟩, some a, len, cap⟩, rfl, ⟨by show (zs.take len).length = len; rw [List.length_take]; omega, fun h0 => ?_⟩, hl, hm, w2, wf_i64 w0, wf_i64 w1⟩
        have h0 : 0 < len := h0
        obtain ⟨b, off, spot⟩ := a
        have hspot : spot = none := by simpa [Addr.add] using World.cell?_spot (hcell 0 (by omega))
        subst hspot
        have hbW : b < w.heap.size := hl3 (.cell b off) (by rw [hx]; exact MemPlace.mem_row.2 ⟨0, by omega, by simp⟩)
        refine ⟨b, off, rfl, hbW, fun i hi => ?_⟩
        have hi' : i < len := by simp at hi; omega
        have hc := hcell i (by omega)
        rw [add_plain] at hc
        rw [hc, List.getElem_take]
        simp [List.getD, List.getElem?_eq_getElem (show i < zs.length by omega)]
theorem okWide_agg {P : Program} {W : World} {r : Reach} {b0 : Nat} {t : TypeId} {fs : Array Field} {v : Value} (ht : P.underlying t = some (.struct fs)) (h : Value.okWide P W r b0 t v) : ∃ xs : Array Value, v = .agg xs := by
  simp only [Value.okWide, ht] at h
  cases v <;> simp_all
set_option maxRecDepth 100000 in
theorem open_do {H : Type} {enc : TypeId × Value → H} {w : World} {base b0 : Nat} {r : Reach} {spare : Nat → Bool} {held : Bool} {v : Value} {d : DataW H} {ps : List MemPlace}
    (hv : Value.okWide Try.prog w r b0 34 v) (h : DataW.Trod enc Try.prog w base spare held 34 v d ps) (hlt : ∀ x ∈ ps, x.block < w.heap.size) :
    ∃ y : DoC, v = .agg #[.int .i64 y.v.op, .int .i64 y.v.i, .string y.v.s, .slice y.A y.n y.c] ∧ Fits w y := by
  obtain ⟨xs, rfl⟩ := okWide_agg Try.underlying34 hv
  obtain ⟨fuel, hf⟩ := h
  obtain ⟨y, hy, hfit⟩ := do_cells hf hlt
  refine ⟨y, ?_, hfit⟩
  have h2 : xs.toList = _ := hy
  congr 1
  apply Array.ext'
  rw [h2]
set_option maxRecDepth 100000 in
theorem open_dos {H : Type} {enc : TypeId × Value → H} {w : World} {base b0 : Nat} {r : Reach} {spare : Nat → Bool} {held : Bool} {v : Value} {d : DataW H} {ps : List MemPlace}
    (hv : Value.okWide Try.prog w r b0 22 v) (h : DataW.Trod enc Try.prog w base spare held 22 v d ps) (hlt : ∀ x ∈ ps, x.block < w.heap.size) :
    ∃ A n cap xs, v = .slice A n cap ∧ DoRow w A n xs ∧ n ≤ cap ∧ cap ≤ maxLen := by
  obtain ⟨a0, len, cap, rfl⟩ := okWide_slice Try.underlying22 hv
  obtain ⟨fuel, hf⟩ := h
  rcases Deep.open_slice Try.underlying22 hf with ⟨hcs, hx⟩ | ⟨a, len', cap', m, n, D, Pl, hcs, _, hl, hm, hmm, hx, hcell⟩
  · simp [Value.cells] at hcs
    obtain ⟨rfl, rfl, rfl⟩ := hcs
    exact ⟨none, 0, 0, [], rfl, ⟨rfl, fun h => absurd h (by omega), fun x hx => by cases hx⟩, Nat.le_refl _, Nat.zero_le _⟩
  · simp [Value.cells] at hcs
    obtain ⟨rfl, rfl, rfl⟩ := hcs
    simp only [Prod.mk.injEq] at hx
    obtain ⟨rfl, rfl⟩ := hx
    rw [cells_do] at hcell hlt
    have hle : len ≤ m := by rw [hmm]; split <;> omega
    have hpl : ∀ i, i < m → ∀ q ∈ Pl i, q.block < w.heap.size := fun i hi q hq => hlt q (List.mem_append_right _ (List.mem_flatMap.2 ⟨i, List.mem_range.2 hi, hq⟩))
    have each : ∀ i, i < m → ∃ y : DoC, w.cells? base (a.add (i * 4)) 4 = some [.int .i64 y.v.op, .int .i64 y.v.i, .string y.v.s, .slice y.A y.n y.c] ∧ Fits w y := by
      intro i hi
      obtain ⟨cs', hc, ht⟩ := hcell i hi
      obtain ⟨y, rfl, hfit⟩ := do_cells ht (hpl i hi)
      exact ⟨y, hc, hfit⟩
    have hex : ∃ f : Nat → DoC, ∀ i, i < m → w.cells? base (a.add (i * 4)) 4 = some [.int .i64 (f i).v.op, .int .i64 (f i).v.i, .string (f i).v.s, .slice (f i).A (f i).n (f i).c] ∧ Fits w (f i) := by
      refine ⟨fun i => if h : i < m then (each i h).choose else ⟨⟨0, 0, ⟨#[]⟩, []⟩, none, 0, 0⟩, fun i hi => ?_⟩
      simp only [dif_pos hi]
      exact (each i hi).choose_spec
    obtain ⟨f, hf⟩ := hex
    refine ⟨some a, len, cap, (List.range len).map f, rfl, ⟨by simp, fun h0 => ?_, fun x hx => ?_⟩, hl, hm⟩
    · have c4 : ∀ i, i < m → w.cell? ((a.add (i * 4)).add 0) = some (.int .i64 (f i).v.op) ∧ w.cell? ((a.add (i * 4)).add 1) = some (.int .i64 (f i).v.i) ∧ w.cell? ((a.add (i * 4)).add 2) = some (.string (f i).v.s) ∧ w.cell? ((a.add (i * 4)).add 3) = some (.slice (f i).A (f i).n (f i).c) := by
        intro i hi
        have h1 := (hf i hi).1
        unfold World.cells? at h1
        split at h1
        · rw [show List.range 4 = [0, 1, 2, 3] from rfl] at h1
          simp [Option.bind_eq_some_iff] at h1
          exact h1
        · cases h1
      obtain ⟨b, off, spot⟩ := a
      have hspot : spot = none := by
        have := World.cell?_spot (c4 0 (by omega)).1
        simpa [Addr.add] using this
      subst hspot
      have hbW : b < w.heap.size := hlt (.cell b off) (List.mem_append_left _ (MemPlace.mem_row.2 ⟨0, by omega, by simp⟩))
      refine ⟨b, off, rfl, hbW, fun i hi => ?_⟩
      have hi' : i < len := by simpa using hi
      obtain ⟨c0, c1, c2, c3⟩ := c4 i (by omega)
      simp only [add_plain, List.getElem_map, List.getElem_range] at c0 c1 c2 c3 ⊢
      exact ⟨c0, c1, c2, c3⟩
    · obtain ⟨i, hi, rfl⟩ := List.mem_map.1 hx
      exact (hf i (by have := List.mem_range.1 hi; omega)).2
end Go.Proofs.Ytdedbbbgpjhjhac.Dv
