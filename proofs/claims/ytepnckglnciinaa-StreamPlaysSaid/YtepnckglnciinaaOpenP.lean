/- Parts and changes, and rows of such, opened. -/
import Derived.Test.YtepnckglnciinaaSmP
import Derived.ProofKit
import Derived.OpenShut
import Derived.ChangeShapes
import Derived.WideShapes
import Derived.Deep.Slices
namespace Go.Proofs.Ytepnckglnciinaa.Sm
open Go.ChangeShapes Go.WideShapes Go.ChangeAt Go.RowKit
set_option linter.unusedVariables false
set_option maxRecDepth 100000

theorem cells_i : Try.prog.cellsOf 3 = 1 := by kernel_rfl
theorem cells_s : Try.prog.cellsOf 9 = 1 := by kernel_rfl
theorem cells_b : Try.prog.cellsOf 4 = 1 := by kernel_rfl
theorem okWide_strN {P : Program} {W : World} {r : Reach} {b0 : Nat} {t : TypeId} {fs : Array Field} {v : Value} (ht : P.underlying t = some (.struct fs)) (h : Value.okWide P W r b0 t v) : ∃ xs : Array Value, v = .agg xs := by
  simp only [Value.okWide, ht] at h
  cases v <;> simp_all
theorem cells_range {w : World} {base : Nat} {a : Addr} {k : Nat} {cs : List Value} (h : w.cells? base a k = some cs) : cs.length = k ∧ ∀ j v, cs[j]? = some v → w.cell? (a.add j) = some v := by
  obtain ⟨_, hl, hx⟩ := World.cells?_some h
  refine ⟨hl, fun j v hv => ?_⟩
  have hj : j < k := by rw [← hl]; exact (List.getElem?_eq_some_iff.1 hv).1
  rw [hx j hj]
  exact hv
theorem cells_pt : Try.prog.cellsOf 42 = 2 := by kernel_rfl
def Fit_pt (y : PtP) : Prop := y.s.size ≤ maxLen ∧ (Lit.int .i64 y.i).wf = true
set_option maxRecDepth 100000 in
theorem pt_cells {H : Type} {enc : TypeId × Value → H} {w : World} {base : Nat} {spare : Nat → Bool} {held : Bool} {fuel : Nat} {cs : List Value} {x : DataW H × List MemPlace} (h : DataW.trod enc Try.prog w base spare held fuel 42 cs = some x) : ∃ y : PtP, cs = (ptC y).toList ∧ Fit_pt y := by
  obtain ⟨xs, n, _, rfl, hlen, hxs, hf⟩ := DataW.trod_struct Try.underlying42 h
  rw [cells_pt] at hlen
  have hx : xs.length = 2 := hxs
  match cs, hlen with
  | [v0, v1], _ =>
    match xs, hx with
    | [x0, x1], _ =>
      have t0 : DataW.trod enc Try.prog w base spare held n 3 (([v0, v1].drop 0).take (Try.prog.cellsOf 3)) = some x0 := hf 0 _ rfl
      rw [cells_i] at t0
      have t1 : DataW.trod enc Try.prog w base spare held n 9 (([v0, v1].drop 1).take (Try.prog.cellsOf 9)) = some x1 := hf 1 _ rfl
      rw [cells_s] at t1
      obtain ⟨z0, e0, _, w0⟩ := DataW.trod_int Try.underlying3 t0
      simp at e0
      subst e0
      obtain ⟨z1, e1, _, w1⟩ := DataW.trod_string Try.underlying9 t1
      simp at e1
      subst e1
      exact ⟨⟨z0, z1⟩, rfl, w1, w0⟩
theorem open_pt {H : Type} {enc : TypeId × Value → H} {w : World} {base b0 : Nat} {r : Reach} {spare : Nat → Bool} {held : Bool} {v : Value} {d : DataW H} {ps : List MemPlace}
    (hv : Value.okWide Try.prog w r b0 42 v) (h : DataW.Trod enc Try.prog w base spare held 42 v d ps) : ∃ y : PtP, v = .agg (ptC y) ∧ Fit_pt y := by
  obtain ⟨xs, rfl⟩ := okWide_strN Try.underlying42 hv
  obtain ⟨fuel, hf⟩ := h
  obtain ⟨y, hy, ws⟩ := pt_cells hf
  refine ⟨y, ?_, ws⟩
  have h2 : xs.toList = _ := hy
  congr 1
  exact Array.toList_inj.1 h2
set_option maxRecDepth 100000 in
theorem open_pts {H : Type} {enc : TypeId × Value → H} {w : World} {base b0 : Nat} {r : Reach} {spare : Nat → Bool} {held : Bool} {v : Value} {d : DataW H} {ps : List MemPlace}
    (hv : Value.okWide Try.prog w r b0 32 v) (h : DataW.Trod enc Try.prog w base spare held 32 v d ps) (hlt : ∀ x ∈ ps, x.block < w.heap.size) :
    ∃ A n cap xs, v = .slice A n cap ∧ PRow w A n xs ∧ (∀ y ∈ xs, Fit_pt y) ∧ n ≤ cap ∧ cap ≤ maxLen := by
  obtain ⟨a0, len, cap, rfl⟩ := okWide_slice Try.underlying32 hv
  obtain ⟨fuel, hf⟩ := h
  rcases Deep.open_slice Try.underlying32 hf with ⟨hcs, hx⟩ | ⟨a, len', cap', m, n, D, Pl, hcs, _, hl, hm, hmm, hx, hcell⟩
  · simp [Value.cells] at hcs
    obtain ⟨rfl, rfl, rfl⟩ := hcs
    exact ⟨none, 0, 0, [], rfl, ⟨rfl, fun i d hd => by simp at hd⟩, fun y hy => by simp at hy, Nat.le_refl _, Nat.zero_le _⟩
  · simp [Value.cells] at hcs
    obtain ⟨rfl, rfl, rfl⟩ := hcs
    simp only [Prod.mk.injEq] at hx
    obtain ⟨rfl, rfl⟩ := hx
    rw [cells_pt] at hcell hlt
    have hle : len ≤ m := by rw [hmm]; split <;> omega
    have each : ∀ i, i < m → ∃ y : PtP, w.cells? base (a.add (i * 2)) 2 = some (ptC y).toList ∧ Fit_pt y := by
      intro i hi
      obtain ⟨cs', hc, ht⟩ := hcell i hi
      obtain ⟨y, rfl, hfit⟩ := pt_cells ht
      exact ⟨y, hc, hfit⟩
    have hex : ∃ f : Nat → PtP, ∀ i, i < m → w.cells? base (a.add (i * 2)) 2 = some (ptC (f i)).toList ∧ Fit_pt (f i) := by
      refine ⟨fun i => if h : i < m then (each i h).choose else ⟨0, ⟨#[]⟩⟩, fun i hi => ?_⟩
      simp only [dif_pos hi]
      exact (each i hi).choose_spec
    obtain ⟨f, hf⟩ := hex
    refine ⟨some a, len, cap, (List.range len).map f, rfl, ⟨by simp, fun i d hd => ?_⟩, fun y hy => ?_, hl, hm⟩
    · have hi : i < len := by have := (List.getElem?_eq_some_iff.1 hd).1; simpa using this
      have he : d = f i := by
        rw [List.getElem?_map, List.getElem?_range hi] at hd
        exact (Option.some.inj hd).symm
      subst he
      obtain ⟨h1, h2⟩ := hf i (by omega)
      obtain ⟨_, hr⟩ := cells_range h1
      obtain ⟨b, off, spot⟩ := a
      have hspot : spot = none := by
        have h5 := World.cell?_spot ((cells_range (hf 0 (by omega)).1).2 0 _ rfl)
        simpa [Addr.add] using h5
      subst hspot
      have hbW : b < w.heap.size := hlt (.cell b off) (List.mem_append_left _ (MemPlace.mem_row.2 ⟨0, by omega, by simp⟩))
      refine ⟨b, off, rfl, hbW, fun j v hv => ?_⟩
      have := hr j v hv
      simpa only [add_plain] using this
    · obtain ⟨i, hi, rfl⟩ := List.mem_map.1 hy
      exact (hf i (by have := List.mem_range.1 hi; omega)).2
theorem cells_ch : Try.prog.cellsOf 53 = 3 := by kernel_rfl
def Fit_ch (y : ChgP) : Prop := y.key.size ≤ maxLen ∧ y.val.size ≤ maxLen
set_option maxRecDepth 100000 in
theorem ch_cells {H : Type} {enc : TypeId × Value → H} {w : World} {base : Nat} {spare : Nat → Bool} {held : Bool} {fuel : Nat} {cs : List Value} {x : DataW H × List MemPlace} (h : DataW.trod enc Try.prog w base spare held fuel 53 cs = some x) : ∃ y : ChgP, cs = (chC y).toList ∧ Fit_ch y := by
  obtain ⟨xs, n, _, rfl, hlen, hxs, hf⟩ := DataW.trod_struct Try.underlying53 h
  rw [cells_ch] at hlen
  have hx : xs.length = 3 := hxs
  match cs, hlen with
  | [v0, v1, v2], _ =>
    match xs, hx with
    | [x0, x1, x2], _ =>
      have t0 : DataW.trod enc Try.prog w base spare held n 9 (([v0, v1, v2].drop 0).take (Try.prog.cellsOf 9)) = some x0 := hf 0 _ rfl
      rw [cells_s] at t0
      have t1 : DataW.trod enc Try.prog w base spare held n 9 (([v0, v1, v2].drop 1).take (Try.prog.cellsOf 9)) = some x1 := hf 1 _ rfl
      rw [cells_s] at t1
      have t2 : DataW.trod enc Try.prog w base spare held n 4 (([v0, v1, v2].drop 2).take (Try.prog.cellsOf 4)) = some x2 := hf 2 _ rfl
      rw [cells_b] at t2
      obtain ⟨z0, e0, _, w0⟩ := DataW.trod_string Try.underlying9 t0
      simp at e0
      subst e0
      obtain ⟨z1, e1, _, w1⟩ := DataW.trod_string Try.underlying9 t1
      simp at e1
      subst e1
      obtain ⟨z2, e2, _⟩ := DataW.trod_bool Try.underlying4 t2
      simp at e2
      subst e2
      exact ⟨⟨z0, z1, z2⟩, rfl, w0, w1⟩
theorem open_ch {H : Type} {enc : TypeId × Value → H} {w : World} {base b0 : Nat} {r : Reach} {spare : Nat → Bool} {held : Bool} {v : Value} {d : DataW H} {ps : List MemPlace}
    (hv : Value.okWide Try.prog w r b0 53 v) (h : DataW.Trod enc Try.prog w base spare held 53 v d ps) : ∃ y : ChgP, v = .agg (chC y) ∧ Fit_ch y := by
  obtain ⟨xs, rfl⟩ := okWide_strN Try.underlying53 hv
  obtain ⟨fuel, hf⟩ := h
  obtain ⟨y, hy, ws⟩ := ch_cells hf
  refine ⟨y, ?_, ws⟩
  have h2 : xs.toList = _ := hy
  congr 1
  exact Array.toList_inj.1 h2
set_option maxRecDepth 100000 in
theorem open_chs {H : Type} {enc : TypeId × Value → H} {w : World} {base b0 : Nat} {r : Reach} {spare : Nat → Bool} {held : Bool} {v : Value} {d : DataW H} {ps : List MemPlace}
    (hv : Value.okWide Try.prog w r b0 22 v) (h : DataW.Trod enc Try.prog w base spare held 22 v d ps) (hlt : ∀ x ∈ ps, x.block < w.heap.size) :
    ∃ A n cap xs, v = .slice A n cap ∧ CRow w A n xs ∧ (∀ y ∈ xs, Fit_ch y) ∧ n ≤ cap ∧ cap ≤ maxLen := by
  obtain ⟨a0, len, cap, rfl⟩ := okWide_slice Try.underlying22 hv
  obtain ⟨fuel, hf⟩ := h
  rcases Deep.open_slice Try.underlying22 hf with ⟨hcs, hx⟩ | ⟨a, len', cap', m, n, D, Pl, hcs, _, hl, hm, hmm, hx, hcell⟩
  · simp [Value.cells] at hcs
    obtain ⟨rfl, rfl, rfl⟩ := hcs
    exact ⟨none, 0, 0, [], rfl, ⟨rfl, fun i d hd => by simp at hd⟩, fun y hy => by simp at hy, Nat.le_refl _, Nat.zero_le _⟩
  · simp [Value.cells] at hcs
    obtain ⟨rfl, rfl, rfl⟩ := hcs
    simp only [Prod.mk.injEq] at hx
    obtain ⟨rfl, rfl⟩ := hx
    rw [cells_ch] at hcell hlt
    have hle : len ≤ m := by rw [hmm]; split <;> omega
    have each : ∀ i, i < m → ∃ y : ChgP, w.cells? base (a.add (i * 3)) 3 = some (chC y).toList ∧ Fit_ch y := by
      intro i hi
      obtain ⟨cs', hc, ht⟩ := hcell i hi
      obtain ⟨y, rfl, hfit⟩ := ch_cells ht
      exact ⟨y, hc, hfit⟩
    have hex : ∃ f : Nat → ChgP, ∀ i, i < m → w.cells? base (a.add (i * 3)) 3 = some (chC (f i)).toList ∧ Fit_ch (f i) := by
      refine ⟨fun i => if h : i < m then (each i h).choose else ch0, fun i hi => ?_⟩
      simp only [dif_pos hi]
      exact (each i hi).choose_spec
    obtain ⟨f, hf⟩ := hex
    refine ⟨some a, len, cap, (List.range len).map f, rfl, ⟨by simp, fun i d hd => ?_⟩, fun y hy => ?_, hl, hm⟩
    · have hi : i < len := by have := (List.getElem?_eq_some_iff.1 hd).1; simpa using this
      have he : d = f i := by
        rw [List.getElem?_map, List.getElem?_range hi] at hd
        exact (Option.some.inj hd).symm
      subst he
      obtain ⟨h1, h2⟩ := hf i (by omega)
      obtain ⟨_, hr⟩ := cells_range h1
      obtain ⟨b, off, spot⟩ := a
      have hspot : spot = none := by
        have h5 := World.cell?_spot ((cells_range (hf 0 (by omega)).1).2 0 _ rfl)
        simpa [Addr.add] using h5
      subst hspot
      have hbW : b < w.heap.size := hlt (.cell b off) (List.mem_append_left _ (MemPlace.mem_row.2 ⟨0, by omega, by simp⟩))
      refine ⟨b, off, rfl, hbW, fun j v hv => ?_⟩
      have := hr j v hv
      simpa only [add_plain] using this
    · obtain ⟨i, hi, rfl⟩ := List.mem_map.1 hy
      exact (hf i (by have := List.mem_range.1 hi; omega)).2
end Go.Proofs.Ytepnckglnciinaa.Sm
