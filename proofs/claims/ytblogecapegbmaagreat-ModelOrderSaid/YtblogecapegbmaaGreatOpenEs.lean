/- A row of events, opened. -/
import Derived.Test.YtblogecapegbmaaGreatOpenE
namespace Go.Proofs.YtblogecapegbmaaGreat.Fc
open Go.ChangeShapes Go.WideShapes Go.ChangeAt Go.RowKit Go.Proofs.YtblogecapegbmaaGreat.Mem
set_option linter.unusedVariables false

set_option maxRecDepth 100000 in
theorem open_events {H : Type} {enc : TypeId × Value → H} {w : World} {base b0 : Nat} {r : Reach} {spare : Nat → Bool} {held : Bool} {v : Value} {d : DataW H} {ps : List MemPlace}
    (hv : Value.okWide Tryz.prog w r b0 56 v) (h : DataW.Trod enc Tryz.prog w base spare held 56 v d ps) (hlt : ∀ x ∈ ps, x.block < w.heap.size) :
    ∃ A n cap xs, v = .slice A n cap ∧ SRow w 21 eventC A n xs ∧ (∀ y ∈ xs, EventFit w y) ∧ n ≤ cap ∧ cap ≤ maxLen := by
  obtain ⟨a0, len, cap, rfl⟩ := okWide_slice Tryz.underlying56 hv
  obtain ⟨fuel, hf⟩ := h
  obtain ⟨A, n, c, xs, hcs, h1, h2, h3, h4, _⟩ := open_row (K := Rows.uptoBulk d) (f := eventC) (Fit := fun y => EventFit w y ∧ BndS (Rows.uptoBulk d) y.d) Tryz.underlying56 cells_event (by decide) (fun y => rfl) (fun ht hl hK => event_cells ht hl hK) hf hlt (Nat.le_refl _)
  simp [Value.cells] at hcs
  obtain ⟨rfl, rfl, rfl⟩ := hcs
  exact ⟨_, _, _, xs, rfl, h1, fun y hy => (h2 y hy).1, h3, h4⟩
set_option maxRecDepth 100000 in
theorem open_eventsN {H : Type} {enc : TypeId × Value → H} {w : World} {base b0 : Nat} {r : Reach} {spare : Nat → Bool} {held : Bool} {v : Value} {d : DataW H} {ps : List MemPlace}
    (hv : Value.okWide Tryz.prog w r b0 56 v) (h : DataW.Trod enc Tryz.prog w base spare held 56 v d ps) (hlt : ∀ x ∈ ps, x.block < w.heap.size) :
    ∃ A n cap xs, v = .slice A n cap ∧ SRow w 21 eventC A n xs ∧ (∀ y ∈ xs, EventFit w y ∧ NilS y.d) ∧ (A = none → n = 0 ∧ cap = 0) ∧ n ≤ cap ∧ cap ≤ maxLen := by
  obtain ⟨a0, len, cap, rfl⟩ := okWide_slice Tryz.underlying56 hv
  obtain ⟨fuel, hf⟩ := h
  obtain ⟨A, n, c, xs, hcs, h1, h2, h3, h4, _, h5⟩ := open_row (K := Rows.uptoBulk d) (f := eventC) (Fit := fun y => EventFit w y ∧ BndS (Rows.uptoBulk d) y.d ∧ NilS y.d) Tryz.underlying56 cells_event (by decide) (fun y => rfl) (fun ht hl hK => event_cellsN ht hl hK) hf hlt (Nat.le_refl _)
  simp [Value.cells] at hcs
  obtain ⟨rfl, rfl, rfl⟩ := hcs
  exact ⟨_, _, _, xs, rfl, h1, fun y hy => ⟨(h2 y hy).1, (h2 y hy).2.2⟩, h5, h3, h4⟩
set_option maxRecDepth 100000 in
theorem open_stampE {H : Type} {enc : TypeId × Value → H} {w : World} {base b0 : Nat} {r : Reach} {spare : Nat → Bool} {held : Bool} {v : Value} {d : DataW H} {ps : List MemPlace}
    (hv : Value.okWide Tryz.prog w r b0 37 v) (h : DataW.Trod enc Tryz.prog w base spare held 37 v d ps) (hlt : ∀ x ∈ ps, x.block < w.heap.size) : ∃ k : Int × Int, v = .agg #[.int .i64 k.1, .int .i64 k.2] ∧ fitS k := by
  obtain ⟨xs, rfl⟩ := okWide_str Tryz.underlying37 hv
  obtain ⟨fuel, hf⟩ := h
  obtain ⟨y, hy, ws⟩ := st_cells hf hlt (Nat.le_refl _)
  refine ⟨y, ?_, ws⟩
  have h2 : xs.toList = _ := hy
  congr 1
  exact Array.toList_inj.1 h2
set_option maxRecDepth 100000 in
theorem open_vecE {H : Type} {enc : TypeId × Value → H} {w : World} {base b0 : Nat} {r : Reach} {spare : Nat → Bool} {held : Bool} {v : Value} {d : DataW H} {ps : List MemPlace}
    (hv : Value.okWide Tryz.prog w r b0 23 v) (h : DataW.Trod enc Tryz.prog w base spare held 23 v d ps) : ∃ k : Nat → Int, v = .agg (Go.Proofs.YtblogecapegbmaaGreat.Vc.vecC k) := by
  obtain ⟨xs, rfl⟩ : ∃ xs : Array Value, v = .agg xs := by
    have ht := Tryz.underlying23
    simp only [Value.okWide, ht] at hv
    cases v <;> simp_all
  obtain ⟨fuel, hf⟩ := h
  obtain ⟨y, hy, _⟩ := vec_cells hf
  refine ⟨y, ?_⟩
  have h2 : xs.toList = _ := hy
  congr 1
  exact Array.toList_inj.1 h2
end Go.Proofs.YtblogecapegbmaaGreat.Fc
