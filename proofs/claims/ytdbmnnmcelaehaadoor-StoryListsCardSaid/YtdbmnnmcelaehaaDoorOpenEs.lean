/- A row of events, opened. -/
import Derived.Test.YtdbmnnmcelaehaaDoorOpenE
namespace Go.Proofs.YtdbmnnmcelaehaaDoor.Fc
open Go.ChangeShapes Go.WideShapes Go.ChangeAt Go.RowKit Go.Proofs.YtdbmnnmcelaehaaDoor.Mem
set_option linter.unusedVariables false

set_option maxRecDepth 100000 in
theorem open_events {H : Type} {enc : TypeId × Value → H} {w : World} {base b0 : Nat} {r : Reach} {spare : Nat → Bool} {held : Bool} {v : Value} {d : DataW H} {ps : List MemPlace}
    (hv : Value.okWide Tryd.prog w r b0 38 v) (h : DataW.Trod enc Tryd.prog w base spare held 38 v d ps) (hlt : ∀ x ∈ ps, x.block < w.heap.size) :
    ∃ A n cap xs, v = .slice A n cap ∧ SRow w 21 eventC A n xs ∧ (∀ y ∈ xs, EventFit w y) ∧ n ≤ cap ∧ cap ≤ maxLen := by
  obtain ⟨a0, len, cap, rfl⟩ := okWide_slice Tryd.underlying38 hv
  obtain ⟨fuel, hf⟩ := h
  obtain ⟨A, n, c, xs, hcs, h1, h2, h3, h4, _⟩ := open_row (K := Rows.uptoBulk d) (f := eventC) (Fit := fun y => EventFit w y ∧ BndS (Rows.uptoBulk d) y.d) Tryd.underlying38 cells_event (by decide) (fun y => rfl) (fun ht hl hK => event_cells ht hl hK) hf hlt (Nat.le_refl _)
  simp [Value.cells] at hcs
  obtain ⟨rfl, rfl, rfl⟩ := hcs
  exact ⟨_, _, _, xs, rfl, h1, fun y hy => (h2 y hy).1, h3, h4⟩
set_option maxRecDepth 100000 in
theorem open_stampE {H : Type} {enc : TypeId × Value → H} {w : World} {base b0 : Nat} {r : Reach} {spare : Nat → Bool} {held : Bool} {v : Value} {d : DataW H} {ps : List MemPlace}
    (hv : Value.okWide Tryd.prog w r b0 23 v) (h : DataW.Trod enc Tryd.prog w base spare held 23 v d ps) (hlt : ∀ x ∈ ps, x.block < w.heap.size) : ∃ k : Int × Int, v = .agg #[.int .i64 k.1, .int .i64 k.2] ∧ fitS k := by
  obtain ⟨xs, rfl⟩ := okWide_str Tryd.underlying23 hv
  obtain ⟨fuel, hf⟩ := h
  obtain ⟨y, hy, ws⟩ := st_cells hf hlt (Nat.le_refl _)
  refine ⟨y, ?_, ws⟩
  have h2 : xs.toList = _ := hy
  congr 1
  exact Array.toList_inj.1 h2
end Go.Proofs.YtdbmnnmcelaehaaDoor.Fc
