/- The listed tables of the story, and a world that has them. -/
import Derived.Test.YtdbmnnmcelaehaaDoorSrG
import Derived.Test.YtdbmnnmcelaehaaDoorCards
import Derived.Test.YtdbmnnmcelaehaaDoorTie
import Derived.ProofKit
import Derived.OpenShut
import Derived.ChangeShapes
import Derived.WideShapes
import Derived.Deep.Slices
import Derived.Deep.DeepHandedRow
import Derived.Deep.DeepWitnessRowRef
import Derived.Deep.DeepLaidRun
import Derived.Lib.LaidTab
import Derived.Lib.LaidU8
import Derived.LaidMore
import Derived.Stop.LaidErr
import Derived.Stop.Joined
namespace Go.Proofs.YtdbmnnmcelaehaaDoor.Sr
open Go.ChangeShapes Go.WideShapes Go.ChangeAt Go.RowKit Go.Proofs.YtdbmnnmcelaehaaDoor.Tx
set_option linter.unusedVariables false
set_option maxRecDepth 100000

abbrev Tabs (w : World) : Prop := Tx.Tabs w
theorem tabs_of {W : World} (h : laidMet Tryd.prog Rows.storyTextRow.laid W) (hsh : W.ShapedOpen Tryd.prog) : Tabs W := by
  have h1 : laidMet Tryd.prog [("math/bits.deBruijn64tab", Rows.laid_math_bits_deBruijn64tab), ("internal/strconv.uint64pow10", Rows.laid_internal_strconv_uint64pow10)] W := laidMet.tail h
  have h2 := laidMet.tail h1
  have hT : Lib.TabIs Tryd.prog W "internal/strconv.uint64pow10" .u64 Lib.pow10Tab := Lib.tabIs_of_head (k := .u64) (zs := Lib.pow10Tab) (g := 0) (h := h2) (by kernel_rfl) (by kernel_rfl) Tryd.underlying117 Tryd.underlying54 (by kernel_rfl) (by kernel_rfl)
  refine ⟨hT, ?_⟩
  have hb := hT.cell (g := 0) (by kernel_rfl) 0 (by decide)
  by_cases hlt : 1 ≤ W.heap.size
  · exact hlt
  · exfalso
    have e : W.heap[0]? = none := Array.getElem?_eq_none (by omega)
    simp [World.cell?, e] at hb
noncomputable def laidWorld (os : Os) : World := World.doorLaid Tryd.prog 200 os
theorem laid_met (os : Os) (args : Array Value) : laidMet Tryd.prog Rows.storyTextRow.laid ((laidWorld os).forCall (fun _ _ => 0) ⟨#[], args, []⟩).memory :=
  laidMet_of_run3 10 (by kernel_rfl) (by kernel_rfl) (by kernel_rfl)
end Go.Proofs.YtdbmnnmcelaehaaDoor.Sr
