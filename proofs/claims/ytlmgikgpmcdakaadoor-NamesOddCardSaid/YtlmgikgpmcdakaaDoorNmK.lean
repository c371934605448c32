/- What the listed variables give the walks, and a world that has them. -/
import Derived.Test.YtlmgikgpmcdakaaDoorNmJ
import Derived.Test.YtlmgikgpmcdakaaDoorCards
import Derived.Test.YtlmgikgpmcdakaaDoorTie
import Derived.ProofKit
import Derived.OpenShut
import Derived.Deep.DeepHandedRow
import Derived.Deep.DeepWitnessRowRef
import Derived.Deep.DeepLaidRun
import Derived.Lib.LaidTab
import Derived.Lib.LaidU8
import Derived.LaidMore
import Derived.Stop.LaidErr
import Derived.Stop.Joined
namespace Go.Proofs.YtlmgikgpmcdakaaDoor.Nm
open Go.RowKit Go.Proofs.YtlmgikgpmcdakaaDoor.Mem

def tz64 : List Int := [0, 1, 56, 2, 57, 49, 28, 3, 61, 58, 42, 50, 38, 29, 17, 4, 62, 47, 59, 36, 45, 43, 51, 22, 53, 39, 33, 30, 24, 18, 12, 5, 63, 55, 48, 27, 60, 41, 37, 16, 46, 35, 44, 21, 52, 32, 23, 11, 54, 26, 40, 15, 34, 20, 31, 10, 25, 14, 19, 9, 13, 8, 7, 6]
theorem tz_of {W : World} (h : laidMet Tryd.prog Rows.namesSplitRow.laid W) : W.cell? ⟨7, 15, none⟩ = some (.int .u8 4) := by
  have hT := Lib.tabIs_of_head (k := .u8) (zs := tz64) (g := 7) (h := h.tail) (by kernel_rfl) (by kernel_rfl) Tryd.underlying123 Tryd.underlying5 (by kernel_rfl) (by kernel_rfl)
  exact hT.cell (by kernel_rfl) 15 (by decide)
theorem iface_cell {P : Program} {n nm : String} {d : DataW Unit} {r : List (String × DataW Unit)} {W : World} {g : Nat} {ti : TypeId} {ms : Array (String × TypeId)}
    (h : laidMet P ((n, .iface nm d) :: r) W) (hg : P.globalNamed n = some g) (ht : (P.globals[g]?).map (·.type) = some ti) (hi : P.underlying ti = some (.interface ms)) :
    ∃ ev, W.cell? ⟨g, 0, none⟩ = some ev ∧ (ev = .nilIface ∨ ∃ te pe, ev = .iface te pe) := by
  obtain ⟨ps, ⟨g0, t0, cs0, f0, p0, q0, hg0, ht0, hv0, hd0, _, e0⟩, _, hrows⟩ := h
  obtain rfl := Option.some.inj (hg.symm.trans hg0)
  obtain rfl := Option.some.inj (ht.symm.trans ht0)
  obtain ⟨l0⟩ := cs0
  obtain ⟨f, u, v, e, _, _⟩ := iface_of_trod hi hd0
  have hc := World.var?_cell hg0 hv0 0
  refine ⟨.iface u v, ?_, .inr ⟨u, v, rfl⟩⟩
  rw [hc]
  simp only at e
  rw [e]
  rfl
theorem tabs_of {W : World} (h : laidMet Tryd.prog Rows.namesSplitRow.laid W) (hsh : W.ShapedOpen Tryd.prog) : Tabs W := by
  have htz := tz_of h
  obtain ⟨m, hm⟩ := Tryd.laysM146.s1_3 W hsh
  have hb := htz
  refine ⟨⟨m, hm⟩, htz, iface_cell (g := 2) h.tail.tail.tail.tail.tail (by kernel_rfl) (by kernel_rfl) Tryd.underlying66, iface_cell (g := 3) h.tail.tail.tail.tail (by kernel_rfl) (by kernel_rfl) Tryd.underlying66, ?_⟩
  by_cases hlt : 8 ≤ W.heap.size
  · exact hlt
  · exfalso
    have : W.heap[7]? = none := Array.getElem?_eq_none (by omega)
    simp [World.cell?, this] at hb
noncomputable def laidWorld (os : Os) : World :=
  { World.doorLaid Tryd.prog 200 os with heap := (World.doorLaid Tryd.prog 200 os).heap.modify 4 fun
      | .cells _ t fz => .cells (Lib.firstTab.map fun z => Value.int .u8 z).toArray t fz
      | o => o }
theorem laid_met (os : Os) (args : Array Value) : laidMet Tryd.prog Rows.namesSplitRow.laid ((laidWorld os).forCall (fun _ _ => 0) ⟨#[], args, []⟩).memory :=
  laidMet_of_run3 10 (by kernel_rfl) (by kernel_rfl) (by kernel_rfl)
end Go.Proofs.YtlmgikgpmcdakaaDoor.Nm
