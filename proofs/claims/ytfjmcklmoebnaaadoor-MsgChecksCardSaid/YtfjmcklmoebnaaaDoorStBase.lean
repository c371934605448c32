/- What the layers above octet take of it: rows as slices; what a looking leaves; the two words for memory as one. -/
import Derived.Test.YtfjmcklmoebnaaaDoorOctPut
import Derived.Test.YtfjmcklmoebnaaaDoorOctGot
import Derived.Test.YtfjmcklmoebnaaaDoorMem
import Derived.Lib.SliceRun
import Derived.Lib.AppendStr
namespace Go.Proofs.YtfjmcklmoebnaaaDoor.Oct
open Go.RowKit

theorem Owns.slice {w : World} {B : Nat} {v : Value} {l : List UInt8} (h : Owns w B v l) : ∃ A cap, v = .slice A l.length cap ∧ (A = none → l.length = 0 ∧ cap = 0) := by
  rcases h.2 with ⟨e, e0⟩ | ⟨g, c, cur, e, _⟩
  · exact ⟨none, 0, by rw [e, e0], fun _ => ⟨e0, rfl⟩⟩
  · exact ⟨_, c, e, fun k => by cases k⟩
theorem look_below {w w1 w' : World} {l : List UInt8} {X : Nat → Prop} {B : Nat} (h1 : Chg (fun k => k = w.heap.size + 1 ∨ X k) (lookW w l) w1) (h2 : Chg (fun k => k = w.heap.size + 1 ∨ k = w.heap.size) w1 w') (hB : B ≤ w.heap.size) (hX : ∀ k, k < B → ¬ X k) : Below B w w' := by
  have hs := h1.size
  rw [lookW_size] at hs
  refine ((lookW_below w l).mono hB).trans ((h1.below (B := B) (by rw [lookW_size]; omega) fun k hk => ?_).trans (h2.below (B := B) (by omega) fun k hk => by omega))
  rintro (e | e)
  · omega
  · exact hX k hk e
theorem Chg.to {S : Nat → Prop} {w w' : World} (h : Chg S w w') : Mem.Chg S w w' := ⟨h.os, h.tape, h.output, h.size, h.block⟩
theorem Chg.of {S : Nat → Prop} {w w' : World} (h : Mem.Chg S w w') : Chg S w w' := ⟨h.os, h.tape, h.output, h.size, h.block⟩
end Go.Proofs.YtfjmcklmoebnaaaDoor.Oct
