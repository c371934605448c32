/- Stamps and vectors: their values, what is known of one, and whether one is an event's. -/
import Derived.Test.YtfjmcklmoebnaaaDoorMem
import Derived.Test.YtfjmcklmoebnaaaDoorReg
import Derived.Laws.StructEq
import Derived.ChangeKeysEq
import Derived.Deep.RegionHeld3
import Derived.BigRegion
import Derived.Deep.QuietTactic
import Derived.BigQuiet
import Derived.Tactics2
import Derived.KernelRfl
namespace Go.Proofs.YtfjmcklmoebnaaaDoor.Vc
open Go.RowKit Go.Proofs.YtfjmcklmoebnaaaDoor.Mem

def stC (t w : Int) : Array Value := #[.int .i64 t, .int .i64 w]
def vecC (x : Nat → Int) : Array Value := #[.int .i64 (x 0), .int .i64 (x 1), .int .i64 (x 2), .int .i64 (x 3), .int .i64 (x 4), .int .i64 (x 5), .int .i64 (x 6), .int .i64 (x 7)]

/-- Is a stamp an event's? -/
def isB (t w : Int) : Bool := decide (1 ≤ t) && decide (t ≤ 1099511627776) && decide (0 ≤ w) && decide (w < 8)
/-- Is a number a replica's? -/
def whoB (w : Int) : Bool := decide (0 ≤ w) && decide (w < 8)
/-- Does one stand ahead of another one? -/
def lessB (a b c d : Int) : Bool := decide (a < c) || (decide (a = c) && decide (b < d))
theorem isB_iff {t w : Int} : isB t w = true ↔ (1 ≤ t ∧ t ≤ 1099511627776) ∧ 0 ≤ w ∧ w < 8 := by
  unfold isB
  simp [and_assoc]
theorem lessB_iff {a b c d : Int} : lessB a b c d = true ↔ a < c ∨ a = c ∧ b < d := by
  unfold lessB
  simp


end Go.Proofs.YtfjmcklmoebnaaaDoor.Vc
