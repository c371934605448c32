/- Vectors: the document's own Later and Has; a vector by which an event is known, too. -/
import Derived.Test.YtfjmcklmoebnaaaDoorVcF
namespace Go.Proofs.YtfjmcklmoebnaaaDoor.Vc
open Go.RowKit Go.Proofs.YtfjmcklmoebnaaaDoor.Mem


def withV (x : Nat → Int) (t w : Int) : Nat → Int := if isB t w then upd x w.toNat (if x w.toNat < t then t else x w.toNat) else x
end Go.Proofs.YtfjmcklmoebnaaaDoor.Vc
