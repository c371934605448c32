/- Opening a sealed text, and the package's example. -/
import Derived.Test.YtkbpjegegjgbkaaGreatCrcSeal
import Derived.Deep.RegionWith
import Derived.BigQuiet
import Derived.IntWalk
namespace Go.Proofs.YtkbpjegegjgbkaaGreat.CrcW
open Go.RowKit
open Go.Proofs.YtkbpjegegjgbkaaGreat.CrcM

theorem sealB_size (s : ByteArray) : (sealB s).size = s.size + 8 := by
  unfold sealB
  rw [ByteArray.size_append, strOfNums_size]
  simp [le8]

/-- What stands ahead of the last eight bytes. -/
def headB (s : ByteArray) : ByteArray := s.extract 0 (s.size - 8)
def openB (s : ByteArray) : Bool := (sealB (headB s)).toList == s.toList
theorem headB_size (s : ByteArray) : (s.extract 0 (s.size - 8)).size = s.size - 8 := by simp

theorem open_short (s : ByteArray) (h : s.size < 8) (w : World) :
    Calls Tryz.prog 98 #[.string s] w fun e w' => e = .returned (.tuple #[.string ⟨#[]⟩, .bool false]) ∧ w = w' := by
  go_enter Tryz.func98, Tryz.ntmps98
  go_wp2
  go_ret2
  exact ⟨rfl, rfl⟩
set_option maxHeartbeats 400000 in
theorem open_long (s : ByteArray) (h : 8 ≤ s.size) (hs : s.size ≤ 4104) (w : World) :
    Calls Tryz.prog 98 #[.string s] w fun e w' => e = .returned (.tuple #[.string (headB s), .bool (openB s)]) ∧ Below w.heap.size w w' := by
  go_enter Tryz.func98, Tryz.ntmps98
  go_wp2_with (go_at_call 70; refine (seal_any _ (by simp; omega) _).mono ?_; rintro e w' ⟨rfl, hb⟩)
  go_ret2
  exact ⟨rfl, hb⟩
end Go.Proofs.YtkbpjegegjgbkaaGreat.CrcW
