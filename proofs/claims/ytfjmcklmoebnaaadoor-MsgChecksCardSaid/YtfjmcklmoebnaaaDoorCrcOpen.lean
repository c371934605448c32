/- Opening a sealed text, and the package's example. -/
import Derived.Test.YtfjmcklmoebnaaaDoorCrcSeal
import Derived.Deep.RegionWith
import Derived.BigQuiet
import Derived.IntWalk
namespace Go.Proofs.YtfjmcklmoebnaaaDoor.CrcW
open Go.RowKit
open Go.Proofs.YtfjmcklmoebnaaaDoor.CrcM

theorem sealB_size (s : ByteArray) : (sealB s).size = s.size + 8 := by
  unfold sealB
  rw [ByteArray.size_append, strOfNums_size]
  simp [le8]

/-- What stands ahead of the last eight bytes. -/
def headB (s : ByteArray) : ByteArray := s.extract 0 (s.size - 8)
def openB (s : ByteArray) : Bool := (sealB (headB s)).toList == s.toList
theorem headB_size (s : ByteArray) : (s.extract 0 (s.size - 8)).size = s.size - 8 := by simp

theorem open_short (s : ByteArray) (h : s.size < 8) (w : World) :
    Calls Tryd.prog 44 #[.string s] w fun e w' => e = .returned (.tuple #[.string ⟨#[]⟩, .bool false]) ∧ w = w' := by
  go_enter Tryd.func44, Tryd.ntmps44
  go_wp2
  go_ret2
  exact ⟨rfl, rfl⟩
theorem ropen_short (s : ByteArray) (h : s.size < 8) (w : World) :
    Calls Tryd.prog 48 #[.string s] w fun e w' => e = .returned (.tuple #[.string ⟨#[]⟩, .bool false]) ∧ w = w' := by
  go_enter Tryd.func48, Tryd.ntmps48
  go_wp2
  go_ret2
  exact ⟨rfl, rfl⟩
set_option maxHeartbeats 400000 in
theorem open_long (s : ByteArray) (h : 8 ≤ s.size) (hs : s.size ≤ 4104) (w : World) :
    Calls Tryd.prog 44 #[.string s] w fun e w' => e = .returned (.tuple #[.string (headB s), .bool (openB s)]) ∧ Below w.heap.size w w' := by
  go_enter Tryd.func44, Tryd.ntmps44
  go_wp2_with (go_at_call 38; refine (seal_any _ (by simp; omega) _).mono ?_; rintro e w' ⟨rfl, hb⟩)
  go_ret2
  exact ⟨rfl, hb⟩
set_option maxHeartbeats 400000 in
theorem ropen_long (s : ByteArray) (h : 8 ≤ s.size) (hs : s.size ≤ 4104) (w : World) :
    Calls Tryd.prog 48 #[.string s] w fun e w' => e = .returned (.tuple #[.string (headB s), .bool (openB s)]) ∧ Below w.heap.size w w' := by
  have hx : (s.extract 0 (s.size - 8)).size ≤ 4096 := by rw [headB_size]; omega
  have e1 : IntKind.i64.wrap ((s.size : Int) - 8) = (s.size : Int) - 8 := IntWalk.i64_in _ (by omega)
  have e2 : 0 ≤ (s.size : Int) - 8 := by omega
  have e3 : ((s.size : Int) - 8).toNat = s.size - 8 := by omega
  have e4 : (s.size : Int) - 8 ≤ s.size := by omega
  go_enter Tryd.func48, Tryd.ntmps48
  go_wp2_with fail
  go_region_with (go_at_call 43; refine (rseal_any (s.extract 0 (s.size - 8)) (by omega) _).mono ?_; rintro e w' ⟨rfl, hb⟩)
  all_goals (go_wp2; go_ret2; exact ⟨rfl, (Below.refl _ w).drew.trans hb⟩)
end Go.Proofs.YtfjmcklmoebnaaaDoor.CrcW
