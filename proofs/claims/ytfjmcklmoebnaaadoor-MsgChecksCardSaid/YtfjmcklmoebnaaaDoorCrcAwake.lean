/- The package's example is as the document has it. -/
import Derived.Test.YtfjmcklmoebnaaaDoorCrcOpen
namespace Go.Proofs.YtfjmcklmoebnaaaDoor.CrcW
open Go.RowKit
open Go.Proofs.YtfjmcklmoebnaaaDoor.CrcM

theorem check9 : more 0 [49, 50, 51, 52, 53, 54, 55, 56, 57] = 11051210869376104954 := by decide +kernel
theorem check0 : more 0 [] = 0 := by decide +kernel
theorem head_append (s t : ByteArray) : (s ++ t).extract 0 s.size = s := by
  apply ByteArray.ext
  rw [ByteArray.data_extract, ByteArray.data_append]
  rw [Array.extract_append, show s.size = s.data.size from rfl, Nat.sub_self, Array.extract_size]
  simp
theorem headB_seal (s : ByteArray) : headB (sealB s) = s := by
  unfold headB
  rw [sealB_size, Nat.add_sub_cancel]
  unfold sealB
  exact head_append _ _
theorem openB_seal (s : ByteArray) : openB (sealB s) = true := by
  unfold openB
  rw [headB_seal]
  simp
end Go.Proofs.YtfjmcklmoebnaaaDoor.CrcW
