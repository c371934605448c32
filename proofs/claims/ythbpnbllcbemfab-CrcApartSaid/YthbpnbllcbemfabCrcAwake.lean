/- The package's example is as the document has it. -/
import Derived.Test.YthbpnbllcbemfabCrcOpen
namespace Go.Proofs.Ythbpnbllcbemfab.CrcW
open Go.RowKit
open Go.Proofs.Ythbpnbllcbemfab.CrcM

theorem check9 : more 0 [49, 50, 51, 52, 53, 54, 55, 56, 57] = 11051210869376104954 := by decide +kernel
theorem check0 : more 0 [] = 0 := by decide +kernel
theorem head_append (s t : ByteArray) : (s ++ t).extract 0 s.size = s := by
  apply ByteArray.ext
  rw [ByteArray.data_extract, ByteArray.data_append]
  rw [Array.extract_append, show s.size = s.data.size from rfl, Nat.sub_self, Array.extract_size]
  simp
theorem headB_seal (s : ByteArray) : headB (sealB s) = s := by
  unfold headB
  rw [sealB_size, Nat.add_sub_cancel]
  unfold sealB
  exact head_append _ _
theorem openB_seal (s : ByteArray) : openB (sealB s) = true := by
  unfold openB
  rw [headB_seal]
  simp
theorem awake_any (w : World) : Calls Try.prog 27 #[] w fun e w' => e = .returned (.bool true) ∧ Below w.heap.size w w' := by
  have h9 : (((more 0 [49, 50, 51, 52, 53, 54, 55, 56, 57] : Nat) : Int) == 11051210869376104954) = true := by rw [check9]; rfl
  have h0 : (((more 0 [] : Nat) : Int) == 0) = true := by rw [check0]; rfl
  go_enter Try.func27, Try.ntmps27
  go_wp2_with fail
  refine (seal_any _ (by decide) _).mono ?_
  rintro e w1 ⟨rfl, hb1⟩
  go_wp2_with fail
  refine (open_long _ (by rw [sealB_size]; omega) (by rw [sealB_size]; decide) _).mono ?_
  rintro e w2 ⟨rfl, hb2⟩
  rw [headB_seal, openB_seal]
  go_wp2_with fail
  refine (of_any _ (by decide) _).mono ?_
  rintro e w3 ⟨rfl, rfl⟩
  go_wp2_with fail
  refine (of_any _ (by decide) _).mono ?_
  rintro e w3 ⟨rfl, rfl⟩
  go_wp2
  go_ret
  exact ⟨rfl, hb1.trans (hb2.mono hb1.size)⟩
end Go.Proofs.Ythbpnbllcbemfab.CrcW
