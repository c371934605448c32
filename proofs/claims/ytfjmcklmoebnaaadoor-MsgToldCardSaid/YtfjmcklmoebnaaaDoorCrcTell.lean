/- A sealed text with one byte changed is not opened: the plain lemma. -/
import Derived.Test.YtfjmcklmoebnaaaDoorCrcAwake
namespace Go.Proofs.YtfjmcklmoebnaaaDoor.CrcW
open Go.RowKit
open Go.Proofs.YtfjmcklmoebnaaaDoor.CrcM

def tailL (l : List UInt8) : List UInt8 := (le8 (more 0 l)).map fun n => UInt8.ofNat n.toNat
theorem tailL_len (l : List UInt8) : (tailL l).length = 8 := by simp [tailL, le8]
theorem sealB_list (s : ByteArray) : (sealB s).data.toList = s.data.toList ++ tailL s.data.toList := by
  unfold sealB
  rw [ByteArray.data_append, Array.toList_append, strOfNums_data]
  rfl
theorem headB_list (s : ByteArray) : (headB s).data.toList = s.data.toList.take (s.size - 8) := by
  unfold headB
  rw [ByteArray.data_extract]
  simp [List.extract]
theorem tailL_at (l : List UInt8) (i : Nat) (h : i < 8) : (tailL l)[i]? = some (UInt8.ofNat (more 0 l / 2 ^ (8 * i) % 256)) := by
  unfold tailL le8
  rw [List.map_map, List.getElem?_map, List.getElem?_range h]
  show some (UInt8.ofNat (((more 0 l / 2 ^ (8 * i) % 256 : Nat) : Int)).toNat) = _
  rw [Int.toNat_natCast]
theorem digits_inj {n m : Nat} (hn : n < 2 ^ 64) (hm : m < 2 ^ 64) (h : ∀ i, i < 8 → n / 2 ^ (8 * i) % 256 = m / 2 ^ (8 * i) % 256) : n = m := by
  have h0 := h 0 (by omega)
  have h1 := h 1 (by omega)
  have h2 := h 2 (by omega)
  have h3 := h 3 (by omega)
  have h4 := h 4 (by omega)
  have h5 := h 5 (by omega)
  have h6 := h 6 (by omega)
  have h7 := h 7 (by omega)
  simp only [Nat.mul_zero, Nat.pow_zero, Nat.div_one, Nat.mul_one, Nat.reduceMul, Nat.reducePow] at h0 h1 h2 h3 h4 h5 h6 h7
  omega
theorem tailL_inj {l m : List UInt8} (h : tailL l = tailL m) : more 0 l = more 0 m := by
  refine digits_inj (more_lt _ _) (more_lt _ _) fun i hi => ?_
  have h1 := tailL_at l i hi
  have h2 := tailL_at m i hi
  rw [h, h2] at h1
  have h3 : UInt8.ofNat (more 0 m / 2 ^ (8 * i) % 256) = UInt8.ofNat (more 0 l / 2 ^ (8 * i) % 256) := by simpa using h1
  have h4 := congrArg UInt8.toNat h3
  rw [UInt8.toNat_ofNat', UInt8.toNat_ofNat'] at h4
  omega
theorem told_list (L : List UInt8) (J : Nat) (y : UInt8) (hJ : J < (L ++ tailL L).length) (hy : y ≠ (L ++ tailL L)[J]) (H : List UInt8)
    (hH : H = ((L ++ tailL L).set J y).take L.length) : H ++ tailL H ≠ (L ++ tailL L).set J y := by
  intro he
  by_cases hlt : J < L.length
  · have h1 : (L ++ tailL L).set J y = L.set J y ++ tailL L := by rw [List.set_append_left _ _ hlt]
    rw [h1] at he hH
    rw [List.take_left' (by simp)] at hH
    subst hH
    have h2 := tailL_inj (List.append_cancel_left he)
    have h3 : L = L.take J ++ L[J] :: L.drop (J + 1) := by
      rw [List.getElem_cons_drop, List.take_append_drop]
    have h4 : L.set J y = L.take J ++ y :: L.drop (J + 1) := by rw [List.set_eq_take_append_cons_drop, if_pos hlt]
    rw [h4] at h2
    have h5 : more 0 L = more 0 (L.take J ++ L[J] :: L.drop (J + 1)) := congrArg (more 0) h3
    rw [h5] at h2
    have h6 := told 0 (L.take J) (L.drop (J + 1)) _ _ h2
    apply hy
    rw [h6, List.getElem_append_left hlt]
  · have hge : L.length ≤ J := by omega
    have h1 : (L ++ tailL L).set J y = L ++ (tailL L).set (J - L.length) y := by rw [List.set_append_right _ _ hge]
    rw [h1] at he hH
    rw [List.take_left' rfl] at hH
    subst hH
    have h2 := List.append_cancel_left he
    have h3 : J - H.length < (tailL H).length := by rw [List.length_append] at hJ; omega
    apply hy
    rw [List.getElem_append_right hge]
    have h4 : ((tailL H).set (J - H.length) y)[J - H.length]'(by simpa using h3) = y := List.getElem_set_self _
    rw [← h4]
    congr 1
    exact h2.symm
theorem told_open (b : ByteArray) (J : Nat) (y : UInt8) (hJ : J < (sealB b).size) (hy : y ≠ (sealB b)[J]) : openB ⟨((sealB b).data.toList.set J y).toArray⟩ = false := by
  unfold openB
  rw [ByteArray.toList_eq, ByteArray.toList_mk, sealB_list]
  apply beq_eq_false_iff_ne.2
  have hl := sealB_list b
  have hh : (headB ⟨((sealB b).data.toList.set J y).toArray⟩).data.toList = ((b.data.toList ++ tailL b.data.toList).set J y).take b.data.toList.length := by
    rw [headB_list]
    have hs : (⟨((sealB b).data.toList.set J y).toArray⟩ : ByteArray).size - 8 = b.data.toList.length := by
      rw [ByteArray.size_mk', List.size_toArray, List.length_set, hl, List.length_append, tailL_len, Nat.add_sub_cancel]
    rw [hs]
    show (((sealB b).data.toList.set J y).toArray).toList.take _ = _
    rw [hl]
  rw [hl]
  exact told_list b.data.toList J y (by rw [← hl, Array.length_toList]; exact hJ) (by
    intro e
    apply hy
    rw [e]
    show _ = (sealB b).data[J]
    rw [← Array.getElem_toList]
    congr 1) _ hh
end Go.Proofs.YtfjmcklmoebnaaaDoor.CrcW
