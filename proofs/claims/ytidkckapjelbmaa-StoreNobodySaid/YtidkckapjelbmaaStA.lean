/- How blocks and beginnings lie on a device: contracts. -/
import Derived.Test.YtidkckapjelbmaaStPutT
import Derived.Test.YtidkckapjelbmaaCrcAwake
import Derived.Test.YtidkckapjelbmaaOpenNS
namespace Go.Proofs.Ytidkckapjelbmaa.Sto
open Go.RowKit Go.Proofs.Ytidkckapjelbmaa.Oct
open Rws

theorem owns_low {w : World} {B C : Nat} {v : Value} {l : List UInt8} (h : Owns w C v l) (hb : B ≤ C) : Owns w B v l := by
  refine ⟨h.1, ?_⟩
  rcases h.2 with k | ⟨g, cap, cur, e, hb2, hh, k⟩
  · exact .inl k
  · exact .inr ⟨g, cap, cur, e, Nat.le_trans hb hb2, hh, k⟩
/-- A number's bytes. -/
def numB (x : Int) (k : Nat) : List UInt8 := putL (IntKind.u64.wrap x).toNat k
theorem numB_len (x : Int) (k : Nat) : (numB x k).length = k := putL_len _ _
def kidsB : List Int → List UInt8
  | [] => []
  | k :: l => numB k 4 ++ kidsB l
theorem kidsB_append (a b : List Int) : kidsB (a ++ b) = kidsB a ++ kidsB b := by
  induction a with
  | nil => rfl
  | cons x a ih => simp [kidsB, ih, List.append_assoc]
theorem kidsB_len (a : List Int) : (kidsB a).length = 4 * a.length := by
  induction a with
  | nil => rfl
  | cons x a ih => simp [kidsB, ih, numB_len]; omega
/-- The bytes of a text. -/
def textL (s : ByteArray) : List UInt8 := headT s.size ++ s.data.toList
theorem textL_len (s : ByteArray) : (textL s).length = s.size + 2 := by
  unfold textL headT
  simp
def blockL (kids : List Int) (data : ByteArray) : List UInt8 := numB kids.length 1 ++ kidsB kids ++ textL data
/-- How a block lies on a device. -/
def blockB (kids : List Int) (data : ByteArray) : ByteArray := CrcW.sealB ⟨(blockL kids data).toArray⟩
theorem blockL_len (kids : List Int) (data : ByteArray) : (blockL kids data).length = 4 * kids.length + data.size + 3 := by
  unfold blockL
  rw [List.length_append, List.length_append, numB_len, kidsB_len, textL_len]
  omega
def beginL (gen root size : Int) (note : ByteArray) : List UInt8 := [83] ++ numB gen 6 ++ numB root 4 ++ numB size 4 ++ textL note
/-- How a beginning lies on a device. -/
def beginB (gen root size : Int) (note : ByteArray) : ByteArray := CrcW.sealB ⟨(beginL gen root size note).toArray⟩
theorem arr_size (l : List UInt8) : (⟨l.toArray⟩ : ByteArray).size = l.length := by simp [ByteArray.size]
set_option maxRecDepth 100000 in
set_option maxHeartbeats 1000000 in
theorem bytes_of (A : Option Addr) (n c : Nat) (kids : List Int) (data : ByteArray) (hk : n ≤ 16) (hd : data.size ≤ 3900) (w : World) (h : NumRow w A n kids) :
    Calls Try.prog 37 #[.slice A n c, .string data] w fun e w' => e = .returned (.string (blockB kids data)) ∧ Below w.heap.size w w' := by
  have HR := Lib.hid h
  have HP := Lib.hid (put_in none 0 0 1 n [] (by decide) (by decide) (by decide) w ⟨rfl, fun h => absurd h (by decide)⟩ (fun _ => ⟨rfl, rfl⟩))
  have HL := Lib.hid h.1
  clear h
  go_enter Try.func37, Try.ntmps37
  go_wp2_with fail
  refine HP.out.mono ?_
  rintro e w1 ⟨v, rfl, ho, hb⟩
  have HO := Lib.hid (show Owns w1 w.heap.size v (numB n 1 ++ kidsB (kids.take 0)) by simpa [kidsB, numB] using ho)
  have HB := Lib.hid hb
  clear ho hb HP
  go_wp2
  go_loopw [5, 13] (fun v i wr => ∃ j : Nat, j ≤ n ∧ i = .int .i64 j ∧ Hid (Owns wr w.heap.size v (numB n 1 ++ kidsB (kids.take j))) ∧ Hid (Below w.heap.size w wr)) (fun _ i _ => n - (intOf i).toNat)
  case atStart => exact ⟨0, Nat.zero_le _, rfl, HO, HB⟩
  case round =>
    obtain ⟨j, hj, rfl, HO1, HB1⟩ := hrel
    clear HO HB
    by_cases hlt : j < n
    · obtain ⟨A1, c1, rfl, hA1⟩ := HO1.out.slice
      obtain ⟨b, off, rfl, hbl, hcl⟩ := (HR.out.below HB1.out).2 (by omega)
      have hjl : j < kids.length := by rw [HL.out]; exact hlt
      have k1 := hcl j hjl
      have hlen : (numB n 1 ++ kidsB (kids.take j)).length ≤ 65 := by
        rw [List.length_append, numB_len, kidsB_len, List.length_take]
        omega
      have HN := Lib.hid (show numB n 1 ++ kidsB (kids.take (j + 1)) = numB n 1 ++ kidsB (kids.take j) ++ numB kids[j] 4 by
        rw [List.take_succ_eq_append_getElem hjl, kidsB_append, List.append_assoc]
        simp [kidsB])
      have HP := Lib.hid (put_in A1 (numB n 1 ++ kidsB (kids.take j)).length c1 4 kids[j] _ (by omega) (by decide) (by decide) _ (HO1.out.row rfl) hA1)
      have HB2 := HB1
      generalize kids[j] = kid at *
      clear hcl hA1 HO1 HB1 hbl
      generalize (numB n 1 ++ kidsB (kids.take j)).length = L at *
      go_wp2_with fail
      refine HP.out.mono ?_
      rintro e w2 ⟨v2, rfl, ho, hb⟩
      have HO2 := Lib.hid (owns_low ho HB2.out.size)
      have HB3 := Lib.hid (HB2.out.trans (hb.mono HB2.out.size))
      clear ho hb HP
      go_wp2
      go_roundw
      case rel => exact ⟨j + 1, by omega, by go_num, Lib.hid (by rw [HN.out]; exact HO2.out), HB3⟩
      case measure => simp [intOf]; omega
    · obtain rfl : j = n := by omega
      have hfull : kids.take j = kids := List.take_of_length_le (by rw [HL.out]; exact Nat.le_refl _)
      rw [hfull] at HO1
      obtain ⟨A1, c1, rfl, hA1⟩ := HO1.out.slice
      have hlen : (numB j 1 ++ kidsB kids).length ≤ 65 := by
        rw [List.length_append, numB_len, kidsB_len, HL.out]
        omega
      have HP := Lib.hid (ptext_short A1 (numB j 1 ++ kidsB kids).length c1 _ data (by omega) (by omega) _ (HO1.out.row rfl) hA1)
      have HB2 := HB1
      have HE := Lib.hid (show numB j 1 ++ kidsB kids ++ headT data.size ++ data.data.toList = blockL kids data by unfold blockL textL; rw [HL.out, List.append_assoc, List.append_assoc])
      have HZ := Lib.hid (show (blockL kids data).length ≤ 4096 by rw [blockL_len, HL.out]; omega)
      clear hA1 HO1 HB1 hfull
      generalize (numB j 1 ++ kidsB kids).length = L at *
      go_wp2_with fail
      refine HP.out.mono ?_
      rintro e w2 ⟨v2, rfl, ho, hb⟩
      rw [HE.out] at ho
      obtain ⟨A2, c2, rfl, hA2⟩ := ho.slice
      have kc := conv_RowB w2 A2 (blockL kids data).length c2 _ (ho.row rfl)
      have HB3 := Lib.hid (HB2.out.trans (hb.mono HB2.out.size))
      clear ho hb HP HB2 hA2
      have HZ0 := Lib.hid (show (blockL kids data).length ≤ 4096 from HZ.out)
      obtain ⟨L2, hL2⟩ : ∃ L2, (blockL kids data).length = L2 := ⟨_, rfl⟩
      rw [hL2] at kc ⊢
      clear hL2
      go_wp2_with fail
      refine (CrcW.seal_any _ (by rw [arr_size]; exact HZ0.out) _).mono ?_
      rintro e w3 ⟨rfl, hb⟩
      have HB4 := Lib.hid (HB3.out.trans (hb.mono HB3.out.size))
      clear hb kc
      go_wp2
      go_ret
      exact ⟨rfl, HB4.out⟩
theorem place_any (gen root : Int) (note : ByteArray) (hg : 0 ≤ gen) (w : World) :
    Calls Try.prog 50 #[.agg #[.int .i64 gen, .int .i64 root, .string note]] w fun e w' => e = .returned (.int .i64 (gen % 2)) ∧ Below w.heap.size w w' := by
  have HB := Lib.hid ((Below.refl w.heap.size w).alloc (Nat.le_refl _) (.cells #[.int .i64 gen, .int .i64 root, .string note] 51))
  go_enter Try.func50, Try.ntmps50
  go_wp2
  go_ret
  exact ⟨rfl, HB.out⟩
end Go.Proofs.Ytidkckapjelbmaa.Sto
