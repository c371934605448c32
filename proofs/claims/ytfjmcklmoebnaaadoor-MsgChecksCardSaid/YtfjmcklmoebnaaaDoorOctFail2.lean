/- More of what throws: a number that is too great, a text that is too long or cut. -/
import Derived.Test.YtfjmcklmoebnaaaDoorOctFail
namespace Go.Proofs.YtfjmcklmoebnaaaDoor.Oct
open Go.RowKit

set_option maxHeartbeats 400000 in
/-- A number above the greatest. -/
theorem num_big (q s k : Nat) (r : ByteArray) (h1 : 1 ≤ k) (h8 : k ≤ 8) (hn : k ≤ r.size) (hv : 9223372036854775808 ≤ numL (r.data.toList.take k)) (hqs : q ≠ s) (w : World) (h : Looks w q s r) :
    Calls Tryd.prog 68 #[.pointer (some ⟨q, 0, none⟩), .int .i64 k] w fun e w' => e = .panicked (own s) ∧ Sight w' s (r.extract k r.size) true 201 ∧ Chg (· = s) w w' := by
  go_enter Tryd.func68, Tryd.ntmps68
  go_wp2_with fail
  refine (raw_ok q s k r hn hqs w h).mono ?_
  rintro e w1 ⟨rfl, hL, hC⟩
  have hz : (r.extract 0 k).size = k := by simp; omega
  have hR : (r.extract 0 k).data.toList = r.data.toList.take k := by rw [ByteArray.data_extract]; simp [List.extract]
  rw [← hR] at hv
  have HR := Lib.hid hR
  clear hR
  generalize r.extract 0 k = R at *
  have HZ := Lib.hid hz
  have hz1 : R.size ≤ 8 := by omega
  have HL := Lib.hid hL
  clear hz h hL
  go_wp2
  go_loop [6, 21] (fun m i => ∃ j : Nat, j ≤ R.size ∧ i = .int .i64 j ∧ m = .int .u64 (numL (R.data.toList.take j) : Nat)) (fun _ i => R.size - (intOf i).toNat)
  case atStart => exact ⟨0, Nat.zero_le _, rfl, rfl⟩
  case round =>
    obtain ⟨j, hj, rfl, rfl⟩ := hrel
    by_cases hlt : j < R.size
    · have hs : R.data.toList.take (j + 1) = R.data.toList.take j ++ [R[j]] := by
        rw [List.take_succ_eq_append_getElem (by simpa using hlt)]; rfl
      have hb : numL (R.data.toList.take j) < 72057594037927936 := by
        have h2 := numL_lt (R.data.toList.take j)
        have h3 : (R.data.toList.take j).length ≤ 7 := by rw [List.length_take]; omega
        exact Nat.lt_of_lt_of_le h2 (Nat.le_trans (Nat.pow_le_pow_right (by omega) h3) (by decide))
      have hnx := numL_snoc (R.data.toList.take j) R[j]
      rw [← hs] at hnx
      generalize numL (R.data.toList.take j) = m at *
      have HN := Lib.hid hnx
      have HO := Lib.hid (shl_or m R[j] hb)
      clear hnx hs
      go_wp2
      go_round
      case rel => exact ⟨j + 1, by omega, by go_num, by rw [HO.out, HN.out]⟩
      case measure => simp [intOf]; omega
    · obtain rfl : j = R.size := by omega
      have ht : R.data.toList.take R.size = R.data.toList := List.take_of_length_le (by simp)
      rw [ht]
      have hvi : (9223372036854775807 : Int) < (numL R.data.toList : Nat) := by omega
      clear hv ht HR
      generalize numL R.data.toList = v at *
      go_wp2_with fail
      refine (fail_ok q s 201 _ _ HL.out).mono ?_
      rintro e w2 ⟨rfl, hs, hc⟩
      go_wp2
      show _ ∧ _
      exact ⟨rfl, rfl, hs, hC.trans hc⟩

theorem num2_val (r : ByteArray) : numL (r.data.toList.take 2) < 65536 := by
  have h := numL_lt (r.data.toList.take 2)
  have h2 : (r.data.toList.take 2).length ≤ 2 := by rw [List.length_take]; omega
  exact Nat.lt_of_lt_of_le h (Nat.le_trans (Nat.pow_le_pow_right (by omega) h2) (by decide))
/-- A text that is longer than asked for. -/
theorem text_long (q s : Nat) (most : Int) (r : ByteArray) (h2 : 2 ≤ r.size) (hm : most < (numL (r.data.toList.take 2) : Nat)) (hqs : q ≠ s) (w : World) (h : Looks w q s r) :
    Calls Tryd.prog 71 #[.pointer (some ⟨q, 0, none⟩), .int .i64 most] w fun e w' => e = .panicked (own s) ∧ Sight w' s (r.extract 2 r.size) true 203 ∧ Chg (· = s) w w' := by
  have HN := Lib.hid (num_ok q s 2 r (by omega) (by omega) h2 (by have := num2_val r; omega) hqs w h)
  clear h
  generalize numL (r.data.toList.take 2) = v at *
  go_enter Tryd.func71, Tryd.ntmps71
  go_wp2_with fail
  refine HN.out.mono ?_
  rintro e w1 ⟨rfl, h1, g1⟩
  have HL := Lib.hid h1
  clear HN h1
  go_wp2_with fail
  refine (fail_ok q s 203 _ _ HL.out).mono ?_
  rintro e w2 ⟨rfl, hs, hc⟩
  go_wp2
  show _ ∧ _
  exact ⟨rfl, rfl, hs, g1.trans hc⟩
/-- A text that is not there as long as it is said to be. -/
theorem text_cut (q s : Nat) (most : Int) (r : ByteArray) (h2 : 2 ≤ r.size) (hm : (numL (r.data.toList.take 2) : Nat) ≤ most) (hc : r.size < 2 + numL (r.data.toList.take 2)) (hqs : q ≠ s) (w : World) (h : Looks w q s r) :
    Calls Tryd.prog 71 #[.pointer (some ⟨q, 0, none⟩), .int .i64 most] w fun e w' => e = .panicked (own s) ∧ Sight w' s (r.extract 2 r.size) true 201 ∧ Chg (· = s) w w' := by
  have HN := Lib.hid (num_ok q s 2 r (by omega) (by omega) h2 (by have := num2_val r; omega) hqs w h)
  have hz : (r.extract 2 r.size).size = r.size - 2 := by simp
  have hcut : ((r.extract 2 r.size).size : Int) < ((numL (r.data.toList.take 2) : Nat) : Int) := by omega
  have HF := Lib.hid (fun w h => raw_fail q s _ _ (.inr hcut) w h)
  have hmi : ¬ most < ((numL (r.data.toList.take 2) : Nat) : Int) := by omega
  clear h hz hcut hc hm
  generalize numL (r.data.toList.take 2) = v at *
  go_enter Tryd.func71, Tryd.ntmps71
  go_wp2_with fail
  refine HN.out.mono ?_
  rintro e w1 ⟨rfl, h1, g1⟩
  have HL := Lib.hid h1
  clear HN h1
  go_wp2_with fail
  refine (HF.out _ HL.out).mono ?_
  rintro e w2 ⟨rfl, hs, hc⟩
  go_wp2
  show _ ∧ _
  exact ⟨rfl, rfl, hs, g1.trans hc⟩
/-- A text that is there. -/
theorem text_there (q s : Nat) (most : Int) (r : ByteArray) (h2 : 2 ≤ r.size) (hm : (numL (r.data.toList.take 2) : Nat) ≤ most) (hc : 2 + numL (r.data.toList.take 2) ≤ r.size) (hqs : q ≠ s) (w : World) (h : Looks w q s r) :
    Calls Tryd.prog 71 #[.pointer (some ⟨q, 0, none⟩), .int .i64 most] w fun e w' => e = .returned (.string ((r.extract 2 r.size).extract 0 (numL (r.data.toList.take 2)))) ∧ Looks w' q s ((r.extract 2 r.size).extract (numL (r.data.toList.take 2)) (r.extract 2 r.size).size) ∧ Chg (· = s) w w' := by
  have HN := Lib.hid (num_ok q s 2 r (by omega) (by omega) h2 (by have := num2_val r; omega) hqs w h)
  have hz : (r.extract 2 r.size).size = r.size - 2 := by simp
  have HF := Lib.hid (fun w h => raw_ok q s (numL (r.data.toList.take 2)) (r.extract 2 r.size) (by omega) hqs w h)
  have hmi : ¬ most < ((numL (r.data.toList.take 2) : Nat) : Int) := by omega
  clear h hz hc hm
  generalize numL (r.data.toList.take 2) = v at *
  generalize r.extract 2 r.size = R at *
  go_enter Tryd.func71, Tryd.ntmps71
  go_wp2_with fail
  refine HN.out.mono ?_
  rintro e w1 ⟨rfl, h1, g1⟩
  have HL := Lib.hid h1
  clear HN h1
  go_wp2_with fail
  refine (HF.out _ HL.out).mono ?_
  rintro e w2 ⟨rfl, hs, hc⟩
  go_wp2
  go_ret
  exact ⟨rfl, hs, g1.trans hc⟩
end Go.Proofs.YtfjmcklmoebnaaaDoor.Oct
