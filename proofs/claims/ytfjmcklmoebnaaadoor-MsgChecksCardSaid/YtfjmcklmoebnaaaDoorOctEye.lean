/- What an eye that is being looked by answers, where nothing is thrown. -/
import Derived.Test.YtfjmcklmoebnaaaDoorOctRead
import Derived.Laws.BitsAllLaws
namespace Go.Proofs.YtfjmcklmoebnaaaDoor.Oct
open Go.RowKit

/-- An eye and its looking. -/
structure Looks (w : World) (q s : Nat) (r : ByteArray) : Prop where
  eye : Has w q 94 #[.pointer (some ⟨s, 0, none⟩)]
  sight : Sight w s r false 0
theorem open_any (q s : Nat) (r : ByteArray) (w : World) (h : Looks w q s r) :
    Calls Tryd.prog 91 #[.pointer (some ⟨q, 0, none⟩)] w fun e w' => e = .returned (.pointer (some ⟨s, 0, none⟩)) ∧ w = w' := by
  have cq := Has.at_ h.eye 0
  have c1 := Has.at_ h.sight 1
  simp at cq c1
  go_enter Tryd.func91, Tryd.ntmps91
  go_wp2
  go_ret
  exact ⟨rfl, rfl⟩
theorem raw_ok (q s n : Nat) (r : ByteArray) (hn : n ≤ r.size) (hqs : q ≠ s) (w : World) (h : Looks w q s r) :
    Calls Tryd.prog 84 #[.pointer (some ⟨q, 0, none⟩), .int .i64 n] w fun e w' => e = .returned (.string (r.extract 0 n)) ∧ Looks w' q s (r.extract n r.size) ∧ Chg (· = s) w w' := by
  have c0 := Has.at_ h.sight 0
  have f0 := Has.free h.sight 0
  simp at c0
  go_enter Tryd.func84, Tryd.ntmps84
  go_wp2_with fail
  refine (open_any q s r w h).mono ?_
  rintro e w1 ⟨rfl, rfl⟩
  go_wp2
  go_ret
  exact ⟨rfl, ⟨Has.keep h.eye (p := ⟨s, 0, none⟩) hqs _, Has.put h.sight 0 _⟩, (Chg.refl (· = s) w).setCell (p := ⟨s, 0, none⟩) (.inl rfl) _⟩

/-- The number of bytes, the highest first. -/
def numL (l : List UInt8) : Nat := l.foldl (fun n b => n * 256 + b.toNat) 0
theorem numL_snoc (l : List UInt8) (b : UInt8) : numL (l ++ [b]) = numL l * 256 + b.toNat := by unfold numL; rw [List.foldl_append]; rfl
theorem num_from_lt (l : List UInt8) : ∀ n : Nat, l.foldl (fun n b => n * 256 + b.toNat) n < (n + 1) * 256 ^ l.length := by
  induction l with
  | nil => intro n; simp
  | cons b l ih =>
    intro n
    rw [List.foldl_cons, List.length_cons, Nat.pow_succ]
    have h1 := ih (n * 256 + b.toNat)
    have h2 := b.toNat_lt
    have h3 : (n * 256 + b.toNat + 1) * 256 ^ l.length ≤ ((n + 1) * 256) * 256 ^ l.length := Nat.mul_le_mul_right _ (by omega)
    rw [Nat.mul_assoc, Nat.mul_comm 256] at h3
    exact Nat.lt_of_lt_of_le h1 h3
theorem numL_lt (l : List UInt8) : numL l < 256 ^ l.length := by
  have := num_from_lt l 0
  unfold numL
  omega
theorem shl_or (n : Nat) (b : UInt8) (h : n < 72057594037927936) : bits .or .u64 ((n : Int) * 256) (IntKind.u64.wrap (b.toNat : Int)) = ((n * 256 + b.toNat : Nat) : Int) := by
  have hb := b.toNat_lt
  rw [IntKind.wrap_u64, Int.emod_eq_of_lt (by omega) (by omega)]
  have h1 := u64_or_nat (n * 256) b.toNat (by omega) (by omega)
  rw [nat_join 8 (n * 256) b.toNat (by omega) (by omega)] at h1
  rw [← h1]
  rfl
theorem num_ok (q s k : Nat) (r : ByteArray) (h1 : 1 ≤ k) (h8 : k ≤ 8) (hn : k ≤ r.size) (hv : numL (r.data.toList.take k) < 9223372036854775808) (hqs : q ≠ s) (w : World) (h : Looks w q s r) :
    Calls Tryd.prog 68 #[.pointer (some ⟨q, 0, none⟩), .int .i64 k] w fun e w' => e = .returned (.int .i64 (numL (r.data.toList.take k) : Nat)) ∧ Looks w' q s (r.extract k r.size) ∧ Chg (· = s) w w' := by
  go_enter Tryd.func68, Tryd.ntmps68
  go_wp2_with fail
  refine (raw_ok q s k r hn hqs w h).mono ?_
  rintro e w1 ⟨rfl, hL, hC⟩
  have hz : (r.extract 0 k).size = k := by simp; omega
  have hR : (r.extract 0 k).data.toList = r.data.toList.take k := by rw [ByteArray.data_extract]; simp [List.extract]
  rw [← hR] at hv
  have HR := Lib.hid hR
  clear hR
  generalize r.extract 0 k = R at *
  have HZ := Lib.hid hz
  have hz1 : R.size ≤ 8 := by omega
  have HL := Lib.hid hL
  clear hz h hL
  go_wp2
  go_loop [6, 21] (fun m i => ∃ j : Nat, j ≤ R.size ∧ i = .int .i64 j ∧ m = .int .u64 (numL (R.data.toList.take j) : Nat)) (fun _ i => R.size - (intOf i).toNat)
  case atStart => exact ⟨0, Nat.zero_le _, rfl, rfl⟩
  case round =>
    obtain ⟨j, hj, rfl, rfl⟩ := hrel
    by_cases hlt : j < R.size
    · have hs : R.data.toList.take (j + 1) = R.data.toList.take j ++ [R[j]] := by
        rw [List.take_succ_eq_append_getElem (by simpa using hlt)]; rfl
      have hb : numL (R.data.toList.take j) < 72057594037927936 := by
        have h2 := numL_lt (R.data.toList.take j)
        have h3 : (R.data.toList.take j).length ≤ 7 := by rw [List.length_take]; omega
        exact Nat.lt_of_lt_of_le h2 (Nat.le_trans (Nat.pow_le_pow_right (by omega) h3) (by decide))
      have hnx := numL_snoc (R.data.toList.take j) R[j]
      rw [← hs] at hnx
      generalize numL (R.data.toList.take j) = m at *
      have HN := Lib.hid hnx
      have HO := Lib.hid (shl_or m R[j] hb)
      clear hnx hs
      go_wp2
      go_round
      case rel => exact ⟨j + 1, by omega, by go_num, by rw [HO.out, HN.out]⟩
      case measure => simp [intOf]; omega
    · obtain rfl : j = R.size := by omega
      have ht : R.data.toList.take R.size = R.data.toList := List.take_of_length_le (by simp)
      rw [ht]
      have HT := Lib.hid ht
      clear ht
      have HV := HR.out
      have hv2 : numL (r.data.toList.take k) = numL R.data.toList := by rw [HV]
      have HW := Lib.hid hv2
      clear HV hv2
      generalize numL R.data.toList = v at *
      go_wp2
      go_ret
      exact ⟨by rw [HW.out]; rfl, HL.out, hC⟩
end Go.Proofs.YtfjmcklmoebnaaaDoor.Oct
