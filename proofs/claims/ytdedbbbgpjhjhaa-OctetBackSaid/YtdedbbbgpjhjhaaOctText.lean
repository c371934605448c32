/- An eye's texts; bytes as lists. -/
import Derived.Test.YtdedbbbgpjhjhaaOctAwake
namespace Go.Proofs.Ytdedbbbgpjhjhaa.Oct
open Go.RowKit

theorem ext_take (L : List UInt8) (k : Nat) : (⟨L.toArray⟩ : ByteArray).extract 0 k = ⟨(L.take k).toArray⟩ := by
  apply ByteArray.ext
  rw [ByteArray.data_extract]
  simp [List.extract]
theorem ext_drop (L : List UInt8) (k : Nat) : (⟨L.toArray⟩ : ByteArray).extract k (⟨L.toArray⟩ : ByteArray).size = ⟨(L.drop k).toArray⟩ := by
  apply ByteArray.ext
  rw [ByteArray.data_extract]
  simp only [ByteArray.size, List.size_toArray, List.extract_toArray]
  congr 1
  rw [List.extract_eq_take_drop, List.take_of_length_le (by rw [List.length_drop]; exact Nat.le_refl _)]
theorem rawL_ok (q s : Nat) (P L : List UInt8) (hqs : q ≠ s) (w : World) (h : Looks w q s ⟨(P ++ L).toArray⟩) :
    Calls Try.prog 29 #[.pointer (some ⟨q, 0, none⟩), .int .i64 P.length] w fun e w' => e = .returned (.string ⟨P.toArray⟩) ∧ Looks w' q s ⟨L.toArray⟩ ∧ Chg (· = s) w w' := by
  have h1 := raw_ok q s P.length ⟨(P ++ L).toArray⟩ (by simp [ByteArray.size]) hqs w h
  rw [ext_take, ext_drop, List.take_left, List.drop_left] at h1
  exact h1
theorem numL_two (n : Nat) (h : n < 65536) : numL [UInt8.ofNat (n / 256), UInt8.ofNat (n % 256)] = n := by
  unfold numL
  simp only [List.foldl_cons, List.foldl_nil, UInt8.toNat_ofNat']
  omega
theorem num2_ok (q s n : Nat) (L : List UInt8) (hn : n < 65536) (hqs : q ≠ s) (w : World) (h : Looks w q s ⟨([UInt8.ofNat (n / 256), UInt8.ofNat (n % 256)] ++ L).toArray⟩) :
    Calls Try.prog 45 #[.pointer (some ⟨q, 0, none⟩), .int .i64 2] w fun e w' => e = .returned (.int .i64 n) ∧ Looks w' q s ⟨L.toArray⟩ ∧ Chg (· = s) w w' := by
  have e1 : (⟨([UInt8.ofNat (n / 256), UInt8.ofNat (n % 256)] ++ L).toArray⟩ : ByteArray).data.toList.take 2 = [UInt8.ofNat (n / 256), UInt8.ofNat (n % 256)] := by simp
  have h1 := num_ok q s 2 ⟨([UInt8.ofNat (n / 256), UInt8.ofNat (n % 256)] ++ L).toArray⟩ (by decide) (by decide) (by simp [ByteArray.size]) (by rw [e1, numL_two n hn]; omega) hqs w h
  rw [e1, numL_two n hn, ext_drop] at h1
  exact h1
theorem text_ok (q s : Nat) (most : Int) (P L : List UInt8) (hP : P.length < 65536) (hm : (P.length : Int) ≤ most) (hqs : q ≠ s) (w : World) (h : Looks w q s ⟨([UInt8.ofNat (P.length / 256), UInt8.ofNat (P.length % 256)] ++ (P ++ L)).toArray⟩) :
    Calls Try.prog 30 #[.pointer (some ⟨q, 0, none⟩), .int .i64 most] w fun e w' => e = .returned (.string ⟨P.toArray⟩) ∧ Looks w' q s ⟨L.toArray⟩ ∧ Chg (· = s) w w' := by
  have HN := Lib.hid (num2_ok q s P.length (P ++ L) hP hqs w h)
  have t1 : ¬ most < (P.length : Int) := by omega
  clear h hm hP
  go_enter Try.func30, Try.ntmps30
  go_wp2_with fail
  refine HN.out.mono ?_
  rintro e w1 ⟨rfl, h1, g1⟩
  have HL := Lib.hid h1
  clear HN h1
  go_wp2_with fail
  refine (rawL_ok q s P L hqs _ HL.out).mono ?_
  rintro e w2 ⟨rfl, h2, g2⟩
  go_wp2
  go_ret
  exact ⟨rfl, h2, g1.trans g2⟩
theorem left_ok (q s : Nat) (r : ByteArray) (w : World) (h : Looks w q s r) :
    Calls Try.prog 31 #[.pointer (some ⟨q, 0, none⟩)] w fun e w' => e = .returned (.int .i64 r.size) ∧ w = w' := by
  have c0 := Has.at_ h.sight 0
  simp at c0
  go_enter Try.func31, Try.ntmps31
  go_wp2_with fail
  refine (open_any q s r w h).mono ?_
  rintro e w1 ⟨rfl, rfl⟩
  go_wp2
  go_ret
  exact ⟨rfl, rfl⟩
end Go.Proofs.Ytdedbbbgpjhjhaa.Oct
