/- The program's sum and the document's are the plain sum: what each function of the two packages answers, as contracts. -/
import Derived.Test.YtfjmcklmoebnaaaDoorChecked
import Derived.Test.YtfjmcklmoebnaaaDoorCrcMath
import Derived.WalkKit
import Derived.WalkLawsBesides
import Derived.Laws.BitsAllLaws
import Derived.Outline
namespace Go.Proofs.YtfjmcklmoebnaaaDoor.CrcW
open Go.RowKit
open Go.Proofs.YtfjmcklmoebnaaaDoor.CrcM

theorem not_walk (c : Nat) (h : c < 18446744073709551616) : bits .xor .u64 IntKind.u64.max (c : Int) = ((top - c : Nat) : Int) := by
  show bits .xor .u64 ((18446744073709551615 : Nat) : Int) (c : Int) = _
  rw [u64_xor_nat _ _ (by omega) h]
  have h1 : ((BitVec.allOnes 64) ^^^ (BitVec.ofNat 64 c)).toNat = 18446744073709551615 ^^^ c := by
    rw [BitVec.toNat_xor, BitVec.toNat_ofNat, Nat.mod_eq_of_lt h]
    rfl
  rw [← h1, BitVec.allOnes_xor, BitVec.toNat_not, BitVec.toNat_ofNat, Nat.mod_eq_of_lt h]
  rfl

theorem byte_walk (F : Nat) (b : UInt8) (h : F < 18446744073709551616) : bits .xor .u64 (F : Int) (IntKind.u64.wrap (b.toNat : Int)) = ((F ^^^ b.toNat : Nat) : Int) := by
  have hb := b.toNat_lt
  rw [IntKind.wrap_u64, Int.emod_eq_of_lt (by omega) (by omega), u64_xor_nat _ _ h (by omega)]

theorem step_walk (G : Nat) (h : G < 18446744073709551616) :
    bits .xor .u64 ((G : Int) / 2) (bits .and .u64 14514072000185962306 (IntKind.u64.wrap (-bits .and .u64 (G : Int) 1))) = ((st G : Nat) : Int) := by
  have h1 : bits .and .u64 (G : Int) 1 = ((G % 2 : Nat) : Int) := by
    have := u64_and_nat G 1 h (by omega)
    rw [nat_mask1] at this
    exact this
  have h2 : ((G : Int) / 2) = ((G / 2 : Nat) : Int) := by omega
  have hp : bits .and .u64 14514072000185962306 18446744073709551615 = ((poly : Nat) : Int) := by
    have := u64_and_nat poly 18446744073709551615 (by decide) (by omega)
    rw [show poly &&& 18446744073709551615 = poly from by decide] at this
    exact this
  have hz : bits .and .u64 14514072000185962306 0 = ((0 : Nat) : Int) := by
    have := u64_and_nat poly 0 (by decide) (by omega)
    rw [Nat.and_zero] at this
    exact this
  rw [h1, h2, IntKind.wrap_u64]
  unfold st
  by_cases ho : G % 2 = 1
  · rw [if_pos ho, ho, show -((1 : Nat) : Int) % 18446744073709551616 = 18446744073709551615 from by decide, hp, u64_xor_nat _ _ (by omega) (by decide)]
  · have h0 : G % 2 = 0 := by omega
    rw [if_neg ho, h0, show -((0 : Nat) : Int) % 18446744073709551616 = 0 from by decide, hz, u64_xor_nat _ _ (by omega) (by omega), Nat.xor_zero]

theorem fold_take (c : Nat) (s : ByteArray) (k : Nat) (h : k < s.size) : fold c (s.data.toList.take (k + 1)) = sts 8 (fold c (s.data.toList.take k) ^^^ s[k].toNat) := by
  rw [List.take_succ_eq_append_getElem (by simpa using h), fold_append]
  rfl

set_option maxHeartbeats 400000 in
theorem more_any (c : Nat) (hc : c < 18446744073709551616) (s : ByteArray) (hs : s.size ≤ maxLen) (w : World) :
    Calls Tryd.prog 80 #[.int .u64 c, .string s] w fun e w' => e = .returned (.int .u64 (more c s.data.toList : Nat)) ∧ w = w' := by
  unfold maxLen at hs
  have H0 := Lib.hid (not_walk c hc)
  go_enter Tryd.func80, Tryd.ntmps80
  go_wp2
  rw [H0.out]
  go_loop [0, 11] (fun z i => ∃ k : Nat, k ≤ s.size ∧ i = .int .i64 k ∧ z = .int .u64 (fold (top - c) (s.data.toList.take k) : Nat)) (fun _ i => s.size - (intOf i).toNat)
  case atStart => exact ⟨0, Nat.zero_le _, rfl, rfl⟩
  case round =>
    obtain ⟨k, hk, rfl, rfl⟩ := hrel
    have hl := fold_lt (top_le c) (s.data.toList.take k)
    generalize hF : fold (top - c) (s.data.toList.take k) = F at *
    have HF := Lib.hid hF
    clear hF
    by_cases hlt : k < s.size
    · go_wp2
      go_loop [0, 20] (fun z i => ∃ j : Nat, j ≤ 8 ∧ i = .int .i64 j ∧ z = .int .u64 (sts j (F ^^^ s[k].toNat) : Nat)) (fun _ i => 8 - (intOf i).toNat)
      case atStart => exact ⟨0, by omega, rfl, by rw [byte_walk F s[k] hl]; rfl⟩
      case round =>
        obtain ⟨j, hj, rfl, rfl⟩ := hrel
        have hl2 : sts j (F ^^^ s[k].toNat) < 2 ^ 64 := sts_lt (Nat.xor_lt_two_pow hl (by have := s[k].toNat_lt; omega))
        generalize hG : sts j (F ^^^ s[k].toNat) = G at *
        have HG := Lib.hid hG
        clear hG
        by_cases hlt2 : j < 8
        · go_wp2
          go_round
          case rel => exact ⟨j + 1, by omega, by go_num, by rw [step_walk G hl2, sts_succ, HG.out]⟩
          case measure => simp [intOf]; omega
        · obtain rfl : j = 8 := by omega
          go_wp2
          go_round
          case rel => exact ⟨k + 1, by omega, by go_num, by rw [fold_take _ s k hlt, HF.out, HG.out]⟩
          case measure => simp [intOf]; omega
    · go_wp2
      go_ret
      obtain rfl : k = s.size := by omega
      exact ⟨by rw [not_walk F hl, ← HF.out, List.take_of_length_le (by simp)]; rfl, rfl⟩
theorem ref_odd (G : Nat) (h : G < 18446744073709551616) (ho : G % 2 = 1) : bits .xor .u64 ((G : Int) / 2) 14514072000185962306 = ((st G : Nat) : Int) := by
  have h2 : ((G : Int) / 2) = ((G / 2 : Nat) : Int) := by omega
  have := u64_xor_nat (G / 2) poly (by omega) (by decide)
  unfold st
  rw [if_pos ho, h2, ← this]
  rfl
theorem ref_even (G : Nat) (ho : ¬ G % 2 = 1) : ((G : Int) / 2) = ((st G : Nat) : Int) := by
  unfold st
  rw [if_neg ho]
  omega

set_option maxHeartbeats 400000 in
theorem rmore_any (c : Nat) (hc : c < 18446744073709551616) (s : ByteArray) (hs : s.size ≤ maxLen) (w : World) :
    Calls Tryd.prog 81 #[.int .u64 c, .string s] w fun e w' => e = .returned (.int .u64 (more c s.data.toList : Nat)) ∧ w = w' := by
  unfold maxLen at hs
  have H0 := Lib.hid (show (18446744073709551615 - (c : Int)) = ((top - c : Nat) : Int) from by unfold top; omega)
  go_enter Tryd.func81, Tryd.ntmps81
  go_wp2
  rw [H0.out]
  go_loop [5, 12] (fun z i => ∃ k : Nat, k ≤ s.size ∧ i = .int .i64 k ∧ z = .int .u64 (fold (top - c) (s.data.toList.take k) : Nat)) (fun _ i => s.size - (intOf i).toNat)
  case atStart => exact ⟨0, Nat.zero_le _, rfl, rfl⟩
  case round =>
    obtain ⟨k, hk, rfl, rfl⟩ := hrel
    have hl := fold_lt (top_le c) (s.data.toList.take k)
    generalize hF : fold (top - c) (s.data.toList.take k) = F at *
    have HF := Lib.hid hF
    clear hF
    by_cases hlt : k < s.size
    · go_wp2
      go_loop [5, 21] (fun z i => ∃ j : Nat, j ≤ 8 ∧ i = .int .i64 j ∧ z = .int .u64 (sts j (F ^^^ s[k].toNat) : Nat)) (fun _ i => 8 - (intOf i).toNat)
      case atStart => exact ⟨0, by omega, rfl, by rw [byte_walk F s[k] hl]; rfl⟩
      case round =>
        obtain ⟨j, hj, rfl, rfl⟩ := hrel
        have hl2 : sts j (F ^^^ s[k].toNat) < 2 ^ 64 := sts_lt (Nat.xor_lt_two_pow hl (by have := s[k].toNat_lt; omega))
        generalize hG : sts j (F ^^^ s[k].toNat) = G at *
        have HG := Lib.hid hG
        clear hG
        by_cases hlt2 : j < 8
        · by_cases ho : G % 2 = 1
          · have hb : (((G : Int) % 2) == 1) = true := by simp; omega
            go_wp2
            go_round
            case rel => exact ⟨j + 1, by omega, by go_num, by rw [ref_odd G hl2 ho, sts_succ, HG.out]⟩
            case measure => simp [intOf]; omega
          · have hb : (((G : Int) % 2) == 1) = false := by simp; omega
            go_wp2
            go_round
            case rel => exact ⟨j + 1, by omega, by go_num, by rw [ref_even G ho, sts_succ, HG.out]⟩
            case measure => simp [intOf]; omega
        · obtain rfl : j = 8 := by omega
          go_wp2
          go_round
          case rel => exact ⟨k + 1, by omega, by go_num, by rw [fold_take _ s k hlt, HF.out, HG.out]⟩
          case measure => simp [intOf]; omega
    · go_wp2
      go_ret
      obtain rfl : k = s.size := by omega
      refine ⟨?_, rfl⟩
      have hm : more c s.data.toList = 18446744073709551615 - F := by rw [← HF.out, List.take_of_length_le (by simp)]; rfl
      have he : ((18446744073709551615 - F : Nat) : Int) = 18446744073709551615 - (F : Int) := by have := hl; omega
      rw [hm, he]
      rfl

theorem of_any (s : ByteArray) (hs : s.size ≤ maxLen) (w : World) :
    Calls Tryd.prog 64 #[.string s] w fun e w' => e = .returned (.int .u64 (more 0 s.data.toList : Nat)) ∧ w = w' := by
  go_enter Tryd.func64, Tryd.ntmps64
  go_wp2_with (go_at_call 80; refine (more_any 0 (by omega) s hs _).mono ?_; rintro e w' ⟨rfl, rfl⟩)
  go_ret
  exact ⟨rfl, rfl⟩
theorem rof_any (s : ByteArray) (hs : s.size ≤ maxLen) (w : World) :
    Calls Tryd.prog 65 #[.string s] w fun e w' => e = .returned (.int .u64 (more 0 s.data.toList : Nat)) ∧ w = w' := by
  go_enter Tryd.func65, Tryd.ntmps65
  go_wp2_with (go_at_call 81; refine (rmore_any 0 (by omega) s hs _).mono ?_; rintro e w' ⟨rfl, rfl⟩)
  go_ret
  exact ⟨rfl, rfl⟩
end Go.Proofs.YtfjmcklmoebnaaaDoor.CrcW
