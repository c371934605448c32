/- Sealing and opening: what the program's and the document's functions answer, as contracts. -/
import Derived.Test.YtfjmcklmoebnaaaDoorCrcWalk
import Derived.Laws.NewBlocks
import Derived.Laws.BytesArg
import Derived.Laws.BytesString
import Derived.Deep.LoopGhost
import Derived.Below
namespace Go.Proofs.YtfjmcklmoebnaaaDoor.CrcW
open Go.RowKit
open Go.Proofs.YtfjmcklmoebnaaaDoor.CrcM

/-- The eight bytes of a sum, the lowest first. -/
def le8 (n : Nat) : List Int := (List.range 8).map fun i => ((n / 2 ^ (8 * i) % 256 : Nat) : Int)
def cellAt (n k i : Nat) : Value := if i < k then .int .u8 ((n / 2 ^ (8 * i) % 256 : Nat) : Int) else .int .u8 0
def cellsK (n k : Nat) : Array Value := ((List.range 8).map (cellAt n k)).toArray
theorem cellsK_get (n k i : Nat) (h : i < 8) : (cellsK n k)[i]? = some (cellAt n k i) := by
  simp [cellsK, List.getElem?_range h]
theorem cellsK_size (n k : Nat) : (cellsK n k).size = 8 := by simp [cellsK]
theorem cellsK_set (n k : Nat) (h : k < 8) : (cellsK n k).setIfInBounds k (.int .u8 ((n / 2 ^ (8 * k) % 256 : Nat) : Int)) = cellsK n (k + 1) := by
  apply Array.ext_getElem?
  intro i
  rw [Array.getElem?_setIfInBounds]
  by_cases hi : i < 8
  · rw [cellsK_get _ _ _ hi, cellsK_get _ _ _ hi]
    by_cases e : k = i
    · subst e
      rw [if_pos rfl, if_pos (by rw [cellsK_size]; exact h)]
      simp [cellAt]
    · rw [if_neg e]
      unfold cellAt
      by_cases h2 : i < k
      · rw [if_pos h2, if_pos (by omega)]
      · rw [if_neg h2, if_neg (by omega)]
  · rw [if_neg (by omega), Array.getElem?_eq_none (by rw [cellsK_size]; omega), Array.getElem?_eq_none (by rw [cellsK_size]; omega)]
theorem cellsK_zero (n : Nat) : cellsK n 0 = #[.int .u8 0, .int .u8 0, .int .u8 0, .int .u8 0, .int .u8 0, .int .u8 0, .int .u8 0, .int .u8 0] := by
  simp [cellsK, cellAt, List.range, List.range.loop]
theorem shr_walk (n k : Nat) (h : k < 8) : IntKind.u8.wrap ((n : Int) / 2 ^ min (8 * k) 64) = ((n / 2 ^ (8 * k) % 256 : Nat) : Int) := by
  rw [Nat.min_eq_left (by omega), IntKind.wrap_u8']
  simp

theorem byte_num (n k : Nat) : ((n / 2 ^ (8 * k) % 256 : Nat) : Int) = (n : Int) / 2 ^ (8 * k) % 256 := by simp

/-- The bytes of a text, sealed. -/
def sealB (s : ByteArray) : ByteArray := s ++ strOfNums (le8 (more 0 s.data.toList))

set_option maxHeartbeats 400000 in
theorem seal_any (s : ByteArray) (hs : s.size ≤ 4096) (w : World) :
    Calls Tryd.prog 38 #[.string s] w fun e w' => e = .returned (.string (sealB s)) ∧ Below w.heap.size w w' := by
  have hm : s.size ≤ maxLen := by unfold maxLen; omega
  go_enter Tryd.func38, Tryd.ntmps38
  go_wp2_with (go_at_call 64; refine (of_any s hm _).mono ?_; rintro e w' ⟨rfl, rfl⟩)
  have hml := more_lt 0 s.data.toList
  generalize hM : more 0 s.data.toList = M at *
  have HM := Lib.hid hM
  clear hM
  have hz := cellsK_zero M
  rw [← hz]
  clear hz
  go_loopw [8] (fun i wr => ∃ k : Nat, k ≤ 8 ∧ i = .int .i64 k ∧ wr = w.alloc (.cells (cellsK M k) 88)) (fun i _ => 8 - (intOf i).toNat)
  case atStart => exact ⟨0, by omega, rfl, rfl⟩
  case round =>
    obtain ⟨k, hk, rfl, rfl⟩ := hrel
    by_cases hlt : k < 8
    · have hg := cellsK_get M k k hlt
      have hsz := cellsK_size M k
      go_wp2
      go_roundw
      case rel => exact ⟨k + 1, by omega, by go_num, by rw [← cellsK_set M k hlt, byte_num]⟩
      case measure => simp [intOf]; omega
    · obtain rfl : k = 8 := by omega
      have hn : (strOfNums (le8 M)).size = 8 := by simp [strOfNums_size, le8]
      have kc := run_convert_bytes_arg (P := Tryd.prog) (w.alloc (.cells (cellsK M 8) 88)) 41 5 Tryd.underlying41 Tryd.underlying5 w.heap.size 0 8 8 (le8 M) (by simp [le8])
        (fun i hi => by
          rw [World.cell?_alloc_at _ _ _ _ rfl, Nat.zero_add, cellsK_get _ _ _ hi]
          simp [cellAt, hi, le8]) 9 Tryd.underlying9
      go_wp2
      go_ret
      exact ⟨by unfold sealB; rw [HM.out]; rfl, (Below.refl _ _).alloc (Nat.le_refl _) _⟩

theorem le8_step (M k : Nat) (h : k < 8) : (le8 M).take (k + 1) = (le8 M).take k ++ [((M / 256 ^ k % 256 : Nat) : Int)] := by
  rw [List.take_succ_eq_append_getElem (by simpa [le8] using h)]
  simp [le8, Nat.pow_mul]
theorem div_step (M k : Nat) : M / 256 ^ k / 256 = M / 256 ^ (k + 1) := by rw [Nat.div_div_eq_div_mul, Nat.pow_succ]
theorem strOfNums_append (x y : List Int) : strOfNums (x ++ y) = strOfNums x ++ strOfNums y := by
  unfold strOfNums
  rw [List.map_append]
  exact (ByteArray.mk_append_mk _ _).symm

theorem append_nil (s : ByteArray) : s ++ strOfNums [] = s := by
  apply ByteArray.ext
  rw [ByteArray.data_append]
  simp [strOfNums]
theorem append_assoc (a b c : ByteArray) : a ++ (b ++ c) = a ++ b ++ c := by
  apply ByteArray.ext
  simp only [ByteArray.data_append, Array.append_assoc]
theorem conv_one (wr : World) (x : Int) : (convert 41 9 (.slice (some ⟨wr.heap.size, 0, none⟩) 1 1)).run Tryd.prog (wr.alloc (.cells #[.int .u8 x] 5)) = .ok (.string (strOfNums [x])) (wr.alloc (.cells #[.int .u8 x] 5)) :=
  run_convert_bytes_arg (P := Tryd.prog) (wr.alloc (.cells #[.int .u8 x] 5)) 41 5 Tryd.underlying41 Tryd.underlying5 wr.heap.size 0 1 1 [x] rfl
    (fun i hi => by
      obtain rfl : i = 0 := by omega
      rw [World.cell?_alloc_at _ _ _ _ rfl]
      rfl) 9 Tryd.underlying9

set_option maxRecDepth 100000 in
set_option maxHeartbeats 400000 in
theorem rseal_any (s : ByteArray) (hs : s.size ≤ 100000) (w : World) :
    Calls Tryd.prog 43 #[.string s] w fun e w' => e = .returned (.string (sealB s)) ∧ Below w.heap.size w w' := by
  have hm : s.size ≤ maxLen := by unfold maxLen; omega
  go_enter Tryd.func43, Tryd.ntmps43
  go_wp2_with (go_at_call 65; refine (rof_any s hm _).mono ?_; rintro e w' ⟨rfl, rfl⟩)
  have hml := more_lt 0 s.data.toList
  generalize hM : more 0 s.data.toList = M at *
  have HM := Lib.hid hM
  clear hM
  go_loopw [3, 4, 8] (fun t m i wr => ∃ k : Nat, k ≤ 8 ∧ i = .int .i64 k ∧ m = .int .u64 (M / 256 ^ k : Nat) ∧ t = .string (s ++ strOfNums ((le8 M).take k)) ∧ Below w.heap.size w wr) (fun _ _ i _ => 8 - (intOf i).toNat)
  case atStart => exact ⟨0, by omega, rfl, by simp, by rw [List.take_zero]; exact congrArg Value.string (append_nil s).symm, Below.refl _ _⟩
  case round =>
    obtain ⟨k, hk, rfl, rfl, rfl, hb⟩ := hrel
    have hq : M / 256 ^ k < 18446744073709551616 := Nat.lt_of_le_of_lt (Nat.div_le_self _ _) hml
    have hd := div_step M k
    generalize hQ : M / 256 ^ k = Q at *
    have HQ := Lib.hid hQ
    have HD := Lib.hid hd
    clear hQ hd
    by_cases hlt : k < 8
    · have hn : (strOfNums ((le8 M).take k)).size ≤ 8 := by simp [strOfNums_size, le8]; omega
      have kc := conv_one wr ((Q : Int) % 256)
      have hn1 : (strOfNums [(Q : Int) % 256]).size ≤ 1 := by simp [strOfNums_size]
      go_wp2
      go_roundw
      case rel => exact ⟨k + 1, by omega, by go_num, by rw [← HD.out]; rfl, by rw [le8_step M k hlt, strOfNums_append, HQ.out, append_assoc]; rfl, hb.alloc hb.size _⟩
      case measure => simp [intOf]; omega
    · obtain rfl : k = 8 := by omega
      go_wp2
      go_ret
      exact ⟨by unfold sealB; rw [HM.out, List.take_of_length_le (by simp [le8])]; rfl, hb⟩
end Go.Proofs.YtfjmcklmoebnaaaDoor.CrcW
