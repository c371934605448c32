/- How texts stand in order: what the program's and the document's functions answer. -/
import Derived.Test.YtancbkmgbhigpaaOctPut
import Derived.BigRegion
import Derived.RegionTactic
import Derived.BigQuiet
import Derived.Deep.QuietTactic
import Derived.Deep.RegionWith
namespace Go.Proofs.Ytancbkmgbhigpaa.Oct
open Go.RowKit

/-- The last place below k at which a text has no 255; -1: there is none. -/
def nb (s : ByteArray) : Nat → Int
  | 0 => -1
  | k + 1 => if h : k < s.size then (if s[k] = 255 then nb s k else k) else nb s k
theorem nb_255 (s : ByteArray) (k : Nat) (h : k < s.size) (e : s[k] = 255) : nb s (k + 1) = nb s k := by
  show (if h : k < s.size then (if s[k] = 255 then nb s k else k) else nb s k) = _
  rw [dif_pos h, if_pos e]
theorem nb_not (s : ByteArray) (k : Nat) (h : k < s.size) (e : s[k] ≠ 255) : nb s (k + 1) = k := by
  show (if h : k < s.size then (if s[k] = 255 then nb s k else k) else nb s k) = _
  rw [dif_pos h, if_neg e]
theorem nb_lt (s : ByteArray) (k : Nat) : -1 ≤ nb s k ∧ nb s k < k := by
  induction k with
  | zero => exact ⟨Int.le_refl _, by show (-1 : Int) < ((0 : Nat) : Int); decide⟩
  | succ k ih =>
    show -1 ≤ (if h : k < s.size then (if s[k] = 255 then nb s k else k) else nb s k) ∧ (if h : k < s.size then (if s[k] = 255 then nb s k else k) else nb s k) < ((k + 1 : Nat) : Int)
    split
    · split <;> omega
    · omega
theorem nb_at (s : ByteArray) (k j : Nat) (h : nb s k = (j : Int)) : ∃ hj : j < s.size, s[j] ≠ 255 := by
  induction k with
  | zero => have h2 : (-1 : Int) = (j : Int) := h; omega
  | succ k ih =>
    by_cases hk : k < s.size
    · by_cases e : s[k] = 255
      · rw [nb_255 s k hk e] at h
        exact ih h
      · rw [nb_not s k hk e] at h
        obtain rfl : k = j := by omega
        exact ⟨hk, e⟩
    · have h2 : nb s (k + 1) = nb s k := by
        show (if h : k < s.size then (if s[k] = 255 then nb s k else k) else nb s k) = _
        rw [dif_neg hk]
      rw [h2] at h
      exact ih h
/-- The least text above all that begin with one, where there is one. -/
def bey (s : ByteArray) (j : Nat) (h : j < s.size) : ByteArray := s.extract 0 j ++ strOfNums [((s[j].toNat : Int) + 1) % 256]

theorem test_255 (b : UInt8) (h : b = 255) : ((b.toNat : Int) == 255) = true := by rw [h]; rfl
theorem test_not (b : UInt8) (h : b ≠ 255) : ((b.toNat : Int) == 255) = false := beq_eq_false_iff_ne.2 (fun e => h (UInt8.toNat_inj.1 (by
  have : b.toNat = 255 := by omega
  rw [this]; rfl)))
theorem beyond_none (s : ByteArray) (hm : s.size ≤ maxLen) (hn : nb s s.size = -1) (w : World) :
    Calls Try.prog 21 #[.string s] w fun e w' => e = .returned (.tuple #[.string ⟨#[]⟩, .bool false]) ∧ w = w' := by
  unfold maxLen at hm
  have HN := Lib.hid hn
  clear hn
  go_enter Try.func21, Try.ntmps21
  go_wp2
  go_loop [4] (fun z => (z = .int .i64 (-1)) ∨ (∃ j : Nat, j < s.size ∧ z = .int .i64 j ∧ nb s (j + 1) = nb s s.size)) (fun z => (intOf z + 1).toNat)
  case atStart =>
    by_cases h0 : s.size = 0
    · left
      rw [h0]
      rfl
    · right
      refine ⟨s.size - 1, by omega, ?_, by rw [Nat.sub_add_cancel (by omega)]⟩
      congr 1
      omega
  case round =>
    rcases hrel with rfl | ⟨j, hj, rfl, hb⟩
    · go_wp2
      go_ret2
      exact ⟨rfl, rfl⟩
    · have e : s[j] = 255 := by
        rcases Classical.em (s[j] = 255) with e | e
        · exact e
        · rw [nb_not s j hj e, HN.out] at hb
          omega
      have t1 := test_255 _ e
      rw [nb_255 s j hj e] at hb
      have HB := Lib.hid hb
      clear hb e
      go_wp2
      go_round
      case rel =>
        by_cases h0 : j = 0
        · subst h0
          exact .inl rfl
        · refine .inr ⟨j - 1, by omega, ?_, by rw [Nat.sub_add_cancel (by omega)]; exact HB.out⟩
          congr 1
          omega
      case measure => simp [intOf]
theorem conv_one (wr : World) (x : Int) : (convert 22 9 (.slice (some ⟨wr.heap.size, 0, none⟩) 1 1)).run Try.prog (wr.alloc (.cells #[.int .u8 x] 5)).drew = .ok (.string (strOfNums [x])) (wr.alloc (.cells #[.int .u8 x] 5)).drew :=
  run_convert_bytes_arg (P := Try.prog) (wr.alloc (.cells #[.int .u8 x] 5)).drew 22 5 Try.underlying22 Try.underlying5 wr.heap.size 0 1 1 [x] rfl
    (fun i hi => by
      obtain rfl : i = 0 := by omega
      show (wr.alloc _).cell? _ = _
      rw [World.cell?_alloc_at _ _ _ _ rfl]
      rfl) 9 Try.underlying9
theorem extract_size (s : ByteArray) (q : Nat) (hq : q < s.size) : (s.extract 0 q).size = q := by
  rw [ByteArray.size_extract]; omega
set_option maxRecDepth 100000 in
set_option maxHeartbeats 1000000 in
theorem beyond_some (s : ByteArray) (hm : s.size ≤ 1048576) (q : Nat) (hq : q < s.size) (hn : nb s s.size = (q : Int)) (w : World) :
    Calls Try.prog 21 #[.string s] w fun e w' => e = .returned (.tuple #[.string (bey s q hq), .bool true]) ∧ Below w.heap.size w w' := by
  have HN := Lib.hid hn
  clear hn
  go_enter Try.func21, Try.ntmps21
  go_wp2
  go_loop [4] (fun z => ∃ j : Nat, j < s.size ∧ z = .int .i64 j ∧ nb s (j + 1) = nb s s.size) (fun z => (intOf z + 1).toNat)
  case atStart =>
    refine ⟨s.size - 1, by omega, ?_, by rw [Nat.sub_add_cancel (by omega)]⟩
    congr 1
    omega
  case round =>
    obtain ⟨j, hj, rfl, hb⟩ := hrel
    by_cases e : s[j] = 255
    · have t1 := test_255 _ e
      rw [nb_255 s j hj e] at hb
      have h0 : j ≠ 0 := by
        rintro rfl
        rw [HN.out] at hb
        have h2 : (-1 : Int) = (q : Int) := hb
        omega
      have HB := Lib.hid hb
      clear hb e
      go_wp2
      go_round
      case rel =>
        refine ⟨j - 1, by omega, ?_, by rw [Nat.sub_add_cancel (by omega)]; exact HB.out⟩
        congr 1
        omega
      case measure => simp [intOf]
    · have t1 := test_not _ e
      rw [nb_not s j hj e, HN.out] at hb
      obtain rfl : j = q := by omega
      clear hb HN
      have kc := conv_one w (((s[j].toNat : Int) + 1) % 256)
      have h2 := extract_size s j hj
      have hle : j ≤ s.size := by omega
      have hn1 : (strOfNums [((s[j].toNat : Int) + 1) % 256]).size = 1 := by simp [strOfNums_size]
      go_wp2_with fail
      go_region
      all_goals (go_wp2; go_ret2; exact ⟨rfl, ((Below.refl _ w).alloc (Nat.le_refl _) _).drew⟩)
end Go.Proofs.Ytancbkmgbhigpaa.Oct
