/- The document's PutText: contract. -/
import Derived.Test.YtfjmcklmoebnaaaDoorStRPut
namespace Go.Proofs.YtfjmcklmoebnaaaDoor.Oct
open Go.RowKit

set_option maxRecDepth 100000 in
set_option maxHeartbeats 1000000 in
theorem rptext_short (A : Option Addr) (n cap : Nat) (l : List UInt8) (s : ByteArray) (hn : n ≤ 900000) (hs : s.size < 65535) (w : World) (h : RowB w A n l) (h0 : A = none → n = 0 ∧ cap = 0) :
    Calls Tryd.prog 42 #[.slice A n cap, .string s] w fun e w' => ∃ v, e = .returned v ∧ Owns w' w.heap.size v (l ++ putL s.size 2 ++ s.data.toList.take s.size) ∧ Below w.heap.size w w' := by
  obtain ⟨i0, hi, hz0, hz1, hz2⟩ := info_parts info_u8
  have HI := Lib.hid (And.intro hi (And.intro hz0 (And.intro hz1 hz2)))
  clear hi hz0 hz1 hz2
  have HP := rput_any A n cap (s.size : Int) 2 l (by omega) w h h0
  have hKs : s.size ≤ s.size := by omega
  have hK6 : s.size ≤ 65535 := by omega
  rw [if_neg (by omega), IntKind.wrap_u64, show ((s.size : Int) % 18446744073709551616).toNat = s.size by omega, show (2 : Int).toNat = 2 from rfl] at HP
  have HW := Lib.hid HP
  have HL := Lib.hid (show (l ++ putL s.size 2).length ≤ 900002 by rw [List.length_append, putL_len, h.1]; omega)
  have g1 : (s.size : Int) < 65535 := by omega
  have g2 : ¬ 65535 < (s.size : Int) := by omega
  clear h h0 HP
  go_enter Tryd.func42, Tryd.ntmps42
  go_wp2_with fail
  refine HW.out.mono ?_
  rintro e w1 ⟨v, rfl, hown, hb⟩
  clear HW
  obtain ⟨L, hL⟩ : ∃ L, L = l ++ putL s.size 2 := ⟨_, rfl⟩
  rw [← hL] at hown HL
  have HLe := Lib.hid hL
  clear hL
  go_wp2_with fail
  go_loopw [6, 15] (fun v i wr => ∃ j : Nat, j ≤ s.size ∧ i = .int .i64 j ∧ Owns wr w.heap.size v (L ++ s.data.toList.take j) ∧ Below w.heap.size w wr) (fun _ i _ => s.size - (intOf i).toNat)
  case atStart => exact ⟨0, Nat.zero_le _, rfl, by rw [List.take_zero, List.append_nil]; exact hown, hb⟩
  case round =>
    obtain ⟨j, hj, rfl, ho, hb1⟩ := hrel
    by_cases hlt : j < s.size
    · have hjs : j < s.size := by omega
      have hlen := Lib.hid (show (L ++ s.data.toList.take j).length ≤ 970000 by have := HL.out; rw [List.length_append, List.length_take]; omega)
      have hnx : L ++ s.data.toList.take (j + 1) = (L ++ s.data.toList.take j) ++ [s[j]] := by
        rw [List.take_succ_eq_append_getElem (by simpa using hjs), ← List.append_assoc]
        rfl
      generalize L ++ s.data.toList.take j = M at *
      have HN := Lib.hid hnx
      have HO := Lib.hid ho
      have hk4 := Lib.hid (fun (x : Value) => show w.heap.size ≤ (wr.alloc (.cells #[x] 5)).heap.size by have := hb1.size; simp; omega)
      have hk2 := Lib.hid (show M.length + 1 ≤ maxLen by have := hlen.out; unfold maxLen; omega)
      have hk3 := Lib.hid (show (M.length + 1) * 1 ≤ 140737488355328 by have := hlen.out; omega)
      clear hnx ho
      go_wp2_with (at_builtin; (refine wpList_append_own (wr.alloc (.cells #[.int .u8 (s[j].toNat : Int)] 5)) rfl _ _ _ rfl w.heap.size 5 i0 (.int .u8 0) 1 1 Tryd.underlying41 HI.out.1 HI.out.2.1 HI.out.2.2.1 HI.out.2.2.2 rfl (by decide) _ M.length (M.map bv) rfl (World.ownsRow.alloc HO.out _) ⟨wr.heap.size, 0, none⟩ 1 1 [.int .u8 (s[j].toNat : Int)] rfl rfl (cell_one_new _ _ _) (bytes_one [s[j]]) hk2.out hk3.out (hk4.out _) ?_))
      intro v' w2 o2 b2 _
      go_wp2
      go_roundw
      case rel =>
        refine ⟨j + 1, by omega, by go_num, ?_, (hb1.alloc hb1.size _).grown b2 (by simp; exact Nat.le_trans hb1.size (Nat.le_succ _)) (fun q hq => (World.ownsRow.lt HO.out q hq).1)⟩
        unfold Owns
        rw [HN.out, List.length_append, List.map_append, List.map_singleton]
        exact o2
      case measure => simp [intOf]; omega
    · obtain rfl : j = s.size := by omega
      go_wp2
      go_ret
      exact ⟨_, rfl, by rw [← HLe.out]; exact ho, hb1⟩
set_option maxRecDepth 100000 in
set_option maxHeartbeats 1000000 in
theorem rptext_even (A : Option Addr) (n cap : Nat) (l : List UInt8) (s : ByteArray) (hn : n ≤ 900000) (hs : s.size = 65535) (w : World) (h : RowB w A n l) (h0 : A = none → n = 0 ∧ cap = 0) :
    Calls Tryd.prog 42 #[.slice A n cap, .string s] w fun e w' => ∃ v, e = .returned v ∧ Owns w' w.heap.size v (l ++ putL 65535 2 ++ s.data.toList.take 65535) ∧ Below w.heap.size w w' := by
  obtain ⟨i0, hi, hz0, hz1, hz2⟩ := info_parts info_u8
  have HI := Lib.hid (And.intro hi (And.intro hz0 (And.intro hz1 hz2)))
  clear hi hz0 hz1 hz2
  have HP := rput_any A n cap 65535 2 l (by omega) w h h0
  have hKs : 65535 ≤ s.size := by omega
  have hK6 : 65535 ≤ 65535 := by omega
  rw [if_neg (by omega), IntKind.wrap_u64, show ((65535 : Int) % 18446744073709551616).toNat = 65535 from rfl, show (2 : Int).toNat = 2 from rfl] at HP
  have HW := Lib.hid HP
  have HL := Lib.hid (show (l ++ putL 65535 2).length ≤ 900002 by rw [List.length_append, putL_len, h.1]; omega)
  have g1 : ¬ (s.size : Int) < 65535 := by omega
  have g2 : ¬ 65535 < (s.size : Int) := by omega
  clear h h0 HP
  go_enter Tryd.func42, Tryd.ntmps42
  go_wp2_with fail
  refine HW.out.mono ?_
  rintro e w1 ⟨v, rfl, hown, hb⟩
  clear HW
  obtain ⟨L, hL⟩ : ∃ L, L = l ++ putL 65535 2 := ⟨_, rfl⟩
  rw [← hL] at hown HL
  have HLe := Lib.hid hL
  clear hL
  obtain ⟨K, hK⟩ : ∃ K : Nat, (K : Int) = 65535 := ⟨65535, rfl⟩
  rw [← hK]
  have HK := Lib.hid (show K = 65535 by omega)
  have hKs : K ≤ s.size := by omega
  have hK6 : K ≤ 65535 := by omega
  clear hK hs g1 g2
  go_wp2_with fail
  go_loopw [6, 15] (fun v i wr => ∃ j : Nat, j ≤ K ∧ i = .int .i64 j ∧ Owns wr w.heap.size v (L ++ s.data.toList.take j) ∧ Below w.heap.size w wr) (fun _ i _ => K - (intOf i).toNat)
  case atStart => exact ⟨0, Nat.zero_le _, rfl, by rw [List.take_zero, List.append_nil]; exact hown, hb⟩
  case round =>
    obtain ⟨j, hj, rfl, ho, hb1⟩ := hrel
    by_cases hlt : j < K
    · have hjs : j < s.size := by omega
      have hlen := Lib.hid (show (L ++ s.data.toList.take j).length ≤ 970000 by have := HL.out; rw [List.length_append, List.length_take]; omega)
      have hnx : L ++ s.data.toList.take (j + 1) = (L ++ s.data.toList.take j) ++ [s[j]] := by
        rw [List.take_succ_eq_append_getElem (by simpa using hjs), ← List.append_assoc]
        rfl
      generalize L ++ s.data.toList.take j = M at *
      have HN := Lib.hid hnx
      have HO := Lib.hid ho
      have hk4 := Lib.hid (fun (x : Value) => show w.heap.size ≤ (wr.alloc (.cells #[x] 5)).heap.size by have := hb1.size; simp; omega)
      have hk2 := Lib.hid (show M.length + 1 ≤ maxLen by have := hlen.out; unfold maxLen; omega)
      have hk3 := Lib.hid (show (M.length + 1) * 1 ≤ 140737488355328 by have := hlen.out; omega)
      clear hnx ho
      go_wp2_with (at_builtin; (refine wpList_append_own (wr.alloc (.cells #[.int .u8 (s[j].toNat : Int)] 5)) rfl _ _ _ rfl w.heap.size 5 i0 (.int .u8 0) 1 1 Tryd.underlying41 HI.out.1 HI.out.2.1 HI.out.2.2.1 HI.out.2.2.2 rfl (by decide) _ M.length (M.map bv) rfl (World.ownsRow.alloc HO.out _) ⟨wr.heap.size, 0, none⟩ 1 1 [.int .u8 (s[j].toNat : Int)] rfl rfl (cell_one_new _ _ _) (bytes_one [s[j]]) hk2.out hk3.out (hk4.out _) ?_))
      intro v' w2 o2 b2 _
      go_wp2
      go_roundw
      case rel =>
        refine ⟨j + 1, by omega, by go_num, ?_, (hb1.alloc hb1.size _).grown b2 (by simp; exact Nat.le_trans hb1.size (Nat.le_succ _)) (fun q hq => (World.ownsRow.lt HO.out q hq).1)⟩
        unfold Owns
        rw [HN.out, List.length_append, List.map_append, List.map_singleton]
        exact o2
      case measure => simp [intOf]; omega
    · obtain rfl : j = K := by omega
      go_wp2
      go_ret
      exact ⟨u6, rfl, by rw [← HLe.out, ← HK.out]; exact ho, hb1⟩
set_option maxRecDepth 100000 in
set_option maxHeartbeats 1000000 in
theorem rptext_long (A : Option Addr) (n cap : Nat) (l : List UInt8) (s : ByteArray) (hn : n ≤ 900000) (hs : 65535 < s.size) (w : World) (h : RowB w A n l) (h0 : A = none → n = 0 ∧ cap = 0) :
    Calls Tryd.prog 42 #[.slice A n cap, .string s] w fun e w' => ∃ v, e = .returned v ∧ Owns w' w.heap.size v (l ++ putL 65535 2 ++ s.data.toList.take 65535) ∧ Below w.heap.size w w' := by
  obtain ⟨i0, hi, hz0, hz1, hz2⟩ := info_parts info_u8
  have HI := Lib.hid (And.intro hi (And.intro hz0 (And.intro hz1 hz2)))
  clear hi hz0 hz1 hz2
  have HP := rput_any A n cap 65535 2 l (by omega) w h h0
  have hKs : 65535 ≤ s.size := by omega
  have hK6 : 65535 ≤ 65535 := by omega
  rw [if_neg (by omega), IntKind.wrap_u64, show ((65535 : Int) % 18446744073709551616).toNat = 65535 from rfl, show (2 : Int).toNat = 2 from rfl] at HP
  have HW := Lib.hid HP
  have HL := Lib.hid (show (l ++ putL 65535 2).length ≤ 900002 by rw [List.length_append, putL_len, h.1]; omega)
  have g1 : ¬ (s.size : Int) < 65535 := by omega
  have g2 : 65535 < (s.size : Int) := by omega
  clear h h0 HP
  go_enter Tryd.func42, Tryd.ntmps42
  go_wp2_with fail
  refine HW.out.mono ?_
  rintro e w1 ⟨v, rfl, hown, hb⟩
  clear HW
  obtain ⟨L, hL⟩ : ∃ L, L = l ++ putL 65535 2 := ⟨_, rfl⟩
  rw [← hL] at hown HL
  have HLe := Lib.hid hL
  clear hL
  obtain ⟨K, hK⟩ : ∃ K : Nat, (K : Int) = 65535 := ⟨65535, rfl⟩
  rw [← hK]
  have HK := Lib.hid (show K = 65535 by omega)
  have hKs : K ≤ s.size := by omega
  have hK6 : K ≤ 65535 := by omega
  clear hK hs g1 g2
  go_wp2_with fail
  go_loopw [6, 15] (fun v i wr => ∃ j : Nat, j ≤ K ∧ i = .int .i64 j ∧ Owns wr w.heap.size v (L ++ s.data.toList.take j) ∧ Below w.heap.size w wr) (fun _ i _ => K - (intOf i).toNat)
  case atStart => exact ⟨0, Nat.zero_le _, rfl, by rw [List.take_zero, List.append_nil]; exact hown, hb⟩
  case round =>
    obtain ⟨j, hj, rfl, ho, hb1⟩ := hrel
    by_cases hlt : j < K
    · have hjs : j < s.size := by omega
      have hlen := Lib.hid (show (L ++ s.data.toList.take j).length ≤ 970000 by have := HL.out; rw [List.length_append, List.length_take]; omega)
      have hnx : L ++ s.data.toList.take (j + 1) = (L ++ s.data.toList.take j) ++ [s[j]] := by
        rw [List.take_succ_eq_append_getElem (by simpa using hjs), ← List.append_assoc]
        rfl
      generalize L ++ s.data.toList.take j = M at *
      have HN := Lib.hid hnx
      have HO := Lib.hid ho
      have hk4 := Lib.hid (fun (x : Value) => show w.heap.size ≤ (wr.alloc (.cells #[x] 5)).heap.size by have := hb1.size; simp; omega)
      have hk2 := Lib.hid (show M.length + 1 ≤ maxLen by have := hlen.out; unfold maxLen; omega)
      have hk3 := Lib.hid (show (M.length + 1) * 1 ≤ 140737488355328 by have := hlen.out; omega)
      clear hnx ho
      go_wp2_with (at_builtin; (refine wpList_append_own (wr.alloc (.cells #[.int .u8 (s[j].toNat : Int)] 5)) rfl _ _ _ rfl w.heap.size 5 i0 (.int .u8 0) 1 1 Tryd.underlying41 HI.out.1 HI.out.2.1 HI.out.2.2.1 HI.out.2.2.2 rfl (by decide) _ M.length (M.map bv) rfl (World.ownsRow.alloc HO.out _) ⟨wr.heap.size, 0, none⟩ 1 1 [.int .u8 (s[j].toNat : Int)] rfl rfl (cell_one_new _ _ _) (bytes_one [s[j]]) hk2.out hk3.out (hk4.out _) ?_))
      intro v' w2 o2 b2 _
      go_wp2
      go_roundw
      case rel =>
        refine ⟨j + 1, by omega, by go_num, ?_, (hb1.alloc hb1.size _).grown b2 (by simp; exact Nat.le_trans hb1.size (Nat.le_succ _)) (fun q hq => (World.ownsRow.lt HO.out q hq).1)⟩
        unfold Owns
        rw [HN.out, List.length_append, List.map_append, List.map_singleton]
        exact o2
      case measure => simp [intOf]; omega
    · obtain rfl : j = K := by omega
      go_wp2
      go_ret
      exact ⟨u6, rfl, by rw [← HLe.out, ← HK.out]; exact ho, hb1⟩
theorem head_putL (n : Nat) (h : n < 65536) : putL n 2 = headT n := by
  unfold putL headT
  rw [show List.range 2 = [0, 1] from rfl, List.map_cons, List.map_cons, List.map_nil]
  have e1 : n / 2 ^ (8 * (2 - 1 - 0)) % 256 = n / 256 := by
    rw [show 2 ^ (8 * (2 - 1 - 0)) = 256 from by decide]
    omega
  have e2 : n / 2 ^ (8 * (2 - 1 - 1)) % 256 = n % 256 := by
    rw [show 2 ^ (8 * (2 - 1 - 1)) = 1 from by decide, Nat.div_one]
  rw [e1, e2]
theorem rptext_any (A : Option Addr) (n cap : Nat) (l : List UInt8) (s : ByteArray) (hn : n ≤ 900000) (w : World) (h : RowB w A n l) (h0 : A = none → n = 0 ∧ cap = 0) :
    Calls Tryd.prog 42 #[.slice A n cap, .string s] w fun e w' => ∃ v, e = .returned v ∧ Owns w' w.heap.size v (l ++ headT (cutT s).length ++ cutT s) ∧ Below w.heap.size w w' := by
  rcases Nat.lt_trichotomy s.size 65535 with hs | hs | hs
  · have h1 := rptext_short A n cap l s hn hs w h h0
    have e : s.data.toList.take s.size = cutT s := by unfold cutT; rw [List.take_of_length_le (by simp), List.take_of_length_le (by simp; omega)]
    have e2 : (cutT s).length = s.size := by rw [← e]; simp
    rw [e, head_putL _ (by omega), ← e2] at h1
    exact h1
  · have h1 := rptext_even A n cap l s hn hs w h h0
    have e2 : (cutT s).length = 65535 := by unfold cutT; simp; omega
    rw [head_putL _ (by omega)] at h1
    rw [e2]
    exact h1
  · have h1 := rptext_long A n cap l s hn hs w h h0
    have e2 : (cutT s).length = 65535 := by unfold cutT; simp; omega
    rw [head_putL _ (by omega)] at h1
    rw [e2]
    exact h1
end Go.Proofs.YtfjmcklmoebnaaaDoor.Oct
