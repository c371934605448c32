/- How a beginning lies on a device: contract; what a looking is asked that must hold. -/
import Derived.Test.YtidkckapjelbmaaStA
import Derived.Lib.SlBytesConst
namespace Go.Proofs.Ytidkckapjelbmaa.Sto
open Go.RowKit Go.Proofs.Ytidkckapjelbmaa.Oct
open Rws

theorem one_row (w : World) (x : UInt8) (fr : Nat × Nat) : RowB (w.alloc (.cells #[.int .u8 (x.toNat : Int)] 5 fr)) (some ⟨w.heap.size, 0, none⟩) 1 [x] := by
  refine ⟨rfl, fun _ => ⟨w.heap.size, 0, rfl, by simp, fun i hi => ?_⟩⟩
  obtain rfl : i = 0 := by simp at hi; exact hi
  have e : (w.alloc (.cells #[.int .u8 (x.toNat : Int)] 5 fr)).heap[w.heap.size]? = some (.cells #[.int .u8 (x.toNat : Int)] 5 fr) := Array.getElem?_push_size
  simp only [World.cell?, e]
  simp
set_option maxRecDepth 100000 in
set_option maxHeartbeats 1000000 in
theorem begin_bytes (gen root size : Int) (note : ByteArray) (hd : note.size ≤ 3900) (w : World) :
    Calls Try.prog 51 #[.agg #[.int .i64 gen, .int .i64 root, .string note], .int .i64 size] w fun e w' => e = .returned (.string (beginB gen root size note)) ∧ Below w.heap.size w w' := by
  have hb0 := (Below.refl w.heap.size w).alloc (Nat.le_refl _) (.cells #[.int .i64 gen, .int .i64 root, .string note] 51)
  have hb1 := hb0.alloc hb0.size (.cells #[.int .u8 83] 5 (1, 2))
  have hr : RowB ((w.alloc (.cells #[.int .i64 gen, .int .i64 root, .string note] 51)).alloc (.cells #[.int .u8 83] 5 (1, 2))) (some ⟨w.heap.size + 1, 0, none⟩) 1 [83] := by
    have h := one_row (w.alloc (.cells #[.int .i64 gen, .int .i64 root, .string note] 51)) 83 (1, 2)
    rw [World.size_alloc] at h
    exact h
  have hf := (Oct.Has.fresh w 51 #[.int .i64 gen, .int .i64 root, .string note]).past (.cells #[.int .u8 83] 5 (1, 2))
  have HP := Lib.hid (put_in (some ⟨w.heap.size + 1, 0, none⟩) 1 1 6 gen _ (by decide) (by decide) (by decide) _ hr (fun h => by cases h))
  have HB := Lib.hid hb1
  have HF := Lib.hid hf
  have hd2 : note.size < 65535 := by omega
  clear hb0 hb1 hr hf
  have kc : (convert 98 98 (.slice (some ⟨w.heap.size + 1, 0, none⟩) 1 1)).run Try.prog ((w.alloc (.cells #[.int .i64 gen, .int .i64 root, .string note] 51)).alloc (.cells #[.int .u8 83] 5)) = .ok (.slice (some ⟨w.heap.size + 1, 0, none⟩) 1 1) ((w.alloc (.cells #[.int .i64 gen, .int .i64 root, .string note] 51)).alloc (.cells #[.int .u8 83] 5 (1, 2))) := by
    have h := Lib.run_convert_bytes_const (P := Try.prog) (w.alloc (.cells #[.int .i64 gen, .int .i64 root, .string note] 51)) 98 5 #[.int .u8 83] 1 1 Try.underlying98 Try.underlying5
    rw [World.size_alloc] at h
    exact h
  go_enter Try.func51, Try.ntmps51
  go_wp2_with fail
  refine HP.out.mono ?_
  rintro e w1 ⟨v, rfl, ho, hb⟩
  have HB1 := Lib.hid (HB.out.trans (hb.mono HB.out.size))
  have HF1 := Lib.hid (HF.out.over (Oct.Chg.of_below hb (fun _ => False)) (fun h => h))
  have HO := Lib.hid (show Owns w1 _ v ([83] ++ numB gen 6) from ho)
  clear ho hb HP HB HF kc
  obtain ⟨A1, c1, rfl, hA1⟩ := HO.out.slice
  have b0 := Oct.Has.at_ HF1.out 0
  have b1 := Oct.Has.at_ HF1.out 1
  have b2 := Oct.Has.at_ HF1.out 2
  simp at b0 b1 b2
  have HP := Lib.hid (put_in A1 7 c1 4 root _ (by decide) (by decide) (by decide) _ (HO.out.row (by simp [numB_len])) hA1)
  rw [show ([83] ++ numB gen 6 : List UInt8).length = 7 from by simp [numB_len]]
  clear hA1 HO
  go_wp2_with fail
  refine HP.out.mono ?_
  rintro e w2 ⟨v, rfl, ho, hb⟩
  replace HB1 := Lib.hid (HB1.out.trans (hb.mono HB1.out.size))
  replace HF1 := Lib.hid (HF1.out.over (Oct.Chg.of_below hb (fun _ => False)) (fun h => h))
  have HO := Lib.hid (show Owns w2 _ v ([83] ++ numB gen 6 ++ numB root 4) from ho)
  clear ho hb HP b0 b1 b2
  obtain ⟨A2, c2, rfl, hA2⟩ := HO.out.slice
  have b0 := Oct.Has.at_ HF1.out 0
  have b1 := Oct.Has.at_ HF1.out 1
  have b2 := Oct.Has.at_ HF1.out 2
  simp at b0 b1 b2
  have HP := Lib.hid (put_in A2 11 c2 4 size _ (by decide) (by decide) (by decide) _ (HO.out.row (by simp [numB_len])) hA2)
  rw [show ([83] ++ numB gen 6 ++ numB root 4 : List UInt8).length = 11 from by simp [numB_len]]
  clear hA2 HO
  go_wp2_with fail
  refine HP.out.mono ?_
  rintro e w3 ⟨v, rfl, ho, hb⟩
  replace HB1 := Lib.hid (HB1.out.trans (hb.mono HB1.out.size))
  replace HF1 := Lib.hid (HF1.out.over (Oct.Chg.of_below hb (fun _ => False)) (fun h => h))
  have HO := Lib.hid (show Owns w3 _ v ([83] ++ numB gen 6 ++ numB root 4 ++ numB size 4) from ho)
  clear ho hb HP b0 b1 b2
  obtain ⟨A3, c3, rfl, hA3⟩ := HO.out.slice
  have b2 := Oct.Has.at_ HF1.out 2
  simp at b2
  have HP := Lib.hid (ptext_short A3 15 c3 _ note (by decide) hd2 _ (HO.out.row (by simp [numB_len])) hA3)
  rw [show ([83] ++ numB gen 6 ++ numB root 4 ++ numB size 4 : List UInt8).length = 15 from by simp [numB_len]]
  clear hA3 HO
  have HE := Lib.hid (show ([83] ++ numB gen 6 ++ numB root 4 ++ numB size 4 : List UInt8) ++ headT note.size ++ note.data.toList = beginL gen root size note by unfold beginL textL; rw [List.append_assoc])
  have HZ := Lib.hid (show (beginL gen root size note).length ≤ 4096 by unfold beginL; simp [numB_len, textL_len]; omega)
  go_wp2_with fail
  refine HP.out.mono ?_
  rintro e w4 ⟨v2, rfl, ho, hb⟩
  rw [HE.out] at ho
  obtain ⟨A4, c4, rfl, hA4⟩ := ho.slice
  have kc := conv_RowB w4 A4 (beginL gen root size note).length c4 _ (ho.row rfl)
  have HB3 := Lib.hid (HB1.out.trans (hb.mono HB1.out.size))
  clear ho hb HP HB1 HF1 hA4 b2
  obtain ⟨L2, hL2⟩ : ∃ L2, (beginL gen root size note).length = L2 := ⟨_, rfl⟩
  rw [hL2] at kc ⊢
  clear hL2
  go_wp2_with fail
  refine (CrcW.seal_any _ (by rw [arr_size]; exact HZ.out) _).mono ?_
  rintro e w5 ⟨rfl, hb⟩
  have HB4 := Lib.hid (HB3.out.trans (hb.mono HB3.out.size))
  clear hb kc
  go_wp2
  go_ret
  exact ⟨rfl, HB4.out⟩
theorem demand_yes (e : Option Addr) (w : World) :
    Calls Try.prog 69 #[.pointer e, .bool true] w fun x w' => x = .returned (.tuple #[]) ∧ w = w' := by
  go_enter Try.func69, Try.ntmps69
  go_wp2
  go_end0
  exact ⟨rfl, rfl⟩
theorem demand_no (q s : Nat) (r : ByteArray) (w : World) (h : Looks w q s r) :
    Calls Try.prog 69 #[.pointer (some ⟨q, 0, none⟩), .bool false] w fun e w' => e = .panicked (own s) ∧ Sight w' s r true 201 ∧ Oct.Chg (· = s) w w' := by
  have HD := Lib.hid (fail_ok q s 201 r w h)
  clear h
  go_enter Try.func69, Try.ntmps69
  go_wp2_with fail
  refine HD.out.mono ?_
  rintro e w1 ⟨rfl, hs, hc⟩
  clear HD
  go_wp2
  show _ ∧ _
  exact ⟨rfl, rfl, hs, hc⟩
def nameB (id size : Int) : Bool := decide (2 ≤ id) && decide (id < size)
theorem nameable_any (id size : Int) (w : World) :
    Calls Try.prog 70 #[.int .i64 id, .int .i64 size] w fun e w' => e = .returned (.bool (nameB id size)) ∧ w = w' := by
  unfold nameB
  by_cases h1 : 2 ≤ id
  · have d1 : decide (2 ≤ id) = true := decide_eq_true h1
    rw [d1]
    clear h1
    go_enter Try.func70, Try.ntmps70
    go_wp2
    go_ret
    exact ⟨rfl, rfl⟩
  · have d1 : decide (2 ≤ id) = false := decide_eq_false h1
    rw [d1]
    clear h1
    go_enter Try.func70, Try.ntmps70
    go_wp2
    go_ret
    exact ⟨rfl, rfl⟩
end Go.Proofs.Ytidkckapjelbmaa.Sto
