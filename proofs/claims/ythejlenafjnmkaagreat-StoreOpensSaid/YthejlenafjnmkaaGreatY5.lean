/- How a block and a beginning lie, by the document: contracts. -/
import Derived.Test.YthejlenafjnmkaaGreatT2
import Derived.Test.YthejlenafjnmkaaGreatSyO
import Derived.Lib.SlBytesConst
import Derived.Test.YthejlenafjnmkaaGreatT13

namespace Go.Proofs.YthejlenafjnmkaaGreat.Sto
open Go.RowKit Go.Proofs.YthejlenafjnmkaaGreat.Oct
open Rws
set_option linter.unusedVariables false

theorem rput_in (A : Option Addr) (n cap k : Nat) (x : Int) (l : List UInt8) (hn : n ≤ 1048000) (h1 : 1 ≤ k) (h8 : k ≤ 8) (w : World) (h : RowB w A n l) (h0 : A = none → n = 0 ∧ cap = 0) :
    Calls Tryz.prog 78 #[.slice A n cap, .int .i64 x, .int .i64 k] w fun e w' => ∃ v, e = .returned v ∧ Owns w' w.heap.size v (l ++ putL (IntKind.u64.wrap x).toNat k) ∧ Below w.heap.size w w' := by
  have hp := rput_any A n cap x k l hn w h h0
  rw [if_neg (by omega)] at hp
  exact hp
theorem rptext_in (A : Option Addr) (n cap : Nat) (l : List UInt8) (s : ByteArray) (hn : n ≤ 900000) (hs : s.size < 65535) (w : World) (h : RowB w A n l) (h0 : A = none → n = 0 ∧ cap = 0) :
    Calls Tryz.prog 80 #[.slice A n cap, .string s] w fun e w' => ∃ v, e = .returned v ∧ Owns w' w.heap.size v (l ++ headT s.size ++ s.data.toList) ∧ Below w.heap.size w w' := by
  have hp := rptext_short A n cap l s hn hs w h h0
  rw [head_putL _ (by omega), List.take_of_length_le (by simp)] at hp
  exact hp
set_option maxRecDepth 100000 in
set_option maxHeartbeats 1000000 in
theorem rbytes_of (A : Option Addr) (n c : Nat) (kids : List Int) (data : ByteArray) (hk : n ≤ 40) (hd : data.size ≤ 60000) (w : World) (h : NumRow w A n kids) :
    Calls Tryz.prog 67 #[.slice A n c, .string data] w fun e w' => e = .returned (.string (blockB kids data)) ∧ Below w.heap.size w w' := by
  have HR := Lib.hid h
  have HP := Lib.hid (rput_in none 0 0 1 n [] (by decide) (by decide) (by decide) w ⟨rfl, fun h => absurd h (by decide)⟩ (fun _ => ⟨rfl, rfl⟩))
  have HL := Lib.hid h.1
  clear h
  go_enter Tryz.func67, Tryz.ntmps67
  go_wp2_with fail
  refine HP.out.mono ?_
  rintro e w1 ⟨v, rfl, ho, hb⟩
  have HO := Lib.hid (show Owns w1 w.heap.size v (numB n 1 ++ kidsB (kids.take 0)) by simpa [kidsB, numB] using ho)
  have HB := Lib.hid hb
  clear ho hb HP
  go_wp2
  go_loopw [5, 13] (fun v i wr => ∃ j : Nat, j ≤ n ∧ i = .int .i64 j ∧ Hid (Owns wr w.heap.size v (numB n 1 ++ kidsB (kids.take j))) ∧ Hid (Below w.heap.size w wr)) (fun _ i _ => n - (intOf i).toNat)
  case atStart => exact ⟨0, Nat.zero_le _, rfl, HO, HB⟩
  case round =>
    obtain ⟨j, hj, rfl, HO1, HB1⟩ := hrel
    clear HO HB
    by_cases hlt : j < n
    · obtain ⟨A1, c1, rfl, hA1⟩ := HO1.out.slice
      obtain ⟨b, off, rfl, hbl, hcl⟩ := (HR.out.below HB1.out).2 (by omega)
      have hjl : j < kids.length := by rw [HL.out]; exact hlt
      have k1 := hcl j hjl
      have hlen : (numB n 1 ++ kidsB (kids.take j)).length ≤ 161 := by
        rw [List.length_append, numB_len, kidsB_len, List.length_take]
        omega
      have HN := Lib.hid (show numB n 1 ++ kidsB (kids.take (j + 1)) = numB n 1 ++ kidsB (kids.take j) ++ numB kids[j] 4 by
        rw [List.take_succ_eq_append_getElem hjl, kidsB_append, List.append_assoc]
        simp [kidsB])
      have HP := Lib.hid (rput_in A1 (numB n 1 ++ kidsB (kids.take j)).length c1 4 kids[j] _ (by omega) (by decide) (by decide) _ (HO1.out.row rfl) hA1)
      have HB2 := HB1
      generalize kids[j] = kid at *
      clear hcl hA1 HO1 HB1 hbl
      generalize (numB n 1 ++ kidsB (kids.take j)).length = L at *
      go_wp2_with fail
      refine HP.out.mono ?_
      rintro e w2 ⟨v2, rfl, ho, hb⟩
      have HO2 := Lib.hid (owns_low ho HB2.out.size)
      have HB3 := Lib.hid (HB2.out.trans (hb.mono HB2.out.size))
      clear ho hb HP
      go_wp2
      go_roundw
      case rel => exact ⟨j + 1, by omega, by go_num, Lib.hid (by rw [HN.out]; exact HO2.out), HB3⟩
      case measure => simp [intOf]; omega
    · obtain rfl : j = n := by omega
      have hfull : kids.take j = kids := List.take_of_length_le (by rw [HL.out]; exact Nat.le_refl _)
      rw [hfull] at HO1
      obtain ⟨A1, c1, rfl, hA1⟩ := HO1.out.slice
      have hlen : (numB j 1 ++ kidsB kids).length ≤ 161 := by
        rw [List.length_append, numB_len, kidsB_len, HL.out]
        omega
      have HP := Lib.hid (rptext_in A1 (numB j 1 ++ kidsB kids).length c1 _ data (by omega) (by omega) _ (HO1.out.row rfl) hA1)
      have HB2 := HB1
      have HE := Lib.hid (show numB j 1 ++ kidsB kids ++ headT data.size ++ data.data.toList = blockL kids data by unfold blockL textL; rw [HL.out, List.append_assoc, List.append_assoc])
      have HZ := Lib.hid (show (blockL kids data).length ≤ 100000 by rw [blockL_len, HL.out]; omega)
      clear hA1 HO1 HB1 hfull
      generalize (numB j 1 ++ kidsB kids).length = L at *
      go_wp2_with fail
      refine HP.out.mono ?_
      rintro e w2 ⟨v2, rfl, ho, hb⟩
      rw [HE.out] at ho
      obtain ⟨A2, c2, rfl, hA2⟩ := ho.slice
      have kc := conv_RowB w2 A2 (blockL kids data).length c2 _ (ho.row rfl)
      have HB3 := Lib.hid (HB2.out.trans (hb.mono HB2.out.size))
      clear ho hb HP HB2 hA2
      have HZ0 := Lib.hid (show (blockL kids data).length ≤ 100000 from HZ.out)
      obtain ⟨L2, hL2⟩ : ∃ L2, (blockL kids data).length = L2 := ⟨_, rfl⟩
      rw [hL2] at kc ⊢
      clear hL2
      go_wp2_with fail
      refine (CrcW.rseal_any _ (by rw [arr_size]; exact HZ0.out) _).mono ?_
      rintro e w3 ⟨rfl, hb⟩
      have HB4 := Lib.hid (HB3.out.trans (hb.mono HB3.out.size))
      clear hb kc
      go_wp2
      go_ret
      exact ⟨rfl, HB4.out⟩
set_option maxRecDepth 100000 in
set_option maxHeartbeats 1000000 in
theorem rbegin_bytes (gen root size : Int) (note : ByteArray) (hd : note.size ≤ 60000) (w : World) :
    Calls Tryz.prog 38 #[.agg #[.int .i64 gen, .int .i64 root, .string note], .int .i64 size] w fun e w' => e = .returned (.string (beginB gen root size note)) ∧ Below w.heap.size w w' := by
  have hb0 := (Below.refl w.heap.size w).alloc (Nat.le_refl _) (.cells #[.int .i64 gen, .int .i64 root, .string note] 90)
  have hb1 := hb0.alloc hb0.size (.cells #[.int .u8 83] 5 (1, 2))
  have hr : RowB ((w.alloc (.cells #[.int .i64 gen, .int .i64 root, .string note] 90)).alloc (.cells #[.int .u8 83] 5 (1, 2))) (some ⟨w.heap.size + 1, 0, none⟩) 1 [83] := by
    have h := one_row (w.alloc (.cells #[.int .i64 gen, .int .i64 root, .string note] 90)) 83 (1, 2)
    rw [World.size_alloc] at h
    exact h
  have hf := (Oct.Has.fresh w 90 #[.int .i64 gen, .int .i64 root, .string note]).past (.cells #[.int .u8 83] 5 (1, 2))
  have HP := Lib.hid (rput_in (some ⟨w.heap.size + 1, 0, none⟩) 1 1 6 gen _ (by decide) (by decide) (by decide) _ hr (fun h => by cases h))
  have HB := Lib.hid hb1
  have HF := Lib.hid hf
  have hd2 : note.size < 65535 := by omega
  clear hb0 hb1 hr hf
  have kc : (convert 124 124 (.slice (some ⟨w.heap.size + 1, 0, none⟩) 1 1)).run Tryz.prog ((w.alloc (.cells #[.int .i64 gen, .int .i64 root, .string note] 90)).alloc (.cells #[.int .u8 83] 5)) = .ok (.slice (some ⟨w.heap.size + 1, 0, none⟩) 1 1) ((w.alloc (.cells #[.int .i64 gen, .int .i64 root, .string note] 90)).alloc (.cells #[.int .u8 83] 5 (1, 2))) := by
    have h := Lib.run_convert_bytes_const (P := Tryz.prog) (w.alloc (.cells #[.int .i64 gen, .int .i64 root, .string note] 90)) 124 5 #[.int .u8 83] 1 1 Tryz.underlying124 Tryz.underlying5
    rw [World.size_alloc] at h
    exact h
  go_enter Tryz.func38, Tryz.ntmps38
  go_wp2_with fail
  refine HP.out.mono ?_
  rintro e w1 ⟨v, rfl, ho, hb⟩
  have HB1 := Lib.hid (HB.out.trans (hb.mono HB.out.size))
  have HF1 := Lib.hid (HF.out.over (Oct.Chg.of_below hb (fun _ => False)) (fun h => h))
  have HO := Lib.hid (show Owns w1 _ v ([83] ++ numB gen 6) from ho)
  clear ho hb HP HB HF kc
  obtain ⟨A1, c1, rfl, hA1⟩ := HO.out.slice
  have b0 := Oct.Has.at_ HF1.out 0
  have b1 := Oct.Has.at_ HF1.out 1
  have b2 := Oct.Has.at_ HF1.out 2
  simp at b0 b1 b2
  have HP := Lib.hid (rput_in A1 7 c1 4 root _ (by decide) (by decide) (by decide) _ (HO.out.row (by simp [numB_len])) hA1)
  rw [show ([83] ++ numB gen 6 : List UInt8).length = 7 from by simp [numB_len]]
  clear hA1 HO
  go_wp2_with fail
  refine HP.out.mono ?_
  rintro e w2 ⟨v, rfl, ho, hb⟩
  replace HB1 := Lib.hid (HB1.out.trans (hb.mono HB1.out.size))
  replace HF1 := Lib.hid (HF1.out.over (Oct.Chg.of_below hb (fun _ => False)) (fun h => h))
  have HO := Lib.hid (show Owns w2 _ v ([83] ++ numB gen 6 ++ numB root 4) from ho)
  clear ho hb HP b0 b1 b2
  obtain ⟨A2, c2, rfl, hA2⟩ := HO.out.slice
  have b0 := Oct.Has.at_ HF1.out 0
  have b1 := Oct.Has.at_ HF1.out 1
  have b2 := Oct.Has.at_ HF1.out 2
  simp at b0 b1 b2
  have HP := Lib.hid (rput_in A2 11 c2 4 size _ (by decide) (by decide) (by decide) _ (HO.out.row (by simp [numB_len])) hA2)
  rw [show ([83] ++ numB gen 6 ++ numB root 4 : List UInt8).length = 11 from by simp [numB_len]]
  clear hA2 HO
  go_wp2_with fail
  refine HP.out.mono ?_
  rintro e w3 ⟨v, rfl, ho, hb⟩
  replace HB1 := Lib.hid (HB1.out.trans (hb.mono HB1.out.size))
  replace HF1 := Lib.hid (HF1.out.over (Oct.Chg.of_below hb (fun _ => False)) (fun h => h))
  have HO := Lib.hid (show Owns w3 _ v ([83] ++ numB gen 6 ++ numB root 4 ++ numB size 4) from ho)
  clear ho hb HP b0 b1 b2
  obtain ⟨A3, c3, rfl, hA3⟩ := HO.out.slice
  have b2 := Oct.Has.at_ HF1.out 2
  simp at b2
  have HP := Lib.hid (rptext_in A3 15 c3 _ note (by decide) hd2 _ (HO.out.row (by simp [numB_len])) hA3)
  rw [show ([83] ++ numB gen 6 ++ numB root 4 ++ numB size 4 : List UInt8).length = 15 from by simp [numB_len]]
  clear hA3 HO
  have HE := Lib.hid (show ([83] ++ numB gen 6 ++ numB root 4 ++ numB size 4 : List UInt8) ++ headT note.size ++ note.data.toList = beginL gen root size note by unfold beginL textL; rw [List.append_assoc])
  have HZ := Lib.hid (show (beginL gen root size note).length ≤ 100000 by unfold beginL; simp [numB_len, textL_len]; omega)
  go_wp2_with fail
  refine HP.out.mono ?_
  rintro e w4 ⟨v2, rfl, ho, hb⟩
  rw [HE.out] at ho
  obtain ⟨A4, c4, rfl, hA4⟩ := ho.slice
  have kc := conv_RowB w4 A4 (beginL gen root size note).length c4 _ (ho.row rfl)
  have HB3 := Lib.hid (HB1.out.trans (hb.mono HB1.out.size))
  clear ho hb HP HB1 HF1 hA4 b2
  obtain ⟨L2, hL2⟩ : ∃ L2, (beginL gen root size note).length = L2 := ⟨_, rfl⟩
  rw [hL2] at kc ⊢
  clear hL2
  go_wp2_with fail
  refine (CrcW.rseal_any _ (by rw [arr_size]; exact HZ.out) _).mono ?_
  rintro e w5 ⟨rfl, hb⟩
  have HB4 := Lib.hid (HB3.out.trans (hb.mono HB3.out.size))
  clear hb kc
  go_wp2
  go_ret
  exact ⟨rfl, HB4.out⟩
end Go.Proofs.YthejlenafjnmkaaGreat.Sto
/- What lies on a device before it is opened: contract of Raw's Bytes. -/
namespace Go.Proofs.YthejlenafjnmkaaGreat.Sto
open Go.RowKit
open Oct (Has Chg)
open Rws
set_option linter.unusedVariables false

def rawM (kind : Int) : Int := bits .and .i64 kind 3
def raw0 (kids : List Int) (s : ByteArray) : ByteArray := match kids with
  | g :: ro :: n :: _ => beginB g ro n s
  | _ => s
def rawB (kind : Int) (kids : List Int) (s : ByteArray) : ByteArray :=
  if rawM kind = 0 then raw0 kids s else if rawM kind = 1 ∨ rawM kind = 2 then blockB (kids.take 40) s else s
theorem numrow_take {w : World} {A : Option Addr} {n : Nat} {l : List Int} (h : NumRow w A n l) (m : Nat) (hm : m ≤ n) : NumRow w A m (l.take m) := by
  have h1 := h.1
  refine ⟨by rw [List.length_take]; omega, fun h0 => ?_⟩
  obtain ⟨b, off, e, hb, hx⟩ := h.2 (by omega)
  refine ⟨b, off, e, hb, fun j hj => ?_⟩
  have hj2 : j < l.length := by rw [List.length_take] at hj; omega
  rw [hx j hj2, List.getElem_take]
set_option maxRecDepth 100000 in
set_option maxHeartbeats 2000000 in
theorem rraw_block (i kind : Int) (A : Option Addr) (n c : Nat) (kids : List Int) (s : ByteArray) (hn : n ≤ 100000) (hc : n ≤ c) (hs : s.size ≤ 60000) (w : World) (h : NumRow w A n kids) (m12 : rawM kind = 1 ∨ rawM kind = 2) :
    Calls Tryz.prog 25 #[.agg #[.int .i64 i, .int .i64 kind, .slice A n c, .string s]] w fun e w' => e = .returned (.string (rawB kind kids s)) ∧ Below w.heap.size w w' := by
  have HB1 := Lib.hid ((Below.refl w.heap.size w).alloc (Nat.le_refl _) (.cells #[.int .i64 i, .int .i64 kind, .slice A n c, .string s] 59))
  have HB2 := Lib.hid (HB1.out.drew)
  have HR := Lib.hid h
  have HS := Lib.hid hs
  have hl := h.1
  clear h hs
  obtain ⟨M, hM⟩ : ∃ M, bits .and .i64 kind 3 = M := ⟨_, rfl⟩
  have m12 : M = 1 ∨ M = 2 := by rw [← hM]; exact m12
  have m0 : ¬ M = 0 := by rcases m12 with e | e <;> rw [e] <;> decide
  have HW := Lib.hid (show rawB kind kids s = if M = 0 then raw0 kids s else if M = 1 ∨ M = 2 then blockB (kids.take 40) s else s by rw [← hM]; rfl)
  have t0 : (M == 0) = false := beq_eq_false_iff_ne.2 m0
  have HW2 := Lib.hid (show rawB kind kids s = if M = 1 ∨ M = 2 then blockB (kids.take 40) s else s from HW.out.trans (if_neg m0))
  clear HW
  have HNR := Lib.hid (fun W (hb : Below w.heap.size w W) => numrow_take (HR.out.below hb) (min n 40) (by omega))
  have HBB := Lib.hid (fun W (hb : Below w.heap.size w W) => rbytes_of A (min n 40) c (kids.take 40) s (by omega) HS.out W (by
    have h := HNR.out W hb
    rw [show kids.take (min n 40) = kids.take 40 by
      by_cases e : n ≤ 40
      · rw [show min n 40 = n by omega, List.take_of_length_le (by omega), List.take_of_length_le (by omega)]
      · rw [show min n 40 = 40 by omega]] at h
    exact h))
  have HW3 := Lib.hid (show rawB kind kids s = blockB (kids.take 40) s from HW2.out.trans (if_pos m12))
  have HX8 := Lib.hid (show w.heap.size < ((w.alloc (.cells #[.int .i64 i, .int .i64 kind, .slice A n c, .string s] 59)).drew).heap.size by simp)
  have HS8 := Lib.hid (show (fun w' : World => w'.cell? ⟨w.heap.size, 2, none⟩ = some (.slice A n c) ∧ w'.cell? ⟨w.heap.size, 3, none⟩ = some (.string s)) ((w.alloc (.cells #[.int .i64 i, .int .i64 kind, .slice A n c, .string s] 59)).drew) from ⟨Has.at_ (Has.fresh w _ _).drew 2, Has.at_ (Has.fresh w _ _).drew 3⟩)
  clear HW2
  rcases m12 with m1 | m1
  · have t1 : (M == 1) = true := by rw [m1]; rfl
    by_cases h40 : n ≤ 40
    · have j1 : ¬ (40 : Int) < n := by omega
      rw [show min n 40 = n by omega] at HBB
      go_enter Tryz.func25, Tryz.ntmps25
      go_wp2_with fail
      refine wp_region_held_drew (S := (fun w' => w'.cell? ⟨w.heap.size, 2, none⟩ = some (.slice A n c) ∧ w'.cell? ⟨w.heap.size, 3, none⟩ = some (.string s))) (by kernel_rfl) HS8.out (fun hHeld => ?_)
      refine Vc.wpAnyH_read (i := 0) (d := some 33) (v := ?v17) (by rfl) (by rfl) (by kernel_rfl) (by kernel_rfl) (by kernel_rfl) (fun _ _ _ h => h) (by rfl) ?hy17 (by assumption) ?rest17
      case hy17 =>
        intro w hSw
        try dsimp only at hSw
        go_simp
        try with_reducible rfl
      try simp only [Act.put, List.setIfInBounds_toArray, List.set_cons_zero, List.set_cons_succ]
      refine Vc.wpAnyH_read (i := 1) (d := some 34) (v := ?v18) (by rfl) (by rfl) (by kernel_rfl) (by kernel_rfl) (by kernel_rfl) (fun _ _ _ h => h) (by rfl) ?hy18 (by assumption) ?rest18
      case hy18 =>
        intro w hSw
        try dsimp only at hSw
        go_simp
        try with_reducible rfl
      try simp only [Act.put, List.setIfInBounds_toArray, List.set_cons_zero, List.set_cons_succ]
      refine Vc.wpAnyH_read (i := 2) (d := some 35) (v := ?v19) (by rfl) (by rfl) (by kernel_rfl) (by kernel_rfl) (by kernel_rfl) (fun _ _ _ h => h) (by rfl) ?hy19 (by assumption) ?rest19
      case hy19 =>
        intro w hSw
        try dsimp only at hSw
        go_simp
        try with_reducible rfl
      try simp only [Act.put, List.setIfInBounds_toArray, List.set_cons_zero, List.set_cons_succ]
      refine Vc.wpAnyH_read (i := 3) (d := some 36) (v := ?v20) (by rfl) (by rfl) (by kernel_rfl) (by kernel_rfl) (by kernel_rfl) (fun _ _ _ h => h) (by rfl) ?hy20 (by assumption) ?rest20
      case hy20 =>
        intro w hSw
        try dsimp only at hSw
        go_simp
        try with_reducible rfl
      try simp only [Act.put, List.setIfInBounds_toArray, List.set_cons_zero, List.set_cons_succ]
      refine Vc.wpAnyH_read (i := 4) (d := some 37) (v := ?v21) (by rfl) (by rfl) (by kernel_rfl) (by kernel_rfl) (by kernel_rfl) (fun _ _ _ h => h) (by rfl) ?hy21 (by assumption) ?rest21
      case hy21 =>
        intro w hSw
        try dsimp only at hSw
        go_simp
        try with_reducible rfl
      try simp only [Act.put, List.setIfInBounds_toArray, List.set_cons_zero, List.set_cons_succ]
      refine Vc.wpAnyH_read (i := 5) (d := some 38) (v := ?v22) (by rfl) (by rfl) (by kernel_rfl) (by kernel_rfl) (by kernel_rfl) (fun _ _ _ h => h) (by rfl) ?hy22 (by assumption) ?rest22
      case hy22 =>
        intro w hSw
        try dsimp only at hSw
        go_simp
        try rw [if_neg (show ¬ (40 : Int) < n by omega)]
        try with_reducible rfl
      try simp only [Act.put, List.setIfInBounds_toArray, List.set_cons_zero, List.set_cons_succ]
      refine Vc.wpAnyH_read (i := 6) (d := some 39) (v := ?v23) (by rfl) (by rfl) (by kernel_rfl) (by kernel_rfl) (by kernel_rfl) (fun _ _ _ h => h) (by rfl) ?hy23 (by assumption) ?rest23
      case hy23 =>
        intro w hSw
        try dsimp only at hSw
        go_simp
        try first | rw [if_pos ⟨by omega, by omega⟩, Int.toNat_natCast] | rw [if_pos (by omega), Int.toNat_natCast] | rw [if_pos (by omega)]
        try with_reducible rfl
      try simp only [Act.put, List.setIfInBounds_toArray, List.set_cons_zero, List.set_cons_succ]
      refine Vc.wpAnyH_read (i := 7) (d := some 40) (v := ?v24) (by rfl) (by rfl) (by kernel_rfl) (by kernel_rfl) (by kernel_rfl) (fun _ _ _ h => h) (by rfl) ?hy24 (by assumption) ?rest24
      case hy24 =>
        intro w hSw
        try dsimp only at hSw
        go_simp
        try with_reducible rfl
      try simp only [Act.put, List.setIfInBounds_toArray, List.set_cons_zero, List.set_cons_succ]
      refine Vc.wpAnyH_read (i := 8) (d := some 41) (v := ?v25) (by rfl) (by rfl) (by kernel_rfl) (by kernel_rfl) (by kernel_rfl) (fun _ _ _ h => h) (by rfl) ?hy25 (by assumption) ?rest25
      case hy25 =>
        intro w hSw
        try dsimp only at hSw
        go_simp
        try with_reducible rfl
      try simp only [Act.put, List.setIfInBounds_toArray, List.set_cons_zero, List.set_cons_succ]
      refine wpAnyH_ready (rs := [9]) (by kernel_rfl) (by simp) ?_
      refine AllReadyH.cons rfl (fun K hK => ?_) AllReadyH.nil
      go_simp
      go_at_call 67
      refine (HBB.out _ HB2.out).mono ?_
      rintro e w' ⟨rfl, hb⟩
      refine hK.out _ _ ⟨(hb.cell (p := ⟨w.heap.size, 2, none⟩) HX8.out).trans HS8.out.1, (hb.cell (p := ⟨w.heap.size, 3, none⟩) HX8.out).trans HS8.out.2⟩ (fun hHeld => ?_)
      clear hK K
      try simp only [Act.put, List.setIfInBounds_toArray, List.set_cons_zero, List.set_cons_succ]
      refine Vc.wpAnyH_read (i := 10) (d := some 2) (v := ?v26) (by rfl) (by rfl) (by kernel_rfl) (by kernel_rfl) (by kernel_rfl) (fun _ _ _ h => h) (by rfl) ?hy26 (by assumption) ?rest26
      case hy26 =>
        intro w hSw
        try dsimp only at hSw
        go_simp
        try with_reducible rfl
      try simp only [Act.put, List.setIfInBounds_toArray, List.set_cons_zero, List.set_cons_succ]
      refine wpAnyH_done (by kernel_rfl) ?_ _
      go_wp2
      go_ret
      exact ⟨by rw [HW3.out]; rfl, HB2.out.trans (hb.mono HB2.out.size)⟩
    · have j1 : (40 : Int) < n := by omega
      rw [show min n 40 = 40 by omega] at HBB
      go_enter Tryz.func25, Tryz.ntmps25
      go_wp2_with fail
      refine wp_region_held_drew (S := (fun w' => w'.cell? ⟨w.heap.size, 2, none⟩ = some (.slice A n c) ∧ w'.cell? ⟨w.heap.size, 3, none⟩ = some (.string s))) (by kernel_rfl) HS8.out (fun hHeld => ?_)
      refine Vc.wpAnyH_read (i := 0) (d := some 33) (v := ?v27) (by rfl) (by rfl) (by kernel_rfl) (by kernel_rfl) (by kernel_rfl) (fun _ _ _ h => h) (by rfl) ?hy27 (by assumption) ?rest27
      case hy27 =>
        intro w hSw
        try dsimp only at hSw
        go_simp
        try with_reducible rfl
      try simp only [Act.put, List.setIfInBounds_toArray, List.set_cons_zero, List.set_cons_succ]
      refine Vc.wpAnyH_read (i := 1) (d := some 34) (v := ?v28) (by rfl) (by rfl) (by kernel_rfl) (by kernel_rfl) (by kernel_rfl) (fun _ _ _ h => h) (by rfl) ?hy28 (by assumption) ?rest28
      case hy28 =>
        intro w hSw
        try dsimp only at hSw
        go_simp
        try with_reducible rfl
      try simp only [Act.put, List.setIfInBounds_toArray, List.set_cons_zero, List.set_cons_succ]
      refine Vc.wpAnyH_read (i := 2) (d := some 35) (v := ?v29) (by rfl) (by rfl) (by kernel_rfl) (by kernel_rfl) (by kernel_rfl) (fun _ _ _ h => h) (by rfl) ?hy29 (by assumption) ?rest29
      case hy29 =>
        intro w hSw
        try dsimp only at hSw
        go_simp
        try with_reducible rfl
      try simp only [Act.put, List.setIfInBounds_toArray, List.set_cons_zero, List.set_cons_succ]
      refine Vc.wpAnyH_read (i := 3) (d := some 36) (v := ?v30) (by rfl) (by rfl) (by kernel_rfl) (by kernel_rfl) (by kernel_rfl) (fun _ _ _ h => h) (by rfl) ?hy30 (by assumption) ?rest30
      case hy30 =>
        intro w hSw
        try dsimp only at hSw
        go_simp
        try with_reducible rfl
      try simp only [Act.put, List.setIfInBounds_toArray, List.set_cons_zero, List.set_cons_succ]
      refine Vc.wpAnyH_read (i := 4) (d := some 37) (v := ?v31) (by rfl) (by rfl) (by kernel_rfl) (by kernel_rfl) (by kernel_rfl) (fun _ _ _ h => h) (by rfl) ?hy31 (by assumption) ?rest31
      case hy31 =>
        intro w hSw
        try dsimp only at hSw
        go_simp
        try with_reducible rfl
      try simp only [Act.put, List.setIfInBounds_toArray, List.set_cons_zero, List.set_cons_succ]
      refine Vc.wpAnyH_read (i := 5) (d := some 38) (v := ?v32) (by rfl) (by rfl) (by kernel_rfl) (by kernel_rfl) (by kernel_rfl) (fun _ _ _ h => h) (by rfl) ?hy32 (by assumption) ?rest32
      case hy32 =>
        intro w hSw
        try dsimp only at hSw
        go_simp
        try rw [if_pos j1]
        try with_reducible rfl
      try simp only [Act.put, List.setIfInBounds_toArray, List.set_cons_zero, List.set_cons_succ]
      refine Vc.wpAnyH_read (i := 6) (d := some 39) (v := ?v33) (by rfl) (by rfl) (by kernel_rfl) (by kernel_rfl) (by kernel_rfl) (fun _ _ _ h => h) (by rfl) ?hy33 (by assumption) ?rest33
      case hy33 =>
        intro w hSw
        try dsimp only at hSw
        go_simp
        first | rw [if_pos (by omega)] | (simp only [if_pos j1]; rw [if_pos ⟨by omega, by omega⟩])
        try with_reducible rfl
      try simp only [Act.put, List.setIfInBounds_toArray, List.set_cons_zero, List.set_cons_succ]
      refine Vc.wpAnyH_read (i := 7) (d := some 40) (v := ?v34) (by rfl) (by rfl) (by kernel_rfl) (by kernel_rfl) (by kernel_rfl) (fun _ _ _ h => h) (by rfl) ?hy34 (by assumption) ?rest34
      case hy34 =>
        intro w hSw
        try dsimp only at hSw
        go_simp
        try with_reducible rfl
      try simp only [Act.put, List.setIfInBounds_toArray, List.set_cons_zero, List.set_cons_succ]
      refine Vc.wpAnyH_read (i := 8) (d := some 41) (v := ?v35) (by rfl) (by rfl) (by kernel_rfl) (by kernel_rfl) (by kernel_rfl) (fun _ _ _ h => h) (by rfl) ?hy35 (by assumption) ?rest35
      case hy35 =>
        intro w hSw
        try dsimp only at hSw
        go_simp
        try with_reducible rfl
      try simp only [Act.put, List.setIfInBounds_toArray, List.set_cons_zero, List.set_cons_succ]
      refine wpAnyH_ready (rs := [9]) (by kernel_rfl) (by simp) ?_
      refine AllReadyH.cons rfl (fun K hK => ?_) AllReadyH.nil
      go_simp
      go_at_call 67
      refine (HBB.out _ HB2.out).mono ?_
      rintro e w' ⟨rfl, hb⟩
      refine hK.out _ _ ⟨(hb.cell (p := ⟨w.heap.size, 2, none⟩) HX8.out).trans HS8.out.1, (hb.cell (p := ⟨w.heap.size, 3, none⟩) HX8.out).trans HS8.out.2⟩ (fun hHeld => ?_)
      clear hK K
      try simp only [Act.put, List.setIfInBounds_toArray, List.set_cons_zero, List.set_cons_succ]
      refine Vc.wpAnyH_read (i := 10) (d := some 2) (v := ?v36) (by rfl) (by rfl) (by kernel_rfl) (by kernel_rfl) (by kernel_rfl) (fun _ _ _ h => h) (by rfl) ?hy36 (by assumption) ?rest36
      case hy36 =>
        intro w hSw
        try dsimp only at hSw
        go_simp
        try with_reducible rfl
      try simp only [Act.put, List.setIfInBounds_toArray, List.set_cons_zero, List.set_cons_succ]
      refine wpAnyH_done (by kernel_rfl) ?_ _
      go_wp2
      go_ret
      exact ⟨by rw [HW3.out]; rfl, HB2.out.trans (hb.mono HB2.out.size)⟩
  · have t1 : (M == 1) = false := by rw [m1]; rfl
    have t2 : (M == 2) = true := by rw [m1]; rfl
    by_cases h40 : n ≤ 40
    · have j1 : ¬ (40 : Int) < n := by omega
      rw [show min n 40 = n by omega] at HBB
      go_enter Tryz.func25, Tryz.ntmps25
      go_wp2_with fail
      refine wp_region_held_drew (S := (fun w' => w'.cell? ⟨w.heap.size, 2, none⟩ = some (.slice A n c) ∧ w'.cell? ⟨w.heap.size, 3, none⟩ = some (.string s))) (by kernel_rfl) HS8.out (fun hHeld => ?_)
      refine Vc.wpAnyH_read (i := 0) (d := some 33) (v := ?v37) (by rfl) (by rfl) (by kernel_rfl) (by kernel_rfl) (by kernel_rfl) (fun _ _ _ h => h) (by rfl) ?hy37 (by assumption) ?rest37
      case hy37 =>
        intro w hSw
        try dsimp only at hSw
        go_simp
        try with_reducible rfl
      try simp only [Act.put, List.setIfInBounds_toArray, List.set_cons_zero, List.set_cons_succ]
      refine Vc.wpAnyH_read (i := 1) (d := some 34) (v := ?v38) (by rfl) (by rfl) (by kernel_rfl) (by kernel_rfl) (by kernel_rfl) (fun _ _ _ h => h) (by rfl) ?hy38 (by assumption) ?rest38
      case hy38 =>
        intro w hSw
        try dsimp only at hSw
        go_simp
        try with_reducible rfl
      try simp only [Act.put, List.setIfInBounds_toArray, List.set_cons_zero, List.set_cons_succ]
      refine Vc.wpAnyH_read (i := 2) (d := some 35) (v := ?v39) (by rfl) (by rfl) (by kernel_rfl) (by kernel_rfl) (by kernel_rfl) (fun _ _ _ h => h) (by rfl) ?hy39 (by assumption) ?rest39
      case hy39 =>
        intro w hSw
        try dsimp only at hSw
        go_simp
        try with_reducible rfl
      try simp only [Act.put, List.setIfInBounds_toArray, List.set_cons_zero, List.set_cons_succ]
      refine Vc.wpAnyH_read (i := 3) (d := some 36) (v := ?v40) (by rfl) (by rfl) (by kernel_rfl) (by kernel_rfl) (by kernel_rfl) (fun _ _ _ h => h) (by rfl) ?hy40 (by assumption) ?rest40
      case hy40 =>
        intro w hSw
        try dsimp only at hSw
        go_simp
        try with_reducible rfl
      try simp only [Act.put, List.setIfInBounds_toArray, List.set_cons_zero, List.set_cons_succ]
      refine Vc.wpAnyH_read (i := 4) (d := some 37) (v := ?v41) (by rfl) (by rfl) (by kernel_rfl) (by kernel_rfl) (by kernel_rfl) (fun _ _ _ h => h) (by rfl) ?hy41 (by assumption) ?rest41
      case hy41 =>
        intro w hSw
        try dsimp only at hSw
        go_simp
        try with_reducible rfl
      try simp only [Act.put, List.setIfInBounds_toArray, List.set_cons_zero, List.set_cons_succ]
      refine Vc.wpAnyH_read (i := 5) (d := some 38) (v := ?v42) (by rfl) (by rfl) (by kernel_rfl) (by kernel_rfl) (by kernel_rfl) (fun _ _ _ h => h) (by rfl) ?hy42 (by assumption) ?rest42
      case hy42 =>
        intro w hSw
        try dsimp only at hSw
        go_simp
        try rw [if_neg (show ¬ (40 : Int) < n by omega)]
        try with_reducible rfl
      try simp only [Act.put, List.setIfInBounds_toArray, List.set_cons_zero, List.set_cons_succ]
      refine Vc.wpAnyH_read (i := 6) (d := some 39) (v := ?v43) (by rfl) (by rfl) (by kernel_rfl) (by kernel_rfl) (by kernel_rfl) (fun _ _ _ h => h) (by rfl) ?hy43 (by assumption) ?rest43
      case hy43 =>
        intro w hSw
        try dsimp only at hSw
        go_simp
        try first | rw [if_pos ⟨by omega, by omega⟩, Int.toNat_natCast] | rw [if_pos (by omega), Int.toNat_natCast] | rw [if_pos (by omega)]
        try with_reducible rfl
      try simp only [Act.put, List.setIfInBounds_toArray, List.set_cons_zero, List.set_cons_succ]
      refine Vc.wpAnyH_read (i := 7) (d := some 40) (v := ?v44) (by rfl) (by rfl) (by kernel_rfl) (by kernel_rfl) (by kernel_rfl) (fun _ _ _ h => h) (by rfl) ?hy44 (by assumption) ?rest44
      case hy44 =>
        intro w hSw
        try dsimp only at hSw
        go_simp
        try with_reducible rfl
      try simp only [Act.put, List.setIfInBounds_toArray, List.set_cons_zero, List.set_cons_succ]
      refine Vc.wpAnyH_read (i := 8) (d := some 41) (v := ?v45) (by rfl) (by rfl) (by kernel_rfl) (by kernel_rfl) (by kernel_rfl) (fun _ _ _ h => h) (by rfl) ?hy45 (by assumption) ?rest45
      case hy45 =>
        intro w hSw
        try dsimp only at hSw
        go_simp
        try with_reducible rfl
      try simp only [Act.put, List.setIfInBounds_toArray, List.set_cons_zero, List.set_cons_succ]
      refine wpAnyH_ready (rs := [9]) (by kernel_rfl) (by simp) ?_
      refine AllReadyH.cons rfl (fun K hK => ?_) AllReadyH.nil
      go_simp
      go_at_call 67
      refine (HBB.out _ HB2.out).mono ?_
      rintro e w' ⟨rfl, hb⟩
      refine hK.out _ _ ⟨(hb.cell (p := ⟨w.heap.size, 2, none⟩) HX8.out).trans HS8.out.1, (hb.cell (p := ⟨w.heap.size, 3, none⟩) HX8.out).trans HS8.out.2⟩ (fun hHeld => ?_)
      clear hK K
      try simp only [Act.put, List.setIfInBounds_toArray, List.set_cons_zero, List.set_cons_succ]
      refine Vc.wpAnyH_read (i := 10) (d := some 2) (v := ?v46) (by rfl) (by rfl) (by kernel_rfl) (by kernel_rfl) (by kernel_rfl) (fun _ _ _ h => h) (by rfl) ?hy46 (by assumption) ?rest46
      case hy46 =>
        intro w hSw
        try dsimp only at hSw
        go_simp
        try with_reducible rfl
      try simp only [Act.put, List.setIfInBounds_toArray, List.set_cons_zero, List.set_cons_succ]
      refine wpAnyH_done (by kernel_rfl) ?_ _
      go_wp2
      go_ret
      exact ⟨by rw [HW3.out]; rfl, HB2.out.trans (hb.mono HB2.out.size)⟩
    · have j1 : (40 : Int) < n := by omega
      rw [show min n 40 = 40 by omega] at HBB
      go_enter Tryz.func25, Tryz.ntmps25
      go_wp2_with fail
      refine wp_region_held_drew (S := (fun w' => w'.cell? ⟨w.heap.size, 2, none⟩ = some (.slice A n c) ∧ w'.cell? ⟨w.heap.size, 3, none⟩ = some (.string s))) (by kernel_rfl) HS8.out (fun hHeld => ?_)
      refine Vc.wpAnyH_read (i := 0) (d := some 33) (v := ?v47) (by rfl) (by rfl) (by kernel_rfl) (by kernel_rfl) (by kernel_rfl) (fun _ _ _ h => h) (by rfl) ?hy47 (by assumption) ?rest47
      case hy47 =>
        intro w hSw
        try dsimp only at hSw
        go_simp
        try with_reducible rfl
      try simp only [Act.put, List.setIfInBounds_toArray, List.set_cons_zero, List.set_cons_succ]
      refine Vc.wpAnyH_read (i := 1) (d := some 34) (v := ?v48) (by rfl) (by rfl) (by kernel_rfl) (by kernel_rfl) (by kernel_rfl) (fun _ _ _ h => h) (by rfl) ?hy48 (by assumption) ?rest48
      case hy48 =>
        intro w hSw
        try dsimp only at hSw
        go_simp
        try with_reducible rfl
      try simp only [Act.put, List.setIfInBounds_toArray, List.set_cons_zero, List.set_cons_succ]
      refine Vc.wpAnyH_read (i := 2) (d := some 35) (v := ?v49) (by rfl) (by rfl) (by kernel_rfl) (by kernel_rfl) (by kernel_rfl) (fun _ _ _ h => h) (by rfl) ?hy49 (by assumption) ?rest49
      case hy49 =>
        intro w hSw
        try dsimp only at hSw
        go_simp
        try with_reducible rfl
      try simp only [Act.put, List.setIfInBounds_toArray, List.set_cons_zero, List.set_cons_succ]
      refine Vc.wpAnyH_read (i := 3) (d := some 36) (v := ?v50) (by rfl) (by rfl) (by kernel_rfl) (by kernel_rfl) (by kernel_rfl) (fun _ _ _ h => h) (by rfl) ?hy50 (by assumption) ?rest50
      case hy50 =>
        intro w hSw
        try dsimp only at hSw
        go_simp
        try with_reducible rfl
      try simp only [Act.put, List.setIfInBounds_toArray, List.set_cons_zero, List.set_cons_succ]
      refine Vc.wpAnyH_read (i := 4) (d := some 37) (v := ?v51) (by rfl) (by rfl) (by kernel_rfl) (by kernel_rfl) (by kernel_rfl) (fun _ _ _ h => h) (by rfl) ?hy51 (by assumption) ?rest51
      case hy51 =>
        intro w hSw
        try dsimp only at hSw
        go_simp
        try with_reducible rfl
      try simp only [Act.put, List.setIfInBounds_toArray, List.set_cons_zero, List.set_cons_succ]
      refine Vc.wpAnyH_read (i := 5) (d := some 38) (v := ?v52) (by rfl) (by rfl) (by kernel_rfl) (by kernel_rfl) (by kernel_rfl) (fun _ _ _ h => h) (by rfl) ?hy52 (by assumption) ?rest52
      case hy52 =>
        intro w hSw
        try dsimp only at hSw
        go_simp
        try rw [if_pos j1]
        try with_reducible rfl
      try simp only [Act.put, List.setIfInBounds_toArray, List.set_cons_zero, List.set_cons_succ]
      refine Vc.wpAnyH_read (i := 6) (d := some 39) (v := ?v53) (by rfl) (by rfl) (by kernel_rfl) (by kernel_rfl) (by kernel_rfl) (fun _ _ _ h => h) (by rfl) ?hy53 (by assumption) ?rest53
      case hy53 =>
        intro w hSw
        try dsimp only at hSw
        go_simp
        first | rw [if_pos (by omega)] | (simp only [if_pos j1]; rw [if_pos ⟨by omega, by omega⟩])
        try with_reducible rfl
      try simp only [Act.put, List.setIfInBounds_toArray, List.set_cons_zero, List.set_cons_succ]
      refine Vc.wpAnyH_read (i := 7) (d := some 40) (v := ?v54) (by rfl) (by rfl) (by kernel_rfl) (by kernel_rfl) (by kernel_rfl) (fun _ _ _ h => h) (by rfl) ?hy54 (by assumption) ?rest54
      case hy54 =>
        intro w hSw
        try dsimp only at hSw
        go_simp
        try with_reducible rfl
      try simp only [Act.put, List.setIfInBounds_toArray, List.set_cons_zero, List.set_cons_succ]
      refine Vc.wpAnyH_read (i := 8) (d := some 41) (v := ?v55) (by rfl) (by rfl) (by kernel_rfl) (by kernel_rfl) (by kernel_rfl) (fun _ _ _ h => h) (by rfl) ?hy55 (by assumption) ?rest55
      case hy55 =>
        intro w hSw
        try dsimp only at hSw
        go_simp
        try with_reducible rfl
      try simp only [Act.put, List.setIfInBounds_toArray, List.set_cons_zero, List.set_cons_succ]
      refine wpAnyH_ready (rs := [9]) (by kernel_rfl) (by simp) ?_
      refine AllReadyH.cons rfl (fun K hK => ?_) AllReadyH.nil
      go_simp
      go_at_call 67
      refine (HBB.out _ HB2.out).mono ?_
      rintro e w' ⟨rfl, hb⟩
      refine hK.out _ _ ⟨(hb.cell (p := ⟨w.heap.size, 2, none⟩) HX8.out).trans HS8.out.1, (hb.cell (p := ⟨w.heap.size, 3, none⟩) HX8.out).trans HS8.out.2⟩ (fun hHeld => ?_)
      clear hK K
      try simp only [Act.put, List.setIfInBounds_toArray, List.set_cons_zero, List.set_cons_succ]
      refine Vc.wpAnyH_read (i := 10) (d := some 2) (v := ?v56) (by rfl) (by rfl) (by kernel_rfl) (by kernel_rfl) (by kernel_rfl) (fun _ _ _ h => h) (by rfl) ?hy56 (by assumption) ?rest56
      case hy56 =>
        intro w hSw
        try dsimp only at hSw
        go_simp
        try with_reducible rfl
      try simp only [Act.put, List.setIfInBounds_toArray, List.set_cons_zero, List.set_cons_succ]
      refine wpAnyH_done (by kernel_rfl) ?_ _
      go_wp2
      go_ret
      exact ⟨by rw [HW3.out]; rfl, HB2.out.trans (hb.mono HB2.out.size)⟩
set_option maxRecDepth 100000 in
set_option maxHeartbeats 2000000 in
theorem rraw_bytes (i kind : Int) (A : Option Addr) (n c : Nat) (kids : List Int) (s : ByteArray) (hn : n ≤ 100000) (hc : n ≤ c) (hs : s.size ≤ 60000) (w : World) (h : NumRow w A n kids) :
    Calls Tryz.prog 25 #[.agg #[.int .i64 i, .int .i64 kind, .slice A n c, .string s]] w fun e w' => e = .returned (.string (rawB kind kids s)) ∧ Below w.heap.size w w' := by
  have HB1 := Lib.hid ((Below.refl w.heap.size w).alloc (Nat.le_refl _) (.cells #[.int .i64 i, .int .i64 kind, .slice A n c, .string s] 59))
  have HB2 := Lib.hid (HB1.out.drew)
  have HR := Lib.hid h
  have HS := Lib.hid hs
  have hl := h.1
  clear h hs
  obtain ⟨M, hM⟩ : ∃ M, bits .and .i64 kind 3 = M := ⟨_, rfl⟩
  have HW := Lib.hid (show rawB kind kids s = if M = 0 then raw0 kids s else if M = 1 ∨ M = 2 then blockB (kids.take 40) s else s by rw [← hM]; rfl)
  by_cases m0 : M = 0
  · have t0 : (M == 0) = true := by rw [m0]; rfl
    have HW2 := Lib.hid (show rawB kind kids s = raw0 kids s from HW.out.trans (if_pos m0))
    rw [m0] at hM
    by_cases h3 : n < 3
    · have HW3 := Lib.hid (show rawB kind kids s = s by
        rw [HW2.out]
        match kids, hl with
        | [], _ => rfl
        | [_], _ => rfl
        | [_, _], _ => rfl
        | _ :: _ :: _ :: _, hl => simp at hl; omega)
      clear t0 m0 HW HW2
      go_enter Tryz.func25, Tryz.ntmps25
      go_wp2
      go_ret
      exact ⟨by rw [HW3.out]; rfl, HB1.out⟩
    · have h3' : ¬ (n : Int) < 3 := by omega
      obtain ⟨b, off, rfl, hbl, hcl⟩ := (HR.out.below HB2.out).2 (by omega)
      match kids, hl with
      | [], hl => simp at hl; omega
      | [_], hl => simp at hl; omega
      | [_, _], hl => simp at hl; omega
      | g :: ro :: nn :: rest, hl =>
        have c0 := hcl 0 (by simp)
        have c1 := hcl 1 (by simp)
        have c2 := hcl 2 (by simp)
        simp at c0 c1 c2
        have HW3 := Lib.hid (show rawB kind (g :: ro :: nn :: rest) s = beginB g ro nn s from HW2.out)
        have HBB := Lib.hid (fun W => rbegin_bytes g ro nn s HS.out W)
        have HBL := Lib.hid hbl
        clear t0 m0 HW HW2 hcl hl hbl
        go_enter Tryz.func25, Tryz.ntmps25
        go_wp2_with fail
        have n0 : (0 : Int) < n := by omega
        have n1 : (1 : Int) < n := by omega
        have n2 : (2 : Int) < n := by omega
        have HX := Lib.hid (show w.heap.size < ((w.alloc (.cells #[.int .i64 i, .int .i64 kind, .slice (some ⟨b, off, none⟩) n c, .string s] 59)).drew).heap.size ∧ b < ((w.alloc (.cells #[.int .i64 i, .int .i64 kind, .slice (some ⟨b, off, none⟩) n c, .string s] 59)).drew).heap.size from ⟨by simp, HBL.out⟩)
        have HS5 := Lib.hid (show (fun w' => w'.cell? ⟨w.heap.size, 2, none⟩ = some (.slice (some ⟨b, off, none⟩) n c) ∧ w'.cell? ⟨w.heap.size, 3, none⟩ = some (.string s) ∧ w'.cell? ⟨b, off, none⟩ = some (.int .i64 g) ∧ w'.cell? ⟨b, off + 1, none⟩ = some (.int .i64 ro) ∧ w'.cell? ⟨b, off + 2, none⟩ = some (.int .i64 nn)) ((w.alloc (.cells #[.int .i64 i, .int .i64 kind, .slice (some ⟨b, off, none⟩) n c, .string s] 59)).drew) from ⟨Has.at_ (Has.fresh w _ _).drew 2, Has.at_ (Has.fresh w _ _).drew 3, c0, c1, c2⟩)
        refine wp_region_held_drew (S := (fun w' => w'.cell? ⟨w.heap.size, 2, none⟩ = some (.slice (some ⟨b, off, none⟩) n c) ∧ w'.cell? ⟨w.heap.size, 3, none⟩ = some (.string s) ∧ w'.cell? ⟨b, off, none⟩ = some (.int .i64 g) ∧ w'.cell? ⟨b, off + 1, none⟩ = some (.int .i64 ro) ∧ w'.cell? ⟨b, off + 2, none⟩ = some (.int .i64 nn))) (by kernel_rfl) HS5.out (fun hHeld => ?_)
        refine Vc.wpAnyH_read (i := 0) (d := some 14) (v := ?v1) (by rfl) (by rfl) (by kernel_rfl) (by kernel_rfl) (by kernel_rfl) (fun _ _ _ h => h) (by rfl) ?hy1 (by assumption) ?rest1
        case hy1 =>
          intro w hSw
          try dsimp only at hSw
          go_simp
          try with_reducible rfl
        try simp only [Act.put, List.setIfInBounds_toArray, List.set_cons_zero, List.set_cons_succ]
        refine Vc.wpAnyH_read (i := 1) (d := some 15) (v := ?v2) (by rfl) (by rfl) (by kernel_rfl) (by kernel_rfl) (by kernel_rfl) (fun _ _ _ h => h) (by rfl) ?hy2 (by assumption) ?rest2
        case hy2 =>
          intro w hSw
          try dsimp only at hSw
          go_simp
          try with_reducible rfl
        try simp only [Act.put, List.setIfInBounds_toArray, List.set_cons_zero, List.set_cons_succ]
        refine Vc.wpAnyH_read (i := 2) (d := some 16) (v := ?v3) (by rfl) (by rfl) (by kernel_rfl) (by kernel_rfl) (by kernel_rfl) (fun _ _ _ h => h) (by rfl) ?hy3 (by assumption) ?rest3
        case hy3 =>
          intro w hSw
          try dsimp only at hSw
          go_simp
          try rw [if_pos (by omega)]
          try with_reducible rfl
        try simp only [Act.put, List.setIfInBounds_toArray, List.set_cons_zero, List.set_cons_succ]
        refine Vc.wpAnyH_read (i := 3) (d := some 17) (v := ?v4) (by rfl) (by rfl) (by kernel_rfl) (by kernel_rfl) (by kernel_rfl) (fun _ _ _ h => h) (by rfl) ?hy4 (by assumption) ?rest4
        case hy4 =>
          intro w hSw
          try dsimp only at hSw
          go_simp
          try with_reducible rfl
        try simp only [Act.put, List.setIfInBounds_toArray, List.set_cons_zero, List.set_cons_succ]
        refine Vc.wpAnyH_read (i := 4) (d := some 18) (v := ?v5) (by rfl) (by rfl) (by kernel_rfl) (by kernel_rfl) (by kernel_rfl) (fun _ _ _ h => h) (by rfl) ?hy5 (by assumption) ?rest5
        case hy5 =>
          intro w hSw
          try dsimp only at hSw
          go_simp
          try with_reducible rfl
        try simp only [Act.put, List.setIfInBounds_toArray, List.set_cons_zero, List.set_cons_succ]
        refine Vc.wpAnyH_read (i := 5) (d := some 19) (v := ?v6) (by rfl) (by rfl) (by kernel_rfl) (by kernel_rfl) (by kernel_rfl) (fun _ _ _ h => h) (by rfl) ?hy6 (by assumption) ?rest6
        case hy6 =>
          intro w hSw
          try dsimp only at hSw
          go_simp
          try with_reducible rfl
        try simp only [Act.put, List.setIfInBounds_toArray, List.set_cons_zero, List.set_cons_succ]
        refine Vc.wpAnyH_read (i := 6) (d := some 20) (v := ?v7) (by rfl) (by rfl) (by kernel_rfl) (by kernel_rfl) (by kernel_rfl) (fun _ _ _ h => h) (by rfl) ?hy7 (by assumption) ?rest7
        case hy7 =>
          intro w hSw
          try dsimp only at hSw
          go_simp
          try rw [if_pos (by omega)]
          try with_reducible rfl
        try simp only [Act.put, List.setIfInBounds_toArray, List.set_cons_zero, List.set_cons_succ]
        refine Vc.wpAnyH_read (i := 7) (d := some 21) (v := ?v8) (by rfl) (by rfl) (by kernel_rfl) (by kernel_rfl) (by kernel_rfl) (fun _ _ _ h => h) (by rfl) ?hy8 (by assumption) ?rest8
        case hy8 =>
          intro w hSw
          try dsimp only at hSw
          go_simp
          try with_reducible rfl
        try simp only [Act.put, List.setIfInBounds_toArray, List.set_cons_zero, List.set_cons_succ]
        refine Vc.wpAnyH_read (i := 8) (d := some 22) (v := ?v9) (by rfl) (by rfl) (by kernel_rfl) (by kernel_rfl) (by kernel_rfl) (fun _ _ _ h => h) (by rfl) ?hy9 (by assumption) ?rest9
        case hy9 =>
          intro w hSw
          try dsimp only at hSw
          go_simp
          try with_reducible rfl
        try simp only [Act.put, List.setIfInBounds_toArray, List.set_cons_zero, List.set_cons_succ]
        refine Vc.wpAnyH_read (i := 9) (d := some 23) (v := ?v10) (by rfl) (by rfl) (by kernel_rfl) (by kernel_rfl) (by kernel_rfl) (fun _ _ _ h => h) (by rfl) ?hy10 (by assumption) ?rest10
        case hy10 =>
          intro w hSw
          try dsimp only at hSw
          go_simp
          try with_reducible rfl
        try simp only [Act.put, List.setIfInBounds_toArray, List.set_cons_zero, List.set_cons_succ]
        refine Vc.wpAnyH_read (i := 10) (d := some 24) (v := ?v11) (by rfl) (by rfl) (by kernel_rfl) (by kernel_rfl) (by kernel_rfl) (fun _ _ _ h => h) (by rfl) ?hy11 (by assumption) ?rest11
        case hy11 =>
          intro w hSw
          try dsimp only at hSw
          go_simp
          try with_reducible rfl
        try simp only [Act.put, List.setIfInBounds_toArray, List.set_cons_zero, List.set_cons_succ]
        refine Vc.wpAnyH_read (i := 11) (d := some 25) (v := ?v12) (by rfl) (by rfl) (by kernel_rfl) (by kernel_rfl) (by kernel_rfl) (fun _ _ _ h => h) (by rfl) ?hy12 (by assumption) ?rest12
        case hy12 =>
          intro w hSw
          try dsimp only at hSw
          go_simp
          try with_reducible rfl
        try simp only [Act.put, List.setIfInBounds_toArray, List.set_cons_zero, List.set_cons_succ]
        refine Vc.wpAnyH_read (i := 12) (d := some 26) (v := ?v13) (by rfl) (by rfl) (by kernel_rfl) (by kernel_rfl) (by kernel_rfl) (fun _ _ _ h => h) (by rfl) ?hy13 (by assumption) ?rest13
        case hy13 =>
          intro w hSw
          try dsimp only at hSw
          go_simp
          try with_reducible rfl
        try simp only [Act.put, List.setIfInBounds_toArray, List.set_cons_zero, List.set_cons_succ]
        refine Vc.wpAnyH_read (i := 13) (d := some 27) (v := ?v14) (by rfl) (by rfl) (by kernel_rfl) (by kernel_rfl) (by kernel_rfl) (fun _ _ _ h => h) (by rfl) ?hy14 (by assumption) ?rest14
        case hy14 =>
          intro w hSw
          try dsimp only at hSw
          go_simp
          try rw [if_pos (by omega)]
          try with_reducible rfl
        try simp only [Act.put, List.setIfInBounds_toArray, List.set_cons_zero, List.set_cons_succ]
        refine Vc.wpAnyH_read (i := 14) (d := some 28) (v := ?v15) (by rfl) (by rfl) (by kernel_rfl) (by kernel_rfl) (by kernel_rfl) (fun _ _ _ h => h) (by rfl) ?hy15 (by assumption) ?rest15
        case hy15 =>
          intro w hSw
          try dsimp only at hSw
          go_simp
          try with_reducible rfl
        try simp only [Act.put, List.setIfInBounds_toArray, List.set_cons_zero, List.set_cons_succ]
        refine wpAnyH_ready (rs := [15]) (by kernel_rfl) (by simp) ?_
        refine AllReadyH.cons rfl (fun K hK => ?_) AllReadyH.nil
        go_simp
        go_at_call 38
        refine (HBB.out _).mono ?_
        rintro e w' ⟨rfl, hb⟩
        refine hK.out _ _ ⟨(hb.cell (p := ⟨w.heap.size, 2, none⟩) HX.out.1).trans HS5.out.1, (hb.cell (p := ⟨w.heap.size, 3, none⟩) HX.out.1).trans HS5.out.2.1, (hb.cell (p := ⟨b, off, none⟩) HX.out.2).trans HS5.out.2.2.1, (hb.cell (p := ⟨b, off + 1, none⟩) HX.out.2).trans HS5.out.2.2.2.1, (hb.cell (p := ⟨b, off + 2, none⟩) HX.out.2).trans HS5.out.2.2.2.2⟩ (fun hHeld => ?_)
        clear hK K
        try simp only [Act.put, List.setIfInBounds_toArray, List.set_cons_zero, List.set_cons_succ]
        refine Vc.wpAnyH_read (i := 16) (d := some 2) (v := ?v16) (by rfl) (by rfl) (by kernel_rfl) (by kernel_rfl) (by kernel_rfl) (fun _ _ _ h => h) (by rfl) ?hy16 (by assumption) ?rest16
        case hy16 =>
          intro w hSw
          try dsimp only at hSw
          go_simp
          try with_reducible rfl
        try simp only [Act.put, List.setIfInBounds_toArray, List.set_cons_zero, List.set_cons_succ]
        refine wpAnyH_done (by kernel_rfl) ?_ _
        go_wp2
        go_ret
        exact ⟨by rw [HW3.out]; rfl, HB2.out.trans (hb.mono HB2.out.size)⟩
  · by_cases m12 : M = 1 ∨ M = 2
    · exact rraw_block i kind A n c kids s hn hc HS.out w HR.out (by rw [← hM] at m12; exact m12)
    · have t0 : (M == 0) = false := beq_eq_false_iff_ne.2 m0
      have HW2 := Lib.hid (show rawB kind kids s = if M = 1 ∨ M = 2 then blockB (kids.take 40) s else s from HW.out.trans (if_neg m0))
      clear HW
      have t1 : (M == 1) = false := beq_eq_false_iff_ne.2 (fun e => m12 (.inl e))
      have t2 : (M == 2) = false := beq_eq_false_iff_ne.2 (fun e => m12 (.inr e))
      have HW3 := Lib.hid (show rawB kind kids s = s from HW2.out.trans (if_neg m12))
      clear HW2 m12 m0
      go_enter Tryz.func25, Tryz.ntmps25
      go_wp2
      go_ret
      exact ⟨by rw [HW3.out]; rfl, HB1.out⟩
end Go.Proofs.YthejlenafjnmkaaGreat.Sto
