import Derived.Test.YthejlenafjnmkaaGreatT1
import Derived.Test.YthejlenafjnmkaaGreatCrcAwake
import Derived.Test.YthejlenafjnmkaaGreatOpenNS
import Derived.Lib.SlBytesConst

/- How blocks and beginnings lie on a device: contracts. -/
namespace Go.Proofs.YthejlenafjnmkaaGreat.Sto
open Go.RowKit Go.Proofs.YthejlenafjnmkaaGreat.Oct
open Rws

theorem owns_low {w : World} {B C : Nat} {v : Value} {l : List UInt8} (h : Owns w C v l) (hb : B ≤ C) : Owns w B v l := by
  refine ⟨h.1, ?_⟩
  rcases h.2 with k | ⟨g, cap, cur, e, hb2, hh, k⟩
  · exact .inl k
  · exact .inr ⟨g, cap, cur, e, Nat.le_trans hb hb2, hh, k⟩
/-- A number's bytes. -/
def numB (x : Int) (k : Nat) : List UInt8 := putL (IntKind.u64.wrap x).toNat k
theorem numB_len (x : Int) (k : Nat) : (numB x k).length = k := putL_len _ _
def kidsB : List Int → List UInt8
  | [] => []
  | k :: l => numB k 4 ++ kidsB l
theorem kidsB_append (a b : List Int) : kidsB (a ++ b) = kidsB a ++ kidsB b := by
  induction a with
  | nil => rfl
  | cons x a ih => simp [kidsB, ih, List.append_assoc]
theorem kidsB_len (a : List Int) : (kidsB a).length = 4 * a.length := by
  induction a with
  | nil => rfl
  | cons x a ih => simp [kidsB, ih, numB_len]; omega
/-- The bytes of a text. -/
def textL (s : ByteArray) : List UInt8 := headT s.size ++ s.data.toList
theorem textL_len (s : ByteArray) : (textL s).length = s.size + 2 := by
  unfold textL headT
  simp
def blockL (kids : List Int) (data : ByteArray) : List UInt8 := numB kids.length 1 ++ kidsB kids ++ textL data
/-- How a block lies on a device. -/
def blockB (kids : List Int) (data : ByteArray) : ByteArray := CrcW.sealB ⟨(blockL kids data).toArray⟩
theorem blockL_len (kids : List Int) (data : ByteArray) : (blockL kids data).length = 4 * kids.length + data.size + 3 := by
  unfold blockL
  rw [List.length_append, List.length_append, numB_len, kidsB_len, textL_len]
  omega
def beginL (gen root size : Int) (note : ByteArray) : List UInt8 := [83] ++ numB gen 6 ++ numB root 4 ++ numB size 4 ++ textL note
/-- How a beginning lies on a device. -/
def beginB (gen root size : Int) (note : ByteArray) : ByteArray := CrcW.sealB ⟨(beginL gen root size note).toArray⟩
theorem arr_size (l : List UInt8) : (⟨l.toArray⟩ : ByteArray).size = l.length := by simp [ByteArray.size]
set_option maxRecDepth 100000 in
set_option maxHeartbeats 1000000 in
theorem bytes_of (A : Option Addr) (n c : Nat) (kids : List Int) (data : ByteArray) (hk : n ≤ 16) (hd : data.size ≤ 3900) (w : World) (h : NumRow w A n kids) :
    Calls Tryz.prog 73 #[.slice A n c, .string data] w fun e w' => e = .returned (.string (blockB kids data)) ∧ Below w.heap.size w w' := by
  have HR := Lib.hid h
  have HP := Lib.hid (put_in none 0 0 1 n [] (by decide) (by decide) (by decide) w ⟨rfl, fun h => absurd h (by decide)⟩ (fun _ => ⟨rfl, rfl⟩))
  have HL := Lib.hid h.1
  clear h
  go_enter Tryz.func73, Tryz.ntmps73
  go_wp2_with fail
  refine HP.out.mono ?_
  rintro e w1 ⟨v, rfl, ho, hb⟩
  have HO := Lib.hid (show Owns w1 w.heap.size v (numB n 1 ++ kidsB (kids.take 0)) by simpa [kidsB, numB] using ho)
  have HB := Lib.hid hb
  clear ho hb HP
  go_wp2
  go_loopw [5, 13] (fun v i wr => ∃ j : Nat, j ≤ n ∧ i = .int .i64 j ∧ Hid (Owns wr w.heap.size v (numB n 1 ++ kidsB (kids.take j))) ∧ Hid (Below w.heap.size w wr)) (fun _ i _ => n - (intOf i).toNat)
  case atStart => exact ⟨0, Nat.zero_le _, rfl, HO, HB⟩
  case round =>
    obtain ⟨j, hj, rfl, HO1, HB1⟩ := hrel
    clear HO HB
    by_cases hlt : j < n
    · obtain ⟨A1, c1, rfl, hA1⟩ := HO1.out.slice
      obtain ⟨b, off, rfl, hbl, hcl⟩ := (HR.out.below HB1.out).2 (by omega)
      have hjl : j < kids.length := by rw [HL.out]; exact hlt
      have k1 := hcl j hjl
      have hlen : (numB n 1 ++ kidsB (kids.take j)).length ≤ 65 := by
        rw [List.length_append, numB_len, kidsB_len, List.length_take]
        omega
      have HN := Lib.hid (show numB n 1 ++ kidsB (kids.take (j + 1)) = numB n 1 ++ kidsB (kids.take j) ++ numB kids[j] 4 by
        rw [List.take_succ_eq_append_getElem hjl, kidsB_append, List.append_assoc]
        simp [kidsB])
      have HP := Lib.hid (put_in A1 (numB n 1 ++ kidsB (kids.take j)).length c1 4 kids[j] _ (by omega) (by decide) (by decide) _ (HO1.out.row rfl) hA1)
      have HB2 := HB1
      generalize kids[j] = kid at *
      clear hcl hA1 HO1 HB1 hbl
      generalize (numB n 1 ++ kidsB (kids.take j)).length = L at *
      go_wp2_with fail
      refine HP.out.mono ?_
      rintro e w2 ⟨v2, rfl, ho, hb⟩
      have HO2 := Lib.hid (owns_low ho HB2.out.size)
      have HB3 := Lib.hid (HB2.out.trans (hb.mono HB2.out.size))
      clear ho hb HP
      go_wp2
      go_roundw
      case rel => exact ⟨j + 1, by omega, by go_num, Lib.hid (by rw [HN.out]; exact HO2.out), HB3⟩
      case measure => simp [intOf]; omega
    · obtain rfl : j = n := by omega
      have hfull : kids.take j = kids := List.take_of_length_le (by rw [HL.out]; exact Nat.le_refl _)
      rw [hfull] at HO1
      obtain ⟨A1, c1, rfl, hA1⟩ := HO1.out.slice
      have hlen : (numB j 1 ++ kidsB kids).length ≤ 65 := by
        rw [List.length_append, numB_len, kidsB_len, HL.out]
        omega
      have HP := Lib.hid (ptext_short A1 (numB j 1 ++ kidsB kids).length c1 _ data (by omega) (by omega) _ (HO1.out.row rfl) hA1)
      have HB2 := HB1
      have HE := Lib.hid (show numB j 1 ++ kidsB kids ++ headT data.size ++ data.data.toList = blockL kids data by unfold blockL textL; rw [HL.out, List.append_assoc, List.append_assoc])
      have HZ := Lib.hid (show (blockL kids data).length ≤ 4096 by rw [blockL_len, HL.out]; omega)
      clear hA1 HO1 HB1 hfull
      generalize (numB j 1 ++ kidsB kids).length = L at *
      go_wp2_with fail
      refine HP.out.mono ?_
      rintro e w2 ⟨v2, rfl, ho, hb⟩
      rw [HE.out] at ho
      obtain ⟨A2, c2, rfl, hA2⟩ := ho.slice
      have kc := conv_RowB w2 A2 (blockL kids data).length c2 _ (ho.row rfl)
      have HB3 := Lib.hid (HB2.out.trans (hb.mono HB2.out.size))
      clear ho hb HP HB2 hA2
      have HZ0 := Lib.hid (show (blockL kids data).length ≤ 4096 from HZ.out)
      obtain ⟨L2, hL2⟩ : ∃ L2, (blockL kids data).length = L2 := ⟨_, rfl⟩
      rw [hL2] at kc ⊢
      clear hL2
      go_wp2_with fail
      refine (CrcW.seal_any _ (by rw [arr_size]; exact HZ0.out) _).mono ?_
      rintro e w3 ⟨rfl, hb⟩
      have HB4 := Lib.hid (HB3.out.trans (hb.mono HB3.out.size))
      clear hb kc
      go_wp2
      go_ret
      exact ⟨rfl, HB4.out⟩
theorem place_any (gen root : Int) (note : ByteArray) (hg : 0 ≤ gen) (w : World) :
    Calls Tryz.prog 76 #[.agg #[.int .i64 gen, .int .i64 root, .string note]] w fun e w' => e = .returned (.int .i64 (gen % 2)) ∧ Below w.heap.size w w' := by
  have HB := Lib.hid ((Below.refl w.heap.size w).alloc (Nat.le_refl _) (.cells #[.int .i64 gen, .int .i64 root, .string note] 83))
  go_enter Tryz.func76, Tryz.ntmps76
  go_wp2
  go_ret
  exact ⟨rfl, HB.out⟩
end Go.Proofs.YthejlenafjnmkaaGreat.Sto
/- How a beginning lies on a device: contract; what a looking is asked that must hold. -/
namespace Go.Proofs.YthejlenafjnmkaaGreat.Sto
open Go.RowKit Go.Proofs.YthejlenafjnmkaaGreat.Oct
open Rws

theorem one_row (w : World) (x : UInt8) (fr : Nat × Nat) : RowB (w.alloc (.cells #[.int .u8 (x.toNat : Int)] 5 fr)) (some ⟨w.heap.size, 0, none⟩) 1 [x] := by
  refine ⟨rfl, fun _ => ⟨w.heap.size, 0, rfl, by simp, fun i hi => ?_⟩⟩
  obtain rfl : i = 0 := by simp at hi; exact hi
  have e : (w.alloc (.cells #[.int .u8 (x.toNat : Int)] 5 fr)).heap[w.heap.size]? = some (.cells #[.int .u8 (x.toNat : Int)] 5 fr) := Array.getElem?_push_size
  simp only [World.cell?, e]
  simp
set_option maxRecDepth 100000 in
set_option maxHeartbeats 1000000 in
theorem begin_bytes (gen root size : Int) (note : ByteArray) (hd : note.size ≤ 3900) (w : World) :
    Calls Tryz.prog 77 #[.agg #[.int .i64 gen, .int .i64 root, .string note], .int .i64 size] w fun e w' => e = .returned (.string (beginB gen root size note)) ∧ Below w.heap.size w w' := by
  have hb0 := (Below.refl w.heap.size w).alloc (Nat.le_refl _) (.cells #[.int .i64 gen, .int .i64 root, .string note] 83)
  have hb1 := hb0.alloc hb0.size (.cells #[.int .u8 83] 5 (1, 2))
  have hr : RowB ((w.alloc (.cells #[.int .i64 gen, .int .i64 root, .string note] 83)).alloc (.cells #[.int .u8 83] 5 (1, 2))) (some ⟨w.heap.size + 1, 0, none⟩) 1 [83] := by
    have h := one_row (w.alloc (.cells #[.int .i64 gen, .int .i64 root, .string note] 83)) 83 (1, 2)
    rw [World.size_alloc] at h
    exact h
  have hf := (Oct.Has.fresh w 83 #[.int .i64 gen, .int .i64 root, .string note]).past (.cells #[.int .u8 83] 5 (1, 2))
  have HP := Lib.hid (put_in (some ⟨w.heap.size + 1, 0, none⟩) 1 1 6 gen _ (by decide) (by decide) (by decide) _ hr (fun h => by cases h))
  have HB := Lib.hid hb1
  have HF := Lib.hid hf
  have hd2 : note.size < 65535 := by omega
  clear hb0 hb1 hr hf
  have kc : (convert 124 124 (.slice (some ⟨w.heap.size + 1, 0, none⟩) 1 1)).run Tryz.prog ((w.alloc (.cells #[.int .i64 gen, .int .i64 root, .string note] 83)).alloc (.cells #[.int .u8 83] 5)) = .ok (.slice (some ⟨w.heap.size + 1, 0, none⟩) 1 1) ((w.alloc (.cells #[.int .i64 gen, .int .i64 root, .string note] 83)).alloc (.cells #[.int .u8 83] 5 (1, 2))) := by
    have h := Lib.run_convert_bytes_const (P := Tryz.prog) (w.alloc (.cells #[.int .i64 gen, .int .i64 root, .string note] 83)) 124 5 #[.int .u8 83] 1 1 Tryz.underlying124 Tryz.underlying5
    rw [World.size_alloc] at h
    exact h
  go_enter Tryz.func77, Tryz.ntmps77
  go_wp2_with fail
  refine HP.out.mono ?_
  rintro e w1 ⟨v, rfl, ho, hb⟩
  have HB1 := Lib.hid (HB.out.trans (hb.mono HB.out.size))
  have HF1 := Lib.hid (HF.out.over (Oct.Chg.of_below hb (fun _ => False)) (fun h => h))
  have HO := Lib.hid (show Owns w1 _ v ([83] ++ numB gen 6) from ho)
  clear ho hb HP HB HF kc
  obtain ⟨A1, c1, rfl, hA1⟩ := HO.out.slice
  have b0 := Oct.Has.at_ HF1.out 0
  have b1 := Oct.Has.at_ HF1.out 1
  have b2 := Oct.Has.at_ HF1.out 2
  simp at b0 b1 b2
  have HP := Lib.hid (put_in A1 7 c1 4 root _ (by decide) (by decide) (by decide) _ (HO.out.row (by simp [numB_len])) hA1)
  rw [show ([83] ++ numB gen 6 : List UInt8).length = 7 from by simp [numB_len]]
  clear hA1 HO
  go_wp2_with fail
  refine HP.out.mono ?_
  rintro e w2 ⟨v, rfl, ho, hb⟩
  replace HB1 := Lib.hid (HB1.out.trans (hb.mono HB1.out.size))
  replace HF1 := Lib.hid (HF1.out.over (Oct.Chg.of_below hb (fun _ => False)) (fun h => h))
  have HO := Lib.hid (show Owns w2 _ v ([83] ++ numB gen 6 ++ numB root 4) from ho)
  clear ho hb HP b0 b1 b2
  obtain ⟨A2, c2, rfl, hA2⟩ := HO.out.slice
  have b0 := Oct.Has.at_ HF1.out 0
  have b1 := Oct.Has.at_ HF1.out 1
  have b2 := Oct.Has.at_ HF1.out 2
  simp at b0 b1 b2
  have HP := Lib.hid (put_in A2 11 c2 4 size _ (by decide) (by decide) (by decide) _ (HO.out.row (by simp [numB_len])) hA2)
  rw [show ([83] ++ numB gen 6 ++ numB root 4 : List UInt8).length = 11 from by simp [numB_len]]
  clear hA2 HO
  go_wp2_with fail
  refine HP.out.mono ?_
  rintro e w3 ⟨v, rfl, ho, hb⟩
  replace HB1 := Lib.hid (HB1.out.trans (hb.mono HB1.out.size))
  replace HF1 := Lib.hid (HF1.out.over (Oct.Chg.of_below hb (fun _ => False)) (fun h => h))
  have HO := Lib.hid (show Owns w3 _ v ([83] ++ numB gen 6 ++ numB root 4 ++ numB size 4) from ho)
  clear ho hb HP b0 b1 b2
  obtain ⟨A3, c3, rfl, hA3⟩ := HO.out.slice
  have b2 := Oct.Has.at_ HF1.out 2
  simp at b2
  have HP := Lib.hid (ptext_short A3 15 c3 _ note (by decide) hd2 _ (HO.out.row (by simp [numB_len])) hA3)
  rw [show ([83] ++ numB gen 6 ++ numB root 4 ++ numB size 4 : List UInt8).length = 15 from by simp [numB_len]]
  clear hA3 HO
  have HE := Lib.hid (show ([83] ++ numB gen 6 ++ numB root 4 ++ numB size 4 : List UInt8) ++ headT note.size ++ note.data.toList = beginL gen root size note by unfold beginL textL; rw [List.append_assoc])
  have HZ := Lib.hid (show (beginL gen root size note).length ≤ 4096 by unfold beginL; simp [numB_len, textL_len]; omega)
  go_wp2_with fail
  refine HP.out.mono ?_
  rintro e w4 ⟨v2, rfl, ho, hb⟩
  rw [HE.out] at ho
  obtain ⟨A4, c4, rfl, hA4⟩ := ho.slice
  have kc := conv_RowB w4 A4 (beginL gen root size note).length c4 _ (ho.row rfl)
  have HB3 := Lib.hid (HB1.out.trans (hb.mono HB1.out.size))
  clear ho hb HP HB1 HF1 hA4 b2
  obtain ⟨L2, hL2⟩ : ∃ L2, (beginL gen root size note).length = L2 := ⟨_, rfl⟩
  rw [hL2] at kc ⊢
  clear hL2
  go_wp2_with fail
  refine (CrcW.seal_any _ (by rw [arr_size]; exact HZ.out) _).mono ?_
  rintro e w5 ⟨rfl, hb⟩
  have HB4 := Lib.hid (HB3.out.trans (hb.mono HB3.out.size))
  clear hb kc
  go_wp2
  go_ret
  exact ⟨rfl, HB4.out⟩
theorem demand_yes (e : Option Addr) (w : World) :
    Calls Tryz.prog 106 #[.pointer e, .bool true] w fun x w' => x = .returned (.tuple #[]) ∧ w = w' := by
  go_enter Tryz.func106, Tryz.ntmps106
  go_wp2
  go_end0
  exact ⟨rfl, rfl⟩
theorem demand_no (q s : Nat) (r : ByteArray) (w : World) (h : Looks w q s r) :
    Calls Tryz.prog 106 #[.pointer (some ⟨q, 0, none⟩), .bool false] w fun e w' => e = .panicked (own s) ∧ Sight w' s r true 201 ∧ Oct.Chg (· = s) w w' := by
  have HD := Lib.hid (fail_ok q s 201 r w h)
  clear h
  go_enter Tryz.func106, Tryz.ntmps106
  go_wp2_with fail
  refine HD.out.mono ?_
  rintro e w1 ⟨rfl, hs, hc⟩
  clear HD
  go_wp2
  show _ ∧ _
  exact ⟨rfl, rfl, hs, hc⟩
def nameB (id size : Int) : Bool := decide (2 ≤ id) && decide (id < size)
theorem nameable_any (id size : Int) (w : World) :
    Calls Tryz.prog 109 #[.int .i64 id, .int .i64 size] w fun e w' => e = .returned (.bool (nameB id size)) ∧ w = w' := by
  unfold nameB
  by_cases h1 : 2 ≤ id
  · have d1 : decide (2 ≤ id) = true := decide_eq_true h1
    rw [d1]
    clear h1
    go_enter Tryz.func109, Tryz.ntmps109
    go_wp2
    go_ret
    exact ⟨rfl, rfl⟩
  · have d1 : decide (2 ≤ id) = false := decide_eq_false h1
    rw [d1]
    clear h1
    go_enter Tryz.func109, Tryz.ntmps109
    go_wp2
    go_ret
    exact ⟨rfl, rfl⟩
end Go.Proofs.YthejlenafjnmkaaGreat.Sto
/- The look by which a block is read: contract. -/
namespace Go.Proofs.YthejlenafjnmkaaGreat.Sto
open Go.RowKit Go.Proofs.YthejlenafjnmkaaGreat.Oct
open Rws

theorem info_i : (Tryz.prog.info? 3).map (fun i => (i.zero, i.size, i.bytes)) = some (some (.int .i64 0), 1, 8) := by kernel_rfl
def OwnI (w : World) (b : Nat) (v : Value) (l : List Int) : Prop := w.ownsRow b 3 1 v l.length (l.map (Value.int .i64))
theorem own_chg {w w' : World} {b : Nat} {t : TypeId} {v : Value} {n : Nat} {xs : List Value} {S : Nat → Prop} (h : w.ownsRow b t 1 v n xs) (hc : Chg S w w') (hs : ∀ k, b ≤ k → ¬ S k) : w'.ownsRow b t 1 v n xs := by
  refine ⟨h.1, ?_⟩
  rcases h.2 with e | ⟨g, cap, cur, e, hb, hh, k⟩
  · exact .inl e
  · exact .inr ⟨g, cap, cur, e, hb, by rw [hc.block g (Array.getElem?_eq_some_iff.1 hh).1 (hs g hb)]; exact hh, k⟩
theorem chg_grown {a w w' : World} {S : Nat → Prop} {row : Option Nat} (h : Chg S a w) (hg : w.grownBy w' row) (hr : ∀ k, row = some k → a.heap.size ≤ k) : Chg S a w' :=
  ⟨hg.os.trans h.os, hg.tape.trans h.tape, hg.output.trans h.output, Nat.le_trans h.size hg.size, fun i hi hn => (hg.block i (Nat.lt_of_lt_of_le hi h.size) (fun e => by have := hr i e.symm; omega)).trans (h.block i hi hn)⟩
theorem has_grown {w w' : World} {g : Nat} {t : TypeId} {cs : Array Value} {row : Option Nat} (h : Oct.Has w g t cs) (hg : w.grownBy w' row) (hr : some g = row → False) : Oct.Has w' g t cs := by
  unfold Oct.Has at *
  rw [hg.block g (Array.getElem?_eq_some_iff.1 h).1 hr]
  exact h
theorem looks_past {w : World} {q s : Nat} {r : ByteArray} (h : Looks w q s r) (o : Obj) : Looks (w.alloc o) q s r := ⟨h.eye.past o, Oct.Has.past h.sight o⟩
theorem looks_grown {w w' : World} {q s : Nat} {r : ByteArray} {row : Option Nat} (h : Looks w q s r) (hg : w.grownBy w' row) (h1 : some q = row → False) (h2 : some s = row → False) : Looks w' q s r :=
  ⟨has_grown h.eye hg h1, has_grown h.sight hg h2⟩
theorem own_sl {w : World} {b n : Nat} {e : TypeId} {u : Value} {l : List Value} (h : w.ownsRow b e 1 u n l) : ∃ A c, u = .slice A n c := by
  rcases h.2 with ⟨e1, e0⟩ | ⟨g, cap, cur, e, _, _, _⟩
  · exact ⟨none, 0, by rw [e1, e0]⟩
  · exact ⟨_, cap, e⟩
theorem gotNum_txt {r : ByteArray} {k : Int} {t q : ByteArray} (h : gotNum r k = .txt t q) : False := by
  unfold gotNum at h
  repeat' split at h
  all_goals simp at h
theorem gotText_num {r : ByteArray} {n v : Int} {q : ByteArray} (h : gotText r n = .num v q) : False := by
  unfold gotText at h
  repeat' split at h
  all_goals simp at h
/-- A number that was got of a few bytes. -/
theorem gotNum_nat {r : ByteArray} {k v : Int} {q : ByteArray} (h : gotNum r k = .num v q) : ∃ m : Nat, v = m ∧ m < 9223372036854775808 := by
  unfold gotNum at h
  repeat' split at h
  all_goals simp at h
  rename_i h3
  exact ⟨_, h.1.symm, h3⟩
abbrev Pars (α : Type) := Except (ByteArray × Int) α
def kidsP (size : Int) : Nat → ByteArray → List Int → Pars (List Int × ByteArray)
  | 0, r, acc => .ok (acc, r)
  | k + 1, r, acc =>
    match gotNum r 4 with
    | .num v r1 => if nameB v size = true then kidsP size k r1 (acc ++ [v]) else .error (r1, 201)
    | .txt _ r1 => .error (r1, 201)
    | .bad r1 y => .error (r1, y)
def textP (ks : List Int) (r : ByteArray) : Pars ((List Int × ByteArray) × ByteArray) :=
  match gotText r 3900 with
  | .txt t r3 => .ok ((ks, t), r3)
  | .num _ r3 => .error (r3, 201)
  | .bad r3 y => .error (r3, y)
def tailP : Pars (List Int × ByteArray) → Pars ((List Int × ByteArray) × ByteArray)
  | .ok (ks, r) => textP ks r
  | .error e => .error e
/-- What the bytes of a block tell. -/
def blockP (size : Int) (r : ByteArray) : Pars ((List Int × ByteArray) × ByteArray) :=
  match gotNum r 1 with
  | .num n r1 => if n ≤ 16 then tailP (kidsP size n.toNat r1 []) else .error (r1, 201)
  | .txt _ r1 => .error (r1, 201)
  | .bad r1 y => .error (r1, y)
def BS (s bc : Nat) (k : Nat) : Prop := k = s ∨ k = bc
/-- What the look leaves. -/
def BEnd (x : Pars ((List Int × ByteArray) × ByteArray)) (q s bc : Nat) (w : World) (e : Ending) (w' : World) : Prop :=
  match x with
  | .ok ((ks, t), r) => e = .returned (.tuple #[]) ∧ Looks w' q s r ∧ (∃ v, Oct.Has w' bc 51 #[v, .string t] ∧ OwnI w' w.heap.size v ks) ∧ Chg (BS s bc) w w'
  | .error (r, y) => e = .panicked (own s) ∧ Sight w' s r true y ∧ Chg (BS s bc) w w'
/-- On the way. -/
structure BMid (w : World) (q s bc cs : Nat) (size : Int) (r : ByteArray) (acc : List Int) (w' : World) : Prop where
  looks : Looks w' q s r
  blk : ∃ A c, Oct.Has w' bc 51 #[.slice A acc.length c, .string ⟨#[]⟩] ∧ OwnI w' w.heap.size (.slice A acc.length c) acc
  size_ : Oct.Has w' cs 3 #[.int .i64 size]
  chg : Chg (BS s bc) w w'
set_option maxRecDepth 100000 in
set_option maxHeartbeats 4000000 in
theorem block_look (q s bc cs : Nat) (size : Int) (r : ByteArray) (d1 : q ≠ s) (d2 : bc ≠ s) (d3 : bc ≠ q) (d4 : cs ≠ s) (d5 : cs ≠ bc) (w : World) (hl : Looks w q s r) (hb : Oct.Has w bc 51 #[.slice none 0 0, .string ⟨#[]⟩]) (hs : Oct.Has w cs 3 #[.int .i64 size]) (X : Pars ((List Int × ByteArray) × ByteArray)) (hX : blockP size r = X) :
    Calls Tryz.prog 116 #[.pointer (some ⟨q, 0, none⟩), .pointer (some ⟨cs, 0, none⟩), .pointer (some ⟨bc, 0, none⟩)] w (BEnd X q s bc w) := by
  have HX := Lib.hid hX
  clear hX
  obtain ⟨i0, hi, hz0, hz1, hz2⟩ := info_parts info_i
  have HI := Lib.hid (And.intro hi (And.intro hz0 (And.intro hz1 hz2)))
  clear hi hz0 hz1 hz2
  have bq := hl.eye.bound
  have bs := Oct.Has.bound hl.sight
  have bbc := hb.bound
  have bcs := hs.bound
  have HQ := Lib.hid (And.intro bq (And.intro bs (And.intro bbc bcs)))
  have HD := Lib.hid (And.intro d1 (And.intro d2 (And.intro d3 (And.intro d4 d5))))
  have HB0 := Lib.hid hb
  have HS0 := Lib.hid hs
  have HN := Lib.hid (num_got q s 1 r d1 w hl)
  clear hl hb hs bq bs bbc bcs d1 d2 d3 d4 d5
  go_enter Tryz.func116, Tryz.ntmps116
  cases hg : gotNum r 1 with
  | txt t r1 => exact (gotNum_txt hg).elim
  | bad r1 y =>
    have hge : X = .error (r1, y) := HX.out.symm.trans (by unfold blockP; rw [hg])
    subst hge
    rw [hg] at HN
    clear hg
    go_wp2_with fail
    refine HN.out.mono ?_
    rintro e w1 hd
    obtain ⟨rfl, h1, h2⟩ := hd
    have HE := Lib.hid (show BEnd (.error (r1, y)) q s bc w (.panicked (own s)) w1 from ⟨rfl, h1, h2.mono fun k hk => Or.inl hk⟩)
    clear h1 h2
    go_wp2
    show _ ∧ _
    exact ⟨rfl, HE.out⟩
  | num n r1 =>
    obtain ⟨m, rfl, hm9⟩ := gotNum_nat hg
    have HX1 := Lib.hid (show X = if (m : Int) ≤ 16 then tailP (kidsP size m r1 []) else .error (r1, 201) from HX.out.symm.trans (by unfold blockP; rw [hg]; rfl))
    rw [hg] at HN
    clear hg HX
    go_wp2_with fail
    refine HN.out.mono ?_
    rintro e w1 hd
    obtain ⟨rfl, h1, h2⟩ := hd
    have HM1 := Lib.hid (show BMid w q s bc cs size r1 [] w1 from ⟨h1, ⟨none, 0, HB0.out.over h2 HD.out.2.1, World.ownsRow_nil _ _ _ _⟩, HS0.out.over h2 HD.out.2.2.2.1, h2.mono fun k hk => Or.inl hk⟩)
    clear h1 h2 HN
    by_cases h16 : m ≤ 16
    · have t16 : decide ((m : Int) ≤ 16) = true := decide_eq_true (by omega)
      have HX2 := Lib.hid (show X = tailP (kidsP size (m - 0) r1 []) from HX1.out.trans (if_pos (by omega)))
      clear HX1
      go_wp2_with fail
      refine (demand_yes _ _).mono ?_
      rintro e w' ⟨rfl, rfl⟩
      go_wp2
      go_loopw [13] (fun i wr => ∃ (j : Nat) (acc : List Int) (rj : ByteArray), j ≤ m ∧ i = .int .i64 j ∧ Hid (acc.length = j) ∧ Hid (X = tailP (kidsP size (m - j) rj acc)) ∧ Hid (BMid w q s bc cs size rj acc wr)) (fun i _ => m - (intOf i).toNat)
      case atStart => exact ⟨0, [], r1, Nat.zero_le _, rfl, Lib.hid rfl, HX2, HM1⟩
      case round =>
        obtain ⟨j, acc, rj, hj, rfl, HA, HXJ, HMJ⟩ := hrel
        clear HX2 HM1
        by_cases hlt : j < m
        · obtain ⟨k, hk⟩ : ∃ k, m - j = k + 1 := ⟨m - j - 1, by omega⟩
          have HK := Lib.hid (show m - (j + 1) = k by omega)
          rw [hk] at HXJ
          clear hk
          have HN4 := Lib.hid (num_got q s 4 rj HD.out.1 wr HMJ.out.looks)
          cases hg : gotNum rj 4 with
          | txt t r2 => exact (gotNum_txt hg).elim
          | bad r2 y =>
            have hge : X = .error (r2, y) := HXJ.out.trans (by unfold kidsP; rw [hg]; rfl)
            subst hge
            rw [hg] at HN4
            clear hg
            go_wp2_with fail
            refine HN4.out.mono ?_
            rintro e w2 hd
            obtain ⟨rfl, h1, h2⟩ := hd
            have HE := Lib.hid (show BEnd (.error (r2, y)) q s bc w (.panicked (own s)) w2 from ⟨rfl, h1, HMJ.out.chg.trans (h2.mono fun k hk => Or.inl hk)⟩)
            clear h1 h2
            go_wp2
            show _ ∧ _
            exact ⟨rfl, HE.out⟩
          | num v r2 =>
            have HXV := Lib.hid (show X = tailP (if nameB v size = true then kidsP size k r2 (acc ++ [v]) else .error (r2, 201)) from HXJ.out.trans (by conv => lhs; unfold kidsP; rw [hg]))
            rw [hg] at HN4
            clear hg HXJ
            go_wp2_with fail
            refine HN4.out.mono ?_
            rintro e w2 hd
            obtain ⟨rfl, h1, h2⟩ := hd
            have hs2 := HMJ.out.size_.over h2 HD.out.2.2.2.1
            have k1 := Oct.Has.at_ hs2 0
            simp at k1
            obtain ⟨A1, c1, n1, n2⟩ := HMJ.out.blk
            have HL2 := Lib.hid h1
            have HS2 := Lib.hid hs2
            have HC2 := Lib.hid (HMJ.out.chg.trans (h2.mono fun k hk => (Or.inl hk : BS s bc k)))
            have HB2 := Lib.hid (n1.over h2 HD.out.2.1)
            have HO2 := Lib.hid (show OwnI w2 w.heap.size (.slice A1 acc.length c1) acc from own_chg n2 h2 (fun k hk => by have := HQ.out.2.1; omega))
            clear h1 h2 hs2 n1 n2 HN4 HMJ
            go_wp2_with fail
            refine (nameable_any v size _).mono ?_
            rintro e w' ⟨rfl, rfl⟩
            cases hnm : nameB v size with
            | false =>
              have hge : X = .error (r2, 201) := HXV.out.trans (by rw [hnm]; rfl)
              subst hge
              have HF := Lib.hid (demand_no q s r2 w2 HL2.out)
              clear hnm
              go_wp2_with fail
              refine HF.out.mono ?_
              rintro e w3 ⟨rfl, h1, h2⟩
              have HE := Lib.hid (show BEnd (.error (r2, 201)) q s bc w (.panicked (own s)) w3 from ⟨rfl, h1, HC2.out.trans (h2.mono fun k hk => Or.inl hk)⟩)
              clear h1 h2
              go_wp2
              show _ ∧ _
              exact ⟨rfl, HE.out⟩
            | true =>
              have HXN := Lib.hid (show X = tailP (kidsP size k r2 (acc ++ [v])) from HXV.out.trans (by rw [hnm]; rfl))
              clear hnm HXV k1
              go_wp2_with fail
              refine (demand_yes _ _).mono ?_
              rintro e w' ⟨rfl, rfl⟩
              have k1 := Oct.Has.at_ HB2.out 0
              simp at k1
              have HC3 := Lib.hid (HC2.out.alloc (.cells #[.int .i64 v] 3))
              have HN2 := Lib.hid (show ∀ q u, [(.int .i64 v : Value)][q]? = some u → (w2.alloc (.cells #[.int .i64 v] 3)).cell? ((⟨w2.heap.size, 0, none⟩ : Addr).add q) = some u from cell_one_new w2 _ _)
              have H1 := Lib.hid (show ∀ u ∈ [(.int .i64 v : Value)], u.oneCell' = true by intro u hu; rw [List.mem_singleton.1 hu]; rfl)
              have H2 := Lib.hid (show acc.length + 1 ≤ maxLen by rw [HA.out]; unfold maxLen; omega)
              have H3 := Lib.hid (show (acc.length + 1) * 8 ≤ 140737488355328 by rw [HA.out]; omega)
              have H4 := Lib.hid (show w.heap.size ≤ (w2.alloc (.cells #[.int .i64 v] 3)).heap.size from HC3.out.size)
              go_wp2_with (at_builtin; (refine wpList_append_own (w2.alloc (.cells #[.int .i64 v] 3)) rfl (.tmp 23) (.tmp 25) _ rfl w.heap.size 3 i0 (.int .i64 0) 1 8 Tryz.underlying40 HI.out.1 HI.out.2.1 HI.out.2.2.1 HI.out.2.2.2 rfl (by decide) _ acc.length (acc.map (Value.int .i64)) rfl (World.ownsRow.alloc HO2.out _) ⟨w2.heap.size, 0, none⟩ 1 1 [.int .i64 v] rfl rfl HN2.out H1.out H2.out H3.out H4.out ?_))
              intro v2 w3 o2 b2 _
              obtain ⟨A3, c3, rfl⟩ := own_sl o2
              have hown := fun q hq => (World.ownsRow.lt HO2.out q hq).1
              have far : ∀ k, k < w.heap.size → some k = (Value.slice A1 acc.length c1).ownBlock → False := fun k hk e => by have := hown k e.symm; omega
              have hB3 := has_grown (HB2.out.past (.cells #[.int .i64 v] 3)) b2 (far _ HQ.out.2.2.1)
              have hS3 := has_grown (HS2.out.past (.cells #[.int .i64 v] 3)) b2 (far _ HQ.out.2.2.2)
              have hL3 := looks_grown (looks_past HL2.out (.cells #[.int .i64 v] 3)) b2 (far _ HQ.out.1) (far _ HQ.out.2.1)
              have hC3 := chg_grown HC3.out b2 hown
              have i1 := Oct.Has.at_ hB3 0
              have i2 := Oct.Has.free hB3 0
              simp at i1
              have hO3 : OwnI w3 w.heap.size (.slice A3 (acc ++ [v]).length c3) (acc ++ [v]) := by unfold OwnI; rw [List.length_append, List.map_append]; exact o2
              have HM3 := Lib.hid (show BMid w q s bc cs size r2 (acc ++ [v]) (w3.setCell ⟨bc, 0, none⟩ (.slice A3 (acc.length + 1) c3)) from
                ⟨⟨hL3.eye.keep (p := ⟨bc, 0, none⟩) HD.out.2.2.1.symm _, Oct.Has.keep hL3.sight (p := ⟨bc, 0, none⟩) HD.out.2.1.symm _⟩, ⟨A3, c3, by rw [List.length_append]; exact Oct.Has.put hB3 0 _, own_chg hO3 ((Chg.refl (· = bc) w3).setCell (p := ⟨bc, 0, none⟩) (.inl rfl) _) (fun k hk => by have := HQ.out.2.2.1; omega)⟩, hS3.keep (p := ⟨bc, 0, none⟩) HD.out.2.2.2.2 _, hC3.setCell (p := ⟨bc, 0, none⟩) (.inl (.inr rfl)) _⟩)
              clear o2 b2 hown far hB3 hS3 hL3 hC3 hO3
              go_wp2
              go_roundw
              case rel => exact ⟨j + 1, acc ++ [v], r2, by omega, by go_num, Lib.hid (by rw [List.length_append, HA.out]; rfl), Lib.hid (by rw [HK.out]; exact HXN.out), HM3⟩
              case measure => simp [intOf]; omega
        · obtain rfl : j = m := by omega
          rw [Nat.sub_self] at HXJ
          have HXT := Lib.hid (show X = textP acc rj from HXJ.out)
          have HT := Lib.hid (text_got q s 3900 rj HD.out.1 wr HMJ.out.looks)
          clear HXJ
          cases hg : gotText rj 3900 with
          | num v r2 => exact (gotText_num hg).elim
          | bad r2 y =>
            have hge : X = .error (r2, y) := HXT.out.trans (by unfold textP; rw [hg])
            subst hge
            rw [hg] at HT
            clear hg
            go_wp2_with fail
            refine HT.out.mono ?_
            rintro e w2 hd
            obtain ⟨rfl, h1, h2⟩ := hd
            have HE := Lib.hid (show BEnd (.error (r2, y)) q s bc w (.panicked (own s)) w2 from ⟨rfl, h1, HMJ.out.chg.trans (h2.mono fun k hk => Or.inl hk)⟩)
            clear h1 h2
            go_wp2
            show _ ∧ _
            exact ⟨rfl, HE.out⟩
          | txt tx r2 =>
            have hge : X = .ok ((acc, tx), r2) := HXT.out.trans (by unfold textP; rw [hg])
            subst hge
            rw [hg] at HT
            clear hg
            go_wp2_with fail
            refine HT.out.mono ?_
            rintro e w2 hd
            obtain ⟨rfl, h1, h2⟩ := hd
            obtain ⟨A1, c1, n1, n2⟩ := HMJ.out.blk
            have hB2 := n1.over h2 HD.out.2.1
            have hO2 : OwnI w2 w.heap.size (.slice A1 acc.length c1) acc := own_chg n2 h2 (fun k hk => by have := HQ.out.2.1; omega)
            have i1 := Oct.Has.at_ hB2 1
            have i2 := Oct.Has.free hB2 1
            simp at i1
            have HE := Lib.hid (show BEnd (.ok ((acc, tx), r2)) q s bc w (.returned (.tuple #[])) (w2.setCell ⟨bc, 1, none⟩ (.string tx)) from
              ⟨rfl, ⟨h1.eye.keep (p := ⟨bc, 1, none⟩) HD.out.2.2.1.symm _, Oct.Has.keep h1.sight (p := ⟨bc, 1, none⟩) HD.out.2.1.symm _⟩, ⟨_, Oct.Has.put hB2 1 _, own_chg hO2 ((Chg.refl (· = bc) w2).setCell (p := ⟨bc, 1, none⟩) (.inl rfl) _) (fun k hk => by have := HQ.out.2.2.1; omega)⟩, (HMJ.out.chg.trans (h2.mono fun k hk => Or.inl hk)).setCell (p := ⟨bc, 1, none⟩) (.inl (.inr rfl)) _⟩)
            clear h1 h2 n1 n2 hB2 hO2
            go_wp2
            go_end0
            exact HE.out
    · have t16 : decide ((m : Int) ≤ 16) = false := decide_eq_false (by omega)
      have hge : X = .error (r1, 201) := HX1.out.trans (if_neg (by omega))
      subst hge
      have HF := Lib.hid (demand_no q s r1 w1 HM1.out.looks)
      clear h16
      go_wp2_with fail
      refine HF.out.mono ?_
      rintro e w2 ⟨rfl, h1, h2⟩
      have HE := Lib.hid (show BEnd (.error (r1, 201)) q s bc w (.panicked (own s)) w2 from ⟨rfl, h1, HM1.out.chg.trans (h2.mono fun k hk => Or.inl hk)⟩)
      clear h1 h2
      go_wp2
      show _ ∧ _
      exact ⟨rfl, HE.out⟩
end Go.Proofs.YthejlenafjnmkaaGreat.Sto
