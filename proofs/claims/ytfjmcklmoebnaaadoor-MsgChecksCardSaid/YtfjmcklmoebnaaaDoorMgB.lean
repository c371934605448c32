/- A message put: the program's. -/
import Derived.Test.YtfjmcklmoebnaaaDoorMgA
import Derived.Test.YtfjmcklmoebnaaaDoorCrcAwake
import Derived.Test.YtfjmcklmoebnaaaDoorNtF
namespace Go.Proofs.YtfjmcklmoebnaaaDoor.Mg
open Go.RowKit Go.Proofs.YtfjmcklmoebnaaaDoor.Mem Go.Proofs.YtfjmcklmoebnaaaDoor.Nt
open Go.Proofs.YtfjmcklmoebnaaaDoor.Oct (Owns RowB headT cutT)
open Go.Proofs.YtfjmcklmoebnaaaDoor.Vc (numB numB_len vecB owns_lens vecC)
set_option linter.unusedVariables false set_option linter.unusedSimpArgs false

noncomputable def putR (m : MsgP) : ByteArray × Int := @ite _ (OkM m) (Classical.propDecidable _) (CrcW.sealB ⟨(msgB m).toArray⟩, 0) (⟨#[]⟩, 201)
theorem putR_yes {m : MsgP} (h : OkM m) : putR m = (CrcW.sealB ⟨(msgB m).toArray⟩, 0) := by unfold putR; exact if_pos h
theorem putR_no {m : MsgP} (h : ¬ OkM m) : putR m = (⟨#[]⟩, 201) := by unfold putR; exact if_neg h
def PutIs (m : MsgP) (w : World) (e : Ending) (w' : World) : Prop := e = .returned (.tuple #[.string (putR m).1, .int .i64 (putR m).2]) ∧ Below w.heap.size w w'
theorem ok_kind {m : MsgP} (h : OkM m) : m.kind = 1 ∨ m.kind = 2 ∨ m.kind = 3 ∨ m.kind = 4 := by
  have h1 := h.1.1
  unfold InB at h1
  omega
theorem ok_data {m : MsgP} (h : OkM m) : m.data.size ≤ 512 := by
  have h4 := h.2.2.2.1
  rcases ok_kind h with q | q | q | q
  · have e := congrArg (fun c => c[18]?) (sameM_iff.1 h4)
    rw [bare_1 q] at e
    have e2 : Value.string m.data = .string ⟨#[]⟩ := Option.some.inj e
    injection e2 with e2
    rw [e2]; exact Nat.zero_le _
  · have h5 := (kind_2 q).1 h.2.2.2.2
    have h6 := h5.2.2.2.2
    omega
  · have e := congrArg (fun c => c[18]?) (sameM_iff.1 h4)
    rw [bare_3 q] at e
    have e2 : Value.string m.data = .string ⟨#[]⟩ := Option.some.inj e
    injection e2 with e2
    rw [e2]; exact Nat.zero_le _
  · have e := congrArg (fun c => c[18]?) (sameM_iff.1 h4)
    rw [bare_4 q] at e
    have e2 : Value.string m.data = .string ⟨#[]⟩ := Option.some.inj e
    injection e2 with e2
    rw [e2]; exact Nat.zero_le _
theorem hd_cell (m : MsgP) : ∀ {j : Nat}, j < 4 → (#[.int .i64 m.kind, .int .i64 m.fr, .int .i64 m.to, .int .i64 m.vol] : Array Value)[j]? = some (.int .i64 (hdN m j))
  | 0, _ => rfl
  | 1, _ => rfl
  | 2, _ => rfl
  | 3, _ => rfl
  | j + 4, h => by omega
structure LoopI (w wr : World) (m : MsgP) (b : Nat) (A : Option Addr) (n c j : Nat) : Prop where
  row : RowI w wr A n c (headTo m j)
  has : Has wr w.heap.size 27 (msgC m)
  lst : Has wr b 3 #[.int .i64 m.kind, .int .i64 m.fr, .int .i64 m.to, .int .i64 m.vol]
theorem LoopI.start {w w1 : World} {m : MsgP} (hb : Below w.heap.size w w1) (h : Has w1 w.heap.size 27 (msgC m)) : LoopI w (w1.alloc (.cells #[.int .i64 m.kind, .int .i64 m.fr, .int .i64 m.to, .int .i64 m.vol] 3)) m w1.heap.size none 0 0 0 :=
  ⟨⟨hb.alloc hb.size _, Vc.row_nil _, fun _ => ⟨rfl, rfl⟩⟩, h.past _, Has.fresh w1 _ _⟩
theorem LoopI.step {w wr w2 : World} {m : MsgP} {b : Nat} {A A2 : Option Addr} {n c n2 c2 j : Nat} (h : LoopI w wr m b A n c j) (hr : RowI w w2 A2 n2 c2 (headTo m j ++ numB (hdN m j) 1)) (hb : Below wr.heap.size wr w2) : LoopI w w2 m b A2 n2 c2 (j + 1) := ⟨hr, h.has.below hb, h.lst.below hb⟩
set_option maxRecDepth 100000 in
set_option maxHeartbeats 2000000 in
theorem put_bad (m : MsgP) (hok : ¬ OkM m) (w : World) : Calls Tryd.prog 17 #[.agg (msgC m)] w (PutIs m w) := by
  have HPR := Lib.hid (putR_no hok)
  have HCK := Lib.hid (show ∀ W, Calls Tryd.prog 9 #[.agg (msgC m)] W fun e w' => e = .returned (.int .i64 201) ∧ Below W.heap.size W w' from fun W => err_no hok ▸ check_any m W)
  have HB0 := Lib.hid ((Below.refl w.heap.size w).alloc (Nat.le_refl _) (.cells (msgC m) 27))
  have HA0 := Lib.hid (Has.fresh w 27 (msgC m))
  clear hok
  go_enter Tryd.func17, Tryd.ntmps17
  go_wp2_with ((with_reducible refine Who.wpList_loadC 27 (.tmp 1) rfl w.heap.size 0 (msgC m) ?_); refine And.intro ⟨by rfl, by rfl, ⟨_, Tryd.underlying27, rfl⟩, info_size _⟩ (And.intro (Who.has_range HA0.out) ?_); (try simp only [Act.put, List.setIfInBounds_toArray, List.set_cons_zero, List.set_cons_succ]))
  with_reducible refine (HCK.out _).mono ?_
  rintro e w1 ⟨rfl, hb⟩
  have HB1 := Lib.hid (HB0.out.trans (hb.mono HB0.out.size))
  clear hb
  go_wp2
  exact bodyPost_ret (v := .tuple #[.string ⟨#[]⟩, .int .i64 201]) (by simp [results, Tryd.results17, go_sem]) rfl ⟨by rw [HPR.out], HB1.out⟩
set_option maxRecDepth 100000 in
set_option maxHeartbeats 4000000 in
theorem put_k1 (m : MsgP) (hok : OkM m) (q : m.kind = 1) (w : World) : Calls Tryd.prog 17 #[.agg (msgC m)] w (PutIs m w) := by
  have HPR := Lib.hid (putR_yes hok)
  have HMB := Lib.hid (msgB_1 q)
  have HDS := Lib.hid (ok_data hok)
  have HK := Lib.hid (fun W => kindOf_any m.kind W)
  have HKC : kindC m.kind = #[.string ⟨#[97, 115, 107]⟩, .bool true, .bool true, .bool true, .bool false, .bool false] := by unfold kindC; simp [q]
  rw [HKC] at HK
  have HCK := Lib.hid (show ∀ W, Calls Tryd.prog 9 #[.agg (msgC m)] W fun e w' => e = .returned (.int .i64 0) ∧ Below W.heap.size W w' from fun W => err_yes hok ▸ check_any m W)
  have HB0 := Lib.hid ((Below.refl w.heap.size w).alloc (Nat.le_refl _) (.cells (msgC m) 27))
  have HA0 := Lib.hid (Has.fresh w 27 (msgC m))
  clear HKC hok q
  go_enter Tryd.func17, Tryd.ntmps17
  go_wp2_with ((with_reducible refine Who.wpList_loadC 27 (.tmp 1) rfl w.heap.size 0 (msgC m) ?_); refine And.intro ⟨by rfl, by rfl, ⟨_, Tryd.underlying27, rfl⟩, info_size _⟩ (And.intro (Who.has_range HA0.out) ?_); (try simp only [Act.put, List.setIfInBounds_toArray, List.set_cons_zero, List.set_cons_succ]))
  with_reducible refine (HCK.out _).mono ?_
  rintro e w1 ⟨rfl, hb⟩
  have HA1 := Lib.hid (HA0.out.below hb)
  have HB1 := Lib.hid (HB0.out.trans (hb.mono HB0.out.size))
  have c0 : w1.cell? ⟨w.heap.size, 0, none⟩ = some (.int .i64 m.kind) := HA1.out.at_ 0
  have c1 : w1.cell? ⟨w.heap.size, 1, none⟩ = some (.int .i64 m.fr) := HA1.out.at_ 1
  have c2 : w1.cell? ⟨w.heap.size, 2, none⟩ = some (.int .i64 m.to) := HA1.out.at_ 2
  have c3 : w1.cell? ⟨w.heap.size, 3, none⟩ = some (.int .i64 m.vol) := HA1.out.at_ 3
  have HI0 := Lib.hid (LoopI.start HB1.out HA1.out)
  clear hb HCK HA0 HB0
  go_wp2
  go_loopw [5, 24] (fun s i wr => ∃ j : Nat, ∃ A n c, j ≤ 4 ∧ i = .int .i64 j ∧ s = .slice A n c ∧ Hid (LoopI w wr m w1.heap.size A n c j)) (fun _ i _ => 4 - (intOf i).toNat)
  case atStart => exact ⟨0, _, _, _, by omega, rfl, rfl, HI0⟩
  case round =>
    obtain ⟨j, A, n, c, hj, rfl, rfl, HI⟩ := hrel
    by_cases hlt : j < 4
    · have x0 : wr.cell? ⟨w1.heap.size, j, none⟩ = some (.int .i64 (hdN m j)) := (HI.out.lst.at_ j).trans (hd_cell m hlt)
      have HP := Lib.hid (num_row HI.out.row (hdN m j) 1 (by omega) (by omega) (by rw [headTo_len]; omega))
      clear c0 c1 c2 c3
      go_wp2_with fail
      refine HP.out.mono ?_
      rintro e w2 ⟨A2, n2, c2, rfl, hrow, hb⟩
      have HRel := Lib.hid (HI.out.step hrow hb)
      clear hrow hb
      go_wp2
      go_roundw
      case rel => exact ⟨j + 1, _, _, _, by omega, by go_num, rfl, HRel⟩
      case measure => simp [intOf]; omega
    · obtain rfl : j = 4 := by omega
      have HA := Lib.hid HI.out.has
      have HSR := Lib.hid (seen_range HI.out.has)
      have HV := Lib.hid (vec_row HI.out.row m.seen (by rw [headTo_len]; omega))
      clear c0 c1 c2 c3
      go_wp2_with ((with_reducible refine Who.wpList_loadC 25 (.tmp 33) rfl w.heap.size 10 (vecC m.seen) ?_); refine And.intro ⟨by rfl, by rfl, ⟨_, Tryd.underlying25, rfl⟩, info_vec⟩ (And.intro HSR.out ?_); (try simp only [Act.put, List.setIfInBounds_toArray, List.set_cons_zero, List.set_cons_succ]))
      refine HV.out.mono ?_
      rintro e w2 ⟨A2, n2, c2, rfl, hrow, hb⟩
      have HA2 := Lib.hid (HA.out.below hb)
      obtain ⟨M2, hM2⟩ : ∃ M2, M2 = headTo m 4 ++ vecB m.seen := ⟨_, rfl⟩
      rw [← hM2] at hrow
      have HM2 := Lib.hid hM2
      have HL2 := Lib.hid (show M2.length = 52 by rw [hM2, List.length_append, headTo_len, vecB_len])
      have HR2 := Lib.hid hrow
      have d0 : w2.cell? ⟨w.heap.size, 0, none⟩ = some (.int .i64 m.kind) := HA2.out.at_ 0
      clear hrow hb hM2 HV HSR HA hlt hj HI
      go_wp2_with fail
      with_reducible refine (HK.out _).mono ?_
      rintro e w3 ⟨rfl, hb⟩
      have HA3 := Lib.hid ((HA2.out.below hb).past (.cells #[.string ⟨#[97, 115, 107]⟩, .bool true, .bool true, .bool true, .bool false, .bool false] 47))
      have HR3 := Lib.hid (HR2.out.low (hb.alloc hb.size (.cells #[.string ⟨#[97, 115, 107]⟩, .bool true, .bool true, .bool true, .bool false, .bool false] 47)))
      have HX3 := Lib.hid (Has.fresh w3 47 #[.string ⟨#[97, 115, 107]⟩, .bool true, .bool true, .bool true, .bool false, .bool false])
      clear hb d0 HA2 HR2
      have e4 : (w3.alloc (.cells #[.string ⟨#[97, 115, 107]⟩, .bool true, .bool true, .bool true, .bool false, .bool false] 47)).cell? ⟨w.heap.size, 4, none⟩ = some (.int .i64 m.base.1) := HA3.out.at_ 4
      have e5 : (w3.alloc (.cells #[.string ⟨#[97, 115, 107]⟩, .bool true, .bool true, .bool true, .bool false, .bool false] 47)).cell? ⟨w.heap.size, 5, none⟩ = some (.int .i64 m.base.2) := HA3.out.at_ 5
      have HP3 := Lib.hid (mark_row HR3.out m.base (by have := HL2.out; omega))
      go_wp2_with fail
      refine HP3.out.mono ?_
      rintro e w4 ⟨A4, n4, c4, rfl, hrow, hb⟩
      obtain ⟨M3, hM3⟩ : ∃ M3, M3 = M2 ++ markB m.base := ⟨_, rfl⟩
      rw [← hM3] at hrow
      have HM3 := Lib.hid hM3
      have HL3 := Lib.hid (show M3.length ≤ 4000 ∧ M3.length = M2.length + (markB m.base).length by have h1 := HL2.out; have h2 := HDS.out; rw [hM3, List.length_append]; refine ⟨?_, rfl⟩; rw [markB_len]; omega)
      replace HL3 := Lib.hid (show M3.length = 64 by have h1 := HL2.out; have h2 := HL3.out.2; have h3 := HDS.out; rw [markB_len] at h2; omega)
      have HA4 := Lib.hid (HA3.out.below hb)
      have HX4 := Lib.hid (HX3.out.below hb)
      have HR4 := Lib.hid hrow
      clear hrow hb hM3 e4 e5 HP3
      have u2 : w4.cell? ⟨w3.heap.size, 2, none⟩ = some (.bool true) := HX4.out.at_ 2
      have u3 : w4.cell? ⟨w3.heap.size, 3, none⟩ = some (.bool true) := HX4.out.at_ 3
      have u4 : w4.cell? ⟨w3.heap.size, 4, none⟩ = some (.bool false) := HX4.out.at_ 4
      have u5 : w4.cell? ⟨w3.heap.size, 5, none⟩ = some (.bool false) := HX4.out.at_ 5
      have e6 : w4.cell? ⟨w.heap.size, 6, none⟩ = some (.int .i64 m.mark.1) := HA4.out.at_ 6
      have e7 : w4.cell? ⟨w.heap.size, 7, none⟩ = some (.int .i64 m.mark.2) := HA4.out.at_ 7
      have HP4 := Lib.hid (mark_row HR4.out m.mark (by have := HL3.out; omega))
      go_wp2_with fail
      refine HP4.out.mono ?_
      rintro e w5 ⟨A5, n5, c5, rfl, hrow, hb⟩
      obtain ⟨M4, hM4⟩ : ∃ M4, M4 = M3 ++ markB m.mark := ⟨_, rfl⟩
      rw [← hM4] at hrow
      have HM4 := Lib.hid hM4
      have HL4 := Lib.hid (show M4.length ≤ 4000 ∧ M4.length = M3.length + (markB m.mark).length by have h1 := HL3.out; have h2 := HDS.out; rw [hM4, List.length_append]; refine ⟨?_, rfl⟩; rw [markB_len]; omega)
      replace HL4 := Lib.hid (show M4.length = 76 by have h1 := HL3.out; have h2 := HL4.out.2; have h3 := HDS.out; rw [markB_len] at h2; omega)
      have HA5 := Lib.hid (HA4.out.below hb)
      have HX5 := Lib.hid (HX4.out.below hb)
      have HR5 := Lib.hid hrow
      clear hrow hb hM4 e6 e7 HP4 u2 u3 u4 u5
      have u3 : w5.cell? ⟨w3.heap.size, 3, none⟩ = some (.bool true) := HX5.out.at_ 3
      have u4 : w5.cell? ⟨w3.heap.size, 4, none⟩ = some (.bool false) := HX5.out.at_ 4
      have u5 : w5.cell? ⟨w3.heap.size, 5, none⟩ = some (.bool false) := HX5.out.at_ 5
      have e8 : w5.cell? ⟨w.heap.size, 8, none⟩ = some (.int .i64 m.ix) := HA5.out.at_ 8
      have HP5 := Lib.hid (num_row HR5.out m.ix 2 (by omega) (by omega) (by have := HL4.out; omega))
      go_wp2_with fail
      refine HP5.out.mono ?_
      rintro e w6 ⟨A6, n6, c6, rfl, hrow, hb⟩
      obtain ⟨M5, hM5⟩ : ∃ M5, M5 = M4 ++ numB m.ix 2 := ⟨_, rfl⟩
      rw [← hM5] at hrow
      have HM5 := Lib.hid hM5
      have HL5 := Lib.hid (show M5.length ≤ 4000 ∧ M5.length = M4.length + (numB m.ix 2).length by have h1 := HL4.out; have h2 := HDS.out; rw [hM5, List.length_append]; refine ⟨?_, rfl⟩; rw [numB_len]; omega)
      replace HL5 := Lib.hid (show M5.length = 78 by have h1 := HL4.out; have h2 := HL5.out.2; have h3 := HDS.out; rw [numB_len] at h2; omega)
      have HA6 := Lib.hid (HA5.out.below hb)
      have HX6 := Lib.hid (HX5.out.below hb)
      have HR6 := Lib.hid hrow
      clear hrow hb hM5 e8 HP5 u3 u4 u5
      have u4 : w6.cell? ⟨w3.heap.size, 4, none⟩ = some (.bool false) := HX6.out.at_ 4
      have u5 : w6.cell? ⟨w3.heap.size, 5, none⟩ = some (.bool false) := HX6.out.at_ 5
      have kc := Oct.conv_RowB w6 A6 n6 c6 M5 HR6.out.row
      have HSE := Lib.hid (CrcW.seal_any ⟨M5.toArray⟩ (by have h1 := HL5.out; have h2 := HDS.out; show M5.toArray.size ≤ 4096; rw [List.size_toArray]; omega) w6)
      have HE := Lib.hid (show putR m = (CrcW.sealB ⟨M5.toArray⟩, 0) by rw [HPR.out, HMB.out, HM5.out, HM4.out, HM3.out, HM2.out]; simp only [headB, List.append_assoc])
      go_wp2_with fail
      refine HSE.out.mono ?_
      rintro e wz ⟨rfl, hb⟩
      have HBZ := Lib.hid (HR6.out.below.trans (hb.mono HR6.out.below.size))
      clear hb kc
      go_wp2
      exact bodyPost_ret (v := .tuple #[.string (CrcW.sealB ⟨M5.toArray⟩), .int .i64 0]) (by simp [results, Tryd.results17, go_sem]) rfl ⟨by rw [HE.out], HBZ.out⟩
set_option maxRecDepth 100000 in
set_option maxHeartbeats 4000000 in
theorem put_k2 (m : MsgP) (hok : OkM m) (q : m.kind = 2) (w : World) : Calls Tryd.prog 17 #[.agg (msgC m)] w (PutIs m w) := by
  have HPR := Lib.hid (putR_yes hok)
  have HMB := Lib.hid (msgB_2 q)
  have HDS := Lib.hid (ok_data hok)
  have HK := Lib.hid (fun W => kindOf_any m.kind W)
  have HKC : kindC m.kind = #[.string ⟨#[112, 97, 114, 116]⟩, .bool true, .bool true, .bool true, .bool true, .bool true] := by unfold kindC; simp [q]
  rw [HKC] at HK
  have HCK := Lib.hid (show ∀ W, Calls Tryd.prog 9 #[.agg (msgC m)] W fun e w' => e = .returned (.int .i64 0) ∧ Below W.heap.size W w' from fun W => err_yes hok ▸ check_any m W)
  have HB0 := Lib.hid ((Below.refl w.heap.size w).alloc (Nat.le_refl _) (.cells (msgC m) 27))
  have HA0 := Lib.hid (Has.fresh w 27 (msgC m))
  clear HKC hok q
  go_enter Tryd.func17, Tryd.ntmps17
  go_wp2_with ((with_reducible refine Who.wpList_loadC 27 (.tmp 1) rfl w.heap.size 0 (msgC m) ?_); refine And.intro ⟨by rfl, by rfl, ⟨_, Tryd.underlying27, rfl⟩, info_size _⟩ (And.intro (Who.has_range HA0.out) ?_); (try simp only [Act.put, List.setIfInBounds_toArray, List.set_cons_zero, List.set_cons_succ]))
  with_reducible refine (HCK.out _).mono ?_
  rintro e w1 ⟨rfl, hb⟩
  have HA1 := Lib.hid (HA0.out.below hb)
  have HB1 := Lib.hid (HB0.out.trans (hb.mono HB0.out.size))
  have c0 : w1.cell? ⟨w.heap.size, 0, none⟩ = some (.int .i64 m.kind) := HA1.out.at_ 0
  have c1 : w1.cell? ⟨w.heap.size, 1, none⟩ = some (.int .i64 m.fr) := HA1.out.at_ 1
  have c2 : w1.cell? ⟨w.heap.size, 2, none⟩ = some (.int .i64 m.to) := HA1.out.at_ 2
  have c3 : w1.cell? ⟨w.heap.size, 3, none⟩ = some (.int .i64 m.vol) := HA1.out.at_ 3
  have HI0 := Lib.hid (LoopI.start HB1.out HA1.out)
  clear hb HCK HA0 HB0
  go_wp2
  go_loopw [5, 24] (fun s i wr => ∃ j : Nat, ∃ A n c, j ≤ 4 ∧ i = .int .i64 j ∧ s = .slice A n c ∧ Hid (LoopI w wr m w1.heap.size A n c j)) (fun _ i _ => 4 - (intOf i).toNat)
  case atStart => exact ⟨0, _, _, _, by omega, rfl, rfl, HI0⟩
  case round =>
    obtain ⟨j, A, n, c, hj, rfl, rfl, HI⟩ := hrel
    by_cases hlt : j < 4
    · have x0 : wr.cell? ⟨w1.heap.size, j, none⟩ = some (.int .i64 (hdN m j)) := (HI.out.lst.at_ j).trans (hd_cell m hlt)
      have HP := Lib.hid (num_row HI.out.row (hdN m j) 1 (by omega) (by omega) (by rw [headTo_len]; omega))
      clear c0 c1 c2 c3
      go_wp2_with fail
      refine HP.out.mono ?_
      rintro e w2 ⟨A2, n2, c2, rfl, hrow, hb⟩
      have HRel := Lib.hid (HI.out.step hrow hb)
      clear hrow hb
      go_wp2
      go_roundw
      case rel => exact ⟨j + 1, _, _, _, by omega, by go_num, rfl, HRel⟩
      case measure => simp [intOf]; omega
    · obtain rfl : j = 4 := by omega
      have HA := Lib.hid HI.out.has
      have HSR := Lib.hid (seen_range HI.out.has)
      have HV := Lib.hid (vec_row HI.out.row m.seen (by rw [headTo_len]; omega))
      clear c0 c1 c2 c3
      go_wp2_with ((with_reducible refine Who.wpList_loadC 25 (.tmp 33) rfl w.heap.size 10 (vecC m.seen) ?_); refine And.intro ⟨by rfl, by rfl, ⟨_, Tryd.underlying25, rfl⟩, info_vec⟩ (And.intro HSR.out ?_); (try simp only [Act.put, List.setIfInBounds_toArray, List.set_cons_zero, List.set_cons_succ]))
      refine HV.out.mono ?_
      rintro e w2 ⟨A2, n2, c2, rfl, hrow, hb⟩
      have HA2 := Lib.hid (HA.out.below hb)
      obtain ⟨M2, hM2⟩ : ∃ M2, M2 = headTo m 4 ++ vecB m.seen := ⟨_, rfl⟩
      rw [← hM2] at hrow
      have HM2 := Lib.hid hM2
      have HL2 := Lib.hid (show M2.length = 52 by rw [hM2, List.length_append, headTo_len, vecB_len])
      have HR2 := Lib.hid hrow
      have d0 : w2.cell? ⟨w.heap.size, 0, none⟩ = some (.int .i64 m.kind) := HA2.out.at_ 0
      clear hrow hb hM2 HV HSR HA hlt hj HI
      go_wp2_with fail
      with_reducible refine (HK.out _).mono ?_
      rintro e w3 ⟨rfl, hb⟩
      have HA3 := Lib.hid ((HA2.out.below hb).past (.cells #[.string ⟨#[112, 97, 114, 116]⟩, .bool true, .bool true, .bool true, .bool true, .bool true] 47))
      have HR3 := Lib.hid (HR2.out.low (hb.alloc hb.size (.cells #[.string ⟨#[112, 97, 114, 116]⟩, .bool true, .bool true, .bool true, .bool true, .bool true] 47)))
      have HX3 := Lib.hid (Has.fresh w3 47 #[.string ⟨#[112, 97, 114, 116]⟩, .bool true, .bool true, .bool true, .bool true, .bool true])
      clear hb d0 HA2 HR2
      have e4 : (w3.alloc (.cells #[.string ⟨#[112, 97, 114, 116]⟩, .bool true, .bool true, .bool true, .bool true, .bool true] 47)).cell? ⟨w.heap.size, 4, none⟩ = some (.int .i64 m.base.1) := HA3.out.at_ 4
      have e5 : (w3.alloc (.cells #[.string ⟨#[112, 97, 114, 116]⟩, .bool true, .bool true, .bool true, .bool true, .bool true] 47)).cell? ⟨w.heap.size, 5, none⟩ = some (.int .i64 m.base.2) := HA3.out.at_ 5
      have HP3 := Lib.hid (mark_row HR3.out m.base (by have := HL2.out; omega))
      go_wp2_with fail
      refine HP3.out.mono ?_
      rintro e w4 ⟨A4, n4, c4, rfl, hrow, hb⟩
      obtain ⟨M3, hM3⟩ : ∃ M3, M3 = M2 ++ markB m.base := ⟨_, rfl⟩
      rw [← hM3] at hrow
      have HM3 := Lib.hid hM3
      have HL3 := Lib.hid (show M3.length ≤ 4000 ∧ M3.length = M2.length + (markB m.base).length by have h1 := HL2.out; have h2 := HDS.out; rw [hM3, List.length_append]; refine ⟨?_, rfl⟩; rw [markB_len]; omega)
      replace HL3 := Lib.hid (show M3.length = 64 by have h1 := HL2.out; have h2 := HL3.out.2; have h3 := HDS.out; rw [markB_len] at h2; omega)
      have HA4 := Lib.hid (HA3.out.below hb)
      have HX4 := Lib.hid (HX3.out.below hb)
      have HR4 := Lib.hid hrow
      clear hrow hb hM3 e4 e5 HP3
      have u2 : w4.cell? ⟨w3.heap.size, 2, none⟩ = some (.bool true) := HX4.out.at_ 2
      have u3 : w4.cell? ⟨w3.heap.size, 3, none⟩ = some (.bool true) := HX4.out.at_ 3
      have u4 : w4.cell? ⟨w3.heap.size, 4, none⟩ = some (.bool true) := HX4.out.at_ 4
      have u5 : w4.cell? ⟨w3.heap.size, 5, none⟩ = some (.bool true) := HX4.out.at_ 5
      have e6 : w4.cell? ⟨w.heap.size, 6, none⟩ = some (.int .i64 m.mark.1) := HA4.out.at_ 6
      have e7 : w4.cell? ⟨w.heap.size, 7, none⟩ = some (.int .i64 m.mark.2) := HA4.out.at_ 7
      have HP4 := Lib.hid (mark_row HR4.out m.mark (by have := HL3.out; omega))
      go_wp2_with fail
      refine HP4.out.mono ?_
      rintro e w5 ⟨A5, n5, c5, rfl, hrow, hb⟩
      obtain ⟨M4, hM4⟩ : ∃ M4, M4 = M3 ++ markB m.mark := ⟨_, rfl⟩
      rw [← hM4] at hrow
      have HM4 := Lib.hid hM4
      have HL4 := Lib.hid (show M4.length ≤ 4000 ∧ M4.length = M3.length + (markB m.mark).length by have h1 := HL3.out; have h2 := HDS.out; rw [hM4, List.length_append]; refine ⟨?_, rfl⟩; rw [markB_len]; omega)
      replace HL4 := Lib.hid (show M4.length = 76 by have h1 := HL3.out; have h2 := HL4.out.2; have h3 := HDS.out; rw [markB_len] at h2; omega)
      have HA5 := Lib.hid (HA4.out.below hb)
      have HX5 := Lib.hid (HX4.out.below hb)
      have HR5 := Lib.hid hrow
      clear hrow hb hM4 e6 e7 HP4 u2 u3 u4 u5
      have u3 : w5.cell? ⟨w3.heap.size, 3, none⟩ = some (.bool true) := HX5.out.at_ 3
      have u4 : w5.cell? ⟨w3.heap.size, 4, none⟩ = some (.bool true) := HX5.out.at_ 4
      have u5 : w5.cell? ⟨w3.heap.size, 5, none⟩ = some (.bool true) := HX5.out.at_ 5
      have e8 : w5.cell? ⟨w.heap.size, 8, none⟩ = some (.int .i64 m.ix) := HA5.out.at_ 8
      have HP5 := Lib.hid (num_row HR5.out m.ix 2 (by omega) (by omega) (by have := HL4.out; omega))
      go_wp2_with fail
      refine HP5.out.mono ?_
      rintro e w6 ⟨A6, n6, c6, rfl, hrow, hb⟩
      obtain ⟨M5, hM5⟩ : ∃ M5, M5 = M4 ++ numB m.ix 2 := ⟨_, rfl⟩
      rw [← hM5] at hrow
      have HM5 := Lib.hid hM5
      have HL5 := Lib.hid (show M5.length ≤ 4000 ∧ M5.length = M4.length + (numB m.ix 2).length by have h1 := HL4.out; have h2 := HDS.out; rw [hM5, List.length_append]; refine ⟨?_, rfl⟩; rw [numB_len]; omega)
      replace HL5 := Lib.hid (show M5.length = 78 by have h1 := HL4.out; have h2 := HL5.out.2; have h3 := HDS.out; rw [numB_len] at h2; omega)
      have HA6 := Lib.hid (HA5.out.below hb)
      have HX6 := Lib.hid (HX5.out.below hb)
      have HR6 := Lib.hid hrow
      clear hrow hb hM5 e8 HP5 u3 u4 u5
      have u4 : w6.cell? ⟨w3.heap.size, 4, none⟩ = some (.bool true) := HX6.out.at_ 4
      have u5 : w6.cell? ⟨w3.heap.size, 5, none⟩ = some (.bool true) := HX6.out.at_ 5
      have e9 : w6.cell? ⟨w.heap.size, 9, none⟩ = some (.int .i64 m.tot) := HA6.out.at_ 9
      have HP6 := Lib.hid (num_row HR6.out m.tot 2 (by omega) (by omega) (by have := HL5.out; omega))
      go_wp2_with fail
      refine HP6.out.mono ?_
      rintro e w7 ⟨A7, n7, c7, rfl, hrow, hb⟩
      obtain ⟨M6, hM6⟩ : ∃ M6, M6 = M5 ++ numB m.tot 2 := ⟨_, rfl⟩
      rw [← hM6] at hrow
      have HM6 := Lib.hid hM6
      have HL6 := Lib.hid (show M6.length ≤ 4000 ∧ M6.length = M5.length + (numB m.tot 2).length by have h1 := HL5.out; have h2 := HDS.out; rw [hM6, List.length_append]; refine ⟨?_, rfl⟩; rw [numB_len]; omega)
      replace HL6 := Lib.hid (show M6.length = 80 by have h1 := HL5.out; have h2 := HL6.out.2; have h3 := HDS.out; rw [numB_len] at h2; omega)
      have HA7 := Lib.hid (HA6.out.below hb)
      have HX7 := Lib.hid (HX6.out.below hb)
      have HR7 := Lib.hid hrow
      clear hrow hb hM6 e9 HP6 u4 u5
      have u5 : w7.cell? ⟨w3.heap.size, 5, none⟩ = some (.bool true) := HX7.out.at_ 5
      have e18 : w7.cell? ⟨w.heap.size, 18, none⟩ = some (.string m.data) := HA7.out.at_ 18
      have HP7 := Lib.hid (text_row HR7.out m.data (by have := HL6.out; omega))
      go_wp2_with fail
      refine HP7.out.mono ?_
      rintro e w8 ⟨A8, n8, c8, rfl, hrow, hb⟩
      obtain ⟨M7, hM7⟩ : ∃ M7, M7 = M6 ++ textB m.data := ⟨_, rfl⟩
      rw [← hM7] at hrow
      have HM7 := Lib.hid hM7
      have HL7 := Lib.hid (show M7.length ≤ 4000 ∧ M7.length = M6.length + (textB m.data).length by have h1 := HL6.out; have h2 := HDS.out; rw [hM7, List.length_append]; refine ⟨?_, rfl⟩; rw [textB_len _ (by omega)]; omega)
      replace HL7 := Lib.hid (show M7.length = 80 + 2 + m.data.size by have h1 := HL6.out; have h2 := HL7.out.2; have h3 := HDS.out; rw [textB_len _ (by omega)] at h2; omega)
      have HA8 := Lib.hid (HA7.out.below hb)
      have HX8 := Lib.hid (HX7.out.below hb)
      have HR8 := Lib.hid hrow
      clear hrow hb hM7 e18 HP7 u5
      have kc := Oct.conv_RowB w8 A8 n8 c8 M7 HR8.out.row
      have HSE := Lib.hid (CrcW.seal_any ⟨M7.toArray⟩ (by have h1 := HL7.out; have h2 := HDS.out; show M7.toArray.size ≤ 4096; rw [List.size_toArray]; omega) w8)
      have HE := Lib.hid (show putR m = (CrcW.sealB ⟨M7.toArray⟩, 0) by rw [HPR.out, HMB.out, HM7.out, HM6.out, HM5.out, HM4.out, HM3.out, HM2.out]; simp only [headB, List.append_assoc])
      go_wp2_with fail
      refine HSE.out.mono ?_
      rintro e wz ⟨rfl, hb⟩
      have HBZ := Lib.hid (HR8.out.below.trans (hb.mono HR8.out.below.size))
      clear hb kc
      go_wp2
      exact bodyPost_ret (v := .tuple #[.string (CrcW.sealB ⟨M7.toArray⟩), .int .i64 0]) (by simp [results, Tryd.results17, go_sem]) rfl ⟨by rw [HE.out], HBZ.out⟩
set_option maxRecDepth 100000 in
set_option maxHeartbeats 4000000 in
theorem put_k3 (m : MsgP) (hok : OkM m) (q : m.kind = 3) (w : World) : Calls Tryd.prog 17 #[.agg (msgC m)] w (PutIs m w) := by
  have HPR := Lib.hid (putR_yes hok)
  have HMB := Lib.hid (msgB_3 q)
  have HDS := Lib.hid (ok_data hok)
  have HK := Lib.hid (fun W => kindOf_any m.kind W)
  have HKC : kindC m.kind = #[.string ⟨#[115, 97, 109, 101]⟩, .bool false, .bool false, .bool false, .bool false, .bool false] := by unfold kindC; simp [q]
  rw [HKC] at HK
  have HCK := Lib.hid (show ∀ W, Calls Tryd.prog 9 #[.agg (msgC m)] W fun e w' => e = .returned (.int .i64 0) ∧ Below W.heap.size W w' from fun W => err_yes hok ▸ check_any m W)
  have HB0 := Lib.hid ((Below.refl w.heap.size w).alloc (Nat.le_refl _) (.cells (msgC m) 27))
  have HA0 := Lib.hid (Has.fresh w 27 (msgC m))
  clear HKC hok q
  go_enter Tryd.func17, Tryd.ntmps17
  go_wp2_with ((with_reducible refine Who.wpList_loadC 27 (.tmp 1) rfl w.heap.size 0 (msgC m) ?_); refine And.intro ⟨by rfl, by rfl, ⟨_, Tryd.underlying27, rfl⟩, info_size _⟩ (And.intro (Who.has_range HA0.out) ?_); (try simp only [Act.put, List.setIfInBounds_toArray, List.set_cons_zero, List.set_cons_succ]))
  with_reducible refine (HCK.out _).mono ?_
  rintro e w1 ⟨rfl, hb⟩
  have HA1 := Lib.hid (HA0.out.below hb)
  have HB1 := Lib.hid (HB0.out.trans (hb.mono HB0.out.size))
  have c0 : w1.cell? ⟨w.heap.size, 0, none⟩ = some (.int .i64 m.kind) := HA1.out.at_ 0
  have c1 : w1.cell? ⟨w.heap.size, 1, none⟩ = some (.int .i64 m.fr) := HA1.out.at_ 1
  have c2 : w1.cell? ⟨w.heap.size, 2, none⟩ = some (.int .i64 m.to) := HA1.out.at_ 2
  have c3 : w1.cell? ⟨w.heap.size, 3, none⟩ = some (.int .i64 m.vol) := HA1.out.at_ 3
  have HI0 := Lib.hid (LoopI.start HB1.out HA1.out)
  clear hb HCK HA0 HB0
  go_wp2
  go_loopw [5, 24] (fun s i wr => ∃ j : Nat, ∃ A n c, j ≤ 4 ∧ i = .int .i64 j ∧ s = .slice A n c ∧ Hid (LoopI w wr m w1.heap.size A n c j)) (fun _ i _ => 4 - (intOf i).toNat)
  case atStart => exact ⟨0, _, _, _, by omega, rfl, rfl, HI0⟩
  case round =>
    obtain ⟨j, A, n, c, hj, rfl, rfl, HI⟩ := hrel
    by_cases hlt : j < 4
    · have x0 : wr.cell? ⟨w1.heap.size, j, none⟩ = some (.int .i64 (hdN m j)) := (HI.out.lst.at_ j).trans (hd_cell m hlt)
      have HP := Lib.hid (num_row HI.out.row (hdN m j) 1 (by omega) (by omega) (by rw [headTo_len]; omega))
      clear c0 c1 c2 c3
      go_wp2_with fail
      refine HP.out.mono ?_
      rintro e w2 ⟨A2, n2, c2, rfl, hrow, hb⟩
      have HRel := Lib.hid (HI.out.step hrow hb)
      clear hrow hb
      go_wp2
      go_roundw
      case rel => exact ⟨j + 1, _, _, _, by omega, by go_num, rfl, HRel⟩
      case measure => simp [intOf]; omega
    · obtain rfl : j = 4 := by omega
      have HA := Lib.hid HI.out.has
      have HSR := Lib.hid (seen_range HI.out.has)
      have HV := Lib.hid (vec_row HI.out.row m.seen (by rw [headTo_len]; omega))
      clear c0 c1 c2 c3
      go_wp2_with ((with_reducible refine Who.wpList_loadC 25 (.tmp 33) rfl w.heap.size 10 (vecC m.seen) ?_); refine And.intro ⟨by rfl, by rfl, ⟨_, Tryd.underlying25, rfl⟩, info_vec⟩ (And.intro HSR.out ?_); (try simp only [Act.put, List.setIfInBounds_toArray, List.set_cons_zero, List.set_cons_succ]))
      refine HV.out.mono ?_
      rintro e w2 ⟨A2, n2, c2, rfl, hrow, hb⟩
      have HA2 := Lib.hid (HA.out.below hb)
      obtain ⟨M2, hM2⟩ : ∃ M2, M2 = headTo m 4 ++ vecB m.seen := ⟨_, rfl⟩
      rw [← hM2] at hrow
      have HM2 := Lib.hid hM2
      have HL2 := Lib.hid (show M2.length = 52 by rw [hM2, List.length_append, headTo_len, vecB_len])
      have HR2 := Lib.hid hrow
      have d0 : w2.cell? ⟨w.heap.size, 0, none⟩ = some (.int .i64 m.kind) := HA2.out.at_ 0
      clear hrow hb hM2 HV HSR HA hlt hj HI
      go_wp2_with fail
      with_reducible refine (HK.out _).mono ?_
      rintro e w3 ⟨rfl, hb⟩
      have HA3 := Lib.hid ((HA2.out.below hb).past (.cells #[.string ⟨#[115, 97, 109, 101]⟩, .bool false, .bool false, .bool false, .bool false, .bool false] 47))
      have HR3 := Lib.hid (HR2.out.low (hb.alloc hb.size (.cells #[.string ⟨#[115, 97, 109, 101]⟩, .bool false, .bool false, .bool false, .bool false, .bool false] 47)))
      have HX3 := Lib.hid (Has.fresh w3 47 #[.string ⟨#[115, 97, 109, 101]⟩, .bool false, .bool false, .bool false, .bool false, .bool false])
      clear hb d0 HA2 HR2
      have kc := Oct.conv_RowB (w3.alloc (.cells #[.string ⟨#[115, 97, 109, 101]⟩, .bool false, .bool false, .bool false, .bool false, .bool false] 47)) A2 n2 c2 M2 HR3.out.row
      have HSE := Lib.hid (CrcW.seal_any ⟨M2.toArray⟩ (by have h1 := HL2.out; have h2 := HDS.out; show M2.toArray.size ≤ 4096; rw [List.size_toArray]; omega) (w3.alloc (.cells #[.string ⟨#[115, 97, 109, 101]⟩, .bool false, .bool false, .bool false, .bool false, .bool false] 47)))
      have HE := Lib.hid (show putR m = (CrcW.sealB ⟨M2.toArray⟩, 0) by rw [HPR.out, HMB.out, HM2.out]; simp only [headB, List.append_assoc])
      go_wp2_with fail
      refine HSE.out.mono ?_
      rintro e wz ⟨rfl, hb⟩
      have HBZ := Lib.hid (HR3.out.below.trans (hb.mono HR3.out.below.size))
      clear hb kc
      go_wp2
      exact bodyPost_ret (v := .tuple #[.string (CrcW.sealB ⟨M2.toArray⟩), .int .i64 0]) (by simp [results, Tryd.results17, go_sem]) rfl ⟨by rw [HE.out], HBZ.out⟩
set_option maxRecDepth 100000 in
set_option maxHeartbeats 4000000 in
theorem put_k4 (m : MsgP) (hok : OkM m) (q : m.kind = 4) (w : World) : Calls Tryd.prog 17 #[.agg (msgC m)] w (PutIs m w) := by
  have HPR := Lib.hid (putR_yes hok)
  have HMB := Lib.hid (msgB_4 q)
  have HDS := Lib.hid (ok_data hok)
  have HK := Lib.hid (fun W => kindOf_any m.kind W)
  have HKC : kindC m.kind = #[.string ⟨#[103, 111, 110, 101]⟩, .bool false, .bool true, .bool false, .bool false, .bool false] := by unfold kindC; simp [q]
  rw [HKC] at HK
  have HCK := Lib.hid (show ∀ W, Calls Tryd.prog 9 #[.agg (msgC m)] W fun e w' => e = .returned (.int .i64 0) ∧ Below W.heap.size W w' from fun W => err_yes hok ▸ check_any m W)
  have HB0 := Lib.hid ((Below.refl w.heap.size w).alloc (Nat.le_refl _) (.cells (msgC m) 27))
  have HA0 := Lib.hid (Has.fresh w 27 (msgC m))
  clear HKC hok q
  go_enter Tryd.func17, Tryd.ntmps17
  go_wp2_with ((with_reducible refine Who.wpList_loadC 27 (.tmp 1) rfl w.heap.size 0 (msgC m) ?_); refine And.intro ⟨by rfl, by rfl, ⟨_, Tryd.underlying27, rfl⟩, info_size _⟩ (And.intro (Who.has_range HA0.out) ?_); (try simp only [Act.put, List.setIfInBounds_toArray, List.set_cons_zero, List.set_cons_succ]))
  with_reducible refine (HCK.out _).mono ?_
  rintro e w1 ⟨rfl, hb⟩
  have HA1 := Lib.hid (HA0.out.below hb)
  have HB1 := Lib.hid (HB0.out.trans (hb.mono HB0.out.size))
  have c0 : w1.cell? ⟨w.heap.size, 0, none⟩ = some (.int .i64 m.kind) := HA1.out.at_ 0
  have c1 : w1.cell? ⟨w.heap.size, 1, none⟩ = some (.int .i64 m.fr) := HA1.out.at_ 1
  have c2 : w1.cell? ⟨w.heap.size, 2, none⟩ = some (.int .i64 m.to) := HA1.out.at_ 2
  have c3 : w1.cell? ⟨w.heap.size, 3, none⟩ = some (.int .i64 m.vol) := HA1.out.at_ 3
  have HI0 := Lib.hid (LoopI.start HB1.out HA1.out)
  clear hb HCK HA0 HB0
  go_wp2
  go_loopw [5, 24] (fun s i wr => ∃ j : Nat, ∃ A n c, j ≤ 4 ∧ i = .int .i64 j ∧ s = .slice A n c ∧ Hid (LoopI w wr m w1.heap.size A n c j)) (fun _ i _ => 4 - (intOf i).toNat)
  case atStart => exact ⟨0, _, _, _, by omega, rfl, rfl, HI0⟩
  case round =>
    obtain ⟨j, A, n, c, hj, rfl, rfl, HI⟩ := hrel
    by_cases hlt : j < 4
    · have x0 : wr.cell? ⟨w1.heap.size, j, none⟩ = some (.int .i64 (hdN m j)) := (HI.out.lst.at_ j).trans (hd_cell m hlt)
      have HP := Lib.hid (num_row HI.out.row (hdN m j) 1 (by omega) (by omega) (by rw [headTo_len]; omega))
      clear c0 c1 c2 c3
      go_wp2_with fail
      refine HP.out.mono ?_
      rintro e w2 ⟨A2, n2, c2, rfl, hrow, hb⟩
      have HRel := Lib.hid (HI.out.step hrow hb)
      clear hrow hb
      go_wp2
      go_roundw
      case rel => exact ⟨j + 1, _, _, _, by omega, by go_num, rfl, HRel⟩
      case measure => simp [intOf]; omega
    · obtain rfl : j = 4 := by omega
      have HA := Lib.hid HI.out.has
      have HSR := Lib.hid (seen_range HI.out.has)
      have HV := Lib.hid (vec_row HI.out.row m.seen (by rw [headTo_len]; omega))
      clear c0 c1 c2 c3
      go_wp2_with ((with_reducible refine Who.wpList_loadC 25 (.tmp 33) rfl w.heap.size 10 (vecC m.seen) ?_); refine And.intro ⟨by rfl, by rfl, ⟨_, Tryd.underlying25, rfl⟩, info_vec⟩ (And.intro HSR.out ?_); (try simp only [Act.put, List.setIfInBounds_toArray, List.set_cons_zero, List.set_cons_succ]))
      refine HV.out.mono ?_
      rintro e w2 ⟨A2, n2, c2, rfl, hrow, hb⟩
      have HA2 := Lib.hid (HA.out.below hb)
      obtain ⟨M2, hM2⟩ : ∃ M2, M2 = headTo m 4 ++ vecB m.seen := ⟨_, rfl⟩
      rw [← hM2] at hrow
      have HM2 := Lib.hid hM2
      have HL2 := Lib.hid (show M2.length = 52 by rw [hM2, List.length_append, headTo_len, vecB_len])
      have HR2 := Lib.hid hrow
      have d0 : w2.cell? ⟨w.heap.size, 0, none⟩ = some (.int .i64 m.kind) := HA2.out.at_ 0
      clear hrow hb hM2 HV HSR HA hlt hj HI
      go_wp2_with fail
      with_reducible refine (HK.out _).mono ?_
      rintro e w3 ⟨rfl, hb⟩
      have HA3 := Lib.hid ((HA2.out.below hb).past (.cells #[.string ⟨#[103, 111, 110, 101]⟩, .bool false, .bool true, .bool false, .bool false, .bool false] 47))
      have HR3 := Lib.hid (HR2.out.low (hb.alloc hb.size (.cells #[.string ⟨#[103, 111, 110, 101]⟩, .bool false, .bool true, .bool false, .bool false, .bool false] 47)))
      have HX3 := Lib.hid (Has.fresh w3 47 #[.string ⟨#[103, 111, 110, 101]⟩, .bool false, .bool true, .bool false, .bool false, .bool false])
      clear hb d0 HA2 HR2
      have e6 : (w3.alloc (.cells #[.string ⟨#[103, 111, 110, 101]⟩, .bool false, .bool true, .bool false, .bool false, .bool false] 47)).cell? ⟨w.heap.size, 6, none⟩ = some (.int .i64 m.mark.1) := HA3.out.at_ 6
      have e7 : (w3.alloc (.cells #[.string ⟨#[103, 111, 110, 101]⟩, .bool false, .bool true, .bool false, .bool false, .bool false] 47)).cell? ⟨w.heap.size, 7, none⟩ = some (.int .i64 m.mark.2) := HA3.out.at_ 7
      have HP3 := Lib.hid (mark_row HR3.out m.mark (by have := HL2.out; omega))
      go_wp2_with fail
      refine HP3.out.mono ?_
      rintro e w4 ⟨A4, n4, c4, rfl, hrow, hb⟩
      obtain ⟨M3, hM3⟩ : ∃ M3, M3 = M2 ++ markB m.mark := ⟨_, rfl⟩
      rw [← hM3] at hrow
      have HM3 := Lib.hid hM3
      have HL3 := Lib.hid (show M3.length ≤ 4000 ∧ M3.length = M2.length + (markB m.mark).length by have h1 := HL2.out; have h2 := HDS.out; rw [hM3, List.length_append]; refine ⟨?_, rfl⟩; rw [markB_len]; omega)
      replace HL3 := Lib.hid (show M3.length = 64 by have h1 := HL2.out; have h2 := HL3.out.2; have h3 := HDS.out; rw [markB_len] at h2; omega)
      have HA4 := Lib.hid (HA3.out.below hb)
      have HX4 := Lib.hid (HX3.out.below hb)
      have HR4 := Lib.hid hrow
      clear hrow hb hM3 e6 e7 HP3
      have u3 : w4.cell? ⟨w3.heap.size, 3, none⟩ = some (.bool false) := HX4.out.at_ 3
      have u4 : w4.cell? ⟨w3.heap.size, 4, none⟩ = some (.bool false) := HX4.out.at_ 4
      have u5 : w4.cell? ⟨w3.heap.size, 5, none⟩ = some (.bool false) := HX4.out.at_ 5
      have kc := Oct.conv_RowB w4 A4 n4 c4 M3 HR4.out.row
      have HSE := Lib.hid (CrcW.seal_any ⟨M3.toArray⟩ (by have h1 := HL3.out; have h2 := HDS.out; show M3.toArray.size ≤ 4096; rw [List.size_toArray]; omega) w4)
      have HE := Lib.hid (show putR m = (CrcW.sealB ⟨M3.toArray⟩, 0) by rw [HPR.out, HMB.out, HM3.out, HM2.out]; simp only [headB, List.append_assoc])
      go_wp2_with fail
      refine HSE.out.mono ?_
      rintro e wz ⟨rfl, hb⟩
      have HBZ := Lib.hid (HR4.out.below.trans (hb.mono HR4.out.below.size))
      clear hb kc
      go_wp2
      exact bodyPost_ret (v := .tuple #[.string (CrcW.sealB ⟨M3.toArray⟩), .int .i64 0]) (by simp [results, Tryd.results17, go_sem]) rfl ⟨by rw [HE.out], HBZ.out⟩
theorem put_any (m : MsgP) (w : World) : Calls Tryd.prog 17 #[.agg (msgC m)] w (PutIs m w) := by
  by_cases h : OkM m
  · rcases ok_kind h with q | q | q | q
    · exact put_k1 m h q w
    · exact put_k2 m h q w
    · exact put_k3 m h q w
    · exact put_k4 m h q w
  · exact put_bad m h w
end Go.Proofs.YtfjmcklmoebnaaaDoor.Mg
