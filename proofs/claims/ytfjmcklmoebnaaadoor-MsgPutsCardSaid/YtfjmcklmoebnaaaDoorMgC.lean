/- A message put: the document's. -/
import Derived.Test.YtfjmcklmoebnaaaDoorMgB
namespace Go.Proofs.YtfjmcklmoebnaaaDoor.Mg
open Go.RowKit Go.Proofs.YtfjmcklmoebnaaaDoor.Mem Go.Proofs.YtfjmcklmoebnaaaDoor.Nt
open Go.Proofs.YtfjmcklmoebnaaaDoor.Oct (Owns RowB headT cutT)
open Go.Proofs.YtfjmcklmoebnaaaDoor.Vc (numB numB_len vecB owns_lens vecC)
set_option linter.unusedVariables false

theorem num_1 {x : Int} (h0 : 0 ≤ x) (h1 : x < 256) : numB x 1 = [UInt8.ofNat x.toNat] := by
  unfold numB
  have e : IntKind.u64.wrap x = x := by rw [IntKind.wrap_u64]; omega
  rw [e]
  have e2 : x.toNat % 256 = x.toNat := Nat.mod_eq_of_lt (by omega)
  simp [Oct.putL, e2]
theorem byte_back {x : Int} (h0 : 0 ≤ x) (h1 : x < 256) : ((UInt8.ofNat x.toNat).toNat : Int) = x := by
  have e : (UInt8.ofNat x.toNat).toNat = x.toNat % 256 := by simp
  rw [e, Nat.mod_eq_of_lt (by omega)]
  omega
theorem head_is {m : MsgP} (h : HeadOk m) : headTo m 4 = [UInt8.ofNat m.kind.toNat, UInt8.ofNat m.fr.toNat, UInt8.ofNat m.to.toNat, UInt8.ofNat m.vol.toNat] := by
  obtain ⟨h1, h2, h3, _, h4, _⟩ := h
  unfold InB at h1 h2 h3 h4
  have e : headTo m 4 = (((([] : List UInt8) ++ numB m.kind 1) ++ numB m.fr 1) ++ numB m.to 1) ++ numB m.vol 1 := rfl
  rw [e, num_1 (by omega) (by omega), num_1 (by omega) (by omega), num_1 (by omega) (by omega), num_1 (by omega) (by omega)]
  rfl
theorem head_wraps {m : MsgP} (h : HeadOk m) : IntKind.u8.wrap m.kind = m.kind ∧ IntKind.u8.wrap m.fr = m.fr ∧ IntKind.u8.wrap m.to = m.to ∧ IntKind.u8.wrap m.vol = m.vol := by
  obtain ⟨h1, h2, h3, _, h4, _⟩ := h
  unfold InB at h1 h2 h3 h4
  simp only [IntKind.wrap_u8]
  omega
theorem row_head (m : MsgP) (h : OkM m) (w : World) : RowB (w.alloc (.cells #[.int .u8 m.kind, .int .u8 m.fr, .int .u8 m.to, .int .u8 m.vol] 5)) (some ⟨w.heap.size, 0, none⟩) 4 (headTo m 4) := by
  have hx := Has.fresh w 5 #[.int .u8 m.kind, .int .u8 m.fr, .int .u8 m.to, .int .u8 m.vol]
  have hh := h.1
  obtain ⟨h1, h2, h3, _, h4, _⟩ := h.1
  unfold InB at h1 h2 h3 h4
  refine ⟨headTo_len m 4, fun _ => ⟨w.heap.size, 0, rfl, by rw [World.size_alloc]; omega, fun i hi => ?_⟩⟩
  have hi4 : i < 4 := by rw [headTo_len] at hi; exact hi
  rw [Nat.zero_add]
  refine (hx.at_ i).trans ?_
  have e := head_is hh
  generalize headTo m 4 = l at hi e
  subst e
  match i, hi4 with
  | 0, _ => show _ = some (Value.int .u8 ((UInt8.ofNat m.kind.toNat).toNat : Int)); rw [byte_back (by omega) (by omega)]; rfl
  | 1, _ => show _ = some (Value.int .u8 ((UInt8.ofNat m.fr.toNat).toNat : Int)); rw [byte_back (by omega) (by omega)]; rfl
  | 2, _ => show _ = some (Value.int .u8 ((UInt8.ofNat m.to.toNat).toNat : Int)); rw [byte_back (by omega) (by omega)]; rfl
  | 3, _ => show _ = some (Value.int .u8 ((UInt8.ofNat m.vol.toNat).toNat : Int)); rw [byte_back (by omega) (by omega)]; rfl
set_option maxRecDepth 100000 in
set_option maxHeartbeats 2000000 in
theorem rput_bad (m : MsgP) (hok : ¬ OkM m) (w : World) : Calls Tryd.prog 18 #[.agg (msgC m)] w (PutIs m w) := by
  have HPR := Lib.hid (putR_no hok)
  have HCK := Lib.hid (show ∀ W, Calls Tryd.prog 10 #[.agg (msgC m)] W fun e w' => e = .returned (.int .i64 201) ∧ Below W.heap.size W w' from fun W => err_no hok ▸ rcheck_any m W)
  have HB0 := Lib.hid ((Below.refl w.heap.size w).alloc (Nat.le_refl _) (.cells (msgC m) 27))
  have HA0 := Lib.hid (Has.fresh w 27 (msgC m))
  clear hok
  go_enter Tryd.func18, Tryd.ntmps18
  go_wp2_with ((with_reducible refine Who.wpList_loadC 27 (.tmp 1) rfl w.heap.size 0 (msgC m) ?_); refine And.intro ⟨by rfl, by rfl, ⟨_, Tryd.underlying27, rfl⟩, info_size _⟩ (And.intro (Who.has_range HA0.out) ?_); (try simp only [Act.put, List.setIfInBounds_toArray, List.set_cons_zero, List.set_cons_succ]))
  with_reducible refine (HCK.out _).mono ?_
  rintro e w1 ⟨rfl, hb⟩
  have HB1 := Lib.hid (HB0.out.trans (hb.mono HB0.out.size))
  clear hb
  go_wp2
  exact bodyPost_ret (v := .tuple #[.string ⟨#[]⟩, .int .i64 201]) (by simp [results, Tryd.results18, go_sem]) rfl ⟨by rw [HPR.out], HB1.out⟩
set_option maxRecDepth 100000 in
set_option maxHeartbeats 4000000 in
theorem rput_k1 (m : MsgP) (hok : OkM m) (q : m.kind = 1) (w : World) : Calls Tryd.prog 18 #[.agg (msgC m)] w (PutIs m w) := by
  have HPR := Lib.hid (putR_yes hok)
  have HMB := Lib.hid (msgB_1 q)
  have HDS := Lib.hid (ok_data hok)
  have HRB := Lib.hid (fun W => row_head m hok W)
  have HQ := Lib.hid q
  have hh := hok.1
  obtain ⟨v0, v1, v2, v3⟩ := head_wraps hh
  have HCK := Lib.hid (show ∀ W, Calls Tryd.prog 10 #[.agg (msgC m)] W fun e w' => e = .returned (.int .i64 0) ∧ Below W.heap.size W w' from fun W => err_yes hok ▸ rcheck_any m W)
  have HB0 := Lib.hid ((Below.refl w.heap.size w).alloc (Nat.le_refl _) (.cells (msgC m) 27))
  have HA0 := Lib.hid (Has.fresh w 27 (msgC m))
  clear hok hh q
  go_enter Tryd.func18, Tryd.ntmps18
  go_wp2_with ((with_reducible refine Who.wpList_loadC 27 (.tmp 1) rfl w.heap.size 0 (msgC m) ?_); refine And.intro ⟨by rfl, by rfl, ⟨_, Tryd.underlying27, rfl⟩, info_size _⟩ (And.intro (Who.has_range HA0.out) ?_); (try simp only [Act.put, List.setIfInBounds_toArray, List.set_cons_zero, List.set_cons_succ]))
  with_reducible refine (HCK.out _).mono ?_
  rintro e w1 ⟨rfl, hb⟩
  have HA1 := Lib.hid (HA0.out.below hb)
  have HB1 := Lib.hid (HB0.out.trans (hb.mono HB0.out.size))
  have c0 : w1.cell? ⟨w.heap.size, 0, none⟩ = some (.int .i64 m.kind) := HA1.out.at_ 0
  have c1 : w1.cell? ⟨w.heap.size, 1, none⟩ = some (.int .i64 m.fr) := HA1.out.at_ 1
  have c2 : w1.cell? ⟨w.heap.size, 2, none⟩ = some (.int .i64 m.to) := HA1.out.at_ 2
  have c3 : w1.cell? ⟨w.heap.size, 3, none⟩ = some (.int .i64 m.vol) := HA1.out.at_ 3
  have HA := Lib.hid (show Has (w1.alloc (.cells #[.int .u8 m.kind, .int .u8 m.fr, .int .u8 m.to, .int .u8 m.vol] 5)) w.heap.size 27 (msgC m) from HA1.out.past _)
  have HSR := Lib.hid (seen_range HA.out)
  have HV := Lib.hid (rvec_row (w := w) (c := 4) (show RowI w (w1.alloc (.cells #[.int .u8 m.kind, .int .u8 m.fr, .int .u8 m.to, .int .u8 m.vol] 5)) (some ⟨w1.heap.size, 0, none⟩) 4 4 (headTo m 4) from ⟨HB1.out.alloc HB1.out.size _, HRB.out w1, fun e => by cases e⟩) m.seen (by rw [headTo_len]; omega))
  clear hb HCK HA0 HB0
  go_wp2_with ((with_reducible refine Who.wpList_loadC 25 (.tmp 25) rfl w.heap.size 10 (vecC m.seen) ?_); refine And.intro ⟨by rfl, by rfl, ⟨_, Tryd.underlying25, rfl⟩, info_vec⟩ (And.intro HSR.out ?_); (try simp only [Act.put, List.setIfInBounds_toArray, List.set_cons_zero, List.set_cons_succ]))
  refine HV.out.mono ?_
  rintro e w3 ⟨A3, n3, c3x, rfl, hrow, hb⟩
  have HA3 := Lib.hid (HA.out.below hb)
  obtain ⟨M2, hM2⟩ : ∃ M2, M2 = headTo m 4 ++ vecB m.seen := ⟨_, rfl⟩
  rw [← hM2] at hrow
  have HM2 := Lib.hid hM2
  have HL2 := Lib.hid (show M2.length = 52 by rw [hM2, List.length_append, headTo_len, vecB_len])
  have HR3 := Lib.hid hrow
  clear hrow hb hM2 HV HSR HA c0 c1 c2 c3 v0 v1 v2 v3 HA1
  have k3 : w3.cell? ⟨w.heap.size, 0, none⟩ = some (.int .i64 1) := HQ.out ▸ HA3.out.at_ 0
  have e4 : w3.cell? ⟨w.heap.size, 4, none⟩ = some (.int .i64 m.base.1) := HA3.out.at_ 4
  have e5 : w3.cell? ⟨w.heap.size, 5, none⟩ = some (.int .i64 m.base.2) := HA3.out.at_ 5
  have HP3 := Lib.hid (rmark_row HR3.out m.base (by have := HL2.out; omega))
  go_wp2_with fail
  refine HP3.out.mono ?_
  rintro e w4 ⟨A4, n4, c4x, rfl, hrow, hb⟩
  obtain ⟨M3, hM3⟩ : ∃ M3, M3 = M2 ++ markB m.base := ⟨_, rfl⟩
  rw [← hM3] at hrow
  have HM3 := Lib.hid hM3
  have HL3 := Lib.hid (show M3.length = 64 by have h1 := HL2.out; have h3 := HDS.out; rw [hM3, List.length_append, h1, markB_len])
  have HA4 := Lib.hid (HA3.out.below hb)
  have HR4 := Lib.hid hrow
  clear hrow hb hM3 k3 e4 e5 HP3
  have k4 : w4.cell? ⟨w.heap.size, 0, none⟩ = some (.int .i64 1) := HQ.out ▸ HA4.out.at_ 0
  have e6 : w4.cell? ⟨w.heap.size, 6, none⟩ = some (.int .i64 m.mark.1) := HA4.out.at_ 6
  have e7 : w4.cell? ⟨w.heap.size, 7, none⟩ = some (.int .i64 m.mark.2) := HA4.out.at_ 7
  have HP4 := Lib.hid (rmark_row HR4.out m.mark (by have := HL3.out; omega))
  go_wp2_with fail
  refine HP4.out.mono ?_
  rintro e w5 ⟨A5, n5, c5x, rfl, hrow, hb⟩
  obtain ⟨M4, hM4⟩ : ∃ M4, M4 = M3 ++ markB m.mark := ⟨_, rfl⟩
  rw [← hM4] at hrow
  have HM4 := Lib.hid hM4
  have HL4 := Lib.hid (show M4.length = 76 by have h1 := HL3.out; have h3 := HDS.out; rw [hM4, List.length_append, h1, markB_len])
  have HA5 := Lib.hid (HA4.out.below hb)
  have HR5 := Lib.hid hrow
  clear hrow hb hM4 k4 e6 e7 HP4
  have k5 : w5.cell? ⟨w.heap.size, 0, none⟩ = some (.int .i64 1) := HQ.out ▸ HA5.out.at_ 0
  have e8 : w5.cell? ⟨w.heap.size, 8, none⟩ = some (.int .i64 m.ix) := HA5.out.at_ 8
  have HP5 := Lib.hid (rnum_row HR5.out m.ix 2 (by omega) (by omega) (by have := HL4.out; omega))
  go_wp2_with fail
  refine HP5.out.mono ?_
  rintro e w6 ⟨A6, n6, c6x, rfl, hrow, hb⟩
  obtain ⟨M5, hM5⟩ : ∃ M5, M5 = M4 ++ numB m.ix 2 := ⟨_, rfl⟩
  rw [← hM5] at hrow
  have HM5 := Lib.hid hM5
  have HL5 := Lib.hid (show M5.length = 78 by have h1 := HL4.out; have h3 := HDS.out; rw [hM5, List.length_append, h1, numB_len])
  have HA6 := Lib.hid (HA5.out.below hb)
  have HR6 := Lib.hid hrow
  clear hrow hb hM5 k5 e8 HP5
  have kz : w6.cell? ⟨w.heap.size, 0, none⟩ = some (.int .i64 1) := HQ.out ▸ HA6.out.at_ 0
  have kc := Oct.conv_RowB w6 A6 n6 c6x M5 HR6.out.row
  have HSE := Lib.hid (CrcW.rseal_any ⟨M5.toArray⟩ (by have h1 := HL5.out; have h2 := HDS.out; show M5.toArray.size ≤ 100000; rw [List.size_toArray]; omega) w6)
  have HE := Lib.hid (show putR m = (CrcW.sealB ⟨M5.toArray⟩, 0) by rw [HPR.out, HMB.out, HM5.out, HM4.out, HM3.out, HM2.out]; simp only [headB, List.append_assoc])
  go_wp2_with fail
  refine HSE.out.mono ?_
  rintro e wz ⟨rfl, hb⟩
  have HBZ := Lib.hid (HR6.out.below.trans (hb.mono HR6.out.below.size))
  clear hb kc
  go_wp2
  exact bodyPost_ret (v := .tuple #[.string (CrcW.sealB ⟨M5.toArray⟩), .int .i64 0]) (by simp [results, Tryd.results18, go_sem]) rfl ⟨by rw [HE.out], HBZ.out⟩
set_option maxRecDepth 100000 in
set_option maxHeartbeats 4000000 in
theorem rput_k2 (m : MsgP) (hok : OkM m) (q : m.kind = 2) (w : World) : Calls Tryd.prog 18 #[.agg (msgC m)] w (PutIs m w) := by
  have HPR := Lib.hid (putR_yes hok)
  have HMB := Lib.hid (msgB_2 q)
  have HDS := Lib.hid (ok_data hok)
  have HRB := Lib.hid (fun W => row_head m hok W)
  have HQ := Lib.hid q
  have hh := hok.1
  obtain ⟨v0, v1, v2, v3⟩ := head_wraps hh
  have HCK := Lib.hid (show ∀ W, Calls Tryd.prog 10 #[.agg (msgC m)] W fun e w' => e = .returned (.int .i64 0) ∧ Below W.heap.size W w' from fun W => err_yes hok ▸ rcheck_any m W)
  have HB0 := Lib.hid ((Below.refl w.heap.size w).alloc (Nat.le_refl _) (.cells (msgC m) 27))
  have HA0 := Lib.hid (Has.fresh w 27 (msgC m))
  clear hok hh q
  go_enter Tryd.func18, Tryd.ntmps18
  go_wp2_with ((with_reducible refine Who.wpList_loadC 27 (.tmp 1) rfl w.heap.size 0 (msgC m) ?_); refine And.intro ⟨by rfl, by rfl, ⟨_, Tryd.underlying27, rfl⟩, info_size _⟩ (And.intro (Who.has_range HA0.out) ?_); (try simp only [Act.put, List.setIfInBounds_toArray, List.set_cons_zero, List.set_cons_succ]))
  with_reducible refine (HCK.out _).mono ?_
  rintro e w1 ⟨rfl, hb⟩
  have HA1 := Lib.hid (HA0.out.below hb)
  have HB1 := Lib.hid (HB0.out.trans (hb.mono HB0.out.size))
  have c0 : w1.cell? ⟨w.heap.size, 0, none⟩ = some (.int .i64 m.kind) := HA1.out.at_ 0
  have c1 : w1.cell? ⟨w.heap.size, 1, none⟩ = some (.int .i64 m.fr) := HA1.out.at_ 1
  have c2 : w1.cell? ⟨w.heap.size, 2, none⟩ = some (.int .i64 m.to) := HA1.out.at_ 2
  have c3 : w1.cell? ⟨w.heap.size, 3, none⟩ = some (.int .i64 m.vol) := HA1.out.at_ 3
  have HA := Lib.hid (show Has (w1.alloc (.cells #[.int .u8 m.kind, .int .u8 m.fr, .int .u8 m.to, .int .u8 m.vol] 5)) w.heap.size 27 (msgC m) from HA1.out.past _)
  have HSR := Lib.hid (seen_range HA.out)
  have HV := Lib.hid (rvec_row (w := w) (c := 4) (show RowI w (w1.alloc (.cells #[.int .u8 m.kind, .int .u8 m.fr, .int .u8 m.to, .int .u8 m.vol] 5)) (some ⟨w1.heap.size, 0, none⟩) 4 4 (headTo m 4) from ⟨HB1.out.alloc HB1.out.size _, HRB.out w1, fun e => by cases e⟩) m.seen (by rw [headTo_len]; omega))
  clear hb HCK HA0 HB0
  go_wp2_with ((with_reducible refine Who.wpList_loadC 25 (.tmp 25) rfl w.heap.size 10 (vecC m.seen) ?_); refine And.intro ⟨by rfl, by rfl, ⟨_, Tryd.underlying25, rfl⟩, info_vec⟩ (And.intro HSR.out ?_); (try simp only [Act.put, List.setIfInBounds_toArray, List.set_cons_zero, List.set_cons_succ]))
  refine HV.out.mono ?_
  rintro e w3 ⟨A3, n3, c3x, rfl, hrow, hb⟩
  have HA3 := Lib.hid (HA.out.below hb)
  obtain ⟨M2, hM2⟩ : ∃ M2, M2 = headTo m 4 ++ vecB m.seen := ⟨_, rfl⟩
  rw [← hM2] at hrow
  have HM2 := Lib.hid hM2
  have HL2 := Lib.hid (show M2.length = 52 by rw [hM2, List.length_append, headTo_len, vecB_len])
  have HR3 := Lib.hid hrow
  clear hrow hb hM2 HV HSR HA c0 c1 c2 c3 v0 v1 v2 v3 HA1
  have k3 : w3.cell? ⟨w.heap.size, 0, none⟩ = some (.int .i64 2) := HQ.out ▸ HA3.out.at_ 0
  have e4 : w3.cell? ⟨w.heap.size, 4, none⟩ = some (.int .i64 m.base.1) := HA3.out.at_ 4
  have e5 : w3.cell? ⟨w.heap.size, 5, none⟩ = some (.int .i64 m.base.2) := HA3.out.at_ 5
  have HP3 := Lib.hid (rmark_row HR3.out m.base (by have := HL2.out; omega))
  go_wp2_with fail
  refine HP3.out.mono ?_
  rintro e w4 ⟨A4, n4, c4x, rfl, hrow, hb⟩
  obtain ⟨M3, hM3⟩ : ∃ M3, M3 = M2 ++ markB m.base := ⟨_, rfl⟩
  rw [← hM3] at hrow
  have HM3 := Lib.hid hM3
  have HL3 := Lib.hid (show M3.length = 64 by have h1 := HL2.out; have h3 := HDS.out; rw [hM3, List.length_append, h1, markB_len])
  have HA4 := Lib.hid (HA3.out.below hb)
  have HR4 := Lib.hid hrow
  clear hrow hb hM3 k3 e4 e5 HP3
  have k4 : w4.cell? ⟨w.heap.size, 0, none⟩ = some (.int .i64 2) := HQ.out ▸ HA4.out.at_ 0
  have e6 : w4.cell? ⟨w.heap.size, 6, none⟩ = some (.int .i64 m.mark.1) := HA4.out.at_ 6
  have e7 : w4.cell? ⟨w.heap.size, 7, none⟩ = some (.int .i64 m.mark.2) := HA4.out.at_ 7
  have HP4 := Lib.hid (rmark_row HR4.out m.mark (by have := HL3.out; omega))
  go_wp2_with fail
  refine HP4.out.mono ?_
  rintro e w5 ⟨A5, n5, c5x, rfl, hrow, hb⟩
  obtain ⟨M4, hM4⟩ : ∃ M4, M4 = M3 ++ markB m.mark := ⟨_, rfl⟩
  rw [← hM4] at hrow
  have HM4 := Lib.hid hM4
  have HL4 := Lib.hid (show M4.length = 76 by have h1 := HL3.out; have h3 := HDS.out; rw [hM4, List.length_append, h1, markB_len])
  have HA5 := Lib.hid (HA4.out.below hb)
  have HR5 := Lib.hid hrow
  clear hrow hb hM4 k4 e6 e7 HP4
  have k5 : w5.cell? ⟨w.heap.size, 0, none⟩ = some (.int .i64 2) := HQ.out ▸ HA5.out.at_ 0
  have e8 : w5.cell? ⟨w.heap.size, 8, none⟩ = some (.int .i64 m.ix) := HA5.out.at_ 8
  have HP5 := Lib.hid (rnum_row HR5.out m.ix 2 (by omega) (by omega) (by have := HL4.out; omega))
  go_wp2_with fail
  refine HP5.out.mono ?_
  rintro e w6 ⟨A6, n6, c6x, rfl, hrow, hb⟩
  obtain ⟨M5, hM5⟩ : ∃ M5, M5 = M4 ++ numB m.ix 2 := ⟨_, rfl⟩
  rw [← hM5] at hrow
  have HM5 := Lib.hid hM5
  have HL5 := Lib.hid (show M5.length = 78 by have h1 := HL4.out; have h3 := HDS.out; rw [hM5, List.length_append, h1, numB_len])
  have HA6 := Lib.hid (HA5.out.below hb)
  have HR6 := Lib.hid hrow
  clear hrow hb hM5 k5 e8 HP5
  have k6 : w6.cell? ⟨w.heap.size, 0, none⟩ = some (.int .i64 2) := HQ.out ▸ HA6.out.at_ 0
  have e9 : w6.cell? ⟨w.heap.size, 9, none⟩ = some (.int .i64 m.tot) := HA6.out.at_ 9
  have HP6 := Lib.hid (rnum_row HR6.out m.tot 2 (by omega) (by omega) (by have := HL5.out; omega))
  go_wp2_with fail
  refine HP6.out.mono ?_
  rintro e w7 ⟨A7, n7, c7x, rfl, hrow, hb⟩
  obtain ⟨M6, hM6⟩ : ∃ M6, M6 = M5 ++ numB m.tot 2 := ⟨_, rfl⟩
  rw [← hM6] at hrow
  have HM6 := Lib.hid hM6
  have HL6 := Lib.hid (show M6.length = 80 by have h1 := HL5.out; have h3 := HDS.out; rw [hM6, List.length_append, h1, numB_len])
  have HA7 := Lib.hid (HA6.out.below hb)
  have HR7 := Lib.hid hrow
  clear hrow hb hM6 k6 e9 HP6
  have k7 : w7.cell? ⟨w.heap.size, 0, none⟩ = some (.int .i64 2) := HQ.out ▸ HA7.out.at_ 0
  have e18 : w7.cell? ⟨w.heap.size, 18, none⟩ = some (.string m.data) := HA7.out.at_ 18
  have HP7 := Lib.hid (rtext_row HR7.out m.data (by have := HL6.out; omega))
  go_wp2_with fail
  refine HP7.out.mono ?_
  rintro e w8 ⟨A8, n8, c8x, rfl, hrow, hb⟩
  obtain ⟨M7, hM7⟩ : ∃ M7, M7 = M6 ++ textB m.data := ⟨_, rfl⟩
  rw [← hM7] at hrow
  have HM7 := Lib.hid hM7
  have HL7 := Lib.hid (show M7.length = 80 + 2 + m.data.size by have h1 := HL6.out; have h3 := HDS.out; rw [hM7, List.length_append, h1, textB_len _ (by omega)]; omega)
  have HA8 := Lib.hid (HA7.out.below hb)
  have HR8 := Lib.hid hrow
  clear hrow hb hM7 k7 e18 HP7
  have kz : w8.cell? ⟨w.heap.size, 0, none⟩ = some (.int .i64 2) := HQ.out ▸ HA8.out.at_ 0
  have kc := Oct.conv_RowB w8 A8 n8 c8x M7 HR8.out.row
  have HSE := Lib.hid (CrcW.rseal_any ⟨M7.toArray⟩ (by have h1 := HL7.out; have h2 := HDS.out; show M7.toArray.size ≤ 100000; rw [List.size_toArray]; omega) w8)
  have HE := Lib.hid (show putR m = (CrcW.sealB ⟨M7.toArray⟩, 0) by rw [HPR.out, HMB.out, HM7.out, HM6.out, HM5.out, HM4.out, HM3.out, HM2.out]; simp only [headB, List.append_assoc])
  go_wp2_with fail
  refine HSE.out.mono ?_
  rintro e wz ⟨rfl, hb⟩
  have HBZ := Lib.hid (HR8.out.below.trans (hb.mono HR8.out.below.size))
  clear hb kc
  go_wp2
  exact bodyPost_ret (v := .tuple #[.string (CrcW.sealB ⟨M7.toArray⟩), .int .i64 0]) (by simp [results, Tryd.results18, go_sem]) rfl ⟨by rw [HE.out], HBZ.out⟩
set_option maxRecDepth 100000 in
set_option maxHeartbeats 4000000 in
theorem rput_k3 (m : MsgP) (hok : OkM m) (q : m.kind = 3) (w : World) : Calls Tryd.prog 18 #[.agg (msgC m)] w (PutIs m w) := by
  have HPR := Lib.hid (putR_yes hok)
  have HMB := Lib.hid (msgB_3 q)
  have HDS := Lib.hid (ok_data hok)
  have HRB := Lib.hid (fun W => row_head m hok W)
  have HQ := Lib.hid q
  have hh := hok.1
  obtain ⟨v0, v1, v2, v3⟩ := head_wraps hh
  have HCK := Lib.hid (show ∀ W, Calls Tryd.prog 10 #[.agg (msgC m)] W fun e w' => e = .returned (.int .i64 0) ∧ Below W.heap.size W w' from fun W => err_yes hok ▸ rcheck_any m W)
  have HB0 := Lib.hid ((Below.refl w.heap.size w).alloc (Nat.le_refl _) (.cells (msgC m) 27))
  have HA0 := Lib.hid (Has.fresh w 27 (msgC m))
  clear hok hh q
  go_enter Tryd.func18, Tryd.ntmps18
  go_wp2_with ((with_reducible refine Who.wpList_loadC 27 (.tmp 1) rfl w.heap.size 0 (msgC m) ?_); refine And.intro ⟨by rfl, by rfl, ⟨_, Tryd.underlying27, rfl⟩, info_size _⟩ (And.intro (Who.has_range HA0.out) ?_); (try simp only [Act.put, List.setIfInBounds_toArray, List.set_cons_zero, List.set_cons_succ]))
  with_reducible refine (HCK.out _).mono ?_
  rintro e w1 ⟨rfl, hb⟩
  have HA1 := Lib.hid (HA0.out.below hb)
  have HB1 := Lib.hid (HB0.out.trans (hb.mono HB0.out.size))
  have c0 : w1.cell? ⟨w.heap.size, 0, none⟩ = some (.int .i64 m.kind) := HA1.out.at_ 0
  have c1 : w1.cell? ⟨w.heap.size, 1, none⟩ = some (.int .i64 m.fr) := HA1.out.at_ 1
  have c2 : w1.cell? ⟨w.heap.size, 2, none⟩ = some (.int .i64 m.to) := HA1.out.at_ 2
  have c3 : w1.cell? ⟨w.heap.size, 3, none⟩ = some (.int .i64 m.vol) := HA1.out.at_ 3
  have HA := Lib.hid (show Has (w1.alloc (.cells #[.int .u8 m.kind, .int .u8 m.fr, .int .u8 m.to, .int .u8 m.vol] 5)) w.heap.size 27 (msgC m) from HA1.out.past _)
  have HSR := Lib.hid (seen_range HA.out)
  have HV := Lib.hid (rvec_row (w := w) (c := 4) (show RowI w (w1.alloc (.cells #[.int .u8 m.kind, .int .u8 m.fr, .int .u8 m.to, .int .u8 m.vol] 5)) (some ⟨w1.heap.size, 0, none⟩) 4 4 (headTo m 4) from ⟨HB1.out.alloc HB1.out.size _, HRB.out w1, fun e => by cases e⟩) m.seen (by rw [headTo_len]; omega))
  clear hb HCK HA0 HB0
  go_wp2_with ((with_reducible refine Who.wpList_loadC 25 (.tmp 25) rfl w.heap.size 10 (vecC m.seen) ?_); refine And.intro ⟨by rfl, by rfl, ⟨_, Tryd.underlying25, rfl⟩, info_vec⟩ (And.intro HSR.out ?_); (try simp only [Act.put, List.setIfInBounds_toArray, List.set_cons_zero, List.set_cons_succ]))
  refine HV.out.mono ?_
  rintro e w3 ⟨A3, n3, c3x, rfl, hrow, hb⟩
  have HA3 := Lib.hid (HA.out.below hb)
  obtain ⟨M2, hM2⟩ : ∃ M2, M2 = headTo m 4 ++ vecB m.seen := ⟨_, rfl⟩
  rw [← hM2] at hrow
  have HM2 := Lib.hid hM2
  have HL2 := Lib.hid (show M2.length = 52 by rw [hM2, List.length_append, headTo_len, vecB_len])
  have HR3 := Lib.hid hrow
  clear hrow hb hM2 HV HSR HA c0 c1 c2 c3 v0 v1 v2 v3 HA1
  have kz : w3.cell? ⟨w.heap.size, 0, none⟩ = some (.int .i64 3) := HQ.out ▸ HA3.out.at_ 0
  have kc := Oct.conv_RowB w3 A3 n3 c3x M2 HR3.out.row
  have HSE := Lib.hid (CrcW.rseal_any ⟨M2.toArray⟩ (by have h1 := HL2.out; have h2 := HDS.out; show M2.toArray.size ≤ 100000; rw [List.size_toArray]; omega) w3)
  have HE := Lib.hid (show putR m = (CrcW.sealB ⟨M2.toArray⟩, 0) by rw [HPR.out, HMB.out, HM2.out]; simp only [headB, List.append_assoc])
  go_wp2_with fail
  refine HSE.out.mono ?_
  rintro e wz ⟨rfl, hb⟩
  have HBZ := Lib.hid (HR3.out.below.trans (hb.mono HR3.out.below.size))
  clear hb kc
  go_wp2
  exact bodyPost_ret (v := .tuple #[.string (CrcW.sealB ⟨M2.toArray⟩), .int .i64 0]) (by simp [results, Tryd.results18, go_sem]) rfl ⟨by rw [HE.out], HBZ.out⟩
set_option maxRecDepth 100000 in
set_option maxHeartbeats 4000000 in
theorem rput_k4 (m : MsgP) (hok : OkM m) (q : m.kind = 4) (w : World) : Calls Tryd.prog 18 #[.agg (msgC m)] w (PutIs m w) := by
  have HPR := Lib.hid (putR_yes hok)
  have HMB := Lib.hid (msgB_4 q)
  have HDS := Lib.hid (ok_data hok)
  have HRB := Lib.hid (fun W => row_head m hok W)
  have HQ := Lib.hid q
  have hh := hok.1
  obtain ⟨v0, v1, v2, v3⟩ := head_wraps hh
  have HCK := Lib.hid (show ∀ W, Calls Tryd.prog 10 #[.agg (msgC m)] W fun e w' => e = .returned (.int .i64 0) ∧ Below W.heap.size W w' from fun W => err_yes hok ▸ rcheck_any m W)
  have HB0 := Lib.hid ((Below.refl w.heap.size w).alloc (Nat.le_refl _) (.cells (msgC m) 27))
  have HA0 := Lib.hid (Has.fresh w 27 (msgC m))
  clear hok hh q
  go_enter Tryd.func18, Tryd.ntmps18
  go_wp2_with ((with_reducible refine Who.wpList_loadC 27 (.tmp 1) rfl w.heap.size 0 (msgC m) ?_); refine And.intro ⟨by rfl, by rfl, ⟨_, Tryd.underlying27, rfl⟩, info_size _⟩ (And.intro (Who.has_range HA0.out) ?_); (try simp only [Act.put, List.setIfInBounds_toArray, List.set_cons_zero, List.set_cons_succ]))
  with_reducible refine (HCK.out _).mono ?_
  rintro e w1 ⟨rfl, hb⟩
  have HA1 := Lib.hid (HA0.out.below hb)
  have HB1 := Lib.hid (HB0.out.trans (hb.mono HB0.out.size))
  have c0 : w1.cell? ⟨w.heap.size, 0, none⟩ = some (.int .i64 m.kind) := HA1.out.at_ 0
  have c1 : w1.cell? ⟨w.heap.size, 1, none⟩ = some (.int .i64 m.fr) := HA1.out.at_ 1
  have c2 : w1.cell? ⟨w.heap.size, 2, none⟩ = some (.int .i64 m.to) := HA1.out.at_ 2
  have c3 : w1.cell? ⟨w.heap.size, 3, none⟩ = some (.int .i64 m.vol) := HA1.out.at_ 3
  have HA := Lib.hid (show Has (w1.alloc (.cells #[.int .u8 m.kind, .int .u8 m.fr, .int .u8 m.to, .int .u8 m.vol] 5)) w.heap.size 27 (msgC m) from HA1.out.past _)
  have HSR := Lib.hid (seen_range HA.out)
  have HV := Lib.hid (rvec_row (w := w) (c := 4) (show RowI w (w1.alloc (.cells #[.int .u8 m.kind, .int .u8 m.fr, .int .u8 m.to, .int .u8 m.vol] 5)) (some ⟨w1.heap.size, 0, none⟩) 4 4 (headTo m 4) from ⟨HB1.out.alloc HB1.out.size _, HRB.out w1, fun e => by cases e⟩) m.seen (by rw [headTo_len]; omega))
  clear hb HCK HA0 HB0
  go_wp2_with ((with_reducible refine Who.wpList_loadC 25 (.tmp 25) rfl w.heap.size 10 (vecC m.seen) ?_); refine And.intro ⟨by rfl, by rfl, ⟨_, Tryd.underlying25, rfl⟩, info_vec⟩ (And.intro HSR.out ?_); (try simp only [Act.put, List.setIfInBounds_toArray, List.set_cons_zero, List.set_cons_succ]))
  refine HV.out.mono ?_
  rintro e w3 ⟨A3, n3, c3x, rfl, hrow, hb⟩
  have HA3 := Lib.hid (HA.out.below hb)
  obtain ⟨M2, hM2⟩ : ∃ M2, M2 = headTo m 4 ++ vecB m.seen := ⟨_, rfl⟩
  rw [← hM2] at hrow
  have HM2 := Lib.hid hM2
  have HL2 := Lib.hid (show M2.length = 52 by rw [hM2, List.length_append, headTo_len, vecB_len])
  have HR3 := Lib.hid hrow
  clear hrow hb hM2 HV HSR HA c0 c1 c2 c3 v0 v1 v2 v3 HA1
  have k3 : w3.cell? ⟨w.heap.size, 0, none⟩ = some (.int .i64 4) := HQ.out ▸ HA3.out.at_ 0
  have e6 : w3.cell? ⟨w.heap.size, 6, none⟩ = some (.int .i64 m.mark.1) := HA3.out.at_ 6
  have e7 : w3.cell? ⟨w.heap.size, 7, none⟩ = some (.int .i64 m.mark.2) := HA3.out.at_ 7
  have HP3 := Lib.hid (rmark_row HR3.out m.mark (by have := HL2.out; omega))
  go_wp2_with fail
  refine HP3.out.mono ?_
  rintro e w4 ⟨A4, n4, c4x, rfl, hrow, hb⟩
  obtain ⟨M3, hM3⟩ : ∃ M3, M3 = M2 ++ markB m.mark := ⟨_, rfl⟩
  rw [← hM3] at hrow
  have HM3 := Lib.hid hM3
  have HL3 := Lib.hid (show M3.length = 64 by have h1 := HL2.out; have h3 := HDS.out; rw [hM3, List.length_append, h1, markB_len])
  have HA4 := Lib.hid (HA3.out.below hb)
  have HR4 := Lib.hid hrow
  clear hrow hb hM3 k3 e6 e7 HP3
  have kz : w4.cell? ⟨w.heap.size, 0, none⟩ = some (.int .i64 4) := HQ.out ▸ HA4.out.at_ 0
  have kc := Oct.conv_RowB w4 A4 n4 c4x M3 HR4.out.row
  have HSE := Lib.hid (CrcW.rseal_any ⟨M3.toArray⟩ (by have h1 := HL3.out; have h2 := HDS.out; show M3.toArray.size ≤ 100000; rw [List.size_toArray]; omega) w4)
  have HE := Lib.hid (show putR m = (CrcW.sealB ⟨M3.toArray⟩, 0) by rw [HPR.out, HMB.out, HM3.out, HM2.out]; simp only [headB, List.append_assoc])
  go_wp2_with fail
  refine HSE.out.mono ?_
  rintro e wz ⟨rfl, hb⟩
  have HBZ := Lib.hid (HR4.out.below.trans (hb.mono HR4.out.below.size))
  clear hb kc
  go_wp2
  exact bodyPost_ret (v := .tuple #[.string (CrcW.sealB ⟨M3.toArray⟩), .int .i64 0]) (by simp [results, Tryd.results18, go_sem]) rfl ⟨by rw [HE.out], HBZ.out⟩
theorem rput_any (m : MsgP) (w : World) : Calls Tryd.prog 18 #[.agg (msgC m)] w (PutIs m w) := by
  by_cases h : OkM m
  · rcases ok_kind h with q | q | q | q
    · exact rput_k1 m h q w
    · exact rput_k2 m h q w
    · exact rput_k3 m h q w
    · exact rput_k4 m h q w
  · exact rput_bad m h w
end Go.Proofs.YtfjmcklmoebnaaaDoor.Mg
