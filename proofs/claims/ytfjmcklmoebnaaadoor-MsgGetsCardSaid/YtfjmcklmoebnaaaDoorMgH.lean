/- The document's Get of a message, walked. -/
import Derived.Test.YtfjmcklmoebnaaaDoorMgG
namespace Go.Proofs.YtfjmcklmoebnaaaDoor.Mg
open Go.RowKit Go.Proofs.YtfjmcklmoebnaaaDoor.Mem Go.Proofs.YtfjmcklmoebnaaaDoor.Nt
open Go.Proofs.YtfjmcklmoebnaaaDoor.Vc (vecC seeV)
set_option linter.unusedVariables false set_option linter.unusedSimpArgs false

structure GI (w W : World) (x g : Nat) (B : ByteArray) (st : ES) (m : MsgP) : Prop where
  eye : RyeS W x B st
  has : Has W g 27 (msgC m)
  res : Has W w.heap.size 27 (msgC msg0)
  below : Below w.heap.size w W
  ap : w.heap.size < x ∧ x < g
theorem GI.got {w W W' : World} {x g : Nat} {B : ByteArray} {st st' : ES} {m : MsgP} (h : GI w W x g B st m) (he : RyeS W' x B st') (hc : Oct.Chg (· = x) W W') : GI w W' x g B st' m := by
  have l := h.ap
  exact ⟨he, has_got h.has hc (by omega), has_got h.res hc (by omega), chg_low h.below hc.to (by omega), l⟩
theorem GI.put {w W W' : World} {x g : Nat} {B : ByteArray} {st : ES} {m m' : MsgP} (h : GI w W x g B st m) (hm : Has W' g 27 (msgC m')) (hc : Chg (· = g) W W') : GI w W' x g B st m' := by
  have l := h.ap
  exact ⟨h.eye.over (Oct.Chg.of hc) (by omega), hm, h.res.over hc (by omega), chg_low h.below hc (by omega), l⟩
theorem GI.low {w W W' : World} {x g : Nat} {B : ByteArray} {st : ES} {m : MsgP} (h : GI w W x g B st m) (hb : Below W.heap.size W W') : GI w W' x g B st m := ⟨h.eye.over (Oct.Chg.of (Chg.of_below hb (fun _ => False))) (fun k => k), h.has.below hb, h.res.below hb, h.below.trans (hb.mono h.below.size), h.ap⟩
def ROpenIs (s : ByteArray) (w : World) (e : Ending) (w' : World) : Prop := ∃ b, e = .returned (.tuple #[.string b, .bool (CrcW.openB s)]) ∧ (CrcW.openB s = true → b = CrcW.headB s) ∧ b.size ≤ 4104 ∧ Below w.heap.size w w'
theorem ropen_x (s : ByteArray) (hs : s.size ≤ 4104) (w : World) : Calls Tryd.prog 48 #[.string s] w (ROpenIs s w) := by
  by_cases h : s.size < 8
  · refine (CrcW.ropen_short s h w).mono fun e w' q => ?_
    obtain ⟨e1, rfl⟩ := q
    have h0 := open_less h
    exact ⟨⟨#[]⟩, by rw [e1, h0], fun k => (by rw [h0] at k; cases k), by decide, Below.refl _ _⟩
  · exact (CrcW.ropen_long s (by omega) hs w).mono fun e w' q => ⟨_, q.1, fun _ => rfl, by unfold CrcW.headB; rw [CrcW.headB_size]; omega, q.2⟩
theorem eye_box (w : World) (b : ByteArray) : RyeS (w.alloc (.cells #[.string b, .int .i64 0, .bool false, .int .i64 0] 68)) w.heap.size b (some b) := ⟨0, Nat.zero_le _, by rw [ByteArray.extract_zero_size], Oct.Has.fresh w _ _⟩

set_option maxRecDepth 100000 in
set_option maxHeartbeats 8000000 in
theorem rget_any (s : ByteArray) (hs : s.size ≤ 4104) (w : World) : Calls Tryd.prog 20 #[.string s] w (GetIs s w) := by
  have hal := alloc_msg
  have hb0 := (Below.refl w.heap.size w).alloc (Nat.le_refl _) (.cells (msgC msg0) 27)
  have HO := Lib.hid (ropen_x s hs (w.alloc (.cells (msgC msg0) 27)))
  have HB0 := Lib.hid hb0
  have HG0 := Lib.hid (Has.fresh w 27 (msgC msg0))
  have HCK := Lib.hid rcheck_any
  clear hb0 hs
  go_enter Tryd.func20, Tryd.ntmps20
  go_wp2_with ((with_reducible refine Who.wpList_alloc 27 2 rfl rfl rfl (msgC msg0) hal ?_); (try simp only [Act.put, List.setIfInBounds_toArray, List.set_cons_zero, List.set_cons_succ]); (try simp only [World.size_alloc]))
  refine HO.out.mono ?_
  rintro e w1 ⟨B, rfl, hb, hB, hbl⟩
  have HOB := Lib.hid hb
  have HBS := Lib.hid (show B.size ≤ 1048576 by omega)
  have HR1 := Lib.hid ((HG0.out.below hbl).past (.cells #[.string B, .int .i64 0, .bool false, .int .i64 0] 68))
  have HL1 := Lib.hid ((HB0.out.trans (hbl.mono HB0.out.size)).alloc (HB0.out.trans (hbl.mono HB0.out.size)).size (.cells #[.string B, .int .i64 0, .bool false, .int .i64 0] 68))
  have HE1 := Lib.hid (eye_box w1 B)
  have HX1 := Lib.hid (show w.heap.size < w1.heap.size from (HG0.out.below hbl).bound)
  have HN1 := Lib.hid (rnum_s w1.heap.size 1 B HBS.out (some B) _ HE1.out)
  have HH0 := Lib.hid (show getE B = hE1 (rnE (some B) 1).1 (rnE (some B) 1).2 from rfl)
  obtain ⟨O, hO⟩ : ∃ O, O = CrcW.openB s := ⟨_, rfl⟩
  rw [← hO]
  have HOO := Lib.hid hO
  clear hb hB hbl HO HB0 HG0 hO
  go_wp2_with fail
  refine HN1.out.mono ?_
  rintro e w2 ⟨rfl, hl, hc⟩
  obtain ⟨k, hk⟩ : ∃ k, k = (rnE (some B) 1).1 := ⟨_, rfl⟩
  obtain ⟨st1, hst1⟩ : ∃ st, st = (rnE (some B) 1).2 := ⟨_, rfl⟩
  rw [← hk]
  rw [← hst1] at hl
  rw [← hk, ← hst1] at HH0
  have HI1 := Lib.hid (show GI w (w2.alloc (.cells (msgC { msg0 with kind := k }) 27)) w1.heap.size w2.heap.size B st1 { msg0 with kind := k } from
    ⟨hl.over (S := fun _ => False) ((Oct.Chg.refl _ w2).alloc _) (fun k => k), Has.fresh w2 _ _, (has_got HR1.out hc (by have := HX1.out; omega)).past _, (chg_low HL1.out hc.to (by have := HX1.out; omega)).alloc (chg_low HL1.out hc.to (by have := HX1.out; omega)).size _, HX1.out, by have := hc.size; rw [World.size_alloc] at this; omega⟩)
  clear hl hc hk hst1 HN1 HR1 HL1 HE1
  have HN2 := Lib.hid (rnum_s w1.heap.size 1 B HBS.out st1 _ HI1.out.eye)
  obtain ⟨x, hx⟩ : ∃ x, x = w1.heap.size := ⟨_, rfl⟩
  rw [← hx] at HI1 HN2 HX1 ⊢
  clear hx
  go_wp2_with ((with_reducible refine Who.wpList_newC 27 7 (.tmp 18) rfl rfl rfl (msgC msg0) (msgC { msg0 with kind := k }) ?_); refine And.intro ⟨rfl, rfl, rfl, hal, by rfl, by rfl, info_size _, rfl, msgC_one _⟩ ?_; (try simp only [Act.put, List.setIfInBounds_toArray, List.set_cons_zero, List.set_cons_succ]); (try simp only [World.size_alloc]))
  refine HN2.out.mono ?_
  rintro e w3 ⟨rfl, hl, hc⟩
  obtain ⟨f, hf⟩ : ∃ z, z = (rnE st1 1).1 := ⟨_, rfl⟩
  obtain ⟨st2, hst⟩ : ∃ st, st = (rnE st1 1).2 := ⟨_, rfl⟩
  rw [← hf]
  rw [← hst] at hl
  have HH1 := Lib.hid (show getE B = hE2 k f st2 from HH0.out.trans (by rw [hst, hf]; rfl))
  have hgi := HI1.out.got hl hc
  obtain ⟨g1, hg1⟩ : ∃ g1, g1 = w2.heap.size := ⟨_, rfl⟩
  rw [← hg1] at hgi ⊢
  clear hg1
  have c2 := (Chg.refl (· = g1) w3).setCell (p := ⟨g1, 1, none⟩) (.inl rfl) (.int .i64 f)
  have HI2 := Lib.hid (hgi.put (m' := ({ msg0 with kind := k, fr := f } : MsgP)) (hgi.has.put 1 (.int .i64 f)) c2)
  have fz := hgi.has.free 1
  have fc : w3.cell? ⟨g1, 1, none⟩ = some (.int .i64 0) := hgi.has.at_ 1
  clear hl hc hf hst hgi c2
  have HN3 := Lib.hid (rnum_s x 1 B HBS.out st2 _ HI2.out.eye)
  go_wp2_with fail
  clear fz fc HI1 HH0
  refine HN3.out.mono ?_
  rintro e w4 ⟨rfl, hl, hc⟩
  obtain ⟨t, ht⟩ : ∃ z, z = (rnE st2 1).1 := ⟨_, rfl⟩
  obtain ⟨st3, hst⟩ : ∃ st, st = (rnE st2 1).2 := ⟨_, rfl⟩
  rw [← ht]
  rw [← hst] at hl
  have HH2 := Lib.hid (show getE B = hE3 k f t st3 from HH1.out.trans (by rw [hst, ht]; rfl))
  have hgi := HI2.out.got hl hc
  have c2 := (Chg.refl (· = g1) w4).setCell (p := ⟨g1, 2, none⟩) (.inl rfl) (.int .i64 t)
  have HI3 := Lib.hid (hgi.put (m' := ({ msg0 with kind := k, fr := f, to := t } : MsgP)) (hgi.has.put 2 (.int .i64 t)) c2)
  have fz := hgi.has.free 2
  have fc : w4.cell? ⟨g1, 2, none⟩ = some (.int .i64 0) := hgi.has.at_ 2
  clear hl hc ht hst hgi c2
  have HN4 := Lib.hid (rnum_s x 1 B HBS.out st3 _ HI3.out.eye)
  go_wp2_with fail
  clear fz fc HI2 HH1
  refine HN4.out.mono ?_
  rintro e w5 ⟨rfl, hl, hc⟩
  obtain ⟨v, hv⟩ : ∃ z, z = (rnE st3 1).1 := ⟨_, rfl⟩
  obtain ⟨st4, hst⟩ : ∃ st, st = (rnE st3 1).2 := ⟨_, rfl⟩
  rw [← hv]
  rw [← hst] at hl
  have HH3 := Lib.hid (show getE B = hE4 k f t v st4 from HH2.out.trans (by rw [hst, hv]; rfl))
  have hgi := HI3.out.got hl hc
  have c2 := (Chg.refl (· = g1) w5).setCell (p := ⟨g1, 3, none⟩) (.inl rfl) (.int .i64 v)
  have HI4 := Lib.hid (hgi.put (m' := hdM k f t v) (hgi.has.put 3 (.int .i64 v)) c2)
  have fz := hgi.has.free 3
  have fc : w5.cell? ⟨g1, 3, none⟩ = some (.int .i64 0) := hgi.has.at_ 3
  clear hl hc hv hst hgi c2
  have HN5 := Lib.hid (rsee_s x B HBS.out st4 _ HI4.out.eye)
  go_wp2_with fail
  clear fz fc HI3 HH2
  refine HN5.out.mono ?_
  rintro e w6 ⟨rfl, hl, hc⟩
  rw [← zF_vec]
  obtain ⟨z, hz⟩ : ∃ z, z = zF st4 := ⟨_, rfl⟩
  obtain ⟨st5, hst⟩ : ∃ st, st = (rvE st4).2 := ⟨_, rfl⟩
  rw [← hz]
  rw [← hst] at hl
  obtain ⟨m, hm⟩ : ∃ m, m = ({ hdM k f t v with seen := z } : MsgP) := ⟨_, rfl⟩
  have HZ5 := Lib.hid (show getE B = tE1 m st5 from HH3.out.trans (by rw [hm, hz, hst]; rfl))
  have HI5 := Lib.hid (HI4.out.got hl hc)
  have HMK := Lib.hid (show m.kind = k by rw [hm]; rfl)
  have HML := Lib.hid (show Lib.lay (msgC (hdM k f t v)) 10 (vecC z).toList = msgC m by rw [hm]; rfl)
  clear hl hc hz hst hm HI4 HH3 HN5
  by_cases q1 : k = 1
  · have HK := Lib.hid (show m.kind = 1 from HMK.out.trans q1)
    subst q1
    have HZ6 := Lib.hid (show getE B = tE2 { m with base := (rmE st5).1 } (rmE st5).2 from HZ5.out.trans (if_pos (.inl HK.out)))
    go_wp2_with (first | ((with_reducible refine wpList_storeM 25 (.tmp 30) (.tmp 29) rfl g1 10 27 (msgC (hdM 1 f t v)) (vecC z) (msgC m) ?_); refine And.intro ⟨rfl, by rfl, by rfl, vec_size _, vec_one _, of_decide_eq_true rfl, HML.out, HI5.out.has⟩ ?_; intro V5 HV5 HC5; have HI6 := Lib.hid (HI5.out.put HV5.out HC5.out); have kc : V5.cell? ⟨g1, 0, none⟩ = some (.int .i64 1) := HMK.out ▸ HI6.out.has.at_ 0; (try simp only [Act.put, List.setIfInBounds_toArray, List.set_cons_zero, List.set_cons_succ])))
    clear kc
    have HN6 := Lib.hid (rmark_s x _ HBS.out st5 _ HI6.out.eye)
    refine HN6.out.mono ?_
    rintro e u6 ⟨rfl, hl, hc⟩
    obtain ⟨b6, hb6⟩ : ∃ b, b = (rmE st5).1 := ⟨_, rfl⟩
    obtain ⟨st6, hst⟩ : ∃ st, st = (rmE st5).2 := ⟨_, rfl⟩
    rw [← hb6]
    rw [← hst] at hl
    obtain ⟨m6, hm6⟩ : ∃ m', m' = ({ m with base := b6 } : MsgP) := ⟨_, rfl⟩
    have HK6k := Lib.hid (show m6.kind = 1 by rw [hm6]; exact HK.out)
    have HZ7 := Lib.hid (show getE B = tE2 m6 st6 from HZ6.out.trans (by rw [hm6, hb6, hst]))
    have hgi := HI6.out.got hl hc
    have HLA := Lib.hid (show Lib.lay (msgC m) 4 (#[.int .i64 b6.1, .int .i64 b6.2] : Array Value).toList = msgC m6 by rw [hm6]; rfl)
    have HGI := Lib.hid hgi
    clear hl hc hst hb6 hm6 hgi HN6
    go_wp2_with (first | ((with_reducible refine wpList_storeM 23 (.tmp 41) (.tmp 40) rfl g1 4 27 (msgC m) (#[.int .i64 b6.1, .int .i64 b6.2]) (msgC m6) ?_); refine And.intro ⟨rfl, by rfl, by rfl, mark_size _ _, mark_one _ _, of_decide_eq_true rfl, HLA.out, HGI.out.has⟩ ?_; intro V6 HV6 HC6; have HI7 := Lib.hid (HGI.out.put HV6.out HC6.out); have kc : V6.cell? ⟨g1, 0, none⟩ = some (.int .i64 1) := HK6k.out ▸ HI7.out.has.at_ 0; (try simp only [Act.put, List.setIfInBounds_toArray, List.set_cons_zero, List.set_cons_succ])))
    clear kc
    have HN7 := Lib.hid (rmark_s x _ HBS.out st6 _ HI7.out.eye)
    refine HN7.out.mono ?_
    rintro e u7 ⟨rfl, hl, hc⟩
    obtain ⟨b7, hb7⟩ : ∃ b, b = (rmE st6).1 := ⟨_, rfl⟩
    obtain ⟨st7, hst⟩ : ∃ st, st = (rmE st6).2 := ⟨_, rfl⟩
    rw [← hb7]
    rw [← hst] at hl
    obtain ⟨m7, hm7⟩ : ∃ m', m' = ({ m6 with mark := b7 } : MsgP) := ⟨_, rfl⟩
    have HK7k := Lib.hid (show m7.kind = 1 by rw [hm7]; exact HK6k.out)
    have HZ8 := Lib.hid (show getE B = tE3 m7 st7 from HZ7.out.trans ((if_neg (by have := HK6k.out; omega)).trans (by rw [hm7, hb7, hst])))
    have hgi := HI7.out.got hl hc
    have HLA := Lib.hid (show Lib.lay (msgC m6) 6 (#[.int .i64 b7.1, .int .i64 b7.2] : Array Value).toList = msgC m7 by rw [hm7]; rfl)
    have HGI := Lib.hid hgi
    clear hl hc hst hb7 hm7 hgi HN7
    go_wp2_with (first | ((with_reducible refine wpList_storeM 23 (.tmp 57) (.tmp 56) rfl g1 6 27 (msgC m6) (#[.int .i64 b7.1, .int .i64 b7.2]) (msgC m7) ?_); refine And.intro ⟨rfl, by rfl, by rfl, mark_size _ _, mark_one _ _, of_decide_eq_true rfl, HLA.out, HGI.out.has⟩ ?_; intro V7 HV7 HC7; have HI8 := Lib.hid (HGI.out.put HV7.out HC7.out); have kc : V7.cell? ⟨g1, 0, none⟩ = some (.int .i64 1) := HK7k.out ▸ HI8.out.has.at_ 0; (try simp only [Act.put, List.setIfInBounds_toArray, List.set_cons_zero, List.set_cons_succ])))
    clear kc
    have HN8 := Lib.hid (rnum_s x 2 _ HBS.out st7 _ HI8.out.eye)
    refine HN8.out.mono ?_
    rintro e u8 ⟨rfl, hl, hc⟩
    obtain ⟨b8, hb8⟩ : ∃ b, b = (rnE st7 2).1 := ⟨_, rfl⟩
    obtain ⟨st8, hst⟩ : ∃ st, st = (rnE st7 2).2 := ⟨_, rfl⟩
    rw [← hb8]
    rw [← hst] at hl
    obtain ⟨m8, hm8⟩ : ∃ m', m' = ({ m7 with ix := b8 } : MsgP) := ⟨_, rfl⟩
    have HK8k := Lib.hid (show m8.kind = 1 by rw [hm8]; exact HK7k.out)
    have HZ9 := Lib.hid (show getE B = (m8, st8) from HZ8.out.trans (by show tE4 { m7 with ix := (rnE st7 2).1 } (rnE st7 2).2 = _; rw [← hb8, ← hst, ← hm8]; exact if_neg (by have := HK8k.out; omega)))
    have hgi := HI8.out.got hl hc
    have c2 := (Chg.refl (· = g1) u8).setCell (p := ⟨g1, 8, none⟩) (.inl rfl) (.int .i64 b8)
    have HI9 := Lib.hid (hgi.put (m' := m8) (by have k := hgi.has.put 8 (.int .i64 b8); rw [hm8]; exact k) c2)
    have fz := hgi.has.free 8
    have fc : u8.cell? ⟨g1, 8, none⟩ = some (.int .i64 m7.ix) := hgi.has.at_ 8
    have kc : (u8.setCell ⟨g1, 8, none⟩ (.int .i64 b8)).cell? ⟨g1, 0, none⟩ = some (.int .i64 1) := HK8k.out ▸ HI9.out.has.at_ 0
    clear hl hc hst hb8 hm8 hgi c2 HN8
    cases O with
    | false =>
      have HR := Lib.hid (get_shut HOO.out.symm)
      go_wp2_with (first | ((with_reducible refine wpList_storeM 27 (.tmp 2) (.tmp 90) rfl w.heap.size 0 27 (msgC msg0) (msgC msg0) (msgC msg0) ?_); refine And.intro ⟨rfl, by rfl, by rfl, info_size _, msgC_one _, of_decide_eq_true rfl, Who.lay_all _ _ rfl, HI9.out.res⟩ ?_; intro WZ HVZ HCZ; (try simp only [Act.put, List.setIfInBounds_toArray, List.set_cons_zero, List.set_cons_succ])))
      refine bodyPost_ret (v := .tuple #[.agg (msgC msg0), .int .i64 201]) (results_pair Tryd.results20 _ _ w.heap.size _ _ (by rfl) HVZ.out Tryd.underlying27 rfl (info_size _) (by rfl)) rfl ?_
      exact ⟨by rw [HR.out], chg_low HI9.out.below HCZ.out (Nat.le_refl _)⟩
    | true =>
      obtain rfl := HOB.out HOO.out.symm
      have HEN := Lib.hid (rend_s x _ st8 _ HI9.out.eye)
      go_wp2_with fail
      refine HEN.out.mono ?_
      rintro e y1 ⟨E, rfl, hE, hc⟩
      have l := HI9.out.ap
      have HRE := Lib.hid (has_got HI9.out.res hc (by omega))
      have HME := Lib.hid (has_got HI9.out.has hc (by omega))
      have HBE := Lib.hid (chg_low HI9.out.below hc.to (by omega))
      cases hen : endE st8 with
      | false =>
        have HR := Lib.hid (getE_no HZ9.out (.inl hen))
        rw [hen] at hE
        have hE2 : (E != 0) = true := hE
        have hE3 : ¬ E = 0 := by simpa using hE2
        have hE4 : (E == 0) = false := beq_eq_false_iff_ne.2 hE3
        clear hc hen hE l
        go_wp2_with (first | ((with_reducible refine wpList_storeM 27 (.tmp 2) (.tmp 90) rfl w.heap.size 0 27 (msgC msg0) (msgC msg0) (msgC msg0) ?_); refine And.intro ⟨rfl, by rfl, by rfl, info_size _, msgC_one _, of_decide_eq_true rfl, Who.lay_all _ _ rfl, HRE.out⟩ ?_; intro WZ HVZ HCZ; (try simp only [Act.put, List.setIfInBounds_toArray, List.set_cons_zero, List.set_cons_succ])))
        refine bodyPost_ret (v := .tuple #[.agg (msgC msg0), .int .i64 201]) (results_pair Tryd.results20 _ _ w.heap.size _ _ (by rfl) HVZ.out Tryd.underlying27 rfl (info_size _) (by rfl)) rfl ?_
        exact ⟨by rw [HR.out], chg_low HBE.out HCZ.out (Nat.le_refl _)⟩
      | true =>
        rw [hen] at hE
        have hE2 : (E != 0) = false := hE
        obtain rfl : E = 0 := by simpa using hE2
        have HEY := Lib.hid hen
        have HC2 := Lib.hid (HCK.out m8 y1)
        clear hc hen hE hE2 l
        go_wp2_with ((with_reducible refine Who.wpList_loadC 27 (.tmp 7) rfl g1 0 (msgC m8) ?_); refine And.intro ⟨by rfl, by rfl, ⟨_, Tryd.underlying27, rfl⟩, info_size _⟩ (And.intro (Who.has_range HME.out) ?_); (try simp only [Act.put, List.setIfInBounds_toArray, List.set_cons_zero, List.set_cons_succ]))
        refine HC2.out.mono ?_
        rintro e y2 ⟨rfl, hb⟩
        have HR2 := Lib.hid (HRE.out.below hb)
        have HM2 := Lib.hid (HME.out.below hb)
        have HB2 := Lib.hid (HBE.out.trans (hb.mono HBE.out.size))
        clear hb
        by_cases hok : OkM m8
        · have HR := Lib.hid (getE_yes HOO.out.symm HZ9.out HEY.out hok)
          rw [err_yes hok]
          clear hok
          go_wp2_with (first | ((with_reducible refine wpList_storeM 27 (.tmp 2) (.tmp 91) rfl w.heap.size 0 27 (msgC msg0) (msgC m8) (msgC m8) ?_); refine And.intro ⟨rfl, by rfl, by rfl, info_size _, msgC_one _, of_decide_eq_true rfl, Who.lay_all _ _ rfl, HR2.out⟩ ?_; intro WZ HVZ HCZ; (try simp only [Act.put, List.setIfInBounds_toArray, List.set_cons_zero, List.set_cons_succ])) | ((with_reducible refine Who.wpList_loadC 27 (.tmp 7) rfl g1 0 (msgC m8) ?_); refine And.intro ⟨by rfl, by rfl, ⟨_, Tryd.underlying27, rfl⟩, info_size _⟩ (And.intro (Who.has_range HM2.out) ?_); (try simp only [Act.put, List.setIfInBounds_toArray, List.set_cons_zero, List.set_cons_succ])))
          refine bodyPost_ret (v := .tuple #[.agg (msgC m8), .int .i64 0]) (results_pair Tryd.results20 _ _ w.heap.size _ _ (by rfl) HVZ.out Tryd.underlying27 rfl (info_size _) (by rfl)) rfl ?_
          exact ⟨by rw [HR.out], chg_low HB2.out HCZ.out (Nat.le_refl _)⟩
        · have HR := Lib.hid (getE_no HZ9.out (.inr hok))
          rw [err_no hok]
          clear hok
          go_wp2_with (first | ((with_reducible refine wpList_storeM 27 (.tmp 2) (.tmp 90) rfl w.heap.size 0 27 (msgC msg0) (msgC msg0) (msgC msg0) ?_); refine And.intro ⟨rfl, by rfl, by rfl, info_size _, msgC_one _, of_decide_eq_true rfl, Who.lay_all _ _ rfl, HR2.out⟩ ?_; intro WZ HVZ HCZ; (try simp only [Act.put, List.setIfInBounds_toArray, List.set_cons_zero, List.set_cons_succ])))
          refine bodyPost_ret (v := .tuple #[.agg (msgC msg0), .int .i64 201]) (results_pair Tryd.results20 _ _ w.heap.size _ _ (by rfl) HVZ.out Tryd.underlying27 rfl (info_size _) (by rfl)) rfl ?_
          exact ⟨by rw [HR.out], chg_low HB2.out HCZ.out (Nat.le_refl _)⟩
  by_cases q2 : k = 2
  · have HK := Lib.hid (show m.kind = 2 from HMK.out.trans q2)
    subst q2
    have HZ6 := Lib.hid (show getE B = tE2 { m with base := (rmE st5).1 } (rmE st5).2 from HZ5.out.trans (if_pos (.inr HK.out)))
    go_wp2_with (first | ((with_reducible refine wpList_storeM 25 (.tmp 30) (.tmp 29) rfl g1 10 27 (msgC (hdM 2 f t v)) (vecC z) (msgC m) ?_); refine And.intro ⟨rfl, by rfl, by rfl, vec_size _, vec_one _, of_decide_eq_true rfl, HML.out, HI5.out.has⟩ ?_; intro V5 HV5 HC5; have HI6 := Lib.hid (HI5.out.put HV5.out HC5.out); have kc : V5.cell? ⟨g1, 0, none⟩ = some (.int .i64 2) := HMK.out ▸ HI6.out.has.at_ 0; (try simp only [Act.put, List.setIfInBounds_toArray, List.set_cons_zero, List.set_cons_succ])))
    clear kc
    have HN6 := Lib.hid (rmark_s x _ HBS.out st5 _ HI6.out.eye)
    refine HN6.out.mono ?_
    rintro e u6 ⟨rfl, hl, hc⟩
    obtain ⟨b6, hb6⟩ : ∃ b, b = (rmE st5).1 := ⟨_, rfl⟩
    obtain ⟨st6, hst⟩ : ∃ st, st = (rmE st5).2 := ⟨_, rfl⟩
    rw [← hb6]
    rw [← hst] at hl
    obtain ⟨m6, hm6⟩ : ∃ m', m' = ({ m with base := b6 } : MsgP) := ⟨_, rfl⟩
    have HK6k := Lib.hid (show m6.kind = 2 by rw [hm6]; exact HK.out)
    have HZ7 := Lib.hid (show getE B = tE2 m6 st6 from HZ6.out.trans (by rw [hm6, hb6, hst]))
    have hgi := HI6.out.got hl hc
    have HLA := Lib.hid (show Lib.lay (msgC m) 4 (#[.int .i64 b6.1, .int .i64 b6.2] : Array Value).toList = msgC m6 by rw [hm6]; rfl)
    have HGI := Lib.hid hgi
    clear hl hc hst hb6 hm6 hgi HN6
    go_wp2_with (first | ((with_reducible refine wpList_storeM 23 (.tmp 41) (.tmp 40) rfl g1 4 27 (msgC m) (#[.int .i64 b6.1, .int .i64 b6.2]) (msgC m6) ?_); refine And.intro ⟨rfl, by rfl, by rfl, mark_size _ _, mark_one _ _, of_decide_eq_true rfl, HLA.out, HGI.out.has⟩ ?_; intro V6 HV6 HC6; have HI7 := Lib.hid (HGI.out.put HV6.out HC6.out); have kc : V6.cell? ⟨g1, 0, none⟩ = some (.int .i64 2) := HK6k.out ▸ HI7.out.has.at_ 0; (try simp only [Act.put, List.setIfInBounds_toArray, List.set_cons_zero, List.set_cons_succ])))
    clear kc
    have HN7 := Lib.hid (rmark_s x _ HBS.out st6 _ HI7.out.eye)
    refine HN7.out.mono ?_
    rintro e u7 ⟨rfl, hl, hc⟩
    obtain ⟨b7, hb7⟩ : ∃ b, b = (rmE st6).1 := ⟨_, rfl⟩
    obtain ⟨st7, hst⟩ : ∃ st, st = (rmE st6).2 := ⟨_, rfl⟩
    rw [← hb7]
    rw [← hst] at hl
    obtain ⟨m7, hm7⟩ : ∃ m', m' = ({ m6 with mark := b7 } : MsgP) := ⟨_, rfl⟩
    have HK7k := Lib.hid (show m7.kind = 2 by rw [hm7]; exact HK6k.out)
    have HZ8 := Lib.hid (show getE B = tE3 m7 st7 from HZ7.out.trans ((if_neg (by have := HK6k.out; omega)).trans (by rw [hm7, hb7, hst])))
    have hgi := HI7.out.got hl hc
    have HLA := Lib.hid (show Lib.lay (msgC m6) 6 (#[.int .i64 b7.1, .int .i64 b7.2] : Array Value).toList = msgC m7 by rw [hm7]; rfl)
    have HGI := Lib.hid hgi
    clear hl hc hst hb7 hm7 hgi HN7
    go_wp2_with (first | ((with_reducible refine wpList_storeM 23 (.tmp 57) (.tmp 56) rfl g1 6 27 (msgC m6) (#[.int .i64 b7.1, .int .i64 b7.2]) (msgC m7) ?_); refine And.intro ⟨rfl, by rfl, by rfl, mark_size _ _, mark_one _ _, of_decide_eq_true rfl, HLA.out, HGI.out.has⟩ ?_; intro V7 HV7 HC7; have HI8 := Lib.hid (HGI.out.put HV7.out HC7.out); have kc : V7.cell? ⟨g1, 0, none⟩ = some (.int .i64 2) := HK7k.out ▸ HI8.out.has.at_ 0; (try simp only [Act.put, List.setIfInBounds_toArray, List.set_cons_zero, List.set_cons_succ])))
    clear kc
    have HN8 := Lib.hid (rnum_s x 2 _ HBS.out st7 _ HI8.out.eye)
    refine HN8.out.mono ?_
    rintro e u8 ⟨rfl, hl, hc⟩
    obtain ⟨b8, hb8⟩ : ∃ b, b = (rnE st7 2).1 := ⟨_, rfl⟩
    obtain ⟨st8, hst⟩ : ∃ st, st = (rnE st7 2).2 := ⟨_, rfl⟩
    rw [← hb8]
    rw [← hst] at hl
    obtain ⟨m8, hm8⟩ : ∃ m', m' = ({ m7 with ix := b8 } : MsgP) := ⟨_, rfl⟩
    have HK8k := Lib.hid (show m8.kind = 2 by rw [hm8]; exact HK7k.out)
    have HZ9 := Lib.hid (show getE B = tE5 { m8 with tot := (rnE st8 2).1 } (rnE st8 2).2 from HZ8.out.trans (by show tE4 { m7 with ix := (rnE st7 2).1 } (rnE st7 2).2 = _; rw [← hb8, ← hst, ← hm8]; exact if_pos HK8k.out))
    have hgi := HI8.out.got hl hc
    have c2 := (Chg.refl (· = g1) u8).setCell (p := ⟨g1, 8, none⟩) (.inl rfl) (.int .i64 b8)
    have HI9 := Lib.hid (hgi.put (m' := m8) (by have k := hgi.has.put 8 (.int .i64 b8); rw [hm8]; exact k) c2)
    have fz := hgi.has.free 8
    have fc : u8.cell? ⟨g1, 8, none⟩ = some (.int .i64 m7.ix) := hgi.has.at_ 8
    have kc : (u8.setCell ⟨g1, 8, none⟩ (.int .i64 b8)).cell? ⟨g1, 0, none⟩ = some (.int .i64 2) := HK8k.out ▸ HI9.out.has.at_ 0
    clear hl hc hst hb8 hm8 hgi c2 HN8
    go_wp2_with fail
    clear kc
    have HN9 := Lib.hid (rnum_s x 2 _ HBS.out st8 _ HI9.out.eye)
    refine HN9.out.mono ?_
    rintro e u9 ⟨rfl, hl, hc⟩
    obtain ⟨b9, hb9⟩ : ∃ b, b = (rnE st8 2).1 := ⟨_, rfl⟩
    obtain ⟨st9, hst⟩ : ∃ st, st = (rnE st8 2).2 := ⟨_, rfl⟩
    rw [← hb9]
    rw [← hst] at hl
    obtain ⟨m9, hm9⟩ : ∃ m', m' = ({ m8 with tot := b9 } : MsgP) := ⟨_, rfl⟩
    have HK9k := Lib.hid (show m9.kind = 2 by rw [hm9]; exact HK8k.out)
    have HZ10 := Lib.hid (show getE B = tE5 m9 st9 from HZ9.out.trans (by rw [hm9, hb9, hst]))
    have hgi := HI9.out.got hl hc
    have c2 := (Chg.refl (· = g1) u9).setCell (p := ⟨g1, 9, none⟩) (.inl rfl) (.int .i64 b9)
    have HI10 := Lib.hid (hgi.put (m' := m9) (by have k := hgi.has.put 9 (.int .i64 b9); rw [hm9]; exact k) c2)
    have fz := hgi.has.free 9
    have fc : u9.cell? ⟨g1, 9, none⟩ = some (.int .i64 m8.tot) := hgi.has.at_ 9
    have kc : (u9.setCell ⟨g1, 9, none⟩ (.int .i64 b9)).cell? ⟨g1, 0, none⟩ = some (.int .i64 2) := HK9k.out ▸ HI10.out.has.at_ 0
    clear hl hc hst hb9 hm9 hgi c2 HN9
    go_wp2_with fail
    clear kc
    have HN10 := Lib.hid (rtext_s x 512 (by decide) _ HBS.out st9 _ HI10.out.eye)
    refine HN10.out.mono ?_
    rintro e u10 ⟨rfl, hl, hc⟩
    obtain ⟨b10, hb10⟩ : ∃ b, b = (rtE st9 512).1 := ⟨_, rfl⟩
    obtain ⟨st10, hst⟩ : ∃ st, st = (rtE st9 512).2 := ⟨_, rfl⟩
    rw [← hb10]
    rw [← hst] at hl
    obtain ⟨m10, hm10⟩ : ∃ m', m' = ({ m9 with data := b10 } : MsgP) := ⟨_, rfl⟩
    have HK10k := Lib.hid (show m10.kind = 2 by rw [hm10]; exact HK9k.out)
    have HZ11 := Lib.hid (show getE B = (m10, st10) from HZ10.out.trans (by show ({ m9 with data := (rtE st9 512).1 }, (rtE st9 512).2) = _; rw [hm10, hb10, hst]))
    have hgi := HI10.out.got hl hc
    have c2 := (Chg.refl (· = g1) u10).setCell (p := ⟨g1, 18, none⟩) (.inl rfl) (.string b10)
    have HI11 := Lib.hid (hgi.put (m' := m10) (by have k := hgi.has.put 18 (.string b10); rw [hm10]; exact k) c2)
    have fz := hgi.has.free 18
    have fc : u10.cell? ⟨g1, 18, none⟩ = some (.string m9.data) := hgi.has.at_ 18
    have kc : (u10.setCell ⟨g1, 18, none⟩ (.string b10)).cell? ⟨g1, 0, none⟩ = some (.int .i64 2) := HK10k.out ▸ HI11.out.has.at_ 0
    clear hl hc hst hb10 hm10 hgi c2 HN10
    cases O with
    | false =>
      have HR := Lib.hid (get_shut HOO.out.symm)
      go_wp2_with (first | ((with_reducible refine wpList_storeM 27 (.tmp 2) (.tmp 90) rfl w.heap.size 0 27 (msgC msg0) (msgC msg0) (msgC msg0) ?_); refine And.intro ⟨rfl, by rfl, by rfl, info_size _, msgC_one _, of_decide_eq_true rfl, Who.lay_all _ _ rfl, HI11.out.res⟩ ?_; intro WZ HVZ HCZ; (try simp only [Act.put, List.setIfInBounds_toArray, List.set_cons_zero, List.set_cons_succ])))
      refine bodyPost_ret (v := .tuple #[.agg (msgC msg0), .int .i64 201]) (results_pair Tryd.results20 _ _ w.heap.size _ _ (by rfl) HVZ.out Tryd.underlying27 rfl (info_size _) (by rfl)) rfl ?_
      exact ⟨by rw [HR.out], chg_low HI11.out.below HCZ.out (Nat.le_refl _)⟩
    | true =>
      obtain rfl := HOB.out HOO.out.symm
      have HEN := Lib.hid (rend_s x _ st10 _ HI11.out.eye)
      go_wp2_with fail
      refine HEN.out.mono ?_
      rintro e y1 ⟨E, rfl, hE, hc⟩
      have l := HI11.out.ap
      have HRE := Lib.hid (has_got HI11.out.res hc (by omega))
      have HME := Lib.hid (has_got HI11.out.has hc (by omega))
      have HBE := Lib.hid (chg_low HI11.out.below hc.to (by omega))
      cases hen : endE st10 with
      | false =>
        have HR := Lib.hid (getE_no HZ11.out (.inl hen))
        rw [hen] at hE
        have hE2 : (E != 0) = true := hE
        have hE3 : ¬ E = 0 := by simpa using hE2
        have hE4 : (E == 0) = false := beq_eq_false_iff_ne.2 hE3
        clear hc hen hE l
        go_wp2_with (first | ((with_reducible refine wpList_storeM 27 (.tmp 2) (.tmp 90) rfl w.heap.size 0 27 (msgC msg0) (msgC msg0) (msgC msg0) ?_); refine And.intro ⟨rfl, by rfl, by rfl, info_size _, msgC_one _, of_decide_eq_true rfl, Who.lay_all _ _ rfl, HRE.out⟩ ?_; intro WZ HVZ HCZ; (try simp only [Act.put, List.setIfInBounds_toArray, List.set_cons_zero, List.set_cons_succ])))
        refine bodyPost_ret (v := .tuple #[.agg (msgC msg0), .int .i64 201]) (results_pair Tryd.results20 _ _ w.heap.size _ _ (by rfl) HVZ.out Tryd.underlying27 rfl (info_size _) (by rfl)) rfl ?_
        exact ⟨by rw [HR.out], chg_low HBE.out HCZ.out (Nat.le_refl _)⟩
      | true =>
        rw [hen] at hE
        have hE2 : (E != 0) = false := hE
        obtain rfl : E = 0 := by simpa using hE2
        have HEY := Lib.hid hen
        have HC2 := Lib.hid (HCK.out m10 y1)
        clear hc hen hE hE2 l
        go_wp2_with ((with_reducible refine Who.wpList_loadC 27 (.tmp 7) rfl g1 0 (msgC m10) ?_); refine And.intro ⟨by rfl, by rfl, ⟨_, Tryd.underlying27, rfl⟩, info_size _⟩ (And.intro (Who.has_range HME.out) ?_); (try simp only [Act.put, List.setIfInBounds_toArray, List.set_cons_zero, List.set_cons_succ]))
        refine HC2.out.mono ?_
        rintro e y2 ⟨rfl, hb⟩
        have HR2 := Lib.hid (HRE.out.below hb)
        have HM2 := Lib.hid (HME.out.below hb)
        have HB2 := Lib.hid (HBE.out.trans (hb.mono HBE.out.size))
        clear hb
        by_cases hok : OkM m10
        · have HR := Lib.hid (getE_yes HOO.out.symm HZ11.out HEY.out hok)
          rw [err_yes hok]
          clear hok
          go_wp2_with (first | ((with_reducible refine wpList_storeM 27 (.tmp 2) (.tmp 91) rfl w.heap.size 0 27 (msgC msg0) (msgC m10) (msgC m10) ?_); refine And.intro ⟨rfl, by rfl, by rfl, info_size _, msgC_one _, of_decide_eq_true rfl, Who.lay_all _ _ rfl, HR2.out⟩ ?_; intro WZ HVZ HCZ; (try simp only [Act.put, List.setIfInBounds_toArray, List.set_cons_zero, List.set_cons_succ])) | ((with_reducible refine Who.wpList_loadC 27 (.tmp 7) rfl g1 0 (msgC m10) ?_); refine And.intro ⟨by rfl, by rfl, ⟨_, Tryd.underlying27, rfl⟩, info_size _⟩ (And.intro (Who.has_range HM2.out) ?_); (try simp only [Act.put, List.setIfInBounds_toArray, List.set_cons_zero, List.set_cons_succ])))
          refine bodyPost_ret (v := .tuple #[.agg (msgC m10), .int .i64 0]) (results_pair Tryd.results20 _ _ w.heap.size _ _ (by rfl) HVZ.out Tryd.underlying27 rfl (info_size _) (by rfl)) rfl ?_
          exact ⟨by rw [HR.out], chg_low HB2.out HCZ.out (Nat.le_refl _)⟩
        · have HR := Lib.hid (getE_no HZ11.out (.inr hok))
          rw [err_no hok]
          clear hok
          go_wp2_with (first | ((with_reducible refine wpList_storeM 27 (.tmp 2) (.tmp 90) rfl w.heap.size 0 27 (msgC msg0) (msgC msg0) (msgC msg0) ?_); refine And.intro ⟨rfl, by rfl, by rfl, info_size _, msgC_one _, of_decide_eq_true rfl, Who.lay_all _ _ rfl, HR2.out⟩ ?_; intro WZ HVZ HCZ; (try simp only [Act.put, List.setIfInBounds_toArray, List.set_cons_zero, List.set_cons_succ])))
          refine bodyPost_ret (v := .tuple #[.agg (msgC msg0), .int .i64 201]) (results_pair Tryd.results20 _ _ w.heap.size _ _ (by rfl) HVZ.out Tryd.underlying27 rfl (info_size _) (by rfl)) rfl ?_
          exact ⟨by rw [HR.out], chg_low HB2.out HCZ.out (Nat.le_refl _)⟩
  by_cases q4 : k = 4
  · have HK := Lib.hid (show m.kind = 4 from HMK.out.trans q4)
    subst q4
    have HZ6 := Lib.hid (show getE B = ({ m with mark := (rmE st5).1 }, (rmE st5).2) from HZ5.out.trans ((if_neg (by have := HK.out; omega)).trans ((if_pos HK.out).trans (if_pos HK.out))))
    go_wp2_with (first | ((with_reducible refine wpList_storeM 25 (.tmp 30) (.tmp 29) rfl g1 10 27 (msgC (hdM 4 f t v)) (vecC z) (msgC m) ?_); refine And.intro ⟨rfl, by rfl, by rfl, vec_size _, vec_one _, of_decide_eq_true rfl, HML.out, HI5.out.has⟩ ?_; intro V5 HV5 HC5; have HI6 := Lib.hid (HI5.out.put HV5.out HC5.out); have kc : V5.cell? ⟨g1, 0, none⟩ = some (.int .i64 4) := HMK.out ▸ HI6.out.has.at_ 0; (try simp only [Act.put, List.setIfInBounds_toArray, List.set_cons_zero, List.set_cons_succ])))
    clear kc
    have HN6 := Lib.hid (rmark_s x _ HBS.out st5 _ HI6.out.eye)
    refine HN6.out.mono ?_
    rintro e u6 ⟨rfl, hl, hc⟩
    obtain ⟨b6, hb6⟩ : ∃ b, b = (rmE st5).1 := ⟨_, rfl⟩
    obtain ⟨st6, hst⟩ : ∃ st, st = (rmE st5).2 := ⟨_, rfl⟩
    rw [← hb6]
    rw [← hst] at hl
    obtain ⟨m6, hm6⟩ : ∃ m', m' = ({ m with mark := b6 } : MsgP) := ⟨_, rfl⟩
    have HK6k := Lib.hid (show m6.kind = 4 by rw [hm6]; exact HK.out)
    have HZ7 := Lib.hid (show getE B = (m6, st6) from HZ6.out.trans (by rw [hm6, hb6, hst]))
    have hgi := HI6.out.got hl hc
    have HLA := Lib.hid (show Lib.lay (msgC m) 6 (#[.int .i64 b6.1, .int .i64 b6.2] : Array Value).toList = msgC m6 by rw [hm6]; rfl)
    have HGI := Lib.hid hgi
    clear hl hc hst hb6 hm6 hgi HN6
    cases O with
    | false =>
      have HR := Lib.hid (get_shut HOO.out.symm)
      go_wp2_with (first | ((with_reducible refine wpList_storeM 23 (.tmp 57) (.tmp 56) rfl g1 6 27 (msgC m) (#[.int .i64 b6.1, .int .i64 b6.2]) (msgC m6) ?_); refine And.intro ⟨rfl, by rfl, by rfl, mark_size _ _, mark_one _ _, of_decide_eq_true rfl, HLA.out, HGI.out.has⟩ ?_; intro V6 HV6 HC6; have HI7 := Lib.hid (HGI.out.put HV6.out HC6.out); have kc : V6.cell? ⟨g1, 0, none⟩ = some (.int .i64 4) := HK6k.out ▸ HI7.out.has.at_ 0; (try simp only [Act.put, List.setIfInBounds_toArray, List.set_cons_zero, List.set_cons_succ])) | ((with_reducible refine wpList_storeM 27 (.tmp 2) (.tmp 90) rfl w.heap.size 0 27 (msgC msg0) (msgC msg0) (msgC msg0) ?_); refine And.intro ⟨rfl, by rfl, by rfl, info_size _, msgC_one _, of_decide_eq_true rfl, Who.lay_all _ _ rfl, HI7.out.res⟩ ?_; intro WZ HVZ HCZ; (try simp only [Act.put, List.setIfInBounds_toArray, List.set_cons_zero, List.set_cons_succ])))
      refine bodyPost_ret (v := .tuple #[.agg (msgC msg0), .int .i64 201]) (results_pair Tryd.results20 _ _ w.heap.size _ _ (by rfl) HVZ.out Tryd.underlying27 rfl (info_size _) (by rfl)) rfl ?_
      exact ⟨by rw [HR.out], chg_low HI7.out.below HCZ.out (Nat.le_refl _)⟩
    | true =>
      obtain rfl := HOB.out HOO.out.symm
      go_wp2_with ((with_reducible refine wpList_storeM 23 (.tmp 57) (.tmp 56) rfl g1 6 27 (msgC m) (#[.int .i64 b6.1, .int .i64 b6.2]) (msgC m6) ?_); refine And.intro ⟨rfl, by rfl, by rfl, mark_size _ _, mark_one _ _, of_decide_eq_true rfl, HLA.out, HGI.out.has⟩ ?_; intro V6 HV6 HC6; have HI7 := Lib.hid (HGI.out.put HV6.out HC6.out); have kc : V6.cell? ⟨g1, 0, none⟩ = some (.int .i64 4) := HK6k.out ▸ HI7.out.has.at_ 0; (try simp only [Act.put, List.setIfInBounds_toArray, List.set_cons_zero, List.set_cons_succ]))
      have HEN := Lib.hid (rend_s x _ st6 _ HI7.out.eye)
      refine HEN.out.mono ?_
      rintro e y1 ⟨E, rfl, hE, hc⟩
      have l := HI7.out.ap
      have HRE := Lib.hid (has_got HI7.out.res hc (by omega))
      have HME := Lib.hid (has_got HI7.out.has hc (by omega))
      have HBE := Lib.hid (chg_low HI7.out.below hc.to (by omega))
      cases hen : endE st6 with
      | false =>
        have HR := Lib.hid (getE_no HZ7.out (.inl hen))
        rw [hen] at hE
        have hE2 : (E != 0) = true := hE
        have hE3 : ¬ E = 0 := by simpa using hE2
        have hE4 : (E == 0) = false := beq_eq_false_iff_ne.2 hE3
        clear hc hen hE l
        go_wp2_with (first | ((with_reducible refine wpList_storeM 27 (.tmp 2) (.tmp 90) rfl w.heap.size 0 27 (msgC msg0) (msgC msg0) (msgC msg0) ?_); refine And.intro ⟨rfl, by rfl, by rfl, info_size _, msgC_one _, of_decide_eq_true rfl, Who.lay_all _ _ rfl, HRE.out⟩ ?_; intro WZ HVZ HCZ; (try simp only [Act.put, List.setIfInBounds_toArray, List.set_cons_zero, List.set_cons_succ])))
        refine bodyPost_ret (v := .tuple #[.agg (msgC msg0), .int .i64 201]) (results_pair Tryd.results20 _ _ w.heap.size _ _ (by rfl) HVZ.out Tryd.underlying27 rfl (info_size _) (by rfl)) rfl ?_
        exact ⟨by rw [HR.out], chg_low HBE.out HCZ.out (Nat.le_refl _)⟩
      | true =>
        rw [hen] at hE
        have hE2 : (E != 0) = false := hE
        obtain rfl : E = 0 := by simpa using hE2
        have HEY := Lib.hid hen
        have HC2 := Lib.hid (HCK.out m6 y1)
        clear hc hen hE hE2 l
        go_wp2_with ((with_reducible refine Who.wpList_loadC 27 (.tmp 7) rfl g1 0 (msgC m6) ?_); refine And.intro ⟨by rfl, by rfl, ⟨_, Tryd.underlying27, rfl⟩, info_size _⟩ (And.intro (Who.has_range HME.out) ?_); (try simp only [Act.put, List.setIfInBounds_toArray, List.set_cons_zero, List.set_cons_succ]))
        refine HC2.out.mono ?_
        rintro e y2 ⟨rfl, hb⟩
        have HR2 := Lib.hid (HRE.out.below hb)
        have HM2 := Lib.hid (HME.out.below hb)
        have HB2 := Lib.hid (HBE.out.trans (hb.mono HBE.out.size))
        clear hb
        by_cases hok : OkM m6
        · have HR := Lib.hid (getE_yes HOO.out.symm HZ7.out HEY.out hok)
          rw [err_yes hok]
          clear hok
          go_wp2_with (first | ((with_reducible refine wpList_storeM 27 (.tmp 2) (.tmp 91) rfl w.heap.size 0 27 (msgC msg0) (msgC m6) (msgC m6) ?_); refine And.intro ⟨rfl, by rfl, by rfl, info_size _, msgC_one _, of_decide_eq_true rfl, Who.lay_all _ _ rfl, HR2.out⟩ ?_; intro WZ HVZ HCZ; (try simp only [Act.put, List.setIfInBounds_toArray, List.set_cons_zero, List.set_cons_succ])) | ((with_reducible refine Who.wpList_loadC 27 (.tmp 7) rfl g1 0 (msgC m6) ?_); refine And.intro ⟨by rfl, by rfl, ⟨_, Tryd.underlying27, rfl⟩, info_size _⟩ (And.intro (Who.has_range HM2.out) ?_); (try simp only [Act.put, List.setIfInBounds_toArray, List.set_cons_zero, List.set_cons_succ])))
          refine bodyPost_ret (v := .tuple #[.agg (msgC m6), .int .i64 0]) (results_pair Tryd.results20 _ _ w.heap.size _ _ (by rfl) HVZ.out Tryd.underlying27 rfl (info_size _) (by rfl)) rfl ?_
          exact ⟨by rw [HR.out], chg_low HB2.out HCZ.out (Nat.le_refl _)⟩
        · have HR := Lib.hid (getE_no HZ7.out (.inr hok))
          rw [err_no hok]
          clear hok
          go_wp2_with (first | ((with_reducible refine wpList_storeM 27 (.tmp 2) (.tmp 90) rfl w.heap.size 0 27 (msgC msg0) (msgC msg0) (msgC msg0) ?_); refine And.intro ⟨rfl, by rfl, by rfl, info_size _, msgC_one _, of_decide_eq_true rfl, Who.lay_all _ _ rfl, HR2.out⟩ ?_; intro WZ HVZ HCZ; (try simp only [Act.put, List.setIfInBounds_toArray, List.set_cons_zero, List.set_cons_succ])))
          refine bodyPost_ret (v := .tuple #[.agg (msgC msg0), .int .i64 201]) (results_pair Tryd.results20 _ _ w.heap.size _ _ (by rfl) HVZ.out Tryd.underlying27 rfl (info_size _) (by rfl)) rfl ?_
          exact ⟨by rw [HR.out], chg_low HB2.out HCZ.out (Nat.le_refl _)⟩
  have HK := Lib.hid (show (¬ (m.kind = 1 ∨ m.kind = 2)) ∧ ¬ m.kind = 4 from ⟨fun e => e.elim (fun e => q1 (HMK.out.symm.trans e)) (fun e => q2 (HMK.out.symm.trans e)), fun e => q4 (HMK.out.symm.trans e)⟩)
  have t1 : (k == 1) = false := beq_eq_false_iff_ne.2 q1
  have t2 : (k == 2) = false := beq_eq_false_iff_ne.2 q2
  have t4 : (k == 4) = false := beq_eq_false_iff_ne.2 q4
  have HZ6 := Lib.hid (show getE B = (m, st5) from HZ5.out.trans ((if_neg HK.out.1).trans (if_neg HK.out.2)))
  skip
  cases O with
  | false =>
    have HR := Lib.hid (get_shut HOO.out.symm)
    go_wp2_with (first | ((with_reducible refine wpList_storeM 25 (.tmp 30) (.tmp 29) rfl g1 10 27 (msgC (hdM k f t v)) (vecC z) (msgC m) ?_); refine And.intro ⟨rfl, by rfl, by rfl, vec_size _, vec_one _, of_decide_eq_true rfl, HML.out, HI5.out.has⟩ ?_; intro V5 HV5 HC5; have HI6 := Lib.hid (HI5.out.put HV5.out HC5.out); have kc : V5.cell? ⟨g1, 0, none⟩ = some (.int .i64 k) := HMK.out ▸ HI6.out.has.at_ 0; (try simp only [Act.put, List.setIfInBounds_toArray, List.set_cons_zero, List.set_cons_succ])) | ((with_reducible refine wpList_storeM 27 (.tmp 2) (.tmp 90) rfl w.heap.size 0 27 (msgC msg0) (msgC msg0) (msgC msg0) ?_); refine And.intro ⟨rfl, by rfl, by rfl, info_size _, msgC_one _, of_decide_eq_true rfl, Who.lay_all _ _ rfl, HI6.out.res⟩ ?_; intro WZ HVZ HCZ; (try simp only [Act.put, List.setIfInBounds_toArray, List.set_cons_zero, List.set_cons_succ])))
    refine bodyPost_ret (v := .tuple #[.agg (msgC msg0), .int .i64 201]) (results_pair Tryd.results20 _ _ w.heap.size _ _ (by rfl) HVZ.out Tryd.underlying27 rfl (info_size _) (by rfl)) rfl ?_
    exact ⟨by rw [HR.out], chg_low HI6.out.below HCZ.out (Nat.le_refl _)⟩
  | true =>
    obtain rfl := HOB.out HOO.out.symm
    go_wp2_with ((with_reducible refine wpList_storeM 25 (.tmp 30) (.tmp 29) rfl g1 10 27 (msgC (hdM k f t v)) (vecC z) (msgC m) ?_); refine And.intro ⟨rfl, by rfl, by rfl, vec_size _, vec_one _, of_decide_eq_true rfl, HML.out, HI5.out.has⟩ ?_; intro V5 HV5 HC5; have HI6 := Lib.hid (HI5.out.put HV5.out HC5.out); have kc : V5.cell? ⟨g1, 0, none⟩ = some (.int .i64 k) := HMK.out ▸ HI6.out.has.at_ 0; (try simp only [Act.put, List.setIfInBounds_toArray, List.set_cons_zero, List.set_cons_succ]))
    have HEN := Lib.hid (rend_s x _ st5 _ HI6.out.eye)
    refine HEN.out.mono ?_
    rintro e y1 ⟨E, rfl, hE, hc⟩
    have l := HI6.out.ap
    have HRE := Lib.hid (has_got HI6.out.res hc (by omega))
    have HME := Lib.hid (has_got HI6.out.has hc (by omega))
    have HBE := Lib.hid (chg_low HI6.out.below hc.to (by omega))
    cases hen : endE st5 with
    | false =>
      have HR := Lib.hid (getE_no HZ6.out (.inl hen))
      rw [hen] at hE
      have hE2 : (E != 0) = true := hE
      have hE3 : ¬ E = 0 := by simpa using hE2
      have hE4 : (E == 0) = false := beq_eq_false_iff_ne.2 hE3
      clear hc hen hE l
      go_wp2_with (first | ((with_reducible refine wpList_storeM 27 (.tmp 2) (.tmp 90) rfl w.heap.size 0 27 (msgC msg0) (msgC msg0) (msgC msg0) ?_); refine And.intro ⟨rfl, by rfl, by rfl, info_size _, msgC_one _, of_decide_eq_true rfl, Who.lay_all _ _ rfl, HRE.out⟩ ?_; intro WZ HVZ HCZ; (try simp only [Act.put, List.setIfInBounds_toArray, List.set_cons_zero, List.set_cons_succ])))
      refine bodyPost_ret (v := .tuple #[.agg (msgC msg0), .int .i64 201]) (results_pair Tryd.results20 _ _ w.heap.size _ _ (by rfl) HVZ.out Tryd.underlying27 rfl (info_size _) (by rfl)) rfl ?_
      exact ⟨by rw [HR.out], chg_low HBE.out HCZ.out (Nat.le_refl _)⟩
    | true =>
      rw [hen] at hE
      have hE2 : (E != 0) = false := hE
      obtain rfl : E = 0 := by simpa using hE2
      have HEY := Lib.hid hen
      have HC2 := Lib.hid (HCK.out m y1)
      clear hc hen hE hE2 l
      go_wp2_with ((with_reducible refine Who.wpList_loadC 27 (.tmp 7) rfl g1 0 (msgC m) ?_); refine And.intro ⟨by rfl, by rfl, ⟨_, Tryd.underlying27, rfl⟩, info_size _⟩ (And.intro (Who.has_range HME.out) ?_); (try simp only [Act.put, List.setIfInBounds_toArray, List.set_cons_zero, List.set_cons_succ]))
      refine HC2.out.mono ?_
      rintro e y2 ⟨rfl, hb⟩
      have HR2 := Lib.hid (HRE.out.below hb)
      have HM2 := Lib.hid (HME.out.below hb)
      have HB2 := Lib.hid (HBE.out.trans (hb.mono HBE.out.size))
      clear hb
      by_cases hok : OkM m
      · have HR := Lib.hid (getE_yes HOO.out.symm HZ6.out HEY.out hok)
        rw [err_yes hok]
        clear hok
        go_wp2_with (first | ((with_reducible refine wpList_storeM 27 (.tmp 2) (.tmp 91) rfl w.heap.size 0 27 (msgC msg0) (msgC m) (msgC m) ?_); refine And.intro ⟨rfl, by rfl, by rfl, info_size _, msgC_one _, of_decide_eq_true rfl, Who.lay_all _ _ rfl, HR2.out⟩ ?_; intro WZ HVZ HCZ; (try simp only [Act.put, List.setIfInBounds_toArray, List.set_cons_zero, List.set_cons_succ])) | ((with_reducible refine Who.wpList_loadC 27 (.tmp 7) rfl g1 0 (msgC m) ?_); refine And.intro ⟨by rfl, by rfl, ⟨_, Tryd.underlying27, rfl⟩, info_size _⟩ (And.intro (Who.has_range HM2.out) ?_); (try simp only [Act.put, List.setIfInBounds_toArray, List.set_cons_zero, List.set_cons_succ])))
        refine bodyPost_ret (v := .tuple #[.agg (msgC m), .int .i64 0]) (results_pair Tryd.results20 _ _ w.heap.size _ _ (by rfl) HVZ.out Tryd.underlying27 rfl (info_size _) (by rfl)) rfl ?_
        exact ⟨by rw [HR.out], chg_low HB2.out HCZ.out (Nat.le_refl _)⟩
      · have HR := Lib.hid (getE_no HZ6.out (.inr hok))
        rw [err_no hok]
        clear hok
        go_wp2_with (first | ((with_reducible refine wpList_storeM 27 (.tmp 2) (.tmp 90) rfl w.heap.size 0 27 (msgC msg0) (msgC msg0) (msgC msg0) ?_); refine And.intro ⟨rfl, by rfl, by rfl, info_size _, msgC_one _, of_decide_eq_true rfl, Who.lay_all _ _ rfl, HR2.out⟩ ?_; intro WZ HVZ HCZ; (try simp only [Act.put, List.setIfInBounds_toArray, List.set_cons_zero, List.set_cons_succ])))
        refine bodyPost_ret (v := .tuple #[.agg (msgC msg0), .int .i64 201]) (results_pair Tryd.results20 _ _ w.heap.size _ _ (by rfl) HVZ.out Tryd.underlying27 rfl (info_size _) (by rfl)) rfl ?_
        exact ⟨by rw [HR.out], chg_low HB2.out HCZ.out (Nat.le_refl _)⟩
end Go.Proofs.YtfjmcklmoebnaaaDoor.Mg
