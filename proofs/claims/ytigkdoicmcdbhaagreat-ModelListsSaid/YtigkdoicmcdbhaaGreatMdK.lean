/- The law ModelLists walked. -/
import Derived.Test.YtigkdoicmcdbhaaGreatMdJ
import Derived.Test.YtigkdoicmcdbhaaGreatMdH
import Derived.Test.YtigkdoicmcdbhaaGreatMdG
namespace Go.Proofs.YtigkdoicmcdbhaaGreat.Md
open Go.RowKit Go.Proofs.YtigkdoicmcdbhaaGreat.Mem
open Go.Proofs.YtigkdoicmcdbhaaGreat.Fc (PieceP XattrP LinkP NodeC pieceC xattrC linkC nodeC stateC)
open Go.Proofs.YtigkdoicmcdbhaaGreat.Sr (EOwn GrewE zeroS)
open Go.Proofs.YtigkdoicmcdbhaaGreat.Stab (EOut eown_nil eown_sl)
open Go.Proofs.YtigkdoicmcdbhaaGreat.Stl (IdxIs any_take any_hit isId filter_yes filter_no filter_len eown_below eown_mono)
open Go.Proofs.YtigkdoicmcdbhaaGreat.Vc (vecC stC eql_st neq_st)
set_option linter.unusedVariables false set_option linter.unusedSimpArgs false

structure MlI (seen : Nat → Int) (id : Int × Int) (e : Fc.EventC) (P1 P2 : Nat) (W w : World) : Prop where
  below : Below W.heap.size W w
  hv : Has w W.heap.size 24 (vecC seen)
  hi : Has w (W.heap.size + 1) 26 #[.int .i64 id.1, .int .i64 id.2]
  h1 : Has w P1 34 (Fc.eventC e)
  h2 : Has w P2 34 (Fc.eventC e)
section
variable {seen : Nat → Int} {id : Int × Int} {e : Fc.EventC} {P1 P2 : Nat} {W w w2 : World}
theorem MlI.low (h : MlI seen id e P1 P2 W w) (hb : Below w.heap.size w w2) : MlI seen id e P1 P2 W w2 := ⟨h.below.trans (hb.mono h.below.size), h.hv.below hb, h.hi.below hb, h.h1.below hb, h.h2.below hb⟩
theorem MlI.drew (h : MlI seen id e P1 P2 W w) : MlI seen id e P1 P2 W w.drew := ⟨h.below.drew, h.hv, h.hi, h.h1, h.h2⟩
theorem MlI.s (h : MlI seen id e P1 P2 W w) : w.rangeAt W.heap.size 0 (vecC seen).toList ∧ w.rangeAt (W.heap.size + 1) 0 (#[.int .i64 id.1, .int .i64 id.2] : Array Value).toList ∧ w.rangeAt P1 0 (Fc.eventC e).toList ∧ w.rangeAt P2 0 (Fc.eventC e).toList := ⟨Who.has_range h.hv, Who.has_range h.hi, Who.has_range h.h1, Who.has_range h.h2⟩
end
theorem zero_fit (w : World) : Fc.StateFit w Sr.zeroE.d where
  nodes := Fc.SRow.nil _ _ _
  links := Fc.SRow.nil _ _ _
  m1 := by show (0 : Nat) ≤ 9223372036854775807; omega
  m2 := by show (0 : Nat) ≤ 9223372036854775807; omega
  each := fun x hx => by cases hx
  names := fun x hx => by cases hx
theorem last_fit {w : World} {es : List Fc.EventC} (h : ∀ x ∈ es, Fc.StateFit w x.d) : Fc.StateFit w ((lastE es).getD Sr.zeroE).d := by
  cases c : lastE es with
  | none => exact zero_fit w
  | some x => exact h x (List.mem_of_find?_eq_some c)
set_option maxRecDepth 100000 in
set_option maxHeartbeats 16000000 in
theorem lists_walk (W : World) (A0 : Option Addr) (n0 c0 : Nat) (es : List Fc.EventC) (vol : Int) (seen : Nat → Int) (id : Int × Int) (what : Int) (hr : Fc.SRow W 21 Fc.eventC A0 n0 es) (hfe : ∀ e ∈ es, Fc.EventFit W e) (hn : n0 ≤ c0) (hc : c0 ≤ maxLen) :
    Calls Tryz.prog 3 #[.slice A0 n0 c0, .int .i64 vol, .agg (vecC seen), .agg #[.int .i64 id.1, .int .i64 id.2], .int .i64 what] W fun q w' => q = .returned (.bool true) ∧ Below W.heap.size W w' := by
  have HR := Lib.hid hr
  have HF := Lib.hid (show ∀ V, Below W.heap.size W V → ∀ e ∈ es, Fc.StateFit V e.d from fun V hb e he => (hfe e he).1.below hb)
  have HLN := Lib.hid hr.len
  have hn64 : n0 ≤ 9223372036854775807 := by unfold maxLen at hc; omega
  have HB3 := Lib.hid (show ∀ t, Below W.heap.size W (((W.alloc (.cells (vecC seen) 24)).alloc (.cells #[.int .i64 id.1, .int .i64 id.2] 26)).alloc (.cells #[.slice A0 n0 c0] t)) from fun t => (((Below.refl W.heap.size W).alloc (Nat.le_refl _) _).alloc (by simp) _).alloc (by simp; omega) _)
  have HV3 := Lib.hid (show ∀ t, Has (((W.alloc (.cells (vecC seen) 24)).alloc (.cells #[.int .i64 id.1, .int .i64 id.2] 26)).alloc (.cells #[.slice A0 n0 c0] t)) W.heap.size 24 (vecC seen) from fun t => ((Has.fresh W 24 (vecC seen)).past _).past _)
  have HD3 := Lib.hid (show ∀ t, Has (((W.alloc (.cells (vecC seen) 24)).alloc (.cells #[.int .i64 id.1, .int .i64 id.2] 26)).alloc (.cells #[.slice A0 n0 c0] t)) (W.heap.size + 1) 26 #[.int .i64 id.1, .int .i64 id.2] from fun t => (freshAt 26 _ (by simp)).past _)
  have HSM := Lib.hid (show ∀ t, Calls Tryz.prog 4 #[.slice (some ⟨W.heap.size + 1 + 1, 0, none⟩) 1 1] (((W.alloc (.cells (vecC seen) 24)).alloc (.cells #[.int .i64 id.1, .int .i64 id.2] 26)).alloc (.cells #[.slice A0 n0 c0] t)) fun e w' => BoolLe n0 e ∧ Below (((W.alloc (.cells (vecC seen) 24)).alloc (.cells #[.int .i64 id.1, .int .i64 id.2] 26)).alloc (.cells #[.slice A0 n0 c0] t)).heap.size (((W.alloc (.cells (vecC seen) 24)).alloc (.cells #[.int .i64 id.1, .int .i64 id.2] 26)).alloc (.cells #[.slice A0 n0 c0] t)) w' from fun t => small_any A0 n0 c0 es _ t hn64 _ (freshAt t _ (by simp)) (HR.out.below (HB3.out t)) (HF.out _ (HB3.out t)))
  have HFE := Lib.hid (show ∀ V, Below W.heap.size W V → Fc.StateFit V ((lastE es).getD Sr.zeroE).d from fun V h => last_fit (HF.out V h))
  have halv := Sr.alloc_event
  clear hr hfe
  go_enter Tryz.func3, Tryz.ntmps3
  go_wp2_with fail
  refine (HSM.out _).mono ?_
  rintro q w1 ⟨⟨z, rfl, hz⟩, hb⟩
  have HB1 := Lib.hid ((HB3.out _).trans (hb.mono (HB3.out _).size))
  have HV1 := Lib.hid ((HV3.out _).below hb)
  have HD1 := Lib.hid ((HD3.out _).below hb)
  clear hb HSM HB3 HV3 HD3
  cases z with
  | false =>
    clear hz
    go_wp2_with fail
    refine (awake_any _).mono ?_
    rintro q w2 ⟨rfl, hb⟩
    have HB2 := Lib.hid (HB1.out.trans (hb.mono HB1.out.size))
    clear hb
    go_wp2
    go_ret
    exact ⟨rfl, HB2.out⟩
  | true =>
    have h60 := hz rfl
    have h4m : n0 ≤ 4000000 := by omega
    clear hz
    have HL1 := Lib.hid (last_any A0 n0 c0 es h4m w1 (HR.out.below HB1.out))
    go_wp2_with fail
    refine HL1.out.mono ?_
    rintro q w2 ⟨rfl, hb⟩
    obtain ⟨e, he⟩ : ∃ e, e = (lastE es).getD Sr.zeroE := ⟨_, rfl⟩
    obtain ⟨bz, hbz⟩ : ∃ bz, bz = (lastE es).isSome := ⟨_, rfl⟩
    rw [← he] at HFE
    rw [← he, ← hbz]
    have hb2 := HB1.out.trans (hb.mono HB1.out.size)
    have HB2 := Lib.hid (hb2.alloc hb2.size (.cells (Fc.eventC e) 34))
    have HV2 := Lib.hid ((HV1.out.below hb).past (.cells (Fc.eventC e) 34))
    have HD2 := Lib.hid ((HD1.out.below hb).past (.cells (Fc.eventC e) 34))
    have HX2 := Lib.hid (Has.fresh w2 34 (Fc.eventC e))
    have HL2 := Lib.hid (by have q := rlast_any A0 n0 c0 es h4m _ (HR.out.below HB2.out); unfold LastIs at q; rw [← he, ← hbz] at q; exact q)
    clear hb hb2 HB1 HV1 HD1 HL1 he hbz
    go_wp2_with (first | ((with_reducible refine Who.wpList_newC 34 11 (.tmp 23) rfl rfl rfl (Fc.eventC Sr.zeroE) (Fc.eventC e) ?_); refine And.intro ⟨rfl, rfl, rfl, halv, by rfl, by rfl, Sr.info_event, rfl, Sr.event_one _⟩ ?_; (try simp only [Act.put, List.setIfInBounds_toArray, List.set_cons_zero, List.set_cons_succ]); (try simp only [World.size_alloc])) | ((with_reducible refine Who.wpList_alloc 34 11 rfl rfl rfl (Fc.eventC Sr.zeroE) halv ?_); (try simp only [Act.put, List.setIfInBounds_toArray, List.set_cons_zero, List.set_cons_succ]); (try simp only [World.size_alloc])) | fail)
    refine HL2.out.mono ?_
    rintro q w3 ⟨rfl, hb⟩
    have hb3 := HB2.out.trans (hb.mono HB2.out.size)
    obtain ⟨P1, hP1⟩ : ∃ P1, P1 = w2.heap.size := ⟨_, rfl⟩
    obtain ⟨P2, hP2⟩ : ∃ P2, P2 = w3.heap.size := ⟨_, rfl⟩
    have HI4 : Hid (MlI seen id e P1 P2 W (w3.alloc (.cells (Fc.eventC e) 34))) := Lib.hid ⟨hb3.alloc hb3.size _, (HV2.out.below hb).past _, (HD2.out.below hb).past _, by rw [hP1]; exact (HX2.out.below hb).past _, by rw [hP2]; exact Has.fresh w3 _ _⟩
    clear hb hb3 HB2 HV2 HD2 HX2 HL2
    go_wp2_with (first | ((with_reducible refine Who.wpList_newC 34 13 (.tmp 28) rfl rfl rfl (Fc.eventC Sr.zeroE) (Fc.eventC e) ?_); refine And.intro ⟨rfl, rfl, rfl, halv, by rfl, by rfl, Sr.info_event, rfl, Sr.event_one _⟩ ?_; (try simp only [Act.put, List.setIfInBounds_toArray, List.set_cons_zero, List.set_cons_succ]); (try simp only [World.size_alloc])) | ((with_reducible refine Who.wpList_alloc 34 13 rfl rfl rfl (Fc.eventC Sr.zeroE) halv ?_); (try simp only [Act.put, List.setIfInBounds_toArray, List.set_cons_zero, List.set_cons_succ]); (try simp only [World.size_alloc])) | fail)
    rw [← hP1, ← hP2]
    clear hP1 hP2
    have HI5 := Lib.hid HI4.out.drew
    clear HI4
    refine wp_region_held_drew (S := fun V => V.rangeAt W.heap.size 0 (vecC seen).toList ∧ V.rangeAt (W.heap.size + 1) 0 (#[.int .i64 id.1, .int .i64 id.2] : Array Value).toList ∧ V.rangeAt P1 0 (Fc.eventC e).toList ∧ V.rangeAt P2 0 (Fc.eventC e).toList) (by kernel_rfl) HI5.out.s (fun hHeld => ?_)
    refine Vc.wpAnyH_read (i := 0) (d := some 30) (v := ?v1) (by rfl) (by rfl) (by kernel_rfl) (by kernel_rfl) (by kernel_rfl) (fun _ _ _ h => h) (by rfl) ?hy1 (by assumption) ?rest1
    case hy1 =>
      intro w hSw
      go_simp
      try with_reducible rfl
    (try simp only [Act.put, List.setIfInBounds_toArray, List.set_cons_zero, List.set_cons_succ])
    refine Vc.wpAnyH_read (i := 1) (d := some 31) (v := ?v2) (by rfl) (by rfl) (by kernel_rfl) (by kernel_rfl) (by kernel_rfl) (fun _ _ _ h => h) (by rfl) ?hy2 (by assumption) ?rest2
    case hy2 =>
      intro w hSw
      go_simp
      try with_reducible rfl
    (try simp only [Act.put, List.setIfInBounds_toArray, List.set_cons_zero, List.set_cons_succ])
    refine Vc.wpAnyH_read (i := 2) (d := some 32) (v := .agg (vecC seen)) (by rfl) (by rfl) (by kernel_rfl) (by kernel_rfl) (by kernel_rfl) (fun _ _ _ h => h) (by rfl) ?hy3 (by assumption) ?rest3
    case hy3 =>
      intro w hSw
      exact Who.exec_loadA _ rfl rfl hSw.1 Tryz.underlying24 rfl Sr.info_vec
    (try simp only [Act.put, List.setIfInBounds_toArray, List.set_cons_zero, List.set_cons_succ])
    refine Vc.wpAnyH_read (i := 4) (d := some 34) (v := ?v4) (by rfl) (by rfl) (by kernel_rfl) (by kernel_rfl) (by kernel_rfl) (fun _ _ _ h => h) (by rfl) ?hy4 (by assumption) ?rest4
    case hy4 =>
      intro w hSw
      go_simp
      try with_reducible rfl
    (try simp only [Act.put, List.setIfInBounds_toArray, List.set_cons_zero, List.set_cons_succ])
    refine Vc.wpAnyH_read (i := 5) (d := some 35) (v := ?v5) (by rfl) (by rfl) (by kernel_rfl) (by kernel_rfl) (by kernel_rfl) (fun _ _ _ h => h) (by rfl) ?hy5 (by assumption) ?rest5
    case hy5 =>
      intro w hSw
      go_simp
      try with_reducible rfl
    (try simp only [Act.put, List.setIfInBounds_toArray, List.set_cons_zero, List.set_cons_succ])
    refine Vc.wpAnyH_read (i := 6) (d := some 36) (v := .agg (vecC seen)) (by rfl) (by rfl) (by kernel_rfl) (by kernel_rfl) (by kernel_rfl) (fun _ _ _ h => h) (by rfl) ?hy6 (by assumption) ?rest6
    case hy6 =>
      intro w hSw
      exact Who.exec_loadA _ rfl rfl hSw.1 Tryz.underlying24 rfl Sr.info_vec
    (try simp only [Act.put, List.setIfInBounds_toArray, List.set_cons_zero, List.set_cons_succ])
    refine wpAnyH_ready (rs := [3]) (by kernel_rfl) (by simp) ?_
    refine AllReadyH.cons rfl (fun K hK => ?_) AllReadyH.nil
    go_simp
    go_at_call 9
    refine (known_any A0 n0 c0 es vol seen h4m _ (HR.out.below HI5.out.below)).mono ?_
    rintro q wa1 ⟨va, rfl, hv, hb⟩
    obtain ⟨A1, d1, rfl, _, _⟩ := eown_sl hv
    have HXA1 := Lib.hid (own_srow hv)
    clear hv
    have HI11 := Lib.hid (HI5.out.low hb)
    clear hb
    refine hK.out _ _ HI11.out.s (fun hHeld => ?_)
    clear hK K
    (try simp only [Act.put, List.setIfInBounds_toArray, List.set_cons_zero, List.set_cons_succ])
    refine wpAnyH_ready (rs := [7]) (by kernel_rfl) (by simp) ?_
    refine AllReadyH.cons rfl (fun K hK => ?_) AllReadyH.nil
    go_simp
    go_at_call 10
    refine (rknown_any A0 n0 c0 es vol seen h4m _ (HR.out.below HI11.out.below)).mono ?_
    rintro q wb1 ⟨vb, rfl, hv, hb⟩
    obtain ⟨B1, f1, rfl, _, _⟩ := eown_sl hv
    have HXB1 := Lib.hid (own_srow hv)
    have HXC1 := Lib.hid (HXA1.out.below hb)
    clear hv HXA1
    have HI12 := Lib.hid (HI11.out.low hb)
    clear hb HI11
    refine hK.out _ _ HI12.out.s (fun hHeld => ?_)
    clear hK K
    (try simp only [Act.put, List.setIfInBounds_toArray, List.set_cons_zero, List.set_cons_succ])
    refine wpAnyH_ready (rs := [8]) (by kernel_rfl) (by simp) ?_
    refine AllReadyH.cons rfl (fun K hK => ?_) AllReadyH.nil
    go_simp
    go_at_call 8
    refine (Smr.sames_self A1 B1 _ d1 f1 (es.filter (knownB vol seen)) (Nat.le_trans (List.length_filter_le _ _) (by rw [HLN.out]; exact hn64)) _ HXC1.out HXB1.out (fun x hx => HF.out _ HI12.out.below x (List.mem_filter.1 hx).1)).mono ?_
    rintro q wc1 ⟨rfl, hb⟩
    clear HXB1 HXC1
    have HI13 := Lib.hid (HI12.out.low hb)
    clear hb HI12
    refine hK.out _ _ HI13.out.s (fun hHeld => ?_)
    clear hK K
    (try simp only [Act.put, List.setIfInBounds_toArray, List.set_cons_zero, List.set_cons_succ])
    refine Vc.wpAnyH_read (i := 9) (d := some 39) (v := ?v7) (by rfl) (by rfl) (by kernel_rfl) (by kernel_rfl) (by kernel_rfl) (fun _ _ _ h => h) (by rfl) ?hy7 (by assumption) ?rest7
    case hy7 =>
      intro w hSw
      go_simp
      try with_reducible rfl
    (try simp only [Act.put, List.setIfInBounds_toArray, List.set_cons_zero, List.set_cons_succ])
    refine Vc.wpAnyH_read (i := 10) (d := some 40) (v := ?v8) (by rfl) (by rfl) (by kernel_rfl) (by kernel_rfl) (by kernel_rfl) (fun _ _ _ h => h) (by rfl) ?hy8 (by assumption) ?rest8
    case hy8 =>
      intro w hSw
      go_simp
      try with_reducible rfl
    (try simp only [Act.put, List.setIfInBounds_toArray, List.set_cons_zero, List.set_cons_succ])
    refine Vc.wpAnyH_read (i := 11) (d := some 41) (v := .agg #[.int .i64 id.1, .int .i64 id.2]) (by rfl) (by rfl) (by kernel_rfl) (by kernel_rfl) (by kernel_rfl) (fun _ _ _ h => h) (by rfl) ?hy9 (by assumption) ?rest9
    case hy9 =>
      intro w hSw
      exact Who.exec_loadA _ rfl rfl hSw.2.1 Tryz.underlying26 rfl Sr.info_st
    (try simp only [Act.put, List.setIfInBounds_toArray, List.set_cons_zero, List.set_cons_succ])
    refine Vc.wpAnyH_read (i := 12) (d := some 42) (v := ?v10) (by rfl) (by rfl) (by kernel_rfl) (by kernel_rfl) (by kernel_rfl) (fun _ _ _ h => h) (by rfl) ?hy10 (by assumption) ?rest10
    case hy10 =>
      intro w hSw
      go_simp
      try with_reducible rfl
    (try simp only [Act.put, List.setIfInBounds_toArray, List.set_cons_zero, List.set_cons_succ])
    refine Vc.wpAnyH_read (i := 14) (d := some 44) (v := ?v11) (by rfl) (by rfl) (by kernel_rfl) (by kernel_rfl) (by kernel_rfl) (fun _ _ _ h => h) (by rfl) ?hy11 (by assumption) ?rest11
    case hy11 =>
      intro w hSw
      go_simp
      try with_reducible rfl
    (try simp only [Act.put, List.setIfInBounds_toArray, List.set_cons_zero, List.set_cons_succ])
    refine Vc.wpAnyH_read (i := 15) (d := some 45) (v := .agg #[.int .i64 id.1, .int .i64 id.2]) (by rfl) (by rfl) (by kernel_rfl) (by kernel_rfl) (by kernel_rfl) (fun _ _ _ h => h) (by rfl) ?hy12 (by assumption) ?rest12
    case hy12 =>
      intro w hSw
      exact Who.exec_loadA _ rfl rfl hSw.2.1 Tryz.underlying26 rfl Sr.info_st
    (try simp only [Act.put, List.setIfInBounds_toArray, List.set_cons_zero, List.set_cons_succ])
    refine Vc.wpAnyH_read (i := 16) (d := some 46) (v := ?v13) (by rfl) (by rfl) (by kernel_rfl) (by kernel_rfl) (by kernel_rfl) (fun _ _ _ h => h) (by rfl) ?hy13 (by assumption) ?rest13
    case hy13 =>
      intro w hSw
      go_simp
      try with_reducible rfl
    (try simp only [Act.put, List.setIfInBounds_toArray, List.set_cons_zero, List.set_cons_succ])
    refine wpAnyH_ready (rs := [13]) (by kernel_rfl) (by simp) ?_
    refine AllReadyH.cons rfl (fun K hK => ?_) AllReadyH.nil
    go_simp
    go_at_call 11
    refine (writers_any A0 n0 c0 es id what h4m _ (HR.out.below HI13.out.below) (HF.out _ HI13.out.below)).mono ?_
    rintro q wa2 ⟨va, rfl, hv, hb⟩
    obtain ⟨A2, d2, rfl, _, _⟩ := eown_sl hv
    have HXA2 := Lib.hid (own_srow hv)
    clear hv
    have HI14 := Lib.hid (HI13.out.low hb)
    clear hb HI13
    refine hK.out _ _ HI14.out.s (fun hHeld => ?_)
    clear hK K
    (try simp only [Act.put, List.setIfInBounds_toArray, List.set_cons_zero, List.set_cons_succ])
    refine wpAnyH_ready (rs := [17]) (by kernel_rfl) (by simp) ?_
    refine AllReadyH.cons rfl (fun K hK => ?_) AllReadyH.nil
    go_simp
    go_at_call 12
    refine (rwriters_any A0 n0 c0 es id what h4m _ (HR.out.below HI14.out.below) (HF.out _ HI14.out.below)).mono ?_
    rintro q wb2 ⟨vb, rfl, hv, hb⟩
    obtain ⟨B2, f2, rfl, _, _⟩ := eown_sl hv
    have HXB2 := Lib.hid (own_srow hv)
    have HXC2 := Lib.hid (HXA2.out.below hb)
    clear hv HXA2
    have HI15 := Lib.hid (HI14.out.low hb)
    clear hb HI14
    refine hK.out _ _ HI15.out.s (fun hHeld => ?_)
    clear hK K
    (try simp only [Act.put, List.setIfInBounds_toArray, List.set_cons_zero, List.set_cons_succ])
    refine wpAnyH_ready (rs := [18]) (by kernel_rfl) (by simp) ?_
    refine AllReadyH.cons rfl (fun K hK => ?_) AllReadyH.nil
    go_simp
    go_at_call 8
    refine (Smr.sames_self A2 B2 _ d2 f2 (es.filter (wroteE id what)) (Nat.le_trans (List.length_filter_le _ _) (by rw [HLN.out]; exact hn64)) _ HXC2.out HXB2.out (fun x hx => HF.out _ HI15.out.below x (List.mem_filter.1 hx).1)).mono ?_
    rintro q wc2 ⟨rfl, hb⟩
    clear HXB2 HXC2
    have HI16 := Lib.hid (HI15.out.low hb)
    clear hb HI15
    refine hK.out _ _ HI16.out.s (fun hHeld => ?_)
    clear hK K
    (try simp only [Act.put, List.setIfInBounds_toArray, List.set_cons_zero, List.set_cons_succ])
    refine Vc.wpAnyH_read (i := 19) (d := some 49) (v := ?v14) (by rfl) (by rfl) (by kernel_rfl) (by kernel_rfl) (by kernel_rfl) (fun _ _ _ h => h) (by rfl) ?hy14 (by assumption) ?rest14
    case hy14 =>
      intro w hSw
      go_simp
      try with_reducible rfl
    (try simp only [Act.put, List.setIfInBounds_toArray, List.set_cons_zero, List.set_cons_succ])
    refine Vc.wpAnyH_read (i := 20) (d := some 50) (v := ?v15) (by rfl) (by rfl) (by kernel_rfl) (by kernel_rfl) (by kernel_rfl) (fun _ _ _ h => h) (by rfl) ?hy15 (by assumption) ?rest15
    case hy15 =>
      intro w hSw
      go_simp
      try with_reducible rfl
    (try simp only [Act.put, List.setIfInBounds_toArray, List.set_cons_zero, List.set_cons_succ])
    refine Vc.wpAnyH_read (i := 21) (d := some 51) (v := .agg (Fc.eventC e)) (by rfl) (by rfl) (by kernel_rfl) (by kernel_rfl) (by kernel_rfl) (fun _ _ _ h => h) (by rfl) ?hy16 (by assumption) ?rest16
    case hy16 =>
      intro w hSw
      exact Who.exec_loadA _ rfl rfl hSw.2.2.1 Tryz.underlying34 rfl Sr.info_event
    (try simp only [Act.put, List.setIfInBounds_toArray, List.set_cons_zero, List.set_cons_succ])
    refine Vc.wpAnyH_read (i := 22) (d := some 52) (v := .agg (Fc.eventC e)) (by rfl) (by rfl) (by kernel_rfl) (by kernel_rfl) (by kernel_rfl) (fun _ _ _ h => h) (by rfl) ?hy17 (by assumption) ?rest17
    case hy17 =>
      intro w hSw
      exact Who.exec_loadA _ rfl rfl hSw.2.2.2 Tryz.underlying34 rfl Sr.info_event
    (try simp only [Act.put, List.setIfInBounds_toArray, List.set_cons_zero, List.set_cons_succ])
    refine wpAnyH_ready (rs := [23]) (by kernel_rfl) (by simp) ?_
    refine AllReadyH.cons rfl (fun K hK => ?_) AllReadyH.nil
    go_simp
    go_at_call 13
    refine (Smr.event_self e _ (HFE.out _ HI16.out.below)).mono ?_
    rintro q w9 ⟨rfl, hb⟩
    have HI17 := Lib.hid (HI16.out.low hb)
    clear hb HI16
    refine hK.out _ _ HI17.out.s (fun hHeld => ?_)
    clear hK K
    (try simp only [Act.put, List.setIfInBounds_toArray, List.set_cons_zero, List.set_cons_succ])
    refine Vc.wpAnyH_read (i := 24) (d := some 54) (v := ?v18) (by rfl) (by rfl) (by kernel_rfl) (by kernel_rfl) (by kernel_rfl) (fun _ _ _ h => h) (by rfl) ?hy18 (by assumption) ?rest18
    case hy18 =>
      intro w hSw
      go_simp
      try with_reducible rfl
    (try simp only [Act.put, List.setIfInBounds_toArray, List.set_cons_zero, List.set_cons_succ])
    refine Vc.wpAnyH_read (i := 25) (d := some 55) (v := ?v19) (by rfl) (by rfl) (by kernel_rfl) (by kernel_rfl) (by kernel_rfl) (fun _ _ _ h => h) (by rfl) ?hy19 (by assumption) ?rest19
    case hy19 =>
      intro w hSw
      go_simp
      try with_reducible rfl
    (try simp only [Act.put, List.setIfInBounds_toArray, List.set_cons_zero, List.set_cons_succ])
    refine Vc.wpAnyH_read (i := 26) (d := some 56) (v := ?v20) (by rfl) (by rfl) (by kernel_rfl) (by kernel_rfl) (by kernel_rfl) (fun _ _ _ h => h) (by rfl) ?hy20 (by assumption) ?rest20
    case hy20 =>
      intro w hSw
      go_simp
      try with_reducible rfl
    (try simp only [Act.put, List.setIfInBounds_toArray, List.set_cons_zero, List.set_cons_succ])
    refine Vc.wpAnyH_read (i := 27) (d := some 57) (v := ?v21) (by rfl) (by rfl) (by kernel_rfl) (by kernel_rfl) (by kernel_rfl) (fun _ _ _ h => h) (by rfl) ?hy21 (by assumption) ?rest21
    case hy21 =>
      intro w hSw
      go_simp
      try with_reducible rfl
    (try simp only [Act.put, List.setIfInBounds_toArray, List.set_cons_zero, List.set_cons_succ])
    refine Vc.wpAnyH_read (i := 28) (d := some 58) (v := .bool true) (by rfl) (by rfl) (by kernel_rfl) (by kernel_rfl) (by kernel_rfl) (fun _ _ _ h => h) (by rfl) ?hy22 (by assumption) ?rest22
    case hy22 =>
      intro w hSw
      go_simp
      all_goals first | (with_reducible rfl) | simp
    (try simp only [Act.put, List.setIfInBounds_toArray, List.set_cons_zero, List.set_cons_succ])
    refine Vc.wpAnyH_read (i := 29) (d := some 59) (v := ?v23) (by rfl) (by rfl) (by kernel_rfl) (by kernel_rfl) (by kernel_rfl) (fun _ _ _ h => h) (by rfl) ?hy23 (by assumption) ?rest23
    case hy23 =>
      intro w hSw
      go_simp
      try with_reducible rfl
    (try simp only [Act.put, List.setIfInBounds_toArray, List.set_cons_zero, List.set_cons_succ])
    refine Vc.wpAnyH_read (i := 30) (d := some 60) (v := ?v24) (by rfl) (by rfl) (by kernel_rfl) (by kernel_rfl) (by kernel_rfl) (fun _ _ _ h => h) (by rfl) ?hy24 (by assumption) ?rest24
    case hy24 =>
      intro w hSw
      go_simp
      try with_reducible rfl
    (try simp only [Act.put, List.setIfInBounds_toArray, List.set_cons_zero, List.set_cons_succ])
    refine Vc.wpAnyH_read (i := 31) (d := some 61) (v := ?v25) (by rfl) (by rfl) (by kernel_rfl) (by kernel_rfl) (by kernel_rfl) (fun _ _ _ h => h) (by rfl) ?hy25 (by assumption) ?rest25
    case hy25 =>
      intro w hSw
      go_simp
      try with_reducible rfl
    (try simp only [Act.put, List.setIfInBounds_toArray, List.set_cons_zero, List.set_cons_succ])
    refine Vc.wpAnyH_read (i := 32) (d := some 62) (v := .agg #[.int .i64 id.1, .int .i64 id.2]) (by rfl) (by rfl) (by kernel_rfl) (by kernel_rfl) (by kernel_rfl) (fun _ _ _ h => h) (by rfl) ?hy26 (by assumption) ?rest26
    case hy26 =>
      intro w hSw
      exact Who.exec_loadA _ rfl rfl hSw.2.1 Tryz.underlying26 rfl Sr.info_st
    (try simp only [Act.put, List.setIfInBounds_toArray, List.set_cons_zero, List.set_cons_succ])
    refine Vc.wpAnyH_read (i := 34) (d := some 64) (v := ?v27) (by rfl) (by rfl) (by kernel_rfl) (by kernel_rfl) (by kernel_rfl) (fun _ _ _ h => h) (by rfl) ?hy27 (by assumption) ?rest27
    case hy27 =>
      intro w hSw
      go_simp
      try with_reducible rfl
    (try simp only [Act.put, List.setIfInBounds_toArray, List.set_cons_zero, List.set_cons_succ])
    refine Vc.wpAnyH_read (i := 35) (d := some 65) (v := .agg #[.int .i64 id.1, .int .i64 id.2]) (by rfl) (by rfl) (by kernel_rfl) (by kernel_rfl) (by kernel_rfl) (fun _ _ _ h => h) (by rfl) ?hy28 (by assumption) ?rest28
    case hy28 =>
      intro w hSw
      exact Who.exec_loadA _ rfl rfl hSw.2.1 Tryz.underlying26 rfl Sr.info_st
    (try simp only [Act.put, List.setIfInBounds_toArray, List.set_cons_zero, List.set_cons_succ])
    refine wpAnyH_ready (rs := [33]) (by kernel_rfl) (by simp) ?_
    refine AllReadyH.cons rfl (fun K hK => ?_) AllReadyH.nil
    go_simp
    go_at_call 14
    refine (unlinked_any A0 n0 c0 es id h4m _ (HR.out.below HI17.out.below) (HF.out _ HI17.out.below)).mono ?_
    rintro q w10 ⟨rfl, hb⟩
    have HI18 := Lib.hid (HI17.out.low hb)
    clear hb HI17
    refine hK.out _ _ HI18.out.s (fun hHeld => ?_)
    clear hK K
    (try simp only [Act.put, List.setIfInBounds_toArray, List.set_cons_zero, List.set_cons_succ])
    refine wpAnyH_ready (rs := [36]) (by kernel_rfl) (by simp) ?_
    refine AllReadyH.cons rfl (fun K hK => ?_) AllReadyH.nil
    go_simp
    go_at_call 15
    refine (runlinked_any A0 n0 c0 es id h4m _ (HR.out.below HI18.out.below) (HF.out _ HI18.out.below)).mono ?_
    rintro q w11 ⟨rfl, hb⟩
    have HI19 := Lib.hid (HI18.out.low hb)
    clear hb HI18
    refine hK.out _ _ HI19.out.s (fun hHeld => ?_)
    clear hK K
    (try simp only [Act.put, List.setIfInBounds_toArray, List.set_cons_zero, List.set_cons_succ])
    refine Vc.wpAnyH_read (i := 37) (d := some 67) (v := .bool true) (by rfl) (by rfl) (by kernel_rfl) (by kernel_rfl) (by kernel_rfl) (fun _ _ _ h => h) (by rfl) ?hy29 (by assumption) ?rest29
    case hy29 =>
      intro w hSw
      go_simp
      all_goals first | (with_reducible rfl) | simp
    (try simp only [Act.put, List.setIfInBounds_toArray, List.set_cons_zero, List.set_cons_succ])
    refine Vc.wpAnyH_read (i := 38) (d := some 68) (v := ?v30) (by rfl) (by rfl) (by kernel_rfl) (by kernel_rfl) (by kernel_rfl) (fun _ _ _ h => h) (by rfl) ?hy30 (by assumption) ?rest30
    case hy30 =>
      intro w hSw
      go_simp
      try with_reducible rfl
    (try simp only [Act.put, List.setIfInBounds_toArray, List.set_cons_zero, List.set_cons_succ])
    refine Vc.wpAnyH_read (i := 39) (d := some 69) (v := ?v31) (by rfl) (by rfl) (by kernel_rfl) (by kernel_rfl) (by kernel_rfl) (fun _ _ _ h => h) (by rfl) ?hy31 (by assumption) ?rest31
    case hy31 =>
      intro w hSw
      go_simp
      try with_reducible rfl
    (try simp only [Act.put, List.setIfInBounds_toArray, List.set_cons_zero, List.set_cons_succ])
    refine wpAnyH_ready (rs := [40]) (by kernel_rfl) (by simp) ?_
    refine AllReadyH.cons rfl (fun K hK => ?_) AllReadyH.nil
    go_simp
    go_at_call 5
    refine (awake_any _).mono ?_
    rintro q w12 ⟨rfl, hb⟩
    have HI20 := Lib.hid (HI19.out.low hb)
    clear hb HI19
    refine hK.out _ _ HI20.out.s (fun hHeld => ?_)
    clear hK K
    (try simp only [Act.put, List.setIfInBounds_toArray, List.set_cons_zero, List.set_cons_succ])
    refine Vc.wpAnyH_read (i := 41) (d := some 71) (v := ?v32) (by rfl) (by rfl) (by kernel_rfl) (by kernel_rfl) (by kernel_rfl) (fun _ _ _ h => h) (by rfl) ?hy32 (by assumption) ?rest32
    case hy32 =>
      intro w hSw
      go_simp
      try with_reducible rfl
    (try simp only [Act.put, List.setIfInBounds_toArray, List.set_cons_zero, List.set_cons_succ])
    refine Vc.wpAnyH_read (i := 42) (d := some 10) (v := ?v33) (by rfl) (by rfl) (by kernel_rfl) (by kernel_rfl) (by kernel_rfl) (fun _ _ _ h => h) (by rfl) ?hy33 (by assumption) ?rest33
    case hy33 =>
      intro w hSw
      go_simp
      try with_reducible rfl
    (try simp only [Act.put, List.setIfInBounds_toArray, List.set_cons_zero, List.set_cons_succ])
    refine wpAnyH_done (by kernel_rfl) ?_ _
    go_wp2
    go_ret
    exact ⟨rfl, HI20.out.below⟩
end Go.Proofs.YtigkdoicmcdbhaaGreat.Md
