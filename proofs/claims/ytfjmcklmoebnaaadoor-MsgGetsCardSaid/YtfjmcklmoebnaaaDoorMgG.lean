/- What the document's eye sees of a vector and of a mark, walked. -/
import Derived.Test.YtfjmcklmoebnaaaDoorMgZ
namespace Go.Proofs.YtfjmcklmoebnaaaDoor.Mg
open Go.RowKit Go.Proofs.YtfjmcklmoebnaaaDoor.Mem Go.Proofs.YtfjmcklmoebnaaaDoor.Nt
open Go.Proofs.YtfjmcklmoebnaaaDoor.Vc (vecC seeV)
set_option linter.unusedVariables false set_option linter.unusedSimpArgs false

theorem has_to {w : World} {g : Nat} {t : TypeId} {cs : Array Value} (h : Oct.Has w g t cs) : Has w g t cs := h
theorem has_of {w : World} {g : Nat} {t : TypeId} {cs : Array Value} (h : Has w g t cs) : Oct.Has w g t cs := h
theorem build_vec0 (w : World) : (Instr.build 25 #[]).run Tryd.prog w = .ok (.agg #[.int .i64 0, .int .i64 0, .int .i64 0, .int .i64 0, .int .i64 0, .int .i64 0, .int .i64 0, .int .i64 0]) w := run_build w _ _ _ (by kernel_rfl)
structure SI (w wr : World) (x : Nat) (B : ByteArray) (st : ES) (k : Nat) (z : Nat → Int) : Prop where
  eye : RyeS wr x B (stE st k)
  res : Oct.Has wr w.heap.size 25 (vecC Vc.nil8)
  vec : Oct.Has wr (w.heap.size + 1) 25 (vecC z)
  thru : Vc.Thru (zE st) Vc.nil8 k z
  chg : Oct.Chg (· = x) w wr
  lo : x < w.heap.size
theorem SI.step {w wr w2 : World} {x : Nat} {B : ByteArray} {st : ES} {k : Nat} {z : Nat → Int} (h : SI w wr x B st k z) (hk : k < 8) (he : RyeS w2 x B (stE st (k + 1))) (hc : Oct.Chg (· = x) wr w2) : SI w (w2.setCell ⟨w.heap.size + 1, k, none⟩ (.int .i64 (zE st k))) x B st (k + 1) (Vc.upd z k (zE st k)) := by
  have hl := h.lo
  have c := (Oct.Chg.refl (· = w.heap.size + 1) w2).setCell (p := ⟨w.heap.size + 1, k, none⟩) (.inl rfl) (.int .i64 (zE st k))
  have hv := Oct.Has.over h.vec hc (show w.heap.size + 1 ≠ x by omega)
  have hr := Oct.Has.over h.res hc (show w.heap.size ≠ x by omega)
  exact ⟨he.over c (show x ≠ w.heap.size + 1 by omega), Oct.Has.over hr c (show w.heap.size ≠ w.heap.size + 1 by omega), Vc.Has.putV hv hk _, h.thru.step rfl, (h.chg.trans hc).step c (fun i hi e => by omega), hl⟩
set_option maxRecDepth 100000 in
set_option maxHeartbeats 2000000 in
theorem rsee_s (x : Nat) (B : ByteArray) (hB : B.size ≤ 1048576) (st : ES) (w : World) (h : RyeS w x B st) : Calls Tryd.prog 50 #[.pointer (some ⟨x, 0, none⟩)] w fun e w' => e = .returned (.agg (vecC (zE st))) ∧ RyeS w' x B (rvE st).2 ∧ Oct.Chg (· = x) w w' := by
  have hlo := h.bound
  have hc0 := ((Oct.Chg.refl (· = x) w).alloc (.cells (vecC Vc.nil8) 25)).alloc (.cells (vecC Vc.nil8) 25)
  have hz := Oct.Has.fresh (w.alloc (.cells (vecC Vc.nil8) 25)) 25 (vecC Vc.nil8)
  rw [World.size_alloc] at hz
  have he0 : RyeS ((w.alloc (.cells (vecC Vc.nil8) 25)).alloc (.cells (vecC Vc.nil8) 25)) x B st := h.over (S := fun _ => False) (((Oct.Chg.refl _ w).alloc (.cells (vecC Vc.nil8) 25)).alloc (.cells (vecC Vc.nil8) 25)) (fun k => k)
  have HI0 := Lib.hid (show SI w ((w.alloc (.cells (vecC Vc.nil8) 25)).alloc (.cells (vecC Vc.nil8) 25)) x B st 0 Vc.nil8 from ⟨he0, Oct.Has.past (Oct.Has.fresh w _ _) _, hz, Vc.Thru.zero _ _, hc0, hlo⟩)
  have HLO := Lib.hid hlo
  have b0 := fun W => build_vec0 W
  clear h hlo hc0 hz he0
  go_enter Tryd.func50, Tryd.ntmps50
  go_wp2
  go_loopw [6] (fun i wr => ∃ (k : Nat) (z : Nat → Int), k ≤ 8 ∧ i = .int .i64 k ∧ Hid (SI w wr x B st k z)) (fun i _ => 8 - (intOf i).toNat)
  case atStart => exact ⟨0, Vc.nil8, by omega, rfl, HI0⟩
  case round =>
    obtain ⟨k, z, hk, rfl, HI⟩ := hrel
    clear HI0 b0
    by_cases hlt : k < 8
    · have k1 : (k : Int) < 8 := by omega
      have HN := Lib.hid (rnum_s x 6 B hB (stE st k) wr HI.out.eye)
      have HL := Lib.hid hlt
      go_wp2_with fail
      refine HN.out.mono ?_
      rintro e w2 ⟨rfl, hl, hc⟩
      have hv2 := Oct.Has.over HI.out.vec hc (show w.heap.size + 1 ≠ x by have := HLO.out; omega)
      have cz := Vc.has_vec_at hv2 hlt
      have fz := Oct.Has.free hv2 k
      have HQ := Lib.hid (HI.out.step hlt hl hc)
      have ez : (rnE (stE st k) 6).1 = zE st k := rfl
      rw [ez]
      clear hv2 hl hc ez
      go_wp2
      go_roundw
      case rel => exact ⟨k + 1, _, by have := HL.out; omega, by go_num, HQ⟩
      case measure => have := HL.out; simp [intOf]; omega
    · obtain rfl : k = 8 := by omega
      obtain ⟨J, hJ⟩ : ∃ J : Nat → Int, J = zE st := ⟨_, rfl⟩
      have hv8 := HI.out.vec
      rw [HI.out.thru.done, ← hJ] at hv8
      have HJ := Lib.hid hJ
      have HV8 := Lib.hid (has_to hv8)
      have HG := Lib.hid (fun V => rgood_told J V)
      clear hJ hv8 hlt
      go_wp2_with ((with_reducible refine Who.wpList_loadC 25 (.tmp 3) rfl (w.heap.size + 1) 0 (vecC J) ?_); refine And.intro ⟨by rfl, by rfl, ⟨_, Tryd.underlying25, rfl⟩, vec_size _⟩ (And.intro (Who.has_range HV8.out) ?_); (try simp only [Act.put, List.setIfInBounds_toArray, List.set_cons_zero, List.set_cons_succ]))
      refine (HG.out _).mono ?_
      rintro e w2 ⟨⟨b, rfl, hb1⟩, hb⟩
      have hcb := Oct.Chg.of (Chg.of_below hb (fun _ => False))
      have HV2 := Lib.hid (HV8.out.below hb)
      have HR2 := Lib.hid ((has_to HI.out.res).below hb)
      have HE2 := Lib.hid (HI.out.eye.over hcb (fun k => k))
      have HC2 := Lib.hid (HI.out.chg.trans (hcb.mono (fun k hk => hk.elim)))
      cases b with
      | true =>
        have HE9 := Lib.hid (show RyeS w2 x B (rvE st).2 from by
          have e : (rvE st).2 = stE st 8 := if_pos (by rw [← HJ.out]; exact hb1.1 rfl)
          rw [e]
          exact HE2.out)
        have HV9 := HV2
        have HR9 := HR2
        have HC9 := HC2
        clear hb1 hb hcb
        go_wp2_with (first | ((with_reducible refine Who.wpList_loadC 25 (.tmp 3) rfl (w.heap.size + 1) 0 (vecC J) ?_); refine And.intro ⟨by rfl, by rfl, ⟨_, Tryd.underlying25, rfl⟩, vec_size _⟩ (And.intro (Who.has_range HV9.out) ?_); (try simp only [Act.put, List.setIfInBounds_toArray, List.set_cons_zero, List.set_cons_succ])) | ((with_reducible refine wpList_storeM 25 (.tmp 2) (.tmp 19) rfl w.heap.size 0 25 (vecC Vc.nil8) (vecC J) (vecC J) ?_); refine And.intro ⟨rfl, by rfl, by rfl, vec_size _, vec_one _, of_decide_eq_true rfl, Who.lay_all _ _ rfl, HR9.out⟩ ?_; intro WZ HVZ HCZ; (try simp only [Act.put, List.setIfInBounds_toArray, List.set_cons_zero, List.set_cons_succ])))
        refine bodyPost_ret (v := .agg (vecC J)) (results_two Tryd.results50 _ _ w.heap.size _ _ (by rfl) HVZ.out Tryd.underlying25 rfl (vec_size _)) rfl ?_
        exact ⟨by rw [HJ.out], HE9.out.over (Oct.Chg.of HCZ.out) (by have := HLO.out; omega), HC9.out.step (Oct.Chg.of HCZ.out) (fun i hi e => by omega)⟩
      | false =>
        have HBD := Lib.hid (show ¬ Vc.goodB J = true from fun k => by have := hb1.2 k; cases this)
        have HF := Lib.hid (rfail_s x B _ w2 HE2.out)
        clear hb1 hb hcb
        go_wp2_with fail
        refine HF.out.mono ?_
        rintro e w3 ⟨rfl, hl, hc⟩
        have HE9 := Lib.hid (show RyeS w3 x B (rvE st).2 from by
          have e : (rvE st).2 = none := if_neg (by rw [← HJ.out]; exact HBD.out)
          rw [e]
          exact hl)
        have HV9 := Lib.hid (has_got HV2.out hc (show w.heap.size + 1 ≠ x by have := HLO.out; omega))
        have HR9 := Lib.hid (has_got HR2.out hc (show w.heap.size ≠ x by have := HLO.out; omega))
        have HC9 := Lib.hid (HC2.out.trans hc)
        clear hl hc
        go_wp2_with (first | ((with_reducible refine Who.wpList_loadC 25 (.tmp 3) rfl (w.heap.size + 1) 0 (vecC J) ?_); refine And.intro ⟨by rfl, by rfl, ⟨_, Tryd.underlying25, rfl⟩, vec_size _⟩ (And.intro (Who.has_range HV9.out) ?_); (try simp only [Act.put, List.setIfInBounds_toArray, List.set_cons_zero, List.set_cons_succ])) | ((with_reducible refine wpList_storeM 25 (.tmp 2) (.tmp 19) rfl w.heap.size 0 25 (vecC Vc.nil8) (vecC J) (vecC J) ?_); refine And.intro ⟨rfl, by rfl, by rfl, vec_size _, vec_one _, of_decide_eq_true rfl, Who.lay_all _ _ rfl, HR9.out⟩ ?_; intro WZ HVZ HCZ; (try simp only [Act.put, List.setIfInBounds_toArray, List.set_cons_zero, List.set_cons_succ])))
        refine bodyPost_ret (v := .agg (vecC J)) (results_two Tryd.results50 _ _ w.heap.size _ _ (by rfl) HVZ.out Tryd.underlying25 rfl (vec_size _)) rfl ?_
        exact ⟨by rw [HJ.out], HE9.out.over (Oct.Chg.of HCZ.out) (by have := HLO.out; omega), HC9.out.step (Oct.Chg.of HCZ.out) (fun i hi e => by omega)⟩
set_option maxRecDepth 100000 in
set_option maxHeartbeats 2000000 in
theorem rmark_s (x : Nat) (B : ByteArray) (hB : B.size ≤ 1048576) (st : ES) (w : World) (h : RyeS w x B st) : Calls Tryd.prog 51 #[.pointer (some ⟨x, 0, none⟩)] w fun e w' => e = .returned (.agg #[.int .i64 (rmE st).1.1, .int .i64 (rmE st).1.2]) ∧ RyeS w' x B (rmE st).2 ∧ Oct.Chg (· = x) w w' := by
  have hlo := h.bound
  have HLO := Lib.hid hlo
  have hal := alloc_mark
  have HC0 := Lib.hid ((Oct.Chg.refl (· = x) w).alloc (.cells #[.int .i64 0, .int .i64 0] 23))
  have HE0 := Lib.hid (show RyeS (w.alloc (.cells #[.int .i64 0, .int .i64 0] 23)) x B st from h.over (S := fun _ => False) ((Oct.Chg.refl _ w).alloc _) (fun k => k))
  have HG0 := Lib.hid (Has.fresh w 23 #[.int .i64 0, .int .i64 0])
  have HN := Lib.hid (rnum_s x 6 B hB st _ HE0.out)
  have HB := Lib.hid hB
  clear h hlo hB
  go_enter Tryd.func51, Tryd.ntmps51
  go_wp2_with fail
  refine HN.out.mono ?_
  rintro e w1 ⟨rfl, hl, hc⟩
  obtain ⟨a, ha⟩ : ∃ a, a = (rnE st 6).1 := ⟨_, rfl⟩
  rw [← ha]
  have HAA := Lib.hid ha
  have HG1 := Lib.hid ((has_got HG0.out hc (show w.heap.size ≠ x by have := HLO.out; omega)).past (.cells #[.int .i64 a, .int .i64 0] 23))
  have HM1 := Lib.hid (Has.fresh w1 23 #[.int .i64 a, .int .i64 0])
  have HC1 := Lib.hid ((HC0.out.trans hc).alloc (.cells #[.int .i64 a, .int .i64 0] 23))
  have HE1 := Lib.hid (show RyeS (w1.alloc (.cells #[.int .i64 a, .int .i64 0] 23)) x B (rnE st 6).2 from hl.over (S := fun _ => False) ((Oct.Chg.refl _ w1).alloc _) (fun k => k))
  have HS1 := Lib.hid (show w.heap.size < w1.heap.size ∧ x < w.heap.size from ⟨by have := hc.size; rw [World.size_alloc] at this; omega, HLO.out⟩)
  have HN1 := Lib.hid (rnum_s x 6 B HB.out (rnE st 6).2 _ HE1.out)
  clear hl hc ha HN
  go_wp2_with ((with_reducible refine Who.wpList_newC 23 3 (.tmp 6) rfl rfl rfl #[.int .i64 0, .int .i64 0] #[.int .i64 a, .int .i64 0] ?_); refine And.intro ⟨rfl, rfl, rfl, hal, by rfl, by rfl, mark_size _ _, rfl, mark_one _ _⟩ ?_; (try simp only [Act.put, List.setIfInBounds_toArray, List.set_cons_zero, List.set_cons_succ]); (try simp only [World.size_alloc]))
  refine HN1.out.mono ?_
  rintro e w2 ⟨rfl, hl, hc⟩
  obtain ⟨b, hb⟩ : ∃ b, b = (rnE (rnE st 6).2 6).1 := ⟨_, rfl⟩
  rw [← hb]
  have HBB := Lib.hid hb
  have hg2 := has_got HG1.out hc (show w.heap.size ≠ x by have := HLO.out; omega)
  have hm2 := has_got HM1.out hc (show w1.heap.size ≠ x by have := HS1.out; omega)
  have cc := Chg.refl (· = w1.heap.size) w2
  have c2 := cc.setCell (p := ⟨w1.heap.size, 1, none⟩) (.inl rfl) (.int .i64 b)
  have HM2 := Lib.hid (show Has (w2.setCell ⟨w1.heap.size, 1, none⟩ (.int .i64 b)) w1.heap.size 23 #[.int .i64 a, .int .i64 b] from hm2.put 1 (.int .i64 b))
  have HG2 := Lib.hid (hg2.over c2 (show w.heap.size ≠ w1.heap.size by have := HS1.out; omega))
  have HE2 := Lib.hid (hl.over (Oct.Chg.of c2) (show x ≠ w1.heap.size by have := HS1.out; omega))
  have HC2 := Lib.hid ((HC1.out.trans hc).step (Oct.Chg.of c2) (fun i hi e => by have := HS1.out; omega))
  have fz := hm2.free 1
  have fc : w2.cell? ⟨w1.heap.size, 1, none⟩ = some (.int .i64 0) := hm2.at_ 1
  clear hl hc hb hg2 hm2 cc c2
  go_wp2_with (first | ((with_reducible refine Who.wpList_loadC 23 (.tmp 3) rfl w1.heap.size 0 (#[.int .i64 a, .int .i64 b]) ?_); refine And.intro ⟨by rfl, by rfl, ⟨_, Tryd.underlying23, rfl⟩, mark_size _ _⟩ (And.intro (Who.has_range HM2.out) ?_); (try simp only [Act.put, List.setIfInBounds_toArray, List.set_cons_zero, List.set_cons_succ])) | ((with_reducible refine wpList_storeM 23 (.tmp 2) (.tmp 10) rfl w.heap.size 0 23 (#[.int .i64 0, .int .i64 0]) (#[.int .i64 a, .int .i64 b]) (#[.int .i64 a, .int .i64 b]) ?_); refine And.intro ⟨rfl, by rfl, by rfl, mark_size _ _, mark_one _ _, of_decide_eq_true rfl, rfl, HG2.out⟩ ?_; intro WZ HVZ HCZ; (try simp only [Act.put, List.setIfInBounds_toArray, List.set_cons_zero, List.set_cons_succ])))
  refine bodyPost_ret (v := .agg #[.int .i64 a, .int .i64 b]) (results_two Tryd.results51 _ _ w.heap.size _ _ (by rfl) HVZ.out Tryd.underlying23 rfl (mark_size _ _)) rfl ?_
  exact ⟨by rw [HAA.out, HBB.out]; rfl, HE2.out.over (Oct.Chg.of HCZ.out) (by have := HLO.out; omega), HC2.out.step (Oct.Chg.of HCZ.out) (fun i hi e => by omega)⟩
end Go.Proofs.YtfjmcklmoebnaaaDoor.Mg
