/- StoryOrder: events that are unlike stand in one order. -/
import Derived.Test.YtdbmnnmcelaehaaDoorStabR
import Derived.Test.YtdbmnnmcelaehaaDoorSrG
namespace Go.Proofs.YtdbmnnmcelaehaaDoor.Stab
open Go.RowKit Go.Proofs.YtdbmnnmcelaehaaDoor.Mem
open Go.Proofs.YtdbmnnmcelaehaaDoor.Sr (EOwn eL info_parts_ev event_one zeroE)
open Go.Proofs.YtdbmnnmcelaehaaDoor.Tx (Tabs)
set_option linter.unusedVariables false set_option linter.unusedSimpArgs false

theorem first_mem {es : List Fc.EventC} {e : Fc.EventC} (h : First es e) : e ∈ es := by
  obtain ⟨i, hi, _⟩ := h
  exact List.mem_of_getElem? hi
/-- what Order tells of a list -/
theorem ord_row {es : List Fc.EventC} {w w2 : World} {e : Ending} (h : OrdIs es w e w2) : ∃ A c' os, e = .returned (.slice A os.length c') ∧ OrdL es os ∧ os.length ≤ es.length ∧ Fc.SRow w2 21 Fc.eventC A os.length os ∧ Below w.heap.size w w2 := by
  obtain ⟨A, m, c', os, rfl, h1, h2, h3, h4⟩ := h
  have e := h3.len
  subst e
  exact ⟨A, c', os, rfl, h1, h2, h3, h4⟩
theorem eown_srow {w : World} {B c : Nat} {A : Option Addr} {es : List Fc.EventC} (h : EOwn w B (.slice A es.length c) es) : Fc.SRow w 21 Fc.eventC A es.length es := by
  obtain ⟨A3, c3, e, hnil, hsome⟩ := eown_sl h
  cases e
  cases A with
  | none =>
    rw [(hnil rfl).2]
    exact Fc.SRow.nil _ _ _
  | some a =>
    obtain ⟨g, rfl⟩ := hsome a rfl
    exact own_srow h
/-- the second half of the law: turned, ordered, compared -/
def EndIs (w : World) (e : Ending) (w' : World) : Prop := e = .returned (.bool true) ∧ Below w.heap.size w w'
set_option maxRecDepth 100000 in
set_option maxHeartbeats 4000000 in
theorem order_walk (W : World) (A0 : Option Addr) (n0 c0 : Nat) (es : List Fc.EventC) (turn : Int) (hr : Fc.SRow W 21 Fc.eventC A0 n0 es) (hf : ∀ e ∈ es, Fc.EventFit W e) (hn : n0 ≤ c0) (hc : c0 ≤ maxLen) (ht : (Lit.int .i64 turn).wf = true) (hT : Tabs W) :
    Calls Tryd.prog 5 #[.slice A0 n0 c0, .int .i64 turn] W (EndIs W) := by
  have HR := Lib.hid hr
  have HTT := Lib.hid (show ∀ V, Below W.heap.size W V → Tabs V from fun V h => hT.self h)
  have HF := Lib.hid (show ∀ V, Below W.heap.size W V → ∀ e ∈ es, Fc.StateFit V e.d from fun V hb e he => (hf e he).1.below hb)
  have HSM := Lib.hid (small_le A0 n0 c0 es (by unfold maxLen at hc; omega) W hr (fun e he => (hf e he).1))
  have HLN := Lib.hid hr.len
  clear hr hf hT ht
  go_enter Tryd.func5, Tryd.ntmps5
  go_wp2_with fail
  go_at_call 6
  refine HSM.out.mono ?_
  rintro q w1 ⟨⟨z, rfl, hz⟩, hb⟩
  have HB1 := Lib.hid hb
  clear hb HSM
  cases z with
  | false =>
    clear hz
    go_wp2_with fail
    go_at_call 10
    refine (Sr.awake_any _ (HTT.out _ HB1.out)).mono ?_
    rintro q w2 ⟨rfl, hb⟩
    have HB2 := Lib.hid (HB1.out.trans (hb.mono HB1.out.size))
    clear hb
    go_wp2
    go_ret
    exact ⟨rfl, HB2.out⟩
  | true =>
    have h60 := hz rfl
    clear hz
    have HO1 := Lib.hid (order_all A0 n0 c0 es (by omega) w1 (HR.out.below HB1.out))
    go_wp2_with fail
    go_at_call 13
    refine HO1.out.mono ?_
    intro q w2 ho
    obtain ⟨A1, c1, os, rfl, o1, o2, o3, o4⟩ := ord_row ho
    have HOL := Lib.hid o1
    have HX := Lib.hid o3
    have HB2 := Lib.hid (HB1.out.trans (o4.mono HB1.out.size))
    have hos : os.length ≤ 60 := by rw [HLN.out] at o2; omega
    have HFO := Lib.hid (show ∀ V, Below W.heap.size W V → ∀ e ∈ os, Fc.StateFit V e.d from fun V hb e he => HF.out V hb e (first_mem ((o1.mem e).1 he)))
    clear ho o1 o2 o3 o4 HO1
    have HO2 := Lib.hid (order_all A1 os.length c1 os (by omega) w2 HX.out)
    go_wp2_with fail
    go_at_call 13
    refine HO2.out.mono ?_
    intro q w3 ho
    obtain ⟨A2, c2, os2, rfl, o1, o2, o3, o4⟩ := ord_row ho
    obtain rfl : os2 = os := o1.uniq HOL.out.self
    have HX2 := Lib.hid o3
    have HX1 := Lib.hid (HX.out.below o4)
    have HB3 := Lib.hid (HB2.out.trans (o4.mono HB2.out.size))
    clear ho o1 o2 o3 o4 HO2 HX
    have HS := Lib.hid (Smr.sames_self A2 A1 os2.length c2 c1 os2 (by omega) w3 HX2.out HX1.out (HFO.out _ HB3.out))
    go_wp2_with fail
    go_at_call 12
    refine HS.out.mono ?_
    rintro q w4 ⟨rfl, hb⟩
    have HX4 := Lib.hid (HX1.out.below hb)
    have HB4 := Lib.hid (HB3.out.trans (hb.mono HB3.out.size))
    clear hb HS HX1 HX2
    have HCL := Lib.hid (clone_any A1 os2.length c1 os2 (by omega) w4 HX4.out)
    go_wp2_with fail
    go_at_call 11
    refine HCL.out.mono ?_
    rintro q w5 ⟨v5, rfl, hv, hb⟩
    have HX5 := Lib.hid (HX4.out.below hb)
    have HB5 := Lib.hid (HB4.out.trans (hb.mono HB4.out.size))
    obtain ⟨A3, c3, rfl, hnil, hsome⟩ := eown_sl hv
    clear hb HCL HX4
    have hv2 := eown_srow hv
    by_cases h0 : os2.length = 0
    · have HXK := Lib.hid hv2
      have HOR := Lib.hid HOL.out.self
      have h0i : ¬ (0 : Int) < (os2.length : Int) := by omega
      clear hv hv2 hnil hsome h0
      go_wp2_with fail
      have HO4 := Lib.hid (order_all A3 os2.length c3 (os2) (by omega) w5 HXK.out)
      go_at_call 13
      refine HO4.out.mono ?_
      intro q w7 ho
      obtain ⟨A7, c7, os7, rfl, o1, o2, o3, o4⟩ := ord_row ho
      have e7 : os7 = os2 := o1.uniq HOR.out
      have HX7 := Lib.hid o3
      rw [e7] at HX7
      have HX8 := Lib.hid (HX5.out.below o4)
      have HB7 := Lib.hid (HB5.out.trans (o4.mono HB5.out.size))
      rw [e7]
      clear ho o1 o2 o3 o4 HO4 e7
      have HS2 := Lib.hid (Smr.sames_self A7 A1 os2.length c7 c1 os2 (by omega) w7 HX7.out HX8.out (HFO.out _ HB7.out))
      go_wp2_with fail
      go_at_call 12
      refine HS2.out.mono ?_
      rintro q w8 ⟨rfl, hb⟩
      have HB8 := Lib.hid (HB7.out.trans (hb.mono HB7.out.size))
      clear hb HS2
      go_wp2_with fail
      go_at_call 10
      refine (Sr.awake_any _ (HTT.out _ HB8.out)).mono ?_
      rintro q w9 ⟨rfl, hb⟩
      have HB9 := Lib.hid (HB8.out.trans (hb.mono HB8.out.size))
      clear hb
      go_wp2
      go_ret
      exact ⟨rfl, HB9.out⟩
    · cases A3 with
      | none => exact absurd (by rw [(hnil rfl).2]; rfl) h0
      | some a =>
        obtain ⟨g, rfl⟩ := hsome a rfl
        have hc3 := (own_rw hv).2.1
        clear hnil hsome
        obtain ⟨U, hU⟩ : ∃ U, U = IntKind.u64.wrap turn := ⟨_, rfl⟩
        have hU0 : 0 ≤ U := by rw [hU]; exact wrap_u64_nonneg turn
        have hU2 : IntKind.u64.wrap turn = U := hU.symm
        have hpos : (0 : Int) < (os2.length : Int) := by omega
        obtain ⟨i, hi⟩ : ∃ i : Nat, (i : Int) = U % (os2.length : Int) := ⟨(U % (os2.length : Int)).toNat, by have := Int.emod_nonneg U (b := (os2.length : Int)) (by omega); omega⟩
        have hiT : i < os2.length := by have := Int.emod_lt_of_pos U hpos; omega
        have hmod : U.tmod (os2.length : Int) = (i : Int) := by rw [hi]; exact Int.tmod_eq_emod_of_nonneg hU0
        have a0 : IntKind.u64.wrap (os2.length : Int) = (os2.length : Int) := by unfold IntKind.wrap; simp [IntKind.signed, IntKind.bits]; omega
        have a1 : IntKind.i64.wrap (i : Int) = (i : Int) := by rw [IntKind.wrap_i64]; omega
        have a2 : IntKind.u64.wrap (i : Int) = (i : Int) := by unfold IntKind.wrap; simp [IntKind.signed, IntKind.bits]; omega
        have hii : (i : Int) < (os2.length : Int) := by omega
        have hic : i ≤ c3 := by omega
        have hle : i ≤ os2.length := by omega
        have HSR := Lib.hid hv2
        have HOR := Lib.hid (HOL.out.turn i)
        have hd0 := ((Below.refl w5.heap.size w5).alloc (Nat.le_refl _) (.cells #[.slice (some ⟨g, i * 21, none⟩) (os2.length - i) (c3 - i), .slice (some ⟨g, 0, none⟩) i c3] 38)).drew
        have HT0 := Lib.hid (show Has (w5.alloc (.cells #[.slice (some ⟨g, i * 21, none⟩) (os2.length - i) (c3 - i), .slice (some ⟨g, 0, none⟩) i c3] 38)).drew w5.heap.size 38 #[.slice (some ⟨g, i * 21, none⟩) (os2.length - i) (c3 - i), .slice (some ⟨g, 0, none⟩) i c3] from Has.fresh w5 38 #[.slice (some ⟨g, i * 21, none⟩) (os2.length - i) (c3 - i), .slice (some ⟨g, 0, none⟩) i c3])
        have HSD := Lib.hid (show Fc.SRow (w5.alloc (.cells #[.slice (some ⟨g, i * 21, none⟩) (os2.length - i) (c3 - i), .slice (some ⟨g, 0, none⟩) i c3] 38)).drew 21 Fc.eventC (some ⟨g, i * 21, none⟩) (os2.length - i) (os2.drop i) from by have q := srow_drop (hv2.below hd0) i; rw [Nat.zero_add] at q; exact q)
        have HST := Lib.hid (show Fc.SRow (w5.alloc (.cells #[.slice (some ⟨g, i * 21, none⟩) (os2.length - i) (c3 - i), .slice (some ⟨g, 0, none⟩) i c3] 38)).drew 21 Fc.eventC (some ⟨g, 0, none⟩) i (os2.take i) from srow_take (hv2.below hd0) hle)
        have HCC := Lib.hid (concat_any w5.heap.size i c3 ⟨g, i * 21, none⟩ (os2.length - i) (c3 - i) (os2.drop i) (by omega) ⟨g, 0, none⟩ (os2.take i) (by omega) _ HT0.out HSD.out HST.out)
        have HD0 := Lib.hid hd0
        clear hU hU0 hi hv hv2 hd0
        go_wp2_with fail
        refine wp_region_held_drew (S := fun _ => True) (by kernel_rfl) trivial (fun hHeld => ?_)
        refine Vc.wpAnyH_read (i := 0) (d := some 31) (v := ?v1) (by rfl) (by rfl) (by kernel_rfl) (by kernel_rfl) (by kernel_rfl) (fun _ _ _ h => h) (by rfl) ?hy1 (by assumption) ?rest1
        case hy1 =>
          intro w hSw
          go_simp
          try with_reducible rfl
        (try simp only [Act.put, List.setIfInBounds_toArray, List.set_cons_zero, List.set_cons_succ])
        refine Vc.wpAnyH_read (i := 1) (d := some 32) (v := ?v2) (by rfl) (by rfl) (by kernel_rfl) (by kernel_rfl) (by kernel_rfl) (fun _ _ _ h => h) (by rfl) ?hy2 (by assumption) ?rest2
        case hy2 =>
          intro w hSw
          go_simp
          try with_reducible rfl
        (try simp only [Act.put, List.setIfInBounds_toArray, List.set_cons_zero, List.set_cons_succ])
        refine Vc.wpAnyH_read (i := 2) (d := some 33) (v := .slice (some ⟨g, i * 21, none⟩) (os2.length - i) (c3 - i)) (by rfl) (by rfl) (by kernel_rfl) (by kernel_rfl) (by kernel_rfl) (fun _ _ _ h => h) (by rfl) ?hy3 (by assumption) ?rest3
        case hy3 =>
          intro w hSw
          go_simp
          all_goals first | omega | (exact ⟨fun hh => absurd hh (by omega), rfl⟩)
        (try simp only [Act.put, List.setIfInBounds_toArray, List.set_cons_zero, List.set_cons_succ])
        refine Vc.wpAnyH_read (i := 3) (d := some 34) (v := ?v4) (by rfl) (by rfl) (by kernel_rfl) (by kernel_rfl) (by kernel_rfl) (fun _ _ _ h => h) (by rfl) ?hy4 (by assumption) ?rest4
        case hy4 =>
          intro w hSw
          go_simp
          try with_reducible rfl
        (try simp only [Act.put, List.setIfInBounds_toArray, List.set_cons_zero, List.set_cons_succ])
        refine Vc.wpAnyH_read (i := 4) (d := some 35) (v := ?v5) (by rfl) (by rfl) (by kernel_rfl) (by kernel_rfl) (by kernel_rfl) (fun _ _ _ h => h) (by rfl) ?hy5 (by assumption) ?rest5
        case hy5 =>
          intro w hSw
          go_simp
          try with_reducible rfl
        (try simp only [Act.put, List.setIfInBounds_toArray, List.set_cons_zero, List.set_cons_succ])
        refine Vc.wpAnyH_read (i := 5) (d := some 36) (v := .slice (some ⟨g, 0, none⟩) i c3) (by rfl) (by rfl) (by kernel_rfl) (by kernel_rfl) (by kernel_rfl) (fun _ _ _ h => h) (by rfl) ?hy6 (by assumption) ?rest6
        case hy6 =>
          intro w hSw
          go_simp
          try with_reducible rfl
        (try simp only [Act.put, List.setIfInBounds_toArray, List.set_cons_zero, List.set_cons_succ])
        refine wpAnyH_ready (rs := [6]) (by kernel_rfl) (by simp) ?_
        refine AllReadyH.cons rfl (fun K hK => ?_) AllReadyH.nil
        go_simp
        refine hK.out _ _ trivial (fun hHeld => ?_)
        clear hK K
        (try simp only [Act.put, List.setIfInBounds_toArray, List.set_cons_zero, List.set_cons_succ])
        refine wpAnyH_ready (rs := [7]) (by kernel_rfl) (by simp) ?_
        refine AllReadyH.cons rfl (fun K hK => ?_) AllReadyH.nil
        go_simp
        go_at_call 21
        refine HCC.out.mono ?_
        rintro qq w6 ⟨v6, rfl, ho6, hb6⟩
        have HO6 := Lib.hid ho6
        have HB6 := Lib.hid hb6
        clear ho6 hb6
        refine hK.out _ _ trivial (fun hHeld => ?_)
        clear hK K
        (try simp only [Act.put, List.setIfInBounds_toArray, List.set_cons_zero, List.set_cons_succ])
        refine Vc.wpAnyH_read (i := 8) (d := some 6) (v := ?v7) (by rfl) (by rfl) (by kernel_rfl) (by kernel_rfl) (by kernel_rfl) (fun _ _ _ h => h) (by rfl) ?hy7 (by assumption) ?rest7
        case hy7 =>
          intro w hSw
          go_simp
          try with_reducible rfl
        (try simp only [Act.put, List.setIfInBounds_toArray, List.set_cons_zero, List.set_cons_succ])
        refine wpAnyH_done (by kernel_rfl) ?_ _
        obtain ⟨kl, hkl⟩ : ∃ kl, kl = os2.drop i ++ os2.take i := ⟨_, rfl⟩
        have ho7 := HO6.out
        rw [← hkl] at ho7 HOR
        have HKL := Lib.hid (show kl.length = os2.length by rw [hkl, List.length_append, List.length_drop, List.length_take]; omega)
        clear HO6 hkl
        obtain ⟨A6, c6, rfl, hnil, hsome⟩ := eown_sl ho7
        have HXK := Lib.hid (eown_srow ho7)
        have HXT := Lib.hid (HX5.out.below (HD0.out.trans (HB6.out.mono HD0.out.size)))
        have HBT := Lib.hid (HB5.out.trans ((HD0.out.trans (HB6.out.mono HD0.out.size)).mono HB5.out.size))
        clear HB5 HX5 HSR HT0 HSD HST HCC ho7 hnil hsome hU2 hpos hmod a0 a1 a2 hii
        go_wp2_with fail
        have HO4 := Lib.hid (order_all A6 kl.length c6 kl (by rw [HKL.out]; omega) w6 HXK.out)
        go_at_call 13
        refine HO4.out.mono ?_
        intro q w7 ho
        obtain ⟨A7, c7, os7, rfl, o1, o2, o3, o4⟩ := ord_row ho
        have e7 : os7 = os2 := o1.uniq HOR.out
        have HX7 := Lib.hid o3
        rw [e7] at HX7
        have HX8 := Lib.hid (HXT.out.below o4)
        have HB7 := Lib.hid (HBT.out.trans (o4.mono HBT.out.size))
        rw [e7]
        clear ho o1 o2 o3 o4 HO4 e7
        have HS2 := Lib.hid (Smr.sames_self A7 A1 os2.length c7 c1 os2 (by omega) w7 HX7.out HX8.out (HFO.out _ HB7.out))
        go_wp2_with fail
        go_at_call 12
        refine HS2.out.mono ?_
        rintro q w8 ⟨rfl, hb⟩
        have HB8 := Lib.hid (HB7.out.trans (hb.mono HB7.out.size))
        clear hb HS2
        go_wp2_with fail
        go_at_call 10
        refine (Sr.awake_any _ (HTT.out _ HB8.out)).mono ?_
        rintro q w9 ⟨rfl, hb⟩
        have HB9 := Lib.hid (HB8.out.trans (hb.mono HB8.out.size))
        clear hb
        go_wp2
        go_ret
        exact ⟨rfl, HB9.out⟩
end Go.Proofs.YtdbmnnmcelaehaaDoor.Stab
