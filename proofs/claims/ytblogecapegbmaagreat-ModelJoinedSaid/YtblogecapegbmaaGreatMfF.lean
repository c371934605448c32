/- Model: the law ModelJoined walked. -/
import Derived.Test.YtblogecapegbmaaGreatMfE
namespace Go.Proofs.YtblogecapegbmaaGreat.Jn
open Go.RowKit Go.Proofs.YtblogecapegbmaaGreat.Mem
set_option linter.unusedVariables false set_option linter.unusedSimpArgs false

set_option maxRecDepth 100000 in
set_option maxHeartbeats 16000000 in
theorem joined_walk (w : World) (A : Option Addr) (n c : Nat) (es : List Fc.EventC) (A2 : Option Addr) (n2 c2 : Nat) (ks : List Fc.EventC) (hr : Fc.SRow w 21 Fc.eventC A n es) (hf : ∀ y ∈ es, EvOk w y) (hz : A = none → n = 0 ∧ c = 0) (hnc : n ≤ c) (hcm : c ≤ maxLen) (hr2 : Fc.SRow w 21 Fc.eventC A2 n2 ks) (hf2 : ∀ y ∈ ks, EvOk w y) (hz2 : A2 = none → n2 = 0 ∧ c2 = 0) (hnc2 : n2 ≤ c2) (hcm2 : c2 ≤ maxLen) :
    Calls Tryz.prog 10 #[.slice A n c, .slice A2 n2 c2] w fun e w' => e = .returned (.bool true) ∧ Below w.heap.size w w' := by
  have hb1 := (Below.refl w.heap.size w).alloc (Nat.le_refl _) (.cells #[.slice A n c, .slice A2 n2 c2] 56)
  have h1 := Has.fresh w 56 #[.slice A n c, .slice A2 n2 c2]
  have HB1 := Lib.hid hb1
  have HR := Lib.hid hr
  have HR2 := Lib.hid hr2
  have HZ := Lib.hid (And.intro hz hz2)
  have HE := Lib.hid (show ∀ V, Below w.heap.size w V → ∀ e ∈ es, EvOk V e from fun V h e he => (hf e he).low h)
  have HE2 := Lib.hid (show ∀ V, Below w.heap.size w V → ∀ e ∈ ks, EvOk V e from fun V h e he => (hf2 e he).low h)
  have HS := Lib.hid (smallE_any w.heap.size 2 [⟨A, n, c, es⟩, ⟨A2, n2, c2, ks⟩] (by simp) (w.alloc (.cells #[.slice A n c, .slice A2 n2 c2] 56)) ⟨by simp, fun i hi => by
    match i, hi with
    | 0, _ => exact h1.at_ 0
    | 1, _ => exact h1.at_ 1
    | i + 2, hi => simp at hi; omega⟩ (fun p hp => by
    rcases List.mem_cons.1 hp with rfl | hp
    · exact ⟨⟨hr.below hb1, hz⟩, by show n ≤ 9223372036854775807; unfold maxLen at hcm; omega⟩
    · rw [List.mem_singleton.1 hp]
      exact ⟨⟨hr2.below hb1, hz2⟩, by show n2 ≤ 9223372036854775807; unfold maxLen at hcm2; omega⟩) (fun p hp e he => by
    rcases List.mem_cons.1 hp with rfl | hp
    · exact ((hf e he).1.1).below hb1
    · rw [List.mem_singleton.1 hp] at he
      exact ((hf2 e he).1.1).below hb1))
  clear hr hf hz hcm hr2 hf2 hz2 hcm2 hb1 h1
  go_enter Tryz.func10, Tryz.ntmps10
  go_wp2_with fail
  refine HS.out.mono ?_
  rintro e w2 ⟨⟨bo, rfl, hs⟩, hb⟩
  have HI_0 := Lib.hid (HB1.out.trans (hb.mono HB1.out.size))
  have HSS := Lib.hid hs
  clear hs hb HS HB1
  cases bo with
  | false =>
    go_wp2_with fail
    refine (Md.awake_any _).mono ?_
    rintro e w3 ⟨rfl, hb⟩
    have HI := Lib.hid (HI_0.out.trans (hb.mono HI_0.out.size))
    clear hb
    go_wp2
    go_ret
    exact ⟨rfl, HI.out⟩
  | true =>
    have HN := Lib.hid (show (n ≤ 60 ∧ es.length ≤ 60) ∧ (n2 ≤ 60 ∧ ks.length ≤ 60) ∧ n + n2 ≤ 60 from by
      have q := (HSS.out rfl).1
      have e1 : sumR [(⟨A, n, c, es⟩ : RowP Fc.EventC), ⟨A2, n2, c2, ks⟩] = n + n2 := by simp [sumR]
      have e2 := HR.out.len
      have e3 := HR2.out.len
      omega)
    have HOK := Lib.hid (show ∀ e ∈ es, FoldOk 1300 e.d.p from fun e he => (HE.out w (Below.refl _ _) e he).ok ((HSS.out rfl).2 ⟨A, n, c, es⟩ List.mem_cons_self e he))
    have HOK2 := Lib.hid (show ∀ e ∈ ks, FoldOk 1300 e.d.p from fun e he => (HE2.out w (Below.refl _ _) e he).ok ((HSS.out rfl).2 ⟨A2, n2, c2, ks⟩ (by simp) e he))
    clear HSS
    have HLA := Lib.hid (fold_lim HOK.out (Nat.le_trans HN.out.1.2 (by decide)))
    have HLB := Lib.hid (fold_lim HOK2.out (Nat.le_trans HN.out.2.1.2 (by decide)))
    have HTA := Lib.hid (fold_ok HOK.out)
    have HTB := Lib.hid (fold_ok HOK2.out)
    have HSA := Lib.hid (show SumOk (foldP es).nodes from ⟨Nat.le_trans HLA.out.ps (by decide), Nat.le_trans HLA.out.xs (by decide), HTA.out.txt⟩)
    have HSB := Lib.hid (show SumOk (foldP ks).nodes from ⟨Nat.le_trans HLB.out.ps (by decide), Nat.le_trans HLB.out.xs (by decide), HTB.out.txt⟩)
    have HLC := Lib.hid (limP_join HLA.out HLB.out)
    go_wp2_with fail
    refine (fold_any A n c es (Nat.le_trans HN.out.1.1 (by decide)) _ (HR.out.below HI_0.out) (fun e he => (HE.out _ HI_0.out e he).isIn) HOK.out).mono ?_
    rintro e w20 ⟨s1, rfl, hp, ho, hb⟩
    have HI_1 := Lib.hid (HI_0.out.trans (hb.mono HI_0.out.size))
    have Ps1 := Lib.hid hp
    have Ns1_1 := Lib.hid ho
    clear hp ho hb HI_0 
    go_wp2_with fail
    refine (fold_any A2 n2 c2 ks (Nat.le_trans HN.out.2.1.1 (by decide)) _ (HR2.out.below HI_1.out) (fun e he => (HE2.out _ HI_1.out e he).isIn) HOK2.out).mono ?_
    rintro e w21 ⟨s2, rfl, hp, ho, hb⟩
    have HI_2 := Lib.hid (HI_1.out.trans (hb.mono HI_1.out.size))
    have Ns1_2 := Lib.hid (Ns1_1.out.low hb)
    have Ps2 := Lib.hid hp
    have Ns2_2 := Lib.hid ho
    clear hp ho hb HI_1 Ns1_1
    have L1 := Lib.hid (limS_of Ns1_2.out.in_ (by rw [Ps1.out]; exact HLA.out))
    have L2 := Lib.hid (limS_of Ns2_2.out.in_ (by rw [Ps2.out]; exact HLB.out))
    go_wp2_with fail
    refine (states_any s1 s2 _ Ns1_2.out.in_ Ns2_2.out.in_ L1.out L2.out (by decide)).mono ?_
    rintro e w30 ⟨x, rfl, hp, ho, hb⟩
    have HI_3 := Lib.hid (HI_2.out.trans (hb.mono HI_2.out.size))
    have Px := Lib.hid (show x.p = joinP (foldP es) (foldP ks) from by rw [hp, Ps1.out, Ps2.out])
    have NX0 := Lib.hid (ho.mono (Nat.zero_le _))
    have hbn := (Below.refl w30.heap.size w30).alloc (Nat.le_refl _) (.cells (Fc.stateC x) 27)
    have HI_4 := Lib.hid (HI_3.out.trans (hbn.mono HI_3.out.size))
    have Nx_4 := Lib.hid (NX0.out.low hbn)
    obtain ⟨g5, hg5⟩ : ∃ g, g = w30.heap.size := ⟨_, rfl⟩
    have V5_4 := Lib.hid (show Has (w30.alloc (.cells (Fc.stateC x) 27)) g5 27 (Fc.stateC x) from by rw [hg5]; exact Has.fresh w30 27 (Fc.stateC x))
    have HG5 := Lib.hid hg5
    clear hp ho hb hbn NX0 HI_2 HI_3 Ns1_2 Ns2_2 L1 L2 Ps1 Ps2 hg5
    go_wp2_with (first | ((with_reducible refine Who.wpList_newC 27 5 (.tmp 17) rfl rfl rfl (zeroS) (Fc.stateC x) ?_); refine And.intro ⟨rfl, rfl, rfl, allocS, by rfl, by rfl, info_state, rfl, state_one _⟩ ?_; (try simp only [Act.put, List.setIfInBounds_toArray, List.set_cons_zero, List.set_cons_succ]); (try simp only [World.size_alloc])) | fail)
    rw [← HG5.out]
    refine (rfold_any A n c es (Nat.le_trans HN.out.1.1 (by decide)) _ (HR.out.below HI_4.out) (fun e he => (HE.out _ HI_4.out e he).isIn) HOK.out).mono ?_
    rintro e w24 ⟨r1, rfl, hp, ho, hb⟩
    have HI_5 := Lib.hid (HI_4.out.trans (hb.mono HI_4.out.size))
    have Nx_5 := Lib.hid (Nx_4.out.low hb)
    have V5_5 := Lib.hid (V5_4.out.below hb)
    have Pr1 := Lib.hid hp
    have Nr1_5 := Lib.hid ho
    clear hp ho hb HI_4 Nx_4 V5_4
    go_wp2_with fail
    refine (rfold_any A2 n2 c2 ks (Nat.le_trans HN.out.2.1.1 (by decide)) _ (HR2.out.below HI_5.out) (fun e he => (HE2.out _ HI_5.out e he).isIn) HOK2.out).mono ?_
    rintro e w25 ⟨r2, rfl, hp, ho, hb⟩
    have HI_6 := Lib.hid (HI_5.out.trans (hb.mono HI_5.out.size))
    have Nx_6 := Lib.hid (Nx_5.out.low hb)
    have V5_6 := Lib.hid (V5_5.out.below hb)
    have Nr1_6 := Lib.hid (Nr1_5.out.low hb)
    have Pr2 := Lib.hid hp
    have Nr2_6 := Lib.hid ho
    clear hp ho hb HI_5 Nx_5 V5_5 Nr1_5
    have L1 := Lib.hid (limS_of Nr1_6.out.in_ (by rw [Pr1.out]; exact HLA.out))
    have L2 := Lib.hid (limS_of Nr2_6.out.in_ (by rw [Pr2.out]; exact HLB.out))
    go_wp2_with fail
    refine (rstates_any r1 r2 _ Nr1_6.out.in_ Nr2_6.out.in_ (by have q := HSA.out; rw [← Pr1.out] at q; exact q) (by have q := HSB.out; rw [← Pr2.out] at q; exact q) (by have q := HTA.out.names; rw [← Pr1.out] at q; exact q) (by have q := HTB.out.names; rw [← Pr2.out] at q; exact q) ⟨Nat.le_trans L1.out.n1 (by decide), Nat.le_trans L1.out.n2 (by decide)⟩ ⟨Nat.le_trans L2.out.n1 (by decide), Nat.le_trans L2.out.n2 (by decide)⟩).mono ?_
    rintro e w40 ⟨y, rfl, hp, ho, hb⟩
    have HI_7 := Lib.hid (HI_6.out.trans (hb.mono HI_6.out.size))
    have Nx_7 := Lib.hid (Nx_6.out.low hb)
    have V5_7 := Lib.hid (V5_6.out.below hb)
    have Py := Lib.hid (show y.p = x.p from by rw [hp, Pr1.out, Pr2.out, Px.out])
    have NY0 := Lib.hid ho
    have hbn := (Below.refl w40.heap.size w40).alloc (Nat.le_refl _) (.cells (Fc.stateC y) 27)
    have HI_8 := Lib.hid (HI_7.out.trans (hbn.mono HI_7.out.size)).drew
    have Nx_8 := Lib.hid ((Nx_7.out.low hbn).low (Below.refl _ _).drew)
    have V5_8 := Lib.hid (V5_7.out.below hbn).drew
    have Ny_8 := Lib.hid ((NY0.out.low hbn).low (Below.refl _ _).drew)
    obtain ⟨g6, hg6⟩ : ∃ g, g = w40.heap.size := ⟨_, rfl⟩
    have V6_8 := Lib.hid (show Has (w40.alloc (.cells (Fc.stateC y) 27)).drew g6 27 (Fc.stateC y) from by rw [hg6]; exact (Has.fresh w40 27 (Fc.stateC y)).drew)
    have HG6 := Lib.hid hg6
    have HLX := Lib.hid (limS_of Nx_8.out.in_ (by rw [Px.out]; exact HLC.out))
    have HLY := Lib.hid (limS_of Ny_8.out.in_ (by rw [Py.out, Px.out]; exact HLC.out))
    clear hp ho hb hbn NY0 HI_6 HI_7 Nr1_6 Nr2_6 Nx_6 Nx_7 V5_6 V5_7 L1 L2 Pr1 Pr2 hg6
    go_wp2_with (first | ((with_reducible refine Who.wpList_newC 27 6 (.tmp 22) rfl rfl rfl (zeroS) (Fc.stateC y) ?_); refine And.intro ⟨rfl, rfl, rfl, allocS, by rfl, by rfl, info_state, rfl, state_one _⟩ ?_; (try simp only [Act.put, List.setIfInBounds_toArray, List.set_cons_zero, List.set_cons_succ]); (try simp only [World.size_alloc])) | fail)
    rw [← HG6.out]
    refine wp_region_held_drew (S := fun V => Has V g5 27 (Fc.stateC x) ∧ Has V g6 27 (Fc.stateC y)) (by kernel_rfl) ⟨V5_8.out, V6_8.out⟩ (fun hHeld => ?_)
    refine Vc.wpAnyH_read (i := 0) (d := some 23) (v := .agg (Fc.stateC x)) (by rfl) (by rfl) (by kernel_rfl) (by kernel_rfl) (by kernel_rfl) (fun _ _ _ h => h) (by rfl) ?hy1001 (by assumption) ?rest1001
    case hy1001 =>
      intro w hSw
      exact Who.exec_loadA _ rfl rfl (Who.has_range hSw.1) Tryz.underlying27 rfl info_state
    try simp only [Act.put, List.setIfInBounds_toArray, List.set_cons_zero, List.set_cons_succ]
    refine Vc.wpAnyH_read (i := 1) (d := some 24) (v := .agg (Fc.stateC y)) (by rfl) (by rfl) (by kernel_rfl) (by kernel_rfl) (by kernel_rfl) (fun _ _ _ h => h) (by rfl) ?hy1002 (by assumption) ?rest1002
    case hy1002 =>
      intro w hSw
      exact Who.exec_loadA _ rfl rfl (Who.has_range hSw.2) Tryz.underlying27 rfl info_state
    try simp only [Act.put, List.setIfInBounds_toArray, List.set_cons_zero, List.set_cons_succ]
    refine wpAnyH_ready (rs := [2]) (by kernel_rfl) (by simp) ?_
    refine AllReadyH.cons rfl (fun K hK => ?_) AllReadyH.nil
    go_simp
    go_at_call 15
    refine (rsame_yes x y _ (row_in Nx_8.out.in_ HLX.out (by decide)) (row_in Ny_8.out.in_ HLY.out (by decide)) (Py.out)).mono ?_
    rintro e w49 ⟨rfl, hb⟩
    have HI_9 := Lib.hid (HI_8.out.trans (hb.mono HI_8.out.size))
    have Nx_9 := Lib.hid (Nx_8.out.low hb)
    have V5_9 := Lib.hid (V5_8.out.below hb)
    have V6_9 := Lib.hid (V6_8.out.below hb)
    clear hb HI_8 Nx_8 V5_8 V6_8 Ny_8
    refine hK.out _ _ ⟨V5_9.out, V6_9.out⟩ (fun hHeld => ?_)
    clear hK K
    try simp only [Act.put, List.setIfInBounds_toArray, List.set_cons_zero, List.set_cons_succ]
    refine Vc.wpAnyH_read (i := 3) (d := some 26) (v := ?v1003) (by rfl) (by rfl) (by kernel_rfl) (by kernel_rfl) (by kernel_rfl) (fun _ _ _ h => h) (by rfl) ?hy1003 (by assumption) ?rest1003
    case hy1003 =>
      intro w hSw
      try dsimp only at hSw
      go_simp
      try with_reducible rfl
    try simp only [Act.put, List.setIfInBounds_toArray, List.set_cons_zero, List.set_cons_succ]
    refine Vc.wpAnyH_read (i := 4) (d := some 27) (v := .agg (Fc.stateC x)) (by rfl) (by rfl) (by kernel_rfl) (by kernel_rfl) (by kernel_rfl) (fun _ _ _ h => h) (by rfl) ?hy1004 (by assumption) ?rest1004
    case hy1004 =>
      intro w hSw
      exact Who.exec_loadA _ rfl rfl (Who.has_range hSw.1) Tryz.underlying27 rfl info_state
    try simp only [Act.put, List.setIfInBounds_toArray, List.set_cons_zero, List.set_cons_succ]
    refine Vc.wpAnyH_read (i := 5) (d := some 28) (v := ?v1005) (by rfl) (by rfl) (by kernel_rfl) (by kernel_rfl) (by kernel_rfl) (fun _ _ _ h => h) (by rfl) ?hy1005 (by assumption) ?rest1005
    case hy1005 =>
      intro w hSw
      try dsimp only at hSw
      go_simp
      try with_reducible rfl
    try simp only [Act.put, List.setIfInBounds_toArray, List.set_cons_zero, List.set_cons_succ]
    refine Vc.wpAnyH_read (i := 7) (d := some 30) (v := ?v1006) (by rfl) (by rfl) (by kernel_rfl) (by kernel_rfl) (by kernel_rfl) (fun _ _ _ h => h) (by rfl) ?hy1006 (by assumption) ?rest1006
    case hy1006 =>
      intro w hSw
      try dsimp only at hSw
      go_simp
      try with_reducible rfl
    try simp only [Act.put, List.setIfInBounds_toArray, List.set_cons_zero, List.set_cons_succ]
    refine wpAnyH_ready (rs := [6]) (by kernel_rfl) (by simp) ?_
    refine AllReadyH.cons rfl (fun K hK => ?_) AllReadyH.nil
    go_simp
    go_at_call 31
    refine (cloneE_any A n c es (by have := HN.out.1.1; omega) _ ⟨HR.out.below HI_9.out, HZ.out.1⟩).mono ?_
    rintro e w50 ⟨v, rfl, ho, hb⟩
    have HBC := Lib.hid hb
    have HI_10 := Lib.hid (HI_9.out.trans (hb.mono HI_9.out.size))
    have V5_10 := Lib.hid (V5_9.out.below hb)
    have V6_10 := Lib.hid (V6_9.out.below hb)
    have O_10 := Lib.hid ho
    obtain ⟨A7, c7, hv7, _⟩ := O_10.out.any
    subst hv7
    clear ho hb
    refine hK.out _ _ ⟨V5_10.out, V6_10.out⟩ (fun hHeld => ?_)
    clear hK K
    try simp only [Act.put, List.setIfInBounds_toArray, List.set_cons_zero, List.set_cons_succ]
    refine wpAnyH_ready (rs := [8]) (by kernel_rfl) (by simp) ?_
    refine AllReadyH.cons rfl (fun K hK => ?_) AllReadyH.nil
    skip
    refine step_rowK kdE (.tmp 29) (.tmp 30) (by rfl) (B := w49.heap.size) (w0 := w49) (u := .slice A7 es.length c7) (es := es) (ys := ks) (A := A2) (n := n2) (c := c2) ?_
    refine ⟨⟨by rfl, by rfl, by rfl⟩, O_10.out, ⟨Nat.le_refl _, HBC.out⟩, by have := HN.out; omega, HR2.out.below HI_10.out, HZ.out.2, ?_⟩
    intro v8 w51 ho hb
    obtain ⟨fs, hfs⟩ : ∃ fs, fs = es ++ ks := ⟨_, rfl⟩
    rw [← hfs] at ho
    have HFS := Lib.hid hfs
    clear hfs
    have O_11 := Lib.hid ho
    have HI_11 := Lib.hid (HI_9.out.trans (hb.mono HI_9.out.size))
    have Nx_11 := Lib.hid (Nx_9.out.low hb)
    have V5_11 := Lib.hid (V5_9.out.below hb)
    have V6_11 := Lib.hid (V6_9.out.below hb)
    obtain ⟨A8, c8, hv8, _⟩ := O_11.out.any
    subst hv8
    clear ho hb O_10 HBC HI_9 HI_10 V5_10 V6_10 Nx_9 V5_9 V6_9
    refine hK.out _ _ ⟨V5_11.out, V6_11.out⟩ (fun hHeld => ?_)
    clear hK K
    try simp only [Act.put, List.setIfInBounds_toArray, List.set_cons_zero, List.set_cons_succ]
    refine wpAnyH_ready (rs := [9]) (by kernel_rfl) (by simp) ?_
    refine AllReadyH.cons rfl (fun K hK => ?_) AllReadyH.nil
    go_simp
    go_at_call 27
    refine (fold_any A8 fs.length c8 fs (by rw [HFS.out, List.length_append]; have := HN.out; omega) _ (O_11.out.srow2 (fun _ => rfl) rfl) (fun e he => (List.mem_append.1 (HFS.out ▸ he)).elim (fun q => (HE.out _ HI_11.out e q).isIn) (fun q => (HE2.out _ HI_11.out e q).isIn)) (fun e he => (List.mem_append.1 (HFS.out ▸ he)).elim (HOK.out e) (HOK2.out e))).mono ?_
    rintro e w52 ⟨s5, rfl, hp, ho, hb⟩
    have P5 := Lib.hid (show s5.p = x.p from by rw [hp, Px.out, foldP_app, HFS.out])
    have HL5 := Lib.hid (limS_of ho.in_ (by rw [P5.out, Px.out]; exact HLC.out))
    have HI_12 := Lib.hid (HI_11.out.trans (hb.mono HI_11.out.size))
    have Nx_12 := Lib.hid (Nx_11.out.low hb)
    have V5_12 := Lib.hid (V5_11.out.below hb)
    have V6_12 := Lib.hid (V6_11.out.below hb)
    have Ns5_12 := Lib.hid ho
    clear hp ho hb O_11 HI_11 Nx_11 V5_11 V6_11
    refine hK.out _ _ ⟨V5_12.out, V6_12.out⟩ (fun hHeld => ?_)
    clear hK K
    try simp only [Act.put, List.setIfInBounds_toArray, List.set_cons_zero, List.set_cons_succ]
    refine wpAnyH_ready (rs := [10]) (by kernel_rfl) (by simp) ?_
    refine AllReadyH.cons rfl (fun K hK => ?_) AllReadyH.nil
    go_simp
    go_at_call 15
    refine (rsame_yes x s5 _ (row_in Nx_12.out.in_ HLX.out (by decide)) (row_in Ns5_12.out.in_ HL5.out (by decide)) (P5.out)).mono ?_
    rintro e w53 ⟨rfl, hb⟩
    have HI_13 := Lib.hid (HI_12.out.trans (hb.mono HI_12.out.size))
    have Nx_13 := Lib.hid (Nx_12.out.low hb)
    have V5_13 := Lib.hid (V5_12.out.below hb)
    have V6_13 := Lib.hid (V6_12.out.below hb)
    clear hb HI_12 Nx_12 V5_12 V6_12 Ns5_12
    refine hK.out _ _ ⟨V5_13.out, V6_13.out⟩ (fun hHeld => ?_)
    clear hK K
    try simp only [Act.put, List.setIfInBounds_toArray, List.set_cons_zero, List.set_cons_succ]
    refine Vc.wpAnyH_read (i := 11) (d := some 34) (v := ?v1007) (by rfl) (by rfl) (by kernel_rfl) (by kernel_rfl) (by kernel_rfl) (fun _ _ _ h => h) (by rfl) ?hy1007 (by assumption) ?rest1007
    case hy1007 =>
      intro w hSw
      try dsimp only at hSw
      go_simp
      try with_reducible rfl
    try simp only [Act.put, List.setIfInBounds_toArray, List.set_cons_zero, List.set_cons_succ]
    refine Vc.wpAnyH_read (i := 12) (d := some 35) (v := ?v1008) (by rfl) (by rfl) (by kernel_rfl) (by kernel_rfl) (by kernel_rfl) (fun _ _ _ h => h) (by rfl) ?hy1008 (by assumption) ?rest1008
    case hy1008 =>
      intro w hSw
      try dsimp only at hSw
      go_simp
      try with_reducible rfl
    try simp only [Act.put, List.setIfInBounds_toArray, List.set_cons_zero, List.set_cons_succ]
    refine wpAnyH_ready (rs := [13]) (by kernel_rfl) (by simp) ?_
    refine AllReadyH.cons rfl (fun K hK => ?_) AllReadyH.nil
    go_simp
    go_at_call 26
    refine (Md.awake_any _).mono ?_
    rintro e w54 ⟨rfl, hb⟩
    have HI_14 := Lib.hid (HI_13.out.trans (hb.mono HI_13.out.size))
    have Nx_14 := Lib.hid (Nx_13.out.low hb)
    have V5_14 := Lib.hid (V5_13.out.below hb)
    have V6_14 := Lib.hid (V6_13.out.below hb)
    clear hb HI_13 Nx_13 V5_13 V6_13
    refine hK.out _ _ ⟨V5_14.out, V6_14.out⟩ (fun hHeld => ?_)
    clear hK K
    try simp only [Act.put, List.setIfInBounds_toArray, List.set_cons_zero, List.set_cons_succ]
    refine Vc.wpAnyH_read (i := 14) (d := some 37) (v := ?v1009) (by rfl) (by rfl) (by kernel_rfl) (by kernel_rfl) (by kernel_rfl) (fun _ _ _ h => h) (by rfl) ?hy1009 (by assumption) ?rest1009
    case hy1009 =>
      intro w hSw
      try dsimp only at hSw
      go_simp
      try with_reducible rfl
    try simp only [Act.put, List.setIfInBounds_toArray, List.set_cons_zero, List.set_cons_succ]
    refine Vc.wpAnyH_read (i := 15) (d := some 4) (v := ?v1010) (by rfl) (by rfl) (by kernel_rfl) (by kernel_rfl) (by kernel_rfl) (fun _ _ _ h => h) (by rfl) ?hy1010 (by assumption) ?rest1010
    case hy1010 =>
      intro w hSw
      try dsimp only at hSw
      go_simp
      try with_reducible rfl
    try simp only [Act.put, List.setIfInBounds_toArray, List.set_cons_zero, List.set_cons_succ]
    refine wpAnyH_done (by kernel_rfl) ?_ _
    go_wp2
    go_ret
    exact ⟨rfl, HI_14.out⟩
end Go.Proofs.YtblogecapegbmaaGreat.Jn
