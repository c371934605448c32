/- Model: the law ModelFolds walked. -/
import Derived.Test.YtblogecapegbmaaGreatMfC
namespace Go.Proofs.YtblogecapegbmaaGreat.Jn
open Go.RowKit Go.Proofs.YtblogecapegbmaaGreat.Mem
set_option linter.unusedVariables false set_option linter.unusedSimpArgs false

set_option maxRecDepth 100000 in
set_option maxHeartbeats 16000000 in
theorem folds_walk (w : World) (A : Option Addr) (n c : Nat) (es : List Fc.EventC) (a b : Fc.EventC) (hr : Fc.SRow w 21 Fc.eventC A n es) (hf : ∀ y ∈ es, EvOk w y) (hz : A = none → n = 0 ∧ c = 0) (hnc : n ≤ c) (hcm : c ≤ maxLen) (fa : Fc.EventFit w a) (na : Fc.NilS a.d) (fb : Fc.EventFit w b) (nb : Fc.NilS b.d) :
    Calls Tryz.prog 8 #[.slice A n c, .agg (Fc.eventC a), .agg (Fc.eventC b)] w fun e w' => e = .returned (.bool true) ∧ Below w.heap.size w w' := by
  have hb2 := ((Below.refl w.heap.size w).alloc (Nat.le_refl _) (.cells (Fc.eventC a) 58)).alloc (by simp) (.cells (Fc.eventC b) 58)
  have hb3 := hb2.alloc (by simp; omega) (.cells (Fc.eventC a ++ Fc.eventC b) 58)
  have hb4 := hb3.alloc (by simp; omega) (.cells #[.slice A n c, .slice (some ⟨w.heap.size + 1 + 1, 0, none⟩) 2 2] 56)
  have hx := (Has.fresh w 58 (Fc.eventC a)).past (.cells (Fc.eventC b) 58)
  have hy := Has.fresh (w.alloc (.cells (Fc.eventC a) 58)) 58 (Fc.eventC b)
  rw [World.size_alloc] at hy
  have h3 := Has.fresh ((w.alloc (.cells (Fc.eventC a) 58)).alloc (.cells (Fc.eventC b) 58)) 58 (Fc.eventC a ++ Fc.eventC b)
  rw [World.size_alloc, World.size_alloc] at h3
  have h4 := Has.fresh (((w.alloc (.cells (Fc.eventC a) 58)).alloc (.cells (Fc.eventC b) 58)).alloc (.cells (Fc.eventC a ++ Fc.eventC b) 58)) 56 #[.slice A n c, .slice (some ⟨w.heap.size + 1 + 1, 0, none⟩) 2 2]
  rw [World.size_alloc, World.size_alloc, World.size_alloc] at h4
  have HX0 := Lib.hid hx
  have HY0 := Lib.hid hy
  have HX1 := Lib.hid ((hx.past (.cells (Fc.eventC a ++ Fc.eventC b) 58)).past (.cells #[.slice A n c, .slice (some ⟨w.heap.size + 1 + 1, 0, none⟩) 2 2] 56))
  have HY1 := Lib.hid ((hy.past (.cells (Fc.eventC a ++ Fc.eventC b) 58)).past (.cells #[.slice A n c, .slice (some ⟨w.heap.size + 1 + 1, 0, none⟩) 2 2] 56))
  have HB4 := Lib.hid hb4
  have HR := Lib.hid hr
  have HE := Lib.hid (show ∀ V, Below w.heap.size w V → ∀ e ∈ es, EvOk V e from fun V h e he => (hf e he).low h)
  have HS := Lib.hid (smallE_any (w.heap.size + 1 + 1 + 1) 2 [⟨A, n, c, es⟩, ⟨some ⟨w.heap.size + 1 + 1, 0, none⟩, 2, 2, [a, b]⟩] (by simp) ((((w.alloc (.cells (Fc.eventC a) 58)).alloc (.cells (Fc.eventC b) 58)).alloc (.cells (Fc.eventC a ++ Fc.eventC b) 58)).alloc (.cells #[.slice A n c, .slice (some ⟨w.heap.size + 1 + 1, 0, none⟩) 2 2] 56)) ⟨by simp, fun i hi => by
    match i, hi with
    | 0, _ => exact h4.at_ 0
    | 1, _ => exact h4.at_ 1
    | i + 2, hi => simp at hi; omega⟩ (fun p hp => by
    rcases List.mem_cons.1 hp with rfl | hp
    · exact ⟨⟨hr.below hb4, hz⟩, by show n ≤ 9223372036854775807; unfold maxLen at hcm; omega⟩
    · rw [List.mem_singleton.1 hp]
      exact ⟨⟨Md.srow_two (h3.past _), fun q => by cases q⟩, by show (2 : Nat) ≤ 9223372036854775807; omega⟩) (fun p hp e he => by
    rcases List.mem_cons.1 hp with rfl | hp
    · exact ((hf e he).1.1).below hb4
    · rw [List.mem_singleton.1 hp] at he
      rcases List.mem_cons.1 he with rfl | he
      · exact fa.1.below hb4
      · rw [List.mem_singleton.1 he]; exact fb.1.below hb4))
  clear hr hf hz hcm fa na fb nb hb2 hb3 hb4 hx hy h3 h4
  go_enter Tryz.func8, Tryz.ntmps8
  go_wp2_with (first | ((with_reducible refine Who.wpList_loadC 58 (.tmp 4) rfl (w.heap.size) 0 (Fc.eventC a) ?_); refine And.intro ⟨by rfl, by rfl, ⟨_, Tryz.underlying58, rfl⟩, Sr.info_event⟩ (And.intro (Who.has_range HX0.out) ?_)) | ((with_reducible refine Who.wpList_loadC 58 (.tmp 5) rfl (w.heap.size + 1) 0 (Fc.eventC b) ?_); refine And.intro ⟨by rfl, by rfl, ⟨_, Tryz.underlying58, rfl⟩, Sr.info_event⟩ (And.intro (Who.has_range HY0.out) ?_)) | ((with_reducible refine wpList_build2E (.tmp 8) (.tmp 9) a b rfl ?_); refine And.intro ⟨by rfl, by rfl, by rfl⟩ ?_; (try simp only [World.size_alloc])) | fail)
  refine HS.out.mono ?_
  rintro e w2 ⟨⟨bo, rfl, hs⟩, hb⟩
  have HI_0 := Lib.hid (HB4.out.trans (hb.mono HB4.out.size))
  have X_0 := Lib.hid (HX1.out.below hb)
  have Y_0 := Lib.hid (HY1.out.below hb)
  have HSS := Lib.hid hs
  clear hs hb HS HB4 HX0 HY0 HX1 HY1
  cases bo with
  | false =>
    go_wp2_with fail
    refine (Md.awake_any _).mono ?_
    rintro e w3 ⟨rfl, hb⟩
    have HI := Lib.hid (HI_0.out.trans (hb.mono HI_0.out.size))
    clear hb
    go_wp2
    go_ret
    exact ⟨rfl, HI.out⟩
  | true =>
    have HN := Lib.hid (show n ≤ 60 ∧ es.length ≤ 60 from by
      have q := (HSS.out rfl).1
      have e1 : sumR [(⟨A, n, c, es⟩ : RowP Fc.EventC), ⟨some ⟨w.heap.size + 1 + 1, 0, none⟩, 2, 2, [a, b]⟩] = n + 2 := by simp [sumR]
      have e2 := HR.out.len
      omega)
    have HOK := Lib.hid (fun V (h : Below w.heap.size w V) => (show ∀ e ∈ es, FoldOk 1300 e.d.p from fun e he => (HE.out V h e he).ok ((HSS.out rfl).2 ⟨A, n, c, es⟩ List.mem_cons_self e he)))
    clear HSS
    obtain ⟨z, hz⟩ : ∃ z, Md.befB a b = z := ⟨_, rfl⟩
    have HP1 := Lib.hid (fun V => (show Calls Tryz.prog 29 #[.agg (Fc.eventC a), .agg (Fc.eventC b)] V fun e w' => e = .returned (.bool z) ∧ Below V.heap.size V w' from by rw [← hz]; exact Md.before_any a b V))
    have HP2 := Lib.hid (fun V => (show Calls Tryz.prog 30 #[.agg (Fc.eventC a), .agg (Fc.eventC b)] V fun e w' => e = .returned (.bool z) ∧ Below V.heap.size V w' from by rw [← hz]; exact Md.rbefore_any a b V))
    clear hz
    go_wp2_with fail
    have HI_2 := Lib.hid (HI_0.out.trans ((Below.refl w2.heap.size w2).drew.mono HI_0.out.size))
    have X_2 := Lib.hid X_0.out.drew
    have Y_2 := Lib.hid Y_0.out.drew
    clear HI_0 X_0 Y_0
    refine wp_region_held_drew (S := fun V => Has V w.heap.size 58 (Fc.eventC a) ∧ Has V (w.heap.size + 1) 58 (Fc.eventC b)) (by kernel_rfl) ⟨X_2.out, Y_2.out⟩ (fun hHeld => ?_)
    refine Vc.wpAnyH_read (i := 0) (d := some 15) (v := ?v1001) (by rfl) (by rfl) (by kernel_rfl) (by kernel_rfl) (by kernel_rfl) (fun _ _ _ h => h) (by rfl) ?hy1001 (by assumption) ?rest1001
    case hy1001 =>
      intro w hSw
      try dsimp only at hSw
      go_simp
      try with_reducible rfl
    try simp only [Act.put, List.setIfInBounds_toArray, List.set_cons_zero, List.set_cons_succ]
    refine Vc.wpAnyH_read (i := 2) (d := some 17) (v := ?v1002) (by rfl) (by rfl) (by kernel_rfl) (by kernel_rfl) (by kernel_rfl) (fun _ _ _ h => h) (by rfl) ?hy1002 (by assumption) ?rest1002
    case hy1002 =>
      intro w hSw
      try dsimp only at hSw
      go_simp
      try with_reducible rfl
    try simp only [Act.put, List.setIfInBounds_toArray, List.set_cons_zero, List.set_cons_succ]
    refine wpAnyH_ready (rs := [1]) (by kernel_rfl) (by simp) ?_
    refine AllReadyH.cons rfl (fun K hK => ?_) AllReadyH.nil
    go_simp
    go_at_call 27
    refine (fold_any A n c es (by have := HN.out.1; omega) _ (HR.out.below HI_2.out) (fun e he => (HE.out _ HI_2.out e he).isIn) (HOK.out _ HI_2.out)).mono ?_
    rintro e w13 ⟨s1, rfl, hp, ho, hb⟩
    have HP1s := Lib.hid hp
    have HL1 := Lib.hid (limS_of ho.in_ (by rw [hp]; exact fold_lim (HOK.out _ HI_2.out) (Nat.le_trans HN.out.2 (by decide))))
    have HI_3 := Lib.hid (HI_2.out.trans (hb.mono HI_2.out.size))
    have X_3 := Lib.hid (X_2.out.below hb)
    have Y_3 := Lib.hid (Y_2.out.below hb)
    have N1_3 := Lib.hid ho
    clear hp ho hb HI_2 X_2 Y_2
    refine hK.out _ _ ⟨X_3.out, Y_3.out⟩ (fun hHeld => ?_)
    clear hK K
    try simp only [Act.put, List.setIfInBounds_toArray, List.set_cons_zero, List.set_cons_succ]
    refine wpAnyH_ready (rs := [3]) (by kernel_rfl) (by simp) ?_
    refine AllReadyH.cons rfl (fun K hK => ?_) AllReadyH.nil
    go_simp
    go_at_call 28
    refine (rfold_any A n c es (by have := HN.out.1; omega) _ (HR.out.below HI_3.out) (fun e he => (HE.out _ HI_3.out e he).isIn) (HOK.out _ HI_3.out)).mono ?_
    rintro e w14 ⟨s2, rfl, hp, ho, hb⟩
    have HP2s := Lib.hid hp
    have HL2 := Lib.hid (limS_of ho.in_ (by rw [hp]; exact fold_lim (HOK.out _ HI_3.out) (Nat.le_trans HN.out.2 (by decide))))
    have HI_4 := Lib.hid (HI_3.out.trans (hb.mono HI_3.out.size))
    have X_4 := Lib.hid (X_3.out.below hb)
    have Y_4 := Lib.hid (Y_3.out.below hb)
    have N1_4 := Lib.hid (N1_3.out.low hb)
    have N2_4 := Lib.hid ho
    clear hp ho hb HI_3 X_3 Y_3 N1_3
    refine hK.out _ _ ⟨X_4.out, Y_4.out⟩ (fun hHeld => ?_)
    clear hK K
    try simp only [Act.put, List.setIfInBounds_toArray, List.set_cons_zero, List.set_cons_succ]
    refine wpAnyH_ready (rs := [4]) (by kernel_rfl) (by simp) ?_
    refine AllReadyH.cons rfl (fun K hK => ?_) AllReadyH.nil
    go_simp
    go_at_call 15
    refine (rsame_yes s1 s2 _ (row_in N1_4.out.in_ HL1.out (by decide)) (row_in N2_4.out.in_ HL2.out (by decide)) (HP2s.out.trans HP1s.out.symm)).mono ?_
    rintro e w15 ⟨rfl, hb⟩
    have HI_5 := Lib.hid (HI_4.out.trans (hb.mono HI_4.out.size))
    have X_5 := Lib.hid (X_4.out.below hb)
    have Y_5 := Lib.hid (Y_4.out.below hb)
    clear hb HI_4 X_4 Y_4 N1_4 N2_4
    refine hK.out _ _ ⟨X_5.out, Y_5.out⟩ (fun hHeld => ?_)
    clear hK K
    try simp only [Act.put, List.setIfInBounds_toArray, List.set_cons_zero, List.set_cons_succ]
    refine Vc.wpAnyH_read (i := 5) (d := some 20) (v := ?v1003) (by rfl) (by rfl) (by kernel_rfl) (by kernel_rfl) (by kernel_rfl) (fun _ _ _ h => h) (by rfl) ?hy1003 (by assumption) ?rest1003
    case hy1003 =>
      intro w hSw
      try dsimp only at hSw
      go_simp
      try with_reducible rfl
    try simp only [Act.put, List.setIfInBounds_toArray, List.set_cons_zero, List.set_cons_succ]
    refine Vc.wpAnyH_read (i := 6) (d := some 21) (v := .agg (Fc.eventC a)) (by rfl) (by rfl) (by kernel_rfl) (by kernel_rfl) (by kernel_rfl) (fun _ _ _ h => h) (by rfl) ?hy1004 (by assumption) ?rest1004
    case hy1004 =>
      intro w hSw
      exact Who.exec_loadA _ rfl rfl (Who.has_range hSw.1) Tryz.underlying58 rfl Sr.info_event
    try simp only [Act.put, List.setIfInBounds_toArray, List.set_cons_zero, List.set_cons_succ]
    refine Vc.wpAnyH_read (i := 7) (d := some 22) (v := .agg (Fc.eventC b)) (by rfl) (by rfl) (by kernel_rfl) (by kernel_rfl) (by kernel_rfl) (fun _ _ _ h => h) (by rfl) ?hy1005 (by assumption) ?rest1005
    case hy1005 =>
      intro w hSw
      exact Who.exec_loadA _ rfl rfl (Who.has_range hSw.2) Tryz.underlying58 rfl Sr.info_event
    try simp only [Act.put, List.setIfInBounds_toArray, List.set_cons_zero, List.set_cons_succ]
    refine Vc.wpAnyH_read (i := 9) (d := some 24) (v := .agg (Fc.eventC a)) (by rfl) (by rfl) (by kernel_rfl) (by kernel_rfl) (by kernel_rfl) (fun _ _ _ h => h) (by rfl) ?hy1006 (by assumption) ?rest1006
    case hy1006 =>
      intro w hSw
      exact Who.exec_loadA _ rfl rfl (Who.has_range hSw.1) Tryz.underlying58 rfl Sr.info_event
    try simp only [Act.put, List.setIfInBounds_toArray, List.set_cons_zero, List.set_cons_succ]
    refine Vc.wpAnyH_read (i := 10) (d := some 25) (v := .agg (Fc.eventC b)) (by rfl) (by rfl) (by kernel_rfl) (by kernel_rfl) (by kernel_rfl) (fun _ _ _ h => h) (by rfl) ?hy1007 (by assumption) ?rest1007
    case hy1007 =>
      intro w hSw
      exact Who.exec_loadA _ rfl rfl (Who.has_range hSw.2) Tryz.underlying58 rfl Sr.info_event
    try simp only [Act.put, List.setIfInBounds_toArray, List.set_cons_zero, List.set_cons_succ]
    refine wpAnyH_ready (rs := [8]) (by kernel_rfl) (by simp) ?_
    refine AllReadyH.cons rfl (fun K hK => ?_) AllReadyH.nil
    go_simp
    go_at_call 29
    refine (HP1.out _).mono ?_
    rintro e w16 ⟨rfl, hb⟩
    have HI_6 := Lib.hid (HI_5.out.trans (hb.mono HI_5.out.size))
    have X_6 := Lib.hid (X_5.out.below hb)
    have Y_6 := Lib.hid (Y_5.out.below hb)
    clear hb HI_5 X_5 Y_5
    refine hK.out _ _ ⟨X_6.out, Y_6.out⟩ (fun hHeld => ?_)
    clear hK K
    try simp only [Act.put, List.setIfInBounds_toArray, List.set_cons_zero, List.set_cons_succ]
    refine wpAnyH_ready (rs := [11]) (by kernel_rfl) (by simp) ?_
    refine AllReadyH.cons rfl (fun K hK => ?_) AllReadyH.nil
    go_simp
    go_at_call 30
    refine (HP2.out _).mono ?_
    rintro e w17 ⟨rfl, hb⟩
    have HI_7 := Lib.hid (HI_6.out.trans (hb.mono HI_6.out.size))
    have X_7 := Lib.hid (X_6.out.below hb)
    have Y_7 := Lib.hid (Y_6.out.below hb)
    clear hb HI_6 X_6 Y_6
    refine hK.out _ _ ⟨X_7.out, Y_7.out⟩ (fun hHeld => ?_)
    clear hK K
    try simp only [Act.put, List.setIfInBounds_toArray, List.set_cons_zero, List.set_cons_succ]
    refine Vc.wpAnyH_read (i := 12) (d := some 27) (v := .bool true) (by rfl) (by rfl) (by kernel_rfl) (by kernel_rfl) (by kernel_rfl) (fun _ _ _ h => h) (by rfl) ?hy1008 (by assumption) ?rest1008
    case hy1008 =>
      intro w hSw
      cases z <;> go_simp
    try simp only [Act.put, List.setIfInBounds_toArray, List.set_cons_zero, List.set_cons_succ]
    refine Vc.wpAnyH_read (i := 13) (d := some 28) (v := ?v1009) (by rfl) (by rfl) (by kernel_rfl) (by kernel_rfl) (by kernel_rfl) (fun _ _ _ h => h) (by rfl) ?hy1009 (by assumption) ?rest1009
    case hy1009 =>
      intro w hSw
      try dsimp only at hSw
      go_simp
      try with_reducible rfl
    try simp only [Act.put, List.setIfInBounds_toArray, List.set_cons_zero, List.set_cons_succ]
    refine Vc.wpAnyH_read (i := 14) (d := some 29) (v := ?v1010) (by rfl) (by rfl) (by kernel_rfl) (by kernel_rfl) (by kernel_rfl) (fun _ _ _ h => h) (by rfl) ?hy1010 (by assumption) ?rest1010
    case hy1010 =>
      intro w hSw
      try dsimp only at hSw
      go_simp
      try with_reducible rfl
    try simp only [Act.put, List.setIfInBounds_toArray, List.set_cons_zero, List.set_cons_succ]
    refine wpAnyH_ready (rs := [15]) (by kernel_rfl) (by simp) ?_
    refine AllReadyH.cons rfl (fun K hK => ?_) AllReadyH.nil
    go_simp
    go_at_call 26
    refine (Md.awake_any _).mono ?_
    rintro e w18 ⟨rfl, hb⟩
    have HI_8 := Lib.hid (HI_7.out.trans (hb.mono HI_7.out.size))
    have X_8 := Lib.hid (X_7.out.below hb)
    have Y_8 := Lib.hid (Y_7.out.below hb)
    clear hb HI_7 X_7 Y_7
    refine hK.out _ _ ⟨X_8.out, Y_8.out⟩ (fun hHeld => ?_)
    clear hK K
    try simp only [Act.put, List.setIfInBounds_toArray, List.set_cons_zero, List.set_cons_succ]
    refine Vc.wpAnyH_read (i := 16) (d := some 31) (v := ?v1011) (by rfl) (by rfl) (by kernel_rfl) (by kernel_rfl) (by kernel_rfl) (fun _ _ _ h => h) (by rfl) ?hy1011 (by assumption) ?rest1011
    case hy1011 =>
      intro w hSw
      try dsimp only at hSw
      go_simp
      try with_reducible rfl
    try simp only [Act.put, List.setIfInBounds_toArray, List.set_cons_zero, List.set_cons_succ]
    refine Vc.wpAnyH_read (i := 17) (d := some 6) (v := ?v1012) (by rfl) (by rfl) (by kernel_rfl) (by kernel_rfl) (by kernel_rfl) (fun _ _ _ h => h) (by rfl) ?hy1012 (by assumption) ?rest1012
    case hy1012 =>
      intro w hSw
      try dsimp only at hSw
      go_simp
      try with_reducible rfl
    try simp only [Act.put, List.setIfInBounds_toArray, List.set_cons_zero, List.set_cons_succ]
    refine wpAnyH_done (by kernel_rfl) ?_ _
    go_wp2
    go_ret
    exact ⟨rfl, HI_8.out⟩
end Go.Proofs.YtblogecapegbmaaGreat.Jn
