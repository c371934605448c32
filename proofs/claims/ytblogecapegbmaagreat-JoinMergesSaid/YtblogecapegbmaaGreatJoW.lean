/- Join: the law JoinMerges walked. -/
import Derived.Test.YtblogecapegbmaaGreatJoV
namespace Go.Proofs.YtblogecapegbmaaGreat.Jn
open Go.RowKit Go.Proofs.YtblogecapegbmaaGreat.Mem
set_option linter.unusedVariables false set_option linter.unusedSimpArgs false

set_option maxRecDepth 100000 in
set_option maxHeartbeats 16000000 in
theorem merges_walk (w : World) (a b : Fc.StateC) (ha : Fc.StateFit w a) (na : Fc.NilS a) (hb : Fc.StateFit w b) (nb : Fc.NilS b) : Calls Tryz.prog 4 #[.agg (Fc.stateC a), .agg (Fc.stateC b)] w fun e w' => e = .returned (.bool true) ∧ Below w.heap.size w w' := by
 have HB0 := Lib.hid (((Below.refl w.heap.size w).alloc (Nat.le_refl _) (.cells (Fc.stateC a) 27)).alloc (by simp) (.cells (Fc.stateC b) 27))
 have h3 := (Has.fresh w 27 (Fc.stateC a)).past (.cells (Fc.stateC b) 27)
 have h4 := Has.fresh (w.alloc (.cells (Fc.stateC a) 27)) 27 (Fc.stateC b)
 rw [World.size_alloc] at h4
 have HIA := Lib.hid (fun V (h : Below w.heap.size w V) => in_fit (ha.below h) na)
 have HIB := Lib.hid (fun V (h : Below w.heap.size w V) => in_fit (hb.below h) nb)
 have HSA := Lib.hid (fun l => sum_ok ha na l)
 have HSB := Lib.hid (fun l => sum_ok hb nb l)
 have HTA := Lib.hid ha.names
 have HTB := Lib.hid hb.names
 have HFT := Lib.hid (fun V (h : Below w.heap.size w V) => (show ∀ x ∈ [a, b], Fc.StateFit V x from fun x hx => by
  rcases List.mem_cons.1 hx with rfl | hx
  ·exact ha.below h
  ·rw [List.mem_singleton.1 hx]; exact hb.below h))
 have HX0 := Lib.hid h3
 have HY0 := Lib.hid h4
 have HT := Lib.hid (Has.fresh ((w.alloc (.cells (Fc.stateC a) 27)).alloc (.cells (Fc.stateC b) 27)) 27 (row2 a b))
 have HBT := Lib.hid (HB0.out.alloc (by simp; omega) (.cells (row2 a b) 27))
 have HS := Lib.hid (smalls_any (w.heap.size + 1 + 1) 2 2 [a, b] (((w.alloc (.cells (Fc.stateC a) 27)).alloc (.cells (Fc.stateC b) 27)).alloc (.cells (row2 a b) 27)) (by have q := srow2 HT.out; simp only [World.size_alloc] at q; exact q) (by decide) (HFT.out _ HBT.out))
 have HX1 := Lib.hid (HX0.out.past (.cells (row2 a b) 27))
 have HY1 := Lib.hid (HY0.out.past (.cells (row2 a b) 27))
 clear ha hb na nb h3 h4 HT HFT
 go_enter Tryz.func4, Tryz.ntmps4
 go_wp2_with (first | ((with_reducible refine Who.wpList_loadC 27 (.tmp 2) rfl (w.heap.size) 0 (Fc.stateC a) ?_); refine And.intro ⟨by rfl, by rfl, ⟨_, Tryz.underlying27, rfl⟩, info_state⟩ (And.intro (Who.has_range HX0.out) ?_); (try simp only [Act.put, List.setIfInBounds_toArray, List.set_cons_zero, List.set_cons_succ])) | ((with_reducible refine Who.wpList_loadC 27 (.tmp 3) rfl (w.heap.size + 1) 0 (Fc.stateC b) ?_); refine And.intro ⟨by rfl, by rfl, ⟨_, Tryz.underlying27, rfl⟩, info_state⟩ (And.intro (Who.has_range HY0.out) ?_); (try simp only [Act.put, List.setIfInBounds_toArray, List.set_cons_zero, List.set_cons_succ])) | ((with_reducible refine wpList_build2 (.tmp 8) (.tmp 9) a b rfl ?_); refine And.intro ⟨by rfl, by rfl, by rfl⟩ ?_; (try simp only [Act.put, List.setIfInBounds_toArray, List.set_cons_zero, List.set_cons_succ]); (try simp only [World.size_alloc])) | fail)
 refine HS.out.mono ?_
 rintro e w2 ⟨⟨bo, rfl, hs⟩, hb⟩
 have R_0 := Lib.hid (show R3 w w2 w.heap.size (w.heap.size + 1) a b [] [] from ⟨HBT.out.trans (hb.mono HBT.out.size), HX1.out.below hb, HY1.out.below hb, (fun g hg => by cases hg), List.nodup_nil, (fun p hp => by cases hp)⟩)
 have HSS := Lib.hid hs
 clear hs hb HS HB0 HBT HX0 HY0 HX1 HY1
 obtain ⟨g2, hg2⟩ : ∃ g, g = w.heap.size := ⟨_, rfl⟩
 obtain ⟨g3, hg3⟩ : ∃ g, g = w.heap.size + 1 := ⟨_, rfl⟩
 have R_1 := Lib.hid (show R3 w w2 g2 g3 a b [] [] from by rw [hg2, hg3]; exact R_0.out)
 rw [← hg3, ← hg2]
 clear hg2 hg3 R_0
 cases bo with
 | false =>
  go_wp2_with fail
  refine (awake_any _).mono ?_
  rintro e w3 ⟨rfl, hb⟩
  have HI := Lib.hid (R_1.out.low hb).below
  clear hb
  go_wp2
  go_ret
  exact ⟨rfl, HI.out⟩
 | true =>
  have HLA := Lib.hid (HSS.out rfl a (by simp))
  have HLB := Lib.hid (HSS.out rfl b (by simp))
  have HSA2 := Lib.hid (HSA.out HLA.out)
  have HSB2 := Lib.hid (HSB.out HLB.out)
  clear HSS HSA HSB
  go_wp2_with fail
  have R_2 := Lib.hid (R_1.out.low (Below.refl w2.heap.size w2).drew)
  clear R_1
  refine mergeR (fun act W => ∃ g5 g6 t1 t2, act = { tmps := #[.agg (Fc.stateC a), .agg (Fc.stateC b), .pointer (some ⟨g2, 0, none⟩), .pointer (some ⟨g3, 0, none⟩), .bool false, .pointer (some ⟨g5, 0, none⟩), .pointer (some ⟨g6, 0, none⟩), undef, .agg (Fc.stateC a), .agg (Fc.stateC b), .slice (some ⟨g3 + 1, 0, none⟩) 2 2, .bool true, .bool false, undef, .agg (Fc.stateC a), .agg (Fc.stateC t1), .agg (Fc.stateC b), .agg (Fc.stateC t2), undef, undef, undef, undef, undef, undef, undef, undef, undef, undef, undef, undef, undef, undef, undef, undef, undef, undef, undef, undef, undef], defers := [] } ∧ F5 w W g2 g3 g5 g6 a b t1 t2) ?_ ?_
  ·refine wp_region_held_drew (S := fun V => Has V g2 27 (Fc.stateC a) ∧ Has V g3 27 (Fc.stateC b)) (by kernel_rfl) ⟨R_2.out.h2, R_2.out.h3⟩ (fun hHeld => ?_)
   refine Vc.wpAnyH_read (i := 0) (d := some 14) (v := .agg (Fc.stateC a)) (by rfl) (by rfl) (by kernel_rfl) (by kernel_rfl) (by kernel_rfl) (fun _ _ _ h => False.elim h) (by rfl) ?hy1 (by assumption) ?rest1
   case hy1 =>
    intro w hSw
    exact Who.exec_loadA _ rfl rfl (Who.has_range hSw.1) Tryz.underlying27 rfl info_state
   try simp only [Act.put, List.setIfInBounds_toArray, List.set_cons_zero, List.set_cons_succ]
   refine Vc.wpAnyH_read (i := 2) (d := some 16) (v := .agg (Fc.stateC b)) (by rfl) (by rfl) (by kernel_rfl) (by kernel_rfl) (by kernel_rfl) (fun _ _ _ h => False.elim h) (by rfl) ?hy2 (by assumption) ?rest2
   case hy2 =>
    intro w hSw
    exact Who.exec_loadA _ rfl rfl (Who.has_range hSw.2) Tryz.underlying27 rfl info_state
   try simp only [Act.put, List.setIfInBounds_toArray, List.set_cons_zero, List.set_cons_succ]
   refine wpAnyH_ready (rs := [1, 4, 5]) (by kernel_rfl) (by simp) ?_
   refine AllReadyH.cons rfl (fun K hK => ?_) (AllReadyH.cons rfl (fun K hK => ?_) (AllReadyH.cons rfl (fun K hK => ?_) AllReadyH.nil))
   ·go_simp
    go_at_call 13
    refine (clone_any a _ (HIA.out _ R_2.out.below) (Nat.le_trans HLA.out.n1 (by decide)) (Nat.le_trans HLA.out.n2 (by decide)) (fun z hz => (HSA2.out.fits z hz).few)).mono ?_
    rintro e V101 ⟨t1, rfl, hp, ho, hb⟩
    have R_101 := Lib.hid (R_2.out.clone hb ho hp)
    clear R_2 hp ho hb
    refine hK.out _ _ ⟨R_101.out.h2, R_101.out.h3⟩ (fun hHeld => ?_)
    clear hK K
    try simp only [Act.put, List.setIfInBounds_toArray, List.set_cons_zero, List.set_cons_succ]
    refine wpAnyH_ready (rs := [3, 4, 5]) (by kernel_rfl) (by simp) ?_
    refine AllReadyH.cons rfl (fun K hK => ?_) (AllReadyH.cons rfl (fun K hK => ?_) (AllReadyH.cons rfl (fun K hK => ?_) AllReadyH.nil))
    ·go_simp
     go_at_call 13
     refine (clone_any b _ (HIB.out _ R_101.out.below) (Nat.le_trans HLB.out.n1 (by decide)) (Nat.le_trans HLB.out.n2 (by decide)) (fun z hz => (HSB2.out.fits z hz).few)).mono ?_
     rintro e V102 ⟨t2, rfl, hp, ho, hb⟩
     have R_102 := Lib.hid (R_101.out.clone hb ho hp)
     clear R_101 hp ho hb
     refine hK.out _ _ ⟨R_102.out.h2, R_102.out.h3⟩ (fun hHeld => ?_)
     clear hK K
     try simp only [Act.put, List.setIfInBounds_toArray, List.set_cons_zero, List.set_cons_succ]
     refine wpAnyH_ready (rs := [4, 5]) (by kernel_rfl) (by simp) ?_
     refine AllReadyH.cons rfl (fun K hK => ?_) (AllReadyH.cons rfl (fun K hK => ?_) AllReadyH.nil)
     ·refine step_alloc 27 5 zeroS (by rfl) (by rfl) allocS ?_
      refine And.intro (by rfl) ?_
      intro g5 V103 x103 b103 l103
      have R_103 := Lib.hid (R_102.out.alloc x103.out b103.out l103.out)
      clear R_102 x103 b103 l103
      refine hK.out _ _ ⟨R_103.out.h2, R_103.out.h3⟩ (fun hHeld => ?_)
      clear hK K
      try simp only [Act.put, List.setIfInBounds_toArray, List.set_cons_zero, List.set_cons_succ]
      refine wpAnyH_ready (rs := [5]) (by kernel_rfl) (by simp) ?_
      refine AllReadyH.cons rfl (fun K hK => ?_) AllReadyH.nil
      refine step_alloc 27 6 zeroS (by rfl) (by rfl) allocS ?_
      refine And.intro (by rfl) ?_
      intro g6 V104 x104 b104 l104
      have R_104 := Lib.hid (R_103.out.alloc x104.out b104.out l104.out)
      clear R_103 x104 b104 l104
      refine hK.out _ _ ⟨R_104.out.h2, R_104.out.h3⟩ (fun hHeld => ?_)
      clear hK K
      try simp only [Act.put, List.setIfInBounds_toArray, List.set_cons_zero, List.set_cons_succ]
      refine wpAnyH_ready (rs := [6]) (by kernel_rfl) (by simp) ?_
      refine AllReadyH.cons rfl (fun K hK => ?_) AllReadyH.nil
      refine stepG_store (T := 27) 27 (.tmp 5) (.tmp 15) (by rfl) g5 0 zeroS (Fc.stateC t1) (Fc.stateC t1) ?_
      refine And.intro ⟨by rfl, by rfl, by rfl, by rfl, info_state, state_one _, of_decide_eq_true rfl, by kernel_rfl, (R_104.out.hz g5 (by simp)).1⟩ ?_
      intro W8 x8 c8
      refine hK.out _ _ ⟨R_104.out.h2.over c8.out (R_104.out.hz g5 (by simp)).2.2.1, R_104.out.h3.over c8.out (R_104.out.hz g5 (by simp)).2.2.2⟩ (fun hHeld => ?_)
      clear hK K
      try simp only [Act.put, List.setIfInBounds_toArray, List.set_cons_zero, List.set_cons_succ]
      refine wpAnyH_ready (rs := [7]) (by kernel_rfl) (by simp) ?_
      refine AllReadyH.cons rfl (fun K hK => ?_) AllReadyH.nil
      refine stepG_store (T := 27) 27 (.tmp 6) (.tmp 17) (by rfl) g6 0 zeroS (Fc.stateC t2) (Fc.stateC t2) ?_
      refine And.intro ⟨by rfl, by rfl, by rfl, by rfl, info_state, state_one _, of_decide_eq_true rfl, by kernel_rfl, (R_104.out.hz g6 (by simp)).1.over c8.out (by have q := R_104.out.nd; simp at q; omega)⟩ ?_
      intro W9 x9 c9
      have HF := Lib.hid (R_104.out.fin (g5 := g5) (g6 := g6) (by simp) (by simp) (by have q := R_104.out.nd; simp at q; omega) x8.out c8.out x9.out c9.out)
      refine hK.out _ _ ⟨HF.out.h2, HF.out.h3⟩ (fun hHeld => ?_)
      clear hK K
      try simp only [Act.put, List.setIfInBounds_toArray, List.set_cons_zero, List.set_cons_succ]
      refine wpAnyH_done (by kernel_rfl) ?_ _
      exact mq_in ⟨g5, g6, t1, t2, rfl, HF.out⟩
     ·refine step_alloc 27 6 zeroS (by rfl) (by rfl) allocS ?_
      refine And.intro (by rfl) ?_
      intro g6 V106 x106 b106 l106
      have R_106 := Lib.hid (R_102.out.alloc x106.out b106.out l106.out)
      clear R_102 x106 b106 l106
      refine hK.out _ _ ⟨R_106.out.h2, R_106.out.h3⟩ (fun hHeld => ?_)
      clear hK K
      try simp only [Act.put, List.setIfInBounds_toArray, List.set_cons_zero, List.set_cons_succ]
      refine wpAnyH_ready (rs := [4]) (by kernel_rfl) (by simp) ?_
      refine AllReadyH.cons rfl (fun K hK => ?_) AllReadyH.nil
      refine step_alloc 27 5 zeroS (by rfl) (by rfl) allocS ?_
      refine And.intro (by rfl) ?_
      intro g5 V107 x107 b107 l107
      have R_107 := Lib.hid (R_106.out.alloc x107.out b107.out l107.out)
      clear R_106 x107 b107 l107
      refine hK.out _ _ ⟨R_107.out.h2, R_107.out.h3⟩ (fun hHeld => ?_)
      clear hK K
      try simp only [Act.put, List.setIfInBounds_toArray, List.set_cons_zero, List.set_cons_succ]
      refine wpAnyH_ready (rs := [6]) (by kernel_rfl) (by simp) ?_
      refine AllReadyH.cons rfl (fun K hK => ?_) AllReadyH.nil
      refine stepG_store (T := 27) 27 (.tmp 5) (.tmp 15) (by rfl) g5 0 zeroS (Fc.stateC t1) (Fc.stateC t1) ?_
      refine And.intro ⟨by rfl, by rfl, by rfl, by rfl, info_state, state_one _, of_decide_eq_true rfl, by kernel_rfl, (R_107.out.hz g5 (by simp)).1⟩ ?_
      intro W8 x8 c8
      refine hK.out _ _ ⟨R_107.out.h2.over c8.out (R_107.out.hz g5 (by simp)).2.2.1, R_107.out.h3.over c8.out (R_107.out.hz g5 (by simp)).2.2.2⟩ (fun hHeld => ?_)
      clear hK K
      try simp only [Act.put, List.setIfInBounds_toArray, List.set_cons_zero, List.set_cons_succ]
      refine wpAnyH_ready (rs := [7]) (by kernel_rfl) (by simp) ?_
      refine AllReadyH.cons rfl (fun K hK => ?_) AllReadyH.nil
      refine stepG_store (T := 27) 27 (.tmp 6) (.tmp 17) (by rfl) g6 0 zeroS (Fc.stateC t2) (Fc.stateC t2) ?_
      refine And.intro ⟨by rfl, by rfl, by rfl, by rfl, info_state, state_one _, of_decide_eq_true rfl, by kernel_rfl, (R_107.out.hz g6 (by simp)).1.over c8.out (by have q := R_107.out.nd; simp at q; omega)⟩ ?_
      intro W9 x9 c9
      have HF := Lib.hid (R_107.out.fin (g5 := g5) (g6 := g6) (by simp) (by simp) (by have q := R_107.out.nd; simp at q; omega) x8.out c8.out x9.out c9.out)
      refine hK.out _ _ ⟨HF.out.h2, HF.out.h3⟩ (fun hHeld => ?_)
      clear hK K
      try simp only [Act.put, List.setIfInBounds_toArray, List.set_cons_zero, List.set_cons_succ]
      refine wpAnyH_done (by kernel_rfl) ?_ _
      exact mq_in ⟨g5, g6, t1, t2, rfl, HF.out⟩
    ·refine step_alloc 27 5 zeroS (by rfl) (by rfl) allocS ?_
     refine And.intro (by rfl) ?_
     intro g5 V109 x109 b109 l109
     have R_109 := Lib.hid (R_101.out.alloc x109.out b109.out l109.out)
     clear R_101 x109 b109 l109
     refine hK.out _ _ ⟨R_109.out.h2, R_109.out.h3⟩ (fun hHeld => ?_)
     clear hK K
     try simp only [Act.put, List.setIfInBounds_toArray, List.set_cons_zero, List.set_cons_succ]
     refine wpAnyH_ready (rs := [3, 5]) (by kernel_rfl) (by simp) ?_
     refine AllReadyH.cons rfl (fun K hK => ?_) (AllReadyH.cons rfl (fun K hK => ?_) AllReadyH.nil)
     ·go_simp
      go_at_call 13
      refine (clone_any b _ (HIB.out _ R_109.out.below) (Nat.le_trans HLB.out.n1 (by decide)) (Nat.le_trans HLB.out.n2 (by decide)) (fun z hz => (HSB2.out.fits z hz).few)).mono ?_
      rintro e V110 ⟨t2, rfl, hp, ho, hb⟩
      have R_110 := Lib.hid (R_109.out.clone hb ho hp)
      clear R_109 hp ho hb
      refine hK.out _ _ ⟨R_110.out.h2, R_110.out.h3⟩ (fun hHeld => ?_)
      clear hK K
      try simp only [Act.put, List.setIfInBounds_toArray, List.set_cons_zero, List.set_cons_succ]
      refine wpAnyH_ready (rs := [5]) (by kernel_rfl) (by simp) ?_
      refine AllReadyH.cons rfl (fun K hK => ?_) AllReadyH.nil
      refine step_alloc 27 6 zeroS (by rfl) (by rfl) allocS ?_
      refine And.intro (by rfl) ?_
      intro g6 V111 x111 b111 l111
      have R_111 := Lib.hid (R_110.out.alloc x111.out b111.out l111.out)
      clear R_110 x111 b111 l111
      refine hK.out _ _ ⟨R_111.out.h2, R_111.out.h3⟩ (fun hHeld => ?_)
      clear hK K
      try simp only [Act.put, List.setIfInBounds_toArray, List.set_cons_zero, List.set_cons_succ]
      refine wpAnyH_ready (rs := [6]) (by kernel_rfl) (by simp) ?_
      refine AllReadyH.cons rfl (fun K hK => ?_) AllReadyH.nil
      refine stepG_store (T := 27) 27 (.tmp 5) (.tmp 15) (by rfl) g5 0 zeroS (Fc.stateC t1) (Fc.stateC t1) ?_
      refine And.intro ⟨by rfl, by rfl, by rfl, by rfl, info_state, state_one _, of_decide_eq_true rfl, by kernel_rfl, (R_111.out.hz g5 (by simp)).1⟩ ?_
      intro W8 x8 c8
      refine hK.out _ _ ⟨R_111.out.h2.over c8.out (R_111.out.hz g5 (by simp)).2.2.1, R_111.out.h3.over c8.out (R_111.out.hz g5 (by simp)).2.2.2⟩ (fun hHeld => ?_)
      clear hK K
      try simp only [Act.put, List.setIfInBounds_toArray, List.set_cons_zero, List.set_cons_succ]
      refine wpAnyH_ready (rs := [7]) (by kernel_rfl) (by simp) ?_
      refine AllReadyH.cons rfl (fun K hK => ?_) AllReadyH.nil
      refine stepG_store (T := 27) 27 (.tmp 6) (.tmp 17) (by rfl) g6 0 zeroS (Fc.stateC t2) (Fc.stateC t2) ?_
      refine And.intro ⟨by rfl, by rfl, by rfl, by rfl, info_state, state_one _, of_decide_eq_true rfl, by kernel_rfl, (R_111.out.hz g6 (by simp)).1.over c8.out (by have q := R_111.out.nd; simp at q; omega)⟩ ?_
      intro W9 x9 c9
      have HF := Lib.hid (R_111.out.fin (g5 := g5) (g6 := g6) (by simp) (by simp) (by have q := R_111.out.nd; simp at q; omega) x8.out c8.out x9.out c9.out)
      refine hK.out _ _ ⟨HF.out.h2, HF.out.h3⟩ (fun hHeld => ?_)
      clear hK K
      try simp only [Act.put, List.setIfInBounds_toArray, List.set_cons_zero, List.set_cons_succ]
      refine wpAnyH_done (by kernel_rfl) ?_ _
      exact mq_in ⟨g5, g6, t1, t2, rfl, HF.out⟩
     ·refine step_alloc 27 6 zeroS (by rfl) (by rfl) allocS ?_
      refine And.intro (by rfl) ?_
      intro g6 V113 x113 b113 l113
      have R_113 := Lib.hid (R_109.out.alloc x113.out b113.out l113.out)
      clear R_109 x113 b113 l113
      refine hK.out _ _ ⟨R_113.out.h2, R_113.out.h3⟩ (fun hHeld => ?_)
      clear hK K
      try simp only [Act.put, List.setIfInBounds_toArray, List.set_cons_zero, List.set_cons_succ]
      refine wpAnyH_ready (rs := [3]) (by kernel_rfl) (by simp) ?_
      refine AllReadyH.cons rfl (fun K hK => ?_) AllReadyH.nil
      go_simp
      go_at_call 13
      refine (clone_any b _ (HIB.out _ R_113.out.below) (Nat.le_trans HLB.out.n1 (by decide)) (Nat.le_trans HLB.out.n2 (by decide)) (fun z hz => (HSB2.out.fits z hz).few)).mono ?_
      rintro e V114 ⟨t2, rfl, hp, ho, hb⟩
      have R_114 := Lib.hid (R_113.out.clone hb ho hp)
      clear R_113 hp ho hb
      refine hK.out _ _ ⟨R_114.out.h2, R_114.out.h3⟩ (fun hHeld => ?_)
      clear hK K
      try simp only [Act.put, List.setIfInBounds_toArray, List.set_cons_zero, List.set_cons_succ]
      refine wpAnyH_ready (rs := [6]) (by kernel_rfl) (by simp) ?_
      refine AllReadyH.cons rfl (fun K hK => ?_) AllReadyH.nil
      refine stepG_store (T := 27) 27 (.tmp 5) (.tmp 15) (by rfl) g5 0 zeroS (Fc.stateC t1) (Fc.stateC t1) ?_
      refine And.intro ⟨by rfl, by rfl, by rfl, by rfl, info_state, state_one _, of_decide_eq_true rfl, by kernel_rfl, (R_114.out.hz g5 (by simp)).1⟩ ?_
      intro W8 x8 c8
      refine hK.out _ _ ⟨R_114.out.h2.over c8.out (R_114.out.hz g5 (by simp)).2.2.1, R_114.out.h3.over c8.out (R_114.out.hz g5 (by simp)).2.2.2⟩ (fun hHeld => ?_)
      clear hK K
      try simp only [Act.put, List.setIfInBounds_toArray, List.set_cons_zero, List.set_cons_succ]
      refine wpAnyH_ready (rs := [7]) (by kernel_rfl) (by simp) ?_
      refine AllReadyH.cons rfl (fun K hK => ?_) AllReadyH.nil
      refine stepG_store (T := 27) 27 (.tmp 6) (.tmp 17) (by rfl) g6 0 zeroS (Fc.stateC t2) (Fc.stateC t2) ?_
      refine And.intro ⟨by rfl, by rfl, by rfl, by rfl, info_state, state_one _, of_decide_eq_true rfl, by kernel_rfl, (R_114.out.hz g6 (by simp)).1.over c8.out (by have q := R_114.out.nd; simp at q; omega)⟩ ?_
      intro W9 x9 c9
      have HF := Lib.hid (R_114.out.fin (g5 := g5) (g6 := g6) (by simp) (by simp) (by have q := R_114.out.nd; simp at q; omega) x8.out c8.out x9.out c9.out)
      refine hK.out _ _ ⟨HF.out.h2, HF.out.h3⟩ (fun hHeld => ?_)
      clear hK K
      try simp only [Act.put, List.setIfInBounds_toArray, List.set_cons_zero, List.set_cons_succ]
      refine wpAnyH_done (by kernel_rfl) ?_ _
      exact mq_in ⟨g5, g6, t1, t2, rfl, HF.out⟩
    ·refine step_alloc 27 6 zeroS (by rfl) (by rfl) allocS ?_
     refine And.intro (by rfl) ?_
     intro g6 V116 x116 b116 l116
     have R_116 := Lib.hid (R_101.out.alloc x116.out b116.out l116.out)
     clear R_101 x116 b116 l116
     refine hK.out _ _ ⟨R_116.out.h2, R_116.out.h3⟩ (fun hHeld => ?_)
     clear hK K
     try simp only [Act.put, List.setIfInBounds_toArray, List.set_cons_zero, List.set_cons_succ]
     refine wpAnyH_ready (rs := [3, 4]) (by kernel_rfl) (by simp) ?_
     refine AllReadyH.cons rfl (fun K hK => ?_) (AllReadyH.cons rfl (fun K hK => ?_) AllReadyH.nil)
     ·go_simp
      go_at_call 13
      refine (clone_any b _ (HIB.out _ R_116.out.below) (Nat.le_trans HLB.out.n1 (by decide)) (Nat.le_trans HLB.out.n2 (by decide)) (fun z hz => (HSB2.out.fits z hz).few)).mono ?_
      rintro e V117 ⟨t2, rfl, hp, ho, hb⟩
      have R_117 := Lib.hid (R_116.out.clone hb ho hp)
      clear R_116 hp ho hb
      refine hK.out _ _ ⟨R_117.out.h2, R_117.out.h3⟩ (fun hHeld => ?_)
      clear hK K
      try simp only [Act.put, List.setIfInBounds_toArray, List.set_cons_zero, List.set_cons_succ]
      refine wpAnyH_ready (rs := [4]) (by kernel_rfl) (by simp) ?_
      refine AllReadyH.cons rfl (fun K hK => ?_) AllReadyH.nil
      refine step_alloc 27 5 zeroS (by rfl) (by rfl) allocS ?_
      refine And.intro (by rfl) ?_
      intro g5 V118 x118 b118 l118
      have R_118 := Lib.hid (R_117.out.alloc x118.out b118.out l118.out)
      clear R_117 x118 b118 l118
      refine hK.out _ _ ⟨R_118.out.h2, R_118.out.h3⟩ (fun hHeld => ?_)
      clear hK K
      try simp only [Act.put, List.setIfInBounds_toArray, List.set_cons_zero, List.set_cons_succ]
      refine wpAnyH_ready (rs := [6]) (by kernel_rfl) (by simp) ?_
      refine AllReadyH.cons rfl (fun K hK => ?_) AllReadyH.nil
      refine stepG_store (T := 27) 27 (.tmp 5) (.tmp 15) (by rfl) g5 0 zeroS (Fc.stateC t1) (Fc.stateC t1) ?_
      refine And.intro ⟨by rfl, by rfl, by rfl, by rfl, info_state, state_one _, of_decide_eq_true rfl, by kernel_rfl, (R_118.out.hz g5 (by simp)).1⟩ ?_
      intro W8 x8 c8
      refine hK.out _ _ ⟨R_118.out.h2.over c8.out (R_118.out.hz g5 (by simp)).2.2.1, R_118.out.h3.over c8.out (R_118.out.hz g5 (by simp)).2.2.2⟩ (fun hHeld => ?_)
      clear hK K
      try simp only [Act.put, List.setIfInBounds_toArray, List.set_cons_zero, List.set_cons_succ]
      refine wpAnyH_ready (rs := [7]) (by kernel_rfl) (by simp) ?_
      refine AllReadyH.cons rfl (fun K hK => ?_) AllReadyH.nil
      refine stepG_store (T := 27) 27 (.tmp 6) (.tmp 17) (by rfl) g6 0 zeroS (Fc.stateC t2) (Fc.stateC t2) ?_
      refine And.intro ⟨by rfl, by rfl, by rfl, by rfl, info_state, state_one _, of_decide_eq_true rfl, by kernel_rfl, (R_118.out.hz g6 (by simp)).1.over c8.out (by have q := R_118.out.nd; simp at q; omega)⟩ ?_
      intro W9 x9 c9
      have HF := Lib.hid (R_118.out.fin (g5 := g5) (g6 := g6) (by simp) (by simp) (by have q := R_118.out.nd; simp at q; omega) x8.out c8.out x9.out c9.out)
      refine hK.out _ _ ⟨HF.out.h2, HF.out.h3⟩ (fun hHeld => ?_)
      clear hK K
      try simp only [Act.put, List.setIfInBounds_toArray, List.set_cons_zero, List.set_cons_succ]
      refine wpAnyH_done (by kernel_rfl) ?_ _
      exact mq_in ⟨g5, g6, t1, t2, rfl, HF.out⟩
     ·refine step_alloc 27 5 zeroS (by rfl) (by rfl) allocS ?_
      refine And.intro (by rfl) ?_
      intro g5 V120 x120 b120 l120
      have R_120 := Lib.hid (R_116.out.alloc x120.out b120.out l120.out)
      clear R_116 x120 b120 l120
      refine hK.out _ _ ⟨R_120.out.h2, R_120.out.h3⟩ (fun hHeld => ?_)
      clear hK K
      try simp only [Act.put, List.setIfInBounds_toArray, List.set_cons_zero, List.set_cons_succ]
      refine wpAnyH_ready (rs := [3]) (by kernel_rfl) (by simp) ?_
      refine AllReadyH.cons rfl (fun K hK => ?_) AllReadyH.nil
      go_simp
      go_at_call 13
      refine (clone_any b _ (HIB.out _ R_120.out.below) (Nat.le_trans HLB.out.n1 (by decide)) (Nat.le_trans HLB.out.n2 (by decide)) (fun z hz => (HSB2.out.fits z hz).few)).mono ?_
      rintro e V121 ⟨t2, rfl, hp, ho, hb⟩
      have R_121 := Lib.hid (R_120.out.clone hb ho hp)
      clear R_120 hp ho hb
      refine hK.out _ _ ⟨R_121.out.h2, R_121.out.h3⟩ (fun hHeld => ?_)
      clear hK K
      try simp only [Act.put, List.setIfInBounds_toArray, List.set_cons_zero, List.set_cons_succ]
      refine wpAnyH_ready (rs := [6]) (by kernel_rfl) (by simp) ?_
      refine AllReadyH.cons rfl (fun K hK => ?_) AllReadyH.nil
      refine stepG_store (T := 27) 27 (.tmp 5) (.tmp 15) (by rfl) g5 0 zeroS (Fc.stateC t1) (Fc.stateC t1) ?_
      refine And.intro ⟨by rfl, by rfl, by rfl, by rfl, info_state, state_one _, of_decide_eq_true rfl, by kernel_rfl, (R_121.out.hz g5 (by simp)).1⟩ ?_
      intro W8 x8 c8
      refine hK.out _ _ ⟨R_121.out.h2.over c8.out (R_121.out.hz g5 (by simp)).2.2.1, R_121.out.h3.over c8.out (R_121.out.hz g5 (by simp)).2.2.2⟩ (fun hHeld => ?_)
      clear hK K
      try simp only [Act.put, List.setIfInBounds_toArray, List.set_cons_zero, List.set_cons_succ]
      refine wpAnyH_ready (rs := [7]) (by kernel_rfl) (by simp) ?_
      refine AllReadyH.cons rfl (fun K hK => ?_) AllReadyH.nil
      refine stepG_store (T := 27) 27 (.tmp 6) (.tmp 17) (by rfl) g6 0 zeroS (Fc.stateC t2) (Fc.stateC t2) ?_
      refine And.intro ⟨by rfl, by rfl, by rfl, by rfl, info_state, state_one _, of_decide_eq_true rfl, by kernel_rfl, (R_121.out.hz g6 (by simp)).1.over c8.out (by have q := R_121.out.nd; simp at q; omega)⟩ ?_
      intro W9 x9 c9
      have HF := Lib.hid (R_121.out.fin (g5 := g5) (g6 := g6) (by simp) (by simp) (by have q := R_121.out.nd; simp at q; omega) x8.out c8.out x9.out c9.out)
      refine hK.out _ _ ⟨HF.out.h2, HF.out.h3⟩ (fun hHeld => ?_)
      clear hK K
      try simp only [Act.put, List.setIfInBounds_toArray, List.set_cons_zero, List.set_cons_succ]
      refine wpAnyH_done (by kernel_rfl) ?_ _
      exact mq_in ⟨g5, g6, t1, t2, rfl, HF.out⟩
   ·refine step_alloc 27 5 zeroS (by rfl) (by rfl) allocS ?_
    refine And.intro (by rfl) ?_
    intro g5 V123 x123 b123 l123
    have R_123 := Lib.hid (R_2.out.alloc x123.out b123.out l123.out)
    clear R_2 x123 b123 l123
    refine hK.out _ _ ⟨R_123.out.h2, R_123.out.h3⟩ (fun hHeld => ?_)
    clear hK K
    try simp only [Act.put, List.setIfInBounds_toArray, List.set_cons_zero, List.set_cons_succ]
    refine wpAnyH_ready (rs := [1, 5]) (by kernel_rfl) (by simp) ?_
    refine AllReadyH.cons rfl (fun K hK => ?_) (AllReadyH.cons rfl (fun K hK => ?_) AllReadyH.nil)
    ·go_simp
     go_at_call 13
     refine (clone_any a _ (HIA.out _ R_123.out.below) (Nat.le_trans HLA.out.n1 (by decide)) (Nat.le_trans HLA.out.n2 (by decide)) (fun z hz => (HSA2.out.fits z hz).few)).mono ?_
     rintro e V124 ⟨t1, rfl, hp, ho, hb⟩
     have R_124 := Lib.hid (R_123.out.clone hb ho hp)
     clear R_123 hp ho hb
     refine hK.out _ _ ⟨R_124.out.h2, R_124.out.h3⟩ (fun hHeld => ?_)
     clear hK K
     try simp only [Act.put, List.setIfInBounds_toArray, List.set_cons_zero, List.set_cons_succ]
     refine wpAnyH_ready (rs := [3, 5]) (by kernel_rfl) (by simp) ?_
     refine AllReadyH.cons rfl (fun K hK => ?_) (AllReadyH.cons rfl (fun K hK => ?_) AllReadyH.nil)
     ·go_simp
      go_at_call 13
      refine (clone_any b _ (HIB.out _ R_124.out.below) (Nat.le_trans HLB.out.n1 (by decide)) (Nat.le_trans HLB.out.n2 (by decide)) (fun z hz => (HSB2.out.fits z hz).few)).mono ?_
      rintro e V125 ⟨t2, rfl, hp, ho, hb⟩
      have R_125 := Lib.hid (R_124.out.clone hb ho hp)
      clear R_124 hp ho hb
      refine hK.out _ _ ⟨R_125.out.h2, R_125.out.h3⟩ (fun hHeld => ?_)
      clear hK K
      try simp only [Act.put, List.setIfInBounds_toArray, List.set_cons_zero, List.set_cons_succ]
      refine wpAnyH_ready (rs := [5]) (by kernel_rfl) (by simp) ?_
      refine AllReadyH.cons rfl (fun K hK => ?_) AllReadyH.nil
      refine step_alloc 27 6 zeroS (by rfl) (by rfl) allocS ?_
      refine And.intro (by rfl) ?_
      intro g6 V126 x126 b126 l126
      have R_126 := Lib.hid (R_125.out.alloc x126.out b126.out l126.out)
      clear R_125 x126 b126 l126
      refine hK.out _ _ ⟨R_126.out.h2, R_126.out.h3⟩ (fun hHeld => ?_)
      clear hK K
      try simp only [Act.put, List.setIfInBounds_toArray, List.set_cons_zero, List.set_cons_succ]
      refine wpAnyH_ready (rs := [6]) (by kernel_rfl) (by simp) ?_
      refine AllReadyH.cons rfl (fun K hK => ?_) AllReadyH.nil
      refine stepG_store (T := 27) 27 (.tmp 5) (.tmp 15) (by rfl) g5 0 zeroS (Fc.stateC t1) (Fc.stateC t1) ?_
      refine And.intro ⟨by rfl, by rfl, by rfl, by rfl, info_state, state_one _, of_decide_eq_true rfl, by kernel_rfl, (R_126.out.hz g5 (by simp)).1⟩ ?_
      intro W8 x8 c8
      refine hK.out _ _ ⟨R_126.out.h2.over c8.out (R_126.out.hz g5 (by simp)).2.2.1, R_126.out.h3.over c8.out (R_126.out.hz g5 (by simp)).2.2.2⟩ (fun hHeld => ?_)
      clear hK K
      try simp only [Act.put, List.setIfInBounds_toArray, List.set_cons_zero, List.set_cons_succ]
      refine wpAnyH_ready (rs := [7]) (by kernel_rfl) (by simp) ?_
      refine AllReadyH.cons rfl (fun K hK => ?_) AllReadyH.nil
      refine stepG_store (T := 27) 27 (.tmp 6) (.tmp 17) (by rfl) g6 0 zeroS (Fc.stateC t2) (Fc.stateC t2) ?_
      refine And.intro ⟨by rfl, by rfl, by rfl, by rfl, info_state, state_one _, of_decide_eq_true rfl, by kernel_rfl, (R_126.out.hz g6 (by simp)).1.over c8.out (by have q := R_126.out.nd; simp at q; omega)⟩ ?_
      intro W9 x9 c9
      have HF := Lib.hid (R_126.out.fin (g5 := g5) (g6 := g6) (by simp) (by simp) (by have q := R_126.out.nd; simp at q; omega) x8.out c8.out x9.out c9.out)
      refine hK.out _ _ ⟨HF.out.h2, HF.out.h3⟩ (fun hHeld => ?_)
      clear hK K
      try simp only [Act.put, List.setIfInBounds_toArray, List.set_cons_zero, List.set_cons_succ]
      refine wpAnyH_done (by kernel_rfl) ?_ _
      exact mq_in ⟨g5, g6, t1, t2, rfl, HF.out⟩
     ·refine step_alloc 27 6 zeroS (by rfl) (by rfl) allocS ?_
      refine And.intro (by rfl) ?_
      intro g6 V128 x128 b128 l128
      have R_128 := Lib.hid (R_124.out.alloc x128.out b128.out l128.out)
      clear R_124 x128 b128 l128
      refine hK.out _ _ ⟨R_128.out.h2, R_128.out.h3⟩ (fun hHeld => ?_)
      clear hK K
      try simp only [Act.put, List.setIfInBounds_toArray, List.set_cons_zero, List.set_cons_succ]
      refine wpAnyH_ready (rs := [3]) (by kernel_rfl) (by simp) ?_
      refine AllReadyH.cons rfl (fun K hK => ?_) AllReadyH.nil
      go_simp
      go_at_call 13
      refine (clone_any b _ (HIB.out _ R_128.out.below) (Nat.le_trans HLB.out.n1 (by decide)) (Nat.le_trans HLB.out.n2 (by decide)) (fun z hz => (HSB2.out.fits z hz).few)).mono ?_
      rintro e V129 ⟨t2, rfl, hp, ho, hb⟩
      have R_129 := Lib.hid (R_128.out.clone hb ho hp)
      clear R_128 hp ho hb
      refine hK.out _ _ ⟨R_129.out.h2, R_129.out.h3⟩ (fun hHeld => ?_)
      clear hK K
      try simp only [Act.put, List.setIfInBounds_toArray, List.set_cons_zero, List.set_cons_succ]
      refine wpAnyH_ready (rs := [6]) (by kernel_rfl) (by simp) ?_
      refine AllReadyH.cons rfl (fun K hK => ?_) AllReadyH.nil
      refine stepG_store (T := 27) 27 (.tmp 5) (.tmp 15) (by rfl) g5 0 zeroS (Fc.stateC t1) (Fc.stateC t1) ?_
      refine And.intro ⟨by rfl, by rfl, by rfl, by rfl, info_state, state_one _, of_decide_eq_true rfl, by kernel_rfl, (R_129.out.hz g5 (by simp)).1⟩ ?_
      intro W8 x8 c8
      refine hK.out _ _ ⟨R_129.out.h2.over c8.out (R_129.out.hz g5 (by simp)).2.2.1, R_129.out.h3.over c8.out (R_129.out.hz g5 (by simp)).2.2.2⟩ (fun hHeld => ?_)
      clear hK K
      try simp only [Act.put, List.setIfInBounds_toArray, List.set_cons_zero, List.set_cons_succ]
      refine wpAnyH_ready (rs := [7]) (by kernel_rfl) (by simp) ?_
      refine AllReadyH.cons rfl (fun K hK => ?_) AllReadyH.nil
      refine stepG_store (T := 27) 27 (.tmp 6) (.tmp 17) (by rfl) g6 0 zeroS (Fc.stateC t2) (Fc.stateC t2) ?_
      refine And.intro ⟨by rfl, by rfl, by rfl, by rfl, info_state, state_one _, of_decide_eq_true rfl, by kernel_rfl, (R_129.out.hz g6 (by simp)).1.over c8.out (by have q := R_129.out.nd; simp at q; omega)⟩ ?_
      intro W9 x9 c9
      have HF := Lib.hid (R_129.out.fin (g5 := g5) (g6 := g6) (by simp) (by simp) (by have q := R_129.out.nd; simp at q; omega) x8.out c8.out x9.out c9.out)
      refine hK.out _ _ ⟨HF.out.h2, HF.out.h3⟩ (fun hHeld => ?_)
      clear hK K
      try simp only [Act.put, List.setIfInBounds_toArray, List.set_cons_zero, List.set_cons_succ]
      refine wpAnyH_done (by kernel_rfl) ?_ _
      exact mq_in ⟨g5, g6, t1, t2, rfl, HF.out⟩
    ·refine step_alloc 27 6 zeroS (by rfl) (by rfl) allocS ?_
     refine And.intro (by rfl) ?_
     intro g6 V131 x131 b131 l131
     have R_131 := Lib.hid (R_123.out.alloc x131.out b131.out l131.out)
     clear R_123 x131 b131 l131
     refine hK.out _ _ ⟨R_131.out.h2, R_131.out.h3⟩ (fun hHeld => ?_)
     clear hK K
     try simp only [Act.put, List.setIfInBounds_toArray, List.set_cons_zero, List.set_cons_succ]
     refine wpAnyH_ready (rs := [1]) (by kernel_rfl) (by simp) ?_
     refine AllReadyH.cons rfl (fun K hK => ?_) AllReadyH.nil
     go_simp
     go_at_call 13
     refine (clone_any a _ (HIA.out _ R_131.out.below) (Nat.le_trans HLA.out.n1 (by decide)) (Nat.le_trans HLA.out.n2 (by decide)) (fun z hz => (HSA2.out.fits z hz).few)).mono ?_
     rintro e V132 ⟨t1, rfl, hp, ho, hb⟩
     have R_132 := Lib.hid (R_131.out.clone hb ho hp)
     clear R_131 hp ho hb
     refine hK.out _ _ ⟨R_132.out.h2, R_132.out.h3⟩ (fun hHeld => ?_)
     clear hK K
     try simp only [Act.put, List.setIfInBounds_toArray, List.set_cons_zero, List.set_cons_succ]
     refine wpAnyH_ready (rs := [3]) (by kernel_rfl) (by simp) ?_
     refine AllReadyH.cons rfl (fun K hK => ?_) AllReadyH.nil
     go_simp
     go_at_call 13
     refine (clone_any b _ (HIB.out _ R_132.out.below) (Nat.le_trans HLB.out.n1 (by decide)) (Nat.le_trans HLB.out.n2 (by decide)) (fun z hz => (HSB2.out.fits z hz).few)).mono ?_
     rintro e V133 ⟨t2, rfl, hp, ho, hb⟩
     have R_133 := Lib.hid (R_132.out.clone hb ho hp)
     clear R_132 hp ho hb
     refine hK.out _ _ ⟨R_133.out.h2, R_133.out.h3⟩ (fun hHeld => ?_)
     clear hK K
     try simp only [Act.put, List.setIfInBounds_toArray, List.set_cons_zero, List.set_cons_succ]
     refine wpAnyH_ready (rs := [6]) (by kernel_rfl) (by simp) ?_
     refine AllReadyH.cons rfl (fun K hK => ?_) AllReadyH.nil
     refine stepG_store (T := 27) 27 (.tmp 5) (.tmp 15) (by rfl) g5 0 zeroS (Fc.stateC t1) (Fc.stateC t1) ?_
     refine And.intro ⟨by rfl, by rfl, by rfl, by rfl, info_state, state_one _, of_decide_eq_true rfl, by kernel_rfl, (R_133.out.hz g5 (by simp)).1⟩ ?_
     intro W8 x8 c8
     refine hK.out _ _ ⟨R_133.out.h2.over c8.out (R_133.out.hz g5 (by simp)).2.2.1, R_133.out.h3.over c8.out (R_133.out.hz g5 (by simp)).2.2.2⟩ (fun hHeld => ?_)
     clear hK K
     try simp only [Act.put, List.setIfInBounds_toArray, List.set_cons_zero, List.set_cons_succ]
     refine wpAnyH_ready (rs := [7]) (by kernel_rfl) (by simp) ?_
     refine AllReadyH.cons rfl (fun K hK => ?_) AllReadyH.nil
     refine stepG_store (T := 27) 27 (.tmp 6) (.tmp 17) (by rfl) g6 0 zeroS (Fc.stateC t2) (Fc.stateC t2) ?_
     refine And.intro ⟨by rfl, by rfl, by rfl, by rfl, info_state, state_one _, of_decide_eq_true rfl, by kernel_rfl, (R_133.out.hz g6 (by simp)).1.over c8.out (by have q := R_133.out.nd; simp at q; omega)⟩ ?_
     intro W9 x9 c9
     have HF := Lib.hid (R_133.out.fin (g5 := g5) (g6 := g6) (by simp) (by simp) (by have q := R_133.out.nd; simp at q; omega) x8.out c8.out x9.out c9.out)
     refine hK.out _ _ ⟨HF.out.h2, HF.out.h3⟩ (fun hHeld => ?_)
     clear hK K
     try simp only [Act.put, List.setIfInBounds_toArray, List.set_cons_zero, List.set_cons_succ]
     refine wpAnyH_done (by kernel_rfl) ?_ _
     exact mq_in ⟨g5, g6, t1, t2, rfl, HF.out⟩
   ·refine step_alloc 27 6 zeroS (by rfl) (by rfl) allocS ?_
    refine And.intro (by rfl) ?_
    intro g6 V135 x135 b135 l135
    have R_135 := Lib.hid (R_2.out.alloc x135.out b135.out l135.out)
    clear R_2 x135 b135 l135
    refine hK.out _ _ ⟨R_135.out.h2, R_135.out.h3⟩ (fun hHeld => ?_)
    clear hK K
    try simp only [Act.put, List.setIfInBounds_toArray, List.set_cons_zero, List.set_cons_succ]
    refine wpAnyH_ready (rs := [1, 4]) (by kernel_rfl) (by simp) ?_
    refine AllReadyH.cons rfl (fun K hK => ?_) (AllReadyH.cons rfl (fun K hK => ?_) AllReadyH.nil)
    ·go_simp
     go_at_call 13
     refine (clone_any a _ (HIA.out _ R_135.out.below) (Nat.le_trans HLA.out.n1 (by decide)) (Nat.le_trans HLA.out.n2 (by decide)) (fun z hz => (HSA2.out.fits z hz).few)).mono ?_
     rintro e V136 ⟨t1, rfl, hp, ho, hb⟩
     have R_136 := Lib.hid (R_135.out.clone hb ho hp)
     clear R_135 hp ho hb
     refine hK.out _ _ ⟨R_136.out.h2, R_136.out.h3⟩ (fun hHeld => ?_)
     clear hK K
     try simp only [Act.put, List.setIfInBounds_toArray, List.set_cons_zero, List.set_cons_succ]
     refine wpAnyH_ready (rs := [3, 4]) (by kernel_rfl) (by simp) ?_
     refine AllReadyH.cons rfl (fun K hK => ?_) (AllReadyH.cons rfl (fun K hK => ?_) AllReadyH.nil)
     ·go_simp
      go_at_call 13
      refine (clone_any b _ (HIB.out _ R_136.out.below) (Nat.le_trans HLB.out.n1 (by decide)) (Nat.le_trans HLB.out.n2 (by decide)) (fun z hz => (HSB2.out.fits z hz).few)).mono ?_
      rintro e V137 ⟨t2, rfl, hp, ho, hb⟩
      have R_137 := Lib.hid (R_136.out.clone hb ho hp)
      clear R_136 hp ho hb
      refine hK.out _ _ ⟨R_137.out.h2, R_137.out.h3⟩ (fun hHeld => ?_)
      clear hK K
      try simp only [Act.put, List.setIfInBounds_toArray, List.set_cons_zero, List.set_cons_succ]
      refine wpAnyH_ready (rs := [4]) (by kernel_rfl) (by simp) ?_
      refine AllReadyH.cons rfl (fun K hK => ?_) AllReadyH.nil
      refine step_alloc 27 5 zeroS (by rfl) (by rfl) allocS ?_
      refine And.intro (by rfl) ?_
      intro g5 V138 x138 b138 l138
      have R_138 := Lib.hid (R_137.out.alloc x138.out b138.out l138.out)
      clear R_137 x138 b138 l138
      refine hK.out _ _ ⟨R_138.out.h2, R_138.out.h3⟩ (fun hHeld => ?_)
      clear hK K
      try simp only [Act.put, List.setIfInBounds_toArray, List.set_cons_zero, List.set_cons_succ]
      refine wpAnyH_ready (rs := [6]) (by kernel_rfl) (by simp) ?_
      refine AllReadyH.cons rfl (fun K hK => ?_) AllReadyH.nil
      refine stepG_store (T := 27) 27 (.tmp 5) (.tmp 15) (by rfl) g5 0 zeroS (Fc.stateC t1) (Fc.stateC t1) ?_
      refine And.intro ⟨by rfl, by rfl, by rfl, by rfl, info_state, state_one _, of_decide_eq_true rfl, by kernel_rfl, (R_138.out.hz g5 (by simp)).1⟩ ?_
      intro W8 x8 c8
      refine hK.out _ _ ⟨R_138.out.h2.over c8.out (R_138.out.hz g5 (by simp)).2.2.1, R_138.out.h3.over c8.out (R_138.out.hz g5 (by simp)).2.2.2⟩ (fun hHeld => ?_)
      clear hK K
      try simp only [Act.put, List.setIfInBounds_toArray, List.set_cons_zero, List.set_cons_succ]
      refine wpAnyH_ready (rs := [7]) (by kernel_rfl) (by simp) ?_
      refine AllReadyH.cons rfl (fun K hK => ?_) AllReadyH.nil
      refine stepG_store (T := 27) 27 (.tmp 6) (.tmp 17) (by rfl) g6 0 zeroS (Fc.stateC t2) (Fc.stateC t2) ?_
      refine And.intro ⟨by rfl, by rfl, by rfl, by rfl, info_state, state_one _, of_decide_eq_true rfl, by kernel_rfl, (R_138.out.hz g6 (by simp)).1.over c8.out (by have q := R_138.out.nd; simp at q; omega)⟩ ?_
      intro W9 x9 c9
      have HF := Lib.hid (R_138.out.fin (g5 := g5) (g6 := g6) (by simp) (by simp) (by have q := R_138.out.nd; simp at q; omega) x8.out c8.out x9.out c9.out)
      refine hK.out _ _ ⟨HF.out.h2, HF.out.h3⟩ (fun hHeld => ?_)
      clear hK K
      try simp only [Act.put, List.setIfInBounds_toArray, List.set_cons_zero, List.set_cons_succ]
      refine wpAnyH_done (by kernel_rfl) ?_ _
      exact mq_in ⟨g5, g6, t1, t2, rfl, HF.out⟩
     ·refine step_alloc 27 5 zeroS (by rfl) (by rfl) allocS ?_
      refine And.intro (by rfl) ?_
      intro g5 V140 x140 b140 l140
      have R_140 := Lib.hid (R_136.out.alloc x140.out b140.out l140.out)
      clear R_136 x140 b140 l140
      refine hK.out _ _ ⟨R_140.out.h2, R_140.out.h3⟩ (fun hHeld => ?_)
      clear hK K
      try simp only [Act.put, List.setIfInBounds_toArray, List.set_cons_zero, List.set_cons_succ]
      refine wpAnyH_ready (rs := [3]) (by kernel_rfl) (by simp) ?_
      refine AllReadyH.cons rfl (fun K hK => ?_) AllReadyH.nil
      go_simp
      go_at_call 13
      refine (clone_any b _ (HIB.out _ R_140.out.below) (Nat.le_trans HLB.out.n1 (by decide)) (Nat.le_trans HLB.out.n2 (by decide)) (fun z hz => (HSB2.out.fits z hz).few)).mono ?_
      rintro e V141 ⟨t2, rfl, hp, ho, hb⟩
      have R_141 := Lib.hid (R_140.out.clone hb ho hp)
      clear R_140 hp ho hb
      refine hK.out _ _ ⟨R_141.out.h2, R_141.out.h3⟩ (fun hHeld => ?_)
      clear hK K
      try simp only [Act.put, List.setIfInBounds_toArray, List.set_cons_zero, List.set_cons_succ]
      refine wpAnyH_ready (rs := [6]) (by kernel_rfl) (by simp) ?_
      refine AllReadyH.cons rfl (fun K hK => ?_) AllReadyH.nil
      refine stepG_store (T := 27) 27 (.tmp 5) (.tmp 15) (by rfl) g5 0 zeroS (Fc.stateC t1) (Fc.stateC t1) ?_
      refine And.intro ⟨by rfl, by rfl, by rfl, by rfl, info_state, state_one _, of_decide_eq_true rfl, by kernel_rfl, (R_141.out.hz g5 (by simp)).1⟩ ?_
      intro W8 x8 c8
      refine hK.out _ _ ⟨R_141.out.h2.over c8.out (R_141.out.hz g5 (by simp)).2.2.1, R_141.out.h3.over c8.out (R_141.out.hz g5 (by simp)).2.2.2⟩ (fun hHeld => ?_)
      clear hK K
      try simp only [Act.put, List.setIfInBounds_toArray, List.set_cons_zero, List.set_cons_succ]
      refine wpAnyH_ready (rs := [7]) (by kernel_rfl) (by simp) ?_
      refine AllReadyH.cons rfl (fun K hK => ?_) AllReadyH.nil
      refine stepG_store (T := 27) 27 (.tmp 6) (.tmp 17) (by rfl) g6 0 zeroS (Fc.stateC t2) (Fc.stateC t2) ?_
      refine And.intro ⟨by rfl, by rfl, by rfl, by rfl, info_state, state_one _, of_decide_eq_true rfl, by kernel_rfl, (R_141.out.hz g6 (by simp)).1.over c8.out (by have q := R_141.out.nd; simp at q; omega)⟩ ?_
      intro W9 x9 c9
      have HF := Lib.hid (R_141.out.fin (g5 := g5) (g6 := g6) (by simp) (by simp) (by have q := R_141.out.nd; simp at q; omega) x8.out c8.out x9.out c9.out)
      refine hK.out _ _ ⟨HF.out.h2, HF.out.h3⟩ (fun hHeld => ?_)
      clear hK K
      try simp only [Act.put, List.setIfInBounds_toArray, List.set_cons_zero, List.set_cons_succ]
      refine wpAnyH_done (by kernel_rfl) ?_ _
      exact mq_in ⟨g5, g6, t1, t2, rfl, HF.out⟩
    ·refine step_alloc 27 5 zeroS (by rfl) (by rfl) allocS ?_
     refine And.intro (by rfl) ?_
     intro g5 V143 x143 b143 l143
     have R_143 := Lib.hid (R_135.out.alloc x143.out b143.out l143.out)
     clear R_135 x143 b143 l143
     refine hK.out _ _ ⟨R_143.out.h2, R_143.out.h3⟩ (fun hHeld => ?_)
     clear hK K
     try simp only [Act.put, List.setIfInBounds_toArray, List.set_cons_zero, List.set_cons_succ]
     refine wpAnyH_ready (rs := [1]) (by kernel_rfl) (by simp) ?_
     refine AllReadyH.cons rfl (fun K hK => ?_) AllReadyH.nil
     go_simp
     go_at_call 13
     refine (clone_any a _ (HIA.out _ R_143.out.below) (Nat.le_trans HLA.out.n1 (by decide)) (Nat.le_trans HLA.out.n2 (by decide)) (fun z hz => (HSA2.out.fits z hz).few)).mono ?_
     rintro e V144 ⟨t1, rfl, hp, ho, hb⟩
     have R_144 := Lib.hid (R_143.out.clone hb ho hp)
     clear R_143 hp ho hb
     refine hK.out _ _ ⟨R_144.out.h2, R_144.out.h3⟩ (fun hHeld => ?_)
     clear hK K
     try simp only [Act.put, List.setIfInBounds_toArray, List.set_cons_zero, List.set_cons_succ]
     refine wpAnyH_ready (rs := [3]) (by kernel_rfl) (by simp) ?_
     refine AllReadyH.cons rfl (fun K hK => ?_) AllReadyH.nil
     go_simp
     go_at_call 13
     refine (clone_any b _ (HIB.out _ R_144.out.below) (Nat.le_trans HLB.out.n1 (by decide)) (Nat.le_trans HLB.out.n2 (by decide)) (fun z hz => (HSB2.out.fits z hz).few)).mono ?_
     rintro e V145 ⟨t2, rfl, hp, ho, hb⟩
     have R_145 := Lib.hid (R_144.out.clone hb ho hp)
     clear R_144 hp ho hb
     refine hK.out _ _ ⟨R_145.out.h2, R_145.out.h3⟩ (fun hHeld => ?_)
     clear hK K
     try simp only [Act.put, List.setIfInBounds_toArray, List.set_cons_zero, List.set_cons_succ]
     refine wpAnyH_ready (rs := [6]) (by kernel_rfl) (by simp) ?_
     refine AllReadyH.cons rfl (fun K hK => ?_) AllReadyH.nil
     refine stepG_store (T := 27) 27 (.tmp 5) (.tmp 15) (by rfl) g5 0 zeroS (Fc.stateC t1) (Fc.stateC t1) ?_
     refine And.intro ⟨by rfl, by rfl, by rfl, by rfl, info_state, state_one _, of_decide_eq_true rfl, by kernel_rfl, (R_145.out.hz g5 (by simp)).1⟩ ?_
     intro W8 x8 c8
     refine hK.out _ _ ⟨R_145.out.h2.over c8.out (R_145.out.hz g5 (by simp)).2.2.1, R_145.out.h3.over c8.out (R_145.out.hz g5 (by simp)).2.2.2⟩ (fun hHeld => ?_)
     clear hK K
     try simp only [Act.put, List.setIfInBounds_toArray, List.set_cons_zero, List.set_cons_succ]
     refine wpAnyH_ready (rs := [7]) (by kernel_rfl) (by simp) ?_
     refine AllReadyH.cons rfl (fun K hK => ?_) AllReadyH.nil
     refine stepG_store (T := 27) 27 (.tmp 6) (.tmp 17) (by rfl) g6 0 zeroS (Fc.stateC t2) (Fc.stateC t2) ?_
     refine And.intro ⟨by rfl, by rfl, by rfl, by rfl, info_state, state_one _, of_decide_eq_true rfl, by kernel_rfl, (R_145.out.hz g6 (by simp)).1.over c8.out (by have q := R_145.out.nd; simp at q; omega)⟩ ?_
     intro W9 x9 c9
     have HF := Lib.hid (R_145.out.fin (g5 := g5) (g6 := g6) (by simp) (by simp) (by have q := R_145.out.nd; simp at q; omega) x8.out c8.out x9.out c9.out)
     refine hK.out _ _ ⟨HF.out.h2, HF.out.h3⟩ (fun hHeld => ?_)
     clear hK K
     try simp only [Act.put, List.setIfInBounds_toArray, List.set_cons_zero, List.set_cons_succ]
     refine wpAnyH_done (by kernel_rfl) ?_ _
     exact mq_in ⟨g5, g6, t1, t2, rfl, HF.out⟩
  ·rintro act W ⟨g5, g6, t1, t2, rfl, hf⟩
   have F_0 := Lib.hid hf
   clear hf
   go_wp2_with (first | ((with_reducible refine Who.wpList_loadC 27 (.tmp 5) rfl (g5) 0 (Fc.stateC t1) ?_); refine And.intro ⟨by rfl, by rfl, ⟨_, Tryz.underlying27, rfl⟩, info_state⟩ (And.intro (Who.has_range F_0.out.h5) ?_); (try simp only [Act.put, List.setIfInBounds_toArray, List.set_cons_zero, List.set_cons_succ])) | ((with_reducible refine Who.wpList_loadC 27 (.tmp 6) rfl (g6) 0 (Fc.stateC t2) ?_); refine And.intro ⟨by rfl, by rfl, ⟨_, Tryz.underlying27, rfl⟩, info_state⟩ (And.intro (Who.has_range F_0.out.h6) ?_); (try simp only [Act.put, List.setIfInBounds_toArray, List.set_cons_zero, List.set_cons_succ])) | fail)
   refine (merge_any t1 t2 _ (F_0.out.in1 HIA.out) (F_0.out.in2 HIB.out) (F_0.out.lim1 HIA.out HLA.out) (F_0.out.lim2 HIB.out HLB.out)).mono ?_
   rintro e w3 ⟨s1, rfl, hp, ho, hb⟩
   have F_1 := Lib.hid (F_0.out.low hb)
   have HP1 := Lib.hid (show s1.p = mergeP a.p b.p from by rw [hp, F_0.out.p1, F_0.out.p2])
   have HL1 := Lib.hid (limS_merge (F_0.out.in1 HIA.out) (F_0.out.in2 HIB.out) (F_0.out.lim1 HIA.out HLA.out) (F_0.out.lim2 HIB.out HLB.out) ho.in_ hp)
   have N1 := Lib.hid ho.in_
   have hbn := (Below.refl w3.heap.size w3).alloc (Nat.le_refl _) (.cells (Fc.stateC s1) 27)
   have F_2 := Lib.hid ((F_1.out.low hbn).low (Below.refl _ _).drew)
   have N1_2 := Lib.hid ((N1.out.below hbn).below (Below.refl _ _).drew)
   obtain ⟨g7, hg7⟩ : ∃ g, g = w3.heap.size := ⟨_, rfl⟩
   have V_2 := Lib.hid (show Has (w3.alloc (.cells (Fc.stateC s1) 27)).drew g7 27 (Fc.stateC s1) by rw [hg7]; exact (Has.fresh w3 27 (Fc.stateC s1)).drew)
   have HG7 := Lib.hid hg7
   clear hp ho hb hbn F_0 F_1 N1 hg7
   go_wp2_with (first | ((with_reducible refine Who.wpList_newC 27 7 (.tmp 20) rfl rfl rfl (zeroS) (Fc.stateC s1) ?_); refine And.intro ⟨rfl, rfl, rfl, allocS, by rfl, by rfl, info_state, rfl, state_one _⟩ ?_; (try simp only [Act.put, List.setIfInBounds_toArray, List.set_cons_zero, List.set_cons_succ]); (try simp only [World.size_alloc])) | fail)
   rw [← HG7.out]
   refine wp_region_held_drew (S := fun V => Has V g2 27 (Fc.stateC a) ∧ Has V g3 27 (Fc.stateC b) ∧ Has V g5 27 (Fc.stateC t1) ∧ Has V g6 27 (Fc.stateC t2) ∧ Has V g7 27 (Fc.stateC s1)) (by kernel_rfl) ⟨F_2.out.h2, F_2.out.h3, F_2.out.h5, F_2.out.h6, V_2.out⟩ (fun hHeld => ?_)
   refine Vc.wpAnyH_rd (i := 0) (d := some 21) (v := .agg (Fc.stateC s1)) ?hy1001 ?rest1001
   case hy1001 =>
    intro w hSw
    exact Who.exec_loadA _ rfl rfl (Who.has_range hSw.2.2.2.2) Tryz.underlying27 rfl info_state
   try simp only [Act.put, List.setIfInBounds_toArray, List.set_cons_zero, List.set_cons_succ]
   refine Vc.wpAnyH_rd (i := 1) (d := some 22) (v := .agg (Fc.stateC a)) ?hy1002 ?rest1002
   case hy1002 =>
    intro w hSw
    exact Who.exec_loadA _ rfl rfl (Who.has_range hSw.1) Tryz.underlying27 rfl info_state
   try simp only [Act.put, List.setIfInBounds_toArray, List.set_cons_zero, List.set_cons_succ]
   refine Vc.wpAnyH_rd (i := 2) (d := some 23) (v := .agg (Fc.stateC b)) ?hy1003 ?rest1003
   case hy1003 =>
    intro w hSw
    exact Who.exec_loadA _ rfl rfl (Who.has_range hSw.2.1) Tryz.underlying27 rfl info_state
   try simp only [Act.put, List.setIfInBounds_toArray, List.set_cons_zero, List.set_cons_succ]
   refine wpAnyH_ready (rs := [3]) (by kernel_rfl) (by simp) ?_
   refine AllReadyH.cons rfl (fun K hK => ?_) AllReadyH.nil
   go_simp
   go_at_call 18
   refine (rmerge_any a b _ (HIA.out _ F_2.out.below) (HIB.out _ F_2.out.below) HSA2.out HSB2.out HTA.out HTB.out ⟨Nat.le_trans HLA.out.n1 (by decide), Nat.le_trans HLA.out.n2 (by decide)⟩ ⟨Nat.le_trans HLB.out.n1 (by decide), Nat.le_trans HLB.out.n2 (by decide)⟩).mono ?_
   rintro e w13 ⟨s2, rfl, hp, ho, hb⟩
   have HP2 := Lib.hid hp
   have HL2 := Lib.hid (limS_merge (HIA.out _ F_2.out.below) (HIB.out _ F_2.out.below) HLA.out HLB.out ho.in_ hp)
   have F_3 := Lib.hid (F_2.out.low hb)
   have V_3 := Lib.hid (V_2.out.below hb)
   have N1_3 := Lib.hid (N1_2.out.below hb)
   have N2_3 := Lib.hid ho.in_
   clear hp ho hb F_2 V_2 N1_2
   refine hK.out _ _ ⟨F_3.out.h2, F_3.out.h3, F_3.out.h5, F_3.out.h6, V_3.out⟩ (fun hHeld => ?_)
   clear hK K
   try simp only [Act.put, List.setIfInBounds_toArray, List.set_cons_zero, List.set_cons_succ]
   refine wpAnyH_ready (rs := [4]) (by kernel_rfl) (by simp) ?_
   refine AllReadyH.cons rfl (fun K hK => ?_) AllReadyH.nil
   go_simp
   go_at_call 15
   refine (rsame_yes s1 s2 _ (row_in (N1_3.out) (HL1.out) (by decide)) (row_in (N2_3.out) (HL2.out) (by decide)) (HP2.out.trans HP1.out.symm)).mono ?_
   rintro e w14 ⟨rfl, hb⟩
   have F_4 := Lib.hid (F_3.out.low hb)
   have V_4 := Lib.hid (V_3.out.below hb)
   have N1_4 := Lib.hid (N1_3.out.below hb)
   have N2_4 := Lib.hid (N2_3.out.below hb)
   clear hb F_3 V_3 N1_3 N2_3
   refine hK.out _ _ ⟨F_4.out.h2, F_4.out.h3, F_4.out.h5, F_4.out.h6, V_4.out⟩ (fun hHeld => ?_)
   clear hK K
   try simp only [Act.put, List.setIfInBounds_toArray, List.set_cons_zero, List.set_cons_succ]
   refine Vc.wpAnyH_rd (i := 5) (d := some 26) (v := ?v1004) ?hy1004 ?rest1004
   case hy1004 =>
    intro w hSw
    try dsimp only at hSw
    go_simp
    try with_reducible rfl
   try simp only [Act.put, List.setIfInBounds_toArray, List.set_cons_zero, List.set_cons_succ]
   refine Vc.wpAnyH_rd (i := 6) (d := some 27) (v := .agg (Fc.stateC t1)) ?hy1005 ?rest1005
   case hy1005 =>
    intro w hSw
    exact Who.exec_loadA _ rfl rfl (Who.has_range hSw.2.2.1) Tryz.underlying27 rfl info_state
   try simp only [Act.put, List.setIfInBounds_toArray, List.set_cons_zero, List.set_cons_succ]
   refine Vc.wpAnyH_rd (i := 7) (d := some 28) (v := .agg (Fc.stateC a)) ?hy1006 ?rest1006
   case hy1006 =>
    intro w hSw
    exact Who.exec_loadA _ rfl rfl (Who.has_range hSw.1) Tryz.underlying27 rfl info_state
   try simp only [Act.put, List.setIfInBounds_toArray, List.set_cons_zero, List.set_cons_succ]
   refine wpAnyH_ready (rs := [8]) (by kernel_rfl) (by simp) ?_
   refine AllReadyH.cons rfl (fun K hK => ?_) AllReadyH.nil
   go_simp
   go_at_call 15
   refine (rsame_yes t1 a _ (row_in (F_4.out.in1 HIA.out) (F_4.out.lim1 HIA.out HLA.out) (by decide)) (row_in (HIA.out _ F_4.out.below) (HLA.out) (by decide)) (F_4.out.p1.symm)).mono ?_
   rintro e w15 ⟨rfl, hb⟩
   have F_5 := Lib.hid (F_4.out.low hb)
   have V_5 := Lib.hid (V_4.out.below hb)
   have N1_5 := Lib.hid (N1_4.out.below hb)
   have N2_5 := Lib.hid (N2_4.out.below hb)
   clear hb F_4 V_4 N1_4 N2_4
   refine hK.out _ _ ⟨F_5.out.h2, F_5.out.h3, F_5.out.h5, F_5.out.h6, V_5.out⟩ (fun hHeld => ?_)
   clear hK K
   try simp only [Act.put, List.setIfInBounds_toArray, List.set_cons_zero, List.set_cons_succ]
   refine Vc.wpAnyH_rd (i := 9) (d := some 30) (v := ?v1007) ?hy1007 ?rest1007
   case hy1007 =>
    intro w hSw
    try dsimp only at hSw
    go_simp
    try with_reducible rfl
   try simp only [Act.put, List.setIfInBounds_toArray, List.set_cons_zero, List.set_cons_succ]
   refine Vc.wpAnyH_rd (i := 10) (d := some 31) (v := ?v1008) ?hy1008 ?rest1008
   case hy1008 =>
    intro w hSw
    try dsimp only at hSw
    go_simp
    try with_reducible rfl
   try simp only [Act.put, List.setIfInBounds_toArray, List.set_cons_zero, List.set_cons_succ]
   refine Vc.wpAnyH_rd (i := 11) (d := some 32) (v := .agg (Fc.stateC t2)) ?hy1009 ?rest1009
   case hy1009 =>
    intro w hSw
    exact Who.exec_loadA _ rfl rfl (Who.has_range hSw.2.2.2.1) Tryz.underlying27 rfl info_state
   try simp only [Act.put, List.setIfInBounds_toArray, List.set_cons_zero, List.set_cons_succ]
   refine Vc.wpAnyH_rd (i := 12) (d := some 33) (v := .agg (Fc.stateC b)) ?hy1010 ?rest1010
   case hy1010 =>
    intro w hSw
    exact Who.exec_loadA _ rfl rfl (Who.has_range hSw.2.1) Tryz.underlying27 rfl info_state
   try simp only [Act.put, List.setIfInBounds_toArray, List.set_cons_zero, List.set_cons_succ]
   refine wpAnyH_ready (rs := [13]) (by kernel_rfl) (by simp) ?_
   refine AllReadyH.cons rfl (fun K hK => ?_) AllReadyH.nil
   go_simp
   go_at_call 15
   refine (rsame_yes t2 b _ (row_in (F_5.out.in2 HIB.out) (F_5.out.lim2 HIB.out HLB.out) (by decide)) (row_in (HIB.out _ F_5.out.below) (HLB.out) (by decide)) (F_5.out.p2.symm)).mono ?_
   rintro e w16 ⟨rfl, hb⟩
   have F_6 := Lib.hid (F_5.out.low hb)
   have V_6 := Lib.hid (V_5.out.below hb)
   have N1_6 := Lib.hid (N1_5.out.below hb)
   have N2_6 := Lib.hid (N2_5.out.below hb)
   clear hb F_5 V_5 N1_5 N2_5
   refine hK.out _ _ ⟨F_6.out.h2, F_6.out.h3, F_6.out.h5, F_6.out.h6, V_6.out⟩ (fun hHeld => ?_)
   clear hK K
   try simp only [Act.put, List.setIfInBounds_toArray, List.set_cons_zero, List.set_cons_succ]
   refine Vc.wpAnyH_rd (i := 14) (d := some 35) (v := ?v1011) ?hy1011 ?rest1011
   case hy1011 =>
    intro w hSw
    try dsimp only at hSw
    go_simp
    try with_reducible rfl
   try simp only [Act.put, List.setIfInBounds_toArray, List.set_cons_zero, List.set_cons_succ]
   refine Vc.wpAnyH_rd (i := 15) (d := some 36) (v := ?v1012) ?hy1012 ?rest1012
   case hy1012 =>
    intro w hSw
    try dsimp only at hSw
    go_simp
    try with_reducible rfl
   try simp only [Act.put, List.setIfInBounds_toArray, List.set_cons_zero, List.set_cons_succ]
   refine wpAnyH_ready (rs := [16]) (by kernel_rfl) (by simp) ?_
   refine AllReadyH.cons rfl (fun K hK => ?_) AllReadyH.nil
   go_simp
   go_at_call 12
   refine (awake_any _).mono ?_
   rintro e w17 ⟨rfl, hb⟩
   have F_7 := Lib.hid (F_6.out.low hb)
   have V_7 := Lib.hid (V_6.out.below hb)
   have N1_7 := Lib.hid (N1_6.out.below hb)
   have N2_7 := Lib.hid (N2_6.out.below hb)
   clear hb F_6 V_6 N1_6 N2_6
   refine hK.out _ _ ⟨F_7.out.h2, F_7.out.h3, F_7.out.h5, F_7.out.h6, V_7.out⟩ (fun hHeld => ?_)
   clear hK K
   try simp only [Act.put, List.setIfInBounds_toArray, List.set_cons_zero, List.set_cons_succ]
   refine Vc.wpAnyH_rd (i := 17) (d := some 38) (v := ?v1013) ?hy1013 ?rest1013
   case hy1013 =>
    intro w hSw
    try dsimp only at hSw
    go_simp
    try with_reducible rfl
   try simp only [Act.put, List.setIfInBounds_toArray, List.set_cons_zero, List.set_cons_succ]
   refine Vc.wpAnyH_rd (i := 18) (d := some 4) (v := ?v1014) ?hy1014 ?rest1014
   case hy1014 =>
    intro w hSw
    try dsimp only at hSw
    go_simp
    try with_reducible rfl
   try simp only [Act.put, List.setIfInBounds_toArray, List.set_cons_zero, List.set_cons_succ]
   refine wpAnyH_done (by kernel_rfl) ?_ _
   go_wp2
   go_ret
   exact ⟨rfl, F_7.out.below⟩
end Go.Proofs.YtblogecapegbmaaGreat.Jn
