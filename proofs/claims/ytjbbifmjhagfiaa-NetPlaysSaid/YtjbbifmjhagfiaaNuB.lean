/- The document's messages on their way: Send, Double. -/
import Derived.Test.YtjbbifmjhagfiaaNuA
namespace Go.Proofs.Ytjbbifmjhagfiaa.Nt
open Go.RowKit Go.Proofs.Ytjbbifmjhagfiaa.Mem Go.Proofs.Ytjbbifmjhagfiaa.Vc
set_option linter.unusedVariables false

theorem rput_post {w w1 w' : World} {B g g' cap : Nat} {v : Value} {V : NetV} {m : MsgP} (h : RNetIs w B g v V) (hl : V.way.length + 1 ≤ 160) (hb : Below w.heap.size w w1)
    (ho : w'.ownsRow B 36 19 (.slice (some ⟨g', 0, none⟩) (V.way.length + 1) cap) (V.way.length + 1) (V.way.flatMap mL ++ mL m)) (hg2 : w1.grownBy w' v.ownBlock) (hor : v.ownBlock = some g' ∨ g' = w1.heap.size) :
    Has w' g 30 (rnetC v V.sent V.lost) ∧ RNetIs (w'.setCell ⟨g, 0, none⟩ (.slice (some ⟨g', 0, none⟩) (V.way.length + 1) cap)) B g (.slice (some ⟨g', 0, none⟩) (V.way.length + 1) cap) { V with way := V.way ++ [m] } ∧ NStep w (w'.setCell ⟨g, 0, none⟩ (.slice (some ⟨g', 0, none⟩) (V.way.length + 1) cap)) g v (.slice (some ⟨g', 0, none⟩) (V.way.length + 1) cap) := by
  have hap := h.row.apart h.head (by decide)
  have h1 : Has w' g 30 (rnetC v V.sent V.lost) := Has.grown (h.head.below hb) hg2 hap
  have hrow : MOwn w' B (.slice (some ⟨g', 0, none⟩) (V.way.length + 1) cap) (V.way ++ [m]) := by
    unfold MOwn
    rw [List.length_append, List.flatMap_append]
    simpa using ho
  have hap2 := hrow.apart h1 (by decide)
  have c1 := (Chg.refl (· = g) w').setCell (p := ⟨g, 0, none⟩) (.inl rfl) (.slice (some ⟨g', 0, none⟩) (V.way.length + 1) cap)
  refine ⟨h1, ⟨h1.put 0 _, h.lo, hrow.chg c1 (fun k hk e => hap2 (by rw [hk, e])), by simp; omega⟩, ?_, fun k hk => ?_⟩
  · have c0 : Chg (fun k => k = g ∨ v.ownBlock = some k) w w1 := Chg.of_below hb _
    exact (c0.trans ((Chg.grown hg2).mono (fun k e => .inr e))).trans (c1.mono (fun k e => .inl e))
  · have e : g' = k := by simpa [Value.ownBlock] using hk
    subst e
    rcases hor with hor | hor
    · exact .inl hor
    · exact .inr (by rw [hor]; exact hb.size)
def ROut (w : World) (B g : Nat) (v : Value) (r : NetV × Int) (e : Ending) (w' : World) : Prop := e = .returned (.int .i64 r.2) ∧ ∃ v', RNetIs w' B g v' r.1 ∧ NStep w w' g v v'
theorem rnet_sent {w : World} {B g : Nat} {v : Value} {V : NetV} (h : RNetIs w B g v V) (s : Int) : RNetIs (w.setCell ⟨g, 1, none⟩ (.int .i64 s)) B g v { V with sent := s } :=
  ⟨h.head.put 1 _, h.lo, h.row.chg ((Chg.refl (· = g) w).setCell (p := ⟨g, 1, none⟩) (.inl rfl) _) (fun k hk e => h.row.apart h.head (by decide) (by rw [hk, e])), h.few⟩
theorem rnet_lost {w : World} {B g : Nat} {v : Value} {V : NetV} (h : RNetIs w B g v V) (s : Int) : RNetIs (w.setCell ⟨g, 2, none⟩ (.int .i64 s)) B g v { V with lost := s } :=
  ⟨h.head.put 2 _, h.lo, h.row.chg ((Chg.refl (· = g) w).setCell (p := ⟨g, 2, none⟩) (.inl rfl) _) (fun k hk e => h.row.apart h.head (by decide) (by rw [hk, e])), h.few⟩
set_option maxRecDepth 100000 in
set_option maxHeartbeats 4000000 in
theorem rsend_any (B g : Nat) (v : Value) (V : NetV) (m : MsgP) (w : World) (hB : B ≤ w.heap.size) (hf : V.Few) (h : RNetIs w B g v V) : Calls Try.prog 52 #[.pointer (some ⟨g, 0, none⟩), .agg (msgC m)] w (ROut w B g v (sendV V m)) := by
  obtain ⟨s0, s1, l0, l1⟩ := hf
  obtain ⟨A, c, hv, _⟩ := h.row.sl
  have HV := Lib.hid hv
  have hgb := h.head.bound
  have hgn : g ≠ w.heap.size := by omega
  have HI := Lib.hid h
  have HB := Lib.hid ((Below.refl w.heap.size w).alloc (Nat.le_refl _) (.cells (msgC m) 36))
  have HBB := Lib.hid hB
  have HM := Lib.hid (Has.fresh w 36 (msgC m))
  have HC := Lib.hid (fun W => rcheck_any m W)
  have HG := Lib.hid hgn
  clear h hB hgn hv
  go_enter Try.func52, Try.ntmps52
  go_wp2_with ((with_reducible refine Who.wpList_loadC 36 (.tmp 3) rfl w.heap.size 0 (msgC m) ?_); refine And.intro ⟨by rfl, by rfl, ⟨_, Try.underlying36, rfl⟩, info_size _⟩ (And.intro (Who.has_range HM.out) ?_); (try simp only [Act.put, List.setIfInBounds_toArray, List.set_cons_zero, List.set_cons_succ]))
  with_reducible refine (HC.out _).mono ?_
  rintro e w1 ⟨rfl, hb⟩
  have HB1 := Lib.hid (HB.out.trans (hb.mono HB.out.size))
  have HM1 := Lib.hid (HM.out.below hb)
  have HI1 := Lib.hid ((HI.out.below HB.out).below hb)
  clear hb HM HI
  by_cases q : OkM m
  · have HQ := Lib.hid q
    clear q
    rw [err_yes HQ.out]
    have hgb1 := HI1.out.head.bound
    have d2 : w1.cell? ⟨g, 1, none⟩ = some (.int .i64 V.sent) := HI1.out.head.at_ 1
    have f2 := HI1.out.head.free 1
    have HM := Lib.hid (HM1.out.keep (p := ⟨g, 1, none⟩) (fun e => HG.out e.symm) (.int .i64 (V.sent + 1)))
    have HI := Lib.hid (rnet_sent HI1.out (V.sent + 1))
    have HS := Lib.hid (((Chg.of_below HB1.out (· = g)).setCell (p := ⟨g, 1, none⟩) (.inl rfl) (.int .i64 (V.sent + 1))))
    have HBB := Lib.hid (show B ≤ (w1.setCell ⟨g, 1, none⟩ (.int .i64 (V.sent + 1))).heap.size from Nat.le_trans HBB.out HS.out.size)
    have c0 : (w1.setCell ⟨g, 1, none⟩ (.int .i64 (V.sent + 1))).cell? ⟨g, 0, none⟩ = some v := HI.out.head.at_ 0
    rw [HV.out] at c0
    by_cases q2 : 160 ≤ V.way.length
    · have HP := Lib.hid (send_full HQ.out q2)
      have q3 : (160 : Int) ≤ (V.way.length : Int) := by omega
      have d3 : (w1.setCell ⟨g, 1, none⟩ (.int .i64 (V.sent + 1))).cell? ⟨g, 2, none⟩ = some (.int .i64 V.lost) := HI.out.head.at_ 2
      have f3 := HI.out.head.free 2
      have HN := Lib.hid (rnet_lost HI.out (V.lost + 1))
      have HT := Lib.hid (show NStep w _ g v v from ⟨((HS.out.setCell (p := ⟨g, 2, none⟩) (.inl rfl) (.int .i64 (V.lost + 1)))).mono (fun k e => .inl e), fun k hk => .inl hk⟩)
      clear q2
      go_wp2
      go_ret
      exact ⟨by rw [HP.out]; rfl, v, by rw [HP.out]; exact HN.out, HT.out⟩
    · have HP := Lib.hid (send_room HQ.out q2)
      have q3 : ¬ (160 : Int) ≤ (V.way.length : Int) := by omega
      have HL := Lib.hid (show V.way.length + 1 ≤ 160 by omega)
      obtain ⟨i0, hi, hz0, hz1, hz2⟩ := info_parts info_msg
      have HX := Lib.hid (And.intro hi (And.intro hz0 (And.intro hz1 hz2)))
      have HW := Lib.hid (show MOwn ((w1.setCell ⟨g, 1, none⟩ (.int .i64 (V.sent + 1))).drew) B v V.way from HI.out.drew.row)
      rw [HV.out] at HW
      clear q2 hi hz0 hz1 hz2
      go_wp2
      refine wp_region_held_drew (S := fun _ => True) (by kernel_rfl) trivial (fun hHeld => ?_)
      refine Vc.wpAnyH_read (i := 0) (d := some 31) (v := ?v0) (by rfl) (by rfl) (by kernel_rfl) (by kernel_rfl) (by kernel_rfl) (fun _ _ _ h => h) (by rfl) ?hy0 (by assumption) ?rest0
      case hy0 =>
        intro w hSw
        go_simp
        try with_reducible rfl
      (try simp only [Act.put, List.setIfInBounds_toArray, List.set_cons_zero, List.set_cons_succ])
      refine Vc.wpAnyH_read (i := 1) (d := some 32) (v := ?v1) (by rfl) (by rfl) (by kernel_rfl) (by kernel_rfl) (by kernel_rfl) (fun _ _ _ h => h) (by rfl) ?hy1 (by assumption) ?rest1
      case hy1 =>
        intro w hSw
        go_simp
        try with_reducible rfl
      (try simp only [Act.put, List.setIfInBounds_toArray, List.set_cons_zero, List.set_cons_succ])
      refine Vc.wpAnyH_read (i := 2) (d := some 33) (v := ?v2) (by rfl) (by rfl) (by kernel_rfl) (by kernel_rfl) (by kernel_rfl) (fun _ _ _ h => h) (by rfl) ?hy2 (by assumption) ?rest2
      case hy2 =>
        intro w hSw
        go_simp
        try with_reducible rfl
      (try simp only [Act.put, List.setIfInBounds_toArray, List.set_cons_zero, List.set_cons_succ])
      refine Vc.wpAnyH_read (i := 3) (d := some 34) (v := ?v3) (by rfl) (by rfl) (by kernel_rfl) (by kernel_rfl) (by kernel_rfl) (fun _ _ _ h => h) (by rfl) ?hy3 (by assumption) ?rest3
      case hy3 =>
        intro w hSw
        go_simp
        try with_reducible rfl
      (try simp only [Act.put, List.setIfInBounds_toArray, List.set_cons_zero, List.set_cons_succ])
      refine wpAnyH_ready (rs := [4, 5]) (by kernel_rfl) (by simp) ?_
      refine AllReadyH.cons rfl (fun K hK => ?_) (AllReadyH.cons rfl (fun K hK => ?_) AllReadyH.nil)
      · go_simp
        refine hK.out _ _ trivial (fun hHeld => ?_)
        clear hK K
        (try simp only [Act.put, List.setIfInBounds_toArray, List.set_cons_zero, List.set_cons_succ])
        refine wpAnyH_ready (rs := [5]) (by kernel_rfl) (by simp) ?_
        refine AllReadyH.cons rfl (fun K hK => ?_) AllReadyH.nil
        refine step_loadA 36 (.tmp 3) (by rfl) w.heap.size 0 (msgC m) ?_
        refine And.intro ⟨by rfl, by rfl, ⟨_, Try.underlying36, rfl⟩, info_size _⟩ (And.intro (Who.has_range (by exact HM.out)) ?_)
        go_simp
        refine hK.out _ _ trivial (fun hHeld => ?_)
        clear hK K
        (try simp only [Act.put, List.setIfInBounds_toArray, List.set_cons_zero, List.set_cons_succ])
        refine wpAnyH_ready (rs := [6]) (by kernel_rfl) (by simp) ?_
        refine AllReadyH.cons rfl (fun K hK => ?_) AllReadyH.nil
        refine step_build (.tmp 36) (by rfl) m ?_
        refine And.intro ⟨by rfl, by rfl⟩ ?_
        go_simp
        refine hK.out _ _ trivial (fun hHeld => ?_)
        clear hK K
        (try simp only [Act.put, List.setIfInBounds_toArray, List.set_cons_zero, List.set_cons_succ])
        refine wpAnyH_ready (rs := [7]) (by kernel_rfl) (by simp) ?_
        refine AllReadyH.cons rfl (fun K hK => ?_) AllReadyH.nil
        refine step_append_lies _ (by rfl) (.tmp 35) (.tmp 37) 28 (by rfl) B 36 i0 (.agg (msgC msg0)) 19 160 Try.underlying28 HX.out.1 HX.out.2.1 HX.out.2.2.1 HX.out.2.2.2 rfl (by decide) (.slice A V.way.length c) V.way.length (V.way.flatMap mL) (by rfl) (World.ownsRow.alloc HW.out _) ⟨w1.heap.size, 0, none⟩ 1 1 (mL m) (by rfl) rfl ?c11 ?c21 (by decide) (by unfold maxLen; have := HL.out; omega) (by have := HL.out; omega) (Nat.le_trans HBB.out (((Below.refl (w1.setCell ⟨g, 1, none⟩ (.int .i64 (V.sent + 1))).heap.size (w1.setCell ⟨g, 1, none⟩ (.int .i64 (V.sent + 1)))).drew).alloc (Nat.le_refl _) (.cells (msgC m) 36)).size) _ rfl ?_
        case c11 =>
          have hq := Has.fresh (w1.setCell ⟨g, 1, none⟩ (.int .i64 (V.sent + 1))).drew 36 (msgC m)
          rw [show (w1.setCell ⟨g, 1, none⟩ (.int .i64 (V.sent + 1))).drew.heap.size = w1.heap.size from by simp] at hq
          exact World.news_of_block hq
        case c21 => exact fun u hu => (Array.all_eq_true_iff_forall_mem.1 (msgC_one m)) u (by simpa [mL] using hu)
        intro g' cap w' ho hg2 hor hlt
        go_simp
        refine hK.out _ _ trivial (fun hHeld => ?_)
        clear hK K
        (try simp only [Act.put, List.setIfInBounds_toArray, List.set_cons_zero, List.set_cons_succ])
        have HQ := Lib.hid (rput_post (m := m) HI.out HL.out ((Below.refl (w1.setCell ⟨g, 1, none⟩ (.int .i64 (V.sent + 1))).heap.size (w1.setCell ⟨g, 1, none⟩ (.int .i64 (V.sent + 1)))).drew |>.alloc (Nat.le_refl _) (.cells (msgC m) 36)) ho (by rw [HV.out]; exact hg2) (by rw [HV.out]; exact hor))
        clear ho hg2 hor hlt
        have d1 : w'.cell? ⟨g, 0, none⟩ = some v := HQ.out.1.at_ 0
        have e1 := HQ.out.1.free 0
        rw [HV.out] at d1
        refine Vc.wpAnyH_read (i := 8) (d := some 39) (v := ?v81) (by rfl) (by rfl) (by kernel_rfl) (by kernel_rfl) (by kernel_rfl) (fun _ _ _ h => h) (by rfl) ?hy81 (by assumption) ?rest81
        case hy81 =>
          intro w hSw
          go_simp
          try with_reducible rfl
        (try simp only [Act.put, List.setIfInBounds_toArray, List.set_cons_zero, List.set_cons_succ])
        refine Vc.wpAnyH_read (i := 9) (d := some 40) (v := ?v91) (by rfl) (by rfl) (by kernel_rfl) (by kernel_rfl) (by kernel_rfl) (fun _ _ _ h => h) (by rfl) ?hy91 (by assumption) ?rest91
        case hy91 =>
          intro w hSw
          go_simp
          try with_reducible rfl
        (try simp only [Act.put, List.setIfInBounds_toArray, List.set_cons_zero, List.set_cons_succ])
        refine wpAnyH_ready (rs := [10]) (by kernel_rfl) (by simp) ?_
        refine AllReadyH.cons rfl (fun K hK => ?_) AllReadyH.nil
        go_simp
        refine hK.out _ _ trivial (fun hHeld => ?_)
        clear hK K
        (try simp only [Act.put, List.setIfInBounds_toArray, List.set_cons_zero, List.set_cons_succ])
        refine wpAnyH_done (by kernel_rfl) ?_ _
        go_wp2
        go_ret
        exact ⟨by rw [HP.out]; rfl, _, by rw [HP.out]; exact HQ.out.2.1, NStep.pre HS.out HQ.out.2.2⟩
      · refine step_loadA 36 (.tmp 3) (by rfl) w.heap.size 0 (msgC m) ?_
        refine And.intro ⟨by rfl, by rfl, ⟨_, Try.underlying36, rfl⟩, info_size _⟩ (And.intro (Who.has_range (by exact HM.out)) ?_)
        go_simp
        refine hK.out _ _ trivial (fun hHeld => ?_)
        clear hK K
        (try simp only [Act.put, List.setIfInBounds_toArray, List.set_cons_zero, List.set_cons_succ])
        refine wpAnyH_ready (rs := [4, 6]) (by kernel_rfl) (by simp) ?_
        refine AllReadyH.cons rfl (fun K hK => ?_) (AllReadyH.cons rfl (fun K hK => ?_) AllReadyH.nil)
        · go_simp
          refine hK.out _ _ trivial (fun hHeld => ?_)
          clear hK K
          (try simp only [Act.put, List.setIfInBounds_toArray, List.set_cons_zero, List.set_cons_succ])
          refine wpAnyH_ready (rs := [6]) (by kernel_rfl) (by simp) ?_
          refine AllReadyH.cons rfl (fun K hK => ?_) AllReadyH.nil
          refine step_build (.tmp 36) (by rfl) m ?_
          refine And.intro ⟨by rfl, by rfl⟩ ?_
          go_simp
          refine hK.out _ _ trivial (fun hHeld => ?_)
          clear hK K
          (try simp only [Act.put, List.setIfInBounds_toArray, List.set_cons_zero, List.set_cons_succ])
          refine wpAnyH_ready (rs := [7]) (by kernel_rfl) (by simp) ?_
          refine AllReadyH.cons rfl (fun K hK => ?_) AllReadyH.nil
          refine step_append_lies _ (by rfl) (.tmp 35) (.tmp 37) 28 (by rfl) B 36 i0 (.agg (msgC msg0)) 19 160 Try.underlying28 HX.out.1 HX.out.2.1 HX.out.2.2.1 HX.out.2.2.2 rfl (by decide) (.slice A V.way.length c) V.way.length (V.way.flatMap mL) (by rfl) (World.ownsRow.alloc HW.out _) ⟨w1.heap.size, 0, none⟩ 1 1 (mL m) (by rfl) rfl ?c12 ?c22 (by decide) (by unfold maxLen; have := HL.out; omega) (by have := HL.out; omega) (Nat.le_trans HBB.out (((Below.refl (w1.setCell ⟨g, 1, none⟩ (.int .i64 (V.sent + 1))).heap.size (w1.setCell ⟨g, 1, none⟩ (.int .i64 (V.sent + 1)))).drew).alloc (Nat.le_refl _) (.cells (msgC m) 36)).size) _ rfl ?_
          case c12 =>
            have hq := Has.fresh (w1.setCell ⟨g, 1, none⟩ (.int .i64 (V.sent + 1))).drew 36 (msgC m)
            rw [show (w1.setCell ⟨g, 1, none⟩ (.int .i64 (V.sent + 1))).drew.heap.size = w1.heap.size from by simp] at hq
            exact World.news_of_block hq
          case c22 => exact fun u hu => (Array.all_eq_true_iff_forall_mem.1 (msgC_one m)) u (by simpa [mL] using hu)
          intro g' cap w' ho hg2 hor hlt
          go_simp
          refine hK.out _ _ trivial (fun hHeld => ?_)
          clear hK K
          (try simp only [Act.put, List.setIfInBounds_toArray, List.set_cons_zero, List.set_cons_succ])
          have HQ := Lib.hid (rput_post (m := m) HI.out HL.out ((Below.refl (w1.setCell ⟨g, 1, none⟩ (.int .i64 (V.sent + 1))).heap.size (w1.setCell ⟨g, 1, none⟩ (.int .i64 (V.sent + 1)))).drew |>.alloc (Nat.le_refl _) (.cells (msgC m) 36)) ho (by rw [HV.out]; exact hg2) (by rw [HV.out]; exact hor))
          clear ho hg2 hor hlt
          have d1 : w'.cell? ⟨g, 0, none⟩ = some v := HQ.out.1.at_ 0
          have e1 := HQ.out.1.free 0
          rw [HV.out] at d1
          refine Vc.wpAnyH_read (i := 8) (d := some 39) (v := ?v82) (by rfl) (by rfl) (by kernel_rfl) (by kernel_rfl) (by kernel_rfl) (fun _ _ _ h => h) (by rfl) ?hy82 (by assumption) ?rest82
          case hy82 =>
            intro w hSw
            go_simp
            try with_reducible rfl
          (try simp only [Act.put, List.setIfInBounds_toArray, List.set_cons_zero, List.set_cons_succ])
          refine Vc.wpAnyH_read (i := 9) (d := some 40) (v := ?v92) (by rfl) (by rfl) (by kernel_rfl) (by kernel_rfl) (by kernel_rfl) (fun _ _ _ h => h) (by rfl) ?hy92 (by assumption) ?rest92
          case hy92 =>
            intro w hSw
            go_simp
            try with_reducible rfl
          (try simp only [Act.put, List.setIfInBounds_toArray, List.set_cons_zero, List.set_cons_succ])
          refine wpAnyH_ready (rs := [10]) (by kernel_rfl) (by simp) ?_
          refine AllReadyH.cons rfl (fun K hK => ?_) AllReadyH.nil
          go_simp
          refine hK.out _ _ trivial (fun hHeld => ?_)
          clear hK K
          (try simp only [Act.put, List.setIfInBounds_toArray, List.set_cons_zero, List.set_cons_succ])
          refine wpAnyH_done (by kernel_rfl) ?_ _
          go_wp2
          go_ret
          exact ⟨by rw [HP.out]; rfl, _, by rw [HP.out]; exact HQ.out.2.1, NStep.pre HS.out HQ.out.2.2⟩
        · refine step_build (.tmp 36) (by rfl) m ?_
          refine And.intro ⟨by rfl, by rfl⟩ ?_
          go_simp
          refine hK.out _ _ trivial (fun hHeld => ?_)
          clear hK K
          (try simp only [Act.put, List.setIfInBounds_toArray, List.set_cons_zero, List.set_cons_succ])
          refine wpAnyH_ready (rs := [4]) (by kernel_rfl) (by simp) ?_
          refine AllReadyH.cons rfl (fun K hK => ?_) AllReadyH.nil
          go_simp
          refine hK.out _ _ trivial (fun hHeld => ?_)
          clear hK K
          (try simp only [Act.put, List.setIfInBounds_toArray, List.set_cons_zero, List.set_cons_succ])
          refine wpAnyH_ready (rs := [7]) (by kernel_rfl) (by simp) ?_
          refine AllReadyH.cons rfl (fun K hK => ?_) AllReadyH.nil
          refine step_append_lies _ (by rfl) (.tmp 35) (.tmp 37) 28 (by rfl) B 36 i0 (.agg (msgC msg0)) 19 160 Try.underlying28 HX.out.1 HX.out.2.1 HX.out.2.2.1 HX.out.2.2.2 rfl (by decide) (.slice A V.way.length c) V.way.length (V.way.flatMap mL) (by rfl) (World.ownsRow.alloc HW.out _) ⟨w1.heap.size, 0, none⟩ 1 1 (mL m) (by rfl) rfl ?c13 ?c23 (by decide) (by unfold maxLen; have := HL.out; omega) (by have := HL.out; omega) (Nat.le_trans HBB.out (((Below.refl (w1.setCell ⟨g, 1, none⟩ (.int .i64 (V.sent + 1))).heap.size (w1.setCell ⟨g, 1, none⟩ (.int .i64 (V.sent + 1)))).drew).alloc (Nat.le_refl _) (.cells (msgC m) 36)).size) _ rfl ?_
          case c13 =>
            have hq := Has.fresh (w1.setCell ⟨g, 1, none⟩ (.int .i64 (V.sent + 1))).drew 36 (msgC m)
            rw [show (w1.setCell ⟨g, 1, none⟩ (.int .i64 (V.sent + 1))).drew.heap.size = w1.heap.size from by simp] at hq
            exact World.news_of_block hq
          case c23 => exact fun u hu => (Array.all_eq_true_iff_forall_mem.1 (msgC_one m)) u (by simpa [mL] using hu)
          intro g' cap w' ho hg2 hor hlt
          go_simp
          refine hK.out _ _ trivial (fun hHeld => ?_)
          clear hK K
          (try simp only [Act.put, List.setIfInBounds_toArray, List.set_cons_zero, List.set_cons_succ])
          have HQ := Lib.hid (rput_post (m := m) HI.out HL.out ((Below.refl (w1.setCell ⟨g, 1, none⟩ (.int .i64 (V.sent + 1))).heap.size (w1.setCell ⟨g, 1, none⟩ (.int .i64 (V.sent + 1)))).drew |>.alloc (Nat.le_refl _) (.cells (msgC m) 36)) ho (by rw [HV.out]; exact hg2) (by rw [HV.out]; exact hor))
          clear ho hg2 hor hlt
          have d1 : w'.cell? ⟨g, 0, none⟩ = some v := HQ.out.1.at_ 0
          have e1 := HQ.out.1.free 0
          rw [HV.out] at d1
          refine Vc.wpAnyH_read (i := 8) (d := some 39) (v := ?v83) (by rfl) (by rfl) (by kernel_rfl) (by kernel_rfl) (by kernel_rfl) (fun _ _ _ h => h) (by rfl) ?hy83 (by assumption) ?rest83
          case hy83 =>
            intro w hSw
            go_simp
            try with_reducible rfl
          (try simp only [Act.put, List.setIfInBounds_toArray, List.set_cons_zero, List.set_cons_succ])
          refine Vc.wpAnyH_read (i := 9) (d := some 40) (v := ?v93) (by rfl) (by rfl) (by kernel_rfl) (by kernel_rfl) (by kernel_rfl) (fun _ _ _ h => h) (by rfl) ?hy93 (by assumption) ?rest93
          case hy93 =>
            intro w hSw
            go_simp
            try with_reducible rfl
          (try simp only [Act.put, List.setIfInBounds_toArray, List.set_cons_zero, List.set_cons_succ])
          refine wpAnyH_ready (rs := [10]) (by kernel_rfl) (by simp) ?_
          refine AllReadyH.cons rfl (fun K hK => ?_) AllReadyH.nil
          go_simp
          refine hK.out _ _ trivial (fun hHeld => ?_)
          clear hK K
          (try simp only [Act.put, List.setIfInBounds_toArray, List.set_cons_zero, List.set_cons_succ])
          refine wpAnyH_done (by kernel_rfl) ?_ _
          go_wp2
          go_ret
          exact ⟨by rw [HP.out]; rfl, _, by rw [HP.out]; exact HQ.out.2.1, NStep.pre HS.out HQ.out.2.2⟩
  · have HP := Lib.hid (send_bad (V := V) q)
    rw [err_no q]
    clear q
    go_wp2
    go_ret
    exact ⟨by rw [HP.out]; rfl, v, by rw [HP.out]; exact HI1.out, NStep.same HB1.out⟩
set_option maxRecDepth 100000 in
set_option maxHeartbeats 4000000 in
theorem rdouble_any (B g : Nat) (v : Value) (V : NetV) (k : Int) (w : World) (hB : B ≤ w.heap.size) (h : RNetIs w B g v V) : Calls Try.prog 51 #[.pointer (some ⟨g, 0, none⟩), .int .i64 k] w (ROut w B g v (doubleV V k)) := by
  obtain ⟨A, c, hv, _⟩ := h.row.sl
  have HV := Lib.hid hv
  have HI0 := Lib.hid h
  have HBB0 := Lib.hid hB
  have HC := Lib.hid (rpeek_any B g v V k w h)
  have hal := alloc_msg
  clear h hB hv
  go_enter Try.func51, Try.ntmps51
  go_wp2_with fail
  with_reducible refine HC.out.mono ?_
  rintro e w1 ⟨rfl, hb⟩
  obtain ⟨⟨m, r⟩, hr⟩ : ∃ x, x = peekM V k := ⟨_, rfl⟩
  rw [← hr]
  have HR := Lib.hid hr
  have HI1 := Lib.hid (HI0.out.below hb)
  have HB1 := Lib.hid hb
  have HM := Lib.hid (Has.fresh w1 36 (msgC m))
  clear hb hr
  dsimp only
  by_cases q : r = 0
  · subst q
    have HD := Lib.hid (double_yes (V := V) (k := k) (by rw [← HR.out]))
    have HI := Lib.hid (HI1.out.below ((Below.refl w1.heap.size w1).alloc (Nat.le_refl _) (.cells (msgC m) 36)))
    have HS := Lib.hid ((Chg.of_below HB1.out (· = g)).alloc (.cells (msgC m) 36))
    have HBB := Lib.hid (Nat.le_trans HBB0.out HS.out.size)
    have c0 : (w1.alloc (.cells (msgC m) 36)).cell? ⟨g, 0, none⟩ = some v := HI.out.head.at_ 0
    rw [HV.out] at c0
    have f0 := HI.out.head.free 0
    have hgb1 := HI1.out.head.bound
    have c00 : w1.cell? ⟨g, 0, none⟩ = some v := HI1.out.head.at_ 0
    rw [HV.out] at c00
    by_cases q2 : 160 ≤ V.way.length
    · have HP := Lib.hid (put_full (m := m) q2)
      have q3 : (160 : Int) ≤ (V.way.length : Int) := by omega
      clear q2
      go_wp2_with ((with_reducible refine Who.wpList_newC 36 5 (.tmp 11) rfl rfl rfl (msgC msg0) (msgC m) ?_); refine And.intro ⟨rfl, rfl, rfl, hal, by rfl, by rfl, info_size _, rfl, msgC_one _⟩ ?_; (try simp only [Act.put, List.setIfInBounds_toArray, List.set_cons_zero, List.set_cons_succ]))
      go_ret
      exact ⟨by rw [HD.out, ← HR.out, HP.out]; rfl, v, by rw [HD.out, ← HR.out, HP.out]; exact HI.out, ⟨HS.out.mono (fun k e => .inl e), fun k hk => .inl hk⟩⟩
    · have HP := Lib.hid (put_room (m := m) q2)
      have q3 : ¬ (160 : Int) ≤ (V.way.length : Int) := by omega
      have HL := Lib.hid (show V.way.length + 1 ≤ 160 by omega)
      obtain ⟨i0, hi, hz0, hz1, hz2⟩ := info_parts info_msg
      have HX := Lib.hid (And.intro hi (And.intro hz0 (And.intro hz1 hz2)))
      have HW := Lib.hid (show MOwn ((w1.alloc (.cells (msgC m) 36)).drew) B v V.way from HI.out.drew.row)
      rw [HV.out] at HW
      clear q2 hi hz0 hz1 hz2
      go_wp2_with ((with_reducible refine Who.wpList_newC 36 5 (.tmp 11) rfl rfl rfl (msgC msg0) (msgC m) ?_); refine And.intro ⟨rfl, rfl, rfl, hal, by rfl, by rfl, info_size _, rfl, msgC_one _⟩ ?_; (try simp only [Act.put, List.setIfInBounds_toArray, List.set_cons_zero, List.set_cons_succ]))
      refine wp_region_held_drew (S := fun _ => True) (by kernel_rfl) trivial (fun hHeld => ?_)
      refine Vc.wpAnyH_read (i := 0) (d := some 22) (v := ?v0) (by rfl) (by rfl) (by kernel_rfl) (by kernel_rfl) (by kernel_rfl) (fun _ _ _ h => h) (by rfl) ?hy0 (by assumption) ?rest0
      case hy0 =>
        intro w hSw
        go_simp
        try with_reducible rfl
      (try simp only [Act.put, List.setIfInBounds_toArray, List.set_cons_zero, List.set_cons_succ])
      refine Vc.wpAnyH_read (i := 1) (d := some 23) (v := ?v1) (by rfl) (by rfl) (by kernel_rfl) (by kernel_rfl) (by kernel_rfl) (fun _ _ _ h => h) (by rfl) ?hy1 (by assumption) ?rest1
      case hy1 =>
        intro w hSw
        go_simp
        try with_reducible rfl
      (try simp only [Act.put, List.setIfInBounds_toArray, List.set_cons_zero, List.set_cons_succ])
      refine Vc.wpAnyH_read (i := 2) (d := some 24) (v := ?v2) (by rfl) (by rfl) (by kernel_rfl) (by kernel_rfl) (by kernel_rfl) (fun _ _ _ h => h) (by rfl) ?hy2 (by assumption) ?rest2
      case hy2 =>
        intro w hSw
        go_simp
        try with_reducible rfl
      (try simp only [Act.put, List.setIfInBounds_toArray, List.set_cons_zero, List.set_cons_succ])
      refine Vc.wpAnyH_read (i := 3) (d := some 25) (v := ?v3) (by rfl) (by rfl) (by kernel_rfl) (by kernel_rfl) (by kernel_rfl) (fun _ _ _ h => h) (by rfl) ?hy3 (by assumption) ?rest3
      case hy3 =>
        intro w hSw
        go_simp
        try with_reducible rfl
      (try simp only [Act.put, List.setIfInBounds_toArray, List.set_cons_zero, List.set_cons_succ])
      refine wpAnyH_ready (rs := [4, 5]) (by kernel_rfl) (by simp) ?_
      refine AllReadyH.cons rfl (fun K hK => ?_) (AllReadyH.cons rfl (fun K hK => ?_) AllReadyH.nil)
      · go_simp
        refine hK.out _ _ trivial (fun hHeld => ?_)
        clear hK K
        (try simp only [Act.put, List.setIfInBounds_toArray, List.set_cons_zero, List.set_cons_succ])
        refine wpAnyH_ready (rs := [5]) (by kernel_rfl) (by simp) ?_
        refine AllReadyH.cons rfl (fun K hK => ?_) AllReadyH.nil
        refine step_loadA 36 (.tmp 5) (by rfl) w1.heap.size 0 (msgC m) ?_
        refine And.intro ⟨by rfl, by rfl, ⟨_, Try.underlying36, rfl⟩, info_size _⟩ (And.intro (Who.has_range (by exact HM.out)) ?_)
        go_simp
        refine hK.out _ _ trivial (fun hHeld => ?_)
        clear hK K
        (try simp only [Act.put, List.setIfInBounds_toArray, List.set_cons_zero, List.set_cons_succ])
        refine wpAnyH_ready (rs := [6]) (by kernel_rfl) (by simp) ?_
        refine AllReadyH.cons rfl (fun K hK => ?_) AllReadyH.nil
        refine step_build (.tmp 27) (by rfl) m ?_
        refine And.intro ⟨by rfl, by rfl⟩ ?_
        go_simp
        refine hK.out _ _ trivial (fun hHeld => ?_)
        clear hK K
        (try simp only [Act.put, List.setIfInBounds_toArray, List.set_cons_zero, List.set_cons_succ])
        refine wpAnyH_ready (rs := [7]) (by kernel_rfl) (by simp) ?_
        refine AllReadyH.cons rfl (fun K hK => ?_) AllReadyH.nil
        refine step_append_lies _ (by rfl) (.tmp 26) (.tmp 28) 28 (by rfl) B 36 i0 (.agg (msgC msg0)) 19 160 Try.underlying28 HX.out.1 HX.out.2.1 HX.out.2.2.1 HX.out.2.2.2 rfl (by decide) (.slice A V.way.length c) V.way.length (V.way.flatMap mL) (by rfl) (World.ownsRow.alloc HW.out _) ⟨(w1.heap.size + 1), 0, none⟩ 1 1 (mL m) (by rfl) rfl ?c14 ?c24 (by decide) (by unfold maxLen; have := HL.out; omega) (by have := HL.out; omega) (Nat.le_trans HBB.out (((Below.refl (w1.alloc (.cells (msgC m) 36)).heap.size (w1.alloc (.cells (msgC m) 36))).drew).alloc (Nat.le_refl _) (.cells (msgC m) 36)).size) _ rfl ?_
        case c14 =>
          have hq := Has.fresh (w1.alloc (.cells (msgC m) 36)).drew 36 (msgC m)
          rw [show (w1.alloc (.cells (msgC m) 36)).drew.heap.size = (w1.heap.size + 1) from by simp] at hq
          exact World.news_of_block hq
        case c24 => exact fun u hu => (Array.all_eq_true_iff_forall_mem.1 (msgC_one m)) u (by simpa [mL] using hu)
        intro g' cap w' ho hg2 hor hlt
        go_simp
        refine hK.out _ _ trivial (fun hHeld => ?_)
        clear hK K
        (try simp only [Act.put, List.setIfInBounds_toArray, List.set_cons_zero, List.set_cons_succ])
        have HQ := Lib.hid (rput_post (m := m) HI.out HL.out ((Below.refl (w1.alloc (.cells (msgC m) 36)).heap.size (w1.alloc (.cells (msgC m) 36))).drew |>.alloc (Nat.le_refl _) (.cells (msgC m) 36)) ho (by rw [HV.out]; exact hg2) (by rw [HV.out]; exact hor))
        clear ho hg2 hor hlt
        have d1 : w'.cell? ⟨g, 0, none⟩ = some v := HQ.out.1.at_ 0
        have e1 := HQ.out.1.free 0
        rw [HV.out] at d1
        refine Vc.wpAnyH_read (i := 8) (d := some 30) (v := ?v84) (by rfl) (by rfl) (by kernel_rfl) (by kernel_rfl) (by kernel_rfl) (fun _ _ _ h => h) (by rfl) ?hy84 (by assumption) ?rest84
        case hy84 =>
          intro w hSw
          go_simp
          try with_reducible rfl
        (try simp only [Act.put, List.setIfInBounds_toArray, List.set_cons_zero, List.set_cons_succ])
        refine Vc.wpAnyH_read (i := 9) (d := some 31) (v := ?v94) (by rfl) (by rfl) (by kernel_rfl) (by kernel_rfl) (by kernel_rfl) (fun _ _ _ h => h) (by rfl) ?hy94 (by assumption) ?rest94
        case hy94 =>
          intro w hSw
          go_simp
          try with_reducible rfl
        (try simp only [Act.put, List.setIfInBounds_toArray, List.set_cons_zero, List.set_cons_succ])
        refine wpAnyH_ready (rs := [10]) (by kernel_rfl) (by simp) ?_
        refine AllReadyH.cons rfl (fun K hK => ?_) AllReadyH.nil
        go_simp
        refine hK.out _ _ trivial (fun hHeld => ?_)
        clear hK K
        (try simp only [Act.put, List.setIfInBounds_toArray, List.set_cons_zero, List.set_cons_succ])
        refine wpAnyH_done (by kernel_rfl) ?_ _
        go_wp2
        go_ret
        exact ⟨by rw [HD.out, ← HR.out, HP.out]; rfl, _, by rw [HD.out, ← HR.out, HP.out]; exact HQ.out.2.1, NStep.pre HS.out HQ.out.2.2⟩
      · refine step_loadA 36 (.tmp 5) (by rfl) w1.heap.size 0 (msgC m) ?_
        refine And.intro ⟨by rfl, by rfl, ⟨_, Try.underlying36, rfl⟩, info_size _⟩ (And.intro (Who.has_range (by exact HM.out)) ?_)
        go_simp
        refine hK.out _ _ trivial (fun hHeld => ?_)
        clear hK K
        (try simp only [Act.put, List.setIfInBounds_toArray, List.set_cons_zero, List.set_cons_succ])
        refine wpAnyH_ready (rs := [4, 6]) (by kernel_rfl) (by simp) ?_
        refine AllReadyH.cons rfl (fun K hK => ?_) (AllReadyH.cons rfl (fun K hK => ?_) AllReadyH.nil)
        · go_simp
          refine hK.out _ _ trivial (fun hHeld => ?_)
          clear hK K
          (try simp only [Act.put, List.setIfInBounds_toArray, List.set_cons_zero, List.set_cons_succ])
          refine wpAnyH_ready (rs := [6]) (by kernel_rfl) (by simp) ?_
          refine AllReadyH.cons rfl (fun K hK => ?_) AllReadyH.nil
          refine step_build (.tmp 27) (by rfl) m ?_
          refine And.intro ⟨by rfl, by rfl⟩ ?_
          go_simp
          refine hK.out _ _ trivial (fun hHeld => ?_)
          clear hK K
          (try simp only [Act.put, List.setIfInBounds_toArray, List.set_cons_zero, List.set_cons_succ])
          refine wpAnyH_ready (rs := [7]) (by kernel_rfl) (by simp) ?_
          refine AllReadyH.cons rfl (fun K hK => ?_) AllReadyH.nil
          refine step_append_lies _ (by rfl) (.tmp 26) (.tmp 28) 28 (by rfl) B 36 i0 (.agg (msgC msg0)) 19 160 Try.underlying28 HX.out.1 HX.out.2.1 HX.out.2.2.1 HX.out.2.2.2 rfl (by decide) (.slice A V.way.length c) V.way.length (V.way.flatMap mL) (by rfl) (World.ownsRow.alloc HW.out _) ⟨(w1.heap.size + 1), 0, none⟩ 1 1 (mL m) (by rfl) rfl ?c15 ?c25 (by decide) (by unfold maxLen; have := HL.out; omega) (by have := HL.out; omega) (Nat.le_trans HBB.out (((Below.refl (w1.alloc (.cells (msgC m) 36)).heap.size (w1.alloc (.cells (msgC m) 36))).drew).alloc (Nat.le_refl _) (.cells (msgC m) 36)).size) _ rfl ?_
          case c15 =>
            have hq := Has.fresh (w1.alloc (.cells (msgC m) 36)).drew 36 (msgC m)
            rw [show (w1.alloc (.cells (msgC m) 36)).drew.heap.size = (w1.heap.size + 1) from by simp] at hq
            exact World.news_of_block hq
          case c25 => exact fun u hu => (Array.all_eq_true_iff_forall_mem.1 (msgC_one m)) u (by simpa [mL] using hu)
          intro g' cap w' ho hg2 hor hlt
          go_simp
          refine hK.out _ _ trivial (fun hHeld => ?_)
          clear hK K
          (try simp only [Act.put, List.setIfInBounds_toArray, List.set_cons_zero, List.set_cons_succ])
          have HQ := Lib.hid (rput_post (m := m) HI.out HL.out ((Below.refl (w1.alloc (.cells (msgC m) 36)).heap.size (w1.alloc (.cells (msgC m) 36))).drew |>.alloc (Nat.le_refl _) (.cells (msgC m) 36)) ho (by rw [HV.out]; exact hg2) (by rw [HV.out]; exact hor))
          clear ho hg2 hor hlt
          have d1 : w'.cell? ⟨g, 0, none⟩ = some v := HQ.out.1.at_ 0
          have e1 := HQ.out.1.free 0
          rw [HV.out] at d1
          refine Vc.wpAnyH_read (i := 8) (d := some 30) (v := ?v85) (by rfl) (by rfl) (by kernel_rfl) (by kernel_rfl) (by kernel_rfl) (fun _ _ _ h => h) (by rfl) ?hy85 (by assumption) ?rest85
          case hy85 =>
            intro w hSw
            go_simp
            try with_reducible rfl
          (try simp only [Act.put, List.setIfInBounds_toArray, List.set_cons_zero, List.set_cons_succ])
          refine Vc.wpAnyH_read (i := 9) (d := some 31) (v := ?v95) (by rfl) (by rfl) (by kernel_rfl) (by kernel_rfl) (by kernel_rfl) (fun _ _ _ h => h) (by rfl) ?hy95 (by assumption) ?rest95
          case hy95 =>
            intro w hSw
            go_simp
            try with_reducible rfl
          (try simp only [Act.put, List.setIfInBounds_toArray, List.set_cons_zero, List.set_cons_succ])
          refine wpAnyH_ready (rs := [10]) (by kernel_rfl) (by simp) ?_
          refine AllReadyH.cons rfl (fun K hK => ?_) AllReadyH.nil
          go_simp
          refine hK.out _ _ trivial (fun hHeld => ?_)
          clear hK K
          (try simp only [Act.put, List.setIfInBounds_toArray, List.set_cons_zero, List.set_cons_succ])
          refine wpAnyH_done (by kernel_rfl) ?_ _
          go_wp2
          go_ret
          exact ⟨by rw [HD.out, ← HR.out, HP.out]; rfl, _, by rw [HD.out, ← HR.out, HP.out]; exact HQ.out.2.1, NStep.pre HS.out HQ.out.2.2⟩
        · refine step_build (.tmp 27) (by rfl) m ?_
          refine And.intro ⟨by rfl, by rfl⟩ ?_
          go_simp
          refine hK.out _ _ trivial (fun hHeld => ?_)
          clear hK K
          (try simp only [Act.put, List.setIfInBounds_toArray, List.set_cons_zero, List.set_cons_succ])
          refine wpAnyH_ready (rs := [4]) (by kernel_rfl) (by simp) ?_
          refine AllReadyH.cons rfl (fun K hK => ?_) AllReadyH.nil
          go_simp
          refine hK.out _ _ trivial (fun hHeld => ?_)
          clear hK K
          (try simp only [Act.put, List.setIfInBounds_toArray, List.set_cons_zero, List.set_cons_succ])
          refine wpAnyH_ready (rs := [7]) (by kernel_rfl) (by simp) ?_
          refine AllReadyH.cons rfl (fun K hK => ?_) AllReadyH.nil
          refine step_append_lies _ (by rfl) (.tmp 26) (.tmp 28) 28 (by rfl) B 36 i0 (.agg (msgC msg0)) 19 160 Try.underlying28 HX.out.1 HX.out.2.1 HX.out.2.2.1 HX.out.2.2.2 rfl (by decide) (.slice A V.way.length c) V.way.length (V.way.flatMap mL) (by rfl) (World.ownsRow.alloc HW.out _) ⟨(w1.heap.size + 1), 0, none⟩ 1 1 (mL m) (by rfl) rfl ?c16 ?c26 (by decide) (by unfold maxLen; have := HL.out; omega) (by have := HL.out; omega) (Nat.le_trans HBB.out (((Below.refl (w1.alloc (.cells (msgC m) 36)).heap.size (w1.alloc (.cells (msgC m) 36))).drew).alloc (Nat.le_refl _) (.cells (msgC m) 36)).size) _ rfl ?_
          case c16 =>
            have hq := Has.fresh (w1.alloc (.cells (msgC m) 36)).drew 36 (msgC m)
            rw [show (w1.alloc (.cells (msgC m) 36)).drew.heap.size = (w1.heap.size + 1) from by simp] at hq
            exact World.news_of_block hq
          case c26 => exact fun u hu => (Array.all_eq_true_iff_forall_mem.1 (msgC_one m)) u (by simpa [mL] using hu)
          intro g' cap w' ho hg2 hor hlt
          go_simp
          refine hK.out _ _ trivial (fun hHeld => ?_)
          clear hK K
          (try simp only [Act.put, List.setIfInBounds_toArray, List.set_cons_zero, List.set_cons_succ])
          have HQ := Lib.hid (rput_post (m := m) HI.out HL.out ((Below.refl (w1.alloc (.cells (msgC m) 36)).heap.size (w1.alloc (.cells (msgC m) 36))).drew |>.alloc (Nat.le_refl _) (.cells (msgC m) 36)) ho (by rw [HV.out]; exact hg2) (by rw [HV.out]; exact hor))
          clear ho hg2 hor hlt
          have d1 : w'.cell? ⟨g, 0, none⟩ = some v := HQ.out.1.at_ 0
          have e1 := HQ.out.1.free 0
          rw [HV.out] at d1
          refine Vc.wpAnyH_read (i := 8) (d := some 30) (v := ?v86) (by rfl) (by rfl) (by kernel_rfl) (by kernel_rfl) (by kernel_rfl) (fun _ _ _ h => h) (by rfl) ?hy86 (by assumption) ?rest86
          case hy86 =>
            intro w hSw
            go_simp
            try with_reducible rfl
          (try simp only [Act.put, List.setIfInBounds_toArray, List.set_cons_zero, List.set_cons_succ])
          refine Vc.wpAnyH_read (i := 9) (d := some 31) (v := ?v96) (by rfl) (by rfl) (by kernel_rfl) (by kernel_rfl) (by kernel_rfl) (fun _ _ _ h => h) (by rfl) ?hy96 (by assumption) ?rest96
          case hy96 =>
            intro w hSw
            go_simp
            try with_reducible rfl
          (try simp only [Act.put, List.setIfInBounds_toArray, List.set_cons_zero, List.set_cons_succ])
          refine wpAnyH_ready (rs := [10]) (by kernel_rfl) (by simp) ?_
          refine AllReadyH.cons rfl (fun K hK => ?_) AllReadyH.nil
          go_simp
          refine hK.out _ _ trivial (fun hHeld => ?_)
          clear hK K
          (try simp only [Act.put, List.setIfInBounds_toArray, List.set_cons_zero, List.set_cons_succ])
          refine wpAnyH_done (by kernel_rfl) ?_ _
          go_wp2
          go_ret
          exact ⟨by rw [HD.out, ← HR.out, HP.out]; rfl, _, by rw [HD.out, ← HR.out, HP.out]; exact HQ.out.2.1, NStep.pre HS.out HQ.out.2.2⟩
  · have HD := Lib.hid (double_no (V := V) (k := k) (by rw [← HR.out]; exact q))
    have e1 : (r == 0) = false := beq_eq_false_iff_ne.2 q
    have HX := Lib.hid ((HB1.out).alloc (HB1.out.size) (.cells (msgC m) 36))
    clear q
    go_wp2_with ((with_reducible refine Who.wpList_newC 36 5 (.tmp 11) rfl rfl rfl (msgC msg0) (msgC m) ?_); refine And.intro ⟨rfl, rfl, rfl, hal, by rfl, by rfl, info_size _, rfl, msgC_one _⟩ ?_; (try simp only [Act.put, List.setIfInBounds_toArray, List.set_cons_zero, List.set_cons_succ]))
    go_ret
    exact ⟨by rw [HD.out, ← HR.out]; rfl, v, by rw [HD.out]; exact HI0.out.below HX.out, NStep.same HX.out⟩
end Go.Proofs.Ytjbbifmjhagfiaa.Nt
