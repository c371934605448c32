/- Join: the law JoinAll walked. -/
import Derived.Test.YtblogecapegbmaaGreatJnZ
import Derived.Test.YtblogecapegbmaaGreatVcE
namespace Go.Proofs.YtblogecapegbmaaGreat.Jn
open Go.RowKit Go.Proofs.YtblogecapegbmaaGreat.Mem
set_option linter.unusedVariables false set_option linter.unusedSimpArgs false

/-- What all loops keep. -/
structure AlI (w wr : World) (g5 T : Nat) (a b s : Fc.StateC) : Prop where
  below : Below w.heap.size w wr
  ha : Has wr w.heap.size 27 (Fc.stateC a)
  hb : Has wr (w.heap.size + 1) 27 (Fc.stateC b)
  hs : Has wr g5 27 (Fc.stateC s)
  row : Fc.SRow wr 10 Fc.stateC (some ⟨T, 0, none⟩) 2 [a, b]
  si : StateIn wr s
theorem AlI.low {w wr w2 : World} {g5 T : Nat} {a b s : Fc.StateC} (h : AlI w wr g5 T a b s) (hb : Below wr.heap.size wr w2) : AlI w w2 g5 T a b s := ⟨h.below.trans (hb.mono h.below.size), h.ha.below hb, h.hb.below hb, h.hs.below hb, h.row.below hb, h.si.below hb⟩
theorem AlI.new {w wr : World} {g5 T : Nat} {a b s : Fc.StateC} (h : AlI w wr g5 T a b s) (o : Obj) : AlI w (wr.alloc o) g5 T a b s := h.low ((Below.refl wr.heap.size wr).alloc (Nat.le_refl _) o)
structure ArgX (w : World) (x s : Fc.StateC) : Prop where
  inn : ∀ V, Below w.heap.size w V → StateIn V x
  lim : LimS 4800 x
  all : AllIn x s
set_option maxRecDepth 100000 in
set_option maxHeartbeats 16000000 in
theorem all_walk (w : World) (a b : Fc.StateC) (ha : Fc.StateFit w a) (na : Fc.NilS a) (hb : Fc.StateFit w b) (nb : Fc.NilS b) : Calls Tryz.prog 6 #[.agg (Fc.stateC a), .agg (Fc.stateC b)] w fun e w' => e = .returned (.bool true) ∧ Below w.heap.size w w' := by
  have HB0 := Lib.hid (((Below.refl w.heap.size w).alloc (Nat.le_refl _) (.cells (Fc.stateC a) 27)).alloc (by simp) (.cells (Fc.stateC b) 27))
  have h3 := (Has.fresh w 27 (Fc.stateC a)).past (.cells (Fc.stateC b) 27)
  have h4 := Has.fresh (w.alloc (.cells (Fc.stateC a) 27)) 27 (Fc.stateC b)
  rw [World.size_alloc] at h4
  have HIA := Lib.hid (fun V (h : Below w.heap.size w V) => in_fit (ha.below h) na)
  have HIB := Lib.hid (fun V (h : Below w.heap.size w V) => in_fit (hb.below h) nb)
  have HFT := Lib.hid (fun V (h : Below w.heap.size w V) => (show ∀ x ∈ [a, b], Fc.StateFit V x from fun x hx => by
    rcases List.mem_cons.1 hx with rfl | hx
    · exact ha.below h
    · rw [List.mem_singleton.1 hx]; exact hb.below h))
  have HX0 := Lib.hid h3
  have HY0 := Lib.hid h4
  have HT := Lib.hid (Has.fresh ((w.alloc (.cells (Fc.stateC a) 27)).alloc (.cells (Fc.stateC b) 27)) 27 (row2 a b))
  have HBT := Lib.hid (HB0.out.alloc (by simp; omega) (.cells (row2 a b) 27))
  have HS := Lib.hid (smalls_any (w.heap.size + 1 + 1) 2 2 [a, b] (((w.alloc (.cells (Fc.stateC a) 27)).alloc (.cells (Fc.stateC b) 27)).alloc (.cells (row2 a b) 27)) (by have q := srow2 HT.out; simp only [World.size_alloc] at q; exact q) (by decide) (HFT.out _ HBT.out))
  have HX1 := Lib.hid (HX0.out.past (.cells (row2 a b) 27))
  have HY1 := Lib.hid (HY0.out.past (.cells (row2 a b) 27))
  clear ha hb na nb h3 h4 HT HFT
  go_enter Tryz.func6, Tryz.ntmps6
  go_wp2_with (first | ((with_reducible refine Who.wpList_loadC 27 (.tmp 2) rfl (w.heap.size) 0 (Fc.stateC a) ?_); refine And.intro ⟨by rfl, by rfl, ⟨_, Tryz.underlying27, rfl⟩, info_state⟩ (And.intro (Who.has_range HX0.out) ?_); (try simp only [Act.put, List.setIfInBounds_toArray, List.set_cons_zero, List.set_cons_succ])) | ((with_reducible refine Who.wpList_loadC 27 (.tmp 3) rfl (w.heap.size + 1) 0 (Fc.stateC b) ?_); refine And.intro ⟨by rfl, by rfl, ⟨_, Tryz.underlying27, rfl⟩, info_state⟩ (And.intro (Who.has_range HY0.out) ?_); (try simp only [Act.put, List.setIfInBounds_toArray, List.set_cons_zero, List.set_cons_succ])) | ((with_reducible refine wpList_build2 (.tmp 23) (.tmp 24) a b rfl ?_); refine And.intro ⟨by rfl, by rfl, by rfl⟩ ?_; (try simp only [Act.put, List.setIfInBounds_toArray, List.set_cons_zero, List.set_cons_succ]); (try simp only [World.size_alloc])) | fail)
  refine HS.out.mono ?_
  rintro e w2 ⟨⟨bo, rfl, hs⟩, hb⟩
  have HI_0 := Lib.hid (HBT.out.trans (hb.mono HBT.out.size))
  have X_0 := Lib.hid (HX1.out.below hb)
  have Y_0 := Lib.hid (HY1.out.below hb)
  have HSS := Lib.hid hs
  clear hs hb HS HB0 HBT HX0 HY0 HX1 HY1
  cases bo with
  | false =>
    go_wp2_with fail
    refine (awake_any _).mono ?_
    rintro e w3 ⟨rfl, hb⟩
    have HI := Lib.hid (HI_0.out.trans (hb.mono HI_0.out.size))
    clear hb
    go_wp2
    go_ret
    exact ⟨rfl, HI.out⟩
  | true =>
    have HLA := Lib.hid (HSS.out rfl a (by simp))
    have HLB := Lib.hid (HSS.out rfl b (by simp))
    clear HSS
    go_wp2_with (first | ((with_reducible refine Who.wpList_loadC 27 (.tmp 2) rfl (w.heap.size) 0 (Fc.stateC a) ?_); refine And.intro ⟨by rfl, by rfl, ⟨_, Tryz.underlying27, rfl⟩, info_state⟩ (And.intro (Who.has_range X_0.out) ?_); (try simp only [Act.put, List.setIfInBounds_toArray, List.set_cons_zero, List.set_cons_succ])) | ((with_reducible refine Who.wpList_loadC 27 (.tmp 3) rfl (w.heap.size + 1) 0 (Fc.stateC b) ?_); refine And.intro ⟨by rfl, by rfl, ⟨_, Tryz.underlying27, rfl⟩, info_state⟩ (And.intro (Who.has_range Y_0.out) ?_); (try simp only [Act.put, List.setIfInBounds_toArray, List.set_cons_zero, List.set_cons_succ])) | fail)
    refine (states_any a b _ (HIA.out _ HI_0.out) (HIB.out _ HI_0.out) HLA.out HLB.out (by decide)).mono ?_
    rintro e w3 ⟨s, rfl, hp, ho, hb⟩
    have HI_1 := Lib.hid (HI_0.out.trans (hb.mono HI_0.out.size))
    have hx1 := X_0.out.below hb
    have hy1 := Y_0.out.below hb
    have HSW := seen_in hp
    have HLS := Lib.hid ((limS_join (HIA.out _ HI_0.out) (HIB.out _ HI_0.out) HLA.out HLB.out ho.in_ hp).mono (show 4800 + 4800 ≤ 100000 by decide))
    have HXA := Lib.hid (show ∀ x ∈ [a, b], ArgX w x s from fun x hx => by
      rcases List.mem_cons.1 hx with rfl | hx
      · exact ⟨HIA.out, HLA.out, all_in hp HSW.1 (fun n h => .inl h) (fun l h => .inl h)⟩
      · obtain rfl := List.mem_singleton.1 hx
        exact ⟨HIB.out, HLB.out, all_in hp HSW.2 (fun n h => .inr h) (fun l h => .inr h)⟩)
    have HFR := Lib.hid (all_from hp)
    have hm1 := HLS.out.n1
    have hm2 := HLS.out.n2
    have hn1 := (Below.refl w3.heap.size w3).alloc (Nat.le_refl _) (.cells (Fc.stateC s) 27)
    have hn2 := hn1.alloc (by simp) (.cells (row2 a b) 27)
    have X_1 := Lib.hid (hx1.past (.cells (Fc.stateC s) 27))
    have Y_1 := Lib.hid (hy1.past (.cells (Fc.stateC s) 27))
    have S_1 := Lib.hid (Has.fresh w3 27 (Fc.stateC s))
    have HAL := Lib.hid (show AlI w ((w3.alloc (.cells (Fc.stateC s) 27)).alloc (.cells (row2 a b) 27)) w3.heap.size (w3.heap.size + 1) a b s from ⟨HI_1.out.trans (hn2.mono HI_1.out.size), hx1.below hn2, hy1.below hn2, S_1.out.past _, by have q := srow2 (Has.fresh (w3.alloc (.cells (Fc.stateC s) 27)) 27 (row2 a b)); rw [World.size_alloc] at q; exact q, ho.in_.below hn2⟩)
    clear hp ho hb hx1 hy1 HSW hn1 hn2 X_0 Y_0 HI_0 HI_1
    go_wp2_with (first | ((with_reducible refine Who.wpList_newC 27 5 (.tmp 31) rfl rfl rfl (zeroS) (Fc.stateC s) ?_); refine And.intro ⟨rfl, rfl, rfl, allocS, by rfl, by rfl, info_state, rfl, state_one _⟩ ?_; (try simp only [Act.put, List.setIfInBounds_toArray, List.set_cons_zero, List.set_cons_succ]); (try simp only [World.size_alloc])) | ((with_reducible refine Who.wpList_loadC 27 (.tmp 2) rfl (w.heap.size) 0 (Fc.stateC a) ?_); refine And.intro ⟨by rfl, by rfl, ⟨_, Tryz.underlying27, rfl⟩, info_state⟩ (And.intro (Who.has_range X_1.out) ?_); (try simp only [Act.put, List.setIfInBounds_toArray, List.set_cons_zero, List.set_cons_succ])) | ((with_reducible refine Who.wpList_loadC 27 (.tmp 3) rfl (w.heap.size + 1) 0 (Fc.stateC b) ?_); refine And.intro ⟨by rfl, by rfl, ⟨_, Tryz.underlying27, rfl⟩, info_state⟩ (And.intro (Who.has_range Y_1.out) ?_); (try simp only [Act.put, List.setIfInBounds_toArray, List.set_cons_zero, List.set_cons_succ])) | ((with_reducible refine wpList_build2 (.tmp 32) (.tmp 33) a b rfl ?_); refine And.intro ⟨by rfl, by rfl, by rfl⟩ ?_; (try simp only [Act.put, List.setIfInBounds_toArray, List.set_cons_zero, List.set_cons_succ]); (try simp only [World.size_alloc])) | fail)
    clear X_1 Y_1 S_1
    obtain ⟨T, hT⟩ : ∃ T, T = w3.heap.size + 1 := ⟨_, rfl⟩
    obtain ⟨g5, hg5⟩ : ∃ g5, g5 = w3.heap.size := ⟨_, rfl⟩
    rw [← hT, ← hg5] at HAL
    rw [← hT, ← hg5]
    generalize (w3.alloc (.cells (Fc.stateC s) 27)).alloc (.cells (row2 a b) 27) = W4 at *
    clear hT hg5
    go_loopw [36] (fun q wr => ∃ i : Nat, q = .int .i64 i ∧ i ≤ 2 ∧ Hid (AlI w wr g5 T a b s)) (fun q _ => 2 - (intOf q).toNat)
    case atStart => exact ⟨0, rfl, by omega, HAL⟩
    case round =>
      clear HAL
      obtain ⟨i, rfl, hi, HI⟩ := hrel
      by_cases hlt : i < 2
      · obtain ⟨bb, off, hA, hbl, hx, mr⟩ := HI.out.row.range (i := i) hlt
        obtain ⟨e1, e2⟩ : T = bb ∧ 0 = off := by cases hA; exact ⟨rfl, rfl⟩
        subst e1 e2
        have HX := Lib.hid (HXA.out _ (List.getElem_mem hx))
        generalize [a, b][i] = x at *
        have hlx1 := HX.out.lim.n1
        have hlx2 := HX.out.lim.n2
        have MR := Lib.hid mr
        rw [Nat.zero_add] at mr
        have MR2 := Lib.hid mr
        have HG := Lib.hid (Has.fresh wr 27 (Fc.stateC x))
        have HI1 := Lib.hid (HI.out.new (.cells (Fc.stateC x) 27))
        have HW := Lib.hid (fun V => Vc.rwithin_any x.seen s.seen V)
        have hwt := HX.out.all.seen
        clear mr hA hbl hx HI hi
        go_wp2_with (first | ((with_reducible refine Who.wpList_loadC 27 (.tmp 38) rfl (T) (0 + i * 10) (Fc.stateC x) ?_); refine And.intro ⟨by rfl, by rfl, ⟨_, Tryz.underlying27, rfl⟩, info_state⟩ (And.intro (MR.out) ?_); (try simp only [Act.put, List.setIfInBounds_toArray, List.set_cons_zero, List.set_cons_succ])) | ((with_reducible refine Who.wpList_loadC 27 (.tmp 38) rfl (T) (i * 10) (Fc.stateC x) ?_); refine And.intro ⟨by rfl, by rfl, ⟨_, Tryz.underlying27, rfl⟩, info_state⟩ (And.intro (MR2.out) ?_); (try simp only [Act.put, List.setIfInBounds_toArray, List.set_cons_zero, List.set_cons_succ])) | ((with_reducible refine Who.wpList_newC 27 7 (.tmp 39) rfl rfl rfl (zeroS) (Fc.stateC x) ?_); refine And.intro ⟨rfl, rfl, rfl, allocS, by rfl, by rfl, info_state, rfl, state_one _⟩ ?_; (try simp only [Act.put, List.setIfInBounds_toArray, List.set_cons_zero, List.set_cons_succ]); (try simp only [World.size_alloc])) | ((with_reducible refine Who.wpList_loadC 23 (.tmp 40) rfl (wr.heap.size) 0 (Vc.vecC x.seen) ?_); refine And.intro ⟨by rfl, by rfl, ⟨_, Tryz.underlying23, rfl⟩, info_vec⟩ (And.intro (state_seen HG.out) ?_); (try simp only [Act.put, List.setIfInBounds_toArray, List.set_cons_zero, List.set_cons_succ])) | ((with_reducible refine Who.wpList_loadC 23 (.tmp 42) rfl (g5) 0 (Vc.vecC s.seen) ?_); refine And.intro ⟨by rfl, by rfl, ⟨_, Tryz.underlying23, rfl⟩, info_vec⟩ (And.intro (state_seen HI1.out.hs) ?_); (try simp only [Act.put, List.setIfInBounds_toArray, List.set_cons_zero, List.set_cons_succ])) | fail)
        obtain ⟨g7, hg7⟩ : ∃ g7, g7 = wr.heap.size := ⟨_, rfl⟩
        rw [← hg7] at HG
        rw [← hg7]
        refine (HW.out _).mono ?_
        rintro e w5 ⟨rfl, hb⟩
        rw [hwt]
        have HI2 := Lib.hid (HI1.out.low hb)
        have HG2 := Lib.hid (HG.out.below hb)
        have c8 : w5.cell? ⟨g7, 8, none⟩ = some (.slice x.A1 x.n1 x.c1) := HG2.out.at_ 8
        clear hb HI1 HG HW hwt MR MR2 hg7
        go_wp2
        clear c8
        go_loopw [49] (fun q wr => ∃ k : Nat, q = .int .i64 k ∧ k ≤ x.n1 ∧ Hid (AlI w wr g5 T a b s) ∧ Hid (Has wr g7 27 (Fc.stateC x))) (fun q _ => x.n1 - (intOf q).toNat)
        case atStart => exact ⟨0, rfl, Nat.zero_le _, HI2, HG2⟩
        case round =>
          clear HI2 HG2
          obtain ⟨k, rfl, hk, HI, HG⟩ := hrel
          by_cases hlk : k < x.n1
          · obtain ⟨b2, off2, hA2, hbl2, hx2, mr2⟩ := (HX.out.inn _ HI.out.below).nodes.row.range (i := k) hlk
            simp only [rowN] at hA2 hx2 mr2
            obtain ⟨c, hc, hg⟩ := HX.out.all.nodes _ (List.getElem_mem hx2)
            generalize x.nodes[k] = n at *
            have MR := Lib.hid mr2
            have HC := Lib.hid hc
            have HGE := Lib.hid hg
            have hkd := decide_eq_false (gen_kind hg)
            have HN0 := Lib.hid (Has.fresh wr 46 (Fc.nodeC n))
            have hbn := (Below.refl wr.heap.size wr).alloc (Nat.le_refl _) (.cells (Fc.nodeC n) 46)
            have HI1 := Lib.hid (HI.out.low hbn)
            have HG1 := Lib.hid (HG.out.below hbn)
            have HL1 := Lib.hid (fun V => show Calls Tryz.prog 22 #[.agg #[.int .i64 c.p.aat.1, .int .i64 c.p.aat.2], .agg #[.int .i64 n.p.aat.1, .int .i64 n.p.aat.2]] V fun e V' => e = .returned (.bool false) ∧ Below V.heap.size V V' from by have h := Vc.rless_any c.p.aat.1 c.p.aat.2 n.p.aat.1 n.p.aat.2 V; rw [show Vc.lessB c.p.aat.1 c.p.aat.2 n.p.aat.1 n.p.aat.2 = false from HGE.out.aat] at h; exact h)
            have HL2 := Lib.hid (fun V => show Calls Tryz.prog 22 #[.agg #[.int .i64 c.p.sat.1, .int .i64 c.p.sat.2], .agg #[.int .i64 n.p.sat.1, .int .i64 n.p.sat.2]] V fun e V' => e = .returned (.bool false) ∧ Below V.heap.size V V' from by have h := Vc.rless_any c.p.sat.1 c.p.sat.2 n.p.sat.1 n.p.sat.2 V; rw [show Vc.lessB c.p.sat.1 c.p.sat.2 n.p.sat.1 n.p.sat.2 = false from HGE.out.sat] at h; exact h)
            rw [hA2]
            clear hA2 hbl2 hx2 mr2 hc hg hbn HI HG hk
            go_wp2_with (first | ((with_reducible refine Who.wpList_loadC 46 (.tmp 51) rfl (b2) (off2 + k * 13) (Fc.nodeC n) ?_); refine And.intro ⟨by rfl, by rfl, ⟨_, Tryz.underlying46, rfl⟩, infoN⟩ (And.intro (MR.out) ?_); (try simp only [Act.put, List.setIfInBounds_toArray, List.set_cons_zero, List.set_cons_succ])) | ((with_reducible refine Who.wpList_newC 46 9 (.tmp 52) rfl rfl rfl (zeroN) (Fc.nodeC n) ?_); refine And.intro ⟨rfl, rfl, rfl, allocN, by rfl, by rfl, infoN, rfl, oneN n⟩ ?_; (try simp only [Act.put, List.setIfInBounds_toArray, List.set_cons_zero, List.set_cons_succ]); (try simp only [World.size_alloc])) | ((with_reducible refine Who.wpList_loadC 27 (.tmp 5) rfl (g5) 0 (Fc.stateC s) ?_); refine And.intro ⟨by rfl, by rfl, ⟨_, Tryz.underlying27, rfl⟩, info_state⟩ (And.intro (Who.has_range HI1.out.hs) ?_); (try simp only [Act.put, List.setIfInBounds_toArray, List.set_cons_zero, List.set_cons_succ])) | ((with_reducible refine Who.wpList_loadC 37 (.tmp 55) rfl (wr.heap.size) 0 (#[.int .i64 n.p.id.1, .int .i64 n.p.id.2]) ?_); refine And.intro ⟨by rfl, by rfl, ⟨_, Tryz.underlying37, rfl⟩, info_st⟩ (And.intro (nodeIds_rng HN0.out) ?_); (try simp only [Act.put, List.setIfInBounds_toArray, List.set_cons_zero, List.set_cons_succ])) | fail)
            refine (rnode_is s n.p.id c _ HI1.out.si.nodes.row (by have := HLS.out.n1; show s.n1 ≤ _; omega) HC.out).mono ?_
            rintro e w6 ⟨rfl, hb⟩
            have hbn := (Below.refl w6.heap.size w6).alloc (Nat.le_refl _) (.cells (Fc.nodeC c) 46)
            have HI2 := Lib.hid ((HI1.out.low hb).low hbn)
            have HG2 := Lib.hid ((HG1.out.below hb).below hbn)
            have HN2 := Lib.hid ((HN0.out.below hb).below hbn)
            have HC2 := Lib.hid (Has.fresh w6 46 (Fc.nodeC c))
            obtain ⟨g9, hg9⟩ : ∃ g9, g9 = wr.heap.size := ⟨_, rfl⟩
            rw [← hg9] at HN2
            rw [← hg9]
            have k9 : (w6.alloc (.cells (Fc.nodeC c) 46)).cell? ⟨g9, 2, none⟩ = some (.int .i64 n.p.kind) := HN2.out.at_ 2
            have k10 : (w6.alloc (.cells (Fc.nodeC c) 46)).cell? ⟨w6.heap.size, 2, none⟩ = some (.int .i64 c.p.kind) := HC2.out.at_ 2
            clear hb hbn HI1 HG1 HN0 MR hg9
            go_wp2_with (first | ((with_reducible refine Who.wpList_newC 46 10 (.tmp 58) rfl rfl rfl (zeroN) (Fc.nodeC c) ?_); refine And.intro ⟨rfl, rfl, rfl, allocN, by rfl, by rfl, infoN, rfl, oneN c⟩ ?_; (try simp only [Act.put, List.setIfInBounds_toArray, List.set_cons_zero, List.set_cons_succ]); (try simp only [World.size_alloc])) | ((with_reducible refine Who.wpList_loadC 37 (.tmp 71) rfl (w6.heap.size) 4 (#[.int .i64 c.p.aat.1, .int .i64 c.p.aat.2]) ?_); refine And.intro ⟨by rfl, by rfl, ⟨_, Tryz.underlying37, rfl⟩, info_st⟩ (And.intro (node_aat HC2.out) ?_); (try simp only [Act.put, List.setIfInBounds_toArray, List.set_cons_zero, List.set_cons_succ])) | ((with_reducible refine Who.wpList_loadC 37 (.tmp 74) rfl (g9) 4 (#[.int .i64 n.p.aat.1, .int .i64 n.p.aat.2]) ?_); refine And.intro ⟨by rfl, by rfl, ⟨_, Tryz.underlying37, rfl⟩, info_st⟩ (And.intro (node_aat HN2.out) ?_); (try simp only [Act.put, List.setIfInBounds_toArray, List.set_cons_zero, List.set_cons_succ])) | fail)
            obtain ⟨g10, hg10⟩ : ∃ g10, g10 = w6.heap.size := ⟨_, rfl⟩
            rw [← hg10] at HC2
            rw [← hg10]
            clear k9 k10 hg10
            refine (HL1.out _).mono ?_
            rintro e w7 ⟨rfl, hb⟩
            have HI3 := Lib.hid (HI2.out.low hb)
            have HG3 := Lib.hid (HG2.out.below hb)
            have HN3 := Lib.hid (HN2.out.below hb)
            have HC3 := Lib.hid (HC2.out.below hb)
            clear hb HI2 HG2 HN2 HC2
            go_wp2_with (first | ((with_reducible refine Who.wpList_loadC 37 (.tmp 80) rfl (g10) 8 (#[.int .i64 c.p.sat.1, .int .i64 c.p.sat.2]) ?_); refine And.intro ⟨by rfl, by rfl, ⟨_, Tryz.underlying37, rfl⟩, info_st⟩ (And.intro (node_sat HC3.out) ?_); (try simp only [Act.put, List.setIfInBounds_toArray, List.set_cons_zero, List.set_cons_succ])) | ((with_reducible refine Who.wpList_loadC 37 (.tmp 83) rfl (g9) 8 (#[.int .i64 n.p.sat.1, .int .i64 n.p.sat.2]) ?_); refine And.intro ⟨by rfl, by rfl, ⟨_, Tryz.underlying37, rfl⟩, info_st⟩ (And.intro (node_sat HN3.out) ?_); (try simp only [Act.put, List.setIfInBounds_toArray, List.set_cons_zero, List.set_cons_succ])) | fail)
            refine (HL2.out _).mono ?_
            rintro e w8 ⟨rfl, hb⟩
            have HI4 := Lib.hid (HI3.out.low hb)
            have HG4 := Lib.hid (HG3.out.below hb)
            clear hb HI3 HG3 HN3 HC3
            go_wp2
            go_roundw
            case rel => exact ⟨k + 1, by go_num, by omega, HI4, HG4⟩
            case measure => simp [intOf]; omega
          · have c9 : wr.cell? ⟨g7, 9, none⟩ = some (.slice x.A2 x.n2 x.c2) := HG.out.at_ 9
            go_wp2
            clear c9 hk hlk
            go_loopw [91] (fun q wr => ∃ k : Nat, q = .int .i64 k ∧ k ≤ x.n2 ∧ Hid (AlI w wr g5 T a b s) ∧ Hid (Has wr g7 27 (Fc.stateC x))) (fun q _ => x.n2 - (intOf q).toNat)
            case atStart => exact ⟨0, rfl, Nat.zero_le _, HI, HG⟩
            case round =>
              clear HI HG
              obtain ⟨k, rfl, hk, HI, HG⟩ := hrel
              by_cases hlk : k < x.n2
              · obtain ⟨b2, off2, hA2, hbl2, hx2, mr2⟩ := (HX.out.inn _ HI.out.below).links.row.range (i := k) hlk
                simp only [rowL] at hA2 hx2 mr2
                have HGD := Lib.hid (any_good (HX.out.all.links _ (List.getElem_mem hx2)))
                generalize x.links[k] = l at *
                have MR := Lib.hid mr2
                have HN0 := Lib.hid (Has.fresh wr 51 (Fc.linkC l))
                have hbn := (Below.refl wr.heap.size wr).alloc (Nat.le_refl _) (.cells (Fc.linkC l) 51)
                have HI1 := Lib.hid (HI.out.low hbn)
                have HG1 := Lib.hid (HG.out.below hbn)
                have c9 : (wr.alloc (.cells (Fc.linkC l) 51)).cell? ⟨g5, 9, none⟩ = some (.slice s.A2 s.n2 s.c2) := HI1.out.hs.at_ 9
                rw [hA2]
                clear hA2 hbl2 hx2 mr2 hbn HI HG
                go_wp2_with (first | ((with_reducible refine Who.wpList_loadC 51 (.tmp 93) rfl (b2) (off2 + k * 25) (Fc.linkC l) ?_); refine And.intro ⟨by rfl, by rfl, ⟨_, Tryz.underlying51, rfl⟩, info_link⟩ (And.intro (MR.out) ?_); (try simp only [Act.put, List.setIfInBounds_toArray, List.set_cons_zero, List.set_cons_succ])) | ((with_reducible refine Who.wpList_newC 51 13 (.tmp 94) rfl rfl rfl (zeroL) (Fc.linkC l) ?_); refine And.intro ⟨rfl, rfl, rfl, allocL, by rfl, by rfl, info_link, rfl, own1 l⟩ ?_; (try simp only [Act.put, List.setIfInBounds_toArray, List.set_cons_zero, List.set_cons_succ]); (try simp only [World.size_alloc])) | fail)
                obtain ⟨g13, hg13⟩ : ∃ g13, g13 = wr.heap.size := ⟨_, rfl⟩
                rw [← hg13] at HN0
                rw [← hg13]
                generalize wr.alloc (.cells (Fc.linkC l) 51) = W5 at *
                clear c9 MR hg13
                go_loopw [14, 98] (fun o q wr => ∃ (ok : Bool) (j : Nat), o = .bool ok ∧ q = .int .i64 j ∧ j ≤ s.n2 ∧ Hid (AlI w wr g5 T a b s) ∧ Hid (Has wr g7 27 (Fc.stateC x)) ∧ Hid (Has wr g13 51 (Fc.linkC l)) ∧ Hid (ok = (s.links.take j).any (goodL l))) (fun _ q _ => s.n2 - (intOf q).toNat)
                case atStart => exact ⟨false, 0, rfl, rfl, Nat.zero_le _, HI1, HG1, HN0, Lib.hid (by simp)⟩
                case round =>
                  clear HI1 HG1 HN0
                  obtain ⟨ok, j, rfl, rfl, hj, HI, HG, HL, HO⟩ := hrel
                  by_cases hlj : j < s.n2
                  · obtain ⟨b2, off2, hA2, hbl2, hx2, mr2⟩ := HI.out.si.links.row.range (i := j) hlj
                    simp only [rowL] at hA2 hx2 mr2
                    have HNX := Lib.hid (any_next (l := l) hx2 HO.out)
                    generalize s.links[j] = m at *
                    have MR := Lib.hid mr2
                    have HM0 := Lib.hid (Has.fresh wr 51 (Fc.linkC m))
                    have hbn := (Below.refl wr.heap.size wr).alloc (Nat.le_refl _) (.cells (Fc.linkC m) 51)
                    have HI1 := Lib.hid (HI.out.low hbn)
                    have HG1 := Lib.hid (HG.out.below hbn)
                    have HL1 := Lib.hid (HL.out.below hbn)
                    rw [hA2]
                    clear hA2 hbl2 hx2 mr2 hbn HI HG HL HO
                    cases ok with
                    | true =>
                      go_wp2_with (first | ((with_reducible refine Who.wpList_loadC 51 (.tmp 100) rfl (b2) (off2 + j * 25) (Fc.linkC m) ?_); refine And.intro ⟨by rfl, by rfl, ⟨_, Tryz.underlying51, rfl⟩, info_link⟩ (And.intro (MR.out) ?_); (try simp only [Act.put, List.setIfInBounds_toArray, List.set_cons_zero, List.set_cons_succ])) | ((with_reducible refine Who.wpList_newC 51 16 (.tmp 101) rfl rfl rfl (zeroL) (Fc.linkC m) ?_); refine And.intro ⟨rfl, rfl, rfl, allocL, by rfl, by rfl, info_link, rfl, own1 m⟩ ?_; (try simp only [Act.put, List.setIfInBounds_toArray, List.set_cons_zero, List.set_cons_succ]); (try simp only [World.size_alloc])) | fail)
                      go_roundw
                      case rel => exact ⟨true, j + 1, rfl, by go_num, by omega, HI1, HG1, HL1, Lib.hid (by have q := HNX.out; rw [Bool.true_or] at q; exact q)⟩
                      case measure => simp [intOf]; omega
                    | false =>
                      by_cases q1 : m.id = l.id
                      · have heq : ∀ w : World, (Op.equalIn 10000 37 (.agg #[.int .i64 m.id.1, .int .i64 m.id.2]) (.agg #[.int .i64 l.id.1, .int .i64 l.id.2])).run Tryz.prog w = .ok true w := fun w => by have h := Vc.eqs m.id.1 m.id.2 l.id.1 l.id.2 w; rw [show (m.id.1 == l.id.1 && m.id.2 == l.id.2) = true by simp [q1]] at h; exact h
                        have HQ1 := Lib.hid q1
                        clear q1
                        go_wp2_with (first | ((with_reducible refine Who.wpList_loadC 51 (.tmp 100) rfl (b2) (off2 + j * 25) (Fc.linkC m) ?_); refine And.intro ⟨by rfl, by rfl, ⟨_, Tryz.underlying51, rfl⟩, info_link⟩ (And.intro (MR.out) ?_); (try simp only [Act.put, List.setIfInBounds_toArray, List.set_cons_zero, List.set_cons_succ])) | ((with_reducible refine Who.wpList_newC 51 16 (.tmp 101) rfl rfl rfl (zeroL) (Fc.linkC m) ?_); refine And.intro ⟨rfl, rfl, rfl, allocL, by rfl, by rfl, info_link, rfl, own1 m⟩ ?_; (try simp only [Act.put, List.setIfInBounds_toArray, List.set_cons_zero, List.set_cons_succ]); (try simp only [World.size_alloc])) | ((with_reducible refine Who.wpList_loadC 37 (.tmp 104) rfl (wr.heap.size) 0 (#[.int .i64 m.id.1, .int .i64 m.id.2]) ?_); refine And.intro ⟨by rfl, by rfl, ⟨_, Tryz.underlying37, rfl⟩, info_st⟩ (And.intro (link_id HM0.out) ?_); (try simp only [Act.put, List.setIfInBounds_toArray, List.set_cons_zero, List.set_cons_succ])) | ((with_reducible refine Who.wpList_loadC 37 (.tmp 106) rfl (g13) 0 (#[.int .i64 l.id.1, .int .i64 l.id.2]) ?_); refine And.intro ⟨by rfl, by rfl, ⟨_, Tryz.underlying37, rfl⟩, info_st⟩ (And.intro (link_id HL1.out) ?_); (try simp only [Act.put, List.setIfInBounds_toArray, List.set_cons_zero, List.set_cons_succ])) | ((with_reducible refine Who.wpList_loadC 37 (.tmp 110) rfl (wr.heap.size) 4 (#[.int .i64 m.at_.1, .int .i64 m.at_.2]) ?_); refine And.intro ⟨by rfl, by rfl, ⟨_, Tryz.underlying37, rfl⟩, info_st⟩ (And.intro (link_at HM0.out) ?_); (try simp only [Act.put, List.setIfInBounds_toArray, List.set_cons_zero, List.set_cons_succ])) | ((with_reducible refine Who.wpList_loadC 37 (.tmp 112) rfl (g13) 4 (#[.int .i64 l.at_.1, .int .i64 l.at_.2]) ?_); refine And.intro ⟨by rfl, by rfl, ⟨_, Tryz.underlying37, rfl⟩, info_st⟩ (And.intro (link_at HL1.out) ?_); (try simp only [Act.put, List.setIfInBounds_toArray, List.set_cons_zero, List.set_cons_succ])) | fail)
                        obtain ⟨g16, hg16⟩ : ∃ g16, g16 = wr.heap.size := ⟨_, rfl⟩
                        rw [← hg16] at HM0
                        rw [← hg16]
                        refine (Vc.rless_any m.at_.1 m.at_.2 l.at_.1 l.at_.2 _).mono ?_
                        rintro e w6 ⟨rfl, hb⟩
                        have HI2 := Lib.hid (HI1.out.low hb)
                        have HG2 := Lib.hid (HG1.out.below hb)
                        have HL2 := Lib.hid (HL1.out.below hb)
                        have HM2 := Lib.hid (HM0.out.below hb)
                        clear hb HI1 HG1 HL1 HM0 MR heq hg16
                        cases hL : Vc.lessB m.at_.1 m.at_.2 l.at_.1 l.at_.2 with
                        | true =>
                          have HLL := Lib.hid hL
                          clear hL
                          go_wp2
                          go_roundw
                          case rel => exact ⟨false, j + 1, rfl, by go_num, by omega, HI2, HG2, HL2, Lib.hid (by have q := HNX.out; rw [show goodL l m = false by unfold goodL; rw [HLL.out]; simp] at q; exact q)⟩
                          case measure => simp [intOf]; omega
                        | false =>
                          have HLL := Lib.hid hL
                          clear hL
                          go_wp2_with (first | ((with_reducible refine Who.wpList_loadC 23 (.tmp 118) rfl (g13) 9 (Vc.vecC l.al) ?_); refine And.intro ⟨by rfl, by rfl, ⟨_, Tryz.underlying23, rfl⟩, info_vec⟩ (And.intro (link_al HL2.out) ?_); (try simp only [Act.put, List.setIfInBounds_toArray, List.set_cons_zero, List.set_cons_succ])) | ((with_reducible refine Who.wpList_loadC 23 (.tmp 120) rfl (g16) 9 (Vc.vecC m.al) ?_); refine And.intro ⟨by rfl, by rfl, ⟨_, Tryz.underlying23, rfl⟩, info_vec⟩ (And.intro (link_al HM2.out) ?_); (try simp only [Act.put, List.setIfInBounds_toArray, List.set_cons_zero, List.set_cons_succ])) | fail)
                          refine (Vc.rwithin_any l.al m.al _).mono ?_
                          rintro e w7 ⟨rfl, hb⟩
                          have HI3 := Lib.hid (HI2.out.low hb)
                          have HG3 := Lib.hid (HG2.out.below hb)
                          have HL3 := Lib.hid (HL2.out.below hb)
                          have HM3 := Lib.hid (HM2.out.below hb)
                          clear hb HI2 HG2 HL2 HM2
                          cases hW : Vc.withinB l.al m.al with
                          | false =>
                            have HWW := Lib.hid hW
                            clear hW
                            go_wp2
                            go_roundw
                            case rel => exact ⟨false, j + 1, rfl, by go_num, by omega, HI3, HG3, HL3, Lib.hid (by have q := HNX.out; rw [show goodL l m = false by unfold goodL; rw [HWW.out]; simp] at q; exact q)⟩
                            case measure => simp [intOf]; omega
                          | true =>
                            have HWW := Lib.hid hW
                            clear hW
                            go_wp2_with (first | ((with_reducible refine Who.wpList_loadC 23 (.tmp 125) rfl (g13) 17 (Vc.vecC l.de) ?_); refine And.intro ⟨by rfl, by rfl, ⟨_, Tryz.underlying23, rfl⟩, info_vec⟩ (And.intro (link_de HL3.out) ?_); (try simp only [Act.put, List.setIfInBounds_toArray, List.set_cons_zero, List.set_cons_succ])) | ((with_reducible refine Who.wpList_loadC 23 (.tmp 127) rfl (g16) 17 (Vc.vecC m.de) ?_); refine And.intro ⟨by rfl, by rfl, ⟨_, Tryz.underlying23, rfl⟩, info_vec⟩ (And.intro (link_de HM3.out) ?_); (try simp only [Act.put, List.setIfInBounds_toArray, List.set_cons_zero, List.set_cons_succ])) | fail)
                            refine (Vc.rwithin_any l.de m.de _).mono ?_
                            rintro e w8 ⟨rfl, hb⟩
                            have HI4 := Lib.hid (HI3.out.low hb)
                            have HG4 := Lib.hid (HG3.out.below hb)
                            have HL4 := Lib.hid (HL3.out.below hb)
                            have HEQ := Lib.hid (show Vc.withinB l.de m.de = (s.links.take (j + 1)).any (goodL l) by have q := HNX.out; rw [show goodL l m = Vc.withinB l.de m.de by unfold goodL; rw [HLL.out, HWW.out, decide_eq_true HQ1.out]; simp] at q; exact q)
                            generalize Vc.withinB l.de m.de = bz at *
                            clear hb HI3 HG3 HL3 HM3
                            go_wp2
                            go_roundw
                            case rel => exact ⟨bz, j + 1, rfl, by go_num, by omega, HI4, HG4, HL4, HEQ⟩
                            case measure => simp [intOf]; omega
                      · have heq : ∀ w : World, (Op.equalIn 10000 37 (.agg #[.int .i64 m.id.1, .int .i64 m.id.2]) (.agg #[.int .i64 l.id.1, .int .i64 l.id.2])).run Tryz.prog w = .ok false w := fun w => by have h := Vc.eqs m.id.1 m.id.2 l.id.1 l.id.2 w; rw [show (m.id.1 == l.id.1 && m.id.2 == l.id.2) = false by (cases hq : (m.id.1 == l.id.1 && m.id.2 == l.id.2) with | false => rfl | true => simp at hq; exact absurd (Prod.ext hq.1 hq.2) q1)] at h; exact h
                        have HQ1 := Lib.hid q1
                        clear q1
                        go_wp2_with (first | ((with_reducible refine Who.wpList_loadC 51 (.tmp 100) rfl (b2) (off2 + j * 25) (Fc.linkC m) ?_); refine And.intro ⟨by rfl, by rfl, ⟨_, Tryz.underlying51, rfl⟩, info_link⟩ (And.intro (MR.out) ?_); (try simp only [Act.put, List.setIfInBounds_toArray, List.set_cons_zero, List.set_cons_succ])) | ((with_reducible refine Who.wpList_newC 51 16 (.tmp 101) rfl rfl rfl (zeroL) (Fc.linkC m) ?_); refine And.intro ⟨rfl, rfl, rfl, allocL, by rfl, by rfl, info_link, rfl, own1 m⟩ ?_; (try simp only [Act.put, List.setIfInBounds_toArray, List.set_cons_zero, List.set_cons_succ]); (try simp only [World.size_alloc])) | ((with_reducible refine Who.wpList_loadC 37 (.tmp 104) rfl (wr.heap.size) 0 (#[.int .i64 m.id.1, .int .i64 m.id.2]) ?_); refine And.intro ⟨by rfl, by rfl, ⟨_, Tryz.underlying37, rfl⟩, info_st⟩ (And.intro (link_id HM0.out) ?_); (try simp only [Act.put, List.setIfInBounds_toArray, List.set_cons_zero, List.set_cons_succ])) | ((with_reducible refine Who.wpList_loadC 37 (.tmp 106) rfl (g13) 0 (#[.int .i64 l.id.1, .int .i64 l.id.2]) ?_); refine And.intro ⟨by rfl, by rfl, ⟨_, Tryz.underlying37, rfl⟩, info_st⟩ (And.intro (link_id HL1.out) ?_); (try simp only [Act.put, List.setIfInBounds_toArray, List.set_cons_zero, List.set_cons_succ])) | fail)
                        go_roundw
                        case rel => exact ⟨false, j + 1, rfl, by go_num, by omega, HI1, HG1, HL1, Lib.hid (by have q := HNX.out; rw [show goodL l m = false by unfold goodL; rw [decide_eq_false HQ1.out]; simp] at q; exact q)⟩
                        case measure => simp [intOf]; omega
                  · have hok : ok = true := by
                      have h1 := HO.out
                      have h2 := HI.out.si.links.row.len
                      simp only [rowL] at h2
                      rw [List.take_of_length_le (by omega)] at h1
                      rw [h1]; exact HGD.out
                    subst hok
                    go_wp2
                    go_roundw
                    case rel => exact ⟨k + 1, by go_num, by omega, HI, HG⟩
                    case measure => simp [intOf]; omega
              · go_wp2
                go_roundw
                case rel => exact ⟨i + 1, by go_num, by omega, HI⟩
                case measure => simp [intOf]; omega
      · have c8 : wr.cell? ⟨g5, 8, none⟩ = some (.slice s.A1 s.n1 s.c1) := HI.out.hs.at_ 8
        go_wp2
        clear c8 hi hlt
        go_loopw [140] (fun q wr => ∃ k : Nat, q = .int .i64 k ∧ k ≤ s.n1 ∧ Hid (AlI w wr g5 T a b s)) (fun q _ => s.n1 - (intOf q).toNat)
        case atStart => exact ⟨0, rfl, Nat.zero_le _, HI⟩
        case round =>
          clear HI
          obtain ⟨k, rfl, hk, HI⟩ := hrel
          by_cases hlk : k < s.n1
          · obtain ⟨b2, off2, hA2, hbl2, hx2, mr2⟩ := HI.out.si.nodes.row.range (i := k) hlk
            simp only [rowN] at hA2 hx2 mr2
            have HF := Lib.hid (HFR.out _ (List.getElem_mem hx2))
            generalize s.nodes[k] = n at *
            have MR := Lib.hid mr2
            have HN0 := Lib.hid (Has.fresh wr 46 (Fc.nodeC n))
            have HI1 := Lib.hid (HI.out.new (.cells (Fc.nodeC n) 46))
            rw [hA2]
            clear hA2 hbl2 hx2 mr2 HI
            go_wp2_with (first | ((with_reducible refine Who.wpList_loadC 46 (.tmp 142) rfl (b2) (off2 + k * 13) (Fc.nodeC n) ?_); refine And.intro ⟨by rfl, by rfl, ⟨_, Tryz.underlying46, rfl⟩, infoN⟩ (And.intro (MR.out) ?_); (try simp only [Act.put, List.setIfInBounds_toArray, List.set_cons_zero, List.set_cons_succ])) | ((with_reducible refine Who.wpList_newC 46 18 (.tmp 143) rfl rfl rfl (zeroN) (Fc.nodeC n) ?_); refine And.intro ⟨rfl, rfl, rfl, allocN, by rfl, by rfl, infoN, rfl, oneN n⟩ ?_; (try simp only [Act.put, List.setIfInBounds_toArray, List.set_cons_zero, List.set_cons_succ]); (try simp only [World.size_alloc])) | ((with_reducible refine Who.wpList_loadC 27 (.tmp 2) rfl (w.heap.size) 0 (Fc.stateC a) ?_); refine And.intro ⟨by rfl, by rfl, ⟨_, Tryz.underlying27, rfl⟩, info_state⟩ (And.intro (Who.has_range HI1.out.ha) ?_); (try simp only [Act.put, List.setIfInBounds_toArray, List.set_cons_zero, List.set_cons_succ])) | ((with_reducible refine Who.wpList_loadC 37 (.tmp 146) rfl (wr.heap.size) 0 (#[.int .i64 n.p.id.1, .int .i64 n.p.id.2]) ?_); refine And.intro ⟨by rfl, by rfl, ⟨_, Tryz.underlying37, rfl⟩, info_st⟩ (And.intro (nodeIds_rng HN0.out) ?_); (try simp only [Act.put, List.setIfInBounds_toArray, List.set_cons_zero, List.set_cons_succ])) | fail)
            obtain ⟨g18, hg18⟩ : ∃ g18, g18 = wr.heap.size := ⟨_, rfl⟩
            rw [← hg18] at HN0
            rw [← hg18]
            refine (rnode_two a n.p.id _ (HIA.out _ HI1.out.below).nodes.row (by have := HLA.out.n1; show a.n1 ≤ _; omega)).mono ?_
            rintro e w6 ⟨⟨c1, rfl⟩, hb⟩
            have hbn := (Below.refl w6.heap.size w6).alloc (Nat.le_refl _) (.cells (Fc.nodeC c1) 46)
            have HI2 := Lib.hid ((HI1.out.low hb).low hbn)
            have HN2 := Lib.hid ((HN0.out.below hb).below hbn)
            clear hb hbn HI1 HN0 MR hg18
            go_wp2_with (first | ((with_reducible refine Who.wpList_newC 46 19 (.tmp 149) rfl rfl rfl (zeroN) (Fc.nodeC c1) ?_); refine And.intro ⟨rfl, rfl, rfl, allocN, by rfl, by rfl, infoN, rfl, oneN c1⟩ ?_; (try simp only [Act.put, List.setIfInBounds_toArray, List.set_cons_zero, List.set_cons_succ]); (try simp only [World.size_alloc])) | ((with_reducible refine Who.wpList_loadC 27 (.tmp 3) rfl (w.heap.size + 1) 0 (Fc.stateC b) ?_); refine And.intro ⟨by rfl, by rfl, ⟨_, Tryz.underlying27, rfl⟩, info_state⟩ (And.intro (Who.has_range HI2.out.hb) ?_); (try simp only [Act.put, List.setIfInBounds_toArray, List.set_cons_zero, List.set_cons_succ])) | ((with_reducible refine Who.wpList_loadC 37 (.tmp 153) rfl (g18) 0 (#[.int .i64 n.p.id.1, .int .i64 n.p.id.2]) ?_); refine And.intro ⟨by rfl, by rfl, ⟨_, Tryz.underlying37, rfl⟩, info_st⟩ (And.intro (nodeIds_rng HN2.out) ?_); (try simp only [Act.put, List.setIfInBounds_toArray, List.set_cons_zero, List.set_cons_succ])) | fail)
            refine (rnode_two b n.p.id _ (HIB.out _ HI2.out.below).nodes.row (by have := HLB.out.n1; show b.n1 ≤ _; omega)).mono ?_
            rintro e w7 ⟨⟨c2, rfl⟩, hb⟩
            have HI3 := Lib.hid ((HI2.out.low hb).new (.cells (Fc.nodeC c2) 46))
            clear hb HI2 HN2
            generalize (firstN a.nodes n.p.id).isSome = z1 at *
            generalize (firstN b.nodes n.p.id).isSome = z2 at *
            cases z1 with
            | true =>
              go_wp2_with (first | ((with_reducible refine Who.wpList_newC 46 21 (.tmp 156) rfl rfl rfl (zeroN) (Fc.nodeC c2) ?_); refine And.intro ⟨rfl, rfl, rfl, allocN, by rfl, by rfl, infoN, rfl, oneN c2⟩ ?_; (try simp only [Act.put, List.setIfInBounds_toArray, List.set_cons_zero, List.set_cons_succ]); (try simp only [World.size_alloc])) | fail)
              go_roundw
              case rel => exact ⟨k + 1, by go_num, by omega, HI3⟩
              case measure => simp [intOf]; omega
            | false =>
              obtain rfl : z2 = true := by
                rcases HF.out with h | h
                · cases h
                · exact h
              go_wp2_with (first | ((with_reducible refine Who.wpList_newC 46 21 (.tmp 156) rfl rfl rfl (zeroN) (Fc.nodeC c2) ?_); refine And.intro ⟨rfl, rfl, rfl, allocN, by rfl, by rfl, infoN, rfl, oneN c2⟩ ?_; (try simp only [Act.put, List.setIfInBounds_toArray, List.set_cons_zero, List.set_cons_succ]); (try simp only [World.size_alloc])) | fail)
              go_roundw
              case rel => exact ⟨k + 1, by go_num, by omega, HI3⟩
              case measure => simp [intOf]; omega
          · go_wp2_with fail
            refine (awake_any _).mono ?_
            rintro e w9 ⟨rfl, hb⟩
            have HE := Lib.hid (HI.out.below.trans (hb.mono HI.out.below.size))
            clear hb
            go_wp2
            go_ret
            exact ⟨rfl, HE.out⟩
end Go.Proofs.YtblogecapegbmaaGreat.Jn
