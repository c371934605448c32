/- Join: the law JoinOne walked. -/
import Derived.Test.YtblogecapegbmaaGreatJnU
namespace Go.Proofs.YtblogecapegbmaaGreat.Jn
open Go.RowKit Go.Proofs.YtblogecapegbmaaGreat.Mem
set_option linter.unusedVariables false set_option linter.unusedSimpArgs false

def row3 (a b c : Fc.StateC) : Array Value := #[.int .i64 (a.seen 0), .int .i64 (a.seen 1), .int .i64 (a.seen 2), .int .i64 (a.seen 3), .int .i64 (a.seen 4), .int .i64 (a.seen 5), .int .i64 (a.seen 6), .int .i64 (a.seen 7), .slice a.A1 a.n1 a.c1, .slice a.A2 a.n2 a.c2, .int .i64 (b.seen 0), .int .i64 (b.seen 1), .int .i64 (b.seen 2), .int .i64 (b.seen 3), .int .i64 (b.seen 4), .int .i64 (b.seen 5), .int .i64 (b.seen 6), .int .i64 (b.seen 7), .slice b.A1 b.n1 b.c1, .slice b.A2 b.n2 b.c2, .int .i64 (c.seen 0), .int .i64 (c.seen 1), .int .i64 (c.seen 2), .int .i64 (c.seen 3), .int .i64 (c.seen 4), .int .i64 (c.seen 5), .int .i64 (c.seen 6), .int .i64 (c.seen 7), .slice c.A1 c.n1 c.c1, .slice c.A2 c.n2 c.c2]
theorem srow3 {w : World} {g : Nat} {t : TypeId} {a b c : Fc.StateC} (h : Has w g t (row3 a b c)) : Fc.SRow w 10 Fc.stateC (some ⟨g, 0, none⟩) 3 [a, b, c] := by
  refine ⟨rfl, fun _ => ⟨g, 0, rfl, h.bound, fun i hi j v hv => ?_⟩⟩
  have hj : j < 10 := by
    obtain ⟨q, _⟩ := Array.getElem?_eq_some_iff.1 hv
    exact q
  rw [show 0 + i * 10 + j = i * 10 + j by omega, h.at_, ← hv]
  match i, hi with
  | 0, _ => match j, hj with | 0, _ | 1, _ | 2, _ | 3, _ | 4, _ | 5, _ | 6, _ | 7, _ | 8, _ | 9, _ => rfl
  | 1, _ => match j, hj with | 0, _ | 1, _ | 2, _ | 3, _ | 4, _ | 5, _ | 6, _ | 7, _ | 8, _ | 9, _ => rfl
  | 2, _ => match j, hj with | 0, _ | 1, _ | 2, _ | 3, _ | 4, _ | 5, _ | 6, _ | 7, _ | 8, _ | 9, _ => rfl
  | i + 3, hi => simp at hi; omega
theorem fill3 (a b c : Fc.StateC) : Instr.fill (fun i => some (i * 10, 10)) ((Array.range (3 * 10)).map ((Value.agg zeroS).cells[· % (Value.agg zeroS).cells.size]!)) [(0, Value.agg (Fc.stateC a)), (1, Value.agg (Fc.stateC b)), (2, Value.agg (Fc.stateC c))] = some (row3 a b c) := by kernel_rfl
theorem wpList_build3 {ops : Array Oper} {rest : List Oper} {o : Oper} {act : Act} {w : World} {Q : Exit → Act → World → Prop} (x y z : Operand) (a b c : Fc.StateC) (ho : o.op = .buildSlice 34 3 #[(0, x), (1, y), (2, z)])
    (h : (Region.wanted o (yielded ops act.tmps) = true ∧ act.eval x = .agg (Fc.stateC a) ∧ act.eval y = .agg (Fc.stateC b) ∧ act.eval z = .agg (Fc.stateC c)) ∧ wpList Tryz.prog ops Q rest (act.put o.dst (.slice (some ⟨w.heap.size, 0, none⟩) 3 3)) (w.alloc (.cells (row3 a b c) 27))) : wpList Tryz.prog ops Q (o :: rest) act w := by
  obtain ⟨⟨h1, h2, h3, h4⟩, h5⟩ := h
  obtain ⟨i, q0, q1, q2, q3⟩ : ∃ i, Tryz.prog.info? 27 = some i ∧ i.zero = some (.agg zeroS) ∧ i.size = 10 ∧ i.bytes = 112 := by
    have h : (Tryz.prog.info? 27).map (fun i => (i.zero, i.size, i.bytes)) = some (some (.agg zeroS), 10, 112) := by kernel_rfl
    cases hh : Tryz.prog.info? 27 with
    | none => rw [hh] at h; cases h
    | some i => rw [hh] at h; simp at h; exact ⟨i, rfl, h⟩
  refine wpList_step fun K hK => ?_
  rw [if_pos h1]
  refine wp_buildSlice 34 27 3 _ ho (row3 a b c) i _ Tryz.underlying34 q0 q1 (by omega) (by omega) ?_ (hK _ _ h5)
  have e1 : (#[(0, x), (1, y), (2, z)] : Array (Nat × Operand)).map (fun (i, x) => (i, act.eval x)) = #[(0, .agg (Fc.stateC a)), (1, .agg (Fc.stateC b)), (2, .agg (Fc.stateC c))] := by simp [h2, h3, h4]
  rw [e1, q2]
  exact fill3 a b c
set_option maxRecDepth 100000 in
set_option maxHeartbeats 8000000 in
theorem one_walk (w : World) (a b c : Fc.StateC) (ha : Fc.StateFit w a) (na : Fc.NilS a) (hb : Fc.StateFit w b) (nb : Fc.NilS b) (hc : Fc.StateFit w c) (nc : Fc.NilS c) : Calls Tryz.prog 5 #[.agg (Fc.stateC a), .agg (Fc.stateC b), .agg (Fc.stateC c)] w fun e w' => e = .returned (.bool true) ∧ Below w.heap.size w w' := by
  have HB0 := Lib.hid ((((Below.refl w.heap.size w).alloc (Nat.le_refl _) (.cells (Fc.stateC a) 27)).alloc (by simp) (.cells (Fc.stateC b) 27)).alloc (by simp; omega) (.cells (Fc.stateC c) 27))
  have h3 := ((Has.fresh w 27 (Fc.stateC a)).past (.cells (Fc.stateC b) 27)).past (.cells (Fc.stateC c) 27)
  have h4 := (Has.fresh (w.alloc (.cells (Fc.stateC a) 27)) 27 (Fc.stateC b)).past (.cells (Fc.stateC c) 27)
  have h5 := Has.fresh ((w.alloc (.cells (Fc.stateC a) 27)).alloc (.cells (Fc.stateC b) 27)) 27 (Fc.stateC c)
  rw [World.size_alloc] at h4
  rw [World.size_alloc, World.size_alloc] at h5
  have HIA := Lib.hid (fun V (h : Below w.heap.size w V) => in_fit (ha.below h) na)
  have HIB := Lib.hid (fun V (h : Below w.heap.size w V) => in_fit (hb.below h) nb)
  have HIC := Lib.hid (fun V (h : Below w.heap.size w V) => in_fit (hc.below h) nc)
  obtain ⟨W0, hW0⟩ : ∃ W0 : World, W0 = ((w.alloc (.cells (Fc.stateC a) 27)).alloc (.cells (Fc.stateC b) 27)).alloc (.cells (Fc.stateC c) 27) := ⟨_, rfl⟩
  have HFT := Lib.hid (fun V (h : Below w.heap.size w V) => (show ∀ x ∈ [a, b, c], Fc.StateFit V x from fun x hx => by
    rcases List.mem_cons.1 hx with rfl | hx
    · exact ha.below h
    · rcases List.mem_cons.1 hx with rfl | hx
      · exact hb.below h
      · rw [List.mem_singleton.1 hx]; exact hc.below h))
  have HX0 := Lib.hid h3
  have HY0 := Lib.hid h4
  have HZ0 := Lib.hid h5
  have HT := Lib.hid (Has.fresh (((w.alloc (.cells (Fc.stateC a) 27)).alloc (.cells (Fc.stateC b) 27)).alloc (.cells (Fc.stateC c) 27)) 27 (row3 a b c))
  have HBT := Lib.hid (HB0.out.alloc (by simp; omega) (.cells (row3 a b c) 27))
  have HS := Lib.hid (smalls_any (w.heap.size + 1 + 1 + 1) 3 3 [a, b, c] ((((w.alloc (.cells (Fc.stateC a) 27)).alloc (.cells (Fc.stateC b) 27)).alloc (.cells (Fc.stateC c) 27)).alloc (.cells (row3 a b c) 27)) (by have q := srow3 HT.out; simp only [World.size_alloc] at q; exact q) (by decide) (HFT.out _ HBT.out))
  have HX1 := Lib.hid (HX0.out.past (.cells (row3 a b c) 27))
  have HY1 := Lib.hid (HY0.out.past (.cells (row3 a b c) 27))
  have HZ1 := Lib.hid (HZ0.out.past (.cells (row3 a b c) 27))
  clear ha hb hc na nb nc h3 h4 h5 hW0 W0 HT HFT
  go_enter Tryz.func5, Tryz.ntmps5
  go_wp2_with (first | ((with_reducible refine Who.wpList_loadC 27 (.tmp 3) rfl (w.heap.size) 0 (Fc.stateC a) ?_); refine And.intro ⟨by rfl, by rfl, ⟨_, Tryz.underlying27, rfl⟩, info_state⟩ (And.intro (Who.has_range HX0.out) ?_); (try simp only [Act.put, List.setIfInBounds_toArray, List.set_cons_zero, List.set_cons_succ])) | ((with_reducible refine Who.wpList_loadC 27 (.tmp 4) rfl (w.heap.size + 1) 0 (Fc.stateC b) ?_); refine And.intro ⟨by rfl, by rfl, ⟨_, Tryz.underlying27, rfl⟩, info_state⟩ (And.intro (Who.has_range HY0.out) ?_); (try simp only [Act.put, List.setIfInBounds_toArray, List.set_cons_zero, List.set_cons_succ])) | ((with_reducible refine Who.wpList_loadC 27 (.tmp 5) rfl (w.heap.size + 1 + 1) 0 (Fc.stateC c) ?_); refine And.intro ⟨by rfl, by rfl, ⟨_, Tryz.underlying27, rfl⟩, info_state⟩ (And.intro (Who.has_range HZ0.out) ?_); (try simp only [Act.put, List.setIfInBounds_toArray, List.set_cons_zero, List.set_cons_succ])) | ((with_reducible refine wpList_build3 (.tmp 9) (.tmp 10) (.tmp 11) a b c rfl ?_); refine And.intro ⟨by rfl, by rfl, by rfl, by rfl⟩ ?_; (try simp only [Act.put, List.setIfInBounds_toArray, List.set_cons_zero, List.set_cons_succ]); (try simp only [World.size_alloc])) | fail)
  refine HS.out.mono ?_
  rintro e w2 ⟨⟨bo, rfl, hs⟩, hb⟩
  have HI_0 := Lib.hid (HBT.out.trans (hb.mono HBT.out.size))
  have X_0 := Lib.hid (HX1.out.below hb)
  have Y_0 := Lib.hid (HY1.out.below hb)
  have Z_0 := Lib.hid (HZ1.out.below hb)
  have HSS := Lib.hid hs
  clear hs hb HS HB0 HBT HX0 HY0 HZ0 HX1 HY1 HZ1
  obtain ⟨g3, hg3⟩ : ∃ g, g = w.heap.size := ⟨_, rfl⟩
  obtain ⟨g4, hg4⟩ : ∃ g, g = w.heap.size + 1 := ⟨_, rfl⟩
  obtain ⟨g5, hg5⟩ : ∃ g, g = w.heap.size + 1 + 1 := ⟨_, rfl⟩
  rw [← hg5] at Z_0
  rw [← hg4] at Y_0
  rw [← hg3] at X_0
  rw [← hg5, ← hg4, ← hg3]
  clear hg3 hg4 hg5
  cases bo with
  | false =>
    go_wp2_with fail
    refine (awake_any _).mono ?_
    rintro e w3 ⟨rfl, hb⟩
    have HI := Lib.hid (HI_0.out.trans (hb.mono HI_0.out.size))
    clear hb
    go_wp2
    go_ret
    exact ⟨rfl, HI.out⟩
  | true =>
    have HLA := Lib.hid (HSS.out rfl a (by simp))
    have HLB := Lib.hid (HSS.out rfl b (by simp))
    have HLC := Lib.hid (HSS.out rfl c (by simp))
    clear HSS
    go_wp2_with (first | ((with_reducible refine Who.wpList_loadC 27 (.tmp 3) rfl (g3) 0 (Fc.stateC a) ?_); refine And.intro ⟨by rfl, by rfl, ⟨_, Tryz.underlying27, rfl⟩, info_state⟩ (And.intro (Who.has_range X_0.out) ?_); (try simp only [Act.put, List.setIfInBounds_toArray, List.set_cons_zero, List.set_cons_succ])) | ((with_reducible refine Who.wpList_loadC 27 (.tmp 4) rfl (g4) 0 (Fc.stateC b) ?_); refine And.intro ⟨by rfl, by rfl, ⟨_, Tryz.underlying27, rfl⟩, info_state⟩ (And.intro (Who.has_range Y_0.out) ?_); (try simp only [Act.put, List.setIfInBounds_toArray, List.set_cons_zero, List.set_cons_succ])) | fail)
    refine (states_any a b _ (HIA.out _ HI_0.out) (HIB.out _ HI_0.out) HLA.out HLB.out (by decide)).mono ?_
    rintro e w3 ⟨s1, rfl, hp, ho, hb⟩
    have HI_1 := Lib.hid (HI_0.out.trans (hb.mono HI_0.out.size))
    have X_1 := Lib.hid (X_0.out.below hb)
    have Y_1 := Lib.hid (Y_0.out.below hb)
    have Z_1 := Lib.hid (Z_0.out.below hb)
    have HP1 := Lib.hid hp
    have N1_1 := Lib.hid ho.in_
    have HL1 := Lib.hid ((limS_join (HIA.out _ HI_0.out) (HIB.out _ HI_0.out) HLA.out HLB.out ho.in_ hp).mono (show 4800 + 4800 ≤ 100000 by decide))
    have hbn := (Below.refl w3.heap.size w3).alloc (Nat.le_refl _) (.cells (Fc.stateC s1) 27)
    have HI_2 := Lib.hid (HI_1.out.trans (hbn.mono HI_1.out.size)).drew
    have X_2 := Lib.hid (X_1.out.below hbn).drew
    have Y_2 := Lib.hid (Y_1.out.below hbn).drew
    have Z_2 := Lib.hid (Z_1.out.below hbn).drew
    have N1_2 := Lib.hid ((N1_1.out.below hbn).below (Below.refl _ _).drew)
    obtain ⟨g7, hg7⟩ : ∃ g, g = w3.heap.size := ⟨_, rfl⟩
    have V_2 := Lib.hid (show Has (w3.alloc (.cells (Fc.stateC s1) 27)).drew g7 27 (Fc.stateC s1) by rw [hg7]; exact (Has.fresh w3 27 (Fc.stateC s1)).drew)
    have HG7 := Lib.hid hg7
    clear hp ho hb hbn X_0 Y_0 Z_0 HI_0 X_1 Y_1 Z_1 HI_1 N1_1 hg7
    go_wp2_with (first | ((with_reducible refine Who.wpList_newC 27 7 (.tmp 18) rfl rfl rfl (zeroS) (Fc.stateC s1) ?_); refine And.intro ⟨rfl, rfl, rfl, allocS, by rfl, by rfl, info_state, rfl, state_one _⟩ ?_; (try simp only [Act.put, List.setIfInBounds_toArray, List.set_cons_zero, List.set_cons_succ]); (try simp only [World.size_alloc])) | fail)
    rw [← HG7.out]
    refine wp_region_held_drew (S := fun V => Has V g3 27 (Fc.stateC a) ∧ Has V g4 27 (Fc.stateC b) ∧ Has V g5 27 (Fc.stateC c) ∧ Has V g7 27 (Fc.stateC s1)) (by kernel_rfl) ⟨X_2.out, Y_2.out, Z_2.out, V_2.out⟩ (fun hHeld => ?_)
    refine Vc.wpAnyH_read (i := 0) (d := some 19) (v := .agg (Fc.stateC s1)) (by rfl) (by rfl) (by kernel_rfl) (by kernel_rfl) (by kernel_rfl) (fun _ _ _ h => h) (by rfl) ?hy1001 (by assumption) ?rest1001
    case hy1001 =>
      intro w hSw
      exact Who.exec_loadA _ rfl rfl (Who.has_range hSw.2.2.2) Tryz.underlying27 rfl info_state
    try simp only [Act.put, List.setIfInBounds_toArray, List.set_cons_zero, List.set_cons_succ]
    refine Vc.wpAnyH_read (i := 1) (d := some 20) (v := .agg (Fc.stateC b)) (by rfl) (by rfl) (by kernel_rfl) (by kernel_rfl) (by kernel_rfl) (fun _ _ _ h => h) (by rfl) ?hy1002 (by assumption) ?rest1002
    case hy1002 =>
      intro w hSw
      exact Who.exec_loadA _ rfl rfl (Who.has_range hSw.2.1) Tryz.underlying27 rfl info_state
    try simp only [Act.put, List.setIfInBounds_toArray, List.set_cons_zero, List.set_cons_succ]
    refine Vc.wpAnyH_read (i := 2) (d := some 21) (v := .agg (Fc.stateC a)) (by rfl) (by rfl) (by kernel_rfl) (by kernel_rfl) (by kernel_rfl) (fun _ _ _ h => h) (by rfl) ?hy1003 (by assumption) ?rest1003
    case hy1003 =>
      intro w hSw
      exact Who.exec_loadA _ rfl rfl (Who.has_range hSw.1) Tryz.underlying27 rfl info_state
    try simp only [Act.put, List.setIfInBounds_toArray, List.set_cons_zero, List.set_cons_succ]
    refine wpAnyH_ready (rs := [3]) (by kernel_rfl) (by simp) ?_
    refine AllReadyH.cons rfl (fun K hK => ?_) AllReadyH.nil
    go_simp
    go_at_call 14
    refine (states_any b a _ (HIB.out _ HI_2.out) (HIA.out _ HI_2.out) (LimS.mono HLB.out (show _ ≤ 150000 by decide)) (LimS.mono HLA.out (show _ ≤ 150000 by decide)) (by decide)).mono ?_
    rintro e w13 ⟨s2, rfl, hp, ho, hb⟩
    have HP2 := Lib.hid hp
    have HL2 := Lib.hid ((limS_join (HIB.out _ HI_2.out) (HIA.out _ HI_2.out) HLB.out HLA.out ho.in_ hp).mono (show _ ≤ 100000 by decide))
    have hn2 := Lib.hid ho.in_
    have HI_3 := Lib.hid (HI_2.out.trans (hb.mono HI_2.out.size))
    have X_3 := Lib.hid (X_2.out.below hb)
    have Y_3 := Lib.hid (Y_2.out.below hb)
    have Z_3 := Lib.hid (Z_2.out.below hb)
    have V_3 := Lib.hid (V_2.out.below hb)
    have N1_3 := Lib.hid (N1_2.out.below hb)
    have N2_3 := Lib.hid hn2.out
    clear hp ho hb hn2 HI_2 X_2 Y_2 Z_2 V_2 N1_2
    refine hK.out _ _ ⟨X_3.out, Y_3.out, Z_3.out, V_3.out⟩ (fun hHeld => ?_)
    clear hK K
    try simp only [Act.put, List.setIfInBounds_toArray, List.set_cons_zero, List.set_cons_succ]
    refine wpAnyH_ready (rs := [4]) (by kernel_rfl) (by simp) ?_
    refine AllReadyH.cons rfl (fun K hK => ?_) AllReadyH.nil
    go_simp
    go_at_call 19
    refine (Fc.same_any s1 s2 _ (row_in (N1_3.out) HL1.out (by decide)) (row_in (N2_3.out) HL2.out (by decide))).mono ?_
    rintro e w14 ⟨⟨bb, rfl, hbb⟩, hb⟩
    obtain rfl : bb = true := hbb.2 (same_yes (by rw [HP1.out, HP2.out, joinP_comm]))
    have HI_4 := Lib.hid (HI_3.out.trans (hb.mono HI_3.out.size))
    have X_4 := Lib.hid (X_3.out.below hb)
    have Y_4 := Lib.hid (Y_3.out.below hb)
    have Z_4 := Lib.hid (Z_3.out.below hb)
    have V_4 := Lib.hid (V_3.out.below hb)
    have N1_4 := Lib.hid (N1_3.out.below hb)
    have N2_4 := Lib.hid (N2_3.out.below hb)
    clear hbb hb HI_3 X_3 Y_3 Z_3 V_3 N1_3 N2_3
    refine hK.out _ _ ⟨X_4.out, Y_4.out, Z_4.out, V_4.out⟩ (fun hHeld => ?_)
    clear hK K
    try simp only [Act.put, List.setIfInBounds_toArray, List.set_cons_zero, List.set_cons_succ]
    refine Vc.wpAnyH_read (i := 5) (d := some 24) (v := ?v1004) (by rfl) (by rfl) (by kernel_rfl) (by kernel_rfl) (by kernel_rfl) (fun _ _ _ h => h) (by rfl) ?hy1004 (by assumption) ?rest1004
    case hy1004 =>
      intro w hSw
      try dsimp only at hSw
      go_simp
      try with_reducible rfl
    try simp only [Act.put, List.setIfInBounds_toArray, List.set_cons_zero, List.set_cons_succ]
    refine Vc.wpAnyH_read (i := 6) (d := some 25) (v := .agg (Fc.stateC s1)) (by rfl) (by rfl) (by kernel_rfl) (by kernel_rfl) (by kernel_rfl) (fun _ _ _ h => h) (by rfl) ?hy1005 (by assumption) ?rest1005
    case hy1005 =>
      intro w hSw
      exact Who.exec_loadA _ rfl rfl (Who.has_range hSw.2.2.2) Tryz.underlying27 rfl info_state
    try simp only [Act.put, List.setIfInBounds_toArray, List.set_cons_zero, List.set_cons_succ]
    refine Vc.wpAnyH_read (i := 7) (d := some 26) (v := .agg (Fc.stateC c)) (by rfl) (by rfl) (by kernel_rfl) (by kernel_rfl) (by kernel_rfl) (fun _ _ _ h => h) (by rfl) ?hy1006 (by assumption) ?rest1006
    case hy1006 =>
      intro w hSw
      exact Who.exec_loadA _ rfl rfl (Who.has_range hSw.2.2.1) Tryz.underlying27 rfl info_state
    try simp only [Act.put, List.setIfInBounds_toArray, List.set_cons_zero, List.set_cons_succ]
    refine Vc.wpAnyH_read (i := 9) (d := some 28) (v := .agg (Fc.stateC a)) (by rfl) (by rfl) (by kernel_rfl) (by kernel_rfl) (by kernel_rfl) (fun _ _ _ h => h) (by rfl) ?hy1007 (by assumption) ?rest1007
    case hy1007 =>
      intro w hSw
      exact Who.exec_loadA _ rfl rfl (Who.has_range hSw.1) Tryz.underlying27 rfl info_state
    try simp only [Act.put, List.setIfInBounds_toArray, List.set_cons_zero, List.set_cons_succ]
    refine Vc.wpAnyH_read (i := 10) (d := some 29) (v := .agg (Fc.stateC b)) (by rfl) (by rfl) (by kernel_rfl) (by kernel_rfl) (by kernel_rfl) (fun _ _ _ h => h) (by rfl) ?hy1008 (by assumption) ?rest1008
    case hy1008 =>
      intro w hSw
      exact Who.exec_loadA _ rfl rfl (Who.has_range hSw.2.1) Tryz.underlying27 rfl info_state
    try simp only [Act.put, List.setIfInBounds_toArray, List.set_cons_zero, List.set_cons_succ]
    refine Vc.wpAnyH_read (i := 11) (d := some 30) (v := .agg (Fc.stateC c)) (by rfl) (by rfl) (by kernel_rfl) (by kernel_rfl) (by kernel_rfl) (fun _ _ _ h => h) (by rfl) ?hy1009 (by assumption) ?rest1009
    case hy1009 =>
      intro w hSw
      exact Who.exec_loadA _ rfl rfl (Who.has_range hSw.2.2.1) Tryz.underlying27 rfl info_state
    try simp only [Act.put, List.setIfInBounds_toArray, List.set_cons_zero, List.set_cons_succ]
    refine wpAnyH_ready (rs := [8]) (by kernel_rfl) (by simp) ?_
    refine AllReadyH.cons rfl (fun K hK => ?_) AllReadyH.nil
    go_simp
    go_at_call 14
    refine (states_any s1 c _ (N1_4.out) (HIC.out _ HI_4.out) (LimS.mono HL1.out (show _ ≤ 150000 by decide)) (LimS.mono HLC.out (show _ ≤ 150000 by decide)) (by decide)).mono ?_
    rintro e w15 ⟨s3, rfl, hp, ho, hb⟩
    have HP3 := Lib.hid hp
    have HL3 := Lib.hid ((limS_join (N1_4.out) (HIC.out _ HI_4.out) HL1.out HLC.out ho.in_ hp).mono (show _ ≤ 200000 by decide))
    have hn3 := Lib.hid ho.in_
    have HI_5 := Lib.hid (HI_4.out.trans (hb.mono HI_4.out.size))
    have X_5 := Lib.hid (X_4.out.below hb)
    have Y_5 := Lib.hid (Y_4.out.below hb)
    have Z_5 := Lib.hid (Z_4.out.below hb)
    have V_5 := Lib.hid (V_4.out.below hb)
    have N1_5 := Lib.hid (N1_4.out.below hb)
    have N2_5 := Lib.hid (N2_4.out.below hb)
    have N3_5 := Lib.hid hn3.out
    clear hp ho hb hn3 HI_4 X_4 Y_4 Z_4 V_4 N1_4 N2_4
    refine hK.out _ _ ⟨X_5.out, Y_5.out, Z_5.out, V_5.out⟩ (fun hHeld => ?_)
    clear hK K
    try simp only [Act.put, List.setIfInBounds_toArray, List.set_cons_zero, List.set_cons_succ]
    refine wpAnyH_ready (rs := [12]) (by kernel_rfl) (by simp) ?_
    refine AllReadyH.cons rfl (fun K hK => ?_) AllReadyH.nil
    go_simp
    go_at_call 14
    refine (states_any b c _ (HIB.out _ HI_5.out) (HIC.out _ HI_5.out) (LimS.mono HLB.out (show _ ≤ 150000 by decide)) (LimS.mono HLC.out (show _ ≤ 150000 by decide)) (by decide)).mono ?_
    rintro e w16 ⟨s4, rfl, hp, ho, hb⟩
    have HP4 := Lib.hid hp
    have HL4 := Lib.hid ((limS_join (HIB.out _ HI_5.out) (HIC.out _ HI_5.out) HLB.out HLC.out ho.in_ hp).mono (show _ ≤ 100000 by decide))
    have hn4 := Lib.hid ho.in_
    have HI_6 := Lib.hid (HI_5.out.trans (hb.mono HI_5.out.size))
    have X_6 := Lib.hid (X_5.out.below hb)
    have Y_6 := Lib.hid (Y_5.out.below hb)
    have Z_6 := Lib.hid (Z_5.out.below hb)
    have V_6 := Lib.hid (V_5.out.below hb)
    have N1_6 := Lib.hid (N1_5.out.below hb)
    have N2_6 := Lib.hid (N2_5.out.below hb)
    have N3_6 := Lib.hid (N3_5.out.below hb)
    have N4_6 := Lib.hid hn4.out
    clear hp ho hb hn4 HI_5 X_5 Y_5 Z_5 V_5 N1_5 N2_5 N3_5
    refine hK.out _ _ ⟨X_6.out, Y_6.out, Z_6.out, V_6.out⟩ (fun hHeld => ?_)
    clear hK K
    try simp only [Act.put, List.setIfInBounds_toArray, List.set_cons_zero, List.set_cons_succ]
    refine wpAnyH_ready (rs := [13]) (by kernel_rfl) (by simp) ?_
    refine AllReadyH.cons rfl (fun K hK => ?_) AllReadyH.nil
    go_simp
    go_at_call 14
    refine (states_any a s4 _ (HIA.out _ HI_6.out) (N4_6.out) (LimS.mono HLA.out (show _ ≤ 150000 by decide)) (LimS.mono HL4.out (show _ ≤ 150000 by decide)) (by decide)).mono ?_
    rintro e w17 ⟨s5, rfl, hp, ho, hb⟩
    have HP5 := Lib.hid hp
    have HL5 := Lib.hid ((limS_join (HIA.out _ HI_6.out) (N4_6.out) HLA.out HL4.out ho.in_ hp).mono (show _ ≤ 200000 by decide))
    have hn5 := Lib.hid ho.in_
    have HI_7 := Lib.hid (HI_6.out.trans (hb.mono HI_6.out.size))
    have X_7 := Lib.hid (X_6.out.below hb)
    have Y_7 := Lib.hid (Y_6.out.below hb)
    have Z_7 := Lib.hid (Z_6.out.below hb)
    have V_7 := Lib.hid (V_6.out.below hb)
    have N1_7 := Lib.hid (N1_6.out.below hb)
    have N2_7 := Lib.hid (N2_6.out.below hb)
    have N3_7 := Lib.hid (N3_6.out.below hb)
    have N4_7 := Lib.hid (N4_6.out.below hb)
    have N5_7 := Lib.hid hn5.out
    clear hp ho hb hn5 HI_6 X_6 Y_6 Z_6 V_6 N1_6 N2_6 N3_6 N4_6
    refine hK.out _ _ ⟨X_7.out, Y_7.out, Z_7.out, V_7.out⟩ (fun hHeld => ?_)
    clear hK K
    try simp only [Act.put, List.setIfInBounds_toArray, List.set_cons_zero, List.set_cons_succ]
    refine wpAnyH_ready (rs := [14]) (by kernel_rfl) (by simp) ?_
    refine AllReadyH.cons rfl (fun K hK => ?_) AllReadyH.nil
    go_simp
    go_at_call 19
    refine (Fc.same_any s3 s5 _ (row_in (N3_7.out) HL3.out (by decide)) (row_in (N5_7.out) HL5.out (by decide))).mono ?_
    rintro e w18 ⟨⟨bb, rfl, hbb⟩, hb⟩
    obtain rfl : bb = true := hbb.2 (same_yes (by rw [HP3.out, HP5.out, HP1.out, HP4.out, joinP_assoc]))
    have HI_8 := Lib.hid (HI_7.out.trans (hb.mono HI_7.out.size))
    have X_8 := Lib.hid (X_7.out.below hb)
    have Y_8 := Lib.hid (Y_7.out.below hb)
    have Z_8 := Lib.hid (Z_7.out.below hb)
    have V_8 := Lib.hid (V_7.out.below hb)
    have N1_8 := Lib.hid (N1_7.out.below hb)
    have N2_8 := Lib.hid (N2_7.out.below hb)
    have N3_8 := Lib.hid (N3_7.out.below hb)
    have N4_8 := Lib.hid (N4_7.out.below hb)
    have N5_8 := Lib.hid (N5_7.out.below hb)
    clear hbb hb HI_7 X_7 Y_7 Z_7 V_7 N1_7 N2_7 N3_7 N4_7 N5_7
    refine hK.out _ _ ⟨X_8.out, Y_8.out, Z_8.out, V_8.out⟩ (fun hHeld => ?_)
    clear hK K
    try simp only [Act.put, List.setIfInBounds_toArray, List.set_cons_zero, List.set_cons_succ]
    refine Vc.wpAnyH_read (i := 15) (d := some 34) (v := ?v1010) (by rfl) (by rfl) (by kernel_rfl) (by kernel_rfl) (by kernel_rfl) (fun _ _ _ h => h) (by rfl) ?hy1010 (by assumption) ?rest1010
    case hy1010 =>
      intro w hSw
      try dsimp only at hSw
      go_simp
      try with_reducible rfl
    try simp only [Act.put, List.setIfInBounds_toArray, List.set_cons_zero, List.set_cons_succ]
    refine Vc.wpAnyH_read (i := 16) (d := some 8) (v := ?v1011) (by rfl) (by rfl) (by kernel_rfl) (by kernel_rfl) (by kernel_rfl) (fun _ _ _ h => h) (by rfl) ?hy1011 (by assumption) ?rest1011
    case hy1011 =>
      intro w hSw
      try dsimp only at hSw
      go_simp
      try with_reducible rfl
    try simp only [Act.put, List.setIfInBounds_toArray, List.set_cons_zero, List.set_cons_succ]
    refine wpAnyH_done (by kernel_rfl) ?_ _
    go_wp2_with fail
    have HI_9 := Lib.hid HI_8.out.drew
    have X_9 := Lib.hid X_8.out.drew
    have Y_9 := Lib.hid Y_8.out.drew
    have Z_9 := Lib.hid Z_8.out.drew
    have V_9 := Lib.hid V_8.out.drew
    have N1_9 := Lib.hid (N1_8.out.below (Below.refl _ _).drew)
    have N2_9 := Lib.hid (N2_8.out.below (Below.refl _ _).drew)
    have N3_9 := Lib.hid (N3_8.out.below (Below.refl _ _).drew)
    have N4_9 := Lib.hid (N4_8.out.below (Below.refl _ _).drew)
    have N5_9 := Lib.hid (N5_8.out.below (Below.refl _ _).drew)
    refine wp_region_held_drew (S := fun V => Has V g3 27 (Fc.stateC a) ∧ Has V g4 27 (Fc.stateC b) ∧ Has V g5 27 (Fc.stateC c) ∧ Has V g7 27 (Fc.stateC s1)) (by kernel_rfl) ⟨X_9.out, Y_9.out, Z_9.out, V_9.out⟩ (fun hHeld => ?_)
    clear HI_8 X_8 Y_8 Z_8 V_8 N1_8 N2_8 N3_8 N4_8 N5_8
    refine Vc.wpAnyH_read (i := 0) (d := some 35) (v := ?v1012) (by rfl) (by rfl) (by kernel_rfl) (by kernel_rfl) (by kernel_rfl) (fun _ _ _ h => h) (by rfl) ?hy1012 (by assumption) ?rest1012
    case hy1012 =>
      intro w hSw
      try dsimp only at hSw
      go_simp
      try with_reducible rfl
    try simp only [Act.put, List.setIfInBounds_toArray, List.set_cons_zero, List.set_cons_succ]
    refine Vc.wpAnyH_read (i := 1) (d := some 36) (v := ?v1013) (by rfl) (by rfl) (by kernel_rfl) (by kernel_rfl) (by kernel_rfl) (fun _ _ _ h => h) (by rfl) ?hy1013 (by assumption) ?rest1013
    case hy1013 =>
      intro w hSw
      try dsimp only at hSw
      go_simp
      try with_reducible rfl
    try simp only [Act.put, List.setIfInBounds_toArray, List.set_cons_zero, List.set_cons_succ]
    refine Vc.wpAnyH_read (i := 2) (d := some 37) (v := .agg (Fc.stateC s1)) (by rfl) (by rfl) (by kernel_rfl) (by kernel_rfl) (by kernel_rfl) (fun _ _ _ h => h) (by rfl) ?hy1014 (by assumption) ?rest1014
    case hy1014 =>
      intro w hSw
      exact Who.exec_loadA _ rfl rfl (Who.has_range hSw.2.2.2) Tryz.underlying27 rfl info_state
    try simp only [Act.put, List.setIfInBounds_toArray, List.set_cons_zero, List.set_cons_succ]
    refine Vc.wpAnyH_read (i := 3) (d := some 38) (v := .agg (Fc.stateC s1)) (by rfl) (by rfl) (by kernel_rfl) (by kernel_rfl) (by kernel_rfl) (fun _ _ _ h => h) (by rfl) ?hy1015 (by assumption) ?rest1015
    case hy1015 =>
      intro w hSw
      exact Who.exec_loadA _ rfl rfl (Who.has_range hSw.2.2.2) Tryz.underlying27 rfl info_state
    try simp only [Act.put, List.setIfInBounds_toArray, List.set_cons_zero, List.set_cons_succ]
    refine Vc.wpAnyH_read (i := 5) (d := some 40) (v := .agg (Fc.stateC s1)) (by rfl) (by rfl) (by kernel_rfl) (by kernel_rfl) (by kernel_rfl) (fun _ _ _ h => h) (by rfl) ?hy1016 (by assumption) ?rest1016
    case hy1016 =>
      intro w hSw
      exact Who.exec_loadA _ rfl rfl (Who.has_range hSw.2.2.2) Tryz.underlying27 rfl info_state
    try simp only [Act.put, List.setIfInBounds_toArray, List.set_cons_zero, List.set_cons_succ]
    refine wpAnyH_ready (rs := [4]) (by kernel_rfl) (by simp) ?_
    refine AllReadyH.cons rfl (fun K hK => ?_) AllReadyH.nil
    go_simp
    go_at_call 14
    refine (states_any s1 s1 _ (N1_9.out) (N1_9.out) (LimS.mono HL1.out (show _ ≤ 150000 by decide)) (LimS.mono HL1.out (show _ ≤ 150000 by decide)) (by decide)).mono ?_
    rintro e w20 ⟨s6, rfl, hp, ho, hb⟩
    have HP6 := Lib.hid hp
    have HL6 := Lib.hid ((limS_join (N1_9.out) (N1_9.out) HL1.out HL1.out ho.in_ hp).mono (show _ ≤ 200000 by decide))
    have hn6 := Lib.hid ho.in_
    have HI_10 := Lib.hid (HI_9.out.trans (hb.mono HI_9.out.size))
    have X_10 := Lib.hid (X_9.out.below hb)
    have Y_10 := Lib.hid (Y_9.out.below hb)
    have Z_10 := Lib.hid (Z_9.out.below hb)
    have V_10 := Lib.hid (V_9.out.below hb)
    have N1_10 := Lib.hid (N1_9.out.below hb)
    have N2_10 := Lib.hid (N2_9.out.below hb)
    have N3_10 := Lib.hid (N3_9.out.below hb)
    have N4_10 := Lib.hid (N4_9.out.below hb)
    have N5_10 := Lib.hid (N5_9.out.below hb)
    have N6_10 := Lib.hid hn6.out
    clear hp ho hb hn6 HI_9 X_9 Y_9 Z_9 V_9 N1_9 N2_9 N3_9 N4_9 N5_9
    refine hK.out _ _ ⟨X_10.out, Y_10.out, Z_10.out, V_10.out⟩ (fun hHeld => ?_)
    clear hK K
    try simp only [Act.put, List.setIfInBounds_toArray, List.set_cons_zero, List.set_cons_succ]
    refine wpAnyH_ready (rs := [6]) (by kernel_rfl) (by simp) ?_
    refine AllReadyH.cons rfl (fun K hK => ?_) AllReadyH.nil
    go_simp
    go_at_call 19
    refine (Fc.same_any s6 s1 _ (row_in (N6_10.out) HL6.out (by decide)) (row_in (N1_10.out) HL1.out (by decide))).mono ?_
    rintro e w21 ⟨⟨bb, rfl, hbb⟩, hb⟩
    obtain rfl : bb = true := hbb.2 (same_yes (by rw [HP6.out, HP1.out, joinP_twice]))
    have HI_11 := Lib.hid (HI_10.out.trans (hb.mono HI_10.out.size))
    have X_11 := Lib.hid (X_10.out.below hb)
    have Y_11 := Lib.hid (Y_10.out.below hb)
    have Z_11 := Lib.hid (Z_10.out.below hb)
    have V_11 := Lib.hid (V_10.out.below hb)
    have N1_11 := Lib.hid (N1_10.out.below hb)
    have N2_11 := Lib.hid (N2_10.out.below hb)
    have N3_11 := Lib.hid (N3_10.out.below hb)
    have N4_11 := Lib.hid (N4_10.out.below hb)
    have N5_11 := Lib.hid (N5_10.out.below hb)
    have N6_11 := Lib.hid (N6_10.out.below hb)
    clear hbb hb HI_10 X_10 Y_10 Z_10 V_10 N1_10 N2_10 N3_10 N4_10 N5_10 N6_10
    refine hK.out _ _ ⟨X_11.out, Y_11.out, Z_11.out, V_11.out⟩ (fun hHeld => ?_)
    clear hK K
    try simp only [Act.put, List.setIfInBounds_toArray, List.set_cons_zero, List.set_cons_succ]
    refine Vc.wpAnyH_read (i := 7) (d := some 42) (v := ?v1017) (by rfl) (by rfl) (by kernel_rfl) (by kernel_rfl) (by kernel_rfl) (fun _ _ _ h => h) (by rfl) ?hy1017 (by assumption) ?rest1017
    case hy1017 =>
      intro w hSw
      try dsimp only at hSw
      go_simp
      try with_reducible rfl
    try simp only [Act.put, List.setIfInBounds_toArray, List.set_cons_zero, List.set_cons_succ]
    refine Vc.wpAnyH_read (i := 8) (d := some 43) (v := ?v1018) (by rfl) (by rfl) (by kernel_rfl) (by kernel_rfl) (by kernel_rfl) (fun _ _ _ h => h) (by rfl) ?hy1018 (by assumption) ?rest1018
    case hy1018 =>
      intro w hSw
      try dsimp only at hSw
      go_simp
      try with_reducible rfl
    try simp only [Act.put, List.setIfInBounds_toArray, List.set_cons_zero, List.set_cons_succ]
    refine Vc.wpAnyH_read (i := 9) (d := some 44) (v := .agg (Fc.stateC s1)) (by rfl) (by rfl) (by kernel_rfl) (by kernel_rfl) (by kernel_rfl) (fun _ _ _ h => h) (by rfl) ?hy1019 (by assumption) ?rest1019
    case hy1019 =>
      intro w hSw
      exact Who.exec_loadA _ rfl rfl (Who.has_range hSw.2.2.2) Tryz.underlying27 rfl info_state
    try simp only [Act.put, List.setIfInBounds_toArray, List.set_cons_zero, List.set_cons_succ]
    refine Vc.wpAnyH_read (i := 10) (d := some 45) (v := .agg (Fc.stateC a)) (by rfl) (by rfl) (by kernel_rfl) (by kernel_rfl) (by kernel_rfl) (fun _ _ _ h => h) (by rfl) ?hy1020 (by assumption) ?rest1020
    case hy1020 =>
      intro w hSw
      exact Who.exec_loadA _ rfl rfl (Who.has_range hSw.1) Tryz.underlying27 rfl info_state
    try simp only [Act.put, List.setIfInBounds_toArray, List.set_cons_zero, List.set_cons_succ]
    refine Vc.wpAnyH_read (i := 12) (d := some 47) (v := .agg (Fc.stateC s1)) (by rfl) (by rfl) (by kernel_rfl) (by kernel_rfl) (by kernel_rfl) (fun _ _ _ h => h) (by rfl) ?hy1021 (by assumption) ?rest1021
    case hy1021 =>
      intro w hSw
      exact Who.exec_loadA _ rfl rfl (Who.has_range hSw.2.2.2) Tryz.underlying27 rfl info_state
    try simp only [Act.put, List.setIfInBounds_toArray, List.set_cons_zero, List.set_cons_succ]
    refine wpAnyH_ready (rs := [11]) (by kernel_rfl) (by simp) ?_
    refine AllReadyH.cons rfl (fun K hK => ?_) AllReadyH.nil
    go_simp
    go_at_call 14
    refine (states_any s1 a _ (N1_11.out) (HIA.out _ HI_11.out) (LimS.mono HL1.out (show _ ≤ 150000 by decide)) (LimS.mono HLA.out (show _ ≤ 150000 by decide)) (by decide)).mono ?_
    rintro e w22 ⟨s7, rfl, hp, ho, hb⟩
    have HP7 := Lib.hid hp
    have HL7 := Lib.hid ((limS_join (N1_11.out) (HIA.out _ HI_11.out) HL1.out HLA.out ho.in_ hp).mono (show _ ≤ 200000 by decide))
    have hn7 := Lib.hid ho.in_
    have HI_12 := Lib.hid (HI_11.out.trans (hb.mono HI_11.out.size))
    have X_12 := Lib.hid (X_11.out.below hb)
    have Y_12 := Lib.hid (Y_11.out.below hb)
    have Z_12 := Lib.hid (Z_11.out.below hb)
    have V_12 := Lib.hid (V_11.out.below hb)
    have N1_12 := Lib.hid (N1_11.out.below hb)
    have N2_12 := Lib.hid (N2_11.out.below hb)
    have N3_12 := Lib.hid (N3_11.out.below hb)
    have N4_12 := Lib.hid (N4_11.out.below hb)
    have N5_12 := Lib.hid (N5_11.out.below hb)
    have N6_12 := Lib.hid (N6_11.out.below hb)
    have N7_12 := Lib.hid hn7.out
    clear hp ho hb hn7 HI_11 X_11 Y_11 Z_11 V_11 N1_11 N2_11 N3_11 N4_11 N5_11 N6_11
    refine hK.out _ _ ⟨X_12.out, Y_12.out, Z_12.out, V_12.out⟩ (fun hHeld => ?_)
    clear hK K
    try simp only [Act.put, List.setIfInBounds_toArray, List.set_cons_zero, List.set_cons_succ]
    refine wpAnyH_ready (rs := [13]) (by kernel_rfl) (by simp) ?_
    refine AllReadyH.cons rfl (fun K hK => ?_) AllReadyH.nil
    go_simp
    go_at_call 19
    refine (Fc.same_any s7 s1 _ (row_in (N7_12.out) HL7.out (by decide)) (row_in (N1_12.out) HL1.out (by decide))).mono ?_
    rintro e w23 ⟨⟨bb, rfl, hbb⟩, hb⟩
    obtain rfl : bb = true := hbb.2 (same_yes (by rw [HP7.out, HP1.out, joinP_again]))
    have HI_13 := Lib.hid (HI_12.out.trans (hb.mono HI_12.out.size))
    have X_13 := Lib.hid (X_12.out.below hb)
    have Y_13 := Lib.hid (Y_12.out.below hb)
    have Z_13 := Lib.hid (Z_12.out.below hb)
    have V_13 := Lib.hid (V_12.out.below hb)
    have N1_13 := Lib.hid (N1_12.out.below hb)
    have N2_13 := Lib.hid (N2_12.out.below hb)
    have N3_13 := Lib.hid (N3_12.out.below hb)
    have N4_13 := Lib.hid (N4_12.out.below hb)
    have N5_13 := Lib.hid (N5_12.out.below hb)
    have N6_13 := Lib.hid (N6_12.out.below hb)
    have N7_13 := Lib.hid (N7_12.out.below hb)
    clear hbb hb HI_12 X_12 Y_12 Z_12 V_12 N1_12 N2_12 N3_12 N4_12 N5_12 N6_12 N7_12
    refine hK.out _ _ ⟨X_13.out, Y_13.out, Z_13.out, V_13.out⟩ (fun hHeld => ?_)
    clear hK K
    try simp only [Act.put, List.setIfInBounds_toArray, List.set_cons_zero, List.set_cons_succ]
    refine Vc.wpAnyH_read (i := 14) (d := some 49) (v := ?v1022) (by rfl) (by rfl) (by kernel_rfl) (by kernel_rfl) (by kernel_rfl) (fun _ _ _ h => h) (by rfl) ?hy1022 (by assumption) ?rest1022
    case hy1022 =>
      intro w hSw
      try dsimp only at hSw
      go_simp
      try with_reducible rfl
    try simp only [Act.put, List.setIfInBounds_toArray, List.set_cons_zero, List.set_cons_succ]
    refine Vc.wpAnyH_read (i := 15) (d := some 50) (v := ?v1023) (by rfl) (by rfl) (by kernel_rfl) (by kernel_rfl) (by kernel_rfl) (fun _ _ _ h => h) (by rfl) ?hy1023 (by assumption) ?rest1023
    case hy1023 =>
      intro w hSw
      try dsimp only at hSw
      go_simp
      try with_reducible rfl
    try simp only [Act.put, List.setIfInBounds_toArray, List.set_cons_zero, List.set_cons_succ]
    refine wpAnyH_ready (rs := [16]) (by kernel_rfl) (by simp) ?_
    refine AllReadyH.cons rfl (fun K hK => ?_) AllReadyH.nil
    go_simp
    go_at_call 12
    refine (awake_any _).mono ?_
    rintro e w24 ⟨rfl, hb⟩
    have HI_14 := Lib.hid (HI_13.out.trans (hb.mono HI_13.out.size))
    have X_14 := Lib.hid (X_13.out.below hb)
    have Y_14 := Lib.hid (Y_13.out.below hb)
    have Z_14 := Lib.hid (Z_13.out.below hb)
    have V_14 := Lib.hid (V_13.out.below hb)
    have N1_14 := Lib.hid (N1_13.out.below hb)
    have N2_14 := Lib.hid (N2_13.out.below hb)
    have N3_14 := Lib.hid (N3_13.out.below hb)
    have N4_14 := Lib.hid (N4_13.out.below hb)
    have N5_14 := Lib.hid (N5_13.out.below hb)
    have N6_14 := Lib.hid (N6_13.out.below hb)
    have N7_14 := Lib.hid (N7_13.out.below hb)
    clear hb HI_13 X_13 Y_13 Z_13 V_13 N1_13 N2_13 N3_13 N4_13 N5_13 N6_13 N7_13
    refine hK.out _ _ ⟨X_14.out, Y_14.out, Z_14.out, V_14.out⟩ (fun hHeld => ?_)
    clear hK K
    try simp only [Act.put, List.setIfInBounds_toArray, List.set_cons_zero, List.set_cons_succ]
    refine Vc.wpAnyH_read (i := 17) (d := some 52) (v := ?v1024) (by rfl) (by rfl) (by kernel_rfl) (by kernel_rfl) (by kernel_rfl) (fun _ _ _ h => h) (by rfl) ?hy1024 (by assumption) ?rest1024
    case hy1024 =>
      intro w hSw
      try dsimp only at hSw
      go_simp
      try with_reducible rfl
    try simp only [Act.put, List.setIfInBounds_toArray, List.set_cons_zero, List.set_cons_succ]
    refine Vc.wpAnyH_read (i := 18) (d := some 6) (v := ?v1025) (by rfl) (by rfl) (by kernel_rfl) (by kernel_rfl) (by kernel_rfl) (fun _ _ _ h => h) (by rfl) ?hy1025 (by assumption) ?rest1025
    case hy1025 =>
      intro w hSw
      try dsimp only at hSw
      go_simp
      try with_reducible rfl
    try simp only [Act.put, List.setIfInBounds_toArray, List.set_cons_zero, List.set_cons_succ]
    refine wpAnyH_done (by kernel_rfl) ?_ _
    go_wp2
    go_ret
    exact ⟨rfl, HI_14.out⟩
end Go.Proofs.YtblogecapegbmaaGreat.Jn
