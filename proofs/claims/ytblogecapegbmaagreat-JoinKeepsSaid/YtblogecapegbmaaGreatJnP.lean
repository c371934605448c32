/- Join: pruning, at the example. -/
import Derived.Test.YtblogecapegbmaaGreatJnO
namespace Go.Proofs.YtblogecapegbmaaGreat.Jn
open Go.RowKit Go.Proofs.YtblogecapegbmaaGreat.Mem
open Go.Proofs.YtblogecapegbmaaGreat.Vc (joinV meetV vecC stC)
set_option linter.unusedVariables false set_option linter.unusedSimpArgs false

theorem enters {P : Program} {f : FuncId} {fn : Func} {c : Code} (hf : P.funcs[f]? = some fn) (hname : (fn.name == "runtime.NumGoroutine") = false) (hb : fn.body = some c) (args : Array Value) (V : World) : (callFunc f args).run P V = .ok (.enter f args) V := by
 have h2 : ¬ fn.name = "runtime.NumGoroutine" := by simpa using hname
 simp [callFunc, go_sem, hf, h2, hb]
set_option maxRecDepth 100000 in
set_option maxHeartbeats 2000000 in
theorem index_ex (nm : ByteArray) (A1 : Option Addr) (g c1 b c2 mb bb sb : Nat) (w W : World) (hI : LdI w W g mb bb sb A1 c1 b c2 nm) : Calls Tryz.prog 102 #[.slice (some ⟨b, 0, none⟩) 1 c2, .func (.func 61) #[.pointer (some ⟨g, 0, none⟩)] #[]] W fun e W' => e = .returned (.int .i64 (-1)) ∧ Below W.heap.size W W' := by
 have HI0 := Lib.hid hI
 have hcf := fun args V => enters (P := Tryz.prog) (f := 61) Tryz.func61 (by rfl) (by rfl) args V
 clear hI
 go_enter Tryz.func102, Tryz.ntmps102
 go_wp2
 go_loopw [8] (fun i wr => ∃ j : Nat, i = .int .i64 j ∧ j ≤ 1 ∧ Hid (Below W.heap.size W wr)) (fun i _ => 1 - (intOf i).toNat)
 case atStart => exact ⟨0, rfl, Nat.zero_le _, Lib.hid (Below.refl _ _)⟩
 case round =>
  obtain ⟨j, rfl, hj, HB⟩ := hrel
  rcases Nat.eq_zero_or_pos j with hj0 | hj0
  ·subst hj0
   have HI := Lib.hid (HI0.out.low HB.out)
   have HZ := Lib.hid (moved_ex nm A1 g c1 b c2 mb bb sb wr HI.out.hp)
   go_wp2_with (first | ((with_reducible refine Who.wpList_loadC 51 (.tmp 14) rfl (b) 0 (dC nm) ?_); refine And.intro ⟨by rfl, by rfl, ⟨_, Tryz.underlying51, rfl⟩, info_link⟩ (And.intro (HI.out.row) ?_); (try simp only [Act.put, List.setIfInBounds_toArray, List.set_cons_zero, List.set_cons_succ])) | fail)
   refine HZ.out.mono ?_
   rintro e w2 ⟨rfl, hb⟩
   have HB2 := Lib.hid (HB.out.trans (hb.mono HB.out.size))
   clear hb HZ hj
   go_wp2
   go_roundw
   case rel => exact ⟨1, by go_num, by omega, HB2⟩
   case measure => simp [intOf]
  ·obtain rfl : 1 = j := by omega
   go_wp2
   go_ret
   exact ⟨rfl, HB.out⟩
set_option maxRecDepth 100000 in
theorem contains_ex (nm : ByteArray) (A1 : Option Addr) (g c1 b c2 mb bb sb : Nat) (w W : World) (hI : LdI w W g mb bb sb A1 c1 b c2 nm) : Calls Tryz.prog 60 #[.slice (some ⟨b, 0, none⟩) 1 c2, .func (.func 61) #[.pointer (some ⟨g, 0, none⟩)] #[]] W fun e W' => e = .returned (.bool false) ∧ Below W.heap.size W W' := by
 have HI := Lib.hid (index_ex nm A1 g c1 b c2 mb bb sb w W hI)
 clear hI
 go_enter Tryz.func60, Tryz.ntmps60
 go_wp2_with fail
 refine HI.out.mono ?_
 rintro e w2 ⟨rfl, hb⟩
 have HB := Lib.hid hb
 clear hb
 go_wp2
 go_ret
 exact ⟨rfl, HB.out⟩
def eC : Array Value := #[.int .i64 2, .int .i64 0, .int .i64 0, .int .i64 0, .int .i64 0, .int .i64 0, .int .i64 0, .int .i64 0, .slice none 0 0, .slice none 0 0]
theorem build_e (w : World) : (Instr.build 27 #[(0, .agg v2C)]).run Tryz.prog w = .ok (.agg eC) w := run_build w _ _ _ (by kernel_rfl)
theorem one_e : eC.all (·.oneCell') = true := by simp [eC, Value.oneCell']
set_option maxRecDepth 100000 in
set_option maxHeartbeats 4000000 in
theorem left_ex (nm : ByteArray) (A1 : Option Addr) (g c1 b c2 mb bb sb : Nat) (w W : World) (hI : LdI w W g mb bb sb A1 c1 b c2 nm) : Calls Tryz.prog 64 #[.pointer (some ⟨g, 0, none⟩)] W fun e W' => e = .returned (.agg eC) ∧ Below W.heap.size W W' := by
 have HI0 := Lib.hid hI
 have HB1 := Lib.hid ((Below.refl W.heap.size W).alloc (Nat.le_refl _) (.cells zeroS 27))
 have HI1 := Lib.hid (hI.low HB1.out)
 have HS1 := Lib.hid (Has.fresh W 27 zeroS)
 have HB2 := Lib.hid (HB1.out.alloc (by simp) (.cells zeroS 27))
 have HS2 := Lib.hid (HS1.out.past (.cells zeroS 27))
 have h3 : Has ((W.alloc (.cells zeroS 27)).alloc (.cells zeroS 27)) (W.heap.size + 1) 27 zeroS := by have q := Has.fresh (W.alloc (.cells zeroS 27)) 27 zeroS; rw [World.size_alloc] at q; exact q
 have HS3 := Lib.hid h3
 have hmm := @run_makeMap Tryz.prog
 clear hI h3
 go_enter Tryz.func64, Tryz.ntmps64
 go_wp2_with (first | ((with_reducible refine Who.wpList_alloc 27 2 rfl rfl rfl (zeroS) allocS ?_); (try simp only [Act.put, List.setIfInBounds_toArray, List.set_cons_zero, List.set_cons_succ]); (try simp only [World.size_alloc])) | ((with_reducible refine Who.wpList_loadC 23 (.tmp 12) rfl (g) 0 (#[.int .i64 2, .int .i64 0, .int .i64 0, .int .i64 0, .int .i64 0, .int .i64 0, .int .i64 0, .int .i64 0]) ?_); refine And.intro ⟨by rfl, by rfl, ⟨_, Tryz.underlying23, rfl⟩, info_vec⟩ (And.intro (pr_seen HI1.out.hp) ?_); (try simp only [Act.put, List.setIfInBounds_toArray, List.set_cons_zero, List.set_cons_succ])) | ((with_reducible refine Who.wpList_alloc 27 3 rfl rfl rfl (zeroS) allocS ?_); (try simp only [Act.put, List.setIfInBounds_toArray, List.set_cons_zero, List.set_cons_succ]); (try simp only [World.size_alloc])) | ((with_reducible refine wpList_storeG 27 (.tmp 3) (.tmp 14) rfl (W.heap.size + 1) (zeroS) (eC) ?_); refine And.intro ⟨rfl, by rfl, by rfl, info_state, one_e, rfl, HS3.out⟩ ?_; intro W4 HX4 HC4; (try simp only [Act.put, List.setIfInBounds_toArray, List.set_cons_zero, List.set_cons_succ]); have HB4 := Lib.hid ((below_step HB2.out HC4.out (by omega)).alloc (below_step HB2.out HC4.out (by omega)).size (.map #[] 0)); have HI4 := Lib.hid (HI0.out.low HB4.out); have c9 : (W4.alloc (.map #[] 0)).cell? ⟨g, 9, none⟩ = some (.slice (some ⟨b, 0, none⟩) 1 c2) := HI4.out.hp.at_ 9) | fail)
 have HE4 := Lib.hid (show Has (W4.alloc (.map #[] 0)) (W.heap.size + 1) 27 eC from HX4.out.past _)
 have HZ4 := Lib.hid (show Has (W4.alloc (.map #[] 0)) W.heap.size 27 zeroS from (HS2.out.over HC4.out (by omega)).past _)
 clear c9 HX4 HC4 HB1 HI1 HS1 HB2 HS2 HS3 HI4
 go_loopw [22] (fun i wr => ∃ j : Nat, i = .int .i64 j ∧ j ≤ 1 ∧ Hid (Below W.heap.size W wr) ∧ Hid (Has wr (W.heap.size + 1) 27 eC) ∧ Hid (Has wr W.heap.size 27 zeroS)) (fun i _ => 1 - (intOf i).toNat)
 case atStart => exact ⟨0, rfl, Nat.zero_le _, HB4, HE4, HZ4⟩
 case round =>
  clear HB4 HE4 HZ4
  obtain ⟨j, rfl, hj, HB, HE, HZ⟩ := hrel
  have HI := Lib.hid (HI0.out.low HB.out)
  rcases Nat.eq_zero_or_pos j with hj0 | hj0
  ·subst hj0
   have HN := Lib.hid (Has.fresh wr 51 zeroL)
   have HBA := Lib.hid ((Below.refl wr.heap.size wr).alloc (Nat.le_refl _) (.cells zeroL 51))
   go_wp2_with (first | ((with_reducible refine Who.wpList_loadC 51 (.tmp 25) rfl (b) 0 (dC nm) ?_); refine And.intro ⟨by rfl, by rfl, ⟨_, Tryz.underlying51, rfl⟩, info_link⟩ (And.intro (HI.out.row) ?_); (try simp only [Act.put, List.setIfInBounds_toArray, List.set_cons_zero, List.set_cons_succ])) | ((with_reducible refine Who.wpList_alloc 51 6 rfl rfl rfl (zeroL) allocL ?_); (try simp only [Act.put, List.setIfInBounds_toArray, List.set_cons_zero, List.set_cons_succ]); (try simp only [World.size_alloc])) | ((with_reducible refine wpList_storeG 51 (.tmp 6) (.tmp 26) rfl (wr.heap.size) (zeroL) (dC nm) ?_); refine And.intro ⟨rfl, by rfl, by rfl, info_link, one_d nm, rfl, HN.out⟩ ?_; intro W6 HX6 HC6; (try simp only [Act.put, List.setIfInBounds_toArray, List.set_cons_zero, List.set_cons_succ]); have HBW := Lib.hid (below_step HBA.out HC6.out (Nat.le_refl _)); have HI6 := Lib.hid (HI.out.low HBW.out); have c20 : W6.cell? ⟨g, 20, none⟩ = some (.slice (some ⟨sb, 0, none⟩) 1 1) := HI6.out.hp.at_ 20; have c0 : W6.cell? ⟨sb, 0, none⟩ = some (.bool false) := HI6.out.hs.at_ 0) | fail)
   have HB6 := Lib.hid (HB.out.trans (HBW.out.mono HB.out.size))
   have HE6 := Lib.hid (HE.out.below HBW.out)
   have HZ6 := Lib.hid (HZ.out.below HBW.out)
   clear c20 c0 HX6 HC6 HBW HI6 hj
   try go_wp2
   go_roundw
   case rel => exact ⟨1, by go_num, by omega, HB6, HE6, HZ6⟩
   case measure => simp [intOf]
  ·obtain rfl : 1 = j := by omega
   have c8 : wr.cell? ⟨g, 8, none⟩ = some (.slice A1 0 c1) := HI.out.hp.at_ 8
   go_wp2
   clear c8 HI
   go_loopw [54] (fun i wr => i = .int .i64 0 ∧ Hid (Below W.heap.size W wr) ∧ Hid (Has wr (W.heap.size + 1) 27 eC) ∧ Hid (Has wr W.heap.size 27 zeroS)) (fun i _ => 0)
   case atStart => exact ⟨rfl, HB, HE, HZ⟩
   case round =>
    clear HB HE HZ
    obtain ⟨rfl, HB, HE, HZ⟩ := hrel
    go_wp2_with (first | ((with_reducible refine Who.wpList_loadC 27 (.tmp 3) rfl (W.heap.size + 1) 0 (eC) ?_); refine And.intro ⟨by rfl, by rfl, ⟨_, Tryz.underlying27, rfl⟩, info_state⟩ (And.intro (Who.has_range HE.out) ?_); (try simp only [Act.put, List.setIfInBounds_toArray, List.set_cons_zero, List.set_cons_succ])) | ((with_reducible refine wpList_storeG 27 (.tmp 2) (.tmp 88) rfl (W.heap.size) (zeroS) (eC) ?_); refine And.intro ⟨rfl, by rfl, by rfl, info_state, one_e, rfl, HZ.out⟩ ?_; intro W9 HX9 HC9; (try simp only [Act.put, List.setIfInBounds_toArray, List.set_cons_zero, List.set_cons_succ])) | fail)
    have HB9 := Lib.hid (below_step HB.out HC9.out (Nat.le_refl _))
    refine bodyPost_ret (v := .agg eC) (Who.results_cell (p := 2) (t := 27) rfl _ _ W.heap.size 0 eC _ (by rfl) (Who.has_range HX9.out) Tryz.underlying27 rfl info_state) rfl ?_
    exact ⟨rfl, HB9.out⟩
theorem sC_seen {w : World} {g : Nat} {t : TypeId} {A1 : Option Addr} {c1 b c2 : Nat} (h : Has w g t (sC A1 c1 b c2)) : w.rangeAt g 0 v2C.toList := range_of h fun j hj => by
 match j, (show j < 8 from hj) with
 | 0, _ | 1, _ | 2, _ | 3, _ | 4, _ | 5, _ | 6, _ | 7, _ => rfl
theorem alive_d (nm : ByteArray) (W : World) : Calls Tryz.prog 33 #[.agg (dC nm)] W fun e W' => e = .returned (.bool false) ∧ Below W.heap.size W W' := alive_any ⟨(1, 0), (1, 0), (1, 0), (0, 0), nm, v1, v2⟩ W
set_option maxRecDepth 100000 in
set_option maxHeartbeats 4000000 in
theorem prune_ex (nm : ByteArray) (A1 : Option Addr) (c1 b c2 : Nat) (w : World) (hrow : w.rangeAt b 0 (dC nm).toList) (hbd : b < w.heap.size) : Calls Tryz.prog 23 #[.agg (sC A1 c1 b c2), .agg v2C] w fun e w' => e = .returned (.agg eC) ∧ Below w.heap.size w w' := by
 have h2 := (Has.fresh w 27 (sC A1 c1 b c2)).past (.cells v2C 23)
 have h3 := Has.fresh (w.alloc (.cells (sC A1 c1 b c2) 27)) 23 v2C
 have h4 := Has.fresh ((w.alloc (.cells (sC A1 c1 b c2) 27)).alloc (.cells v2C 23)) 27 zeroS
 rw [World.size_alloc] at h3 h4
 rw [World.size_alloc] at h4
 have HB0 := Lib.hid ((((Below.refl w.heap.size w).alloc (Nat.le_refl _) (.cells (sC A1 c1 b c2) 27)).alloc (by simp) (.cells v2C 23)).alloc (by simp; omega) (.cells zeroS 27))
 obtain ⟨g2, hg2⟩ : ∃ g2, g2 = w.heap.size := ⟨_, rfl⟩
 obtain ⟨g3, hg3⟩ : ∃ g3, g3 = w.heap.size + 1 := ⟨_, rfl⟩
 obtain ⟨g4, hg4⟩ : ∃ g4, g4 = w.heap.size + 1 + 1 := ⟨_, rfl⟩
 rw [← hg2] at h2
 rw [← hg3] at h3
 rw [← hg4] at h4
 have HX0 := Lib.hid (h2.past (.cells zeroS 27))
 have HY0 := Lib.hid (h3.past (.cells zeroS 27))
 have HZ0 := Lib.hid h4
 have HG2 := Lib.hid hg2
 have HG3 := Lib.hid hg3
 have HG4 := Lib.hid hg4
 have HL4 := Lib.hid (show w.heap.size ≤ g4 by omega)
 have HR0 := Lib.hid hrow
 have HBD := Lib.hid hbd
 clear h2 h3 h4 hg2 hg3 hg4 hrow hbd
 go_enter Tryz.func23, Tryz.ntmps23
 go_wp2_with (first | ((with_reducible refine Who.wpList_alloc 27 4 rfl rfl rfl (zeroS) allocS ?_); (try simp only [Act.put, List.setIfInBounds_toArray, List.set_cons_zero, List.set_cons_succ]); (try simp only [World.size_alloc])) | fail)
 rw [← HG4.out, ← HG3.out, ← HG2.out]
 refine wp_region_held_drew (S := fun V => Has V g2 27 (sC A1 c1 b c2) ∧ Has V g3 23 v2C) (by kernel_rfl) ⟨HX0.out.drew, HY0.out.drew⟩ (fun hHeld => ?_)
 have HI_0 := Lib.hid HB0.out.drew
 have HX_0 := Lib.hid HX0.out.drew
 have HY_0 := Lib.hid HY0.out.drew
 have HZ_0 := Lib.hid HZ0.out.drew
 refine Vc.wpAnyH_rd (i := 0) (d := some 9) (v := .agg (sC A1 c1 b c2)) ?hy1 ?rest1
 case hy1 =>
  intro w hSw
  exact Who.exec_loadA _ rfl rfl (Who.has_range hSw.1) Tryz.underlying27 rfl info_state
 try simp only [Act.put, List.setIfInBounds_toArray, List.set_cons_zero, List.set_cons_succ]
 refine Vc.wpAnyH_rd (i := 1) (d := some 10) (v := ?v2) ?hy2 ?rest2
 case hy2 =>
  intro w hSw
  try dsimp only at hSw
  go_simp
  try with_reducible rfl
 try simp only [Act.put, List.setIfInBounds_toArray, List.set_cons_zero, List.set_cons_succ]
 refine Vc.wpAnyH_rd (i := 2) (d := some 11) (v := .agg v2C) ?hy3 ?rest3
 case hy3 =>
  intro w hSw
  exact Who.exec_loadA _ rfl rfl (sC_seen hSw.1) Tryz.underlying23 rfl info_vec
 try simp only [Act.put, List.setIfInBounds_toArray, List.set_cons_zero, List.set_cons_succ]
 refine Vc.wpAnyH_rd (i := 3) (d := some 12) (v := .agg v2C) ?hy4 ?rest4
 case hy4 =>
  intro w hSw
  exact Who.exec_loadA _ rfl rfl (Who.has_range hSw.2) Tryz.underlying23 rfl info_vec
 try simp only [Act.put, List.setIfInBounds_toArray, List.set_cons_zero, List.set_cons_succ]
 refine wpAnyH_ready (rs := [4]) (by kernel_rfl) (by simp) ?_
 refine AllReadyH.cons rfl (fun K hK => ?_) AllReadyH.nil
 go_simp
 go_at_call 59
 refine (meet22 _).mono ?_
 rintro e W1 ⟨rfl, hb⟩
 have HI_1 := Lib.hid (HI_0.out.trans (hb.mono HI_0.out.size))
 have HX_1 := Lib.hid (HX_0.out.below hb)
 have HY_1 := Lib.hid (HY_0.out.below hb)
 have HZ_1 := Lib.hid (HZ_0.out.below hb)
 clear hb
 refine hK.out _ _ ⟨HX_1.out, HY_1.out⟩ (fun hHeld => ?_)
 clear hK K
 try simp only [Act.put, List.setIfInBounds_toArray, List.set_cons_zero, List.set_cons_succ]
 refine wpAnyH_ready (rs := [5]) (by kernel_rfl) (by simp) ?_
 refine AllReadyH.cons rfl (fun K hK => ?_) AllReadyH.nil
 go_simp
 go_at_call 58
 refine (laid_ex nm A1 c1 b c2 W1 (Fc.row_range_below HR0.out HI_1.out HBD.out) (Nat.lt_of_lt_of_le HBD.out HI_1.out.size)).mono ?_
 rintro e W2 ⟨g, mb, bb, sb, rfl, hL⟩
 have HI_2 := Lib.hid (HI_1.out.trans (hL.below.mono HI_1.out.size))
 have HX_2 := Lib.hid (HX_1.out.below hL.below)
 have HY_2 := Lib.hid (HY_1.out.below hL.below)
 have HZ_2 := Lib.hid (HZ_1.out.below hL.below)
 have HLD := Lib.hid hL
 clear hL
 refine hK.out _ _ ⟨HX_2.out, HY_2.out⟩ (fun hHeld => ?_)
 clear hK K
 try simp only [Act.put, List.setIfInBounds_toArray, List.set_cons_zero, List.set_cons_succ]
 refine Vc.wpAnyH_rd (i := 6) (d := some 5) (v := ?v5) ?hy5 ?rest5
 case hy5 =>
  intro w hSw
  try dsimp only at hSw
  go_simp
  try with_reducible rfl
 try simp only [Act.put, List.setIfInBounds_toArray, List.set_cons_zero, List.set_cons_succ]
 refine wpAnyH_done (by kernel_rfl) ?_ _
 clear HX_0 HY_0 HZ_0 HI_0 HX_1 HY_1 HZ_1 HI_1 HX0 HY0 HZ0 HB0 HX_2 HY_2
 have c9 : W2.cell? ⟨g, 9, none⟩ = some (.slice (some ⟨b, 0, none⟩) 1 c2) := HLD.out.hp.at_ 9
 go_wp2_with fail
 refine (contains_ex nm A1 g c1 b c2 mb bb sb W1 W2 HLD.out).mono ?_
 rintro e W3 ⟨rfl, hb⟩
 clear c9
 have HI_3 := Lib.hid (HI_2.out.trans (hb.mono HI_2.out.size))
 have HZ_3 := Lib.hid (HZ_2.out.below hb)
 have HLD3 := Lib.hid (HLD.out.low hb)
 clear hb HI_2 HZ_2 HLD
 have c9 : W3.cell? ⟨g, 9, none⟩ = some (.slice (some ⟨b, 0, none⟩) 1 c2) := HLD3.out.hp.at_ 9
 go_wp2
 clear c9
 go_loopw [29] (fun i wr => ∃ j : Nat, i = .int .i64 j ∧ j ≤ 1 ∧ Hid (Below w.heap.size w wr) ∧ Hid (LdI W1 wr g mb bb sb A1 c1 b c2 nm) ∧ Hid (Has wr g4 27 zeroS)) (fun i _ => 1 - (intOf i).toNat)
 case atStart => exact ⟨0, rfl, Nat.zero_le _, HI_3, HLD3, HZ_3⟩
 case round =>
  clear HI_3 HLD3 HZ_3
  obtain ⟨j, rfl, hj, HB, HI, HZ⟩ := hrel
  rcases Nat.eq_zero_or_pos j with hj0 | hj0
  ·subst hj0
   have HN := Lib.hid (Has.fresh wr 51 zeroL)
   have HBA := Lib.hid ((Below.refl wr.heap.size wr).alloc (Nat.le_refl _) (.cells zeroL 51))
   obtain ⟨g8, hg8⟩ : ∃ g8, g8 = wr.heap.size := ⟨_, rfl⟩
   go_wp2_with (first | ((with_reducible refine Who.wpList_loadC 51 (.tmp 32) rfl (b) 0 (dC nm) ?_); refine And.intro ⟨by rfl, by rfl, ⟨_, Tryz.underlying51, rfl⟩, info_link⟩ (And.intro (HI.out.row) ?_); (try simp only [Act.put, List.setIfInBounds_toArray, List.set_cons_zero, List.set_cons_succ])) | ((with_reducible refine Who.wpList_alloc 51 8 rfl rfl rfl (zeroL) allocL ?_); (try simp only [Act.put, List.setIfInBounds_toArray, List.set_cons_zero, List.set_cons_succ]); (try simp only [World.size_alloc])) | ((with_reducible refine wpList_storeG 51 (.tmp 8) (.tmp 33) rfl (wr.heap.size) (zeroL) (dC nm) ?_); refine And.intro ⟨rfl, by rfl, by rfl, info_link, one_d nm, rfl, HN.out⟩ ?_; intro W6 HX6 HC6; (try simp only [Act.put, List.setIfInBounds_toArray, List.set_cons_zero, List.set_cons_succ])) | ((with_reducible refine Who.wpList_loadC 51 (.tmp 8) rfl (wr.heap.size) 0 (dC nm) ?_); refine And.intro ⟨by rfl, by rfl, ⟨_, Tryz.underlying51, rfl⟩, info_link⟩ (And.intro (Who.has_range HX6.out) ?_); (try simp only [Act.put, List.setIfInBounds_toArray, List.set_cons_zero, List.set_cons_succ])) | fail)
   have HBW := Lib.hid (below_step HBA.out HC6.out (Nat.le_refl _))
   have HI6 := Lib.hid (HI.out.low HBW.out)
   have HB6 := Lib.hid (HB.out.trans (HBW.out.mono HB.out.size))
   have HZ6 := Lib.hid (HZ.out.below HBW.out)
   rw [← hg8] at HX6
   rw [← hg8]
   clear HBW HC6 hj HBA HN HI HB HZ hg8
   refine (alive_d nm _).mono ?_
   rintro e W7 ⟨rfl, hb⟩
   have HI7 := Lib.hid (HI6.out.low hb)
   have HB7 := Lib.hid (HB6.out.trans (hb.mono HB6.out.size))
   have HZ7 := Lib.hid (HZ6.out.below hb)
   have HX7 := Lib.hid (HX6.out.below hb)
   clear hb HI6 HB6 HZ6 HX6
   go_wp2_with (first | ((with_reducible refine Who.wpList_loadC 51 (.tmp 8) rfl (g8) 0 (dC nm) ?_); refine And.intro ⟨by rfl, by rfl, ⟨_, Tryz.underlying51, rfl⟩, info_link⟩ (And.intro (Who.has_range HX7.out) ?_); (try simp only [Act.put, List.setIfInBounds_toArray, List.set_cons_zero, List.set_cons_succ])) | fail)
   refine (settled_ex nm A1 g c1 b c2 mb bb sb _ HI7.out.hp).mono ?_
   rintro e W8 ⟨rfl, hb⟩
   have HI8 := Lib.hid (HI7.out.low hb)
   have HB8 := Lib.hid (HB7.out.trans (hb.mono HB7.out.size))
   have HZ8 := Lib.hid (HZ7.out.below hb)
   clear hb HI7 HB7 HZ7 HX7
   go_wp2
   go_roundw
   case rel => exact ⟨1, by go_num, by omega, HB8, HI8, HZ8⟩
   case measure => simp [intOf]
  ·obtain rfl : 1 = j := by omega
   go_wp2_with fail
   refine (left_ex nm A1 g c1 b c2 mb bb sb W1 _ HI.out).mono ?_
   rintro e W8 ⟨rfl, hb⟩
   have HB8 := Lib.hid (HB.out.trans (hb.mono HB.out.size))
   have HZ8 := Lib.hid (HZ.out.below hb)
   clear hb HI HB HZ
   go_wp2_with (first | ((with_reducible refine wpList_storeG 27 (.tmp 4) (.tmp 51) rfl (g4) (zeroS) (eC) ?_); refine And.intro ⟨rfl, by rfl, by rfl, info_state, one_e, rfl, HZ8.out⟩ ?_; intro W9 HX9 HC9; (try simp only [Act.put, List.setIfInBounds_toArray, List.set_cons_zero, List.set_cons_succ])) | fail)
   have HB9 := Lib.hid (below_step HB8.out HC9.out HL4.out)
   refine bodyPost_ret (v := .agg eC) (Who.results_cell (p := 4) (t := 27) rfl _ _ g4 0 eC _ (by rfl) (Who.has_range HX9.out) Tryz.underlying27 rfl info_state) rfl ?_
   exact ⟨rfl, HB9.out⟩
end Go.Proofs.YtblogecapegbmaaGreat.Jn
