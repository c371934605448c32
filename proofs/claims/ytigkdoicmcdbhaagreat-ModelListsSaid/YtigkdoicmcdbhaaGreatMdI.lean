/- Model: the empty state with itself; what nothing makes. -/
import Derived.Test.YtigkdoicmcdbhaaGreatMdG
import Derived.Test.YtigkdoicmcdbhaaGreatFcQ
namespace Go.Proofs.YtigkdoicmcdbhaaGreat.Md
open Go.RowKit Go.Proofs.YtigkdoicmcdbhaaGreat.Mem
open Go.Proofs.YtigkdoicmcdbhaaGreat.Fc (PieceP XattrP LinkP NodeC pieceC xattrC linkC nodeC stateC)
open Go.Proofs.YtigkdoicmcdbhaaGreat.Sr (EOwn GrewE zeroS)
open Go.Proofs.YtigkdoicmcdbhaaGreat.Stab (EOut eown_nil eown_sl)
open Go.Proofs.YtigkdoicmcdbhaaGreat.Stl (IdxIs any_take any_hit isId filter_yes filter_no filter_len eown_below eown_mono)
open Go.Proofs.YtigkdoicmcdbhaaGreat.Vc (vecC stC eql_st neq_st)
set_option linter.unusedVariables false set_option linter.unusedSimpArgs false

set_option maxRecDepth 100000 in
set_option maxHeartbeats 4000000 in
theorem eqin_attr (w : World) : (Op.equalIn 10000 54 (.agg #[.int .i64 0, .int .i64 0, .int .i64 493, .int .u64 9223372036854775808]) (.agg #[.int .i64 0, .int .i64 0, .int .i64 493, .int .u64 9223372036854775808])).run Tryz.prog w = .ok true w := by
  have uqi := Tryz.underlying3
  have aqi := Tryz.isAgg3
  have zqi := Tryz.sizeOf3
  have uqu := Tryz.underlying52
  have aqu := Tryz.isAgg52
  have zqu := Tryz.sizeOf52
  have uqt := Tryz.underlying26
  have aqt := Tryz.isAgg26
  have zqt := Tryz.sizeOf26
  have hS : Tryz.prog.underlying 54 = some (.struct (Tryz.prog.fieldsOf 54)) := by kernel_rfl
  have hp : Tryz.prog.stoodInHeld 54 = false := by kernel_rfl
  have hS2 : Tryz.prog.underlying 26 = some (.struct (Tryz.prog.fieldsOf 26)) := by kernel_rfl
  have hp2 : Tryz.prog.stoodInHeld 26 = false := by kernel_rfl
  rw [show (10000 : Nat) = 9999 + 1 from rfl]
  rw [run_equalIn_agg w 9999 54 _ _ hS hp]
  simp only [Program.fieldsOf, Tryz.underlying54]
  go_simp
set_option maxRecDepth 100000 in
set_option maxHeartbeats 4000000 in
theorem eqin_size (w : World) : (Op.equalIn 10000 56 (.agg #[.int .i64 0, .int .i64 0, .int .i64 0]) (.agg #[.int .i64 0, .int .i64 0, .int .i64 0])).run Tryz.prog w = .ok true w := by
  have uqi := Tryz.underlying3
  have aqi := Tryz.isAgg3
  have zqi := Tryz.sizeOf3
  have uqu := Tryz.underlying52
  have aqu := Tryz.isAgg52
  have zqu := Tryz.sizeOf52
  have uqt := Tryz.underlying26
  have aqt := Tryz.isAgg26
  have zqt := Tryz.sizeOf26
  have hS : Tryz.prog.underlying 56 = some (.struct (Tryz.prog.fieldsOf 56)) := by kernel_rfl
  have hp : Tryz.prog.stoodInHeld 56 = false := by kernel_rfl
  have hS2 : Tryz.prog.underlying 26 = some (.struct (Tryz.prog.fieldsOf 26)) := by kernel_rfl
  have hp2 : Tryz.prog.stoodInHeld 26 = false := by kernel_rfl
  rw [show (10000 : Nat) = 9999 + 1 from rfl]
  rw [run_equalIn_agg w 9999 56 _ _ hS hp]
  simp only [Program.fieldsOf, Tryz.underlying56]
  go_simp
theorem eqp_nil (w : World) : Calls Tryz.prog 52 #[.slice none 0 0, .slice none 0 0] w fun e w' => e = .returned (.bool true) ∧ Below w.heap.size w w' := by
  go_enter Tryz.func52, Tryz.ntmps52
  go_wp2
  go_loopw [13] (fun i wr => i = .int .i64 0 ∧ Hid (Below w.heap.size w wr)) (fun _ _ => 0)
  case atStart => exact ⟨rfl, Lib.hid (Below.refl _ _)⟩
  case round =>
    obtain ⟨rfl, HB⟩ := hrel
    go_wp2
    go_ret
    exact ⟨rfl, HB.out⟩
theorem eqx_nil (w : World) : Calls Tryz.prog 53 #[.slice none 0 0, .slice none 0 0] w fun e w' => e = .returned (.bool true) ∧ Below w.heap.size w w' := by
  go_enter Tryz.func53, Tryz.ntmps53
  go_wp2
  go_loopw [13] (fun i wr => i = .int .i64 0 ∧ Hid (Below w.heap.size w wr)) (fun _ _ => 0)
  case atStart => exact ⟨rfl, Lib.hid (Below.refl _ _)⟩
  case round =>
    obtain ⟨rfl, HB⟩ := hrel
    go_wp2
    go_ret
    exact ⟨rfl, HB.out⟩
theorem eql_nil (w : World) : Calls Tryz.prog 41 #[.slice none 0 0, .slice none 0 0] w fun e w' => e = .returned (.bool true) ∧ Below w.heap.size w w' := by
  go_enter Tryz.func41, Tryz.ntmps41
  go_wp2
  go_loopw [13] (fun i wr => i = .int .i64 0 ∧ Hid (Below w.heap.size w wr)) (fun _ _ => 0)
  case atStart => exact ⟨rfl, Lib.hid (Below.refl _ _)⟩
  case round =>
    obtain ⟨rfl, HB⟩ := hrel
    go_wp2
    go_ret
    exact ⟨rfl, HB.out⟩
theorem root_at : ∀ j v, (#[.int .i64 0, .int .i64 0, .int .i64 493, .int .u64 9223372036854775808] : Array Value).toList[j]? = some v → (nodeC Fc.rootN)[4 + j]? = some v := fun j v hv => by
  match j, hv with
  | 0, hv => exact hv
  | 1, hv => exact hv
  | 2, hv => exact hv
  | 3, hv => exact hv
  | j + 4, hv => simp at hv
theorem root_sz : ∀ j v, (#[.int .i64 0, .int .i64 0, .int .i64 0] : Array Value).toList[j]? = some v → (nodeC Fc.rootN)[8 + j]? = some v := fun j v hv => by
  match j, hv with
  | 0, hv => exact hv
  | 1, hv => exact hv
  | 2, hv => exact hv
  | j + 3, hv => simp at hv
theorem seen0 (g : Nat) : ∀ j v, (vecC (fun _ => 0) : Array Value).toList[j]? = some v → (stateC (Fc.emptyS g))[0 + j]? = some v := Smr.rseen (s := Fc.emptyS g)
set_option maxRecDepth 100000 in
set_option maxHeartbeats 4000000 in
theorem sameroot_any (w : World) : Calls Tryz.prog 40 #[.agg (nodeC Fc.rootN), .agg (nodeC Fc.rootN)] w fun e w' => e = .returned (.bool true) ∧ Below w.heap.size w w' := by
  have HB0 := Lib.hid (((Below.refl w.heap.size w).alloc (Nat.le_refl _) (.cells (nodeC Fc.rootN) 60)).alloc (by simp) (.cells (nodeC Fc.rootN) 60))
  have HX := Lib.hid ((Has.fresh w 60 (nodeC Fc.rootN)).past (.cells (nodeC Fc.rootN) 60))
  have HY := Lib.hid (show Has ((w.alloc (.cells (nodeC Fc.rootN) 60)).alloc (.cells (nodeC Fc.rootN) 60)) (w.heap.size + 1) 60 (nodeC Fc.rootN) from freshAt 60 (nodeC Fc.rootN) (by simp))
  have cx2 : ((w.alloc (.cells (nodeC Fc.rootN) 60)).alloc (.cells (nodeC Fc.rootN) 60)).cell? ⟨w.heap.size, 2, none⟩ = some (.int .i64 2) := HX.out.at_ 2
  have cy2 : ((w.alloc (.cells (nodeC Fc.rootN) 60)).alloc (.cells (nodeC Fc.rootN) 60)).cell? ⟨w.heap.size + 1, 2, none⟩ = some (.int .i64 2) := HY.out.at_ 2
  have cx3 : ((w.alloc (.cells (nodeC Fc.rootN) 60)).alloc (.cells (nodeC Fc.rootN) 60)).cell? ⟨w.heap.size, 3, none⟩ = some (.string ByteArray.empty) := HX.out.at_ 3
  have cy3 : ((w.alloc (.cells (nodeC Fc.rootN) 60)).alloc (.cells (nodeC Fc.rootN) 60)).cell? ⟨w.heap.size + 1, 3, none⟩ = some (.string ByteArray.empty) := HY.out.at_ 3
  have cx11 : ((w.alloc (.cells (nodeC Fc.rootN) 60)).alloc (.cells (nodeC Fc.rootN) 60)).cell? ⟨w.heap.size, 11, none⟩ = some (.slice none 0 0) := HX.out.at_ 11
  have cy11 : ((w.alloc (.cells (nodeC Fc.rootN) 60)).alloc (.cells (nodeC Fc.rootN) 60)).cell? ⟨w.heap.size + 1, 11, none⟩ = some (.slice none 0 0) := HY.out.at_ 11
  have q0 := fun W => Smr.eref_st 0 0 W
  have q1 := fun W => eqin_attr W
  have q2 := fun W => eqin_size W
  go_enter Tryz.func40, Tryz.ntmps40
  go_wp2_with (first | ((with_reducible refine Who.wpList_loadC 26 (.tmp 5) rfl (w.heap.size) 0 (#[.int .i64 0, .int .i64 0]) ?_); refine And.intro ⟨by rfl, by rfl, ⟨_, Tryz.underlying26, rfl⟩, Sr.info_st⟩ (And.intro (Sr.nid_range HX.out) ?_); (try simp only [Act.put, List.setIfInBounds_toArray, List.set_cons_zero, List.set_cons_succ])) | ((with_reducible refine Who.wpList_loadC 26 (.tmp 7) rfl ((w.heap.size + 1)) 0 (#[.int .i64 0, .int .i64 0]) ?_); refine And.intro ⟨by rfl, by rfl, ⟨_, Tryz.underlying26, rfl⟩, Sr.info_st⟩ (And.intro (Sr.nid_range HY.out) ?_); (try simp only [Act.put, List.setIfInBounds_toArray, List.set_cons_zero, List.set_cons_succ])) | ((with_reducible refine Who.wpList_loadC 54 (.tmp 25) rfl (w.heap.size) 4 (#[.int .i64 0, .int .i64 0, .int .i64 493, .int .u64 9223372036854775808]) ?_); refine And.intro ⟨by rfl, by rfl, ⟨_, Tryz.underlying54, rfl⟩, Smr.info_attr⟩ (And.intro (Smr.rangeOf HX.out 4 #[.int .i64 0, .int .i64 0, .int .i64 493, .int .u64 9223372036854775808] root_at) ?_); (try simp only [Act.put, List.setIfInBounds_toArray, List.set_cons_zero, List.set_cons_succ])) | ((with_reducible refine Who.wpList_loadC 54 (.tmp 27) rfl ((w.heap.size + 1)) 4 (#[.int .i64 0, .int .i64 0, .int .i64 493, .int .u64 9223372036854775808]) ?_); refine And.intro ⟨by rfl, by rfl, ⟨_, Tryz.underlying54, rfl⟩, Smr.info_attr⟩ (And.intro (Smr.rangeOf HY.out 4 #[.int .i64 0, .int .i64 0, .int .i64 493, .int .u64 9223372036854775808] root_at) ?_); (try simp only [Act.put, List.setIfInBounds_toArray, List.set_cons_zero, List.set_cons_succ])) | ((with_reducible refine Who.wpList_loadC 56 (.tmp 32) rfl (w.heap.size) 8 (#[.int .i64 0, .int .i64 0, .int .i64 0]) ?_); refine And.intro ⟨by rfl, by rfl, ⟨_, Tryz.underlying56, rfl⟩, Smr.info_size⟩ (And.intro (Smr.rangeOf HX.out 8 #[.int .i64 0, .int .i64 0, .int .i64 0] root_sz) ?_); (try simp only [Act.put, List.setIfInBounds_toArray, List.set_cons_zero, List.set_cons_succ])) | ((with_reducible refine Who.wpList_loadC 56 (.tmp 34) rfl ((w.heap.size + 1)) 8 (#[.int .i64 0, .int .i64 0, .int .i64 0]) ?_); refine And.intro ⟨by rfl, by rfl, ⟨_, Tryz.underlying56, rfl⟩, Smr.info_size⟩ (And.intro (Smr.rangeOf HY.out 8 #[.int .i64 0, .int .i64 0, .int .i64 0] root_sz) ?_); (try simp only [Act.put, List.setIfInBounds_toArray, List.set_cons_zero, List.set_cons_succ])) | fail)
  refine (eqp_nil _).mono ?_
  rintro q w2 ⟨rfl, hb⟩
  have HB2 := Lib.hid (HB0.out.trans (hb.mono HB0.out.size))
  have d1 : w2.cell? ⟨w.heap.size, 12, none⟩ = some (.slice none 0 0) := (HX.out.below hb).at_ 12
  have d2 : w2.cell? ⟨w.heap.size + 1, 12, none⟩ = some (.slice none 0 0) := (HY.out.below hb).at_ 12
  clear hb
  go_wp2_with fail
  refine (eqx_nil _).mono ?_
  rintro q w3 ⟨rfl, hb⟩
  have HB3 := Lib.hid (HB2.out.trans (hb.mono HB2.out.size))
  clear hb
  go_wp2
  go_ret
  exact ⟨rfl, HB3.out⟩
theorem empty_keep {w : World} {g h : Nat} {o : Nat} {vs : List Value} (hs : Fc.StateFit w (Fc.emptyS g)) (hg : h < g) : Fc.StateFit (w.setCells h o vs) (Fc.emptyS g) where
  nodes := ⟨rfl, fun _ => by
    obtain ⟨b, off, e, hl, hx⟩ := hs.nodes.cells (show 0 < 1 by decide)
    have e1 : (some ⟨g, 0, none⟩ : Option Addr) = some ⟨b, off, none⟩ := e
    cases e1
    have hc := (Who.chg_setCells h vs o w)
    refine ⟨g, 0, rfl, by rw [← Who.size_setCells h vs o w] at hl; exact hl, fun i hi j v hv => ?_⟩
    have eb := hc.block g hl (by omega)
    have ec : (w.setCells h o vs).cell? ⟨g, 0 + i * 13 + j, none⟩ = w.cell? ⟨g, 0 + i * 13 + j, none⟩ := by simp only [World.cell?, eb]
    exact ec.trans (hx i hi j v hv)⟩
  links := Fc.SRow.nil _ _ _
  m1 := hs.m1
  m2 := hs.m2
  each := fun x hx => by
    rw [show (Fc.emptyS g).nodes = [Fc.rootN] from rfl, List.mem_singleton] at hx
    subst hx
    exact Fc.root_fit _
  names := fun x hx => by cases hx
theorem root_range {w : World} {g : Nat} (h : Fc.StateFit w (Fc.emptyS g)) : w.rangeAt g 0 (nodeC Fc.rootN).toList ∧ g < w.heap.size := by
  obtain ⟨b, off, hA, hl, hx, mr⟩ := h.nodes.range (i := 0) (show 0 < 1 by decide)
  have e1 : (some ⟨g, 0, none⟩ : Option Addr) = some ⟨b, off, none⟩ := hA
  cases e1
  exact ⟨mr, hl⟩
theorem wpList_storeNew {P : Program} {ops : Array Oper} {rest : List Oper} {op : Oper} {a : Act} {w0 : World} {Q : Exit → Act → World → Prop} (ty : TypeId) (x y : Operand) (z C : Array Value) (ho : op.op = .store ty x y)
    (h : (op.guard = none ∧ op.dst = none ∧ a.eval x = .pointer (some ⟨w0.heap.size, 0, none⟩) ∧ a.eval y = .agg C ∧ (P.info? ty).map (·.size) = some C.size ∧ z.size = C.size ∧ C.all (·.oneCell') = true) ∧ wpList P ops Q rest a (w0.alloc (.cells C ty))) : wpList P ops Q (op :: rest) a (w0.alloc (.cells z ty)) := by
  obtain ⟨⟨hg, hd, hx, hy, hi, hzC, hone⟩, h⟩ := h
  refine wpList_plain hg fun K2 hK2 => ?_
  have e3 : (execOp a.eval op).run P (w0.alloc (.cells z ty)) = .ok .skip (w0.alloc (.cells C ty)) := by
    unfold execOp
    simp only [ho, hx, hy, Instr.storeAt, Instr.sureAddr, Sem.run_bind, Sem.run_pure, Result.andThen_ok, run_storeVar_new w0 ty z C hi hzC hone]
  unfold Oper.wp
  rw [e3]
  refine hK2 _ _ ?_
  rw [hd]
  exact h
set_option maxRecDepth 100000 in
set_option maxHeartbeats 2000000 in
theorem eqn_root (g1 g2 : Nat) (w : World) (r1 : w.rangeAt g1 0 (nodeC Fc.rootN).toList) (l1 : g1 < w.heap.size) (r2 : w.rangeAt g2 0 (nodeC Fc.rootN).toList) (l2 : g2 < w.heap.size) : Calls Tryz.prog 39 #[.slice (some ⟨g1, 0, none⟩) 1 1, .slice (some ⟨g2, 0, none⟩) 1 1, .func (.func 40) #[] #[]] w fun e w' => e = .returned (.bool true) ∧ Below w.heap.size w w' := by
  have R1 := Lib.hid (fun V (h : Below w.heap.size w V) => Fc.row_range_below r1 h l1)
  have R2 := Lib.hid (fun V (h : Below w.heap.size w V) => Fc.row_range_below r2 h l2)
  have haln := Stl.alloc_node
  clear r1 r2 l1 l2
  go_enter Tryz.func39, Tryz.ntmps39
  go_wp2
  go_loopw [17] (fun i wr => ∃ j : Nat, j ≤ 1 ∧ i = .int .i64 j ∧ Hid (Below w.heap.size w wr)) (fun i _ => 1 - (intOf i).toNat)
  case atStart => exact ⟨0, by omega, rfl, Lib.hid (Below.refl _ _)⟩
  case round =>
    obtain ⟨j, hj, rfl, HI⟩ := hrel
    by_cases hlt : j < 1
    · obtain rfl : j = 0 := by omega
      have hb1 := HI.out.alloc HI.out.size (.cells (nodeC Fc.rootN) 60)
      have HB2 := Lib.hid (hb1.alloc hb1.size (.cells (nodeC Fc.rootN) 60))
      have HA := Lib.hid (R1.out _ HI.out)
      have HB := Lib.hid (R2.out _ hb1)
      have HX := Lib.hid ((Has.fresh wr 60 (nodeC Fc.rootN)).past (.cells (nodeC Fc.rootN) 60))
      have HY := Lib.hid (show Has ((wr.alloc (.cells (nodeC Fc.rootN) 60)).alloc (.cells (nodeC Fc.rootN) 60)) (wr.heap.size + 1) 60 (nodeC Fc.rootN) from freshAt 60 (nodeC Fc.rootN) (by simp))
      clear hb1
      go_wp2_with (first | ((with_reducible refine Who.wpList_loadC 60 (.tmp 20) rfl (g1) 0 (nodeC Fc.rootN) ?_); refine And.intro ⟨by rfl, by rfl, ⟨_, Tryz.underlying60, rfl⟩, Sr.info_inode⟩ (And.intro (HA.out) ?_); (try simp only [Act.put, List.setIfInBounds_toArray, List.set_cons_zero, List.set_cons_succ])) | ((with_reducible refine Who.wpList_alloc 60 8 rfl rfl rfl (nodeC Stl.zeroN) haln ?_); (try simp only [Act.put, List.setIfInBounds_toArray, List.set_cons_zero, List.set_cons_succ]); (try simp only [World.size_alloc])) | ((with_reducible refine wpList_storeNew 60 (.tmp 8) (.tmp 21) (nodeC Stl.zeroN) (nodeC Fc.rootN) rfl ?_); refine And.intro ⟨rfl, rfl, by rfl, by rfl, Sr.info_inode, rfl, Stl.node_one _⟩ ?_; (try simp only [Act.put, List.setIfInBounds_toArray, List.set_cons_zero, List.set_cons_succ])) | ((with_reducible refine Who.wpList_loadC 60 (.tmp 24) rfl (g2) 0 (nodeC Fc.rootN) ?_); refine And.intro ⟨by rfl, by rfl, ⟨_, Tryz.underlying60, rfl⟩, Sr.info_inode⟩ (And.intro (HB.out) ?_); (try simp only [Act.put, List.setIfInBounds_toArray, List.set_cons_zero, List.set_cons_succ])) | ((with_reducible refine Who.wpList_newC 60 9 (.tmp 25) rfl rfl rfl (nodeC Stl.zeroN) (nodeC Fc.rootN) ?_); refine And.intro ⟨rfl, rfl, rfl, haln, by rfl, by rfl, Sr.info_inode, rfl, Stl.node_one _⟩ ?_; (try simp only [Act.put, List.setIfInBounds_toArray, List.set_cons_zero, List.set_cons_succ]); (try simp only [World.size_alloc])) | ((with_reducible refine Who.wpList_loadC 60 (.tmp 8) rfl (wr.heap.size) 0 (nodeC Fc.rootN) ?_); refine And.intro ⟨by rfl, by rfl, ⟨_, Tryz.underlying60, rfl⟩, Sr.info_inode⟩ (And.intro (Who.has_range HX.out) ?_); (try simp only [Act.put, List.setIfInBounds_toArray, List.set_cons_zero, List.set_cons_succ])) | ((with_reducible refine Who.wpList_loadC 60 (.tmp 9) rfl ((wr.heap.size + 1)) 0 (nodeC Fc.rootN) ?_); refine And.intro ⟨by rfl, by rfl, ⟨_, Tryz.underlying60, rfl⟩, Sr.info_inode⟩ (And.intro (Who.has_range HY.out) ?_); (try simp only [Act.put, List.setIfInBounds_toArray, List.set_cons_zero, List.set_cons_succ])) | fail)
      refine (sameroot_any _).mono ?_
      rintro q w2 ⟨rfl, hb⟩
      have HB3 := Lib.hid (HB2.out.trans (hb.mono HB2.out.size))
      clear hb
      go_wp2
      go_roundw
      case rel => exact ⟨1, by omega, by go_num, HB3⟩
      case measure => simp [intOf]
    · obtain rfl : j = 1 := by omega
      go_wp2
      go_ret
      exact ⟨rfl, HI.out⟩
set_option maxRecDepth 100000 in
set_option maxHeartbeats 2000000 in
theorem fsame_any (g1 g2 : Nat) (w : World) (h1 : Fc.StateFit w (Fc.emptyS g1)) (h2 : Fc.StateFit w (Fc.emptyS g2)) : Calls Tryz.prog 17 #[.agg (stateC (Fc.emptyS g1)), .agg (stateC (Fc.emptyS g2))] w fun e w' => e = .returned (.bool true) ∧ Below w.heap.size w w' := by
  have HB0 := Lib.hid (((Below.refl w.heap.size w).alloc (Nat.le_refl _) (.cells (stateC (Fc.emptyS g1)) 32)).alloc (by simp) (.cells (stateC (Fc.emptyS g2)) 32))
  have HX := Lib.hid ((Has.fresh w 32 (stateC (Fc.emptyS g1))).past (.cells (stateC (Fc.emptyS g2)) 32))
  have HY := Lib.hid (show Has ((w.alloc (.cells (stateC (Fc.emptyS g1)) 32)).alloc (.cells (stateC (Fc.emptyS g2)) 32)) (w.heap.size + 1) 32 (stateC (Fc.emptyS g2)) from freshAt 32 (stateC (Fc.emptyS g2)) (by simp))
  have HE := Lib.hid (show ∀ V, Below w.heap.size w V → Calls Tryz.prog 39 #[.slice (some ⟨g1, 0, none⟩) 1 1, .slice (some ⟨g2, 0, none⟩) 1 1, .func (.func 40) #[] #[]] V fun e w' => e = .returned (.bool true) ∧ Below V.heap.size V w' from fun V h => eqn_root g1 g2 V (root_range (h1.below h)).1 (root_range (h1.below h)).2 (root_range (h2.below h)).1 (root_range (h2.below h)).2)
  have cx8 : ((w.alloc (.cells (stateC (Fc.emptyS g1)) 32)).alloc (.cells (stateC (Fc.emptyS g2)) 32)).cell? ⟨w.heap.size, 8, none⟩ = some (.slice (some ⟨g1, 0, none⟩) 1 1) := HX.out.at_ 8
  have cy8 : ((w.alloc (.cells (stateC (Fc.emptyS g1)) 32)).alloc (.cells (stateC (Fc.emptyS g2)) 32)).cell? ⟨w.heap.size + 1, 8, none⟩ = some (.slice (some ⟨g2, 0, none⟩) 1 1) := HY.out.at_ 8
  have q0 : ∀ W, (Op.equalIn 10000 24 (.agg (vecC fun _ => 0)) (.agg (vecC fun _ => 0))).run Tryz.prog W = .ok true W := fun W => by
    have q : (Op.equalIn 10000 24 (.agg (vecC fun _ => 0)) (.agg (vecC fun _ => 0))).run Tryz.prog W = .ok (Vc.eq8 (fun _ => 0) (fun _ => 0)) W := Vc.eqv (fun _ => 0) (fun _ => 0) W
    rwa [Smr.eq8_self] at q
  clear h1 h2
  go_enter Tryz.func17, Tryz.ntmps17
  go_wp2_with (first | ((with_reducible refine Who.wpList_loadC 24 (.tmp 5) rfl (w.heap.size) 0 (vecC (fun _ => 0)) ?_); refine And.intro ⟨by rfl, by rfl, ⟨_, Tryz.underlying24, rfl⟩, Sr.info_vec⟩ (And.intro (Smr.rangeOf HX.out 0 _ (seen0 _)) ?_); (try simp only [Act.put, List.setIfInBounds_toArray, List.set_cons_zero, List.set_cons_succ])) | ((with_reducible refine Who.wpList_loadC 24 (.tmp 7) rfl ((w.heap.size + 1)) 0 (vecC (fun _ => 0)) ?_); refine And.intro ⟨by rfl, by rfl, ⟨_, Tryz.underlying24, rfl⟩, Sr.info_vec⟩ (And.intro (Smr.rangeOf HY.out 0 _ (seen0 _)) ?_); (try simp only [Act.put, List.setIfInBounds_toArray, List.set_cons_zero, List.set_cons_succ])) | fail)
  refine (HE.out _ HB0.out).mono ?_
  rintro q w2 ⟨rfl, hb⟩
  have HB2 := Lib.hid (HB0.out.trans (hb.mono HB0.out.size))
  have d1 : w2.cell? ⟨w.heap.size, 9, none⟩ = some (.slice none 0 0) := (HX.out.below hb).at_ 9
  have d2 : w2.cell? ⟨w.heap.size + 1, 9, none⟩ = some (.slice none 0 0) := (HY.out.below hb).at_ 9
  clear hb
  go_wp2_with fail
  refine (eql_nil _).mono ?_
  rintro q w3 ⟨rfl, hb⟩
  have HB3 := Lib.hid (HB2.out.trans (hb.mono HB2.out.size))
  clear hb
  go_wp2
  go_ret
  exact ⟨rfl, HB3.out⟩
def zeroSt : Fc.StateC := ⟨fun _ => 0, none, 0, 0, none, 0, 0, [], []⟩
theorem alloc_st (w : World) : (Instr.alloc 32 true (.tuple #[])).run Tryz.prog w = .ok (.pointer (some ⟨w.heap.size, 0, none⟩)) (w.alloc (.cells (stateC zeroSt) 32)) := by
  have hz := Tryz.zeroValue32
  go_simp
  rfl
theorem state_one (s : Fc.StateC) : (stateC s).all (·.oneCell') = true := by simp [stateC, Value.oneCell']
set_option maxRecDepth 100000 in
set_option maxHeartbeats 2000000 in
theorem fold_nil (w : World) : Calls Tryz.prog 18 #[.slice none 0 0] w fun e w' => ∃ g, e = .returned (.agg (stateC (Fc.emptyS g))) ∧ Fc.StateFit w' (Fc.emptyS g) ∧ w.heap.size ≤ g ∧ Below w.heap.size w w' := by
  have hals := alloc_st
  have hb0 := (Below.refl w.heap.size w).alloc (Nat.le_refl _) (.cells (stateC zeroSt) 32)
  have HB0 := Lib.hid hb0
  have HZ0 := Lib.hid (Has.fresh w 32 (stateC zeroSt))
  have HEM := Lib.hid (fun V => Fc.empty_any V)
  clear hb0
  go_enter Tryz.func18, Tryz.ntmps18
  go_wp2_with (first | ((with_reducible refine Who.wpList_alloc 32 2 rfl rfl rfl (stateC zeroSt) hals ?_); (try simp only [Act.put, List.setIfInBounds_toArray, List.set_cons_zero, List.set_cons_succ]); (try simp only [World.size_alloc])) | fail)
  refine (HEM.out _).mono ?_
  rintro q w1 ⟨g, rfl, hs, hg, hb⟩
  have hb1 := HB0.out.trans (hb.mono HB0.out.size)
  have hk1 : Below w1.heap.size w1 (w1.alloc (.cells (stateC (Fc.emptyS g)) 32)) := (Below.refl w1.heap.size w1).alloc (Nat.le_refl _) _
  have HB1 := Lib.hid (hb1.alloc hb1.size (.cells (stateC (Fc.emptyS g)) 32))
  have HZ1 := Lib.hid ((HZ0.out.below hb).past (.cells (stateC (Fc.emptyS g)) 32))
  have HY1 := Lib.hid (Has.fresh w1 32 (stateC (Fc.emptyS g)))
  have HS1 := Lib.hid (hs.below hk1)
  have HG := Lib.hid (show w.heap.size < g by rw [World.size_alloc] at hg; omega)
  obtain ⟨Y, hY⟩ : ∃ Y, Y = w1.heap.size := ⟨_, rfl⟩
  clear hs hg hb hb1 hk1 HB0 HZ0
  go_wp2_with (first | ((with_reducible refine Who.wpList_newC 32 3 (.tmp 6) rfl rfl rfl (stateC zeroSt) (stateC (Fc.emptyS g)) ?_); refine And.intro ⟨rfl, rfl, rfl, hals, by rfl, by rfl, Sr.info_state, rfl, state_one _⟩ ?_; (try simp only [Act.put, List.setIfInBounds_toArray, List.set_cons_zero, List.set_cons_succ]); (try simp only [World.size_alloc])) | fail)
  go_loopw [9] (fun i wr => i = .int .i64 0 ∧ Hid (Below w.heap.size w wr) ∧ Hid (Has wr w.heap.size 32 (stateC zeroSt)) ∧ Hid (Has wr w1.heap.size 32 (stateC (Fc.emptyS g))) ∧ Hid (Fc.StateFit wr (Fc.emptyS g))) (fun _ _ => 0)
  case atStart => exact ⟨rfl, HB1, HZ1, HY1, HS1⟩
  case round =>
    clear HB1 HZ1 HY1 HS1
    obtain ⟨rfl, HB, HZ, HY, HS⟩ := hrel
    have HTH := Lib.hid (Who.has_there HZ.out (n := 10) rfl)
    have HZF := Lib.hid (Who.has_over HZ.out (C := stateC (Fc.emptyS g)) rfl)
    have HBF := Lib.hid (Who.below_setCells HB.out (Nat.le_refl w.heap.size) 0 (stateC (Fc.emptyS g)).toList)
    have HSF := Lib.hid (empty_keep (o := 0) (vs := (stateC (Fc.emptyS g)).toList) HS.out HG.out)
    go_wp2_with (first | ((with_reducible refine Who.wpList_loadC 32 (.tmp 3) rfl (w1.heap.size) 0 (stateC (Fc.emptyS g)) ?_); refine And.intro ⟨by rfl, by rfl, ⟨_, Tryz.underlying32, rfl⟩, Sr.info_state⟩ (And.intro (Who.has_range HY.out) ?_); (try simp only [Act.put, List.setIfInBounds_toArray, List.set_cons_zero, List.set_cons_succ])) | ((with_reducible refine Who.wpList_storeC 32 (.tmp 2) (.tmp 18) rfl (w.heap.size) 0 (stateC (Fc.emptyS g)) ?_); refine And.intro ⟨rfl, by rfl, by rfl, Sr.info_state, state_one _⟩ (And.intro HTH.out ?_); (try simp only [Act.put, List.setIfInBounds_toArray, List.set_cons_zero, List.set_cons_succ])) | fail)
    refine bodyPost_ret (v := .agg (stateC (Fc.emptyS g))) (Who.results_cell (p := 2) (t := 32) rfl _ _ w.heap.size 0 (stateC (Fc.emptyS g)) _ (by rfl) (Who.has_range HZF.out) Tryz.underlying32 rfl Sr.info_state) rfl ⟨g, rfl, HSF.out, Nat.le_of_lt HG.out, HBF.out⟩
end Go.Proofs.YtigkdoicmcdbhaaGreat.Md
