/- Join: without: a row that one owns without what another state has pruned. -/
import Derived.Test.YtblogecapegbmaaGreatJoU
import Derived.Laws.EntriesVeiled
namespace Go.Proofs.YtblogecapegbmaaGreat.Jn
open Go.RowKit Go.Proofs.YtblogecapegbmaaGreat.Mem Go.Proofs.YtblogecapegbmaaGreat.Fc
open Go.Proofs.YtblogecapegbmaaGreat.Vc (vecC)
set_option linter.unusedVariables false set_option linter.unusedSimpArgs false set_option linter.unusedSectionVars false

theorem entersW {P : Program} {f : FuncId} {fn : Func} {c : Code} (hf : P.funcs[f]? = some fn) (hname : (fn.name == "runtime.NumGoroutine") = false) (hb : fn.body = some c) (args : Array Value) (V : World) : (callFunc f args).run P V = .ok (.enter f args) V := by
 have h2 : ¬ fn.name = "runtime.NumGoroutine" := by simpa using hname
 simp [callFunc, go_sem, hf, h2, hb]
/-- An entry of a map of counts found or made, at a step of a drawn region. -/
theorem step_entry {ops : Array Oper} {o : Oper} {a : Act} {w : World} {K : Act → World → Prop} {Q : Exit → Act → World → Prop} {EE : Prop} (p : Tmp) (b : Nat) (m : Int × Int → Option Value) (z : Int × Int) (x y : Operand) (ho : o.op = .mapEntry 98 x y) (hp : o.dst = some p)
  (h : (Region.wanted o (yielded ops a.tmps) = true ∧ a.eval x = .map (some b) ∧ a.eval y = stK z ∧ KMap stK w b m) ∧ ∀ q w2, Hid (KMap stK w2 b (updK m z ((m z).getD (.int .i64 0)))) → Hid (Chg (· = b) w w2) → Hid (∀ v, ∃ w3, (Instr.entryStore 98 (.map (some b)) (.int .i64 q) v).run Tryz.prog w2 = .ok () w3 ∧ KMap stK w3 b (updK m z v) ∧ Chg (· = b) w2 w3) → K (a.put (some p) (.tuple #[(m z).getD (.int .i64 0), .int .i64 q])) w2) : if Region.wanted o (yielded ops a.tmps) = true then Oper.wp Tryz.prog o a w K Q else EE := by
 obtain ⟨⟨h1, e1, e2, e4⟩, h2⟩ := h
 rw [if_pos h1]
 obtain ⟨w2, q, hr, hk, hc, _, h3⟩ := KMap.entry Tryz.underlying98 stKeys e4 (.int .i64 0) Tryz.zeroValue3 z
 unfold Oper.wp execOp
 simp only [ho, e1, e2, hr, Sem.run_bind, Sem.run_pure, Sem.run_map, Result.andThen_ok]
 have := h2 q w2 (Lib.hid hk) (Lib.hid hc) (Lib.hid fun v => by
  obtain ⟨w3, g1, g2, g3, _⟩ := h3 v
  exact ⟨w3, g1, g2, g3⟩)
 show K (a.put o.dst _) _
 rw [hp]
 exact this
theorem step_enter {ops : Array Oper} {o : Oper} {a : Act} {w w3 : World} {K : Act → World → Prop} {Q : Exit → Act → World → Prop} {EE : Prop} (b : Nat) (q : Int) (v : Value) (x y u : Operand) (ho : o.op = .entryStore 98 x y u)
  (h : (Region.wanted o (yielded ops a.tmps) = true ∧ o.dst = none ∧ a.eval x = .map (some b) ∧ a.eval y = .int .i64 q ∧ a.eval u = v ∧ (Instr.entryStore 98 (.map (some b)) (.int .i64 q) v).run Tryz.prog w = .ok () w3) ∧ K a w3) : if Region.wanted o (yielded ops a.tmps) = true then Oper.wp Tryz.prog o a w K Q else EE := by
 obtain ⟨⟨h1, h0, e1, e2, e3, hr⟩, h2⟩ := h
 rw [if_pos h1]
 unfold Oper.wp execOp
 simp only [ho, e1, e2, e3, hr, Sem.run_bind, Sem.run_pure, Sem.run_map, Result.andThen_ok]
 show K (a.put o.dst undef) _
 rw [h0]
 exact h2
/-- What the loop of counts keeps. -/
structure WoI (w wr : World) (FT : TypeId) (F : FuncId) (seen : Nat → Int) (l : List St) : Prop where
 below : Below w.heap.size w wr
 k6 : Has wr w.heap.size 23 (vecC seen)
 k7 : Has wr (w.heap.size + 1) FT #[.func (.func F) #[] #[]]
 k9 : Has wr (w.heap.size + 1 + 1 + 1) 98 #[.map (some (w.heap.size + 1 + 1))]
 km : ∃ m, KMap stK wr (w.heap.size + 1 + 1) m ∧ CntI l m
theorem WoI.low {w wr w2 : World} {FT : TypeId} {F : FuncId} {seen : Nat → Int} {l : List St} (h : WoI w wr FT F seen l) (hb : Below wr.heap.size wr w2) : WoI w w2 FT F seen l := ⟨h.below.trans (hb.mono h.below.size), h.k6.below hb, h.k7.below hb, h.k9.below hb, by
 obtain ⟨m, h1, h2⟩ := h.km
 exact ⟨m, h1.below hb, h2⟩⟩
theorem WoI.start (w : World) (FT : TypeId) (F : FuncId) (seen : Nat → Int) : WoI w ((((w.alloc (.cells (vecC seen) 23)).alloc (.cells #[.func (.func F) #[] #[]] FT)).alloc (.map #[] 0)).alloc (.cells #[.map (some (w.heap.size + 1 + 1))] 98)) FT F seen [] := by
 have h3 := Has.fresh (w.alloc (.cells (vecC seen) 23)) FT #[.func (.func F) #[] #[]]
 have h4 := KMap.made stK ((w.alloc (.cells (vecC seen) 23)).alloc (.cells #[.func (.func F) #[] #[]] FT))
 have h5 := Has.fresh (((w.alloc (.cells (vecC seen) 23)).alloc (.cells #[.func (.func F) #[] #[]] FT)).alloc (.map #[] 0)) 98 #[.map (some (w.heap.size + 1 + 1))]
 rw [World.size_alloc] at h3
 rw [World.size_alloc, World.size_alloc] at h4
 rw [World.size_alloc, World.size_alloc, World.size_alloc] at h5
 exact ⟨((((Below.refl w.heap.size w).alloc (Nat.le_refl _) _).alloc (by simp) _).alloc (by simp; omega) _).alloc (by simp; omega) _, (((Has.fresh w 23 (vecC seen)).past _).past _).past _, (h3.past _).past _, h5, ⟨_, h4.past _, cntI_nil⟩⟩
set_option maxRecDepth 100000 in
set_option maxHeartbeats 16000000 in
theorem withoutN_any (B : Nat) (A : Option Addr) (c : Nat) (xs : List Fc.NodeC) (A2 : Option Addr) (n2 c2 : Nat) (ys : List Fc.NodeC) (seen : Nat → Int) (hn : xs.length ≤ 800000) (hn2 : n2 ≤ 800000) (w : World) (ho : OwnK w B 46 13 Fc.nodeC (.slice A xs.length c) xs) (hr : Fc.SRow w 13 Fc.nodeC A2 n2 ys) :
  Calls Tryz.prog 49 #[.slice A xs.length c, .slice A2 n2 c2, .agg (vecC seen), .func (.func 50) #[] #[]] w fun e w' => ∃ v, e = .returned v ∧ OwnK w' B 46 13 Fc.nodeC v (xs.filter fun y => !(Vc.hasB seen y.p.id.1 y.p.id.2 && decide (countI (ys.map fun y => y.p.id) y.p.id = 0))) ∧ Chg (fun q => (Value.slice A xs.length c).ownBlock = some q) w w' := by
 have HR := Lib.hid hr
 have HLY := Lib.hid (show n2 = ys.length from hr.len.symm)
 have HO := Lib.hid ho
 have H0 := Lib.hid (WoI.start w 89 50 seen)
 obtain ⟨fl, hfl⟩ : ∃ fl, fl = xs.filter (fun y => !(Vc.hasB seen y.p.id.1 y.p.id.2 && decide (countI (ys.map fun y => y.p.id) y.p.id = 0))) := ⟨_, rfl⟩
 rw [← hfl]
 have HFL := Lib.hid hfl
 clear hfl
 obtain ⟨n, hnx⟩ : ∃ n, n = xs.length := ⟨_, rfl⟩
 have HNX := Lib.hid (And.intro hnx hn)
 rw [← hnx]
 clear hr ho hnx hn
 have hmm := @run_makeMap Tryz.prog
 go_enter Tryz.func49, Tryz.ntmps49
 go_wp2
 go_loopw [15] (fun i wr => ∃ j : Nat, i = .int .i64 j ∧ j ≤ n2 ∧ Hid (WoI w wr 89 50 seen (ys.take j |>.map fun y => y.p.id))) (fun i _ => n2 - (intOf i).toNat)
 case atStart => exact ⟨0, rfl, Nat.zero_le _, H0⟩
 case round =>
  clear H0
  obtain ⟨j, rfl, hj, HI⟩ := hrel
  by_cases hlt : j < n2
  ·obtain ⟨bk, off, hA, hbl, hxj, mr⟩ := (HR.out.below HI.out.below).range (i := j) hlt
   obtain ⟨y, hy⟩ : ∃ y, ys[j] = y := ⟨_, rfl⟩
   have HNEXT := Lib.hid (show (ys.take (j + 1)).map (fun y => y.p.id) = (ys.take j).map (fun y => y.p.id) ++ [y.p.id] from by rw [List.take_succ_eq_append_getElem hxj, hy, List.map_append]; rfl)
   rw [hy] at mr
   have MR := Lib.hid mr
   have hcl := cntI_le ((ys.take j).map fun y => y.p.id) y.p.id
   have hcl2 : ((ys.take j).map fun y => y.p.id).length ≤ 800000 := by rw [List.length_map, List.length_take]; omega
   obtain ⟨cz, hcz⟩ : ∃ cz : Int, cz = (countI ((ys.take j).map fun y => y.p.id) y.p.id : Int) := ⟨_, rfl⟩
   have HCZ := Lib.hid hcz
   have hczb : 0 ≤ cz ∧ cz ≤ 800000 := by omega
   have hbn := (Below.refl wr.heap.size wr).alloc (Nat.le_refl _) (.cells (Fc.nodeC y) 46)
   have HI1 := Lib.hid ((HI.out.low hbn).low (Below.refl _ _).drew)
   obtain ⟨gx, hgx⟩ : ∃ gx, gx = wr.heap.size := ⟨_, rfl⟩
   have HGX := Lib.hid hgx
   have HGW := Lib.hid (show w.heap.size + 1 + 1 + 1 < gx from by rw [hgx]; exact HI.out.k9.bound)
   have HY1 := Lib.hid (show Has (wr.alloc (.cells (Fc.nodeC y) 46)).drew gx 46 (Fc.nodeC y) from by rw [hgx]; exact (Has.fresh wr 46 (Fc.nodeC y)).drew)
   rw [hA]
   clear mr hy hA hbl hxj HI hcz hcl hcl2 hbn hgx
   go_wp2_with (first | ((with_reducible refine Who.wpList_loadC 46 (.tmp 17) rfl (bk) (off + j * 13) (Fc.nodeC y) ?_); refine And.intro ⟨by rfl, by rfl, ⟨_, Tryz.underlying46, rfl⟩, infoN⟩ (And.intro (MR.out) ?_); (try simp only [Act.put, List.setIfInBounds_toArray, List.set_cons_zero, List.set_cons_succ])) | ((with_reducible refine Who.wpList_newC 46 11 (.tmp 18) rfl rfl rfl (zeroN) (Fc.nodeC y) ?_); refine And.intro ⟨rfl, rfl, rfl, allocN, by rfl, by rfl, infoN, rfl, oneN y⟩ ?_; (try simp only [Act.put, List.setIfInBounds_toArray, List.set_cons_zero, List.set_cons_succ]); (try simp only [World.size_alloc])) | fail)
   rw [← HGX.out]
   have HKM := Lib.hid (show ∃ m, KMap stK (wr.alloc (.cells (Fc.nodeC y) 46)).drew (w.heap.size + 1 + 1) m ∧ (m y.p.id).getD (.int .i64 0) = .int .i64 cz from by
    obtain ⟨m, h1, h2⟩ := HI1.out.km
    exact ⟨m, h1, by rw [cntI_get h2, HCZ.out]⟩)
   refine wp_region_G 8 (S := fun V => V.cell? ⟨w.heap.size + 1, 0, none⟩ = some (.func (.func 50) #[] #[]) ∧ V.cell? ⟨w.heap.size + 1 + 1 + 1, 0, none⟩ = some (.map (some (w.heap.size + 1 + 1))) ∧ Has V gx 46 (Fc.nodeC y) ∧ ∃ m, KMap stK V (w.heap.size + 1 + 1) m ∧ (m y.p.id).getD (.int .i64 0) = .int .i64 cz) (by kernel_rfl) ⟨HI1.out.k7.at_ 0, HI1.out.k9.at_ 0, HY1.out, HKM.out⟩ (fun hHeld hCl => ?_)
   refine wpAnyG_read (i := 0) (d := some 19) (v := .map (some (w.heap.size + 1 + 1))) (by rfl) (by rfl) (by kernel_rfl) (by kernel_rfl) (by kernel_rfl) (by kernel_rfl) (by assumption) (fun _ _ _ h => h) (by rfl) ?hy1 (by assumption) (fun hCl hHeld => ?rest1)
   case hy1 =>
    intro V hSw
    have c := hSw.2.1
    go_simp
   (try simp only [Act.put, List.setIfInBounds_toArray, List.set_cons_zero, List.set_cons_succ])
   refine wpAnyG_read (i := 1) (d := some 20) (v := .func (.func 50) #[] #[]) (by rfl) (by rfl) (by kernel_rfl) (by kernel_rfl) (by kernel_rfl) (by kernel_rfl) (by assumption) (fun _ _ _ h => h) (by rfl) ?hy2 (by assumption) (fun hCl hHeld => ?rest2)
   case hy2 =>
    intro V hSw
    have c := hSw.1
    go_simp
   (try simp only [Act.put, List.setIfInBounds_toArray, List.set_cons_zero, List.set_cons_succ])
   refine wpAnyG_read (i := 2) (d := some 21) (v := .agg (Fc.nodeC y)) (by rfl) (by rfl) (by kernel_rfl) (by kernel_rfl) (by kernel_rfl) (by kernel_rfl) (by assumption) (fun _ _ _ h => h) (by rfl) ?hy3 (by assumption) (fun hCl hHeld => ?rest3)
   case hy3 =>
    intro V hSw
    exact Who.exec_loadA _ rfl rfl (Who.has_range hSw.2.2.1) Tryz.underlying46 rfl infoN
   (try simp only [Act.put, List.setIfInBounds_toArray, List.set_cons_zero, List.set_cons_succ])
   refine wpAnyG_ready (rs := [3]) (by kernel_rfl) (by simp) ?_
   refine AllReadyG.cons rfl (by assumption) (by kernel_rfl) (fun K hK => ?_) AllReadyG.nil
   go_simp
   go_at_call 50
   refine (nodeId_any y _).mono ?_
   rintro e w3 ⟨rfl, hb⟩
   have HI2 := Lib.hid (HI1.out.low hb)
   have HY2 := Lib.hid (HY1.out.below hb)
   have HKM2 := Lib.hid (show ∃ m, KMap stK w3 (w.heap.size + 1 + 1) m ∧ CntI ((ys.take j).map fun y => y.p.id) m from HI2.out.km)
   clear hb HI1 HY1 HKM
   obtain ⟨m, hm1, hm2⟩ := HKM2.out
   have HMZ := Lib.hid (show (m y.p.id).getD (.int .i64 0) = .int .i64 cz from by rw [cntI_get hm2, HCZ.out])
   have HM1 := Lib.hid hm1
   have HM2 := Lib.hid hm2
   clear hm1 hm2 HKM2
   refine hK.out _ _ (fun _ => ⟨HI2.out.k7.at_ 0, HI2.out.k9.at_ 0, HY2.out, m, HM1.out, HMZ.out⟩) (fun hHeld hCl => ?_)
   clear hK K
   (try simp only [Act.put, List.setIfInBounds_toArray, List.set_cons_zero, List.set_cons_succ])
   refine wpAnyG_read (i := 4) (d := some 23) (v := .int .i64 cz) (by rfl) (by rfl) (by kernel_rfl) (by kernel_rfl) (by kernel_rfl) (by kernel_rfl) (by assumption) (fun _ _ _ h => h) (by rfl) ?hy4 (by assumption) (fun hCl hHeld => ?rest4)
   case hy4 =>
    intro V hSw
    obtain ⟨m3, g1, g2⟩ := hSw.2.2.2
    have hk : (Instr.lookup 98 (.map (some (w.heap.size + 1 + 1))) (.agg #[.int .i64 y.p.id.1, .int .i64 y.p.id.2]) false).run Tryz.prog V = .ok (.int .i64 cz) V := by have q := (KMap.lookup Tryz.underlying98 stKeys g1 (.int .i64 0) Tryz.zeroValue3 y.p.id).1; rw [g2] at q; exact q
    go_simp
   (try simp only [Act.put, List.setIfInBounds_toArray, List.set_cons_zero, List.set_cons_succ])
   refine wpAnyG_read (i := 5) (d := some 24) (v := .int .i64 (cz + 1)) (by rfl) (by rfl) (by kernel_rfl) (by kernel_rfl) (by kernel_rfl) (by kernel_rfl) (by assumption) (fun _ _ _ h => h) (by rfl) ?hy5 (by assumption) (fun hCl hHeld => ?rest5)
   case hy5 =>
    intro V hSw
    have hwr : IntKind.i64.wrap (cz + 1) = cz + 1 := by rw [IntKind.wrap_i64] <;> omega
    go_simp
   (try simp only [Act.put, List.setIfInBounds_toArray, List.set_cons_zero, List.set_cons_succ])
   refine wpAnyG_ready (rs := [6]) (by kernel_rfl) (by simp) ?_
   refine AllReadyG.cons rfl (by assumption) (by kernel_rfl) (fun K hK => ?_) AllReadyG.nil
   refine step_entry 25 (w.heap.size + 1 + 1) m y.p.id (.tmp 19) (.tmp 22) (by rfl) (by rfl) ?_
   refine And.intro ⟨by rfl, by rfl, by rfl, HM1.out⟩ ?_
   intro q w4 k4 c4 r4
   rw [HMZ.out]
   obtain ⟨w5, r5, k5, c5⟩ := r4.out (.int .i64 (cz + 1))
   have HY4 := Lib.hid (HY2.out.over c4.out (by have := HGW.out; omega))
   have HK7 := Lib.hid (HI2.out.k7.over c4.out (by omega))
   have HK9 := Lib.hid (HI2.out.k9.over c4.out (by omega))
   have HK5 := Lib.hid (And.intro r5 (And.intro k5 c5))
   clear r4 r5 k5 c5
   refine hK.out _ _ (fun _ => ⟨HK7.out.at_ 0, HK9.out.at_ 0, HY4.out, _, k4.out, by rw [updK_same]; exact HMZ.out⟩) (fun hHeld hCl => ?_)
   clear hK K
   (try simp only [Act.put, List.setIfInBounds_toArray, List.set_cons_zero, List.set_cons_succ])
   refine wpAnyG_read (i := 7) (d := some 26) (v := .int .i64 q) (by rfl) (by rfl) (by kernel_rfl) (by kernel_rfl) (by kernel_rfl) (by kernel_rfl) (by assumption) (fun _ _ _ h => h) (by rfl) ?hy6 (by assumption) (fun hCl hHeld => ?rest6)
   case hy6 =>
    intro V hSw
    go_simp
   (try simp only [Act.put, List.setIfInBounds_toArray, List.set_cons_zero, List.set_cons_succ])
   refine wpAnyG_ready (rs := [8]) (by kernel_rfl) (by simp) ?_
   refine AllReadyG.cons rfl (by assumption) (by kernel_rfl) (fun K hK => ?_) AllReadyG.nil
   refine step_enter (w3 := w5) (w.heap.size + 1 + 1) q (.int .i64 (cz + 1)) (.tmp 19) (.tmp 26) (.tmp 24) (by rfl) ?_
   refine And.intro ⟨by rfl, by rfl, by rfl, by rfl, by rfl, HK5.out.1⟩ ?_
   refine hK.out _ _ (late (by rfl)) (fun hHeld hCl => ?_)
   clear hK K
   (try simp only [Act.put, List.setIfInBounds_toArray, List.set_cons_zero, List.set_cons_succ])
   refine wpAnyG_done (by kernel_rfl) ?_ _
   have HI5 := Lib.hid (show WoI w w5 89 50 seen ((ys.take (j + 1)).map fun y => y.p.id) from ⟨below_step (below_step HI2.out.below c4.out (by omega)) HK5.out.2.2 (by omega), (HI2.out.k6.over c4.out (by omega)).over HK5.out.2.2 (by omega), HK7.out.over HK5.out.2.2 (by omega), HK9.out.over HK5.out.2.2 (by omega), ⟨_, HK5.out.2.1, by rw [HNEXT.out, HCZ.out]; exact cntI_snoc HM2.out⟩⟩)
   clear HI2 c4 k4 HK5 HK7 HK9 HY4 HY2 HM1 HM2 HMZ HNEXT HCZ
   go_wp2
   go_roundw
   case rel => exact ⟨j + 1, by go_num, by omega, HI5⟩
   case measure => simp [intOf]; omega
  ·have hjn : j = n2 := by omega
   have HI2 := Lib.hid (show WoI w wr 89 50 seen (ys.map fun y => y.p.id) from by have q := HI.out; rw [hjn, HLY.out, List.take_length] at q; exact q)
   have HD := Lib.hid (show Calls Tryz.prog 96 #[.slice A n c, .func (.func 97) #[] #[.pointer (some ⟨w.heap.size, 0, none⟩), .pointer (some ⟨w.heap.size + 1, 0, none⟩), .pointer (some ⟨w.heap.size + 1 + 1 + 1, 0, none⟩)]] wr fun e w' => ∃ v, e = .returned v ∧ OwnK w' B 46 13 Fc.nodeC v fl ∧ Chg (fun q => (Value.slice A n c).ownBlock = some q) wr w' from by
    rw [HNX.out.1, HFL.out]
    refine deleteN_any B A c xs 97 #[.pointer (some ⟨w.heap.size, 0, none⟩), .pointer (some ⟨w.heap.size + 1, 0, none⟩), .pointer (some ⟨w.heap.size + 1 + 1 + 1, 0, none⟩)] (fun args V => entersW (P := Tryz.prog) (f := 97) Tryz.func97 (by rfl) (by rfl) args V) (fun y => Vc.hasB seen y.p.id.1 y.p.id.2 && decide (countI (ys.map fun y => y.p.id) y.p.id = 0)) HNX.out.2 wr (HO.out.below HI2.out.below) (fun V hV x hx => ?_)
    have hlow : ∀ q, (Value.slice A xs.length c).ownBlock = some q → q < w.heap.size := fun q hq => (World.ownsRow.lt HO.out q hq).2
    refine closN_any w.heap.size (w.heap.size + 1) (w.heap.size + 1 + 1 + 1) (w.heap.size + 1 + 1) seen (ys.map fun y => y.p.id) x V (HI2.out.k6.over hV fun e => by have := hlow _ e; omega) (HI2.out.k7.over hV fun e => by have := hlow _ e; omega) (HI2.out.k9.over hV fun e => by have := hlow _ e; omega) ?_
    obtain ⟨m, h1, h2⟩ := HI2.out.km
    exact ⟨m, h1.over hV (fun e => by have := hlow _ e; omega), h2⟩)
   clear HI hjn
   go_wp2_with fail
   refine HD.out.mono ?_
   rintro e w9 ⟨v, rfl, ho9, hc9⟩
   have H9 := Lib.hid (And.intro ho9 hc9)
   clear ho9 hc9 HD
   obtain ⟨A9, c9, hv9, _⟩ := H9.out.1.any
   subst hv9
   go_wp2
   go_ret
   exact ⟨_, rfl, H9.out.1, (Chg.of_below HI2.out.below _).trans H9.out.2⟩
set_option maxRecDepth 100000 in
set_option maxHeartbeats 16000000 in
theorem withoutL_any (B : Nat) (A : Option Addr) (c : Nat) (xs : List Fc.LinkP) (A2 : Option Addr) (n2 c2 : Nat) (ys : List Fc.LinkP) (seen : Nat → Int) (hn : xs.length ≤ 800000) (hn2 : n2 ≤ 800000) (w : World) (ho : OwnK w B 51 25 Fc.linkC (.slice A xs.length c) xs) (hr : Fc.SRow w 25 Fc.linkC A2 n2 ys) :
  Calls Tryz.prog 51 #[.slice A xs.length c, .slice A2 n2 c2, .agg (vecC seen), .func (.func 52) #[] #[]] w fun e w' => ∃ v, e = .returned v ∧ OwnK w' B 51 25 Fc.linkC v (xs.filter fun y => !(Vc.hasB seen y.id.1 y.id.2 && decide (countI (ys.map fun y => y.id) y.id = 0))) ∧ Chg (fun q => (Value.slice A xs.length c).ownBlock = some q) w w' := by
 have HR := Lib.hid hr
 have HLY := Lib.hid (show n2 = ys.length from hr.len.symm)
 have HO := Lib.hid ho
 have H0 := Lib.hid (WoI.start w 91 52 seen)
 obtain ⟨fl, hfl⟩ : ∃ fl, fl = xs.filter (fun y => !(Vc.hasB seen y.id.1 y.id.2 && decide (countI (ys.map fun y => y.id) y.id = 0))) := ⟨_, rfl⟩
 rw [← hfl]
 have HFL := Lib.hid hfl
 clear hfl
 obtain ⟨n, hnx⟩ : ∃ n, n = xs.length := ⟨_, rfl⟩
 have HNX := Lib.hid (And.intro hnx hn)
 rw [← hnx]
 clear hr ho hnx hn
 have hmm := @run_makeMap Tryz.prog
 go_enter Tryz.func51, Tryz.ntmps51
 go_wp2
 go_loopw [15] (fun i wr => ∃ j : Nat, i = .int .i64 j ∧ j ≤ n2 ∧ Hid (WoI w wr 91 52 seen (ys.take j |>.map fun y => y.id))) (fun i _ => n2 - (intOf i).toNat)
 case atStart => exact ⟨0, rfl, Nat.zero_le _, H0⟩
 case round =>
  clear H0
  obtain ⟨j, rfl, hj, HI⟩ := hrel
  by_cases hlt : j < n2
  ·obtain ⟨bk, off, hA, hbl, hxj, mr⟩ := (HR.out.below HI.out.below).range (i := j) hlt
   obtain ⟨y, hy⟩ : ∃ y, ys[j] = y := ⟨_, rfl⟩
   have HNEXT := Lib.hid (show (ys.take (j + 1)).map (fun y => y.id) = (ys.take j).map (fun y => y.id) ++ [y.id] from by rw [List.take_succ_eq_append_getElem hxj, hy, List.map_append]; rfl)
   rw [hy] at mr
   have MR := Lib.hid mr
   have hcl := cntI_le ((ys.take j).map fun y => y.id) y.id
   have hcl2 : ((ys.take j).map fun y => y.id).length ≤ 800000 := by rw [List.length_map, List.length_take]; omega
   obtain ⟨cz, hcz⟩ : ∃ cz : Int, cz = (countI ((ys.take j).map fun y => y.id) y.id : Int) := ⟨_, rfl⟩
   have HCZ := Lib.hid hcz
   have hczb : 0 ≤ cz ∧ cz ≤ 800000 := by omega
   have hbn := (Below.refl wr.heap.size wr).alloc (Nat.le_refl _) (.cells (Fc.linkC y) 51)
   have HI1 := Lib.hid ((HI.out.low hbn).low (Below.refl _ _).drew)
   obtain ⟨gx, hgx⟩ : ∃ gx, gx = wr.heap.size := ⟨_, rfl⟩
   have HGX := Lib.hid hgx
   have HGW := Lib.hid (show w.heap.size + 1 + 1 + 1 < gx from by rw [hgx]; exact HI.out.k9.bound)
   have HY1 := Lib.hid (show Has (wr.alloc (.cells (Fc.linkC y) 51)).drew gx 51 (Fc.linkC y) from by rw [hgx]; exact (Has.fresh wr 51 (Fc.linkC y)).drew)
   rw [hA]
   clear mr hy hA hbl hxj HI hcz hcl hcl2 hbn hgx
   go_wp2_with (first | ((with_reducible refine Who.wpList_loadC 51 (.tmp 17) rfl (bk) (off + j * 25) (Fc.linkC y) ?_); refine And.intro ⟨by rfl, by rfl, ⟨_, Tryz.underlying51, rfl⟩, info_link⟩ (And.intro (MR.out) ?_); (try simp only [Act.put, List.setIfInBounds_toArray, List.set_cons_zero, List.set_cons_succ])) | ((with_reducible refine Who.wpList_newC 51 11 (.tmp 18) rfl rfl rfl (zeroL) (Fc.linkC y) ?_); refine And.intro ⟨rfl, rfl, rfl, allocL, by rfl, by rfl, info_link, rfl, own1 y⟩ ?_; (try simp only [Act.put, List.setIfInBounds_toArray, List.set_cons_zero, List.set_cons_succ]); (try simp only [World.size_alloc])) | fail)
   rw [← HGX.out]
   have HKM := Lib.hid (show ∃ m, KMap stK (wr.alloc (.cells (Fc.linkC y) 51)).drew (w.heap.size + 1 + 1) m ∧ (m y.id).getD (.int .i64 0) = .int .i64 cz from by
    obtain ⟨m, h1, h2⟩ := HI1.out.km
    exact ⟨m, h1, by rw [cntI_get h2, HCZ.out]⟩)
   refine wp_region_G 8 (S := fun V => V.cell? ⟨w.heap.size + 1, 0, none⟩ = some (.func (.func 52) #[] #[]) ∧ V.cell? ⟨w.heap.size + 1 + 1 + 1, 0, none⟩ = some (.map (some (w.heap.size + 1 + 1))) ∧ Has V gx 51 (Fc.linkC y) ∧ ∃ m, KMap stK V (w.heap.size + 1 + 1) m ∧ (m y.id).getD (.int .i64 0) = .int .i64 cz) (by kernel_rfl) ⟨HI1.out.k7.at_ 0, HI1.out.k9.at_ 0, HY1.out, HKM.out⟩ (fun hHeld hCl => ?_)
   refine wpAnyG_read (i := 0) (d := some 19) (v := .map (some (w.heap.size + 1 + 1))) (by rfl) (by rfl) (by kernel_rfl) (by kernel_rfl) (by kernel_rfl) (by kernel_rfl) (by assumption) (fun _ _ _ h => h) (by rfl) ?hy7 (by assumption) (fun hCl hHeld => ?rest7)
   case hy7 =>
    intro V hSw
    have c := hSw.2.1
    go_simp
   (try simp only [Act.put, List.setIfInBounds_toArray, List.set_cons_zero, List.set_cons_succ])
   refine wpAnyG_read (i := 1) (d := some 20) (v := .func (.func 52) #[] #[]) (by rfl) (by rfl) (by kernel_rfl) (by kernel_rfl) (by kernel_rfl) (by kernel_rfl) (by assumption) (fun _ _ _ h => h) (by rfl) ?hy8 (by assumption) (fun hCl hHeld => ?rest8)
   case hy8 =>
    intro V hSw
    have c := hSw.1
    go_simp
   (try simp only [Act.put, List.setIfInBounds_toArray, List.set_cons_zero, List.set_cons_succ])
   refine wpAnyG_read (i := 2) (d := some 21) (v := .agg (Fc.linkC y)) (by rfl) (by rfl) (by kernel_rfl) (by kernel_rfl) (by kernel_rfl) (by kernel_rfl) (by assumption) (fun _ _ _ h => h) (by rfl) ?hy9 (by assumption) (fun hCl hHeld => ?rest9)
   case hy9 =>
    intro V hSw
    exact Who.exec_loadA _ rfl rfl (Who.has_range hSw.2.2.1) Tryz.underlying51 rfl info_link
   (try simp only [Act.put, List.setIfInBounds_toArray, List.set_cons_zero, List.set_cons_succ])
   refine wpAnyG_ready (rs := [3]) (by kernel_rfl) (by simp) ?_
   refine AllReadyG.cons rfl (by assumption) (by kernel_rfl) (fun K hK => ?_) AllReadyG.nil
   go_simp
   go_at_call 52
   refine (linkId_any y _).mono ?_
   rintro e w3 ⟨rfl, hb⟩
   have HI2 := Lib.hid (HI1.out.low hb)
   have HY2 := Lib.hid (HY1.out.below hb)
   have HKM2 := Lib.hid (show ∃ m, KMap stK w3 (w.heap.size + 1 + 1) m ∧ CntI ((ys.take j).map fun y => y.id) m from HI2.out.km)
   clear hb HI1 HY1 HKM
   obtain ⟨m, hm1, hm2⟩ := HKM2.out
   have HMZ := Lib.hid (show (m y.id).getD (.int .i64 0) = .int .i64 cz from by rw [cntI_get hm2, HCZ.out])
   have HM1 := Lib.hid hm1
   have HM2 := Lib.hid hm2
   clear hm1 hm2 HKM2
   refine hK.out _ _ (fun _ => ⟨HI2.out.k7.at_ 0, HI2.out.k9.at_ 0, HY2.out, m, HM1.out, HMZ.out⟩) (fun hHeld hCl => ?_)
   clear hK K
   (try simp only [Act.put, List.setIfInBounds_toArray, List.set_cons_zero, List.set_cons_succ])
   refine wpAnyG_read (i := 4) (d := some 23) (v := .int .i64 cz) (by rfl) (by rfl) (by kernel_rfl) (by kernel_rfl) (by kernel_rfl) (by kernel_rfl) (by assumption) (fun _ _ _ h => h) (by rfl) ?hy10 (by assumption) (fun hCl hHeld => ?rest10)
   case hy10 =>
    intro V hSw
    obtain ⟨m3, g1, g2⟩ := hSw.2.2.2
    have hk : (Instr.lookup 98 (.map (some (w.heap.size + 1 + 1))) (.agg #[.int .i64 y.id.1, .int .i64 y.id.2]) false).run Tryz.prog V = .ok (.int .i64 cz) V := by have q := (KMap.lookup Tryz.underlying98 stKeys g1 (.int .i64 0) Tryz.zeroValue3 y.id).1; rw [g2] at q; exact q
    go_simp
   (try simp only [Act.put, List.setIfInBounds_toArray, List.set_cons_zero, List.set_cons_succ])
   refine wpAnyG_read (i := 5) (d := some 24) (v := .int .i64 (cz + 1)) (by rfl) (by rfl) (by kernel_rfl) (by kernel_rfl) (by kernel_rfl) (by kernel_rfl) (by assumption) (fun _ _ _ h => h) (by rfl) ?hy11 (by assumption) (fun hCl hHeld => ?rest11)
   case hy11 =>
    intro V hSw
    have hwr : IntKind.i64.wrap (cz + 1) = cz + 1 := by rw [IntKind.wrap_i64] <;> omega
    go_simp
   (try simp only [Act.put, List.setIfInBounds_toArray, List.set_cons_zero, List.set_cons_succ])
   refine wpAnyG_ready (rs := [6]) (by kernel_rfl) (by simp) ?_
   refine AllReadyG.cons rfl (by assumption) (by kernel_rfl) (fun K hK => ?_) AllReadyG.nil
   refine step_entry 25 (w.heap.size + 1 + 1) m y.id (.tmp 19) (.tmp 22) (by rfl) (by rfl) ?_
   refine And.intro ⟨by rfl, by rfl, by rfl, HM1.out⟩ ?_
   intro q w4 k4 c4 r4
   rw [HMZ.out]
   obtain ⟨w5, r5, k5, c5⟩ := r4.out (.int .i64 (cz + 1))
   have HY4 := Lib.hid (HY2.out.over c4.out (by have := HGW.out; omega))
   have HK7 := Lib.hid (HI2.out.k7.over c4.out (by omega))
   have HK9 := Lib.hid (HI2.out.k9.over c4.out (by omega))
   have HK5 := Lib.hid (And.intro r5 (And.intro k5 c5))
   clear r4 r5 k5 c5
   refine hK.out _ _ (fun _ => ⟨HK7.out.at_ 0, HK9.out.at_ 0, HY4.out, _, k4.out, by rw [updK_same]; exact HMZ.out⟩) (fun hHeld hCl => ?_)
   clear hK K
   (try simp only [Act.put, List.setIfInBounds_toArray, List.set_cons_zero, List.set_cons_succ])
   refine wpAnyG_read (i := 7) (d := some 26) (v := .int .i64 q) (by rfl) (by rfl) (by kernel_rfl) (by kernel_rfl) (by kernel_rfl) (by kernel_rfl) (by assumption) (fun _ _ _ h => h) (by rfl) ?hy12 (by assumption) (fun hCl hHeld => ?rest12)
   case hy12 =>
    intro V hSw
    go_simp
   (try simp only [Act.put, List.setIfInBounds_toArray, List.set_cons_zero, List.set_cons_succ])
   refine wpAnyG_ready (rs := [8]) (by kernel_rfl) (by simp) ?_
   refine AllReadyG.cons rfl (by assumption) (by kernel_rfl) (fun K hK => ?_) AllReadyG.nil
   refine step_enter (w3 := w5) (w.heap.size + 1 + 1) q (.int .i64 (cz + 1)) (.tmp 19) (.tmp 26) (.tmp 24) (by rfl) ?_
   refine And.intro ⟨by rfl, by rfl, by rfl, by rfl, by rfl, HK5.out.1⟩ ?_
   refine hK.out _ _ (late (by rfl)) (fun hHeld hCl => ?_)
   clear hK K
   (try simp only [Act.put, List.setIfInBounds_toArray, List.set_cons_zero, List.set_cons_succ])
   refine wpAnyG_done (by kernel_rfl) ?_ _
   have HI5 := Lib.hid (show WoI w w5 91 52 seen ((ys.take (j + 1)).map fun y => y.id) from ⟨below_step (below_step HI2.out.below c4.out (by omega)) HK5.out.2.2 (by omega), (HI2.out.k6.over c4.out (by omega)).over HK5.out.2.2 (by omega), HK7.out.over HK5.out.2.2 (by omega), HK9.out.over HK5.out.2.2 (by omega), ⟨_, HK5.out.2.1, by rw [HNEXT.out, HCZ.out]; exact cntI_snoc HM2.out⟩⟩)
   clear HI2 c4 k4 HK5 HK7 HK9 HY4 HY2 HM1 HM2 HMZ HNEXT HCZ
   go_wp2
   go_roundw
   case rel => exact ⟨j + 1, by go_num, by omega, HI5⟩
   case measure => simp [intOf]; omega
  ·have hjn : j = n2 := by omega
   have HI2 := Lib.hid (show WoI w wr 91 52 seen (ys.map fun y => y.id) from by have q := HI.out; rw [hjn, HLY.out, List.take_length] at q; exact q)
   have HD := Lib.hid (show Calls Tryz.prog 98 #[.slice A n c, .func (.func 99) #[] #[.pointer (some ⟨w.heap.size, 0, none⟩), .pointer (some ⟨w.heap.size + 1, 0, none⟩), .pointer (some ⟨w.heap.size + 1 + 1 + 1, 0, none⟩)]] wr fun e w' => ∃ v, e = .returned v ∧ OwnK w' B 51 25 Fc.linkC v fl ∧ Chg (fun q => (Value.slice A n c).ownBlock = some q) wr w' from by
    rw [HNX.out.1, HFL.out]
    refine deleteL_any B A c xs 99 #[.pointer (some ⟨w.heap.size, 0, none⟩), .pointer (some ⟨w.heap.size + 1, 0, none⟩), .pointer (some ⟨w.heap.size + 1 + 1 + 1, 0, none⟩)] (fun args V => entersW (P := Tryz.prog) (f := 99) Tryz.func99 (by rfl) (by rfl) args V) (fun y => Vc.hasB seen y.id.1 y.id.2 && decide (countI (ys.map fun y => y.id) y.id = 0)) HNX.out.2 wr (HO.out.below HI2.out.below) (fun V hV x hx => ?_)
    have hlow : ∀ q, (Value.slice A xs.length c).ownBlock = some q → q < w.heap.size := fun q hq => (World.ownsRow.lt HO.out q hq).2
    refine closL_any w.heap.size (w.heap.size + 1) (w.heap.size + 1 + 1 + 1) (w.heap.size + 1 + 1) seen (ys.map fun y => y.id) x V (HI2.out.k6.over hV fun e => by have := hlow _ e; omega) (HI2.out.k7.over hV fun e => by have := hlow _ e; omega) (HI2.out.k9.over hV fun e => by have := hlow _ e; omega) ?_
    obtain ⟨m, h1, h2⟩ := HI2.out.km
    exact ⟨m, h1.over hV (fun e => by have := hlow _ e; omega), h2⟩)
   clear HI hjn
   go_wp2_with fail
   refine HD.out.mono ?_
   rintro e w9 ⟨v, rfl, ho9, hc9⟩
   have H9 := Lib.hid (And.intro ho9 hc9)
   clear ho9 hc9 HD
   obtain ⟨A9, c9, hv9, _⟩ := H9.out.1.any
   subst hv9
   go_wp2
   go_ret
   exact ⟨_, rfl, H9.out.1, (Chg.of_below HI2.out.below _).trans H9.out.2⟩
end Go.Proofs.YtblogecapegbmaaGreat.Jn
