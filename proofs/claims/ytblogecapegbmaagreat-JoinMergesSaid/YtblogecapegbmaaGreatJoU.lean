/- Join: what the closures of without answer. -/
import Derived.Test.YtblogecapegbmaaGreatJoT
import Derived.Test.YtblogecapegbmaaGreatJnN
import Derived.Test.YtblogecapegbmaaGreatVcB
namespace Go.Proofs.YtblogecapegbmaaGreat.Jn
open Go.RowKit Go.Proofs.YtblogecapegbmaaGreat.Mem Go.Proofs.YtblogecapegbmaaGreat.Fc
open Go.Proofs.YtblogecapegbmaaGreat.Vc (vecC)
set_option linter.unusedVariables false set_option linter.unusedSimpArgs false set_option linter.unusedSectionVars false

def countI (l : List St) (id : St) : Nat := (l.filter fun z => decide (z = id)).length
def CntI (l : List St) (m : Int × Int → Option Value) : Prop := ∀ id, m id = if countI l id = 0 then none else some (.int .i64 (countI l id : Int))
theorem cntI_nil : CntI [] (fun _ => none) := fun id => by simp [countI]
theorem cntI_get {l : List St} {m : Int × Int → Option Value} (h : CntI l m) (id : St) : (m id).getD (.int .i64 0) = .int .i64 (countI l id : Int) := by
 rw [h id]
 split
 ·rename_i e; rw [e]; rfl
 ·rfl
theorem cntI_snoc {l : List St} {z : St} {m : Int × Int → Option Value} (h : CntI l m) : CntI (l ++ [z]) (updK m z (.int .i64 ((countI l z : Int) + 1))) := fun id => by
 have e : countI (l ++ [z]) id = countI l id + if z = id then 1 else 0 := by
  unfold countI
  rw [List.filter_append, List.length_append]
  by_cases k : z = id <;> simp [List.filter_cons, k]
 by_cases k : id = z
 ·subst k
  rw [updK_same, e, if_pos rfl, if_neg (by omega)]
  simp
 ·rw [updK_other _ _ k, h id, e, show (if z = id then 1 else 0) = 0 from if_neg (fun q => k q.symm), Nat.add_zero]
theorem cntI_le (l : List St) (id : St) : countI l id ≤ l.length := List.length_filter_le _ _
theorem cntI_zero {l : List St} {id : St} : countI l id = 0 ↔ ∀ z ∈ l, z ≠ id := by
 unfold countI
 rw [List.length_eq_zero_iff, List.filter_eq_nil_iff]
 simp
set_option maxRecDepth 100000 in
set_option maxHeartbeats 16000000 in
theorem closN_any (g6 g7 g9 b : Nat) (seen : Nat → Int) (l : List St) (x : Fc.NodeC) (w : World) (h6 : Has w g6 23 (vecC seen)) (h7 : Has w g7 89 #[.func (.func 50) #[] #[]]) (h9 : Has w g9 98 #[.map (some b)]) (hm : ∃ m, KMap stK w b m ∧ CntI l m) :
  Calls Tryz.prog 97 #[.agg (Fc.nodeC x), .pointer (some ⟨g6, 0, none⟩), .pointer (some ⟨g7, 0, none⟩), .pointer (some ⟨g9, 0, none⟩)] w fun e w' => e = .returned (.bool (Vc.hasB seen x.p.id.1 x.p.id.2 && decide (countI l x.p.id = 0))) ∧ Below w.heap.size w w' := by
 have hbn := (Below.refl w.heap.size w).alloc (Nat.le_refl _) (.cells (Fc.nodeC x) 46)
 have HI_2 := Lib.hid hbn.drew
 have K6_2 := Lib.hid (h6.below hbn).drew
 have K7_2 := Lib.hid (h7.below hbn).drew
 have K9_2 := Lib.hid (h9.below hbn).drew
 have KX_2 := Lib.hid (Has.fresh w 46 (Fc.nodeC x)).drew
 have KM_2 := Lib.hid (show ∃ m, KMap stK (w.alloc (.cells (Fc.nodeC x) 46)).drew b m ∧ CntI l m from by
  obtain ⟨m, h1, h2⟩ := hm
  exact ⟨m, (h1.below hbn).drew, h2⟩)
 obtain ⟨cz, hcz⟩ : ∃ cz : Nat, cz = countI l x.p.id := ⟨_, rfl⟩
 have HCZ := Lib.hid hcz
 rw [← hcz]
 clear h6 h7 h9 hm hbn hcz
 go_enter Tryz.func97, Tryz.ntmps97
 obtain ⟨z, hz⟩ : ∃ z, Vc.hasB seen x.p.id.1 x.p.id.2 = z := ⟨_, rfl⟩
 have HH := Lib.hid (fun V => (show Calls Tryz.prog 69 #[.agg (vecC seen), .agg #[.int .i64 x.p.id.1, .int .i64 x.p.id.2]] V fun e w' => e = .returned (.bool z) ∧ Below V.heap.size V w' from by rw [← hz]; exact Vc.has_any seen x.p.id.1 x.p.id.2 V))
 rw [hz]
 clear hz
 go_wp2_with fail
 cases z with
 | false =>
  refine wp_region_held_drew (S := fun V => Has V g6 23 (vecC seen) ∧ V.cell? ⟨g7, 0, none⟩ = some (.func (.func 50) #[] #[]) ∧ V.cell? ⟨g9, 0, none⟩ = some (.map (some b)) ∧ Has V w.heap.size 46 (Fc.nodeC x) ∧ ∃ m, KMap stK V b m ∧ CntI l m) (by kernel_rfl) ⟨K6_2.out, K7_2.out.at_ 0, K9_2.out.at_ 0, KX_2.out, KM_2.out⟩ (fun hHeld => ?_)
  refine Vc.wpAnyH_rd (i := 0) (d := some 6) (v := .agg (vecC seen)) ?hy2001 ?rest2001
  case hy2001 =>
   intro w hSw
   exact Who.exec_loadA _ rfl rfl (Who.has_range hSw.1) Tryz.underlying23 rfl info_vec
  try simp only [Act.put, List.setIfInBounds_toArray, List.set_cons_zero, List.set_cons_succ]
  refine Vc.wpAnyH_rd (i := 1) (d := some 7) (v := .func (.func 50) #[] #[]) ?hy2002 ?rest2002
  case hy2002 =>
   intro w hSw
   have c := hSw.2.1; go_simp
  try simp only [Act.put, List.setIfInBounds_toArray, List.set_cons_zero, List.set_cons_succ]
  refine Vc.wpAnyH_rd (i := 2) (d := some 8) (v := .agg (Fc.nodeC x)) ?hy2003 ?rest2003
  case hy2003 =>
   intro w hSw
   exact Who.exec_loadA _ rfl rfl (Who.has_range hSw.2.2.2.1) Tryz.underlying46 rfl infoN
  try simp only [Act.put, List.setIfInBounds_toArray, List.set_cons_zero, List.set_cons_succ]
  refine wpAnyH_ready (rs := [3]) (by kernel_rfl) (by simp) ?_
  refine AllReadyH.cons rfl (fun K hK => ?_) AllReadyH.nil
  go_simp
  go_at_call 50
  refine (nodeId_any x _).mono ?_
  rintro e w13 ⟨rfl, hb⟩
  have HI_3 := Lib.hid (HI_2.out.trans (hb.mono HI_2.out.size))
  have K6_3 := Lib.hid (K6_2.out.below hb)
  have K7_3 := Lib.hid (K7_2.out.below hb)
  have K9_3 := Lib.hid (K9_2.out.below hb)
  have KX_3 := Lib.hid (KX_2.out.below hb)
  have KM_3 := Lib.hid (show ∃ m, KMap stK w13 b m ∧ CntI l m from by obtain ⟨m, h1, h2⟩ := KM_2.out; exact ⟨m, h1.below hb, h2⟩)
  clear hb HI_2 K6_2 K7_2 K9_2 KX_2 KM_2
  refine hK.out _ _ ⟨K6_3.out, K7_3.out.at_ 0, K9_3.out.at_ 0, KX_3.out, KM_3.out⟩ (fun hHeld => ?_)
  clear hK K
  try simp only [Act.put, List.setIfInBounds_toArray, List.set_cons_zero, List.set_cons_succ]
  refine wpAnyH_ready (rs := [4]) (by kernel_rfl) (by simp) ?_
  refine AllReadyH.cons rfl (fun K hK => ?_) AllReadyH.nil
  go_simp
  go_at_call 69
  refine (HH.out _).mono ?_
  rintro e w14 ⟨rfl, hb⟩
  have HI_4 := Lib.hid (HI_3.out.trans (hb.mono HI_3.out.size))
  have K6_4 := Lib.hid (K6_3.out.below hb)
  have K7_4 := Lib.hid (K7_3.out.below hb)
  have K9_4 := Lib.hid (K9_3.out.below hb)
  have KX_4 := Lib.hid (KX_3.out.below hb)
  have KM_4 := Lib.hid (show ∃ m, KMap stK w14 b m ∧ CntI l m from by obtain ⟨m, h1, h2⟩ := KM_3.out; exact ⟨m, h1.below hb, h2⟩)
  clear hb HI_3 K6_3 K7_3 K9_3 KX_3 KM_3
  refine hK.out _ _ ⟨K6_4.out, K7_4.out.at_ 0, K9_4.out.at_ 0, KX_4.out, KM_4.out⟩ (fun hHeld => ?_)
  clear hK K
  try simp only [Act.put, List.setIfInBounds_toArray, List.set_cons_zero, List.set_cons_succ]
  refine Vc.wpAnyH_rd (i := 5) (d := some 11) (v := ?v2004) ?hy2004 ?rest2004
  case hy2004 =>
   intro w hSw
   try dsimp only at hSw
   go_simp
   try with_reducible rfl
  try simp only [Act.put, List.setIfInBounds_toArray, List.set_cons_zero, List.set_cons_succ]
  refine Vc.wpAnyH_skip (i := 6) (d := some 12) (by rfl) (by rfl) (by kernel_rfl) (by kernel_rfl) (by kernel_rfl) (fun _ _ _ h => h) (by rfl) (by assumption) ?_
  try simp only [Act.put, List.setIfInBounds_toArray, List.set_cons_zero, List.set_cons_succ]
  refine Vc.wpAnyH_skip (i := 7) (d := some 13) (by rfl) (by rfl) (by kernel_rfl) (by kernel_rfl) (by kernel_rfl) (fun _ _ _ h => h) (by rfl) (by assumption) ?_
  try simp only [Act.put, List.setIfInBounds_toArray, List.set_cons_zero, List.set_cons_succ]
  refine Vc.wpAnyH_skip (i := 8) (d := some 14) (by rfl) (by rfl) (by kernel_rfl) (by kernel_rfl) (by kernel_rfl) (fun _ _ _ h => h) (by rfl) (by assumption) ?_
  try simp only [Act.put, List.setIfInBounds_toArray, List.set_cons_zero, List.set_cons_succ]
  refine Vc.wpAnyH_skip (i := 9) (d := some 15) (by rfl) (by rfl) (by kernel_rfl) (by kernel_rfl) (by kernel_rfl) (fun _ _ _ h => h) (by rfl) (by assumption) ?_
  try simp only [Act.put, List.setIfInBounds_toArray, List.set_cons_zero, List.set_cons_succ]
  refine Vc.wpAnyH_skip (i := 10) (d := some 16) (by rfl) (by rfl) (by kernel_rfl) (by kernel_rfl) (by kernel_rfl) (fun _ _ _ h => h) (by rfl) (by assumption) ?_
  try simp only [Act.put, List.setIfInBounds_toArray, List.set_cons_zero, List.set_cons_succ]
  refine Vc.wpAnyH_skip (i := 11) (d := some 17) (by rfl) (by rfl) (by kernel_rfl) (by kernel_rfl) (by kernel_rfl) (fun _ _ _ h => h) (by rfl) (by assumption) ?_
  try simp only [Act.put, List.setIfInBounds_toArray, List.set_cons_zero, List.set_cons_succ]
  refine Vc.wpAnyH_rd (i := 12) (d := some 18) (v := ?v2011) ?hy2011 ?rest2011
  case hy2011 =>
   intro w hSw
   try dsimp only at hSw
   go_simp
   try with_reducible rfl
  try simp only [Act.put, List.setIfInBounds_toArray, List.set_cons_zero, List.set_cons_succ]
  refine Vc.wpAnyH_rd (i := 13) (d := some 5) (v := ?v2012) ?hy2012 ?rest2012
  case hy2012 =>
   intro w hSw
   try dsimp only at hSw
   go_simp
   try with_reducible rfl
  try simp only [Act.put, List.setIfInBounds_toArray, List.set_cons_zero, List.set_cons_succ]
  refine wpAnyH_done (by kernel_rfl) ?_ _
  go_wp2
  go_ret
  exact ⟨by first | rfl | simp, HI_4.out⟩
 | true =>
  refine wp_region_held_drew (S := fun V => Has V g6 23 (vecC seen) ∧ V.cell? ⟨g7, 0, none⟩ = some (.func (.func 50) #[] #[]) ∧ V.cell? ⟨g9, 0, none⟩ = some (.map (some b)) ∧ Has V w.heap.size 46 (Fc.nodeC x) ∧ ∃ m, KMap stK V b m ∧ CntI l m) (by kernel_rfl) ⟨K6_2.out, K7_2.out.at_ 0, K9_2.out.at_ 0, KX_2.out, KM_2.out⟩ (fun hHeld => ?_)
  refine Vc.wpAnyH_rd (i := 0) (d := some 6) (v := .agg (vecC seen)) ?hy3001 ?rest3001
  case hy3001 =>
   intro w hSw
   exact Who.exec_loadA _ rfl rfl (Who.has_range hSw.1) Tryz.underlying23 rfl info_vec
  try simp only [Act.put, List.setIfInBounds_toArray, List.set_cons_zero, List.set_cons_succ]
  refine Vc.wpAnyH_rd (i := 1) (d := some 7) (v := .func (.func 50) #[] #[]) ?hy3002 ?rest3002
  case hy3002 =>
   intro w hSw
   have c := hSw.2.1; go_simp
  try simp only [Act.put, List.setIfInBounds_toArray, List.set_cons_zero, List.set_cons_succ]
  refine Vc.wpAnyH_rd (i := 2) (d := some 8) (v := .agg (Fc.nodeC x)) ?hy3003 ?rest3003
  case hy3003 =>
   intro w hSw
   exact Who.exec_loadA _ rfl rfl (Who.has_range hSw.2.2.2.1) Tryz.underlying46 rfl infoN
  try simp only [Act.put, List.setIfInBounds_toArray, List.set_cons_zero, List.set_cons_succ]
  refine wpAnyH_ready (rs := [3]) (by kernel_rfl) (by simp) ?_
  refine AllReadyH.cons rfl (fun K hK => ?_) AllReadyH.nil
  go_simp
  go_at_call 50
  refine (nodeId_any x _).mono ?_
  rintro e w13 ⟨rfl, hb⟩
  have HI_3 := Lib.hid (HI_2.out.trans (hb.mono HI_2.out.size))
  have K6_3 := Lib.hid (K6_2.out.below hb)
  have K7_3 := Lib.hid (K7_2.out.below hb)
  have K9_3 := Lib.hid (K9_2.out.below hb)
  have KX_3 := Lib.hid (KX_2.out.below hb)
  have KM_3 := Lib.hid (show ∃ m, KMap stK w13 b m ∧ CntI l m from by obtain ⟨m, h1, h2⟩ := KM_2.out; exact ⟨m, h1.below hb, h2⟩)
  clear hb HI_2 K6_2 K7_2 K9_2 KX_2 KM_2
  refine hK.out _ _ ⟨K6_3.out, K7_3.out.at_ 0, K9_3.out.at_ 0, KX_3.out, KM_3.out⟩ (fun hHeld => ?_)
  clear hK K
  try simp only [Act.put, List.setIfInBounds_toArray, List.set_cons_zero, List.set_cons_succ]
  refine wpAnyH_ready (rs := [4]) (by kernel_rfl) (by simp) ?_
  refine AllReadyH.cons rfl (fun K hK => ?_) AllReadyH.nil
  go_simp
  go_at_call 69
  refine (HH.out _).mono ?_
  rintro e w14 ⟨rfl, hb⟩
  have HI_4 := Lib.hid (HI_3.out.trans (hb.mono HI_3.out.size))
  have K6_4 := Lib.hid (K6_3.out.below hb)
  have K7_4 := Lib.hid (K7_3.out.below hb)
  have K9_4 := Lib.hid (K9_3.out.below hb)
  have KX_4 := Lib.hid (KX_3.out.below hb)
  have KM_4 := Lib.hid (show ∃ m, KMap stK w14 b m ∧ CntI l m from by obtain ⟨m, h1, h2⟩ := KM_3.out; exact ⟨m, h1.below hb, h2⟩)
  clear hb HI_3 K6_3 K7_3 K9_3 KX_3 KM_3
  refine hK.out _ _ ⟨K6_4.out, K7_4.out.at_ 0, K9_4.out.at_ 0, KX_4.out, KM_4.out⟩ (fun hHeld => ?_)
  clear hK K
  try simp only [Act.put, List.setIfInBounds_toArray, List.set_cons_zero, List.set_cons_succ]
  refine Vc.wpAnyH_rd (i := 5) (d := some 11) (v := ?v3004) ?hy3004 ?rest3004
  case hy3004 =>
   intro w hSw
   try dsimp only at hSw
   go_simp
   try with_reducible rfl
  try simp only [Act.put, List.setIfInBounds_toArray, List.set_cons_zero, List.set_cons_succ]
  refine Vc.wpAnyH_rd (i := 6) (d := some 12) (v := .map (some b)) ?hy3005 ?rest3005
  case hy3005 =>
   intro w hSw
   have c := hSw.2.2.1; go_simp
  try simp only [Act.put, List.setIfInBounds_toArray, List.set_cons_zero, List.set_cons_succ]
  refine Vc.wpAnyH_rd (i := 7) (d := some 13) (v := .func (.func 50) #[] #[]) ?hy3006 ?rest3006
  case hy3006 =>
   intro w hSw
   have c := hSw.2.1; go_simp
  try simp only [Act.put, List.setIfInBounds_toArray, List.set_cons_zero, List.set_cons_succ]
  refine Vc.wpAnyH_rd (i := 8) (d := some 14) (v := .agg (Fc.nodeC x)) ?hy3007 ?rest3007
  case hy3007 =>
   intro w hSw
   exact Who.exec_loadA _ rfl rfl (Who.has_range hSw.2.2.2.1) Tryz.underlying46 rfl infoN
  try simp only [Act.put, List.setIfInBounds_toArray, List.set_cons_zero, List.set_cons_succ]
  refine wpAnyH_ready (rs := [9]) (by kernel_rfl) (by simp) ?_
  refine AllReadyH.cons rfl (fun K hK => ?_) AllReadyH.nil
  go_simp
  go_at_call 50
  refine (nodeId_any x _).mono ?_
  rintro e w15 ⟨rfl, hb⟩
  have HI_5 := Lib.hid (HI_4.out.trans (hb.mono HI_4.out.size))
  have K6_5 := Lib.hid (K6_4.out.below hb)
  have K7_5 := Lib.hid (K7_4.out.below hb)
  have K9_5 := Lib.hid (K9_4.out.below hb)
  have KX_5 := Lib.hid (KX_4.out.below hb)
  have KM_5 := Lib.hid (show ∃ m, KMap stK w15 b m ∧ CntI l m from by obtain ⟨m, h1, h2⟩ := KM_4.out; exact ⟨m, h1.below hb, h2⟩)
  clear hb HI_4 K6_4 K7_4 K9_4 KX_4 KM_4
  refine hK.out _ _ ⟨K6_5.out, K7_5.out.at_ 0, K9_5.out.at_ 0, KX_5.out, KM_5.out⟩ (fun hHeld => ?_)
  clear hK K
  try simp only [Act.put, List.setIfInBounds_toArray, List.set_cons_zero, List.set_cons_succ]
  refine Vc.wpAnyH_rd (i := 10) (d := some 16) (v := .int .i64 (cz : Int)) ?hy3008 ?rest3008
  case hy3008 =>
   intro w hSw
   have hk : ∀ V : World, (∃ m, KMap stK V b m ∧ CntI l m) → (Instr.lookup 98 (.map (some b)) (.agg #[.int .i64 x.p.id.1, .int .i64 x.p.id.2]) false).run Tryz.prog V = .ok (.int .i64 (cz : Int)) V := fun V hV => (by obtain ⟨m, h1, h2⟩ := hV; have q := (KMap.lookup Tryz.underlying98 stKeys h1 (.int .i64 0) Tryz.zeroValue3 x.p.id).1; rw [cntI_get h2, ← HCZ.out] at q; exact q)
   have hk2 := fun V => hk V
   have hk3 := hk _ hSw.2.2.2.2
   go_simp
  try simp only [Act.put, List.setIfInBounds_toArray, List.set_cons_zero, List.set_cons_succ]
  refine Vc.wpAnyH_rd (i := 11) (d := some 17) (v := .bool (decide (cz = 0))) ?hy3009 ?rest3009
  case hy3009 =>
   intro w hSw
   have hq : ((cz : Int) == 0) = decide (cz = 0) := by rw [Bool.eq_iff_iff]; simp
   go_simp
   try rfl
  try simp only [Act.put, List.setIfInBounds_toArray, List.set_cons_zero, List.set_cons_succ]
  refine Vc.wpAnyH_rd (i := 12) (d := some 18) (v := ?v3010) ?hy3010 ?rest3010
  case hy3010 =>
   intro w hSw
   try dsimp only at hSw
   go_simp
   try with_reducible rfl
  try simp only [Act.put, List.setIfInBounds_toArray, List.set_cons_zero, List.set_cons_succ]
  refine Vc.wpAnyH_rd (i := 13) (d := some 5) (v := ?v3011) ?hy3011 ?rest3011
  case hy3011 =>
   intro w hSw
   try dsimp only at hSw
   go_simp
   try with_reducible rfl
  try simp only [Act.put, List.setIfInBounds_toArray, List.set_cons_zero, List.set_cons_succ]
  refine wpAnyH_done (by kernel_rfl) ?_ _
  go_wp2
  go_ret
  exact ⟨by first | rfl | simp, HI_5.out⟩
set_option maxRecDepth 100000 in
set_option maxHeartbeats 16000000 in
theorem closL_any (g6 g7 g9 b : Nat) (seen : Nat → Int) (l : List St) (x : Fc.LinkP) (w : World) (h6 : Has w g6 23 (vecC seen)) (h7 : Has w g7 91 #[.func (.func 52) #[] #[]]) (h9 : Has w g9 98 #[.map (some b)]) (hm : ∃ m, KMap stK w b m ∧ CntI l m) :
  Calls Tryz.prog 99 #[.agg (Fc.linkC x), .pointer (some ⟨g6, 0, none⟩), .pointer (some ⟨g7, 0, none⟩), .pointer (some ⟨g9, 0, none⟩)] w fun e w' => e = .returned (.bool (Vc.hasB seen x.id.1 x.id.2 && decide (countI l x.id = 0))) ∧ Below w.heap.size w w' := by
 have hbn := (Below.refl w.heap.size w).alloc (Nat.le_refl _) (.cells (Fc.linkC x) 51)
 have HI_2 := Lib.hid hbn.drew
 have K6_2 := Lib.hid (h6.below hbn).drew
 have K7_2 := Lib.hid (h7.below hbn).drew
 have K9_2 := Lib.hid (h9.below hbn).drew
 have KX_2 := Lib.hid (Has.fresh w 51 (Fc.linkC x)).drew
 have KM_2 := Lib.hid (show ∃ m, KMap stK (w.alloc (.cells (Fc.linkC x) 51)).drew b m ∧ CntI l m from by
  obtain ⟨m, h1, h2⟩ := hm
  exact ⟨m, (h1.below hbn).drew, h2⟩)
 obtain ⟨cz, hcz⟩ : ∃ cz : Nat, cz = countI l x.id := ⟨_, rfl⟩
 have HCZ := Lib.hid hcz
 rw [← hcz]
 clear h6 h7 h9 hm hbn hcz
 go_enter Tryz.func99, Tryz.ntmps99
 obtain ⟨z, hz⟩ : ∃ z, Vc.hasB seen x.id.1 x.id.2 = z := ⟨_, rfl⟩
 have HH := Lib.hid (fun V => (show Calls Tryz.prog 69 #[.agg (vecC seen), .agg #[.int .i64 x.id.1, .int .i64 x.id.2]] V fun e w' => e = .returned (.bool z) ∧ Below V.heap.size V w' from by rw [← hz]; exact Vc.has_any seen x.id.1 x.id.2 V))
 rw [hz]
 clear hz
 go_wp2_with fail
 cases z with
 | false =>
  refine wp_region_held_drew (S := fun V => Has V g6 23 (vecC seen) ∧ V.cell? ⟨g7, 0, none⟩ = some (.func (.func 52) #[] #[]) ∧ V.cell? ⟨g9, 0, none⟩ = some (.map (some b)) ∧ Has V w.heap.size 51 (Fc.linkC x) ∧ ∃ m, KMap stK V b m ∧ CntI l m) (by kernel_rfl) ⟨K6_2.out, K7_2.out.at_ 0, K9_2.out.at_ 0, KX_2.out, KM_2.out⟩ (fun hHeld => ?_)
  refine Vc.wpAnyH_rd (i := 0) (d := some 6) (v := .agg (vecC seen)) ?hy2001 ?rest2001
  case hy2001 =>
   intro w hSw
   exact Who.exec_loadA _ rfl rfl (Who.has_range hSw.1) Tryz.underlying23 rfl info_vec
  try simp only [Act.put, List.setIfInBounds_toArray, List.set_cons_zero, List.set_cons_succ]
  refine Vc.wpAnyH_rd (i := 1) (d := some 7) (v := .func (.func 52) #[] #[]) ?hy2002 ?rest2002
  case hy2002 =>
   intro w hSw
   have c := hSw.2.1; go_simp
  try simp only [Act.put, List.setIfInBounds_toArray, List.set_cons_zero, List.set_cons_succ]
  refine Vc.wpAnyH_rd (i := 2) (d := some 8) (v := .agg (Fc.linkC x)) ?hy2003 ?rest2003
  case hy2003 =>
   intro w hSw
   exact Who.exec_loadA _ rfl rfl (Who.has_range hSw.2.2.2.1) Tryz.underlying51 rfl info_link
  try simp only [Act.put, List.setIfInBounds_toArray, List.set_cons_zero, List.set_cons_succ]
  refine wpAnyH_ready (rs := [3]) (by kernel_rfl) (by simp) ?_
  refine AllReadyH.cons rfl (fun K hK => ?_) AllReadyH.nil
  go_simp
  go_at_call 52
  refine (linkId_any x _).mono ?_
  rintro e w13 ⟨rfl, hb⟩
  have HI_3 := Lib.hid (HI_2.out.trans (hb.mono HI_2.out.size))
  have K6_3 := Lib.hid (K6_2.out.below hb)
  have K7_3 := Lib.hid (K7_2.out.below hb)
  have K9_3 := Lib.hid (K9_2.out.below hb)
  have KX_3 := Lib.hid (KX_2.out.below hb)
  have KM_3 := Lib.hid (show ∃ m, KMap stK w13 b m ∧ CntI l m from by obtain ⟨m, h1, h2⟩ := KM_2.out; exact ⟨m, h1.below hb, h2⟩)
  clear hb HI_2 K6_2 K7_2 K9_2 KX_2 KM_2
  refine hK.out _ _ ⟨K6_3.out, K7_3.out.at_ 0, K9_3.out.at_ 0, KX_3.out, KM_3.out⟩ (fun hHeld => ?_)
  clear hK K
  try simp only [Act.put, List.setIfInBounds_toArray, List.set_cons_zero, List.set_cons_succ]
  refine wpAnyH_ready (rs := [4]) (by kernel_rfl) (by simp) ?_
  refine AllReadyH.cons rfl (fun K hK => ?_) AllReadyH.nil
  go_simp
  go_at_call 69
  refine (HH.out _).mono ?_
  rintro e w14 ⟨rfl, hb⟩
  have HI_4 := Lib.hid (HI_3.out.trans (hb.mono HI_3.out.size))
  have K6_4 := Lib.hid (K6_3.out.below hb)
  have K7_4 := Lib.hid (K7_3.out.below hb)
  have K9_4 := Lib.hid (K9_3.out.below hb)
  have KX_4 := Lib.hid (KX_3.out.below hb)
  have KM_4 := Lib.hid (show ∃ m, KMap stK w14 b m ∧ CntI l m from by obtain ⟨m, h1, h2⟩ := KM_3.out; exact ⟨m, h1.below hb, h2⟩)
  clear hb HI_3 K6_3 K7_3 K9_3 KX_3 KM_3
  refine hK.out _ _ ⟨K6_4.out, K7_4.out.at_ 0, K9_4.out.at_ 0, KX_4.out, KM_4.out⟩ (fun hHeld => ?_)
  clear hK K
  try simp only [Act.put, List.setIfInBounds_toArray, List.set_cons_zero, List.set_cons_succ]
  refine Vc.wpAnyH_rd (i := 5) (d := some 11) (v := ?v2004) ?hy2004 ?rest2004
  case hy2004 =>
   intro w hSw
   try dsimp only at hSw
   go_simp
   try with_reducible rfl
  try simp only [Act.put, List.setIfInBounds_toArray, List.set_cons_zero, List.set_cons_succ]
  refine Vc.wpAnyH_skip (i := 6) (d := some 12) (by rfl) (by rfl) (by kernel_rfl) (by kernel_rfl) (by kernel_rfl) (fun _ _ _ h => h) (by rfl) (by assumption) ?_
  try simp only [Act.put, List.setIfInBounds_toArray, List.set_cons_zero, List.set_cons_succ]
  refine Vc.wpAnyH_skip (i := 7) (d := some 13) (by rfl) (by rfl) (by kernel_rfl) (by kernel_rfl) (by kernel_rfl) (fun _ _ _ h => h) (by rfl) (by assumption) ?_
  try simp only [Act.put, List.setIfInBounds_toArray, List.set_cons_zero, List.set_cons_succ]
  refine Vc.wpAnyH_skip (i := 8) (d := some 14) (by rfl) (by rfl) (by kernel_rfl) (by kernel_rfl) (by kernel_rfl) (fun _ _ _ h => h) (by rfl) (by assumption) ?_
  try simp only [Act.put, List.setIfInBounds_toArray, List.set_cons_zero, List.set_cons_succ]
  refine Vc.wpAnyH_skip (i := 9) (d := some 15) (by rfl) (by rfl) (by kernel_rfl) (by kernel_rfl) (by kernel_rfl) (fun _ _ _ h => h) (by rfl) (by assumption) ?_
  try simp only [Act.put, List.setIfInBounds_toArray, List.set_cons_zero, List.set_cons_succ]
  refine Vc.wpAnyH_skip (i := 10) (d := some 16) (by rfl) (by rfl) (by kernel_rfl) (by kernel_rfl) (by kernel_rfl) (fun _ _ _ h => h) (by rfl) (by assumption) ?_
  try simp only [Act.put, List.setIfInBounds_toArray, List.set_cons_zero, List.set_cons_succ]
  refine Vc.wpAnyH_skip (i := 11) (d := some 17) (by rfl) (by rfl) (by kernel_rfl) (by kernel_rfl) (by kernel_rfl) (fun _ _ _ h => h) (by rfl) (by assumption) ?_
  try simp only [Act.put, List.setIfInBounds_toArray, List.set_cons_zero, List.set_cons_succ]
  refine Vc.wpAnyH_rd (i := 12) (d := some 18) (v := ?v2011) ?hy2011 ?rest2011
  case hy2011 =>
   intro w hSw
   try dsimp only at hSw
   go_simp
   try with_reducible rfl
  try simp only [Act.put, List.setIfInBounds_toArray, List.set_cons_zero, List.set_cons_succ]
  refine Vc.wpAnyH_rd (i := 13) (d := some 5) (v := ?v2012) ?hy2012 ?rest2012
  case hy2012 =>
   intro w hSw
   try dsimp only at hSw
   go_simp
   try with_reducible rfl
  try simp only [Act.put, List.setIfInBounds_toArray, List.set_cons_zero, List.set_cons_succ]
  refine wpAnyH_done (by kernel_rfl) ?_ _
  go_wp2
  go_ret
  exact ⟨by first | rfl | simp, HI_4.out⟩
 | true =>
  refine wp_region_held_drew (S := fun V => Has V g6 23 (vecC seen) ∧ V.cell? ⟨g7, 0, none⟩ = some (.func (.func 52) #[] #[]) ∧ V.cell? ⟨g9, 0, none⟩ = some (.map (some b)) ∧ Has V w.heap.size 51 (Fc.linkC x) ∧ ∃ m, KMap stK V b m ∧ CntI l m) (by kernel_rfl) ⟨K6_2.out, K7_2.out.at_ 0, K9_2.out.at_ 0, KX_2.out, KM_2.out⟩ (fun hHeld => ?_)
  refine Vc.wpAnyH_rd (i := 0) (d := some 6) (v := .agg (vecC seen)) ?hy3001 ?rest3001
  case hy3001 =>
   intro w hSw
   exact Who.exec_loadA _ rfl rfl (Who.has_range hSw.1) Tryz.underlying23 rfl info_vec
  try simp only [Act.put, List.setIfInBounds_toArray, List.set_cons_zero, List.set_cons_succ]
  refine Vc.wpAnyH_rd (i := 1) (d := some 7) (v := .func (.func 52) #[] #[]) ?hy3002 ?rest3002
  case hy3002 =>
   intro w hSw
   have c := hSw.2.1; go_simp
  try simp only [Act.put, List.setIfInBounds_toArray, List.set_cons_zero, List.set_cons_succ]
  refine Vc.wpAnyH_rd (i := 2) (d := some 8) (v := .agg (Fc.linkC x)) ?hy3003 ?rest3003
  case hy3003 =>
   intro w hSw
   exact Who.exec_loadA _ rfl rfl (Who.has_range hSw.2.2.2.1) Tryz.underlying51 rfl info_link
  try simp only [Act.put, List.setIfInBounds_toArray, List.set_cons_zero, List.set_cons_succ]
  refine wpAnyH_ready (rs := [3]) (by kernel_rfl) (by simp) ?_
  refine AllReadyH.cons rfl (fun K hK => ?_) AllReadyH.nil
  go_simp
  go_at_call 52
  refine (linkId_any x _).mono ?_
  rintro e w13 ⟨rfl, hb⟩
  have HI_3 := Lib.hid (HI_2.out.trans (hb.mono HI_2.out.size))
  have K6_3 := Lib.hid (K6_2.out.below hb)
  have K7_3 := Lib.hid (K7_2.out.below hb)
  have K9_3 := Lib.hid (K9_2.out.below hb)
  have KX_3 := Lib.hid (KX_2.out.below hb)
  have KM_3 := Lib.hid (show ∃ m, KMap stK w13 b m ∧ CntI l m from by obtain ⟨m, h1, h2⟩ := KM_2.out; exact ⟨m, h1.below hb, h2⟩)
  clear hb HI_2 K6_2 K7_2 K9_2 KX_2 KM_2
  refine hK.out _ _ ⟨K6_3.out, K7_3.out.at_ 0, K9_3.out.at_ 0, KX_3.out, KM_3.out⟩ (fun hHeld => ?_)
  clear hK K
  try simp only [Act.put, List.setIfInBounds_toArray, List.set_cons_zero, List.set_cons_succ]
  refine wpAnyH_ready (rs := [4]) (by kernel_rfl) (by simp) ?_
  refine AllReadyH.cons rfl (fun K hK => ?_) AllReadyH.nil
  go_simp
  go_at_call 69
  refine (HH.out _).mono ?_
  rintro e w14 ⟨rfl, hb⟩
  have HI_4 := Lib.hid (HI_3.out.trans (hb.mono HI_3.out.size))
  have K6_4 := Lib.hid (K6_3.out.below hb)
  have K7_4 := Lib.hid (K7_3.out.below hb)
  have K9_4 := Lib.hid (K9_3.out.below hb)
  have KX_4 := Lib.hid (KX_3.out.below hb)
  have KM_4 := Lib.hid (show ∃ m, KMap stK w14 b m ∧ CntI l m from by obtain ⟨m, h1, h2⟩ := KM_3.out; exact ⟨m, h1.below hb, h2⟩)
  clear hb HI_3 K6_3 K7_3 K9_3 KX_3 KM_3
  refine hK.out _ _ ⟨K6_4.out, K7_4.out.at_ 0, K9_4.out.at_ 0, KX_4.out, KM_4.out⟩ (fun hHeld => ?_)
  clear hK K
  try simp only [Act.put, List.setIfInBounds_toArray, List.set_cons_zero, List.set_cons_succ]
  refine Vc.wpAnyH_rd (i := 5) (d := some 11) (v := ?v3004) ?hy3004 ?rest3004
  case hy3004 =>
   intro w hSw
   try dsimp only at hSw
   go_simp
   try with_reducible rfl
  try simp only [Act.put, List.setIfInBounds_toArray, List.set_cons_zero, List.set_cons_succ]
  refine Vc.wpAnyH_rd (i := 6) (d := some 12) (v := .map (some b)) ?hy3005 ?rest3005
  case hy3005 =>
   intro w hSw
   have c := hSw.2.2.1; go_simp
  try simp only [Act.put, List.setIfInBounds_toArray, List.set_cons_zero, List.set_cons_succ]
  refine Vc.wpAnyH_rd (i := 7) (d := some 13) (v := .func (.func 52) #[] #[]) ?hy3006 ?rest3006
  case hy3006 =>
   intro w hSw
   have c := hSw.2.1; go_simp
  try simp only [Act.put, List.setIfInBounds_toArray, List.set_cons_zero, List.set_cons_succ]
  refine Vc.wpAnyH_rd (i := 8) (d := some 14) (v := .agg (Fc.linkC x)) ?hy3007 ?rest3007
  case hy3007 =>
   intro w hSw
   exact Who.exec_loadA _ rfl rfl (Who.has_range hSw.2.2.2.1) Tryz.underlying51 rfl info_link
  try simp only [Act.put, List.setIfInBounds_toArray, List.set_cons_zero, List.set_cons_succ]
  refine wpAnyH_ready (rs := [9]) (by kernel_rfl) (by simp) ?_
  refine AllReadyH.cons rfl (fun K hK => ?_) AllReadyH.nil
  go_simp
  go_at_call 52
  refine (linkId_any x _).mono ?_
  rintro e w15 ⟨rfl, hb⟩
  have HI_5 := Lib.hid (HI_4.out.trans (hb.mono HI_4.out.size))
  have K6_5 := Lib.hid (K6_4.out.below hb)
  have K7_5 := Lib.hid (K7_4.out.below hb)
  have K9_5 := Lib.hid (K9_4.out.below hb)
  have KX_5 := Lib.hid (KX_4.out.below hb)
  have KM_5 := Lib.hid (show ∃ m, KMap stK w15 b m ∧ CntI l m from by obtain ⟨m, h1, h2⟩ := KM_4.out; exact ⟨m, h1.below hb, h2⟩)
  clear hb HI_4 K6_4 K7_4 K9_4 KX_4 KM_4
  refine hK.out _ _ ⟨K6_5.out, K7_5.out.at_ 0, K9_5.out.at_ 0, KX_5.out, KM_5.out⟩ (fun hHeld => ?_)
  clear hK K
  try simp only [Act.put, List.setIfInBounds_toArray, List.set_cons_zero, List.set_cons_succ]
  refine Vc.wpAnyH_rd (i := 10) (d := some 16) (v := .int .i64 (cz : Int)) ?hy3008 ?rest3008
  case hy3008 =>
   intro w hSw
   have hk : ∀ V : World, (∃ m, KMap stK V b m ∧ CntI l m) → (Instr.lookup 98 (.map (some b)) (.agg #[.int .i64 x.id.1, .int .i64 x.id.2]) false).run Tryz.prog V = .ok (.int .i64 (cz : Int)) V := fun V hV => (by obtain ⟨m, h1, h2⟩ := hV; have q := (KMap.lookup Tryz.underlying98 stKeys h1 (.int .i64 0) Tryz.zeroValue3 x.id).1; rw [cntI_get h2, ← HCZ.out] at q; exact q)
   have hk2 := fun V => hk V
   have hk3 := hk _ hSw.2.2.2.2
   go_simp
  try simp only [Act.put, List.setIfInBounds_toArray, List.set_cons_zero, List.set_cons_succ]
  refine Vc.wpAnyH_rd (i := 11) (d := some 17) (v := .bool (decide (cz = 0))) ?hy3009 ?rest3009
  case hy3009 =>
   intro w hSw
   have hq : ((cz : Int) == 0) = decide (cz = 0) := by rw [Bool.eq_iff_iff]; simp
   go_simp
   try rfl
  try simp only [Act.put, List.setIfInBounds_toArray, List.set_cons_zero, List.set_cons_succ]
  refine Vc.wpAnyH_rd (i := 12) (d := some 18) (v := ?v3010) ?hy3010 ?rest3010
  case hy3010 =>
   intro w hSw
   try dsimp only at hSw
   go_simp
   try with_reducible rfl
  try simp only [Act.put, List.setIfInBounds_toArray, List.set_cons_zero, List.set_cons_succ]
  refine Vc.wpAnyH_rd (i := 13) (d := some 5) (v := ?v3011) ?hy3011 ?rest3011
  case hy3011 =>
   intro w hSw
   try dsimp only at hSw
   go_simp
   try with_reducible rfl
  try simp only [Act.put, List.setIfInBounds_toArray, List.set_cons_zero, List.set_cons_succ]
  refine wpAnyH_done (by kernel_rfl) ?_ _
  go_wp2
  go_ret
  exact ⟨by first | rfl | simp, HI_5.out⟩
end Go.Proofs.YtblogecapegbmaaGreat.Jn
