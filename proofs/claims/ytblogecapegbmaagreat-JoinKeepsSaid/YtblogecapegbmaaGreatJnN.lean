/- Join: maps by stamps; what pruning asks of a link. -/
import Derived.Test.YtblogecapegbmaaGreatJnM
import Derived.Test.YtblogecapegbmaaGreatKMap
import Derived.Test.YtblogecapegbmaaGreatReg
namespace Go.Proofs.YtblogecapegbmaaGreat.Jn
open Go.RowKit Go.Proofs.YtblogecapegbmaaGreat.Mem
open Go.Proofs.YtblogecapegbmaaGreat.Vc (joinV meetV vecC stC)
set_option linter.unusedVariables false set_option linter.unusedSimpArgs false

/-- A stamp as a map's key. -/
def stK (s : Int × Int) : Value := .agg #[.int .i64 s.1, .int .i64 s.2]
theorem stK_inj (a b : Int × Int) (h : stK a = stK b) : a = b := by
 obtain ⟨a1, a2⟩ := a
 obtain ⟨b1, b2⟩ := b
 unfold stK at h
 simp at h
 rw [h.1, h.2]
theorem stK_equal (a b : Int × Int) (w : World) : (Op.equal 37 (stK a) (stK b)).run Tryz.prog w = .ok (decide (a = b)) w := by
 have h := Vc.eqs a.1 a.2 b.1 b.2 w
 have e : (a.1 == b.1 && a.2 == b.2) = decide (a = b) := by
  obtain ⟨a1, a2⟩ := a
  obtain ⟨b1, b2⟩ := b
  by_cases h1 : a1 = b1 <;> by_cases h2 : a2 = b2 <;> simp [h1, h2]
 rw [← e]
 exact h
theorem st_asking (k : Int × Int) (w : World) : ∀ (l : List MapEntry) (i : Nat), (∀ x ∈ l, ∃ q, x.key = stK q) → ((Instr.findAsking 37 (stK k) l i).run Tryz.prog w = .ok none w ∧ ∀ x ∈ l, x.key ≠ stK k) ∨
  ∃ j e, (Instr.findAsking 37 (stK k) l i).run Tryz.prog w = .ok (some (i + j, e.val)) w ∧ l[j]? = some e ∧ e.key = stK k
 | [], i, _ => .inl ⟨by simp [Instr.findAsking], fun x hx => by cases hx⟩
 | e :: l, i, h => by
  obtain ⟨q, hq⟩ := h e List.mem_cons_self
  have hr := stK_equal k q w
  by_cases hkq : k = q
  ·refine .inr ⟨0, e, ?_, rfl, by rw [hq, hkq]⟩
   rw [decide_eq_true hkq] at hr
   simp [Instr.findAsking, hq, hr, Result.andThen]
  ·rw [decide_eq_false hkq] at hr
   rcases st_asking k w l (i + 1) (fun x hx => h x (List.mem_cons_of_mem _ hx)) with ⟨h1, h2⟩ | ⟨j, e2, h1, h2, h3⟩
   ·refine .inl ⟨by simp [Instr.findAsking, hq, hr, h1, Result.andThen], fun x hx => ?_⟩
    rcases List.mem_cons.1 hx with rfl | hx
    ·rw [hq]; exact fun k2 => hkq (stK_inj _ _ k2).symm
    ·exact h2 x hx
   ·refine .inr ⟨j + 1, e2, ?_, by simpa using h2, h3⟩
    have : i + (j + 1) = i + 1 + j := by omega
    simp [Instr.findAsking, hq, hr, h1, this, Result.andThen]
theorem stKeys : KeyIs Tryz.prog 37 stK where
 inj := stK_inj
 check := fun e w k => by
  unfold stK
  rw [show (10000 : Nat) = 9999 + 1 from rfl]
  unfold Instr.checkKey
  have u3 := Tryz.underlying3
  have u29 := Tryz.underlying37
  have a3 := Tryz.isAgg3
  have z3 := Tryz.sizeOf3
  have c1 := fun (x : Int) (w : World) => MapKept.run_checkKey (P := Tryz.prog) (w := w) Tryz.underlying3 (show MapKept.IsKey (.int .i64) (.int .i64 x) by simp [MapKept.IsKey]) e 9998
  go_simp
 find := fun l w k h => by
  have hu : (underlying 37).run Tryz.prog w = .ok (.struct (Tryz.prog.fieldsOf 37)) w := run_underlying (by kernel_rfl) w
  cases l with
  | nil => exact .inl ⟨by simp [Instr.findKey, hu, Instr.findNow, Result.andThen], fun x hx => by cases hx⟩
  | cons x l =>
   obtain ⟨q, hq⟩ := h x List.mem_cons_self
   have hn : Instr.findNow (.struct (Tryz.prog.fieldsOf 37)) (stK k) (x :: l) 0 = none := by simp [Instr.findNow, hq, stK, Instr.sameNow]
   rcases st_asking k w (x :: l) 0 h with ⟨h1, h2⟩ | ⟨j, e, h1, h2, h3⟩
   ·exact .inl ⟨by simp only [Instr.findKey, Sem.run_bind, hu, Result.andThen, hn]; exact h1, h2⟩
   ·rw [Nat.zero_add] at h1
    exact .inr ⟨j, e, by simp only [Instr.findKey, Sem.run_bind, hu, Result.andThen, hn]; exact h1, h2, h3⟩
 stays := fun w k => by simp [Instr.keyThatStays, stK, Instr.sameBits]

set_option maxRecDepth 100000 in
theorem alive_any (x : Fc.LinkP) (W : World) : Calls Tryz.prog 33 #[.agg (Fc.linkC x)] W fun e W' => e = .returned (.bool (!Vc.withinB x.al x.de)) ∧ Below W.heap.size W W' := by
 have HS := Lib.hid (fun V => Vc.within_any x.al x.de V)
 have HB0 := Lib.hid ((Below.refl W.heap.size W).alloc (Nat.le_refl _) (.cells (Fc.linkC x) 51))
 have HX0 := Lib.hid (Has.fresh W 51 (Fc.linkC x))
 go_enter Tryz.func33, Tryz.ntmps33
 go_wp2_with (first | ((with_reducible refine Who.wpList_loadC 23 (.tmp 3) rfl (W.heap.size) 9 (vecC x.al) ?_); refine And.intro ⟨by rfl, by rfl, ⟨_, Tryz.underlying23, rfl⟩, info_vec⟩ (And.intro (link_al HX0.out) ?_); (try simp only [Act.put, List.setIfInBounds_toArray, List.set_cons_zero, List.set_cons_succ])) | ((with_reducible refine Who.wpList_loadC 23 (.tmp 5) rfl (W.heap.size) 17 (vecC x.de) ?_); refine And.intro ⟨by rfl, by rfl, ⟨_, Tryz.underlying23, rfl⟩, info_vec⟩ (And.intro (link_de HX0.out) ?_); (try simp only [Act.put, List.setIfInBounds_toArray, List.set_cons_zero, List.set_cons_succ])) | fail)
 refine (HS.out _).mono ?_
 rintro e w2 ⟨rfl, hb⟩
 have HB := Lib.hid (HB0.out.trans (hb.mono HB0.out.size))
 clear hb
 go_wp2
 go_ret
 exact ⟨rfl, HB.out⟩
/-! ### the dead link of the example -/
def v1 (n : Nat) : Int := if n = 0 then 1 else 0
def v2 (n : Nat) : Int := if n = 0 then 2 else 0
def v1C : Array Value := #[.int .i64 1, .int .i64 0, .int .i64 0, .int .i64 0, .int .i64 0, .int .i64 0, .int .i64 0, .int .i64 0]
def v2C : Array Value := #[.int .i64 2, .int .i64 0, .int .i64 0, .int .i64 0, .int .i64 0, .int .i64 0, .int .i64 0, .int .i64 0]
def dC (nm : ByteArray) : Array Value := #[.int .i64 1, .int .i64 0, .int .i64 1, .int .i64 0, .int .i64 1, .int .i64 0, .int .i64 0, .int .i64 0, .string nm, .int .i64 1, .int .i64 0, .int .i64 0, .int .i64 0, .int .i64 0, .int .i64 0, .int .i64 0, .int .i64 0, .int .i64 2, .int .i64 0, .int .i64 0, .int .i64 0, .int .i64 0, .int .i64 0, .int .i64 0, .int .i64 0]
def prC (A1 : Option Addr) (c1 b c2 mb bb sb : Nat) : Array Value := #[.int .i64 2, .int .i64 0, .int .i64 0, .int .i64 0, .int .i64 0, .int .i64 0, .int .i64 0, .int .i64 0, .slice A1 0 c1, .slice (some ⟨b, 0, none⟩) 1 c2, .int .i64 2, .int .i64 0, .int .i64 0, .int .i64 0, .int .i64 0, .int .i64 0, .int .i64 0, .int .i64 0, .map (some mb), .slice (some ⟨bb, 0, none⟩) 1 1, .slice (some ⟨sb, 0, none⟩) 1 1]
theorem within12 (W : World) : Calls Tryz.prog 71 #[.agg v1C, .agg v2C] W fun e W' => e = .returned (.bool true) ∧ Below W.heap.size W W' := Vc.within_any v1 v2 W
theorem within22 (W : World) : Calls Tryz.prog 71 #[.agg v2C, .agg v2C] W fun e W' => e = .returned (.bool true) ∧ Below W.heap.size W W' := Vc.within_any v2 v2 W
theorem has21 (W : World) : Calls Tryz.prog 69 #[.agg v2C, .agg #[.int .i64 1, .int .i64 0]] W fun e W' => e = .returned (.bool true) ∧ Below W.heap.size W W' := Vc.has_any v2 1 0 W
theorem meet22 (W : World) : Calls Tryz.prog 59 #[.agg v2C, .agg v2C] W fun e W' => e = .returned (.agg v2C) ∧ Below W.heap.size W W' := Vc.meet_any v2 v2 W
theorem d_al {w : World} {g : Nat} {t : TypeId} {nm : ByteArray} (h : Has w g t (dC nm)) : w.rangeAt g 9 v1C.toList := range_of h fun j hj => by
 match j, (show j < 8 from hj) with
 | 0, _ | 1, _ | 2, _ | 3, _ | 4, _ | 5, _ | 6, _ | 7, _ => rfl
theorem d_de {w : World} {g : Nat} {t : TypeId} {nm : ByteArray} (h : Has w g t (dC nm)) : w.rangeAt g 17 v2C.toList := range_of h fun j hj => by
 match j, (show j < 8 from hj) with
 | 0, _ | 1, _ | 2, _ | 3, _ | 4, _ | 5, _ | 6, _ | 7, _ => rfl
theorem d_at {w : World} {g : Nat} {t : TypeId} {nm : ByteArray} (h : Has w g t (dC nm)) : w.rangeAt g 4 (#[.int .i64 1, .int .i64 0] : Array Value).toList := range_of h fun j hj => by
 match j, (show j < 2 from hj) with
 | 0, _ | 1, _ => rfl
theorem d_id {w : World} {g : Nat} {t : TypeId} {nm : ByteArray} (h : Has w g t (dC nm)) : w.rangeAt g 0 (#[.int .i64 1, .int .i64 0] : Array Value).toList := range_of h fun j hj => by
 match j, (show j < 2 from hj) with
 | 0, _ | 1, _ => rfl
theorem pr_known {w : World} {g : Nat} {t : TypeId} {A1 : Option Addr} {c1 b c2 mb bb sb : Nat} (h : Has w g t (prC A1 c1 b c2 mb bb sb)) : w.rangeAt g 10 v2C.toList := range_of h fun j hj => by
 match j, (show j < 8 from hj) with
 | 0, _ | 1, _ | 2, _ | 3, _ | 4, _ | 5, _ | 6, _ | 7, _ => rfl
theorem pr_seen {w : World} {g : Nat} {t : TypeId} {A1 : Option Addr} {c1 b c2 mb bb sb : Nat} (h : Has w g t (prC A1 c1 b c2 mb bb sb)) : w.rangeAt g 0 v2C.toList := range_of h fun j hj => by
 match j, (show j < 8 from hj) with
 | 0, _ | 1, _ | 2, _ | 3, _ | 4, _ | 5, _ | 6, _ | 7, _ => rfl
set_option maxRecDepth 100000 in
set_option maxHeartbeats 2000000 in
theorem settled_ex (nm : ByteArray) (A1 : Option Addr) (g c1 b c2 mb bb sb : Nat) (W : World) (hp : Has W g 100 (prC A1 c1 b c2 mb bb sb)) : Calls Tryz.prog 62 #[.pointer (some ⟨g, 0, none⟩), .agg (dC nm)] W fun e W' => e = .returned (.bool true) ∧ Below W.heap.size W W' := by
 have HB0 := Lib.hid ((Below.refl W.heap.size W).alloc (Nat.le_refl _) (.cells (dC nm) 51))
 have HX0 := Lib.hid (Has.fresh W 51 (dC nm))
 have HP0 := Lib.hid (hp.past (.cells (dC nm) 51))
 clear hp
 go_enter Tryz.func62, Tryz.ntmps62
 go_wp2_with fail
 refine wp_region_held_drew (S := fun V => Has V W.heap.size 51 (dC nm) ∧ Has V g 100 (prC A1 c1 b c2 mb bb sb)) (by kernel_rfl) ⟨HX0.out.drew, HP0.out.drew⟩ (fun hHeld => ?_)
 have HI0 := Lib.hid HB0.out.drew
 refine Vc.wpAnyH_rd (i := 0) (d := some 5) (v := ?v1) ?hy1 ?rest1
 case hy1 =>
  intro w hSw
  try dsimp only at hSw
  go_simp
  try with_reducible rfl
 try simp only [Act.put, List.setIfInBounds_toArray, List.set_cons_zero, List.set_cons_succ]
 refine Vc.wpAnyH_rd (i := 1) (d := some 6) (v := (.agg v1C)) ?hy2 ?rest2
 case hy2 =>
  intro w hSw
  exact Who.exec_loadA _ rfl rfl (d_al hSw.1) Tryz.underlying23 rfl info_vec
 try simp only [Act.put, List.setIfInBounds_toArray, List.set_cons_zero, List.set_cons_succ]
 refine Vc.wpAnyH_rd (i := 2) (d := some 7) (v := ?v3) ?hy3 ?rest3
 case hy3 =>
  intro w hSw
  try dsimp only at hSw
  go_simp
  try with_reducible rfl
 try simp only [Act.put, List.setIfInBounds_toArray, List.set_cons_zero, List.set_cons_succ]
 refine Vc.wpAnyH_rd (i := 3) (d := some 8) (v := ?v4) ?hy4 ?rest4
 case hy4 =>
  intro w hSw
  try dsimp only at hSw
  go_simp
  try with_reducible rfl
 try simp only [Act.put, List.setIfInBounds_toArray, List.set_cons_zero, List.set_cons_succ]
 refine Vc.wpAnyH_rd (i := 4) (d := some 9) (v := ?v5) ?hy5 ?rest5
 case hy5 =>
  intro w hSw
  try dsimp only at hSw
  go_simp
  try with_reducible rfl
 try simp only [Act.put, List.setIfInBounds_toArray, List.set_cons_zero, List.set_cons_succ]
 refine Vc.wpAnyH_rd (i := 5) (d := some 10) (v := (.agg v2C)) ?hy6 ?rest6
 case hy6 =>
  intro w hSw
  exact Who.exec_loadA _ rfl rfl (pr_known hSw.2) Tryz.underlying23 rfl info_vec
 try simp only [Act.put, List.setIfInBounds_toArray, List.set_cons_zero, List.set_cons_succ]
 refine wpAnyH_ready (rs := [6]) (by kernel_rfl) (by simp) ?_
 refine AllReadyH.cons rfl (fun K hK => ?_) AllReadyH.nil
 go_simp
 go_at_call 71
 with_reducible refine (within12 _).mono ?_
 rintro e W1 ⟨rfl, hb⟩
 have HX1 := Lib.hid (hHeld.1.below hb)
 have HP1 := Lib.hid (hHeld.2.below hb)
 have HI1 := Lib.hid (HI0.out.trans (hb.mono HI0.out.size))
 clear hb
 refine hK.out _ _ ⟨HX1.out, HP1.out⟩ (fun hHeld => ?_)
 clear hK K
 try simp only [Act.put, List.setIfInBounds_toArray, List.set_cons_zero, List.set_cons_succ]
 refine Vc.wpAnyH_rd (i := 7) (d := some 12) (v := ?v7) ?hy7 ?rest7
 case hy7 =>
  intro w hSw
  try dsimp only at hSw
  go_simp
  try with_reducible rfl
 try simp only [Act.put, List.setIfInBounds_toArray, List.set_cons_zero, List.set_cons_succ]
 refine Vc.wpAnyH_rd (i := 8) (d := some 13) (v := ?v8) ?hy8 ?rest8
 case hy8 =>
  intro w hSw
  try dsimp only at hSw
  go_simp
  try with_reducible rfl
 try simp only [Act.put, List.setIfInBounds_toArray, List.set_cons_zero, List.set_cons_succ]
 refine Vc.wpAnyH_rd (i := 9) (d := some 14) (v := (.agg v2C)) ?hy9 ?rest9
 case hy9 =>
  intro w hSw
  exact Who.exec_loadA _ rfl rfl (d_de hSw.1) Tryz.underlying23 rfl info_vec
 try simp only [Act.put, List.setIfInBounds_toArray, List.set_cons_zero, List.set_cons_succ]
 refine Vc.wpAnyH_rd (i := 10) (d := some 15) (v := ?v10) ?hy10 ?rest10
 case hy10 =>
  intro w hSw
  try dsimp only at hSw
  go_simp
  try with_reducible rfl
 try simp only [Act.put, List.setIfInBounds_toArray, List.set_cons_zero, List.set_cons_succ]
 refine Vc.wpAnyH_rd (i := 11) (d := some 16) (v := ?v11) ?hy11 ?rest11
 case hy11 =>
  intro w hSw
  try dsimp only at hSw
  go_simp
  try with_reducible rfl
 try simp only [Act.put, List.setIfInBounds_toArray, List.set_cons_zero, List.set_cons_succ]
 refine Vc.wpAnyH_rd (i := 12) (d := some 17) (v := ?v12) ?hy12 ?rest12
 case hy12 =>
  intro w hSw
  try dsimp only at hSw
  go_simp
  try with_reducible rfl
 try simp only [Act.put, List.setIfInBounds_toArray, List.set_cons_zero, List.set_cons_succ]
 refine Vc.wpAnyH_rd (i := 13) (d := some 18) (v := (.agg v2C)) ?hy13 ?rest13
 case hy13 =>
  intro w hSw
  exact Who.exec_loadA _ rfl rfl (pr_known hSw.2) Tryz.underlying23 rfl info_vec
 try simp only [Act.put, List.setIfInBounds_toArray, List.set_cons_zero, List.set_cons_succ]
 refine wpAnyH_ready (rs := [14]) (by kernel_rfl) (by simp) ?_
 refine AllReadyH.cons rfl (fun K hK => ?_) AllReadyH.nil
 go_simp
 go_at_call 71
 with_reducible refine (within22 _).mono ?_
 rintro e W2 ⟨rfl, hb⟩
 have HX2 := Lib.hid (hHeld.1.below hb)
 have HP2 := Lib.hid (hHeld.2.below hb)
 have HI2 := Lib.hid (HI1.out.trans (hb.mono HI1.out.size))
 clear hb
 refine hK.out _ _ ⟨HX2.out, HP2.out⟩ (fun hHeld => ?_)
 clear hK K
 try simp only [Act.put, List.setIfInBounds_toArray, List.set_cons_zero, List.set_cons_succ]
 refine Vc.wpAnyH_rd (i := 15) (d := some 20) (v := ?v14) ?hy14 ?rest14
 case hy14 =>
  intro w hSw
  try dsimp only at hSw
  go_simp
  try with_reducible rfl
 try simp only [Act.put, List.setIfInBounds_toArray, List.set_cons_zero, List.set_cons_succ]
 refine Vc.wpAnyH_rd (i := 16) (d := some 21) (v := ?v15) ?hy15 ?rest15
 case hy15 =>
  intro w hSw
  try dsimp only at hSw
  go_simp
  try with_reducible rfl
 try simp only [Act.put, List.setIfInBounds_toArray, List.set_cons_zero, List.set_cons_succ]
 refine Vc.wpAnyH_rd (i := 17) (d := some 22) (v := ?v16) ?hy16 ?rest16
 case hy16 =>
  intro w hSw
  try dsimp only at hSw
  go_simp
  try with_reducible rfl
 try simp only [Act.put, List.setIfInBounds_toArray, List.set_cons_zero, List.set_cons_succ]
 refine Vc.wpAnyH_rd (i := 18) (d := some 23) (v := ?v17) ?hy17 ?rest17
 case hy17 =>
  intro w hSw
  try dsimp only at hSw
  go_simp
  try with_reducible rfl
 try simp only [Act.put, List.setIfInBounds_toArray, List.set_cons_zero, List.set_cons_succ]
 refine Vc.wpAnyH_rd (i := 19) (d := some 24) (v := ?v18) ?hy18 ?rest18
 case hy18 =>
  intro w hSw
  try dsimp only at hSw
  go_simp
  try with_reducible rfl
 try simp only [Act.put, List.setIfInBounds_toArray, List.set_cons_zero, List.set_cons_succ]
 refine Vc.wpAnyH_rd (i := 20) (d := some 25) (v := (.agg v2C)) ?hy19 ?rest19
 case hy19 =>
  intro w hSw
  exact Who.exec_loadA _ rfl rfl (pr_known hSw.2) Tryz.underlying23 rfl info_vec
 try simp only [Act.put, List.setIfInBounds_toArray, List.set_cons_zero, List.set_cons_succ]
 refine Vc.wpAnyH_rd (i := 21) (d := some 26) (v := ?v20) ?hy20 ?rest20
 case hy20 =>
  intro w hSw
  try dsimp only at hSw
  go_simp
  try with_reducible rfl
 try simp only [Act.put, List.setIfInBounds_toArray, List.set_cons_zero, List.set_cons_succ]
 refine Vc.wpAnyH_rd (i := 22) (d := some 27) (v := (.agg #[.int .i64 1, .int .i64 0])) ?hy21 ?rest21
 case hy21 =>
  intro w hSw
  exact Who.exec_loadA _ rfl rfl (d_at hSw.1) Tryz.underlying37 rfl info_st
 try simp only [Act.put, List.setIfInBounds_toArray, List.set_cons_zero, List.set_cons_succ]
 refine wpAnyH_ready (rs := [23]) (by kernel_rfl) (by simp) ?_
 refine AllReadyH.cons rfl (fun K hK => ?_) AllReadyH.nil
 go_simp
 go_at_call 69
 with_reducible refine (has21 _).mono ?_
 rintro e W3 ⟨rfl, hb⟩
 have HX3 := Lib.hid (hHeld.1.below hb)
 have HP3 := Lib.hid (hHeld.2.below hb)
 have HI3 := Lib.hid (HI2.out.trans (hb.mono HI2.out.size))
 clear hb
 refine hK.out _ _ ⟨HX3.out, HP3.out⟩ (fun hHeld => ?_)
 clear hK K
 try simp only [Act.put, List.setIfInBounds_toArray, List.set_cons_zero, List.set_cons_succ]
 refine Vc.wpAnyH_rd (i := 24) (d := some 29) (v := ?v22) ?hy22 ?rest22
 case hy22 =>
  intro w hSw
  try dsimp only at hSw
  go_simp
  try with_reducible rfl
 try simp only [Act.put, List.setIfInBounds_toArray, List.set_cons_zero, List.set_cons_succ]
 refine Vc.wpAnyH_rd (i := 25) (d := some 4) (v := ?v23) ?hy23 ?rest23
 case hy23 =>
  intro w hSw
  try dsimp only at hSw
  go_simp
  try with_reducible rfl
 try simp only [Act.put, List.setIfInBounds_toArray, List.set_cons_zero, List.set_cons_succ]
 refine wpAnyH_done (by kernel_rfl) ?_ _
 go_wp2
 go_ret
 exact ⟨rfl, HI3.out⟩
set_option maxRecDepth 100000 in
set_option maxHeartbeats 2000000 in
theorem moved_ex (nm : ByteArray) (A1 : Option Addr) (g c1 b c2 mb bb sb : Nat) (W : World) (hp : Has W g 100 (prC A1 c1 b c2 mb bb sb)) : Calls Tryz.prog 61 #[.pointer (some ⟨g, 0, none⟩), .agg (dC nm)] W fun e W' => e = .returned (.bool false) ∧ Below W.heap.size W W' := by
 have HB0 := Lib.hid ((Below.refl W.heap.size W).alloc (Nat.le_refl _) (.cells (dC nm) 51))
 have HX0 := Lib.hid (Has.fresh W 51 (dC nm))
 have HP0 := Lib.hid (hp.past (.cells (dC nm) 51))
 clear hp
 go_enter Tryz.func61, Tryz.ntmps61
 go_wp2_with fail
 refine wp_region_held_drew (S := fun V => Has V W.heap.size 51 (dC nm) ∧ Has V g 100 (prC A1 c1 b c2 mb bb sb)) (by kernel_rfl) ⟨HX0.out.drew, HP0.out.drew⟩ (fun hHeld => ?_)
 have HI0 := Lib.hid HB0.out.drew
 refine Vc.wpAnyH_rd (i := 0) (d := some 5) (v := ?v24) ?hy24 ?rest24
 case hy24 =>
  intro w hSw
  try dsimp only at hSw
  go_simp
  try with_reducible rfl
 try simp only [Act.put, List.setIfInBounds_toArray, List.set_cons_zero, List.set_cons_succ]
 refine Vc.wpAnyH_rd (i := 1) (d := some 6) (v := (.agg #[.int .i64 1, .int .i64 0])) ?hy25 ?rest25
 case hy25 =>
  intro w hSw
  exact Who.exec_loadA _ rfl rfl (d_at hSw.1) Tryz.underlying37 rfl info_st
 try simp only [Act.put, List.setIfInBounds_toArray, List.set_cons_zero, List.set_cons_succ]
 refine Vc.wpAnyH_rd (i := 2) (d := some 7) (v := ?v26) ?hy26 ?rest26
 case hy26 =>
  intro w hSw
  try dsimp only at hSw
  go_simp
  try with_reducible rfl
 try simp only [Act.put, List.setIfInBounds_toArray, List.set_cons_zero, List.set_cons_succ]
 refine Vc.wpAnyH_rd (i := 3) (d := some 8) (v := (.agg #[.int .i64 1, .int .i64 0])) ?hy27 ?rest27
 case hy27 =>
  intro w hSw
  exact Who.exec_loadA _ rfl rfl (d_id hSw.1) Tryz.underlying37 rfl info_st
 try simp only [Act.put, List.setIfInBounds_toArray, List.set_cons_zero, List.set_cons_succ]
 refine Vc.wpAnyH_rd (i := 4) (d := some 9) (v := ?v28) ?hy28 ?rest28
 case hy28 =>
  intro w hSw
  try dsimp only at hSw
  go_simp
  try with_reducible rfl
 try simp only [Act.put, List.setIfInBounds_toArray, List.set_cons_zero, List.set_cons_succ]
 refine Vc.wpAnyH_rd (i := 5) (d := some 10) (v := ?v29) ?hy29 ?rest29
 case hy29 =>
  intro w hSw
  try dsimp only at hSw
  go_simp
  try with_reducible rfl
 try simp only [Act.put, List.setIfInBounds_toArray, List.set_cons_zero, List.set_cons_succ]
 refine Vc.wpAnyH_skip (i := 6) (d := some 11) (by rfl) (by rfl) (by kernel_rfl) (by kernel_rfl) (by kernel_rfl) (fun _ _ _ h => h) (by rfl) (by assumption) ?_
 try simp only [Act.put, List.setIfInBounds_toArray, List.set_cons_zero, List.set_cons_succ]
 refine Vc.wpAnyH_skip (i := 7) (d := some 12) (by rfl) (by rfl) (by kernel_rfl) (by kernel_rfl) (by kernel_rfl) (fun _ _ _ h => h) (by rfl) (by assumption) ?_
 try simp only [Act.put, List.setIfInBounds_toArray, List.set_cons_zero, List.set_cons_succ]
 refine Vc.wpAnyH_skip (i := 8) (d := some 13) (by rfl) (by rfl) (by kernel_rfl) (by kernel_rfl) (by kernel_rfl) (fun _ _ _ h => h) (by rfl) (by assumption) ?_
 try simp only [Act.put, List.setIfInBounds_toArray, List.set_cons_zero, List.set_cons_succ]
 refine Vc.wpAnyH_skip (i := 9) (d := some 14) (by rfl) (by rfl) (by kernel_rfl) (by kernel_rfl) (by kernel_rfl) (fun _ _ _ h => h) (by rfl) (by assumption) ?_
 try simp only [Act.put, List.setIfInBounds_toArray, List.set_cons_zero, List.set_cons_succ]
 refine Vc.wpAnyH_skip (i := 10) (d := some 15) (by rfl) (by rfl) (by kernel_rfl) (by kernel_rfl) (by kernel_rfl) (fun _ _ _ h => h) (by rfl) (by assumption) ?_
 try simp only [Act.put, List.setIfInBounds_toArray, List.set_cons_zero, List.set_cons_succ]
 refine Vc.wpAnyH_skip (i := 11) (d := some 16) (by rfl) (by rfl) (by kernel_rfl) (by kernel_rfl) (by kernel_rfl) (fun _ _ _ h => h) (by rfl) (by assumption) ?_
 try simp only [Act.put, List.setIfInBounds_toArray, List.set_cons_zero, List.set_cons_succ]
 refine Vc.wpAnyH_skip (i := 12) (d := some 17) (by rfl) (by rfl) (by kernel_rfl) (by kernel_rfl) (by kernel_rfl) (fun _ _ _ h => h) (by rfl) (by assumption) ?_
 try simp only [Act.put, List.setIfInBounds_toArray, List.set_cons_zero, List.set_cons_succ]
 refine Vc.wpAnyH_skip (i := 13) (d := some 18) (by rfl) (by rfl) (by kernel_rfl) (by kernel_rfl) (by kernel_rfl) (fun _ _ _ h => h) (by rfl) (by assumption) ?_
 try simp only [Act.put, List.setIfInBounds_toArray, List.set_cons_zero, List.set_cons_succ]
 refine Vc.wpAnyH_rd (i := 14) (d := some 19) (v := ?v38) ?hy38 ?rest38
 case hy38 =>
  intro w hSw
  try dsimp only at hSw
  go_simp
  try with_reducible rfl
 try simp only [Act.put, List.setIfInBounds_toArray, List.set_cons_zero, List.set_cons_succ]
 refine Vc.wpAnyH_rd (i := 15) (d := some 4) (v := ?v39) ?hy39 ?rest39
 case hy39 =>
  intro w hSw
  try dsimp only at hSw
  go_simp
  try with_reducible rfl
 try simp only [Act.put, List.setIfInBounds_toArray, List.set_cons_zero, List.set_cons_succ]
 refine wpAnyH_done (by kernel_rfl) ?_ _
 go_wp2
 go_ret
 exact ⟨rfl, HI0.out⟩
end Go.Proofs.YtblogecapegbmaaGreat.Jn
