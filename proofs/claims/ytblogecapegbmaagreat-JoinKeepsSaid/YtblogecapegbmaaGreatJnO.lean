/- Join: laid, of the example's one link. -/
import Derived.Test.YtblogecapegbmaaGreatJnN
import Derived.Test.YtblogecapegbmaaGreatJnRow
import Derived.Laws.MakeOwn
namespace Go.Proofs.YtblogecapegbmaaGreat.Jn
open Go.RowKit Go.Proofs.YtblogecapegbmaaGreat.Mem
open Go.Proofs.YtblogecapegbmaaGreat.Vc (joinV meetV vecC stC)
set_option linter.unusedVariables false set_option linter.unusedSimpArgs false
theorem qa (l : List Value) (i : Nat) (v : Value) : l.toArray.setIfInBounds i v = (l.set i v).toArray := by simp
theorem qz (x v : Value) (l : List Value) : (x :: l).set 0 v = v :: l := rfl
theorem qs (x v : Value) (l : List Value) (i : Nat) : (x :: l).set (i + 1) v = x :: l.set i v := rfl

theorem has_ne {w : World} {g h : Nat} {t u : TypeId} {cs ds : Array Value} (a : Has w g t cs) (b : Has w h u ds) (k : t ≠ u) : g ≠ h := by
 rintro rfl
 have := a.symm.trans b
 injection this with this
 injection this with _ this
 exact k this
theorem map_ne {w : World} {g h : Nat} {t : TypeId} {cs : Array Value} {m : Int × Int → Option Value} (a : Has w g t cs) (b : KMap stK w h m) : g ≠ h := by
 rintro rfl
 obtain ⟨es, c, h1, _⟩ := b
 have := a.symm.trans h1
 injection this with this
 cases this
theorem step_map {P : Program} {ops : Array Oper} {o : Oper} {a : Act} {w : World} {K : Act → World → Prop} {Q : Exit → Act → World → Prop} {E : Prop} (T : TypeId) (ho : o.op = .makeMap T none)
  (h : Region.wanted o (yielded ops a.tmps) = true ∧ ∀ g W', Hid (KMap stK W' g fun _ => none) → Hid (Below w.heap.size w W') → Hid (w.heap.size ≤ g) → K (a.put o.dst (.map (some g))) W') : if Region.wanted o (yielded ops a.tmps) = true then Oper.wp P o a w K Q else E := by
 obtain ⟨h1, h2⟩ := h
 rw [if_pos h1]
 have hr := run_makeMap (P := P) T w
 unfold Oper.wp execOp
 simp only [ho, Option.map_none, hr, Sem.run_bind, Sem.run_pure, Result.andThen_ok]
 exact h2 _ _ (Lib.hid (KMap.made stK w)) (Lib.hid ((Below.refl w.heap.size w).alloc (Nat.le_refl _) _)) (Lib.hid (Nat.le_refl _))
theorem step_make {P : Program} {ops : Array Oper} {o : Oper} {a : Act} {w : World} {K : Act → World → Prop} {Q : Exit → Act → World → Prop} {EE : Prop} (T E : TypeId) (z : Value) (x y : Operand) (ho : o.op = .makeSlice T x y) (hm : ∀ w : World, (Instr.makeSlice T (.int .i64 1) (.int .i64 1)).run P w = .ok (.slice (some ⟨w.heap.size, 0, none⟩) 1 1) (w.alloc (.cells #[z] E)))
  (h : (Region.wanted o (yielded ops a.tmps) = true ∧ a.eval x = .int .i64 1 ∧ a.eval y = .int .i64 1) ∧ ∀ g W', Hid (Has W' g E #[z]) → Hid (Below w.heap.size w W') → Hid (w.heap.size ≤ g) → K (a.put o.dst (.slice (some ⟨g, 0, none⟩) 1 1)) W') : if Region.wanted o (yielded ops a.tmps) = true then Oper.wp P o a w K Q else EE := by
 obtain ⟨⟨h1, e1, e2⟩, h2⟩ := h
 rw [if_pos h1]
 unfold Oper.wp execOp
 simp only [ho, e1, e2, hm w, Sem.run_bind, Sem.run_pure, Result.andThen_ok]
 exact h2 _ _ (Lib.hid (Has.fresh w E #[z])) (Lib.hid ((Below.refl w.heap.size w).alloc (Nat.le_refl _) _)) (Lib.hid (Nat.le_refl _))
theorem step_box {P : Program} {ops : Array Oper} {o : Oper} {a : Act} {w : World} {K : Act → World → Prop} {Q : Exit → Act → World → Prop} {EE : Prop} (T : TypeId) (C : Array Value) (x : Operand) (ho : o.op = .box T x) (hm : ∀ w : World, (Instr.box T (.agg C)).run P w = .ok (.pointer (some ⟨w.heap.size, 0, none⟩)) (w.alloc (.cells C T)))
  (h : (Region.wanted o (yielded ops a.tmps) = true ∧ a.eval x = .agg C) ∧ ∀ g W', Hid (Has W' g T C) → Hid (Below w.heap.size w W') → Hid (w.heap.size ≤ g) → K (a.put o.dst (.pointer (some ⟨g, 0, none⟩))) W') : if Region.wanted o (yielded ops a.tmps) = true then Oper.wp P o a w K Q else EE := by
 obtain ⟨⟨h1, e1⟩, h2⟩ := h
 rw [if_pos h1]
 unfold Oper.wp execOp
 simp only [ho, e1, hm w, Sem.run_bind, Sem.run_pure, Result.andThen_ok]
 exact h2 _ _ (Lib.hid (Has.fresh w T C)) (Lib.hid ((Below.refl w.heap.size w).alloc (Nat.le_refl _) _)) (Lib.hid (Nat.le_refl _))
theorem step_upd {ops : Array Oper} {o : Oper} {a : Act} {w : World} {K : Act → World → Prop} {Q : Exit → Act → World → Prop} {EE : Prop} (b : Nat) (m : Int × Int → Option Value) (z : Int × Int) (v : Value) (x y u : Operand) (ho : o.op = .mapUpdate 98 x y u)
  (h : (Region.wanted o (yielded ops a.tmps) = true ∧ o.dst = none ∧ a.eval x = .map (some b) ∧ a.eval y = stK z ∧ a.eval u = v ∧ KMap stK w b m) ∧ ∀ W', Hid (KMap stK W' b (updK m z v)) → Hid (Chg (· = b) w W') → K a W') : if Region.wanted o (yielded ops a.tmps) = true then Oper.wp Tryz.prog o a w K Q else EE := by
 obtain ⟨⟨h1, h0, e1, e2, e3, e4⟩, h2⟩ := h
 rw [if_pos h1]
 obtain ⟨w2, hr, hk, hc, _⟩ := KMap.update Tryz.underlying98 stKeys e4 z v
 unfold Oper.wp execOp
 simp only [ho, e1, e2, e3, hr, Sem.run_bind, Sem.run_pure, Result.andThen_ok]
 have := h2 _ (Lib.hid hk) (Lib.hid hc)
 show K (a.put o.dst undef) _
 rw [h0]
 exact this
theorem make_si (w : World) : (Instr.makeSlice 63 (.int .i64 1) (.int .i64 1)).run Tryz.prog w = .ok (.slice (some ⟨w.heap.size, 0, none⟩) 1 1) (w.alloc (.cells #[.int .i64 0] 3)) := by
 obtain ⟨i0, hi, hz0, hz1, hz2⟩ : ∃ i, Tryz.prog.info? 3 = some i ∧ i.zero = some (.int .i64 0) ∧ i.size = 1 ∧ i.bytes = 8 := by
  have h : (Tryz.prog.info? 3).map (fun i => (i.zero, i.size, i.bytes)) = some (some (.int .i64 0), 1, 8) := by kernel_rfl
  cases hh : Tryz.prog.info? 3 with
  | none => rw [hh] at h; cases h
  | some i => rw [hh] at h; simp at h; exact ⟨i, rfl, h⟩
 have h := run_makeSlice (P := Tryz.prog) w 63 3 i0 (.int .i64 0) Tryz.underlying63 hi hz0 .i64 .i64 1 1 (by omega) (Int.le_refl _) (by rw [hz1]; decide) (by rw [hz2]; decide) (by decide)
 rw [hz1] at h
 rw [h]
 exact congrArg (fun x => Result.ok _ (w.alloc (.cells x _))) (by kernel_rfl)
theorem make_sb (w : World) : (Instr.makeSlice 53 (.int .i64 1) (.int .i64 1)).run Tryz.prog w = .ok (.slice (some ⟨w.heap.size, 0, none⟩) 1 1) (w.alloc (.cells #[.bool false] 4)) := by
 obtain ⟨i0, hi, hz0, hz1, hz2⟩ : ∃ i, Tryz.prog.info? 4 = some i ∧ i.zero = some (.bool false) ∧ i.size = 1 ∧ i.bytes = 1 := by
  have h : (Tryz.prog.info? 4).map (fun i => (i.zero, i.size, i.bytes)) = some (some (.bool false), 1, 1) := by kernel_rfl
  cases hh : Tryz.prog.info? 4 with
  | none => rw [hh] at h; cases h
  | some i => rw [hh] at h; simp at h; exact ⟨i, rfl, h⟩
 have h := run_makeSlice (P := Tryz.prog) w 53 4 i0 (.bool false) Tryz.underlying53 hi hz0 .i64 .i64 1 1 (by omega) (Int.le_refl _) (by rw [hz1]; decide) (by rw [hz2]; decide) (by decide)
 rw [hz1] at h
 rw [h]
 exact congrArg (fun x => Result.ok _ (w.alloc (.cells x _))) (by kernel_rfl)
def sC (A1 : Option Addr) (c1 b c2 : Nat) : Array Value := #[.int .i64 2, .int .i64 0, .int .i64 0, .int .i64 0, .int .i64 0, .int .i64 0, .int .i64 0, .int .i64 0, .slice A1 0 c1, .slice (some ⟨b, 0, none⟩) 1 c2]
theorem box_pr (A1 : Option Addr) (c1 b c2 mb bb sb : Nat) (w : World) : (Instr.box 100 (.agg (prC A1 c1 b c2 mb bb sb))).run Tryz.prog w = .ok (.pointer (some ⟨w.heap.size, 0, none⟩)) (w.alloc (.cells (prC A1 c1 b c2 mb bb sb) 100)) := by
 have hu := Tryz.underlying100
 go_simp
theorem build_pr (w : World) (A1 : Option Addr) (c1 b c2 mb bb sb : Nat) : (Instr.build 100 #[(0, .agg (sC A1 c1 b c2)), (1, .agg v2C), (2, .map (some mb)), (3, .slice (some ⟨bb, 0, none⟩) 1 1), (4, .slice (some ⟨sb, 0, none⟩) 1 1)]).run Tryz.prog w = .ok (.agg (prC A1 c1 b c2 mb bb sb)) w := run_build w _ _ _ (by kernel_rfl)
theorem d_node {w : World} {g : Nat} {t : TypeId} {nm : ByteArray} (h : Has w g t (dC nm)) : w.rangeAt g 2 (#[.int .i64 1, .int .i64 0] : Array Value).toList := range_of h fun j hj => by
 match j, (show j < 2 from hj) with
 | 0, _ | 1, _ => rfl
theorem one_d (nm : ByteArray) : (dC nm).all (·.oneCell') = true := by simp [dC, Value.oneCell']
/-- What laid's loop keeps. -/
structure LdI (w wr : World) (g mb bb sb : Nat) (A1 : Option Addr) (c1 b c2 : Nat) (nm : ByteArray) : Prop where
 below : Below w.heap.size w wr
 hp : Has wr g 100 (prC A1 c1 b c2 mb bb sb)
 hb : Has wr bb 3 #[.int .i64 0]
 hs : Has wr sb 4 #[.bool false]
 row : wr.rangeAt b 0 (dC nm).toList
 bd : b < w.heap.size
 m1 : w.heap.size ≤ mb
 m2 : w.heap.size ≤ bb
theorem LdI.drew {w wr : World} {g mb bb sb : Nat} {A1 : Option Addr} {c1 b c2 : Nat} {nm : ByteArray} (h : LdI w wr g mb bb sb A1 c1 b c2 nm) : LdI w wr.drew g mb bb sb A1 c1 b c2 nm := ⟨h.below.drew, h.hp, h.hb, h.hs, h.row, h.bd, h.m1, h.m2⟩
theorem LdI.low {w wr w2 : World} {g mb bb sb : Nat} {A1 : Option Addr} {c1 b c2 : Nat} {nm : ByteArray} (h : LdI w wr g mb bb sb A1 c1 b c2 nm) (hb : Below wr.heap.size wr w2) : LdI w w2 g mb bb sb A1 c1 b c2 nm :=
 ⟨h.below.trans (hb.mono h.below.size), h.hp.below hb, h.hb.below hb, h.hs.below hb, Fc.row_range_below h.row hb (Nat.lt_of_lt_of_le h.bd h.below.size), h.bd, h.m1, h.m2⟩
theorem LdI.put {w wr w2 : World} {g mb bb sb : Nat} {A1 : Option Addr} {c1 b c2 : Nat} {nm : ByteArray} (h : LdI w wr g mb bb sb A1 c1 b c2 nm) (hx : Has w2 bb 3 #[.int .i64 0]) (hc : Chg (· = bb) wr w2) : LdI w w2 g mb bb sb A1 c1 b c2 nm :=
 have hB := below_step h.below hc h.m2
 ⟨hB, h.hp.over hc (has_ne h.hp h.hb (by decide)), hx, h.hs.over hc (has_ne h.hs h.hb (by decide)), fun j v hv => (hB.cell (p := ⟨b, 0 + j, none⟩) h.bd).trans ((h.below.cell (p := ⟨b, 0 + j, none⟩) h.bd).symm.trans (h.row j v hv)), h.bd, h.m1, h.m2⟩
theorem LdI.upd {w wr w2 : World} {g mb bb sb : Nat} {A1 : Option Addr} {c1 b c2 : Nat} {nm : ByteArray} {m : Int × Int → Option Value} (h : LdI w wr g mb bb sb A1 c1 b c2 nm) (hm : KMap stK wr mb m) (hc : Chg (· = mb) wr w2) : LdI w w2 g mb bb sb A1 c1 b c2 nm :=
 have hB := below_step h.below hc h.m1
 ⟨hB, h.hp.over hc (map_ne h.hp hm), h.hb.over hc (map_ne h.hb hm), h.hs.over hc (map_ne h.hs hm), fun j v hv => (hB.cell (p := ⟨b, 0 + j, none⟩) h.bd).trans ((h.below.cell (p := ⟨b, 0 + j, none⟩) h.bd).symm.trans (h.row j v hv)), h.bd, h.m1, h.m2⟩
set_option maxRecDepth 100000 in
set_option maxHeartbeats 8000000 in
theorem laid_ex (nm : ByteArray) (A1 : Option Addr) (c1 b c2 : Nat) (w : World) (hrow : w.rangeAt b 0 (dC nm).toList) (hbd : b < w.heap.size) : Calls Tryz.prog 58 #[.agg (sC A1 c1 b c2), .agg v2C] w fun e w' => ∃ g mb bb sb, e = .returned (.pointer (some ⟨g, 0, none⟩)) ∧ LdI w w' g mb bb sb A1 c1 b c2 nm := by
 obtain ⟨g1, hg1⟩ : ∃ g1, g1 = w.heap.size := ⟨_, rfl⟩
 obtain ⟨g2, hg2⟩ : ∃ g2, g2 = w.heap.size + 1 := ⟨_, rfl⟩
 have HB0 := Lib.hid (((Below.refl w.heap.size w).alloc (Nat.le_refl _) (.cells (sC A1 c1 b c2) 27)).alloc (by simp) (.cells v2C 23))
 have HX0 := Lib.hid (show Has ((w.alloc (.cells (sC A1 c1 b c2) 27)).alloc (.cells v2C 23)) g1 27 (sC A1 c1 b c2) by rw [hg1]; exact (Has.fresh w 27 (sC A1 c1 b c2)).past _)
 have HY0 := Lib.hid (show Has ((w.alloc (.cells (sC A1 c1 b c2) 27)).alloc (.cells v2C 23)) g2 23 v2C by rw [hg2]; have q := Has.fresh (w.alloc (.cells (sC A1 c1 b c2) 27)) 23 v2C; rw [World.size_alloc] at q; exact q)
 have HR0 := Lib.hid hrow
 have HBD := Lib.hid hbd
 have c9 : ((w.alloc (.cells (sC A1 c1 b c2) 27)).alloc (.cells v2C 23)).cell? ⟨w.heap.size, 9, none⟩ = some (.slice (some ⟨b, 0, none⟩) 1 c2) := by rw [← hg1]; exact HX0.out.at_ 9
 have HG1 := Lib.hid hg1
 have HG2 := Lib.hid hg2
 clear hrow hbd hg1 hg2
 go_enter Tryz.func58, Tryz.ntmps58
 go_wp2_with fail
 rw [← HG2.out, ← HG1.out]
 refine wp_region_held_drew (S := fun V => Has V g1 27 (sC A1 c1 b c2) ∧ Has V g2 23 v2C) (by kernel_rfl) ⟨HX0.out.drew, HY0.out.drew⟩ (fun hHeld => ?_)
 have HI_0 := Lib.hid HB0.out.drew
 have HX_0 := Lib.hid HX0.out.drew
 have HY_0 := Lib.hid HY0.out.drew
 refine Vc.wpAnyH_rd (i := 0) (d := some 12) (v := .agg (sC A1 c1 b c2)) ?hy1 ?rest1
 case hy1 =>
  intro w hSw
  exact Who.exec_loadA _ rfl rfl (Who.has_range hSw.1) Tryz.underlying27 rfl info_state
 try simp only [Act.put, qa, qz, qs]
 refine Vc.wpAnyH_rd (i := 1) (d := some 13) (v := .agg v2C) ?hy2 ?rest2
 case hy2 =>
  intro w hSw
  exact Who.exec_loadA _ rfl rfl (Who.has_range hSw.2) Tryz.underlying23 rfl info_vec
 try simp only [Act.put, qa, qz, qs]
 refine Vc.wpAnyH_rd (i := 3) (d := some 15) (v := ?v3) ?hy3 ?rest3
 case hy3 =>
  intro w hSw
  try dsimp only at hSw
  go_simp
  try with_reducible rfl
 try simp only [Act.put, qa, qz, qs]
 refine Vc.wpAnyH_rd (i := 5) (d := some 17) (v := ?v4) ?hy4 ?rest4
 case hy4 =>
  intro w hSw
  try dsimp only at hSw
  go_simp
  try with_reducible rfl
 try simp only [Act.put, qa, qz, qs]
 refine wpAnyH_ready (rs := [2, 4, 6]) (by kernel_rfl) (by simp) ?_
 refine AllReadyH.cons rfl (fun K hK => ?_) (AllReadyH.cons rfl (fun K hK => ?_) (AllReadyH.cons rfl (fun K hK => ?_) AllReadyH.nil))
 ·refine step_map 98 (by rfl) ?_
  refine And.intro (by rfl) ?_
  intro mb W1 HM_1 hb HLM0
  have HLM := Lib.hid (Nat.le_trans HI_0.out.size HLM0.out)
  have HI_1 := Lib.hid (HI_0.out.trans (hb.out.mono HI_0.out.size))
  have HX_1 := Lib.hid (HX_0.out.below hb.out)
  have HY_1 := Lib.hid (HY_0.out.below hb.out)
  clear hb
  refine hK.out _ _ ⟨HX_1.out, HY_1.out⟩ (fun hHeld => ?_)
  clear hK K
  try simp only [Act.put, qa, qz, qs]
  refine wpAnyH_ready (rs := [4, 6]) (by kernel_rfl) (by simp) ?_
  refine AllReadyH.cons rfl (fun K hK => ?_) (AllReadyH.cons rfl (fun K hK => ?_) AllReadyH.nil)
  ·refine step_make 63 3 (.int .i64 0) (.tmp 15) (.tmp 15) (by rfl) make_si ?_
   refine And.intro ⟨by rfl, by rfl, by rfl⟩ ?_
   intro bb W2 HB_2 hb HLB0
   have HLB := Lib.hid (Nat.le_trans HI_1.out.size HLB0.out)
   have HI_2 := Lib.hid (HI_1.out.trans (hb.out.mono HI_1.out.size))
   have HX_2 := Lib.hid (HX_1.out.below hb.out)
   have HY_2 := Lib.hid (HY_1.out.below hb.out)
   have HM_2 := Lib.hid (HM_1.out.below hb.out)
   clear hb
   refine hK.out _ _ ⟨HX_2.out, HY_2.out⟩ (fun hHeld => ?_)
   clear hK K
   try simp only [Act.put, qa, qz, qs]
   refine wpAnyH_ready (rs := [6]) (by kernel_rfl) (by simp) ?_
   refine AllReadyH.cons rfl (fun K hK => ?_) AllReadyH.nil
   refine step_make 53 4 (.bool false) (.tmp 17) (.tmp 17) (by rfl) make_sb ?_
   refine And.intro ⟨by rfl, by rfl, by rfl⟩ ?_
   intro sb W3 HS_3 hb HLS0
   have HI_3 := Lib.hid (HI_2.out.trans (hb.out.mono HI_2.out.size))
   have HX_3 := Lib.hid (HX_2.out.below hb.out)
   have HY_3 := Lib.hid (HY_2.out.below hb.out)
   have HM_3 := Lib.hid (HM_2.out.below hb.out)
   have HB_3 := Lib.hid (HB_2.out.below hb.out)
   clear hb
   refine hK.out _ _ ⟨HX_3.out, HY_3.out⟩ (fun hHeld => ?_)
   clear hK K
   try simp only [Act.put, qa, qz, qs]
   refine Vc.wpAnyH_rd (i := 7) (d := some 19) (v := .agg (prC A1 c1 b c2 mb bb sb)) ?hy5 ?rest5
   case hy5 =>
    intro w hSw
    have hb := build_pr w A1 c1 b c2 mb bb sb
    simp [execOp, hb, Result.andThen, Act.eval]
   try simp only [Act.put, qa, qz, qs]
   refine wpAnyH_ready (rs := [8]) (by kernel_rfl) (by simp) ?_
   refine AllReadyH.cons rfl (fun K hK => ?_) AllReadyH.nil
   refine step_box 100 (prC A1 c1 b c2 mb bb sb) (.tmp 19) (by rfl) (box_pr A1 c1 b c2 mb bb sb) ?_
   refine And.intro ⟨by rfl, by rfl⟩ ?_
   intro g W4 hx hb hl
   have HI_4 := Lib.hid (HI_3.out.trans (hb.out.mono HI_3.out.size))
   have HL := Lib.hid (show LdI w W4 g mb bb sb A1 c1 b c2 nm from ⟨HI_4.out, hx.out, HB_3.out.below hb.out, HS_3.out.below hb.out, Fc.row_range_below HR0.out HI_4.out HBD.out, HBD.out, HLM.out, HLB.out⟩)
   have HM := Lib.hid (HM_3.out.below hb.out)
   refine hK.out _ _ ⟨HX_3.out.below hb.out, HY_3.out.below hb.out⟩ (fun hHeld => ?_)
   clear hK K
   try simp only [Act.put, qa, qz, qs]
   refine Vc.wpAnyH_rd (i := 9) (d := some 6) (v := ?v6) ?hy6 ?rest6
   case hy6 =>
    intro w hSw
    try dsimp only at hSw
    go_simp
    try with_reducible rfl
   try simp only [Act.put, qa, qz, qs]
   refine wpAnyH_done (by kernel_rfl) ?_ _
   have HZX := Lib.hid (HX_3.out.below hb.out)
   clear hx hb hl
   have c9b := HZX.out.at_ 9
   replace c9b : World.cell? _ ⟨g1, 9, none⟩ = some (.slice (some ⟨b, 0, none⟩) 1 c2) := c9b
   go_wp2
   go_loopw [24] (fun i wr => ∃ j : Nat, i = .int .i64 j ∧ j ≤ 1 ∧ Hid (LdI w wr g mb bb sb A1 c1 b c2 nm) ∧ Hid (∃ m, KMap stK wr mb m ∧ (j = 0 → m = fun _ => none))) (fun i _ => 1 - (intOf i).toNat)
   case atStart => exact ⟨0, rfl, Nat.zero_le _, HL, Lib.hid ⟨_, HM.out, fun _ => rfl⟩⟩
   case round =>
    clear HZX HL HM c9b
    obtain ⟨j, rfl, hj, HI, HK⟩ := hrel
    rcases Nat.eq_zero_or_pos j with hj0 | hj0
    ·subst hj0
     obtain ⟨m, hm, he⟩ := HK.out
     obtain rfl := he rfl
     have HM := Lib.hid hm
     have HZ := Lib.hid (Has.fresh wr 51 zeroL)
     have HBA := Lib.hid ((Below.refl wr.heap.size wr).alloc (Nat.le_refl _) (.cells zeroL 51))
     clear hm he HK hj
     go_wp2_with (first | ((with_reducible refine Who.wpList_loadC 51 (.tmp 27) rfl (b) 0 (dC nm) ?_); refine And.intro ⟨by rfl, by rfl, ⟨_, Tryz.underlying51, rfl⟩, info_link⟩ (And.intro (HI.out.row) ?_); (try simp only [Act.put, qa, qz, qs])) | ((with_reducible refine Who.wpList_alloc 51 8 rfl rfl rfl (zeroL) allocL ?_); (try simp only [Act.put, qa, qz, qs]); (try simp only [World.size_alloc])) | ((with_reducible refine wpList_storeG 51 (.tmp 8) (.tmp 28) rfl (wr.heap.size) zeroL (dC nm) ?_); refine And.intro ⟨rfl, by rfl, by rfl, info_link, one_d nm, rfl, HZ.out⟩ ?_; intro W5 HX5 HC5; (try simp only [Act.put, qa, qz, qs])) | fail)
     have HBW := Lib.hid (below_step HBA.out HC5.out (Nat.le_refl _))
     have HI5 := Lib.hid (HI.out.low HBW.out)
     have HM5 := Lib.hid (HM.out.below HBW.out)
     obtain ⟨g8, hg8⟩ : ∃ g8, g8 = wr.heap.size := ⟨_, rfl⟩
     rw [← hg8] at HX5
     rw [← hg8]
     have HL8 := Lib.hid (show w.heap.size ≤ g8 by rw [hg8]; exact HI.out.below.size)
     clear HI HM HZ HBA HC5 HBW hg8
     refine wp_region_held_drew (S := fun V => Has V g 100 (prC A1 c1 b c2 mb bb sb) ∧ Has V g8 51 (dC nm) ∧ KMap stK V mb fun _ => none) (by kernel_rfl) ⟨HI5.out.drew.hp, HX5.out.drew, HM5.out.drew⟩ (fun hHeld => ?_)
     refine Vc.wpAnyH_rd (i := 0) (d := some 29) (v := ?v7) ?hy7 ?rest7
     case hy7 =>
      intro w hSw
      try dsimp only at hSw
      go_simp
      try with_reducible rfl
     try simp only [Act.put, qa, qz, qs]
     refine Vc.wpAnyH_rd (i := 1) (d := some 30) (v := ?v8) ?hy8 ?rest8
     case hy8 =>
      intro w hSw
      try dsimp only at hSw
      go_simp
      try with_reducible rfl
     try simp only [Act.put, qa, qz, qs]
     refine Vc.wpAnyH_rd (i := 2) (d := some 31) (v := ?v9) ?hy9 ?rest9
     case hy9 =>
      intro w hSw
      try dsimp only at hSw
      go_simp
      try with_reducible rfl
     try simp only [Act.put, qa, qz, qs]
     refine Vc.wpAnyH_rd (i := 3) (d := some 32) (v := .slice (some ⟨bb, 0, none⟩) 1 1) ?hy10 ?rest10
     case hy10 =>
      intro w hSw
      have c := hSw.1.at_ 19
      replace c : w.cell? ⟨g, 19, none⟩ = some (.slice (some ⟨bb, 0, none⟩) 1 1) := c
      go_simp
      try with_reducible rfl
     try simp only [Act.put, qa, qz, qs]
     refine Vc.wpAnyH_rd (i := 4) (d := some 33) (v := ?v11) ?hy11 ?rest11
     case hy11 =>
      intro w hSw
      try dsimp only at hSw
      go_simp
      try with_reducible rfl
     try simp only [Act.put, qa, qz, qs]
     refine Vc.wpAnyH_rd (i := 5) (d := some 34) (v := ?v12) ?hy12 ?rest12
     case hy12 =>
      intro w hSw
      try dsimp only at hSw
      go_simp
      try with_reducible rfl
     try simp only [Act.put, qa, qz, qs]
     refine Vc.wpAnyH_rd (i := 6) (d := some 35) (v := ?v13) ?hy13 ?rest13
     case hy13 =>
      intro w hSw
      try dsimp only at hSw
      go_simp
      try with_reducible rfl
     try simp only [Act.put, qa, qz, qs]
     refine Vc.wpAnyH_rd (i := 7) (d := some 36) (v := ?v14) ?hy14 ?rest14
     case hy14 =>
      intro w hSw
      try dsimp only at hSw
      go_simp
      try with_reducible rfl
     try simp only [Act.put, qa, qz, qs]
     refine Vc.wpAnyH_rd (i := 8) (d := some 37) (v := .map (some mb)) ?hy15 ?rest15
     case hy15 =>
      intro w hSw
      have c := hSw.1.at_ 18
      replace c : w.cell? ⟨g, 18, none⟩ = some (.map (some mb)) := c
      go_simp
      try with_reducible rfl
     try simp only [Act.put, qa, qz, qs]
     refine Vc.wpAnyH_rd (i := 9) (d := some 38) (v := ?v16) ?hy16 ?rest16
     case hy16 =>
      intro w hSw
      try dsimp only at hSw
      go_simp
      try with_reducible rfl
     try simp only [Act.put, qa, qz, qs]
     refine Vc.wpAnyH_rd (i := 10) (d := some 39) (v := .agg #[.int .i64 1, .int .i64 0]) ?hy17 ?rest17
     case hy17 =>
      intro w hSw
      exact Who.exec_loadA _ rfl rfl (d_node hSw.2.1) Tryz.underlying37 rfl info_st
     try simp only [Act.put, qa, qz, qs]
     refine Vc.wpAnyH_rd (i := 11) (d := some 40) (v := .int .i64 0) ?hy18 ?rest18
     case hy18 =>
      intro w hSw
      have h : (Instr.lookup 98 (.map (some mb)) (.agg #[.int .i64 1, .int .i64 0]) false).run Tryz.prog w = .ok (.int .i64 0) w := (KMap.lookup Tryz.underlying98 stKeys hSw.2.2 (.int .i64 0) Tryz.zeroValue3 (1, 0)).1
      go_simp
      try with_reducible rfl
     try simp only [Act.put, qa, qz, qs]
     refine Vc.wpAnyH_rd (i := 12) (d := some 41) (v := ?v19) ?hy19 ?rest19
     case hy19 =>
      intro w hSw
      try dsimp only at hSw
      go_simp
      try with_reducible rfl
     try simp only [Act.put, qa, qz, qs]
     refine wpAnyH_ready (rs := [13]) (by kernel_rfl) (by simp) ?_
     refine AllReadyH.cons rfl (fun K hK => ?_) AllReadyH.nil
     refine stepG_cell (T := 3) 3 (.tmp 41) (.tmp 40) (by rfl) bb 0 #[.int .i64 0] #[.int .i64 0] (.int .i64 0) ?_
     refine And.intro ⟨by rfl, by rfl, by rfl, by rfl, info_int, rfl, by decide, by rfl, HI5.out.drew.hb⟩ ?_
     intro W6 HX6 HC6
     have HI6 := Lib.hid (HI5.out.drew.put HX6.out HC6.out)
     have HX8 := Lib.hid (HX5.out.drew.over HC6.out (has_ne HX5.out HI5.out.hb (by decide)))
     have HM6 := Lib.hid (HM5.out.drew.over HC6.out (fun e => map_ne HI5.out.hb HM5.out e.symm))
     refine hK.out _ _ ⟨HI6.out.hp, HX8.out, HM6.out⟩ (fun hHeld => ?_)
     clear hK K
     try simp only [Act.put, qa, qz, qs]
     refine wpAnyH_done (by kernel_rfl) ?_ _
     clear HI5 HX5 HM5 HX6 HC6
     go_wp2_with fail
     refine wp_region_held_drew (S := fun V => Has V g 100 (prC A1 c1 b c2 mb bb sb) ∧ Has V g8 51 (dC nm)) (by kernel_rfl) ⟨HI6.out.drew.hp, HX8.out.drew⟩ (fun hHeld => ?_)
     refine Vc.wpAnyH_rd (i := 0) (d := some 42) (v := ?v20) ?hy20 ?rest20
     case hy20 =>
      intro w hSw
      try dsimp only at hSw
      go_simp
      try with_reducible rfl
     try simp only [Act.put, qa, qz, qs]
     refine Vc.wpAnyH_rd (i := 1) (d := some 43) (v := ?v21) ?hy21 ?rest21
     case hy21 =>
      intro w hSw
      try dsimp only at hSw
      go_simp
      try with_reducible rfl
     try simp only [Act.put, qa, qz, qs]
     refine Vc.wpAnyH_rd (i := 2) (d := some 44) (v := ?v22) ?hy22 ?rest22
     case hy22 =>
      intro w hSw
      try dsimp only at hSw
      go_simp
      try with_reducible rfl
     try simp only [Act.put, qa, qz, qs]
     refine Vc.wpAnyH_rd (i := 3) (d := some 45) (v := .map (some mb)) ?hy23 ?rest23
     case hy23 =>
      intro w hSw
      have c := hSw.1.at_ 18
      replace c : w.cell? ⟨g, 18, none⟩ = some (.map (some mb)) := c
      go_simp
      try with_reducible rfl
     try simp only [Act.put, qa, qz, qs]
     refine Vc.wpAnyH_rd (i := 4) (d := some 46) (v := ?v24) ?hy24 ?rest24
     case hy24 =>
      intro w hSw
      try dsimp only at hSw
      go_simp
      try with_reducible rfl
     try simp only [Act.put, qa, qz, qs]
     refine Vc.wpAnyH_rd (i := 5) (d := some 47) (v := .agg #[.int .i64 1, .int .i64 0]) ?hy25 ?rest25
     case hy25 =>
      intro w hSw
      exact Who.exec_loadA _ rfl rfl (d_node hSw.2) Tryz.underlying37 rfl info_st
     try simp only [Act.put, qa, qz, qs]
     refine Vc.wpAnyH_rd (i := 6) (d := some 48) (v := ?v26) ?hy26 ?rest26
     case hy26 =>
      intro w hSw
      try dsimp only at hSw
      go_simp
      try with_reducible rfl
     try simp only [Act.put, qa, qz, qs]
     refine Vc.wpAnyH_rd (i := 7) (d := some 49) (v := ?v27) ?hy27 ?rest27
     case hy27 =>
      intro w hSw
      try dsimp only at hSw
      go_simp
      try with_reducible rfl
     try simp only [Act.put, qa, qz, qs]
     refine wpAnyH_ready (rs := [8]) (by kernel_rfl) (by simp) ?_
     refine AllReadyH.cons rfl (fun K hK => ?_) AllReadyH.nil
     refine step_upd mb (fun _ => none) (1, 0) (.int .i64 1) (.tmp 45) (.tmp 47) (.tmp 49) (by rfl) ?_
     refine And.intro ⟨by rfl, by rfl, by rfl, by rfl, by rfl, HM6.out.drew⟩ ?_
     intro W7 HM7 HC7
     have HI7 := Lib.hid (HI6.out.drew.upd HM6.out.drew HC7.out)
     have HX9 := Lib.hid (HX8.out.drew.over HC7.out (map_ne HX8.out HM6.out))
     refine hK.out _ _ ⟨HI7.out.hp, HX9.out⟩ (fun hHeld => ?_)
     clear hK K
     try simp only [Act.put, qa, qz, qs]
     refine wpAnyH_done (by kernel_rfl) ?_ _
     clear HI6 HX8 HM6 HC7
     go_wp2
     go_roundw
     case rel => exact ⟨1, by go_num, by omega, HI7, Lib.hid ⟨_, HM7.out, fun h => by omega⟩⟩
     case measure => simp [intOf]
    ·obtain rfl : 1 = j := by omega
     go_wp2
     go_ret
     exact ⟨g, mb, bb, sb, rfl, HI.out⟩
  ·refine step_make 53 4 (.bool false) (.tmp 17) (.tmp 17) (by rfl) make_sb ?_
   refine And.intro ⟨by rfl, by rfl, by rfl⟩ ?_
   intro sb W5 HS_5 hb HLS0
   have HI_5 := Lib.hid (HI_1.out.trans (hb.out.mono HI_1.out.size))
   have HX_5 := Lib.hid (HX_1.out.below hb.out)
   have HY_5 := Lib.hid (HY_1.out.below hb.out)
   have HM_5 := Lib.hid (HM_1.out.below hb.out)
   clear hb
   refine hK.out _ _ ⟨HX_5.out, HY_5.out⟩ (fun hHeld => ?_)
   clear hK K
   try simp only [Act.put, qa, qz, qs]
   refine wpAnyH_ready (rs := [4]) (by kernel_rfl) (by simp) ?_
   refine AllReadyH.cons rfl (fun K hK => ?_) AllReadyH.nil
   refine step_make 63 3 (.int .i64 0) (.tmp 15) (.tmp 15) (by rfl) make_si ?_
   refine And.intro ⟨by rfl, by rfl, by rfl⟩ ?_
   intro bb W6 HB_6 hb HLB0
   have HLB := Lib.hid (Nat.le_trans HI_5.out.size HLB0.out)
   have HI_6 := Lib.hid (HI_5.out.trans (hb.out.mono HI_5.out.size))
   have HX_6 := Lib.hid (HX_5.out.below hb.out)
   have HY_6 := Lib.hid (HY_5.out.below hb.out)
   have HM_6 := Lib.hid (HM_5.out.below hb.out)
   have HS_6 := Lib.hid (HS_5.out.below hb.out)
   clear hb
   refine hK.out _ _ ⟨HX_6.out, HY_6.out⟩ (fun hHeld => ?_)
   clear hK K
   try simp only [Act.put, qa, qz, qs]
   refine Vc.wpAnyH_rd (i := 7) (d := some 19) (v := .agg (prC A1 c1 b c2 mb bb sb)) ?hy28 ?rest28
   case hy28 =>
    intro w hSw
    have hb := build_pr w A1 c1 b c2 mb bb sb
    simp [execOp, hb, Result.andThen, Act.eval]
   try simp only [Act.put, qa, qz, qs]
   refine wpAnyH_ready (rs := [8]) (by kernel_rfl) (by simp) ?_
   refine AllReadyH.cons rfl (fun K hK => ?_) AllReadyH.nil
   refine step_box 100 (prC A1 c1 b c2 mb bb sb) (.tmp 19) (by rfl) (box_pr A1 c1 b c2 mb bb sb) ?_
   refine And.intro ⟨by rfl, by rfl⟩ ?_
   intro g W7 hx hb hl
   have HI_7 := Lib.hid (HI_6.out.trans (hb.out.mono HI_6.out.size))
   have HL := Lib.hid (show LdI w W7 g mb bb sb A1 c1 b c2 nm from ⟨HI_7.out, hx.out, HB_6.out.below hb.out, HS_6.out.below hb.out, Fc.row_range_below HR0.out HI_7.out HBD.out, HBD.out, HLM.out, HLB.out⟩)
   have HM := Lib.hid (HM_6.out.below hb.out)
   refine hK.out _ _ ⟨HX_6.out.below hb.out, HY_6.out.below hb.out⟩ (fun hHeld => ?_)
   clear hK K
   try simp only [Act.put, qa, qz, qs]
   refine Vc.wpAnyH_rd (i := 9) (d := some 6) (v := ?v29) ?hy29 ?rest29
   case hy29 =>
    intro w hSw
    try dsimp only at hSw
    go_simp
    try with_reducible rfl
   try simp only [Act.put, qa, qz, qs]
   refine wpAnyH_done (by kernel_rfl) ?_ _
   have HZX := Lib.hid (HX_6.out.below hb.out)
   clear hx hb hl
   have c9b := HZX.out.at_ 9
   replace c9b : World.cell? _ ⟨g1, 9, none⟩ = some (.slice (some ⟨b, 0, none⟩) 1 c2) := c9b
   go_wp2
   go_loopw [24] (fun i wr => ∃ j : Nat, i = .int .i64 j ∧ j ≤ 1 ∧ Hid (LdI w wr g mb bb sb A1 c1 b c2 nm) ∧ Hid (∃ m, KMap stK wr mb m ∧ (j = 0 → m = fun _ => none))) (fun i _ => 1 - (intOf i).toNat)
   case atStart => exact ⟨0, rfl, Nat.zero_le _, HL, Lib.hid ⟨_, HM.out, fun _ => rfl⟩⟩
   case round =>
    clear HZX HL HM c9b
    obtain ⟨j, rfl, hj, HI, HK⟩ := hrel
    rcases Nat.eq_zero_or_pos j with hj0 | hj0
    ·subst hj0
     obtain ⟨m, hm, he⟩ := HK.out
     obtain rfl := he rfl
     have HM := Lib.hid hm
     have HZ := Lib.hid (Has.fresh wr 51 zeroL)
     have HBA := Lib.hid ((Below.refl wr.heap.size wr).alloc (Nat.le_refl _) (.cells zeroL 51))
     clear hm he HK hj
     go_wp2_with (first | ((with_reducible refine Who.wpList_loadC 51 (.tmp 27) rfl (b) 0 (dC nm) ?_); refine And.intro ⟨by rfl, by rfl, ⟨_, Tryz.underlying51, rfl⟩, info_link⟩ (And.intro (HI.out.row) ?_); (try simp only [Act.put, qa, qz, qs])) | ((with_reducible refine Who.wpList_alloc 51 8 rfl rfl rfl (zeroL) allocL ?_); (try simp only [Act.put, qa, qz, qs]); (try simp only [World.size_alloc])) | ((with_reducible refine wpList_storeG 51 (.tmp 8) (.tmp 28) rfl (wr.heap.size) zeroL (dC nm) ?_); refine And.intro ⟨rfl, by rfl, by rfl, info_link, one_d nm, rfl, HZ.out⟩ ?_; intro W5 HX5 HC5; (try simp only [Act.put, qa, qz, qs])) | fail)
     have HBW := Lib.hid (below_step HBA.out HC5.out (Nat.le_refl _))
     have HI5 := Lib.hid (HI.out.low HBW.out)
     have HM5 := Lib.hid (HM.out.below HBW.out)
     obtain ⟨g8, hg8⟩ : ∃ g8, g8 = wr.heap.size := ⟨_, rfl⟩
     rw [← hg8] at HX5
     rw [← hg8]
     have HL8 := Lib.hid (show w.heap.size ≤ g8 by rw [hg8]; exact HI.out.below.size)
     clear HI HM HZ HBA HC5 HBW hg8
     refine wp_region_held_drew (S := fun V => Has V g 100 (prC A1 c1 b c2 mb bb sb) ∧ Has V g8 51 (dC nm) ∧ KMap stK V mb fun _ => none) (by kernel_rfl) ⟨HI5.out.drew.hp, HX5.out.drew, HM5.out.drew⟩ (fun hHeld => ?_)
     refine Vc.wpAnyH_rd (i := 0) (d := some 29) (v := ?v30) ?hy30 ?rest30
     case hy30 =>
      intro w hSw
      try dsimp only at hSw
      go_simp
      try with_reducible rfl
     try simp only [Act.put, qa, qz, qs]
     refine Vc.wpAnyH_rd (i := 1) (d := some 30) (v := ?v31) ?hy31 ?rest31
     case hy31 =>
      intro w hSw
      try dsimp only at hSw
      go_simp
      try with_reducible rfl
     try simp only [Act.put, qa, qz, qs]
     refine Vc.wpAnyH_rd (i := 2) (d := some 31) (v := ?v32) ?hy32 ?rest32
     case hy32 =>
      intro w hSw
      try dsimp only at hSw
      go_simp
      try with_reducible rfl
     try simp only [Act.put, qa, qz, qs]
     refine Vc.wpAnyH_rd (i := 3) (d := some 32) (v := .slice (some ⟨bb, 0, none⟩) 1 1) ?hy33 ?rest33
     case hy33 =>
      intro w hSw
      have c := hSw.1.at_ 19
      replace c : w.cell? ⟨g, 19, none⟩ = some (.slice (some ⟨bb, 0, none⟩) 1 1) := c
      go_simp
      try with_reducible rfl
     try simp only [Act.put, qa, qz, qs]
     refine Vc.wpAnyH_rd (i := 4) (d := some 33) (v := ?v34) ?hy34 ?rest34
     case hy34 =>
      intro w hSw
      try dsimp only at hSw
      go_simp
      try with_reducible rfl
     try simp only [Act.put, qa, qz, qs]
     refine Vc.wpAnyH_rd (i := 5) (d := some 34) (v := ?v35) ?hy35 ?rest35
     case hy35 =>
      intro w hSw
      try dsimp only at hSw
      go_simp
      try with_reducible rfl
     try simp only [Act.put, qa, qz, qs]
     refine Vc.wpAnyH_rd (i := 6) (d := some 35) (v := ?v36) ?hy36 ?rest36
     case hy36 =>
      intro w hSw
      try dsimp only at hSw
      go_simp
      try with_reducible rfl
     try simp only [Act.put, qa, qz, qs]
     refine Vc.wpAnyH_rd (i := 7) (d := some 36) (v := ?v37) ?hy37 ?rest37
     case hy37 =>
      intro w hSw
      try dsimp only at hSw
      go_simp
      try with_reducible rfl
     try simp only [Act.put, qa, qz, qs]
     refine Vc.wpAnyH_rd (i := 8) (d := some 37) (v := .map (some mb)) ?hy38 ?rest38
     case hy38 =>
      intro w hSw
      have c := hSw.1.at_ 18
      replace c : w.cell? ⟨g, 18, none⟩ = some (.map (some mb)) := c
      go_simp
      try with_reducible rfl
     try simp only [Act.put, qa, qz, qs]
     refine Vc.wpAnyH_rd (i := 9) (d := some 38) (v := ?v39) ?hy39 ?rest39
     case hy39 =>
      intro w hSw
      try dsimp only at hSw
      go_simp
      try with_reducible rfl
     try simp only [Act.put, qa, qz, qs]
     refine Vc.wpAnyH_rd (i := 10) (d := some 39) (v := .agg #[.int .i64 1, .int .i64 0]) ?hy40 ?rest40
     case hy40 =>
      intro w hSw
      exact Who.exec_loadA _ rfl rfl (d_node hSw.2.1) Tryz.underlying37 rfl info_st
     try simp only [Act.put, qa, qz, qs]
     refine Vc.wpAnyH_rd (i := 11) (d := some 40) (v := .int .i64 0) ?hy41 ?rest41
     case hy41 =>
      intro w hSw
      have h : (Instr.lookup 98 (.map (some mb)) (.agg #[.int .i64 1, .int .i64 0]) false).run Tryz.prog w = .ok (.int .i64 0) w := (KMap.lookup Tryz.underlying98 stKeys hSw.2.2 (.int .i64 0) Tryz.zeroValue3 (1, 0)).1
      go_simp
      try with_reducible rfl
     try simp only [Act.put, qa, qz, qs]
     refine Vc.wpAnyH_rd (i := 12) (d := some 41) (v := ?v42) ?hy42 ?rest42
     case hy42 =>
      intro w hSw
      try dsimp only at hSw
      go_simp
      try with_reducible rfl
     try simp only [Act.put, qa, qz, qs]
     refine wpAnyH_ready (rs := [13]) (by kernel_rfl) (by simp) ?_
     refine AllReadyH.cons rfl (fun K hK => ?_) AllReadyH.nil
     refine stepG_cell (T := 3) 3 (.tmp 41) (.tmp 40) (by rfl) bb 0 #[.int .i64 0] #[.int .i64 0] (.int .i64 0) ?_
     refine And.intro ⟨by rfl, by rfl, by rfl, by rfl, info_int, rfl, by decide, by rfl, HI5.out.drew.hb⟩ ?_
     intro W6 HX6 HC6
     have HI6 := Lib.hid (HI5.out.drew.put HX6.out HC6.out)
     have HX8 := Lib.hid (HX5.out.drew.over HC6.out (has_ne HX5.out HI5.out.hb (by decide)))
     have HM6 := Lib.hid (HM5.out.drew.over HC6.out (fun e => map_ne HI5.out.hb HM5.out e.symm))
     refine hK.out _ _ ⟨HI6.out.hp, HX8.out, HM6.out⟩ (fun hHeld => ?_)
     clear hK K
     try simp only [Act.put, qa, qz, qs]
     refine wpAnyH_done (by kernel_rfl) ?_ _
     clear HI5 HX5 HM5 HX6 HC6
     go_wp2_with fail
     refine wp_region_held_drew (S := fun V => Has V g 100 (prC A1 c1 b c2 mb bb sb) ∧ Has V g8 51 (dC nm)) (by kernel_rfl) ⟨HI6.out.drew.hp, HX8.out.drew⟩ (fun hHeld => ?_)
     refine Vc.wpAnyH_rd (i := 0) (d := some 42) (v := ?v43) ?hy43 ?rest43
     case hy43 =>
      intro w hSw
      try dsimp only at hSw
      go_simp
      try with_reducible rfl
     try simp only [Act.put, qa, qz, qs]
     refine Vc.wpAnyH_rd (i := 1) (d := some 43) (v := ?v44) ?hy44 ?rest44
     case hy44 =>
      intro w hSw
      try dsimp only at hSw
      go_simp
      try with_reducible rfl
     try simp only [Act.put, qa, qz, qs]
     refine Vc.wpAnyH_rd (i := 2) (d := some 44) (v := ?v45) ?hy45 ?rest45
     case hy45 =>
      intro w hSw
      try dsimp only at hSw
      go_simp
      try with_reducible rfl
     try simp only [Act.put, qa, qz, qs]
     refine Vc.wpAnyH_rd (i := 3) (d := some 45) (v := .map (some mb)) ?hy46 ?rest46
     case hy46 =>
      intro w hSw
      have c := hSw.1.at_ 18
      replace c : w.cell? ⟨g, 18, none⟩ = some (.map (some mb)) := c
      go_simp
      try with_reducible rfl
     try simp only [Act.put, qa, qz, qs]
     refine Vc.wpAnyH_rd (i := 4) (d := some 46) (v := ?v47) ?hy47 ?rest47
     case hy47 =>
      intro w hSw
      try dsimp only at hSw
      go_simp
      try with_reducible rfl
     try simp only [Act.put, qa, qz, qs]
     refine Vc.wpAnyH_rd (i := 5) (d := some 47) (v := .agg #[.int .i64 1, .int .i64 0]) ?hy48 ?rest48
     case hy48 =>
      intro w hSw
      exact Who.exec_loadA _ rfl rfl (d_node hSw.2) Tryz.underlying37 rfl info_st
     try simp only [Act.put, qa, qz, qs]
     refine Vc.wpAnyH_rd (i := 6) (d := some 48) (v := ?v49) ?hy49 ?rest49
     case hy49 =>
      intro w hSw
      try dsimp only at hSw
      go_simp
      try with_reducible rfl
     try simp only [Act.put, qa, qz, qs]
     refine Vc.wpAnyH_rd (i := 7) (d := some 49) (v := ?v50) ?hy50 ?rest50
     case hy50 =>
      intro w hSw
      try dsimp only at hSw
      go_simp
      try with_reducible rfl
     try simp only [Act.put, qa, qz, qs]
     refine wpAnyH_ready (rs := [8]) (by kernel_rfl) (by simp) ?_
     refine AllReadyH.cons rfl (fun K hK => ?_) AllReadyH.nil
     refine step_upd mb (fun _ => none) (1, 0) (.int .i64 1) (.tmp 45) (.tmp 47) (.tmp 49) (by rfl) ?_
     refine And.intro ⟨by rfl, by rfl, by rfl, by rfl, by rfl, HM6.out.drew⟩ ?_
     intro W7 HM7 HC7
     have HI7 := Lib.hid (HI6.out.drew.upd HM6.out.drew HC7.out)
     have HX9 := Lib.hid (HX8.out.drew.over HC7.out (map_ne HX8.out HM6.out))
     refine hK.out _ _ ⟨HI7.out.hp, HX9.out⟩ (fun hHeld => ?_)
     clear hK K
     try simp only [Act.put, qa, qz, qs]
     refine wpAnyH_done (by kernel_rfl) ?_ _
     clear HI6 HX8 HM6 HC7
     go_wp2
     go_roundw
     case rel => exact ⟨1, by go_num, by omega, HI7, Lib.hid ⟨_, HM7.out, fun h => by omega⟩⟩
     case measure => simp [intOf]
    ·obtain rfl : 1 = j := by omega
     go_wp2
     go_ret
     exact ⟨g, mb, bb, sb, rfl, HI.out⟩
 ·refine step_make 63 3 (.int .i64 0) (.tmp 15) (.tmp 15) (by rfl) make_si ?_
  refine And.intro ⟨by rfl, by rfl, by rfl⟩ ?_
  intro bb W8 HB_8 hb HLB0
  have HLB := Lib.hid (Nat.le_trans HI_0.out.size HLB0.out)
  have HI_8 := Lib.hid (HI_0.out.trans (hb.out.mono HI_0.out.size))
  have HX_8 := Lib.hid (HX_0.out.below hb.out)
  have HY_8 := Lib.hid (HY_0.out.below hb.out)
  clear hb
  refine hK.out _ _ ⟨HX_8.out, HY_8.out⟩ (fun hHeld => ?_)
  clear hK K
  try simp only [Act.put, qa, qz, qs]
  refine wpAnyH_ready (rs := [2, 6]) (by kernel_rfl) (by simp) ?_
  refine AllReadyH.cons rfl (fun K hK => ?_) (AllReadyH.cons rfl (fun K hK => ?_) AllReadyH.nil)
  ·refine step_map 98 (by rfl) ?_
   refine And.intro (by rfl) ?_
   intro mb W9 HM_9 hb HLM0
   have HLM := Lib.hid (Nat.le_trans HI_8.out.size HLM0.out)
   have HI_9 := Lib.hid (HI_8.out.trans (hb.out.mono HI_8.out.size))
   have HX_9 := Lib.hid (HX_8.out.below hb.out)
   have HY_9 := Lib.hid (HY_8.out.below hb.out)
   have HB_9 := Lib.hid (HB_8.out.below hb.out)
   clear hb
   refine hK.out _ _ ⟨HX_9.out, HY_9.out⟩ (fun hHeld => ?_)
   clear hK K
   try simp only [Act.put, qa, qz, qs]
   refine wpAnyH_ready (rs := [6]) (by kernel_rfl) (by simp) ?_
   refine AllReadyH.cons rfl (fun K hK => ?_) AllReadyH.nil
   refine step_make 53 4 (.bool false) (.tmp 17) (.tmp 17) (by rfl) make_sb ?_
   refine And.intro ⟨by rfl, by rfl, by rfl⟩ ?_
   intro sb W10 HS_10 hb HLS0
   have HI_10 := Lib.hid (HI_9.out.trans (hb.out.mono HI_9.out.size))
   have HX_10 := Lib.hid (HX_9.out.below hb.out)
   have HY_10 := Lib.hid (HY_9.out.below hb.out)
   have HB_10 := Lib.hid (HB_9.out.below hb.out)
   have HM_10 := Lib.hid (HM_9.out.below hb.out)
   clear hb
   refine hK.out _ _ ⟨HX_10.out, HY_10.out⟩ (fun hHeld => ?_)
   clear hK K
   try simp only [Act.put, qa, qz, qs]
   refine Vc.wpAnyH_rd (i := 7) (d := some 19) (v := .agg (prC A1 c1 b c2 mb bb sb)) ?hy51 ?rest51
   case hy51 =>
    intro w hSw
    have hb := build_pr w A1 c1 b c2 mb bb sb
    simp [execOp, hb, Result.andThen, Act.eval]
   try simp only [Act.put, qa, qz, qs]
   refine wpAnyH_ready (rs := [8]) (by kernel_rfl) (by simp) ?_
   refine AllReadyH.cons rfl (fun K hK => ?_) AllReadyH.nil
   refine step_box 100 (prC A1 c1 b c2 mb bb sb) (.tmp 19) (by rfl) (box_pr A1 c1 b c2 mb bb sb) ?_
   refine And.intro ⟨by rfl, by rfl⟩ ?_
   intro g W11 hx hb hl
   have HI_11 := Lib.hid (HI_10.out.trans (hb.out.mono HI_10.out.size))
   have HL := Lib.hid (show LdI w W11 g mb bb sb A1 c1 b c2 nm from ⟨HI_11.out, hx.out, HB_10.out.below hb.out, HS_10.out.below hb.out, Fc.row_range_below HR0.out HI_11.out HBD.out, HBD.out, HLM.out, HLB.out⟩)
   have HM := Lib.hid (HM_10.out.below hb.out)
   refine hK.out _ _ ⟨HX_10.out.below hb.out, HY_10.out.below hb.out⟩ (fun hHeld => ?_)
   clear hK K
   try simp only [Act.put, qa, qz, qs]
   refine Vc.wpAnyH_rd (i := 9) (d := some 6) (v := ?v52) ?hy52 ?rest52
   case hy52 =>
    intro w hSw
    try dsimp only at hSw
    go_simp
    try with_reducible rfl
   try simp only [Act.put, qa, qz, qs]
   refine wpAnyH_done (by kernel_rfl) ?_ _
   have HZX := Lib.hid (HX_10.out.below hb.out)
   clear hx hb hl
   have c9b := HZX.out.at_ 9
   replace c9b : World.cell? _ ⟨g1, 9, none⟩ = some (.slice (some ⟨b, 0, none⟩) 1 c2) := c9b
   go_wp2
   go_loopw [24] (fun i wr => ∃ j : Nat, i = .int .i64 j ∧ j ≤ 1 ∧ Hid (LdI w wr g mb bb sb A1 c1 b c2 nm) ∧ Hid (∃ m, KMap stK wr mb m ∧ (j = 0 → m = fun _ => none))) (fun i _ => 1 - (intOf i).toNat)
   case atStart => exact ⟨0, rfl, Nat.zero_le _, HL, Lib.hid ⟨_, HM.out, fun _ => rfl⟩⟩
   case round =>
    clear HZX HL HM c9b
    obtain ⟨j, rfl, hj, HI, HK⟩ := hrel
    rcases Nat.eq_zero_or_pos j with hj0 | hj0
    ·subst hj0
     obtain ⟨m, hm, he⟩ := HK.out
     obtain rfl := he rfl
     have HM := Lib.hid hm
     have HZ := Lib.hid (Has.fresh wr 51 zeroL)
     have HBA := Lib.hid ((Below.refl wr.heap.size wr).alloc (Nat.le_refl _) (.cells zeroL 51))
     clear hm he HK hj
     go_wp2_with (first | ((with_reducible refine Who.wpList_loadC 51 (.tmp 27) rfl (b) 0 (dC nm) ?_); refine And.intro ⟨by rfl, by rfl, ⟨_, Tryz.underlying51, rfl⟩, info_link⟩ (And.intro (HI.out.row) ?_); (try simp only [Act.put, qa, qz, qs])) | ((with_reducible refine Who.wpList_alloc 51 8 rfl rfl rfl (zeroL) allocL ?_); (try simp only [Act.put, qa, qz, qs]); (try simp only [World.size_alloc])) | ((with_reducible refine wpList_storeG 51 (.tmp 8) (.tmp 28) rfl (wr.heap.size) zeroL (dC nm) ?_); refine And.intro ⟨rfl, by rfl, by rfl, info_link, one_d nm, rfl, HZ.out⟩ ?_; intro W5 HX5 HC5; (try simp only [Act.put, qa, qz, qs])) | fail)
     have HBW := Lib.hid (below_step HBA.out HC5.out (Nat.le_refl _))
     have HI5 := Lib.hid (HI.out.low HBW.out)
     have HM5 := Lib.hid (HM.out.below HBW.out)
     obtain ⟨g8, hg8⟩ : ∃ g8, g8 = wr.heap.size := ⟨_, rfl⟩
     rw [← hg8] at HX5
     rw [← hg8]
     have HL8 := Lib.hid (show w.heap.size ≤ g8 by rw [hg8]; exact HI.out.below.size)
     clear HI HM HZ HBA HC5 HBW hg8
     refine wp_region_held_drew (S := fun V => Has V g 100 (prC A1 c1 b c2 mb bb sb) ∧ Has V g8 51 (dC nm) ∧ KMap stK V mb fun _ => none) (by kernel_rfl) ⟨HI5.out.drew.hp, HX5.out.drew, HM5.out.drew⟩ (fun hHeld => ?_)
     refine Vc.wpAnyH_rd (i := 0) (d := some 29) (v := ?v53) ?hy53 ?rest53
     case hy53 =>
      intro w hSw
      try dsimp only at hSw
      go_simp
      try with_reducible rfl
     try simp only [Act.put, qa, qz, qs]
     refine Vc.wpAnyH_rd (i := 1) (d := some 30) (v := ?v54) ?hy54 ?rest54
     case hy54 =>
      intro w hSw
      try dsimp only at hSw
      go_simp
      try with_reducible rfl
     try simp only [Act.put, qa, qz, qs]
     refine Vc.wpAnyH_rd (i := 2) (d := some 31) (v := ?v55) ?hy55 ?rest55
     case hy55 =>
      intro w hSw
      try dsimp only at hSw
      go_simp
      try with_reducible rfl
     try simp only [Act.put, qa, qz, qs]
     refine Vc.wpAnyH_rd (i := 3) (d := some 32) (v := .slice (some ⟨bb, 0, none⟩) 1 1) ?hy56 ?rest56
     case hy56 =>
      intro w hSw
      have c := hSw.1.at_ 19
      replace c : w.cell? ⟨g, 19, none⟩ = some (.slice (some ⟨bb, 0, none⟩) 1 1) := c
      go_simp
      try with_reducible rfl
     try simp only [Act.put, qa, qz, qs]
     refine Vc.wpAnyH_rd (i := 4) (d := some 33) (v := ?v57) ?hy57 ?rest57
     case hy57 =>
      intro w hSw
      try dsimp only at hSw
      go_simp
      try with_reducible rfl
     try simp only [Act.put, qa, qz, qs]
     refine Vc.wpAnyH_rd (i := 5) (d := some 34) (v := ?v58) ?hy58 ?rest58
     case hy58 =>
      intro w hSw
      try dsimp only at hSw
      go_simp
      try with_reducible rfl
     try simp only [Act.put, qa, qz, qs]
     refine Vc.wpAnyH_rd (i := 6) (d := some 35) (v := ?v59) ?hy59 ?rest59
     case hy59 =>
      intro w hSw
      try dsimp only at hSw
      go_simp
      try with_reducible rfl
     try simp only [Act.put, qa, qz, qs]
     refine Vc.wpAnyH_rd (i := 7) (d := some 36) (v := ?v60) ?hy60 ?rest60
     case hy60 =>
      intro w hSw
      try dsimp only at hSw
      go_simp
      try with_reducible rfl
     try simp only [Act.put, qa, qz, qs]
     refine Vc.wpAnyH_rd (i := 8) (d := some 37) (v := .map (some mb)) ?hy61 ?rest61
     case hy61 =>
      intro w hSw
      have c := hSw.1.at_ 18
      replace c : w.cell? ⟨g, 18, none⟩ = some (.map (some mb)) := c
      go_simp
      try with_reducible rfl
     try simp only [Act.put, qa, qz, qs]
     refine Vc.wpAnyH_rd (i := 9) (d := some 38) (v := ?v62) ?hy62 ?rest62
     case hy62 =>
      intro w hSw
      try dsimp only at hSw
      go_simp
      try with_reducible rfl
     try simp only [Act.put, qa, qz, qs]
     refine Vc.wpAnyH_rd (i := 10) (d := some 39) (v := .agg #[.int .i64 1, .int .i64 0]) ?hy63 ?rest63
     case hy63 =>
      intro w hSw
      exact Who.exec_loadA _ rfl rfl (d_node hSw.2.1) Tryz.underlying37 rfl info_st
     try simp only [Act.put, qa, qz, qs]
     refine Vc.wpAnyH_rd (i := 11) (d := some 40) (v := .int .i64 0) ?hy64 ?rest64
     case hy64 =>
      intro w hSw
      have h : (Instr.lookup 98 (.map (some mb)) (.agg #[.int .i64 1, .int .i64 0]) false).run Tryz.prog w = .ok (.int .i64 0) w := (KMap.lookup Tryz.underlying98 stKeys hSw.2.2 (.int .i64 0) Tryz.zeroValue3 (1, 0)).1
      go_simp
      try with_reducible rfl
     try simp only [Act.put, qa, qz, qs]
     refine Vc.wpAnyH_rd (i := 12) (d := some 41) (v := ?v65) ?hy65 ?rest65
     case hy65 =>
      intro w hSw
      try dsimp only at hSw
      go_simp
      try with_reducible rfl
     try simp only [Act.put, qa, qz, qs]
     refine wpAnyH_ready (rs := [13]) (by kernel_rfl) (by simp) ?_
     refine AllReadyH.cons rfl (fun K hK => ?_) AllReadyH.nil
     refine stepG_cell (T := 3) 3 (.tmp 41) (.tmp 40) (by rfl) bb 0 #[.int .i64 0] #[.int .i64 0] (.int .i64 0) ?_
     refine And.intro ⟨by rfl, by rfl, by rfl, by rfl, info_int, rfl, by decide, by rfl, HI5.out.drew.hb⟩ ?_
     intro W6 HX6 HC6
     have HI6 := Lib.hid (HI5.out.drew.put HX6.out HC6.out)
     have HX8 := Lib.hid (HX5.out.drew.over HC6.out (has_ne HX5.out HI5.out.hb (by decide)))
     have HM6 := Lib.hid (HM5.out.drew.over HC6.out (fun e => map_ne HI5.out.hb HM5.out e.symm))
     refine hK.out _ _ ⟨HI6.out.hp, HX8.out, HM6.out⟩ (fun hHeld => ?_)
     clear hK K
     try simp only [Act.put, qa, qz, qs]
     refine wpAnyH_done (by kernel_rfl) ?_ _
     clear HI5 HX5 HM5 HX6 HC6
     go_wp2_with fail
     refine wp_region_held_drew (S := fun V => Has V g 100 (prC A1 c1 b c2 mb bb sb) ∧ Has V g8 51 (dC nm)) (by kernel_rfl) ⟨HI6.out.drew.hp, HX8.out.drew⟩ (fun hHeld => ?_)
     refine Vc.wpAnyH_rd (i := 0) (d := some 42) (v := ?v66) ?hy66 ?rest66
     case hy66 =>
      intro w hSw
      try dsimp only at hSw
      go_simp
      try with_reducible rfl
     try simp only [Act.put, qa, qz, qs]
     refine Vc.wpAnyH_rd (i := 1) (d := some 43) (v := ?v67) ?hy67 ?rest67
     case hy67 =>
      intro w hSw
      try dsimp only at hSw
      go_simp
      try with_reducible rfl
     try simp only [Act.put, qa, qz, qs]
     refine Vc.wpAnyH_rd (i := 2) (d := some 44) (v := ?v68) ?hy68 ?rest68
     case hy68 =>
      intro w hSw
      try dsimp only at hSw
      go_simp
      try with_reducible rfl
     try simp only [Act.put, qa, qz, qs]
     refine Vc.wpAnyH_rd (i := 3) (d := some 45) (v := .map (some mb)) ?hy69 ?rest69
     case hy69 =>
      intro w hSw
      have c := hSw.1.at_ 18
      replace c : w.cell? ⟨g, 18, none⟩ = some (.map (some mb)) := c
      go_simp
      try with_reducible rfl
     try simp only [Act.put, qa, qz, qs]
     refine Vc.wpAnyH_rd (i := 4) (d := some 46) (v := ?v70) ?hy70 ?rest70
     case hy70 =>
      intro w hSw
      try dsimp only at hSw
      go_simp
      try with_reducible rfl
     try simp only [Act.put, qa, qz, qs]
     refine Vc.wpAnyH_rd (i := 5) (d := some 47) (v := .agg #[.int .i64 1, .int .i64 0]) ?hy71 ?rest71
     case hy71 =>
      intro w hSw
      exact Who.exec_loadA _ rfl rfl (d_node hSw.2) Tryz.underlying37 rfl info_st
     try simp only [Act.put, qa, qz, qs]
     refine Vc.wpAnyH_rd (i := 6) (d := some 48) (v := ?v72) ?hy72 ?rest72
     case hy72 =>
      intro w hSw
      try dsimp only at hSw
      go_simp
      try with_reducible rfl
     try simp only [Act.put, qa, qz, qs]
     refine Vc.wpAnyH_rd (i := 7) (d := some 49) (v := ?v73) ?hy73 ?rest73
     case hy73 =>
      intro w hSw
      try dsimp only at hSw
      go_simp
      try with_reducible rfl
     try simp only [Act.put, qa, qz, qs]
     refine wpAnyH_ready (rs := [8]) (by kernel_rfl) (by simp) ?_
     refine AllReadyH.cons rfl (fun K hK => ?_) AllReadyH.nil
     refine step_upd mb (fun _ => none) (1, 0) (.int .i64 1) (.tmp 45) (.tmp 47) (.tmp 49) (by rfl) ?_
     refine And.intro ⟨by rfl, by rfl, by rfl, by rfl, by rfl, HM6.out.drew⟩ ?_
     intro W7 HM7 HC7
     have HI7 := Lib.hid (HI6.out.drew.upd HM6.out.drew HC7.out)
     have HX9 := Lib.hid (HX8.out.drew.over HC7.out (map_ne HX8.out HM6.out))
     refine hK.out _ _ ⟨HI7.out.hp, HX9.out⟩ (fun hHeld => ?_)
     clear hK K
     try simp only [Act.put, qa, qz, qs]
     refine wpAnyH_done (by kernel_rfl) ?_ _
     clear HI6 HX8 HM6 HC7
     go_wp2
     go_roundw
     case rel => exact ⟨1, by go_num, by omega, HI7, Lib.hid ⟨_, HM7.out, fun h => by omega⟩⟩
     case measure => simp [intOf]
    ·obtain rfl : 1 = j := by omega
     go_wp2
     go_ret
     exact ⟨g, mb, bb, sb, rfl, HI.out⟩
  ·refine step_make 53 4 (.bool false) (.tmp 17) (.tmp 17) (by rfl) make_sb ?_
   refine And.intro ⟨by rfl, by rfl, by rfl⟩ ?_
   intro sb W12 HS_12 hb HLS0
   have HI_12 := Lib.hid (HI_8.out.trans (hb.out.mono HI_8.out.size))
   have HX_12 := Lib.hid (HX_8.out.below hb.out)
   have HY_12 := Lib.hid (HY_8.out.below hb.out)
   have HB_12 := Lib.hid (HB_8.out.below hb.out)
   clear hb
   refine hK.out _ _ ⟨HX_12.out, HY_12.out⟩ (fun hHeld => ?_)
   clear hK K
   try simp only [Act.put, qa, qz, qs]
   refine wpAnyH_ready (rs := [2]) (by kernel_rfl) (by simp) ?_
   refine AllReadyH.cons rfl (fun K hK => ?_) AllReadyH.nil
   refine step_map 98 (by rfl) ?_
   refine And.intro (by rfl) ?_
   intro mb W13 HM_13 hb HLM0
   have HLM := Lib.hid (Nat.le_trans HI_12.out.size HLM0.out)
   have HI_13 := Lib.hid (HI_12.out.trans (hb.out.mono HI_12.out.size))
   have HX_13 := Lib.hid (HX_12.out.below hb.out)
   have HY_13 := Lib.hid (HY_12.out.below hb.out)
   have HB_13 := Lib.hid (HB_12.out.below hb.out)
   have HS_13 := Lib.hid (HS_12.out.below hb.out)
   clear hb
   refine hK.out _ _ ⟨HX_13.out, HY_13.out⟩ (fun hHeld => ?_)
   clear hK K
   try simp only [Act.put, qa, qz, qs]
   refine Vc.wpAnyH_rd (i := 7) (d := some 19) (v := .agg (prC A1 c1 b c2 mb bb sb)) ?hy74 ?rest74
   case hy74 =>
    intro w hSw
    have hb := build_pr w A1 c1 b c2 mb bb sb
    simp [execOp, hb, Result.andThen, Act.eval]
   try simp only [Act.put, qa, qz, qs]
   refine wpAnyH_ready (rs := [8]) (by kernel_rfl) (by simp) ?_
   refine AllReadyH.cons rfl (fun K hK => ?_) AllReadyH.nil
   refine step_box 100 (prC A1 c1 b c2 mb bb sb) (.tmp 19) (by rfl) (box_pr A1 c1 b c2 mb bb sb) ?_
   refine And.intro ⟨by rfl, by rfl⟩ ?_
   intro g W14 hx hb hl
   have HI_14 := Lib.hid (HI_13.out.trans (hb.out.mono HI_13.out.size))
   have HL := Lib.hid (show LdI w W14 g mb bb sb A1 c1 b c2 nm from ⟨HI_14.out, hx.out, HB_13.out.below hb.out, HS_13.out.below hb.out, Fc.row_range_below HR0.out HI_14.out HBD.out, HBD.out, HLM.out, HLB.out⟩)
   have HM := Lib.hid (HM_13.out.below hb.out)
   refine hK.out _ _ ⟨HX_13.out.below hb.out, HY_13.out.below hb.out⟩ (fun hHeld => ?_)
   clear hK K
   try simp only [Act.put, qa, qz, qs]
   refine Vc.wpAnyH_rd (i := 9) (d := some 6) (v := ?v75) ?hy75 ?rest75
   case hy75 =>
    intro w hSw
    try dsimp only at hSw
    go_simp
    try with_reducible rfl
   try simp only [Act.put, qa, qz, qs]
   refine wpAnyH_done (by kernel_rfl) ?_ _
   have HZX := Lib.hid (HX_13.out.below hb.out)
   clear hx hb hl
   have c9b := HZX.out.at_ 9
   replace c9b : World.cell? _ ⟨g1, 9, none⟩ = some (.slice (some ⟨b, 0, none⟩) 1 c2) := c9b
   go_wp2
   go_loopw [24] (fun i wr => ∃ j : Nat, i = .int .i64 j ∧ j ≤ 1 ∧ Hid (LdI w wr g mb bb sb A1 c1 b c2 nm) ∧ Hid (∃ m, KMap stK wr mb m ∧ (j = 0 → m = fun _ => none))) (fun i _ => 1 - (intOf i).toNat)
   case atStart => exact ⟨0, rfl, Nat.zero_le _, HL, Lib.hid ⟨_, HM.out, fun _ => rfl⟩⟩
   case round =>
    clear HZX HL HM c9b
    obtain ⟨j, rfl, hj, HI, HK⟩ := hrel
    rcases Nat.eq_zero_or_pos j with hj0 | hj0
    ·subst hj0
     obtain ⟨m, hm, he⟩ := HK.out
     obtain rfl := he rfl
     have HM := Lib.hid hm
     have HZ := Lib.hid (Has.fresh wr 51 zeroL)
     have HBA := Lib.hid ((Below.refl wr.heap.size wr).alloc (Nat.le_refl _) (.cells zeroL 51))
     clear hm he HK hj
     go_wp2_with (first | ((with_reducible refine Who.wpList_loadC 51 (.tmp 27) rfl (b) 0 (dC nm) ?_); refine And.intro ⟨by rfl, by rfl, ⟨_, Tryz.underlying51, rfl⟩, info_link⟩ (And.intro (HI.out.row) ?_); (try simp only [Act.put, qa, qz, qs])) | ((with_reducible refine Who.wpList_alloc 51 8 rfl rfl rfl (zeroL) allocL ?_); (try simp only [Act.put, qa, qz, qs]); (try simp only [World.size_alloc])) | ((with_reducible refine wpList_storeG 51 (.tmp 8) (.tmp 28) rfl (wr.heap.size) zeroL (dC nm) ?_); refine And.intro ⟨rfl, by rfl, by rfl, info_link, one_d nm, rfl, HZ.out⟩ ?_; intro W5 HX5 HC5; (try simp only [Act.put, qa, qz, qs])) | fail)
     have HBW := Lib.hid (below_step HBA.out HC5.out (Nat.le_refl _))
     have HI5 := Lib.hid (HI.out.low HBW.out)
     have HM5 := Lib.hid (HM.out.below HBW.out)
     obtain ⟨g8, hg8⟩ : ∃ g8, g8 = wr.heap.size := ⟨_, rfl⟩
     rw [← hg8] at HX5
     rw [← hg8]
     have HL8 := Lib.hid (show w.heap.size ≤ g8 by rw [hg8]; exact HI.out.below.size)
     clear HI HM HZ HBA HC5 HBW hg8
     refine wp_region_held_drew (S := fun V => Has V g 100 (prC A1 c1 b c2 mb bb sb) ∧ Has V g8 51 (dC nm) ∧ KMap stK V mb fun _ => none) (by kernel_rfl) ⟨HI5.out.drew.hp, HX5.out.drew, HM5.out.drew⟩ (fun hHeld => ?_)
     refine Vc.wpAnyH_rd (i := 0) (d := some 29) (v := ?v76) ?hy76 ?rest76
     case hy76 =>
      intro w hSw
      try dsimp only at hSw
      go_simp
      try with_reducible rfl
     try simp only [Act.put, qa, qz, qs]
     refine Vc.wpAnyH_rd (i := 1) (d := some 30) (v := ?v77) ?hy77 ?rest77
     case hy77 =>
      intro w hSw
      try dsimp only at hSw
      go_simp
      try with_reducible rfl
     try simp only [Act.put, qa, qz, qs]
     refine Vc.wpAnyH_rd (i := 2) (d := some 31) (v := ?v78) ?hy78 ?rest78
     case hy78 =>
      intro w hSw
      try dsimp only at hSw
      go_simp
      try with_reducible rfl
     try simp only [Act.put, qa, qz, qs]
     refine Vc.wpAnyH_rd (i := 3) (d := some 32) (v := .slice (some ⟨bb, 0, none⟩) 1 1) ?hy79 ?rest79
     case hy79 =>
      intro w hSw
      have c := hSw.1.at_ 19
      replace c : w.cell? ⟨g, 19, none⟩ = some (.slice (some ⟨bb, 0, none⟩) 1 1) := c
      go_simp
      try with_reducible rfl
     try simp only [Act.put, qa, qz, qs]
     refine Vc.wpAnyH_rd (i := 4) (d := some 33) (v := ?v80) ?hy80 ?rest80
     case hy80 =>
      intro w hSw
      try dsimp only at hSw
      go_simp
      try with_reducible rfl
     try simp only [Act.put, qa, qz, qs]
     refine Vc.wpAnyH_rd (i := 5) (d := some 34) (v := ?v81) ?hy81 ?rest81
     case hy81 =>
      intro w hSw
      try dsimp only at hSw
      go_simp
      try with_reducible rfl
     try simp only [Act.put, qa, qz, qs]
     refine Vc.wpAnyH_rd (i := 6) (d := some 35) (v := ?v82) ?hy82 ?rest82
     case hy82 =>
      intro w hSw
      try dsimp only at hSw
      go_simp
      try with_reducible rfl
     try simp only [Act.put, qa, qz, qs]
     refine Vc.wpAnyH_rd (i := 7) (d := some 36) (v := ?v83) ?hy83 ?rest83
     case hy83 =>
      intro w hSw
      try dsimp only at hSw
      go_simp
      try with_reducible rfl
     try simp only [Act.put, qa, qz, qs]
     refine Vc.wpAnyH_rd (i := 8) (d := some 37) (v := .map (some mb)) ?hy84 ?rest84
     case hy84 =>
      intro w hSw
      have c := hSw.1.at_ 18
      replace c : w.cell? ⟨g, 18, none⟩ = some (.map (some mb)) := c
      go_simp
      try with_reducible rfl
     try simp only [Act.put, qa, qz, qs]
     refine Vc.wpAnyH_rd (i := 9) (d := some 38) (v := ?v85) ?hy85 ?rest85
     case hy85 =>
      intro w hSw
      try dsimp only at hSw
      go_simp
      try with_reducible rfl
     try simp only [Act.put, qa, qz, qs]
     refine Vc.wpAnyH_rd (i := 10) (d := some 39) (v := .agg #[.int .i64 1, .int .i64 0]) ?hy86 ?rest86
     case hy86 =>
      intro w hSw
      exact Who.exec_loadA _ rfl rfl (d_node hSw.2.1) Tryz.underlying37 rfl info_st
     try simp only [Act.put, qa, qz, qs]
     refine Vc.wpAnyH_rd (i := 11) (d := some 40) (v := .int .i64 0) ?hy87 ?rest87
     case hy87 =>
      intro w hSw
      have h : (Instr.lookup 98 (.map (some mb)) (.agg #[.int .i64 1, .int .i64 0]) false).run Tryz.prog w = .ok (.int .i64 0) w := (KMap.lookup Tryz.underlying98 stKeys hSw.2.2 (.int .i64 0) Tryz.zeroValue3 (1, 0)).1
      go_simp
      try with_reducible rfl
     try simp only [Act.put, qa, qz, qs]
     refine Vc.wpAnyH_rd (i := 12) (d := some 41) (v := ?v88) ?hy88 ?rest88
     case hy88 =>
      intro w hSw
      try dsimp only at hSw
      go_simp
      try with_reducible rfl
     try simp only [Act.put, qa, qz, qs]
     refine wpAnyH_ready (rs := [13]) (by kernel_rfl) (by simp) ?_
     refine AllReadyH.cons rfl (fun K hK => ?_) AllReadyH.nil
     refine stepG_cell (T := 3) 3 (.tmp 41) (.tmp 40) (by rfl) bb 0 #[.int .i64 0] #[.int .i64 0] (.int .i64 0) ?_
     refine And.intro ⟨by rfl, by rfl, by rfl, by rfl, info_int, rfl, by decide, by rfl, HI5.out.drew.hb⟩ ?_
     intro W6 HX6 HC6
     have HI6 := Lib.hid (HI5.out.drew.put HX6.out HC6.out)
     have HX8 := Lib.hid (HX5.out.drew.over HC6.out (has_ne HX5.out HI5.out.hb (by decide)))
     have HM6 := Lib.hid (HM5.out.drew.over HC6.out (fun e => map_ne HI5.out.hb HM5.out e.symm))
     refine hK.out _ _ ⟨HI6.out.hp, HX8.out, HM6.out⟩ (fun hHeld => ?_)
     clear hK K
     try simp only [Act.put, qa, qz, qs]
     refine wpAnyH_done (by kernel_rfl) ?_ _
     clear HI5 HX5 HM5 HX6 HC6
     go_wp2_with fail
     refine wp_region_held_drew (S := fun V => Has V g 100 (prC A1 c1 b c2 mb bb sb) ∧ Has V g8 51 (dC nm)) (by kernel_rfl) ⟨HI6.out.drew.hp, HX8.out.drew⟩ (fun hHeld => ?_)
     refine Vc.wpAnyH_rd (i := 0) (d := some 42) (v := ?v89) ?hy89 ?rest89
     case hy89 =>
      intro w hSw
      try dsimp only at hSw
      go_simp
      try with_reducible rfl
     try simp only [Act.put, qa, qz, qs]
     refine Vc.wpAnyH_rd (i := 1) (d := some 43) (v := ?v90) ?hy90 ?rest90
     case hy90 =>
      intro w hSw
      try dsimp only at hSw
      go_simp
      try with_reducible rfl
     try simp only [Act.put, qa, qz, qs]
     refine Vc.wpAnyH_rd (i := 2) (d := some 44) (v := ?v91) ?hy91 ?rest91
     case hy91 =>
      intro w hSw
      try dsimp only at hSw
      go_simp
      try with_reducible rfl
     try simp only [Act.put, qa, qz, qs]
     refine Vc.wpAnyH_rd (i := 3) (d := some 45) (v := .map (some mb)) ?hy92 ?rest92
     case hy92 =>
      intro w hSw
      have c := hSw.1.at_ 18
      replace c : w.cell? ⟨g, 18, none⟩ = some (.map (some mb)) := c
      go_simp
      try with_reducible rfl
     try simp only [Act.put, qa, qz, qs]
     refine Vc.wpAnyH_rd (i := 4) (d := some 46) (v := ?v93) ?hy93 ?rest93
     case hy93 =>
      intro w hSw
      try dsimp only at hSw
      go_simp
      try with_reducible rfl
     try simp only [Act.put, qa, qz, qs]
     refine Vc.wpAnyH_rd (i := 5) (d := some 47) (v := .agg #[.int .i64 1, .int .i64 0]) ?hy94 ?rest94
     case hy94 =>
      intro w hSw
      exact Who.exec_loadA _ rfl rfl (d_node hSw.2) Tryz.underlying37 rfl info_st
     try simp only [Act.put, qa, qz, qs]
     refine Vc.wpAnyH_rd (i := 6) (d := some 48) (v := ?v95) ?hy95 ?rest95
     case hy95 =>
      intro w hSw
      try dsimp only at hSw
      go_simp
      try with_reducible rfl
     try simp only [Act.put, qa, qz, qs]
     refine Vc.wpAnyH_rd (i := 7) (d := some 49) (v := ?v96) ?hy96 ?rest96
     case hy96 =>
      intro w hSw
      try dsimp only at hSw
      go_simp
      try with_reducible rfl
     try simp only [Act.put, qa, qz, qs]
     refine wpAnyH_ready (rs := [8]) (by kernel_rfl) (by simp) ?_
     refine AllReadyH.cons rfl (fun K hK => ?_) AllReadyH.nil
     refine step_upd mb (fun _ => none) (1, 0) (.int .i64 1) (.tmp 45) (.tmp 47) (.tmp 49) (by rfl) ?_
     refine And.intro ⟨by rfl, by rfl, by rfl, by rfl, by rfl, HM6.out.drew⟩ ?_
     intro W7 HM7 HC7
     have HI7 := Lib.hid (HI6.out.drew.upd HM6.out.drew HC7.out)
     have HX9 := Lib.hid (HX8.out.drew.over HC7.out (map_ne HX8.out HM6.out))
     refine hK.out _ _ ⟨HI7.out.hp, HX9.out⟩ (fun hHeld => ?_)
     clear hK K
     try simp only [Act.put, qa, qz, qs]
     refine wpAnyH_done (by kernel_rfl) ?_ _
     clear HI6 HX8 HM6 HC7
     go_wp2
     go_roundw
     case rel => exact ⟨1, by go_num, by omega, HI7, Lib.hid ⟨_, HM7.out, fun h => by omega⟩⟩
     case measure => simp [intOf]
    ·obtain rfl : 1 = j := by omega
     go_wp2
     go_ret
     exact ⟨g, mb, bb, sb, rfl, HI.out⟩
 ·refine step_make 53 4 (.bool false) (.tmp 17) (.tmp 17) (by rfl) make_sb ?_
  refine And.intro ⟨by rfl, by rfl, by rfl⟩ ?_
  intro sb W15 HS_15 hb HLS0
  have HI_15 := Lib.hid (HI_0.out.trans (hb.out.mono HI_0.out.size))
  have HX_15 := Lib.hid (HX_0.out.below hb.out)
  have HY_15 := Lib.hid (HY_0.out.below hb.out)
  clear hb
  refine hK.out _ _ ⟨HX_15.out, HY_15.out⟩ (fun hHeld => ?_)
  clear hK K
  try simp only [Act.put, qa, qz, qs]
  refine wpAnyH_ready (rs := [2, 4]) (by kernel_rfl) (by simp) ?_
  refine AllReadyH.cons rfl (fun K hK => ?_) (AllReadyH.cons rfl (fun K hK => ?_) AllReadyH.nil)
  ·refine step_map 98 (by rfl) ?_
   refine And.intro (by rfl) ?_
   intro mb W16 HM_16 hb HLM0
   have HLM := Lib.hid (Nat.le_trans HI_15.out.size HLM0.out)
   have HI_16 := Lib.hid (HI_15.out.trans (hb.out.mono HI_15.out.size))
   have HX_16 := Lib.hid (HX_15.out.below hb.out)
   have HY_16 := Lib.hid (HY_15.out.below hb.out)
   have HS_16 := Lib.hid (HS_15.out.below hb.out)
   clear hb
   refine hK.out _ _ ⟨HX_16.out, HY_16.out⟩ (fun hHeld => ?_)
   clear hK K
   try simp only [Act.put, qa, qz, qs]
   refine wpAnyH_ready (rs := [4]) (by kernel_rfl) (by simp) ?_
   refine AllReadyH.cons rfl (fun K hK => ?_) AllReadyH.nil
   refine step_make 63 3 (.int .i64 0) (.tmp 15) (.tmp 15) (by rfl) make_si ?_
   refine And.intro ⟨by rfl, by rfl, by rfl⟩ ?_
   intro bb W17 HB_17 hb HLB0
   have HLB := Lib.hid (Nat.le_trans HI_16.out.size HLB0.out)
   have HI_17 := Lib.hid (HI_16.out.trans (hb.out.mono HI_16.out.size))
   have HX_17 := Lib.hid (HX_16.out.below hb.out)
   have HY_17 := Lib.hid (HY_16.out.below hb.out)
   have HS_17 := Lib.hid (HS_16.out.below hb.out)
   have HM_17 := Lib.hid (HM_16.out.below hb.out)
   clear hb
   refine hK.out _ _ ⟨HX_17.out, HY_17.out⟩ (fun hHeld => ?_)
   clear hK K
   try simp only [Act.put, qa, qz, qs]
   refine Vc.wpAnyH_rd (i := 7) (d := some 19) (v := .agg (prC A1 c1 b c2 mb bb sb)) ?hy97 ?rest97
   case hy97 =>
    intro w hSw
    have hb := build_pr w A1 c1 b c2 mb bb sb
    simp [execOp, hb, Result.andThen, Act.eval]
   try simp only [Act.put, qa, qz, qs]
   refine wpAnyH_ready (rs := [8]) (by kernel_rfl) (by simp) ?_
   refine AllReadyH.cons rfl (fun K hK => ?_) AllReadyH.nil
   refine step_box 100 (prC A1 c1 b c2 mb bb sb) (.tmp 19) (by rfl) (box_pr A1 c1 b c2 mb bb sb) ?_
   refine And.intro ⟨by rfl, by rfl⟩ ?_
   intro g W18 hx hb hl
   have HI_18 := Lib.hid (HI_17.out.trans (hb.out.mono HI_17.out.size))
   have HL := Lib.hid (show LdI w W18 g mb bb sb A1 c1 b c2 nm from ⟨HI_18.out, hx.out, HB_17.out.below hb.out, HS_17.out.below hb.out, Fc.row_range_below HR0.out HI_18.out HBD.out, HBD.out, HLM.out, HLB.out⟩)
   have HM := Lib.hid (HM_17.out.below hb.out)
   refine hK.out _ _ ⟨HX_17.out.below hb.out, HY_17.out.below hb.out⟩ (fun hHeld => ?_)
   clear hK K
   try simp only [Act.put, qa, qz, qs]
   refine Vc.wpAnyH_rd (i := 9) (d := some 6) (v := ?v98) ?hy98 ?rest98
   case hy98 =>
    intro w hSw
    try dsimp only at hSw
    go_simp
    try with_reducible rfl
   try simp only [Act.put, qa, qz, qs]
   refine wpAnyH_done (by kernel_rfl) ?_ _
   have HZX := Lib.hid (HX_17.out.below hb.out)
   clear hx hb hl
   have c9b := HZX.out.at_ 9
   replace c9b : World.cell? _ ⟨g1, 9, none⟩ = some (.slice (some ⟨b, 0, none⟩) 1 c2) := c9b
   go_wp2
   go_loopw [24] (fun i wr => ∃ j : Nat, i = .int .i64 j ∧ j ≤ 1 ∧ Hid (LdI w wr g mb bb sb A1 c1 b c2 nm) ∧ Hid (∃ m, KMap stK wr mb m ∧ (j = 0 → m = fun _ => none))) (fun i _ => 1 - (intOf i).toNat)
   case atStart => exact ⟨0, rfl, Nat.zero_le _, HL, Lib.hid ⟨_, HM.out, fun _ => rfl⟩⟩
   case round =>
    clear HZX HL HM c9b
    obtain ⟨j, rfl, hj, HI, HK⟩ := hrel
    rcases Nat.eq_zero_or_pos j with hj0 | hj0
    ·subst hj0
     obtain ⟨m, hm, he⟩ := HK.out
     obtain rfl := he rfl
     have HM := Lib.hid hm
     have HZ := Lib.hid (Has.fresh wr 51 zeroL)
     have HBA := Lib.hid ((Below.refl wr.heap.size wr).alloc (Nat.le_refl _) (.cells zeroL 51))
     clear hm he HK hj
     go_wp2_with (first | ((with_reducible refine Who.wpList_loadC 51 (.tmp 27) rfl (b) 0 (dC nm) ?_); refine And.intro ⟨by rfl, by rfl, ⟨_, Tryz.underlying51, rfl⟩, info_link⟩ (And.intro (HI.out.row) ?_); (try simp only [Act.put, qa, qz, qs])) | ((with_reducible refine Who.wpList_alloc 51 8 rfl rfl rfl (zeroL) allocL ?_); (try simp only [Act.put, qa, qz, qs]); (try simp only [World.size_alloc])) | ((with_reducible refine wpList_storeG 51 (.tmp 8) (.tmp 28) rfl (wr.heap.size) zeroL (dC nm) ?_); refine And.intro ⟨rfl, by rfl, by rfl, info_link, one_d nm, rfl, HZ.out⟩ ?_; intro W5 HX5 HC5; (try simp only [Act.put, qa, qz, qs])) | fail)
     have HBW := Lib.hid (below_step HBA.out HC5.out (Nat.le_refl _))
     have HI5 := Lib.hid (HI.out.low HBW.out)
     have HM5 := Lib.hid (HM.out.below HBW.out)
     obtain ⟨g8, hg8⟩ : ∃ g8, g8 = wr.heap.size := ⟨_, rfl⟩
     rw [← hg8] at HX5
     rw [← hg8]
     have HL8 := Lib.hid (show w.heap.size ≤ g8 by rw [hg8]; exact HI.out.below.size)
     clear HI HM HZ HBA HC5 HBW hg8
     refine wp_region_held_drew (S := fun V => Has V g 100 (prC A1 c1 b c2 mb bb sb) ∧ Has V g8 51 (dC nm) ∧ KMap stK V mb fun _ => none) (by kernel_rfl) ⟨HI5.out.drew.hp, HX5.out.drew, HM5.out.drew⟩ (fun hHeld => ?_)
     refine Vc.wpAnyH_rd (i := 0) (d := some 29) (v := ?v99) ?hy99 ?rest99
     case hy99 =>
      intro w hSw
      try dsimp only at hSw
      go_simp
      try with_reducible rfl
     try simp only [Act.put, qa, qz, qs]
     refine Vc.wpAnyH_rd (i := 1) (d := some 30) (v := ?v100) ?hy100 ?rest100
     case hy100 =>
      intro w hSw
      try dsimp only at hSw
      go_simp
      try with_reducible rfl
     try simp only [Act.put, qa, qz, qs]
     refine Vc.wpAnyH_rd (i := 2) (d := some 31) (v := ?v101) ?hy101 ?rest101
     case hy101 =>
      intro w hSw
      try dsimp only at hSw
      go_simp
      try with_reducible rfl
     try simp only [Act.put, qa, qz, qs]
     refine Vc.wpAnyH_rd (i := 3) (d := some 32) (v := .slice (some ⟨bb, 0, none⟩) 1 1) ?hy102 ?rest102
     case hy102 =>
      intro w hSw
      have c := hSw.1.at_ 19
      replace c : w.cell? ⟨g, 19, none⟩ = some (.slice (some ⟨bb, 0, none⟩) 1 1) := c
      go_simp
      try with_reducible rfl
     try simp only [Act.put, qa, qz, qs]
     refine Vc.wpAnyH_rd (i := 4) (d := some 33) (v := ?v103) ?hy103 ?rest103
     case hy103 =>
      intro w hSw
      try dsimp only at hSw
      go_simp
      try with_reducible rfl
     try simp only [Act.put, qa, qz, qs]
     refine Vc.wpAnyH_rd (i := 5) (d := some 34) (v := ?v104) ?hy104 ?rest104
     case hy104 =>
      intro w hSw
      try dsimp only at hSw
      go_simp
      try with_reducible rfl
     try simp only [Act.put, qa, qz, qs]
     refine Vc.wpAnyH_rd (i := 6) (d := some 35) (v := ?v105) ?hy105 ?rest105
     case hy105 =>
      intro w hSw
      try dsimp only at hSw
      go_simp
      try with_reducible rfl
     try simp only [Act.put, qa, qz, qs]
     refine Vc.wpAnyH_rd (i := 7) (d := some 36) (v := ?v106) ?hy106 ?rest106
     case hy106 =>
      intro w hSw
      try dsimp only at hSw
      go_simp
      try with_reducible rfl
     try simp only [Act.put, qa, qz, qs]
     refine Vc.wpAnyH_rd (i := 8) (d := some 37) (v := .map (some mb)) ?hy107 ?rest107
     case hy107 =>
      intro w hSw
      have c := hSw.1.at_ 18
      replace c : w.cell? ⟨g, 18, none⟩ = some (.map (some mb)) := c
      go_simp
      try with_reducible rfl
     try simp only [Act.put, qa, qz, qs]
     refine Vc.wpAnyH_rd (i := 9) (d := some 38) (v := ?v108) ?hy108 ?rest108
     case hy108 =>
      intro w hSw
      try dsimp only at hSw
      go_simp
      try with_reducible rfl
     try simp only [Act.put, qa, qz, qs]
     refine Vc.wpAnyH_rd (i := 10) (d := some 39) (v := .agg #[.int .i64 1, .int .i64 0]) ?hy109 ?rest109
     case hy109 =>
      intro w hSw
      exact Who.exec_loadA _ rfl rfl (d_node hSw.2.1) Tryz.underlying37 rfl info_st
     try simp only [Act.put, qa, qz, qs]
     refine Vc.wpAnyH_rd (i := 11) (d := some 40) (v := .int .i64 0) ?hy110 ?rest110
     case hy110 =>
      intro w hSw
      have h : (Instr.lookup 98 (.map (some mb)) (.agg #[.int .i64 1, .int .i64 0]) false).run Tryz.prog w = .ok (.int .i64 0) w := (KMap.lookup Tryz.underlying98 stKeys hSw.2.2 (.int .i64 0) Tryz.zeroValue3 (1, 0)).1
      go_simp
      try with_reducible rfl
     try simp only [Act.put, qa, qz, qs]
     refine Vc.wpAnyH_rd (i := 12) (d := some 41) (v := ?v111) ?hy111 ?rest111
     case hy111 =>
      intro w hSw
      try dsimp only at hSw
      go_simp
      try with_reducible rfl
     try simp only [Act.put, qa, qz, qs]
     refine wpAnyH_ready (rs := [13]) (by kernel_rfl) (by simp) ?_
     refine AllReadyH.cons rfl (fun K hK => ?_) AllReadyH.nil
     refine stepG_cell (T := 3) 3 (.tmp 41) (.tmp 40) (by rfl) bb 0 #[.int .i64 0] #[.int .i64 0] (.int .i64 0) ?_
     refine And.intro ⟨by rfl, by rfl, by rfl, by rfl, info_int, rfl, by decide, by rfl, HI5.out.drew.hb⟩ ?_
     intro W6 HX6 HC6
     have HI6 := Lib.hid (HI5.out.drew.put HX6.out HC6.out)
     have HX8 := Lib.hid (HX5.out.drew.over HC6.out (has_ne HX5.out HI5.out.hb (by decide)))
     have HM6 := Lib.hid (HM5.out.drew.over HC6.out (fun e => map_ne HI5.out.hb HM5.out e.symm))
     refine hK.out _ _ ⟨HI6.out.hp, HX8.out, HM6.out⟩ (fun hHeld => ?_)
     clear hK K
     try simp only [Act.put, qa, qz, qs]
     refine wpAnyH_done (by kernel_rfl) ?_ _
     clear HI5 HX5 HM5 HX6 HC6
     go_wp2_with fail
     refine wp_region_held_drew (S := fun V => Has V g 100 (prC A1 c1 b c2 mb bb sb) ∧ Has V g8 51 (dC nm)) (by kernel_rfl) ⟨HI6.out.drew.hp, HX8.out.drew⟩ (fun hHeld => ?_)
     refine Vc.wpAnyH_rd (i := 0) (d := some 42) (v := ?v112) ?hy112 ?rest112
     case hy112 =>
      intro w hSw
      try dsimp only at hSw
      go_simp
      try with_reducible rfl
     try simp only [Act.put, qa, qz, qs]
     refine Vc.wpAnyH_rd (i := 1) (d := some 43) (v := ?v113) ?hy113 ?rest113
     case hy113 =>
      intro w hSw
      try dsimp only at hSw
      go_simp
      try with_reducible rfl
     try simp only [Act.put, qa, qz, qs]
     refine Vc.wpAnyH_rd (i := 2) (d := some 44) (v := ?v114) ?hy114 ?rest114
     case hy114 =>
      intro w hSw
      try dsimp only at hSw
      go_simp
      try with_reducible rfl
     try simp only [Act.put, qa, qz, qs]
     refine Vc.wpAnyH_rd (i := 3) (d := some 45) (v := .map (some mb)) ?hy115 ?rest115
     case hy115 =>
      intro w hSw
      have c := hSw.1.at_ 18
      replace c : w.cell? ⟨g, 18, none⟩ = some (.map (some mb)) := c
      go_simp
      try with_reducible rfl
     try simp only [Act.put, qa, qz, qs]
     refine Vc.wpAnyH_rd (i := 4) (d := some 46) (v := ?v116) ?hy116 ?rest116
     case hy116 =>
      intro w hSw
      try dsimp only at hSw
      go_simp
      try with_reducible rfl
     try simp only [Act.put, qa, qz, qs]
     refine Vc.wpAnyH_rd (i := 5) (d := some 47) (v := .agg #[.int .i64 1, .int .i64 0]) ?hy117 ?rest117
     case hy117 =>
      intro w hSw
      exact Who.exec_loadA _ rfl rfl (d_node hSw.2) Tryz.underlying37 rfl info_st
     try simp only [Act.put, qa, qz, qs]
     refine Vc.wpAnyH_rd (i := 6) (d := some 48) (v := ?v118) ?hy118 ?rest118
     case hy118 =>
      intro w hSw
      try dsimp only at hSw
      go_simp
      try with_reducible rfl
     try simp only [Act.put, qa, qz, qs]
     refine Vc.wpAnyH_rd (i := 7) (d := some 49) (v := ?v119) ?hy119 ?rest119
     case hy119 =>
      intro w hSw
      try dsimp only at hSw
      go_simp
      try with_reducible rfl
     try simp only [Act.put, qa, qz, qs]
     refine wpAnyH_ready (rs := [8]) (by kernel_rfl) (by simp) ?_
     refine AllReadyH.cons rfl (fun K hK => ?_) AllReadyH.nil
     refine step_upd mb (fun _ => none) (1, 0) (.int .i64 1) (.tmp 45) (.tmp 47) (.tmp 49) (by rfl) ?_
     refine And.intro ⟨by rfl, by rfl, by rfl, by rfl, by rfl, HM6.out.drew⟩ ?_
     intro W7 HM7 HC7
     have HI7 := Lib.hid (HI6.out.drew.upd HM6.out.drew HC7.out)
     have HX9 := Lib.hid (HX8.out.drew.over HC7.out (map_ne HX8.out HM6.out))
     refine hK.out _ _ ⟨HI7.out.hp, HX9.out⟩ (fun hHeld => ?_)
     clear hK K
     try simp only [Act.put, qa, qz, qs]
     refine wpAnyH_done (by kernel_rfl) ?_ _
     clear HI6 HX8 HM6 HC7
     go_wp2
     go_roundw
     case rel => exact ⟨1, by go_num, by omega, HI7, Lib.hid ⟨_, HM7.out, fun h => by omega⟩⟩
     case measure => simp [intOf]
    ·obtain rfl : 1 = j := by omega
     go_wp2
     go_ret
     exact ⟨g, mb, bb, sb, rfl, HI.out⟩
  ·refine step_make 63 3 (.int .i64 0) (.tmp 15) (.tmp 15) (by rfl) make_si ?_
   refine And.intro ⟨by rfl, by rfl, by rfl⟩ ?_
   intro bb W19 HB_19 hb HLB0
   have HLB := Lib.hid (Nat.le_trans HI_15.out.size HLB0.out)
   have HI_19 := Lib.hid (HI_15.out.trans (hb.out.mono HI_15.out.size))
   have HX_19 := Lib.hid (HX_15.out.below hb.out)
   have HY_19 := Lib.hid (HY_15.out.below hb.out)
   have HS_19 := Lib.hid (HS_15.out.below hb.out)
   clear hb
   refine hK.out _ _ ⟨HX_19.out, HY_19.out⟩ (fun hHeld => ?_)
   clear hK K
   try simp only [Act.put, qa, qz, qs]
   refine wpAnyH_ready (rs := [2]) (by kernel_rfl) (by simp) ?_
   refine AllReadyH.cons rfl (fun K hK => ?_) AllReadyH.nil
   refine step_map 98 (by rfl) ?_
   refine And.intro (by rfl) ?_
   intro mb W20 HM_20 hb HLM0
   have HLM := Lib.hid (Nat.le_trans HI_19.out.size HLM0.out)
   have HI_20 := Lib.hid (HI_19.out.trans (hb.out.mono HI_19.out.size))
   have HX_20 := Lib.hid (HX_19.out.below hb.out)
   have HY_20 := Lib.hid (HY_19.out.below hb.out)
   have HS_20 := Lib.hid (HS_19.out.below hb.out)
   have HB_20 := Lib.hid (HB_19.out.below hb.out)
   clear hb
   refine hK.out _ _ ⟨HX_20.out, HY_20.out⟩ (fun hHeld => ?_)
   clear hK K
   try simp only [Act.put, qa, qz, qs]
   refine Vc.wpAnyH_rd (i := 7) (d := some 19) (v := .agg (prC A1 c1 b c2 mb bb sb)) ?hy120 ?rest120
   case hy120 =>
    intro w hSw
    have hb := build_pr w A1 c1 b c2 mb bb sb
    simp [execOp, hb, Result.andThen, Act.eval]
   try simp only [Act.put, qa, qz, qs]
   refine wpAnyH_ready (rs := [8]) (by kernel_rfl) (by simp) ?_
   refine AllReadyH.cons rfl (fun K hK => ?_) AllReadyH.nil
   refine step_box 100 (prC A1 c1 b c2 mb bb sb) (.tmp 19) (by rfl) (box_pr A1 c1 b c2 mb bb sb) ?_
   refine And.intro ⟨by rfl, by rfl⟩ ?_
   intro g W21 hx hb hl
   have HI_21 := Lib.hid (HI_20.out.trans (hb.out.mono HI_20.out.size))
   have HL := Lib.hid (show LdI w W21 g mb bb sb A1 c1 b c2 nm from ⟨HI_21.out, hx.out, HB_20.out.below hb.out, HS_20.out.below hb.out, Fc.row_range_below HR0.out HI_21.out HBD.out, HBD.out, HLM.out, HLB.out⟩)
   have HM := Lib.hid (HM_20.out.below hb.out)
   refine hK.out _ _ ⟨HX_20.out.below hb.out, HY_20.out.below hb.out⟩ (fun hHeld => ?_)
   clear hK K
   try simp only [Act.put, qa, qz, qs]
   refine Vc.wpAnyH_rd (i := 9) (d := some 6) (v := ?v121) ?hy121 ?rest121
   case hy121 =>
    intro w hSw
    try dsimp only at hSw
    go_simp
    try with_reducible rfl
   try simp only [Act.put, qa, qz, qs]
   refine wpAnyH_done (by kernel_rfl) ?_ _
   have HZX := Lib.hid (HX_20.out.below hb.out)
   clear hx hb hl
   have c9b := HZX.out.at_ 9
   replace c9b : World.cell? _ ⟨g1, 9, none⟩ = some (.slice (some ⟨b, 0, none⟩) 1 c2) := c9b
   go_wp2
   go_loopw [24] (fun i wr => ∃ j : Nat, i = .int .i64 j ∧ j ≤ 1 ∧ Hid (LdI w wr g mb bb sb A1 c1 b c2 nm) ∧ Hid (∃ m, KMap stK wr mb m ∧ (j = 0 → m = fun _ => none))) (fun i _ => 1 - (intOf i).toNat)
   case atStart => exact ⟨0, rfl, Nat.zero_le _, HL, Lib.hid ⟨_, HM.out, fun _ => rfl⟩⟩
   case round =>
    clear HZX HL HM c9b
    obtain ⟨j, rfl, hj, HI, HK⟩ := hrel
    rcases Nat.eq_zero_or_pos j with hj0 | hj0
    ·subst hj0
     obtain ⟨m, hm, he⟩ := HK.out
     obtain rfl := he rfl
     have HM := Lib.hid hm
     have HZ := Lib.hid (Has.fresh wr 51 zeroL)
     have HBA := Lib.hid ((Below.refl wr.heap.size wr).alloc (Nat.le_refl _) (.cells zeroL 51))
     clear hm he HK hj
     go_wp2_with (first | ((with_reducible refine Who.wpList_loadC 51 (.tmp 27) rfl (b) 0 (dC nm) ?_); refine And.intro ⟨by rfl, by rfl, ⟨_, Tryz.underlying51, rfl⟩, info_link⟩ (And.intro (HI.out.row) ?_); (try simp only [Act.put, qa, qz, qs])) | ((with_reducible refine Who.wpList_alloc 51 8 rfl rfl rfl (zeroL) allocL ?_); (try simp only [Act.put, qa, qz, qs]); (try simp only [World.size_alloc])) | ((with_reducible refine wpList_storeG 51 (.tmp 8) (.tmp 28) rfl (wr.heap.size) zeroL (dC nm) ?_); refine And.intro ⟨rfl, by rfl, by rfl, info_link, one_d nm, rfl, HZ.out⟩ ?_; intro W5 HX5 HC5; (try simp only [Act.put, qa, qz, qs])) | fail)
     have HBW := Lib.hid (below_step HBA.out HC5.out (Nat.le_refl _))
     have HI5 := Lib.hid (HI.out.low HBW.out)
     have HM5 := Lib.hid (HM.out.below HBW.out)
     obtain ⟨g8, hg8⟩ : ∃ g8, g8 = wr.heap.size := ⟨_, rfl⟩
     rw [← hg8] at HX5
     rw [← hg8]
     have HL8 := Lib.hid (show w.heap.size ≤ g8 by rw [hg8]; exact HI.out.below.size)
     clear HI HM HZ HBA HC5 HBW hg8
     refine wp_region_held_drew (S := fun V => Has V g 100 (prC A1 c1 b c2 mb bb sb) ∧ Has V g8 51 (dC nm) ∧ KMap stK V mb fun _ => none) (by kernel_rfl) ⟨HI5.out.drew.hp, HX5.out.drew, HM5.out.drew⟩ (fun hHeld => ?_)
     refine Vc.wpAnyH_rd (i := 0) (d := some 29) (v := ?v122) ?hy122 ?rest122
     case hy122 =>
      intro w hSw
      try dsimp only at hSw
      go_simp
      try with_reducible rfl
     try simp only [Act.put, qa, qz, qs]
     refine Vc.wpAnyH_rd (i := 1) (d := some 30) (v := ?v123) ?hy123 ?rest123
     case hy123 =>
      intro w hSw
      try dsimp only at hSw
      go_simp
      try with_reducible rfl
     try simp only [Act.put, qa, qz, qs]
     refine Vc.wpAnyH_rd (i := 2) (d := some 31) (v := ?v124) ?hy124 ?rest124
     case hy124 =>
      intro w hSw
      try dsimp only at hSw
      go_simp
      try with_reducible rfl
     try simp only [Act.put, qa, qz, qs]
     refine Vc.wpAnyH_rd (i := 3) (d := some 32) (v := .slice (some ⟨bb, 0, none⟩) 1 1) ?hy125 ?rest125
     case hy125 =>
      intro w hSw
      have c := hSw.1.at_ 19
      replace c : w.cell? ⟨g, 19, none⟩ = some (.slice (some ⟨bb, 0, none⟩) 1 1) := c
      go_simp
      try with_reducible rfl
     try simp only [Act.put, qa, qz, qs]
     refine Vc.wpAnyH_rd (i := 4) (d := some 33) (v := ?v126) ?hy126 ?rest126
     case hy126 =>
      intro w hSw
      try dsimp only at hSw
      go_simp
      try with_reducible rfl
     try simp only [Act.put, qa, qz, qs]
     refine Vc.wpAnyH_rd (i := 5) (d := some 34) (v := ?v127) ?hy127 ?rest127
     case hy127 =>
      intro w hSw
      try dsimp only at hSw
      go_simp
      try with_reducible rfl
     try simp only [Act.put, qa, qz, qs]
     refine Vc.wpAnyH_rd (i := 6) (d := some 35) (v := ?v128) ?hy128 ?rest128
     case hy128 =>
      intro w hSw
      try dsimp only at hSw
      go_simp
      try with_reducible rfl
     try simp only [Act.put, qa, qz, qs]
     refine Vc.wpAnyH_rd (i := 7) (d := some 36) (v := ?v129) ?hy129 ?rest129
     case hy129 =>
      intro w hSw
      try dsimp only at hSw
      go_simp
      try with_reducible rfl
     try simp only [Act.put, qa, qz, qs]
     refine Vc.wpAnyH_rd (i := 8) (d := some 37) (v := .map (some mb)) ?hy130 ?rest130
     case hy130 =>
      intro w hSw
      have c := hSw.1.at_ 18
      replace c : w.cell? ⟨g, 18, none⟩ = some (.map (some mb)) := c
      go_simp
      try with_reducible rfl
     try simp only [Act.put, qa, qz, qs]
     refine Vc.wpAnyH_rd (i := 9) (d := some 38) (v := ?v131) ?hy131 ?rest131
     case hy131 =>
      intro w hSw
      try dsimp only at hSw
      go_simp
      try with_reducible rfl
     try simp only [Act.put, qa, qz, qs]
     refine Vc.wpAnyH_rd (i := 10) (d := some 39) (v := .agg #[.int .i64 1, .int .i64 0]) ?hy132 ?rest132
     case hy132 =>
      intro w hSw
      exact Who.exec_loadA _ rfl rfl (d_node hSw.2.1) Tryz.underlying37 rfl info_st
     try simp only [Act.put, qa, qz, qs]
     refine Vc.wpAnyH_rd (i := 11) (d := some 40) (v := .int .i64 0) ?hy133 ?rest133
     case hy133 =>
      intro w hSw
      have h : (Instr.lookup 98 (.map (some mb)) (.agg #[.int .i64 1, .int .i64 0]) false).run Tryz.prog w = .ok (.int .i64 0) w := (KMap.lookup Tryz.underlying98 stKeys hSw.2.2 (.int .i64 0) Tryz.zeroValue3 (1, 0)).1
      go_simp
      try with_reducible rfl
     try simp only [Act.put, qa, qz, qs]
     refine Vc.wpAnyH_rd (i := 12) (d := some 41) (v := ?v134) ?hy134 ?rest134
     case hy134 =>
      intro w hSw
      try dsimp only at hSw
      go_simp
      try with_reducible rfl
     try simp only [Act.put, qa, qz, qs]
     refine wpAnyH_ready (rs := [13]) (by kernel_rfl) (by simp) ?_
     refine AllReadyH.cons rfl (fun K hK => ?_) AllReadyH.nil
     refine stepG_cell (T := 3) 3 (.tmp 41) (.tmp 40) (by rfl) bb 0 #[.int .i64 0] #[.int .i64 0] (.int .i64 0) ?_
     refine And.intro ⟨by rfl, by rfl, by rfl, by rfl, info_int, rfl, by decide, by rfl, HI5.out.drew.hb⟩ ?_
     intro W6 HX6 HC6
     have HI6 := Lib.hid (HI5.out.drew.put HX6.out HC6.out)
     have HX8 := Lib.hid (HX5.out.drew.over HC6.out (has_ne HX5.out HI5.out.hb (by decide)))
     have HM6 := Lib.hid (HM5.out.drew.over HC6.out (fun e => map_ne HI5.out.hb HM5.out e.symm))
     refine hK.out _ _ ⟨HI6.out.hp, HX8.out, HM6.out⟩ (fun hHeld => ?_)
     clear hK K
     try simp only [Act.put, qa, qz, qs]
     refine wpAnyH_done (by kernel_rfl) ?_ _
     clear HI5 HX5 HM5 HX6 HC6
     go_wp2_with fail
     refine wp_region_held_drew (S := fun V => Has V g 100 (prC A1 c1 b c2 mb bb sb) ∧ Has V g8 51 (dC nm)) (by kernel_rfl) ⟨HI6.out.drew.hp, HX8.out.drew⟩ (fun hHeld => ?_)
     refine Vc.wpAnyH_rd (i := 0) (d := some 42) (v := ?v135) ?hy135 ?rest135
     case hy135 =>
      intro w hSw
      try dsimp only at hSw
      go_simp
      try with_reducible rfl
     try simp only [Act.put, qa, qz, qs]
     refine Vc.wpAnyH_rd (i := 1) (d := some 43) (v := ?v136) ?hy136 ?rest136
     case hy136 =>
      intro w hSw
      try dsimp only at hSw
      go_simp
      try with_reducible rfl
     try simp only [Act.put, qa, qz, qs]
     refine Vc.wpAnyH_rd (i := 2) (d := some 44) (v := ?v137) ?hy137 ?rest137
     case hy137 =>
      intro w hSw
      try dsimp only at hSw
      go_simp
      try with_reducible rfl
     try simp only [Act.put, qa, qz, qs]
     refine Vc.wpAnyH_rd (i := 3) (d := some 45) (v := .map (some mb)) ?hy138 ?rest138
     case hy138 =>
      intro w hSw
      have c := hSw.1.at_ 18
      replace c : w.cell? ⟨g, 18, none⟩ = some (.map (some mb)) := c
      go_simp
      try with_reducible rfl
     try simp only [Act.put, qa, qz, qs]
     refine Vc.wpAnyH_rd (i := 4) (d := some 46) (v := ?v139) ?hy139 ?rest139
     case hy139 =>
      intro w hSw
      try dsimp only at hSw
      go_simp
      try with_reducible rfl
     try simp only [Act.put, qa, qz, qs]
     refine Vc.wpAnyH_rd (i := 5) (d := some 47) (v := .agg #[.int .i64 1, .int .i64 0]) ?hy140 ?rest140
     case hy140 =>
      intro w hSw
      exact Who.exec_loadA _ rfl rfl (d_node hSw.2) Tryz.underlying37 rfl info_st
     try simp only [Act.put, qa, qz, qs]
     refine Vc.wpAnyH_rd (i := 6) (d := some 48) (v := ?v141) ?hy141 ?rest141
     case hy141 =>
      intro w hSw
      try dsimp only at hSw
      go_simp
      try with_reducible rfl
     try simp only [Act.put, qa, qz, qs]
     refine Vc.wpAnyH_rd (i := 7) (d := some 49) (v := ?v142) ?hy142 ?rest142
     case hy142 =>
      intro w hSw
      try dsimp only at hSw
      go_simp
      try with_reducible rfl
     try simp only [Act.put, qa, qz, qs]
     refine wpAnyH_ready (rs := [8]) (by kernel_rfl) (by simp) ?_
     refine AllReadyH.cons rfl (fun K hK => ?_) AllReadyH.nil
     refine step_upd mb (fun _ => none) (1, 0) (.int .i64 1) (.tmp 45) (.tmp 47) (.tmp 49) (by rfl) ?_
     refine And.intro ⟨by rfl, by rfl, by rfl, by rfl, by rfl, HM6.out.drew⟩ ?_
     intro W7 HM7 HC7
     have HI7 := Lib.hid (HI6.out.drew.upd HM6.out.drew HC7.out)
     have HX9 := Lib.hid (HX8.out.drew.over HC7.out (map_ne HX8.out HM6.out))
     refine hK.out _ _ ⟨HI7.out.hp, HX9.out⟩ (fun hHeld => ?_)
     clear hK K
     try simp only [Act.put, qa, qz, qs]
     refine wpAnyH_done (by kernel_rfl) ?_ _
     clear HI6 HX8 HM6 HC7
     go_wp2
     go_roundw
     case rel => exact ⟨1, by go_num, by omega, HI7, Lib.hid ⟨_, HM7.out, fun h => by omega⟩⟩
     case measure => simp [intOf]
    ·obtain rfl : 1 = j := by omega
     go_wp2
     go_ret
     exact ⟨g, mb, bb, sb, rfl, HI.out⟩
end Go.Proofs.YtblogecapegbmaaGreat.Jn
