/- Join: the example of the layer's laws. -/
import Derived.Test.YtblogecapegbmaaGreatJnP
namespace Go.Proofs.YtblogecapegbmaaGreat.Jn
open Go.RowKit Go.Proofs.YtblogecapegbmaaGreat.Mem
open Go.Proofs.YtblogecapegbmaaGreat.Vc (joinV meetV vecC stC)
set_option linter.unusedVariables false set_option linter.unusedSimpArgs false

def xB : ByteArray := ⟨#[120]⟩
def v0 (n : Nat) : Int := 0
def v12 (n : Nat) : Int := if n = 0 then 1 else if n = 1 then 2 else 0
def lL : Fc.LinkP := ⟨(1, 0), (1, 0), (1, 0), (0, 0), xB, v1, v0⟩
def lX : Fc.LinkP := ⟨(1, 0), (0, 0), (0, 0), (0, 0), ⟨#[]⟩, v0, v2⟩
def lY : Fc.LinkP := ⟨(1, 0), (0, 0), (0, 0), (0, 0), ⟨#[]⟩, v12, v0⟩
def lB : Fc.LinkP := opL lL (opL lX lY)
/-- A state of one link. -/
def ex1 (v : Nat → Int) (A1 : Option Addr) (c1 r c2 : Nat) (l : Fc.LinkP) : Fc.StateC := ⟨v, A1, 0, c1, some ⟨r, 0, none⟩, 1, c2, [], [l]⟩
theorem ex1_in {W : World} {v : Nat → Int} {r : Nat} {l : Fc.LinkP} (h : Has W r 51 (Fc.linkC l)) : StateIn W (ex1 v none 0 r 1 l) where
 nodes := ⟨Fc.SRow.nil _ _ _, fun _ => ⟨rfl, rfl⟩⟩
 links := ⟨⟨rfl, fun _ => ⟨r, 0, rfl, h.bound, fun i hi j u hu => by
  obtain rfl : i = 0 := by simp only [ex1, rowL, List.length_singleton] at hi; omega
  have := h.at_ j
  rw [show 0 + 0 * 25 + j = j by omega, this]
  exact hu⟩⟩, fun q => by cases q⟩
 each := fun z hz => by cases hz
theorem ex1_lim (v : Nat → Int) (A1 : Option Addr) (c1 r c2 : Nat) (l : Fc.LinkP) : LimS 1 (ex1 v A1 c1 r c2 l) := ⟨by show 0 ≤ 1; decide, Nat.le_refl _, by show 0 ≤ 1; decide, by show 0 ≤ 1; decide⟩
theorem own_shape {B : Nat} {W : World} {s : Fc.StateC} {v : Nat → Int} {l : Fc.LinkP} (h : s.p = ⟨v, [], [l]⟩) (ho : StateOwn B W s) : ∃ A1 c1 r c2, s = ex1 v A1 c1 r c2 l ∧ W.rangeAt r 0 (Fc.linkC l).toList ∧ r < W.heap.size := by
 obtain ⟨seen, A1, n1, c1, A2, n2, c2, nodes, links⟩ := s
 simp only [Fc.StateC.p, Fc.StateP.mk.injEq, List.map_eq_nil_iff] at h
 obtain ⟨rfl, rfl, rfl⟩ := h
 have h1 := ho.nodes
 have h2 := ho.links
 simp only at h1 h2
 have e1 : n1 = 0 := by
  rcases h1.sl with ⟨e, _⟩ | ⟨g, cap, e, _⟩
  ·cases e; rfl
  ·cases e; rfl
 rcases h2.sl with ⟨_, q⟩ | ⟨g, cap, e2, _⟩
 ·cases q
 ·cases e2
  have h3 : OwnK W B 51 25 Fc.linkC (.slice (some ⟨g, 0, none⟩) 1 c2) [l] := h2
  have hr := OwnK.srow (C := Fc.linkC) (k := 25) (fun _ => rfl) h3
  obtain ⟨b, off, e, hl, hx, mr⟩ := hr.range (i := 0) (by simp)
  cases e
  subst e1
  exact ⟨A1, c1, g, c2, rfl, by simpa using mr, hl⟩
theorem join_xy : joinP ⟨v2, [], [lX]⟩ ⟨v12, [], [lY]⟩ = ⟨joinV v2 v12, [], [opL lX lY]⟩ := by rfl
theorem join_lx : joinP ⟨v1, [], [lL]⟩ ⟨v2, [], [lX]⟩ = ⟨joinV v1 v2, [], [opL lL lX]⟩ := by rfl
theorem join_both : joinP ⟨v1, [], [lL]⟩ ⟨joinV v2 v12, [], [opL lX lY]⟩ = ⟨joinV v1 (joinV v2 v12), [], [lB]⟩ := by rfl
theorem dead_link : Fc.linkC (opL lL lX) = dC xB := by rfl
theorem dead_state (A1 : Option Addr) (c1 r c2 : Nat) (l : Fc.LinkP) : Fc.stateC (ex1 (joinV v1 v2) A1 c1 r c2 l) = sC A1 c1 r c2 := by rfl
def bC (A1 : Option Addr) (c1 r c2 : Nat) : Array Value := #[.int .i64 2, .int .i64 2, .int .i64 0, .int .i64 0, .int .i64 0, .int .i64 0, .int .i64 0, .int .i64 0, .slice A1 0 c1, .slice (some ⟨r, 0, none⟩) 1 c2]
theorem both_state (A1 : Option Addr) (c1 r c2 : Nat) (l : Fc.LinkP) : Fc.stateC (ex1 (joinV v1 (joinV v2 v12)) A1 c1 r c2 l) = bC A1 c1 r c2 := by rfl
theorem lb_name : lB.name = xB := by kernel_rfl
theorem alive_b (W : World) : Calls Tryz.prog 33 #[.agg (Fc.linkC lB)] W fun e W' => e = .returned (.bool true) ∧ Below W.heap.size W W' := alive_any lB W
theorem allocSt (w : World) : (Instr.alloc 37 true (.tuple #[])).run Tryz.prog w = .ok (.pointer (some ⟨w.heap.size, 0, none⟩)) (w.alloc (.cells #[.int .i64 0, .int .i64 0] 37)) := by
 have hz := Tryz.zeroValue37
 go_simp
theorem build_lx (w : World) : (Instr.build 51 #[(0, .agg #[.int .i64 1, .int .i64 0]), (6, .agg v2C)]).run Tryz.prog w = .ok (.agg (Fc.linkC lX)) w := run_build w _ _ _ (by kernel_rfl)
def v12C : Array Value := #[.int .i64 1, .int .i64 2, .int .i64 0, .int .i64 0, .int .i64 0, .int .i64 0, .int .i64 0, .int .i64 0]
theorem build_ly (w : World) : (Instr.build 51 #[(0, .agg #[.int .i64 1, .int .i64 0]), (5, .agg v12C)]).run Tryz.prog w = .ok (.agg (Fc.linkC lY)) w := run_build w _ _ _ (by kernel_rfl)
theorem build_v2 (w : World) : (Instr.build 23 #[(0, .int .i64 2)]).run Tryz.prog w = .ok (.agg v2C) w := run_build w _ _ _ (by kernel_rfl)
theorem build_v12 (w : World) : (Instr.build 23 #[(0, .int .i64 1), (1, .int .i64 2)]).run Tryz.prog w = .ok (.agg v12C) w := run_build w _ _ _ (by kernel_rfl)
theorem step_alloc {P : Program} {ops : Array Oper} {o : Oper} {a : Act} {w : World} {K : Act → World → Prop} {Q : Exit → Act → World → Prop} {EE : Prop} (T : TypeId) (p : Tmp) (C : Array Value) (ho : o.op = .alloc T) (hp : o.dst = some p) (hm : ∀ w : World, (Instr.alloc T true (.tuple #[])).run P w = .ok (.pointer (some ⟨w.heap.size, 0, none⟩)) (w.alloc (.cells C T)))
  (h : Region.wanted o (yielded ops a.tmps) = true ∧ ∀ g W', Hid (Has W' g T C) → Hid (Below w.heap.size w W') → Hid (w.heap.size ≤ g) → K (a.put (some p) (.pointer (some ⟨g, 0, none⟩))) W') : if Region.wanted o (yielded ops a.tmps) = true then Oper.wp P o a w K Q else EE := by
 obtain ⟨h1, h2⟩ := h
 rw [if_pos h1]
 unfold Oper.wp execOp
 simp only [ho, hm w, Sem.run_bind, Sem.run_pure, Result.andThen_ok]
 rw [← hp] at h2
 exact h2 _ _ (Lib.hid (Has.fresh w T C)) (Lib.hid ((Below.refl w.heap.size w).alloc (Nat.le_refl _) _)) (Lib.hid (Nat.le_refl _))
theorem step_row {ops : Array Oper} {o : Oper} {a : Act} {w : World} {K : Act → World → Prop} {Q : Exit → Act → World → Prop} {EE : Prop} (y : Operand) (p : Tmp) (e : Fc.LinkP) (ho : o.op = .buildSlice 25 1 #[(0, y)]) (hp : o.dst = some p)
  (h : (Region.wanted o (yielded ops a.tmps) = true ∧ a.eval y = .agg (Fc.linkC e)) ∧ ∀ g W', Has W' g 51 (Fc.linkC e) → Below w.heap.size w W' → K (a.put (some p) (.slice (some ⟨g, 0, none⟩) 1 1)) W') :
  if Region.wanted o (yielded ops a.tmps) = true then Oper.wp Tryz.prog o a w K Q else EE := by
 rw [← hp] at h
 exact step_build1 kdL y e ho h
theorem v2_one : v2C.all (·.oneCell') = true := by simp [v2C, Value.oneCell']
theorem v12_one : v12C.all (·.oneCell') = true := by simp [v12C, Value.oneCell']
theorem d_lim {s : Fc.StateC} {v : Nat → Int} {A1 : Option Addr} {c1 r c2 : Nat} {l : Fc.LinkP} (h : s = ex1 v A1 c1 r c2 l) : LimS 1 s := by rw [h]; exact ex1_lim _ _ _ _ _ _
/-- What a region comes to, stated once for all its orders. -/
def MQ (R : Act → World → Prop) : Exit → Act → World → Prop
 | .normal, a, w => R a w
 | _, _, _ => False
theorem mq_in {R : Act → World → Prop} {a : Act} {w : World} (h : R a w) : MQ R .normal a w := h
theorem mergeR {P : Program} {c : Code} {a : Act} {w : World} {Q : Exit → Act → World → Prop} (R : Act → World → Prop) (h1 : c.wp P (MQ R) a w) (h2 : ∀ a W, R a W → Q .normal a W) : c.wp P Q a w :=
 Code.wp_mono (fun e a w h => by
  cases e with
  | normal => exact h2 _ _ h
  | _ => exact False.elim h) h1
theorem merge1 {P : Program} {c : Code} {a : Act} {w : World} {Q : Exit → Act → World → Prop} (T : Nat → Act) (F : Nat → World → Prop) (h1 : c.wp P (MQ fun a W => ∃ x, a = T x ∧ F x W) a w) (h2 : ∀ x W, F x W → Q .normal (T x) W) : c.wp P Q a w :=
 mergeR _ h1 (by rintro a W ⟨x, rfl, h⟩; exact h2 x W h)
theorem merge2 {P : Program} {c : Code} {a : Act} {w : World} {Q : Exit → Act → World → Prop} (T : Nat → Nat → Act) (F : Nat → Nat → World → Prop) (h1 : c.wp P (MQ fun a W => ∃ x y, a = T x y ∧ F x y W) a w) (h2 : ∀ x y W, F x y W → Q .normal (T x y) W) : c.wp P Q a w :=
 mergeR _ h1 (by rintro a W ⟨x, y, rfl, h⟩; exact h2 x y W h)
theorem merge6 {P : Program} {c : Code} {a : Act} {w : World} {Q : Exit → Act → World → Prop} (T : Nat → Option Addr → Nat → Nat → Nat → Fc.StateC → Act) (F : Nat → Option Addr → Nat → Nat → Nat → Fc.StateC → World → Prop) (h1 : c.wp P (MQ fun a W => ∃ x A p q r s, a = T x A p q r s ∧ F x A p q r s W) a w) (h2 : ∀ x A p q r s W, F x A p q r s W → Q .normal (T x A p q r s) W) : c.wp P Q a w :=
 mergeR _ h1 (by rintro a W ⟨x, A, p, q, r, s, rfl, h⟩; exact h2 x A p q r s W h)
structure RowAt (w : World) (r : Nat) (C : Array Value) : Prop where
 row : w.rangeAt r 0 C.toList
 bd : r < w.heap.size
theorem RowAt.below {w w' : World} {r : Nat} {C : Array Value} (h : RowAt w r C) (hb : Below w.heap.size w w') : RowAt w' r C := ⟨Fc.row_range_below h.row hb h.bd, Nat.lt_of_lt_of_le h.bd hb.size⟩
theorem field_e (w : World) : (Instr.field 27 (.agg eC) 2).run Tryz.prog w = .ok (.slice none 0 0) w := by kernel_rfl
def vb (n : Nat) : Int := if n = 0 then 2 else if n = 1 then 2 else 0
theorem eqv_b (w : World) : (Op.equalIn 10000 23 (.agg #[.int .i64 2, .int .i64 2, .int .i64 0, .int .i64 0, .int .i64 0, .int .i64 0, .int .i64 0, .int .i64 0]) (.agg #[.int .i64 2, .int .i64 2, .int .i64 0, .int .i64 0, .int .i64 0, .int .i64 0, .int .i64 0, .int .i64 0])).run Tryz.prog w = .ok true w := Vc.eqv vb vb w
theorem b_seen {w : World} {g : Nat} {t : TypeId} {A1 : Option Addr} {c1 b c2 : Nat} (h : Has w g t (bC A1 c1 b c2)) : w.rangeAt g 0 (#[.int .i64 2, .int .i64 2, .int .i64 0, .int .i64 0, .int .i64 0, .int .i64 0, .int .i64 0, .int .i64 0] : Array Value).toList := range_of h fun j hj => by
 match j, (show j < 8 from hj) with
 | 0, _ | 1, _ | 2, _ | 3, _ | 4, _ | 5, _ | 6, _ | 7, _ => rfl
theorem row_of {w : World} {B r c2 : Nat} {l : Fc.LinkP} (h : OwnK w B 51 25 Fc.linkC (.slice (some ⟨r, 0, none⟩) 1 c2) [l]) : w.rangeAt r 0 (Fc.linkC l).toList ∧ r < w.heap.size := by
 have hr := OwnK.srow (C := Fc.linkC) (k := 25) (fun _ => rfl) (n := 1) h
 obtain ⟨b, off, e, hl, hx, mr⟩ := hr.range (i := 0) (by simp)
 cases e
 exact ⟨by simpa using mr, hl⟩
theorem row_name {w : World} {r : Nat} {l : Fc.LinkP} {s : ByteArray} (e : l.name = s) (h : w.rangeAt r 0 (Fc.linkC l).toList) : w.cell? ⟨r, 8, none⟩ = some (.string s) := by
 rw [← e]
 exact h 8 _ rfl
theorem row_dead {w : World} {B r c2 : Nat} (h : OwnK w B 51 25 Fc.linkC (.slice (some ⟨r, 0, none⟩) 1 c2) [opL lL lX]) : w.rangeAt r 0 (dC xB).toList ∧ r < w.heap.size := by
 have h2 := row_of h
 rw [dead_link] at h2
 exact h2
set_option maxRecDepth 100000 in
set_option maxHeartbeats 8000000 in
theorem awake_any (w : World) : Calls Tryz.prog 12 #[] w fun e w' => e = .returned (.bool true) ∧ Below w.heap.size w w' := by
 have HA0 := Lib.hid (Has.fresh w 37 #[.int .i64 1, .int .i64 0])
 have HA1 := Lib.hid (HA0.out.past (.cells (Fc.linkC lL) 51))
 have HL1 := Lib.hid (show Has ((w.alloc (.cells #[.int .i64 1, .int .i64 0] 37)).alloc (.cells (Fc.linkC lL) 51)) (w.heap.size + 1) 51 (Fc.linkC lL) by have q := Has.fresh (w.alloc (.cells #[.int .i64 1, .int .i64 0] 37)) 51 (Fc.linkC lL); rw [World.size_alloc] at q; exact q)
 have HR2 := Lib.hid (show Has (((w.alloc (.cells #[.int .i64 1, .int .i64 0] 37)).alloc (.cells (Fc.linkC lL) 51)).alloc (.cells (Fc.linkC lL) 51)) (w.heap.size + 1 + 1) 51 (Fc.linkC lL) by have q := Has.fresh ((w.alloc (.cells #[.int .i64 1, .int .i64 0] 37)).alloc (.cells (Fc.linkC lL) 51)) 51 (Fc.linkC lL); rw [World.size_alloc, World.size_alloc] at q; exact q)
 have HS3 := Lib.hid (show Has ((((w.alloc (.cells #[.int .i64 1, .int .i64 0] 37)).alloc (.cells (Fc.linkC lL) 51)).alloc (.cells (Fc.linkC lL) 51)).alloc (.cells (Fc.stateC (ex1 v1 none 0 (w.heap.size + 1 + 1) 1 lL)) 27)) (w.heap.size + 1 + 1 + 1) 27 (Fc.stateC (ex1 v1 none 0 (w.heap.size + 1 + 1) 1 lL)) by have q := Has.fresh (((w.alloc (.cells #[.int .i64 1, .int .i64 0] 37)).alloc (.cells (Fc.linkC lL) 51)).alloc (.cells (Fc.linkC lL) 51)) 27 (Fc.stateC (ex1 v1 none 0 (w.heap.size + 1 + 1) 1 lL)); rw [World.size_alloc, World.size_alloc, World.size_alloc] at q; exact q)
 have HB3 := Lib.hid (((((Below.refl w.heap.size w).alloc (Nat.le_refl _) (.cells #[.int .i64 1, .int .i64 0] 37)).alloc (by simp) (.cells (Fc.linkC lL) 51)).alloc (by simp; omega) (.cells (Fc.linkC lL) 51)).alloc (by simp; omega) (.cells (Fc.stateC (ex1 v1 none 0 (w.heap.size + 1 + 1) 1 lL)) 27))
 have HA3 := Lib.hid ((HA1.out.past (.cells (Fc.linkC lL) 51)).past (.cells (Fc.stateC (ex1 v1 none 0 (w.heap.size + 1 + 1) 1 lL)) 27))
 have HR3 := Lib.hid (HR2.out.past (.cells (Fc.stateC (ex1 v1 none 0 (w.heap.size + 1 + 1) 1 lL)) 27))
 go_enter Tryz.func12, Tryz.ntmps12
 go_wp2_with (first | ((with_reducible refine Who.wpList_newC 37 1 (.tmp 8) rfl rfl rfl (#[.int .i64 0, .int .i64 0]) (#[.int .i64 1, .int .i64 0]) ?_); refine And.intro ⟨rfl, rfl, rfl, allocSt, by rfl, by rfl, info_st, rfl, st_one 1 0⟩ ?_; (try simp only [Act.put, List.setIfInBounds_toArray, List.set_cons_zero, List.set_cons_succ]); (try simp only [World.size_alloc])) | ((with_reducible refine Who.wpList_loadC 37 (.tmp 1) rfl (w.heap.size) 0 (#[.int .i64 1, .int .i64 0]) ?_); refine And.intro ⟨by rfl, by rfl, ⟨_, Tryz.underlying37, rfl⟩, info_st⟩ (And.intro (Who.has_range HA0.out) ?_); (try simp only [Act.put, List.setIfInBounds_toArray, List.set_cons_zero, List.set_cons_succ])) | ((with_reducible refine Who.wpList_newC 51 2 (.tmp 13) rfl rfl rfl (zeroL) (Fc.linkC lL) ?_); refine And.intro ⟨rfl, rfl, rfl, allocL, by rfl, by rfl, info_link, rfl, own1 lL⟩ ?_; (try simp only [Act.put, List.setIfInBounds_toArray, List.set_cons_zero, List.set_cons_succ]); (try simp only [World.size_alloc])) | ((with_reducible refine Who.wpList_loadC 51 (.tmp 2) rfl (w.heap.size + 1) 0 (Fc.linkC lL) ?_); refine And.intro ⟨by rfl, by rfl, ⟨_, Tryz.underlying51, rfl⟩, info_link⟩ (And.intro (Who.has_range HL1.out) ?_); (try simp only [Act.put, List.setIfInBounds_toArray, List.set_cons_zero, List.set_cons_succ])) | ((with_reducible refine wpl_build1 kdL (.tmp 15) rfl lL ?_); refine And.intro ⟨rfl, by rfl⟩ ?_; (try simp only [Act.put, List.setIfInBounds_toArray, List.set_cons_zero, List.set_cons_succ]); (try simp only [World.size_alloc])) | ((with_reducible refine Who.wpList_newC 27 3 (.tmp 17) rfl rfl rfl (zeroS) ((Fc.stateC (ex1 v1 none 0 (w.heap.size + 1 + 1) 1 lL))) ?_); refine And.intro ⟨rfl, rfl, rfl, allocS, by rfl, by rfl, info_state, rfl, state_one _⟩ ?_; (try simp only [Act.put, List.setIfInBounds_toArray, List.set_cons_zero, List.set_cons_succ]); (try simp only [World.size_alloc])) | fail)
 obtain ⟨g1, hg1⟩ : ∃ g, g = w.heap.size := ⟨_, rfl⟩
 obtain ⟨r1, hr1⟩ : ∃ g, g = w.heap.size + 1 + 1 := ⟨_, rfl⟩
 obtain ⟨g3, hg3⟩ : ∃ g, g = w.heap.size + 1 + 1 + 1 := ⟨_, rfl⟩
 obtain ⟨g0, hg0⟩ : ∃ g, g = w.heap.size + 1 := ⟨_, rfl⟩
 generalize HW : ((((w.alloc (.cells #[.int .i64 1, .int .i64 0] 37)).alloc (.cells (Fc.linkC lL) 51)).alloc (.cells (Fc.linkC lL) 51)).alloc (.cells (Fc.stateC (ex1 v1 none 0 (w.heap.size + 1 + 1) 1 lL)) 27)) = W0 at *
 rw [← hg3, ← hr1] at HS3
 rw [← hr1] at HR3
 rw [← hg1] at HA3
 rw [← hg3, ← hr1, ← hg0, ← hg1]
 have HG := Lib.hid (show w.heap.size ≤ g1 ∧ w.heap.size ≤ r1 ∧ w.heap.size ≤ g3 by omega)
 have HI_0 := Lib.hid HB3.out.drew
 have g1_0 := Lib.hid HA3.out.drew
 have r1_0 := Lib.hid HR3.out.drew
 have g3_0 := Lib.hid HS3.out.drew
 clear HA0 HA1 HL1 HR2 HS3 HB3 HA3 HR3 HW hg1 hr1 hg3 hg0
 have LE_g1 := Lib.hid HG.out.1
 have LE_r1 := Lib.hid HG.out.2.1
 have LE_g3 := Lib.hid HG.out.2.2
 refine merge2 (fun g4 g5 => { tmps := #[.bool false, .pointer (some ⟨g1, 0, none⟩), .pointer (some ⟨g0, 0, none⟩), .pointer (some ⟨g3, 0, none⟩), .pointer (some ⟨g4, 0, none⟩), .pointer (some ⟨g5, 0, none⟩), undef, undef, .agg #[.int .i64 1, .int .i64 0], .agg #[.int .i64 1, .int .i64 0], .agg #[.int .i64 1, .int .i64 0], .agg #[.int .i64 1, .int .i64 0], .agg #[.int .i64 1, .int .i64 0, .int .i64 0, .int .i64 0, .int .i64 0, .int .i64 0, .int .i64 0, .int .i64 0], .agg #[.int .i64 1, .int .i64 0, .int .i64 1, .int .i64 0, .int .i64 1, .int .i64 0, .int .i64 0, .int .i64 0, .string ⟨#[120]⟩, .int .i64 1, .int .i64 0, .int .i64 0, .int .i64 0, .int .i64 0, .int .i64 0, .int .i64 0, .int .i64 0, .int .i64 0, .int .i64 0, .int .i64 0, .int .i64 0, .int .i64 0, .int .i64 0, .int .i64 0, .int .i64 0], .agg #[.int .i64 1, .int .i64 0, .int .i64 0, .int .i64 0, .int .i64 0, .int .i64 0, .int .i64 0, .int .i64 0], .agg (Fc.linkC lL), .slice (some ⟨r1, 0, none⟩) 1 1, .agg #[.int .i64 1, .int .i64 0, .int .i64 0, .int .i64 0, .int .i64 0, .int .i64 0, .int .i64 0, .int .i64 0, .slice none 0 0, .slice (some ⟨r1, 0, none⟩) 1 1], .agg (Fc.stateC (ex1 v1 none 0 r1 1 lL)), .agg (Fc.stateC (ex1 v1 none 0 r1 1 lL)), undef, undef, undef, undef, undef, undef, undef, undef, undef, undef, undef, undef, undef, undef, undef, undef, undef, undef, undef, undef, undef, undef, undef, undef, undef, undef, undef, undef, undef, undef, undef, undef, undef, undef, undef, undef, undef, undef, undef, undef, undef, undef, undef, undef, undef, undef, undef, undef, undef, undef, undef, undef, undef, undef, undef, undef, undef, undef, undef, undef, undef, undef, undef], defers := [] }) (fun g4 g5 W => Below w.heap.size w W ∧ Has W g1 37 (#[.int .i64 1, .int .i64 0]) ∧ Has W r1 51 ((Fc.linkC lL)) ∧ Has W g3 27 ((Fc.stateC (ex1 v1 none 0 r1 1 lL))) ∧ Has W g4 27 ((Fc.stateC (ex1 v1 none 0 r1 1 lL))) ∧ Has W g5 27 ((Fc.stateC (ex1 v1 none 0 r1 1 lL))) ∧ g1 ≠ g4 ∧ g1 ≠ g5 ∧ r1 ≠ g4 ∧ r1 ≠ g5 ∧ g3 ≠ g4 ∧ g3 ≠ g5 ∧ g4 ≠ g5 ∧ w.heap.size ≤ g4 ∧ w.heap.size ≤ g5) ?_ ?_
 ·refine wp_region_held_drew (S := fun V => Has V g3 27 (Fc.stateC (ex1 v1 none 0 r1 1 lL))) (by kernel_rfl) g3_0.out (fun hHeld => ?_)
  refine Vc.wpAnyH_read (i := 0) (d := some 18) (v := .agg ((Fc.stateC (ex1 v1 none 0 r1 1 lL)))) (by rfl) (by rfl) (by kernel_rfl) (by kernel_rfl) (by kernel_rfl) (fun _ _ _ h => False.elim h) (by rfl) ?hy1 (by assumption) ?rest1
  case hy1 =>
   intro w hSw
   exact Who.exec_loadA _ rfl rfl (Who.has_range hSw) Tryz.underlying27 rfl info_state
  try simp only [Act.put, List.setIfInBounds_toArray, List.set_cons_zero, List.set_cons_succ]
  refine Vc.wpAnyH_read (i := 1) (d := some 19) (v := .agg ((Fc.stateC (ex1 v1 none 0 r1 1 lL)))) (by rfl) (by rfl) (by kernel_rfl) (by kernel_rfl) (by kernel_rfl) (fun _ _ _ h => False.elim h) (by rfl) ?hy2 (by assumption) ?rest2
  case hy2 =>
   intro w hSw
   exact Who.exec_loadA _ rfl rfl (Who.has_range hSw) Tryz.underlying27 rfl info_state
  try simp only [Act.put, List.setIfInBounds_toArray, List.set_cons_zero, List.set_cons_succ]
  refine wpAnyH_ready (rs := [2, 3]) (by kernel_rfl) (by simp) ?_
  refine AllReadyH.cons rfl (fun K hK => ?_) (AllReadyH.cons rfl (fun K hK => ?_) AllReadyH.nil)
  ·refine step_alloc 27 4 zeroS (by rfl) (by rfl) allocS ?_
   refine And.intro (by rfl) ?_
   intro g4 Wa1 hx1 hb1 hl1
   have LE_g4 := Lib.hid (Nat.le_trans HI_0.out.size hl1.out)
   have NE_g1_g4 := Lib.hid (show g1 ≠ g4 by have := g1_0.out.bound; have := hl1.out; omega)
   have NE_r1_g4 := Lib.hid (show r1 ≠ g4 by have := r1_0.out.bound; have := hl1.out; omega)
   have NE_g3_g4 := Lib.hid (show g3 ≠ g4 by have := g3_0.out.bound; have := hl1.out; omega)
   have HI_2 := Lib.hid (HI_0.out.trans (hb1.out.mono HI_0.out.size))
   have g1_2 := Lib.hid (g1_0.out.below hb1.out)
   have r1_2 := Lib.hid (r1_0.out.below hb1.out)
   have g3_2 := Lib.hid (g3_0.out.below hb1.out)
   have g4_2 := Lib.hid hx1.out
   clear HI_0 g1_0 r1_0 g3_0 hx1 hl1
   refine hK.out _ _ g3_2.out (fun hHeld => ?_)
   clear hK K
   try simp only [Act.put, List.setIfInBounds_toArray, List.set_cons_zero, List.set_cons_succ]
   refine wpAnyH_ready (rs := [3]) (by kernel_rfl) (by simp) ?_
   refine AllReadyH.cons rfl (fun K hK => ?_) AllReadyH.nil
   refine step_alloc 27 5 zeroS (by rfl) (by rfl) allocS ?_
   refine And.intro (by rfl) ?_
   intro g5 Wa3 hx3 hb3 hl3
   have LE_g5 := Lib.hid (Nat.le_trans HI_2.out.size hl3.out)
   have NE_g1_g5 := Lib.hid (show g1 ≠ g5 by have := g1_2.out.bound; have := hl3.out; omega)
   have NE_r1_g5 := Lib.hid (show r1 ≠ g5 by have := r1_2.out.bound; have := hl3.out; omega)
   have NE_g3_g5 := Lib.hid (show g3 ≠ g5 by have := g3_2.out.bound; have := hl3.out; omega)
   have NE_g4_g5 := Lib.hid (show g4 ≠ g5 by have := g4_2.out.bound; have := hl3.out; omega)
   have HI_4 := Lib.hid (HI_2.out.trans (hb3.out.mono HI_2.out.size))
   have g1_4 := Lib.hid (g1_2.out.below hb3.out)
   have r1_4 := Lib.hid (r1_2.out.below hb3.out)
   have g3_4 := Lib.hid (g3_2.out.below hb3.out)
   have g4_4 := Lib.hid (g4_2.out.below hb3.out)
   have g5_4 := Lib.hid hx3.out
   clear HI_2 g1_2 r1_2 g3_2 g4_2 hx3 hl3
   refine hK.out _ _ g3_4.out (fun hHeld => ?_)
   clear hK K
   try simp only [Act.put, List.setIfInBounds_toArray, List.set_cons_zero, List.set_cons_succ]
   refine wpAnyH_ready (rs := [4]) (by kernel_rfl) (by simp) ?_
   refine AllReadyH.cons rfl (fun K hK => ?_) AllReadyH.nil
   refine stepG_store (T := 27) 27 (.tmp 4) (.tmp 18) (by rfl) g4 0 (zeroS) ((Fc.stateC (ex1 v1 none 0 r1 1 lL))) ((Fc.stateC (ex1 v1 none 0 r1 1 lL))) ?_
   refine And.intro ⟨by rfl, by rfl, by rfl, by rfl, info_state, state_one _, of_decide_eq_true rfl, by kernel_rfl, g4_4.out⟩ ?_
   intro Ws5 hx5 hc5
   have HI_6 := Lib.hid (below_step HI_4.out hc5.out LE_g4.out)
   have g4_6 := Lib.hid hx5.out
   have g1_6 := Lib.hid (g1_4.out.over hc5.out NE_g1_g4.out)
   have r1_6 := Lib.hid (r1_4.out.over hc5.out NE_r1_g4.out)
   have g3_6 := Lib.hid (g3_4.out.over hc5.out NE_g3_g4.out)
   have g5_6 := Lib.hid (g5_4.out.over hc5.out (fun e => NE_g4_g5.out e.symm))
   clear HI_4 g1_4 r1_4 g3_4 g4_4 g5_4 hx5 hc5
   refine hK.out _ _ g3_6.out (fun hHeld => ?_)
   clear hK K
   try simp only [Act.put, List.setIfInBounds_toArray, List.set_cons_zero, List.set_cons_succ]
   refine wpAnyH_ready (rs := [5]) (by kernel_rfl) (by simp) ?_
   refine AllReadyH.cons rfl (fun K hK => ?_) AllReadyH.nil
   refine stepG_store (T := 27) 27 (.tmp 5) (.tmp 19) (by rfl) g5 0 (zeroS) ((Fc.stateC (ex1 v1 none 0 r1 1 lL))) ((Fc.stateC (ex1 v1 none 0 r1 1 lL))) ?_
   refine And.intro ⟨by rfl, by rfl, by rfl, by rfl, info_state, state_one _, of_decide_eq_true rfl, by kernel_rfl, g5_6.out⟩ ?_
   intro Ws7 hx7 hc7
   have HI_8 := Lib.hid (below_step HI_6.out hc7.out LE_g5.out)
   have g5_8 := Lib.hid hx7.out
   have g1_8 := Lib.hid (g1_6.out.over hc7.out NE_g1_g5.out)
   have r1_8 := Lib.hid (r1_6.out.over hc7.out NE_r1_g5.out)
   have g3_8 := Lib.hid (g3_6.out.over hc7.out NE_g3_g5.out)
   have g4_8 := Lib.hid (g4_6.out.over hc7.out NE_g4_g5.out)
   clear HI_6 g1_6 r1_6 g3_6 g4_6 g5_6 hx7 hc7
   refine hK.out _ _ g3_8.out (fun hHeld => ?_)
   clear hK K
   try simp only [Act.put, List.setIfInBounds_toArray, List.set_cons_zero, List.set_cons_succ]
   refine wpAnyH_done (by kernel_rfl) ?_ _
   exact mq_in ⟨g4, g5, rfl, HI_8.out, g1_8.out, r1_8.out, g3_8.out, g4_8.out, g5_8.out, NE_g1_g4.out, NE_g1_g5.out, NE_r1_g4.out, NE_r1_g5.out, NE_g3_g4.out, NE_g3_g5.out, NE_g4_g5.out, LE_g4.out, LE_g5.out⟩
  ·refine step_alloc 27 5 zeroS (by rfl) (by rfl) allocS ?_
   refine And.intro (by rfl) ?_
   intro g5 Wa9 hx9 hb9 hl9
   have LE_g5 := Lib.hid (Nat.le_trans HI_0.out.size hl9.out)
   have NE_g1_g5 := Lib.hid (show g1 ≠ g5 by have := g1_0.out.bound; have := hl9.out; omega)
   have NE_r1_g5 := Lib.hid (show r1 ≠ g5 by have := r1_0.out.bound; have := hl9.out; omega)
   have NE_g3_g5 := Lib.hid (show g3 ≠ g5 by have := g3_0.out.bound; have := hl9.out; omega)
   have HI_10 := Lib.hid (HI_0.out.trans (hb9.out.mono HI_0.out.size))
   have g1_10 := Lib.hid (g1_0.out.below hb9.out)
   have r1_10 := Lib.hid (r1_0.out.below hb9.out)
   have g3_10 := Lib.hid (g3_0.out.below hb9.out)
   have g5_10 := Lib.hid hx9.out
   clear HI_0 g1_0 r1_0 g3_0 hx9 hl9
   refine hK.out _ _ g3_10.out (fun hHeld => ?_)
   clear hK K
   try simp only [Act.put, List.setIfInBounds_toArray, List.set_cons_zero, List.set_cons_succ]
   refine wpAnyH_ready (rs := [2]) (by kernel_rfl) (by simp) ?_
   refine AllReadyH.cons rfl (fun K hK => ?_) AllReadyH.nil
   refine step_alloc 27 4 zeroS (by rfl) (by rfl) allocS ?_
   refine And.intro (by rfl) ?_
   intro g4 Wa11 hx11 hb11 hl11
   have LE_g4 := Lib.hid (Nat.le_trans HI_10.out.size hl11.out)
   have NE_g1_g4 := Lib.hid (show g1 ≠ g4 by have := g1_10.out.bound; have := hl11.out; omega)
   have NE_r1_g4 := Lib.hid (show r1 ≠ g4 by have := r1_10.out.bound; have := hl11.out; omega)
   have NE_g3_g4 := Lib.hid (show g3 ≠ g4 by have := g3_10.out.bound; have := hl11.out; omega)
   have NE_g5_g4 := Lib.hid (show g5 ≠ g4 by have := g5_10.out.bound; have := hl11.out; omega)
   have HI_12 := Lib.hid (HI_10.out.trans (hb11.out.mono HI_10.out.size))
   have g1_12 := Lib.hid (g1_10.out.below hb11.out)
   have r1_12 := Lib.hid (r1_10.out.below hb11.out)
   have g3_12 := Lib.hid (g3_10.out.below hb11.out)
   have g5_12 := Lib.hid (g5_10.out.below hb11.out)
   have g4_12 := Lib.hid hx11.out
   clear HI_10 g1_10 r1_10 g3_10 g5_10 hx11 hl11
   refine hK.out _ _ g3_12.out (fun hHeld => ?_)
   clear hK K
   try simp only [Act.put, List.setIfInBounds_toArray, List.set_cons_zero, List.set_cons_succ]
   refine wpAnyH_ready (rs := [4]) (by kernel_rfl) (by simp) ?_
   refine AllReadyH.cons rfl (fun K hK => ?_) AllReadyH.nil
   refine stepG_store (T := 27) 27 (.tmp 4) (.tmp 18) (by rfl) g4 0 (zeroS) ((Fc.stateC (ex1 v1 none 0 r1 1 lL))) ((Fc.stateC (ex1 v1 none 0 r1 1 lL))) ?_
   refine And.intro ⟨by rfl, by rfl, by rfl, by rfl, info_state, state_one _, of_decide_eq_true rfl, by kernel_rfl, g4_12.out⟩ ?_
   intro Ws13 hx13 hc13
   have HI_14 := Lib.hid (below_step HI_12.out hc13.out LE_g4.out)
   have g4_14 := Lib.hid hx13.out
   have g1_14 := Lib.hid (g1_12.out.over hc13.out NE_g1_g4.out)
   have r1_14 := Lib.hid (r1_12.out.over hc13.out NE_r1_g4.out)
   have g3_14 := Lib.hid (g3_12.out.over hc13.out NE_g3_g4.out)
   have g5_14 := Lib.hid (g5_12.out.over hc13.out NE_g5_g4.out)
   clear HI_12 g1_12 r1_12 g3_12 g5_12 g4_12 hx13 hc13
   refine hK.out _ _ g3_14.out (fun hHeld => ?_)
   clear hK K
   try simp only [Act.put, List.setIfInBounds_toArray, List.set_cons_zero, List.set_cons_succ]
   refine wpAnyH_ready (rs := [5]) (by kernel_rfl) (by simp) ?_
   refine AllReadyH.cons rfl (fun K hK => ?_) AllReadyH.nil
   refine stepG_store (T := 27) 27 (.tmp 5) (.tmp 19) (by rfl) g5 0 (zeroS) ((Fc.stateC (ex1 v1 none 0 r1 1 lL))) ((Fc.stateC (ex1 v1 none 0 r1 1 lL))) ?_
   refine And.intro ⟨by rfl, by rfl, by rfl, by rfl, info_state, state_one _, of_decide_eq_true rfl, by kernel_rfl, g5_14.out⟩ ?_
   intro Ws15 hx15 hc15
   have HI_16 := Lib.hid (below_step HI_14.out hc15.out LE_g5.out)
   have g5_16 := Lib.hid hx15.out
   have g1_16 := Lib.hid (g1_14.out.over hc15.out NE_g1_g5.out)
   have r1_16 := Lib.hid (r1_14.out.over hc15.out NE_r1_g5.out)
   have g3_16 := Lib.hid (g3_14.out.over hc15.out NE_g3_g5.out)
   have g4_16 := Lib.hid (g4_14.out.over hc15.out (fun e => NE_g5_g4.out e.symm))
   clear HI_14 g1_14 r1_14 g3_14 g5_14 g4_14 hx15 hc15
   refine hK.out _ _ g3_16.out (fun hHeld => ?_)
   clear hK K
   try simp only [Act.put, List.setIfInBounds_toArray, List.set_cons_zero, List.set_cons_succ]
   refine wpAnyH_done (by kernel_rfl) ?_ _
   exact mq_in ⟨g4, g5, rfl, HI_16.out, g1_16.out, r1_16.out, g3_16.out, g4_16.out, g5_16.out, NE_g1_g4.out, NE_g1_g5.out, NE_r1_g4.out, NE_r1_g5.out, NE_g3_g4.out, NE_g3_g5.out, (fun e => NE_g5_g4.out e.symm), LE_g4.out, LE_g5.out⟩
 ·intro g4 g5 W17 ⟨h0, h_g1, h_r1, h_g3, h_g4, h_g5, n_g1_g4, n_g1_g5, n_r1_g4, n_r1_g5, n_g3_g4, n_g3_g5, n_g4_g5, l_g4, l_g5⟩
  have HI_17 := Lib.hid h0
  have g1_17 := Lib.hid h_g1
  have r1_17 := Lib.hid h_r1
  have g3_17 := Lib.hid h_g3
  have g4_17 := Lib.hid h_g4
  have g5_17 := Lib.hid h_g5
  have NE_g1_g4 := Lib.hid n_g1_g4
  have NE_g1_g5 := Lib.hid n_g1_g5
  have NE_r1_g4 := Lib.hid n_r1_g4
  have NE_r1_g5 := Lib.hid n_r1_g5
  have NE_g3_g4 := Lib.hid n_g3_g4
  have NE_g3_g5 := Lib.hid n_g3_g5
  have NE_g4_g5 := Lib.hid n_g4_g5
  have LE_g4 := Lib.hid l_g4
  have LE_g5 := Lib.hid l_g5
  clear h0 h_g1 h_r1 h_g3 h_g4 h_g5 n_g1_g4 n_g1_g5 n_r1_g4 n_r1_g5 n_g3_g4 n_g3_g5 n_g4_g5 l_g4 l_g5 HI_0 g1_0 r1_0 g3_0
  go_wp2_with fail
  have HI_18 := Lib.hid HI_17.out.drew
  have g1_18 := Lib.hid g1_17.out.drew
  have r1_18 := Lib.hid r1_17.out.drew
  have g3_18 := Lib.hid g3_17.out.drew
  have g4_18 := Lib.hid g4_17.out.drew
  have g5_18 := Lib.hid g5_17.out.drew
  clear HI_17 g1_17 r1_17 g3_17 g4_17 g5_17
  refine merge1 (fun rx => { tmps := #[.bool false, .pointer (some ⟨g1, 0, none⟩), .pointer (some ⟨g0, 0, none⟩), .pointer (some ⟨g3, 0, none⟩), .pointer (some ⟨g4, 0, none⟩), .pointer (some ⟨g5, 0, none⟩), undef, undef, .agg #[.int .i64 1, .int .i64 0], .agg #[.int .i64 1, .int .i64 0], .agg #[.int .i64 1, .int .i64 0], .agg #[.int .i64 1, .int .i64 0], .agg #[.int .i64 1, .int .i64 0, .int .i64 0, .int .i64 0, .int .i64 0, .int .i64 0, .int .i64 0, .int .i64 0], .agg #[.int .i64 1, .int .i64 0, .int .i64 1, .int .i64 0, .int .i64 1, .int .i64 0, .int .i64 0, .int .i64 0, .string ⟨#[120]⟩, .int .i64 1, .int .i64 0, .int .i64 0, .int .i64 0, .int .i64 0, .int .i64 0, .int .i64 0, .int .i64 0, .int .i64 0, .int .i64 0, .int .i64 0, .int .i64 0, .int .i64 0, .int .i64 0, .int .i64 0, .int .i64 0], .agg #[.int .i64 1, .int .i64 0, .int .i64 0, .int .i64 0, .int .i64 0, .int .i64 0, .int .i64 0, .int .i64 0], .agg (Fc.linkC lL), .slice (some ⟨r1, 0, none⟩) 1 1, .agg #[.int .i64 1, .int .i64 0, .int .i64 0, .int .i64 0, .int .i64 0, .int .i64 0, .int .i64 0, .int .i64 0, .slice none 0 0, .slice (some ⟨r1, 0, none⟩) 1 1], .agg (Fc.stateC (ex1 v1 none 0 r1 1 lL)), .agg (Fc.stateC (ex1 v1 none 0 r1 1 lL)), .agg v2C, .agg #[.int .i64 1, .int .i64 0], .agg v2C, .agg (Fc.linkC lX), .slice (some ⟨rx, 0, none⟩) 1 1, .pointer (some ⟨g4, 0, none⟩), .pointer (some ⟨g4, 9, none⟩), undef, undef, undef, undef, undef, undef, undef, undef, undef, undef, undef, undef, undef, undef, undef, undef, undef, undef, undef, undef, undef, undef, undef, undef, undef, undef, undef, undef, undef, undef, undef, undef, undef, undef, undef, undef, undef, undef, undef, undef, undef, undef, undef, undef, undef, undef, undef, undef, undef, undef, undef, undef, undef, undef, undef, undef], defers := [] }) (fun rx W => Below w.heap.size w W ∧ Has W g1 37 (#[.int .i64 1, .int .i64 0]) ∧ Has W r1 51 ((Fc.linkC lL)) ∧ Has W g3 27 ((Fc.stateC (ex1 v1 none 0 r1 1 lL))) ∧ Has W g4 27 ((Fc.stateC (ex1 v2 none 0 rx 1 lX))) ∧ Has W g5 27 ((Fc.stateC (ex1 v1 none 0 r1 1 lL))) ∧ Has W rx 51 ((Fc.linkC lX)) ∧ rx ≠ g4 ∧ rx ≠ g5) ?_ ?_
  ·refine wp_region_held_drew (S := fun V => Has V g1 37 #[.int .i64 1, .int .i64 0]) (by kernel_rfl) g1_18.out (fun hHeld => ?_)
   refine Vc.wpAnyH_read (i := 0) (d := some 20) (v := .agg v2C) (by rfl) (by rfl) (by kernel_rfl) (by kernel_rfl) (by kernel_rfl) (fun _ _ _ h => False.elim h) (by rfl) ?hy3 (by assumption) ?rest3
   case hy3 =>
    intro w hSw
    have hb := build_v2 w
    simp [execOp, hb, Result.andThen, Act.eval]
   try simp only [Act.put, List.setIfInBounds_toArray, List.set_cons_zero, List.set_cons_succ]
   refine Vc.wpAnyH_read (i := 1) (d := some 21) (v := .agg (#[.int .i64 1, .int .i64 0])) (by rfl) (by rfl) (by kernel_rfl) (by kernel_rfl) (by kernel_rfl) (fun _ _ _ h => False.elim h) (by rfl) ?hy4 (by assumption) ?rest4
   case hy4 =>
    intro w hSw
    exact Who.exec_loadA _ rfl rfl (Who.has_range hSw) Tryz.underlying37 rfl info_st
   try simp only [Act.put, List.setIfInBounds_toArray, List.set_cons_zero, List.set_cons_succ]
   refine Vc.wpAnyH_read (i := 2) (d := some 22) (v := .agg v2C) (by rfl) (by rfl) (by kernel_rfl) (by kernel_rfl) (by kernel_rfl) (fun _ _ _ h => False.elim h) (by rfl) ?hy5 (by assumption) ?rest5
   case hy5 =>
    intro w hSw
    have hb := build_v2 w
    simp [execOp, hb, Result.andThen, Act.eval]
   try simp only [Act.put, List.setIfInBounds_toArray, List.set_cons_zero, List.set_cons_succ]
   refine Vc.wpAnyH_read (i := 3) (d := some 23) (v := .agg (Fc.linkC lX)) (by rfl) (by rfl) (by kernel_rfl) (by kernel_rfl) (by kernel_rfl) (fun _ _ _ h => False.elim h) (by rfl) ?hy6 (by assumption) ?rest6
   case hy6 =>
    intro w hSw
    have hb := build_lx w
    simp [execOp, hb, Result.andThen, Act.eval]
   try simp only [Act.put, List.setIfInBounds_toArray, List.set_cons_zero, List.set_cons_succ]
   refine Vc.wpAnyH_read (i := 5) (d := some 25) (v := ?v7) (by rfl) (by rfl) (by kernel_rfl) (by kernel_rfl) (by kernel_rfl) (fun _ _ _ h => False.elim h) (by rfl) ?hy7 (by assumption) ?rest7
   case hy7 =>
    intro w hSw
    try dsimp only at hSw
    go_simp
    try with_reducible rfl
   try simp only [Act.put, List.setIfInBounds_toArray, List.set_cons_zero, List.set_cons_succ]
   refine wpAnyH_ready (rs := [4, 6]) (by kernel_rfl) (by simp) ?_
   refine AllReadyH.cons rfl (fun K hK => ?_) (AllReadyH.cons rfl (fun K hK => ?_) AllReadyH.nil)
   ·refine step_row (.tmp 23) 24 lX (by rfl) (by rfl) ?_
    refine And.intro ⟨by rfl, by rfl⟩ ?_
    intro rx Wb19 hx hb
    have hx19 := Lib.hid hx
    clear hx
    have HI_20 := Lib.hid (HI_18.out.trans (hb.mono HI_18.out.size))
    have g1_20 := Lib.hid (g1_18.out.below hb)
    have r1_20 := Lib.hid (r1_18.out.below hb)
    have g3_20 := Lib.hid (g3_18.out.below hb)
    have g4_20 := Lib.hid (g4_18.out.below hb)
    have g5_20 := Lib.hid (g5_18.out.below hb)
    have rx_20 := Lib.hid hx19.out
    have NE_rx_g4 := Lib.hid (has_ne rx_20.out g4_20.out (by decide))
    have NE_rx_g5 := Lib.hid (has_ne rx_20.out g5_20.out (by decide))
    clear hb hx19 HI_18 g1_18 r1_18 g3_18 g4_18 g5_18
    refine hK.out _ _ g1_20.out (fun hHeld => ?_)
    clear hK K
    try simp only [Act.put, List.setIfInBounds_toArray, List.set_cons_zero, List.set_cons_succ]
    refine wpAnyH_ready (rs := [6]) (by kernel_rfl) (by simp) ?_
    refine AllReadyH.cons rfl (fun K hK => ?_) AllReadyH.nil
    refine stepG_store (T := 27) 23 (.tmp 25) (.tmp 20) (by rfl) g4 0 ((Fc.stateC (ex1 v1 none 0 r1 1 lL))) (v2C) ((Fc.stateC (ex1 v2 none 0 r1 1 lL))) ?_
    refine And.intro ⟨by rfl, by rfl, by rfl, by rfl, info_vec, v2_one, of_decide_eq_true rfl, by kernel_rfl, g4_20.out⟩ ?_
    intro Ws21 hx21 hc21
    have HI_22 := Lib.hid (below_step HI_20.out hc21.out LE_g4.out)
    have g4_22 := Lib.hid hx21.out
    have g1_22 := Lib.hid (g1_20.out.over hc21.out NE_g1_g4.out)
    have r1_22 := Lib.hid (r1_20.out.over hc21.out NE_r1_g4.out)
    have g3_22 := Lib.hid (g3_20.out.over hc21.out NE_g3_g4.out)
    have g5_22 := Lib.hid (g5_20.out.over hc21.out (fun e => NE_g4_g5.out e.symm))
    have rx_22 := Lib.hid (rx_20.out.over hc21.out NE_rx_g4.out)
    clear HI_20 g1_20 r1_20 g3_20 g4_20 g5_20 rx_20 hx21 hc21
    refine hK.out _ _ g1_22.out (fun hHeld => ?_)
    clear hK K
    try simp only [Act.put, List.setIfInBounds_toArray, List.set_cons_zero, List.set_cons_succ]
    refine Vc.wpAnyH_read (i := 7) (d := some 26) (v := ?v8) (by rfl) (by rfl) (by kernel_rfl) (by kernel_rfl) (by kernel_rfl) (fun _ _ _ h => False.elim h) (by rfl) ?hy8 (by assumption) ?rest8
    case hy8 =>
     intro w hSw
     try dsimp only at hSw
     go_simp
     try with_reducible rfl
    try simp only [Act.put, List.setIfInBounds_toArray, List.set_cons_zero, List.set_cons_succ]
    refine wpAnyH_ready (rs := [8]) (by kernel_rfl) (by simp) ?_
    refine AllReadyH.cons rfl (fun K hK => ?_) AllReadyH.nil
    refine stepG_cell (T := 27) 25 (.tmp 26) (.tmp 24) (by rfl) g4 9 ((Fc.stateC (ex1 v2 none 0 r1 1 lL))) ((Fc.stateC (ex1 v2 none 0 rx 1 lX))) (.slice (some ⟨rx, 0, none⟩) 1 1) ?_
    refine And.intro ⟨by rfl, by rfl, by rfl, by rfl, info_sl, rfl, of_decide_eq_true rfl, by kernel_rfl, g4_22.out⟩ ?_
    intro Ws23 hx23 hc23
    have HI_24 := Lib.hid (below_step HI_22.out hc23.out LE_g4.out)
    have g4_24 := Lib.hid hx23.out
    have g1_24 := Lib.hid (g1_22.out.over hc23.out NE_g1_g4.out)
    have r1_24 := Lib.hid (r1_22.out.over hc23.out NE_r1_g4.out)
    have g3_24 := Lib.hid (g3_22.out.over hc23.out NE_g3_g4.out)
    have g5_24 := Lib.hid (g5_22.out.over hc23.out (fun e => NE_g4_g5.out e.symm))
    have rx_24 := Lib.hid (rx_22.out.over hc23.out NE_rx_g4.out)
    clear HI_22 g1_22 r1_22 g3_22 g4_22 g5_22 rx_22 hx23 hc23
    refine hK.out _ _ g1_24.out (fun hHeld => ?_)
    clear hK K
    try simp only [Act.put, List.setIfInBounds_toArray, List.set_cons_zero, List.set_cons_succ]
    refine wpAnyH_done (by kernel_rfl) ?_ _
    exact mq_in ⟨rx, rfl, HI_24.out, g1_24.out, r1_24.out, g3_24.out, g4_24.out, g5_24.out, rx_24.out, NE_rx_g4.out, NE_rx_g5.out⟩
   ·refine stepG_store (T := 27) 23 (.tmp 25) (.tmp 20) (by rfl) g4 0 ((Fc.stateC (ex1 v1 none 0 r1 1 lL))) (v2C) ((Fc.stateC (ex1 v2 none 0 r1 1 lL))) ?_
    refine And.intro ⟨by rfl, by rfl, by rfl, by rfl, info_vec, v2_one, of_decide_eq_true rfl, by kernel_rfl, g4_18.out⟩ ?_
    intro Ws25 hx25 hc25
    have HI_26 := Lib.hid (below_step HI_18.out hc25.out LE_g4.out)
    have g4_26 := Lib.hid hx25.out
    have g1_26 := Lib.hid (g1_18.out.over hc25.out NE_g1_g4.out)
    have r1_26 := Lib.hid (r1_18.out.over hc25.out NE_r1_g4.out)
    have g3_26 := Lib.hid (g3_18.out.over hc25.out NE_g3_g4.out)
    have g5_26 := Lib.hid (g5_18.out.over hc25.out (fun e => NE_g4_g5.out e.symm))
    clear HI_18 g1_18 r1_18 g3_18 g4_18 g5_18 hx25 hc25
    refine hK.out _ _ g1_26.out (fun hHeld => ?_)
    clear hK K
    try simp only [Act.put, List.setIfInBounds_toArray, List.set_cons_zero, List.set_cons_succ]
    refine wpAnyH_ready (rs := [4]) (by kernel_rfl) (by simp) ?_
    refine AllReadyH.cons rfl (fun K hK => ?_) AllReadyH.nil
    refine step_row (.tmp 23) 24 lX (by rfl) (by rfl) ?_
    refine And.intro ⟨by rfl, by rfl⟩ ?_
    intro rx Wb27 hx hb
    have hx27 := Lib.hid hx
    clear hx
    have HI_28 := Lib.hid (HI_26.out.trans (hb.mono HI_26.out.size))
    have g1_28 := Lib.hid (g1_26.out.below hb)
    have r1_28 := Lib.hid (r1_26.out.below hb)
    have g3_28 := Lib.hid (g3_26.out.below hb)
    have g4_28 := Lib.hid (g4_26.out.below hb)
    have g5_28 := Lib.hid (g5_26.out.below hb)
    have rx_28 := Lib.hid hx27.out
    have NE_rx_g4 := Lib.hid (has_ne rx_28.out g4_28.out (by decide))
    have NE_rx_g5 := Lib.hid (has_ne rx_28.out g5_28.out (by decide))
    clear hb hx27 HI_26 g1_26 r1_26 g3_26 g4_26 g5_26
    refine hK.out _ _ g1_28.out (fun hHeld => ?_)
    clear hK K
    try simp only [Act.put, List.setIfInBounds_toArray, List.set_cons_zero, List.set_cons_succ]
    refine Vc.wpAnyH_read (i := 7) (d := some 26) (v := ?v9) (by rfl) (by rfl) (by kernel_rfl) (by kernel_rfl) (by kernel_rfl) (fun _ _ _ h => False.elim h) (by rfl) ?hy9 (by assumption) ?rest9
    case hy9 =>
     intro w hSw
     try dsimp only at hSw
     go_simp
     try with_reducible rfl
    try simp only [Act.put, List.setIfInBounds_toArray, List.set_cons_zero, List.set_cons_succ]
    refine wpAnyH_ready (rs := [8]) (by kernel_rfl) (by simp) ?_
    refine AllReadyH.cons rfl (fun K hK => ?_) AllReadyH.nil
    refine stepG_cell (T := 27) 25 (.tmp 26) (.tmp 24) (by rfl) g4 9 ((Fc.stateC (ex1 v2 none 0 r1 1 lL))) ((Fc.stateC (ex1 v2 none 0 rx 1 lX))) (.slice (some ⟨rx, 0, none⟩) 1 1) ?_
    refine And.intro ⟨by rfl, by rfl, by rfl, by rfl, info_sl, rfl, of_decide_eq_true rfl, by kernel_rfl, g4_28.out⟩ ?_
    intro Ws29 hx29 hc29
    have HI_30 := Lib.hid (below_step HI_28.out hc29.out LE_g4.out)
    have g4_30 := Lib.hid hx29.out
    have g1_30 := Lib.hid (g1_28.out.over hc29.out NE_g1_g4.out)
    have r1_30 := Lib.hid (r1_28.out.over hc29.out NE_r1_g4.out)
    have g3_30 := Lib.hid (g3_28.out.over hc29.out NE_g3_g4.out)
    have g5_30 := Lib.hid (g5_28.out.over hc29.out (fun e => NE_g4_g5.out e.symm))
    have rx_30 := Lib.hid (rx_28.out.over hc29.out NE_rx_g4.out)
    clear HI_28 g1_28 r1_28 g3_28 g4_28 g5_28 rx_28 hx29 hc29
    refine hK.out _ _ g1_30.out (fun hHeld => ?_)
    clear hK K
    try simp only [Act.put, List.setIfInBounds_toArray, List.set_cons_zero, List.set_cons_succ]
    refine wpAnyH_done (by kernel_rfl) ?_ _
    exact mq_in ⟨rx, rfl, HI_30.out, g1_30.out, r1_30.out, g3_30.out, g4_30.out, g5_30.out, rx_30.out, NE_rx_g4.out, NE_rx_g5.out⟩
  ·intro rx W31 ⟨h0, h_g1, h_r1, h_g3, h_g4, h_g5, h_rx, n_rx_g4, n_rx_g5⟩
   have HI_31 := Lib.hid h0
   have g1_31 := Lib.hid h_g1
   have r1_31 := Lib.hid h_r1
   have g3_31 := Lib.hid h_g3
   have g4_31 := Lib.hid h_g4
   have g5_31 := Lib.hid h_g5
   have rx_31 := Lib.hid h_rx
   have NE_rx_g4 := Lib.hid n_rx_g4
   have NE_rx_g5 := Lib.hid n_rx_g5
   clear h0 h_g1 h_r1 h_g3 h_g4 h_g5 h_rx n_rx_g4 n_rx_g5 HI_18 g1_18 r1_18 g3_18 g4_18 g5_18
   go_wp2_with fail
   have HI_32 := Lib.hid HI_31.out.drew
   have g1_32 := Lib.hid g1_31.out.drew
   have r1_32 := Lib.hid r1_31.out.drew
   have g3_32 := Lib.hid g3_31.out.drew
   have g4_32 := Lib.hid g4_31.out.drew
   have g5_32 := Lib.hid g5_31.out.drew
   have rx_32 := Lib.hid rx_31.out.drew
   clear HI_31 g1_31 r1_31 g3_31 g4_31 g5_31 rx_31
   refine merge1 (fun ry => { tmps := #[.bool false, .pointer (some ⟨g1, 0, none⟩), .pointer (some ⟨g0, 0, none⟩), .pointer (some ⟨g3, 0, none⟩), .pointer (some ⟨g4, 0, none⟩), .pointer (some ⟨g5, 0, none⟩), undef, undef, .agg #[.int .i64 1, .int .i64 0], .agg #[.int .i64 1, .int .i64 0], .agg #[.int .i64 1, .int .i64 0], .agg #[.int .i64 1, .int .i64 0], .agg #[.int .i64 1, .int .i64 0, .int .i64 0, .int .i64 0, .int .i64 0, .int .i64 0, .int .i64 0, .int .i64 0], .agg #[.int .i64 1, .int .i64 0, .int .i64 1, .int .i64 0, .int .i64 1, .int .i64 0, .int .i64 0, .int .i64 0, .string ⟨#[120]⟩, .int .i64 1, .int .i64 0, .int .i64 0, .int .i64 0, .int .i64 0, .int .i64 0, .int .i64 0, .int .i64 0, .int .i64 0, .int .i64 0, .int .i64 0, .int .i64 0, .int .i64 0, .int .i64 0, .int .i64 0, .int .i64 0], .agg #[.int .i64 1, .int .i64 0, .int .i64 0, .int .i64 0, .int .i64 0, .int .i64 0, .int .i64 0, .int .i64 0], .agg (Fc.linkC lL), .slice (some ⟨r1, 0, none⟩) 1 1, .agg #[.int .i64 1, .int .i64 0, .int .i64 0, .int .i64 0, .int .i64 0, .int .i64 0, .int .i64 0, .int .i64 0, .slice none 0 0, .slice (some ⟨r1, 0, none⟩) 1 1], .agg (Fc.stateC (ex1 v1 none 0 r1 1 lL)), .agg (Fc.stateC (ex1 v1 none 0 r1 1 lL)), .agg v2C, .agg #[.int .i64 1, .int .i64 0], .agg v2C, .agg (Fc.linkC lX), .slice (some ⟨rx, 0, none⟩) 1 1, .pointer (some ⟨g4, 0, none⟩), .pointer (some ⟨g4, 9, none⟩), .agg v12C, .agg #[.int .i64 1, .int .i64 0], .agg v12C, .agg (Fc.linkC lY), .slice (some ⟨ry, 0, none⟩) 1 1, .pointer (some ⟨g5, 0, none⟩), .pointer (some ⟨g5, 9, none⟩), undef, undef, undef, undef, undef, undef, undef, undef, undef, undef, undef, undef, undef, undef, undef, undef, undef, undef, undef, undef, undef, undef, undef, undef, undef, undef, undef, undef, undef, undef, undef, undef, undef, undef, undef, undef, undef, undef, undef, undef, undef, undef, undef, undef, undef, undef, undef, undef, undef], defers := [] }) (fun ry W => Below w.heap.size w W ∧ Has W g1 37 (#[.int .i64 1, .int .i64 0]) ∧ Has W r1 51 ((Fc.linkC lL)) ∧ Has W g3 27 ((Fc.stateC (ex1 v1 none 0 r1 1 lL))) ∧ Has W g4 27 ((Fc.stateC (ex1 v2 none 0 rx 1 lX))) ∧ Has W g5 27 ((Fc.stateC (ex1 v12 none 0 ry 1 lY))) ∧ Has W rx 51 ((Fc.linkC lX)) ∧ Has W ry 51 ((Fc.linkC lY)) ∧ ry ≠ g4 ∧ ry ≠ g5) ?_ ?_
   ·refine wp_region_held_drew (S := fun V => Has V g1 37 #[.int .i64 1, .int .i64 0]) (by kernel_rfl) g1_32.out (fun hHeld => ?_)
    refine Vc.wpAnyH_read (i := 0) (d := some 27) (v := .agg v12C) (by rfl) (by rfl) (by kernel_rfl) (by kernel_rfl) (by kernel_rfl) (fun _ _ _ h => False.elim h) (by rfl) ?hy10 (by assumption) ?rest10
    case hy10 =>
     intro w hSw
     have hb := build_v12 w
     simp [execOp, hb, Result.andThen, Act.eval]
    try simp only [Act.put, List.setIfInBounds_toArray, List.set_cons_zero, List.set_cons_succ]
    refine Vc.wpAnyH_read (i := 1) (d := some 28) (v := .agg (#[.int .i64 1, .int .i64 0])) (by rfl) (by rfl) (by kernel_rfl) (by kernel_rfl) (by kernel_rfl) (fun _ _ _ h => False.elim h) (by rfl) ?hy11 (by assumption) ?rest11
    case hy11 =>
     intro w hSw
     exact Who.exec_loadA _ rfl rfl (Who.has_range hSw) Tryz.underlying37 rfl info_st
    try simp only [Act.put, List.setIfInBounds_toArray, List.set_cons_zero, List.set_cons_succ]
    refine Vc.wpAnyH_read (i := 2) (d := some 29) (v := .agg v12C) (by rfl) (by rfl) (by kernel_rfl) (by kernel_rfl) (by kernel_rfl) (fun _ _ _ h => False.elim h) (by rfl) ?hy12 (by assumption) ?rest12
    case hy12 =>
     intro w hSw
     have hb := build_v12 w
     simp [execOp, hb, Result.andThen, Act.eval]
    try simp only [Act.put, List.setIfInBounds_toArray, List.set_cons_zero, List.set_cons_succ]
    refine Vc.wpAnyH_read (i := 3) (d := some 30) (v := .agg (Fc.linkC lY)) (by rfl) (by rfl) (by kernel_rfl) (by kernel_rfl) (by kernel_rfl) (fun _ _ _ h => False.elim h) (by rfl) ?hy13 (by assumption) ?rest13
    case hy13 =>
     intro w hSw
     have hb := build_ly w
     simp [execOp, hb, Result.andThen, Act.eval]
    try simp only [Act.put, List.setIfInBounds_toArray, List.set_cons_zero, List.set_cons_succ]
    refine Vc.wpAnyH_read (i := 5) (d := some 32) (v := ?v14) (by rfl) (by rfl) (by kernel_rfl) (by kernel_rfl) (by kernel_rfl) (fun _ _ _ h => False.elim h) (by rfl) ?hy14 (by assumption) ?rest14
    case hy14 =>
     intro w hSw
     try dsimp only at hSw
     go_simp
     try with_reducible rfl
    try simp only [Act.put, List.setIfInBounds_toArray, List.set_cons_zero, List.set_cons_succ]
    refine wpAnyH_ready (rs := [4, 6]) (by kernel_rfl) (by simp) ?_
    refine AllReadyH.cons rfl (fun K hK => ?_) (AllReadyH.cons rfl (fun K hK => ?_) AllReadyH.nil)
    ·refine step_row (.tmp 30) 31 lY (by rfl) (by rfl) ?_
     refine And.intro ⟨by rfl, by rfl⟩ ?_
     intro ry Wb33 hx hb
     have hx33 := Lib.hid hx
     clear hx
     have HI_34 := Lib.hid (HI_32.out.trans (hb.mono HI_32.out.size))
     have g1_34 := Lib.hid (g1_32.out.below hb)
     have r1_34 := Lib.hid (r1_32.out.below hb)
     have g3_34 := Lib.hid (g3_32.out.below hb)
     have g4_34 := Lib.hid (g4_32.out.below hb)
     have g5_34 := Lib.hid (g5_32.out.below hb)
     have rx_34 := Lib.hid (rx_32.out.below hb)
     have ry_34 := Lib.hid hx33.out
     have NE_ry_g4 := Lib.hid (has_ne ry_34.out g4_34.out (by decide))
     have NE_ry_g5 := Lib.hid (has_ne ry_34.out g5_34.out (by decide))
     clear hb hx33 HI_32 g1_32 r1_32 g3_32 g4_32 g5_32 rx_32
     refine hK.out _ _ g1_34.out (fun hHeld => ?_)
     clear hK K
     try simp only [Act.put, List.setIfInBounds_toArray, List.set_cons_zero, List.set_cons_succ]
     refine wpAnyH_ready (rs := [6]) (by kernel_rfl) (by simp) ?_
     refine AllReadyH.cons rfl (fun K hK => ?_) AllReadyH.nil
     refine stepG_store (T := 27) 23 (.tmp 32) (.tmp 27) (by rfl) g5 0 ((Fc.stateC (ex1 v1 none 0 r1 1 lL))) (v12C) ((Fc.stateC (ex1 v12 none 0 r1 1 lL))) ?_
     refine And.intro ⟨by rfl, by rfl, by rfl, by rfl, info_vec, v12_one, of_decide_eq_true rfl, by kernel_rfl, g5_34.out⟩ ?_
     intro Ws35 hx35 hc35
     have HI_36 := Lib.hid (below_step HI_34.out hc35.out LE_g5.out)
     have g5_36 := Lib.hid hx35.out
     have g1_36 := Lib.hid (g1_34.out.over hc35.out NE_g1_g5.out)
     have r1_36 := Lib.hid (r1_34.out.over hc35.out NE_r1_g5.out)
     have g3_36 := Lib.hid (g3_34.out.over hc35.out NE_g3_g5.out)
     have g4_36 := Lib.hid (g4_34.out.over hc35.out NE_g4_g5.out)
     have rx_36 := Lib.hid (rx_34.out.over hc35.out NE_rx_g5.out)
     have ry_36 := Lib.hid (ry_34.out.over hc35.out NE_ry_g5.out)
     clear HI_34 g1_34 r1_34 g3_34 g4_34 g5_34 rx_34 ry_34 hx35 hc35
     refine hK.out _ _ g1_36.out (fun hHeld => ?_)
     clear hK K
     try simp only [Act.put, List.setIfInBounds_toArray, List.set_cons_zero, List.set_cons_succ]
     refine Vc.wpAnyH_read (i := 7) (d := some 33) (v := ?v15) (by rfl) (by rfl) (by kernel_rfl) (by kernel_rfl) (by kernel_rfl) (fun _ _ _ h => False.elim h) (by rfl) ?hy15 (by assumption) ?rest15
     case hy15 =>
      intro w hSw
      try dsimp only at hSw
      go_simp
      try with_reducible rfl
     try simp only [Act.put, List.setIfInBounds_toArray, List.set_cons_zero, List.set_cons_succ]
     refine wpAnyH_ready (rs := [8]) (by kernel_rfl) (by simp) ?_
     refine AllReadyH.cons rfl (fun K hK => ?_) AllReadyH.nil
     refine stepG_cell (T := 27) 25 (.tmp 33) (.tmp 31) (by rfl) g5 9 ((Fc.stateC (ex1 v12 none 0 r1 1 lL))) ((Fc.stateC (ex1 v12 none 0 ry 1 lY))) (.slice (some ⟨ry, 0, none⟩) 1 1) ?_
     refine And.intro ⟨by rfl, by rfl, by rfl, by rfl, info_sl, rfl, of_decide_eq_true rfl, by kernel_rfl, g5_36.out⟩ ?_
     intro Ws37 hx37 hc37
     have HI_38 := Lib.hid (below_step HI_36.out hc37.out LE_g5.out)
     have g5_38 := Lib.hid hx37.out
     have g1_38 := Lib.hid (g1_36.out.over hc37.out NE_g1_g5.out)
     have r1_38 := Lib.hid (r1_36.out.over hc37.out NE_r1_g5.out)
     have g3_38 := Lib.hid (g3_36.out.over hc37.out NE_g3_g5.out)
     have g4_38 := Lib.hid (g4_36.out.over hc37.out NE_g4_g5.out)
     have rx_38 := Lib.hid (rx_36.out.over hc37.out NE_rx_g5.out)
     have ry_38 := Lib.hid (ry_36.out.over hc37.out NE_ry_g5.out)
     clear HI_36 g1_36 r1_36 g3_36 g4_36 g5_36 rx_36 ry_36 hx37 hc37
     refine hK.out _ _ g1_38.out (fun hHeld => ?_)
     clear hK K
     try simp only [Act.put, List.setIfInBounds_toArray, List.set_cons_zero, List.set_cons_succ]
     refine wpAnyH_done (by kernel_rfl) ?_ _
     exact mq_in ⟨ry, rfl, HI_38.out, g1_38.out, r1_38.out, g3_38.out, g4_38.out, g5_38.out, rx_38.out, ry_38.out, NE_ry_g4.out, NE_ry_g5.out⟩
    ·refine stepG_store (T := 27) 23 (.tmp 32) (.tmp 27) (by rfl) g5 0 ((Fc.stateC (ex1 v1 none 0 r1 1 lL))) (v12C) ((Fc.stateC (ex1 v12 none 0 r1 1 lL))) ?_
     refine And.intro ⟨by rfl, by rfl, by rfl, by rfl, info_vec, v12_one, of_decide_eq_true rfl, by kernel_rfl, g5_32.out⟩ ?_
     intro Ws39 hx39 hc39
     have HI_40 := Lib.hid (below_step HI_32.out hc39.out LE_g5.out)
     have g5_40 := Lib.hid hx39.out
     have g1_40 := Lib.hid (g1_32.out.over hc39.out NE_g1_g5.out)
     have r1_40 := Lib.hid (r1_32.out.over hc39.out NE_r1_g5.out)
     have g3_40 := Lib.hid (g3_32.out.over hc39.out NE_g3_g5.out)
     have g4_40 := Lib.hid (g4_32.out.over hc39.out NE_g4_g5.out)
     have rx_40 := Lib.hid (rx_32.out.over hc39.out NE_rx_g5.out)
     clear HI_32 g1_32 r1_32 g3_32 g4_32 g5_32 rx_32 hx39 hc39
     refine hK.out _ _ g1_40.out (fun hHeld => ?_)
     clear hK K
     try simp only [Act.put, List.setIfInBounds_toArray, List.set_cons_zero, List.set_cons_succ]
     refine wpAnyH_ready (rs := [4]) (by kernel_rfl) (by simp) ?_
     refine AllReadyH.cons rfl (fun K hK => ?_) AllReadyH.nil
     refine step_row (.tmp 30) 31 lY (by rfl) (by rfl) ?_
     refine And.intro ⟨by rfl, by rfl⟩ ?_
     intro ry Wb41 hx hb
     have hx41 := Lib.hid hx
     clear hx
     have HI_42 := Lib.hid (HI_40.out.trans (hb.mono HI_40.out.size))
     have g1_42 := Lib.hid (g1_40.out.below hb)
     have r1_42 := Lib.hid (r1_40.out.below hb)
     have g3_42 := Lib.hid (g3_40.out.below hb)
     have g4_42 := Lib.hid (g4_40.out.below hb)
     have g5_42 := Lib.hid (g5_40.out.below hb)
     have rx_42 := Lib.hid (rx_40.out.below hb)
     have ry_42 := Lib.hid hx41.out
     have NE_ry_g4 := Lib.hid (has_ne ry_42.out g4_42.out (by decide))
     have NE_ry_g5 := Lib.hid (has_ne ry_42.out g5_42.out (by decide))
     clear hb hx41 HI_40 g1_40 r1_40 g3_40 g4_40 g5_40 rx_40
     refine hK.out _ _ g1_42.out (fun hHeld => ?_)
     clear hK K
     try simp only [Act.put, List.setIfInBounds_toArray, List.set_cons_zero, List.set_cons_succ]
     refine Vc.wpAnyH_read (i := 7) (d := some 33) (v := ?v16) (by rfl) (by rfl) (by kernel_rfl) (by kernel_rfl) (by kernel_rfl) (fun _ _ _ h => False.elim h) (by rfl) ?hy16 (by assumption) ?rest16
     case hy16 =>
      intro w hSw
      try dsimp only at hSw
      go_simp
      try with_reducible rfl
     try simp only [Act.put, List.setIfInBounds_toArray, List.set_cons_zero, List.set_cons_succ]
     refine wpAnyH_ready (rs := [8]) (by kernel_rfl) (by simp) ?_
     refine AllReadyH.cons rfl (fun K hK => ?_) AllReadyH.nil
     refine stepG_cell (T := 27) 25 (.tmp 33) (.tmp 31) (by rfl) g5 9 ((Fc.stateC (ex1 v12 none 0 r1 1 lL))) ((Fc.stateC (ex1 v12 none 0 ry 1 lY))) (.slice (some ⟨ry, 0, none⟩) 1 1) ?_
     refine And.intro ⟨by rfl, by rfl, by rfl, by rfl, info_sl, rfl, of_decide_eq_true rfl, by kernel_rfl, g5_42.out⟩ ?_
     intro Ws43 hx43 hc43
     have HI_44 := Lib.hid (below_step HI_42.out hc43.out LE_g5.out)
     have g5_44 := Lib.hid hx43.out
     have g1_44 := Lib.hid (g1_42.out.over hc43.out NE_g1_g5.out)
     have r1_44 := Lib.hid (r1_42.out.over hc43.out NE_r1_g5.out)
     have g3_44 := Lib.hid (g3_42.out.over hc43.out NE_g3_g5.out)
     have g4_44 := Lib.hid (g4_42.out.over hc43.out NE_g4_g5.out)
     have rx_44 := Lib.hid (rx_42.out.over hc43.out NE_rx_g5.out)
     have ry_44 := Lib.hid (ry_42.out.over hc43.out NE_ry_g5.out)
     clear HI_42 g1_42 r1_42 g3_42 g4_42 g5_42 rx_42 ry_42 hx43 hc43
     refine hK.out _ _ g1_44.out (fun hHeld => ?_)
     clear hK K
     try simp only [Act.put, List.setIfInBounds_toArray, List.set_cons_zero, List.set_cons_succ]
     refine wpAnyH_done (by kernel_rfl) ?_ _
     exact mq_in ⟨ry, rfl, HI_44.out, g1_44.out, r1_44.out, g3_44.out, g4_44.out, g5_44.out, rx_44.out, ry_44.out, NE_ry_g4.out, NE_ry_g5.out⟩
   ·intro ry W45 ⟨h0, h_g1, h_r1, h_g3, h_g4, h_g5, h_rx, h_ry, n_ry_g4, n_ry_g5⟩
    have HI_45 := Lib.hid h0
    have g1_45 := Lib.hid h_g1
    have r1_45 := Lib.hid h_r1
    have g3_45 := Lib.hid h_g3
    have g4_45 := Lib.hid h_g4
    have g5_45 := Lib.hid h_g5
    have rx_45 := Lib.hid h_rx
    have ry_45 := Lib.hid h_ry
    have NE_ry_g4 := Lib.hid n_ry_g4
    have NE_ry_g5 := Lib.hid n_ry_g5
    clear h0 h_g1 h_r1 h_g3 h_g4 h_g5 h_rx h_ry n_ry_g4 n_ry_g5 HI_32 g1_32 r1_32 g3_32 g4_32 g5_32 rx_32
    go_wp2_with fail
    have HI_46 := Lib.hid HI_45.out.drew
    have g1_46 := Lib.hid g1_45.out.drew
    have r1_46 := Lib.hid r1_45.out.drew
    have g3_46 := Lib.hid g3_45.out.drew
    have g4_46 := Lib.hid g4_45.out.drew
    have g5_46 := Lib.hid g5_45.out.drew
    have rx_46 := Lib.hid rx_45.out.drew
    have ry_46 := Lib.hid ry_45.out.drew
    clear HI_45 g1_45 r1_45 g3_45 g4_45 g5_45 rx_45 ry_45
    refine merge6 (fun g6 Ab1 cb1 rb cb2 s1 => { tmps := #[.bool false, .pointer (some ⟨g1, 0, none⟩), .pointer (some ⟨g0, 0, none⟩), .pointer (some ⟨g3, 0, none⟩), .pointer (some ⟨g4, 0, none⟩), .pointer (some ⟨g5, 0, none⟩), .pointer (some ⟨g6, 0, none⟩), undef, .agg #[.int .i64 1, .int .i64 0], .agg #[.int .i64 1, .int .i64 0], .agg #[.int .i64 1, .int .i64 0], .agg #[.int .i64 1, .int .i64 0], .agg #[.int .i64 1, .int .i64 0, .int .i64 0, .int .i64 0, .int .i64 0, .int .i64 0, .int .i64 0, .int .i64 0], .agg #[.int .i64 1, .int .i64 0, .int .i64 1, .int .i64 0, .int .i64 1, .int .i64 0, .int .i64 0, .int .i64 0, .string ⟨#[120]⟩, .int .i64 1, .int .i64 0, .int .i64 0, .int .i64 0, .int .i64 0, .int .i64 0, .int .i64 0, .int .i64 0, .int .i64 0, .int .i64 0, .int .i64 0, .int .i64 0, .int .i64 0, .int .i64 0, .int .i64 0, .int .i64 0], .agg #[.int .i64 1, .int .i64 0, .int .i64 0, .int .i64 0, .int .i64 0, .int .i64 0, .int .i64 0, .int .i64 0], .agg (Fc.linkC lL), .slice (some ⟨r1, 0, none⟩) 1 1, .agg #[.int .i64 1, .int .i64 0, .int .i64 0, .int .i64 0, .int .i64 0, .int .i64 0, .int .i64 0, .int .i64 0, .slice none 0 0, .slice (some ⟨r1, 0, none⟩) 1 1], .agg (Fc.stateC (ex1 v1 none 0 r1 1 lL)), .agg (Fc.stateC (ex1 v1 none 0 r1 1 lL)), .agg v2C, .agg #[.int .i64 1, .int .i64 0], .agg v2C, .agg (Fc.linkC lX), .slice (some ⟨rx, 0, none⟩) 1 1, .pointer (some ⟨g4, 0, none⟩), .pointer (some ⟨g4, 9, none⟩), .agg v12C, .agg #[.int .i64 1, .int .i64 0], .agg v12C, .agg (Fc.linkC lY), .slice (some ⟨ry, 0, none⟩) 1 1, .pointer (some ⟨g5, 0, none⟩), .pointer (some ⟨g5, 9, none⟩), .agg (Fc.stateC (ex1 v1 none 0 r1 1 lL)), .agg (Fc.stateC (ex1 v2 none 0 rx 1 lX)), .agg (Fc.stateC (ex1 v12 none 0 ry 1 lY)), .agg (Fc.stateC s1), .agg (Fc.stateC (ex1 (joinV v1 (joinV v2 v12)) Ab1 cb1 rb cb2 lB)), undef, undef, undef, undef, undef, undef, undef, undef, undef, undef, undef, undef, undef, undef, undef, undef, undef, undef, undef, undef, undef, undef, undef, undef, undef, undef, undef, undef, undef, undef, undef, undef, undef, undef, undef, undef, undef, undef, undef, undef, undef, undef, undef, undef], defers := [] }) (fun g6 Ab1 cb1 rb cb2 s1 W => Below w.heap.size w W ∧ Has W r1 51 ((Fc.linkC lL)) ∧ Has W g3 27 ((Fc.stateC (ex1 v1 none 0 r1 1 lL))) ∧ Has W g4 27 ((Fc.stateC (ex1 v2 none 0 rx 1 lX))) ∧ Has W rx 51 ((Fc.linkC lX)) ∧ Has W g6 27 ((bC Ab1 cb1 rb cb2)) ∧ RowAt W rb (Fc.linkC lB)) ?_ ?_
    ·refine wp_region_held_drew (S := fun V => Has V g3 27 (Fc.stateC (ex1 v1 none 0 r1 1 lL)) ∧ Has V g4 27 (Fc.stateC (ex1 v2 none 0 rx 1 lX)) ∧ Has V g5 27 (Fc.stateC (ex1 v12 none 0 ry 1 lY))) (by kernel_rfl) ⟨g3_46.out, g4_46.out, g5_46.out⟩ (fun hHeld => ?_)
     refine Vc.wpAnyH_read (i := 0) (d := some 34) (v := .agg ((Fc.stateC (ex1 v1 none 0 r1 1 lL)))) (by rfl) (by rfl) (by kernel_rfl) (by kernel_rfl) (by kernel_rfl) (fun _ _ _ h => False.elim h) (by rfl) ?hy17 (by assumption) ?rest17
     case hy17 =>
      intro w hSw
      exact Who.exec_loadA _ rfl rfl (Who.has_range hSw.1) Tryz.underlying27 rfl info_state
     try simp only [Act.put, List.setIfInBounds_toArray, List.set_cons_zero, List.set_cons_succ]
     refine Vc.wpAnyH_read (i := 1) (d := some 35) (v := .agg ((Fc.stateC (ex1 v2 none 0 rx 1 lX)))) (by rfl) (by rfl) (by kernel_rfl) (by kernel_rfl) (by kernel_rfl) (fun _ _ _ h => False.elim h) (by rfl) ?hy18 (by assumption) ?rest18
     case hy18 =>
      intro w hSw
      exact Who.exec_loadA _ rfl rfl (Who.has_range hSw.2.1) Tryz.underlying27 rfl info_state
     try simp only [Act.put, List.setIfInBounds_toArray, List.set_cons_zero, List.set_cons_succ]
     refine Vc.wpAnyH_read (i := 2) (d := some 36) (v := .agg ((Fc.stateC (ex1 v12 none 0 ry 1 lY)))) (by rfl) (by rfl) (by kernel_rfl) (by kernel_rfl) (by kernel_rfl) (fun _ _ _ h => False.elim h) (by rfl) ?hy19 (by assumption) ?rest19
     case hy19 =>
      intro w hSw
      exact Who.exec_loadA _ rfl rfl (Who.has_range hSw.2.2) Tryz.underlying27 rfl info_state
     try simp only [Act.put, List.setIfInBounds_toArray, List.set_cons_zero, List.set_cons_succ]
     refine wpAnyH_ready (rs := [3, 5]) (by kernel_rfl) (by simp) ?_
     refine AllReadyH.cons rfl (fun K hK => ?_) (AllReadyH.cons rfl (fun K hK => ?_) AllReadyH.nil)
     ·go_simp
      go_at_call 14
      refine (states_any (ex1 v2 none 0 rx 1 lX) (ex1 v12 none 0 ry 1 lY) _ (ex1_in rx_46.out) (ex1_in ry_46.out) (ex1_lim _ _ _ _ _ _) (ex1_lim _ _ _ _ _ _) (by decide)).mono ?_
      rintro e Wc47 ⟨s1, rfl, hp, ho, hb⟩
      have HP1 := Lib.hid (hp.trans join_xy)
      have hsi47 := Lib.hid ho.in_
      have HE1 := Lib.hid (show LimS 1 s1 from by obtain ⟨A, c, r, d, h, _⟩ := own_shape HP1.out ho; exact d_lim h)
      clear hp ho
      have HI_48 := Lib.hid (HI_46.out.trans (hb.mono HI_46.out.size))
      have g1_48 := Lib.hid (g1_46.out.below hb)
      have r1_48 := Lib.hid (r1_46.out.below hb)
      have g3_48 := Lib.hid (g3_46.out.below hb)
      have g4_48 := Lib.hid (g4_46.out.below hb)
      have g5_48 := Lib.hid (g5_46.out.below hb)
      have rx_48 := Lib.hid (rx_46.out.below hb)
      have ry_48 := Lib.hid (ry_46.out.below hb)
      have HSI_48 := Lib.hid hsi47.out
      clear hb hsi47 HI_46 g1_46 r1_46 g3_46 g4_46 g5_46 rx_46 ry_46
      refine hK.out _ _ ⟨g3_48.out, g4_48.out, g5_48.out⟩ (fun hHeld => ?_)
      clear hK K
      try simp only [Act.put, List.setIfInBounds_toArray, List.set_cons_zero, List.set_cons_succ]
      refine wpAnyH_ready (rs := [4, 5]) (by kernel_rfl) (by simp) ?_
      refine AllReadyH.cons rfl (fun K hK => ?_) (AllReadyH.cons rfl (fun K hK => ?_) AllReadyH.nil)
      ·go_simp
       go_at_call 14
       refine (states_any (ex1 v1 none 0 r1 1 lL) s1 _ (ex1_in r1_48.out) HSI_48.out (ex1_lim _ _ _ _ _ _) HE1.out (by decide)).mono ?_
       rintro e Wc49 ⟨s2, rfl, hp, ho, hb⟩
       rw [HP1.out] at hp
       obtain ⟨Ab1, cb1, rb, cb2, rfl, _, _⟩ := own_shape (hp.trans join_both) ho
       have ho49 := Lib.hid (show OwnK Wc49 _ 51 25 Fc.linkC (.slice (some ⟨rb, 0, none⟩) 1 cb2) [lB] from ho.links)
       clear hp ho
       have HI_50 := Lib.hid (HI_48.out.trans (hb.mono HI_48.out.size))
       have g1_50 := Lib.hid (g1_48.out.below hb)
       have r1_50 := Lib.hid (r1_48.out.below hb)
       have g3_50 := Lib.hid (g3_48.out.below hb)
       have g4_50 := Lib.hid (g4_48.out.below hb)
       have g5_50 := Lib.hid (g5_48.out.below hb)
       have rx_50 := Lib.hid (rx_48.out.below hb)
       have ry_50 := Lib.hid (ry_48.out.below hb)
       have HOB_50 := Lib.hid ho49.out
       clear hb ho49 HI_48 g1_48 r1_48 g3_48 g4_48 g5_48 rx_48 ry_48
       refine hK.out _ _ ⟨g3_50.out, g4_50.out, g5_50.out⟩ (fun hHeld => ?_)
       clear hK K
       try simp only [Act.put, List.setIfInBounds_toArray, List.set_cons_zero, List.set_cons_succ]
       refine wpAnyH_ready (rs := [5]) (by kernel_rfl) (by simp) ?_
       refine AllReadyH.cons rfl (fun K hK => ?_) AllReadyH.nil
       refine step_alloc 27 6 zeroS (by rfl) (by rfl) allocS ?_
       refine And.intro (by rfl) ?_
       intro g6 Wa52 hx52 hb52 hl52
       have LE_g6 := Lib.hid (Nat.le_trans HI_50.out.size hl52.out)
       have NE_g1_g6 := Lib.hid (show g1 ≠ g6 by have := g1_50.out.bound; have := hl52.out; omega)
       have NE_r1_g6 := Lib.hid (show r1 ≠ g6 by have := r1_50.out.bound; have := hl52.out; omega)
       have NE_g3_g6 := Lib.hid (show g3 ≠ g6 by have := g3_50.out.bound; have := hl52.out; omega)
       have NE_g4_g6 := Lib.hid (show g4 ≠ g6 by have := g4_50.out.bound; have := hl52.out; omega)
       have NE_g5_g6 := Lib.hid (show g5 ≠ g6 by have := g5_50.out.bound; have := hl52.out; omega)
       have NE_rx_g6 := Lib.hid (show rx ≠ g6 by have := rx_50.out.bound; have := hl52.out; omega)
       have NE_ry_g6 := Lib.hid (show ry ≠ g6 by have := ry_50.out.bound; have := hl52.out; omega)
       have HI_53 := Lib.hid (HI_50.out.trans (hb52.out.mono HI_50.out.size))
       have g1_53 := Lib.hid (g1_50.out.below hb52.out)
       have r1_53 := Lib.hid (r1_50.out.below hb52.out)
       have g3_53 := Lib.hid (g3_50.out.below hb52.out)
       have g4_53 := Lib.hid (g4_50.out.below hb52.out)
       have g5_53 := Lib.hid (g5_50.out.below hb52.out)
       have rx_53 := Lib.hid (rx_50.out.below hb52.out)
       have ry_53 := Lib.hid (ry_50.out.below hb52.out)
       have HOB_53 := Lib.hid (HOB_50.out.below hb52.out)
       have g6_53 := Lib.hid hx52.out
       clear HI_50 g1_50 r1_50 g3_50 g4_50 g5_50 rx_50 ry_50 HOB_50 hx52 hl52
       refine hK.out _ _ ⟨g3_53.out, g4_53.out, g5_53.out⟩ (fun hHeld => ?_)
       clear hK K
       try simp only [Act.put, List.setIfInBounds_toArray, List.set_cons_zero, List.set_cons_succ]
       refine wpAnyH_ready (rs := [6]) (by kernel_rfl) (by simp) ?_
       refine AllReadyH.cons rfl (fun K hK => ?_) AllReadyH.nil
       refine stepG_store (T := 27) 27 (.tmp 6) (.tmp 38) (by rfl) g6 0 (zeroS) ((bC Ab1 cb1 rb cb2)) ((bC Ab1 cb1 rb cb2)) ?_
       refine And.intro ⟨by rfl, by rfl, by rfl, by rfl, info_state, state_one (ex1 (joinV v1 (joinV v2 v12)) Ab1 cb1 rb cb2 lB), of_decide_eq_true rfl, by kernel_rfl, g6_53.out⟩ ?_
       intro Ws54 hx54 hc54
       have HI_55 := Lib.hid (below_step HI_53.out hc54.out LE_g6.out)
       have g6_55 := Lib.hid hx54.out
       have g1_55 := Lib.hid (g1_53.out.over hc54.out NE_g1_g6.out)
       have r1_55 := Lib.hid (r1_53.out.over hc54.out NE_r1_g6.out)
       have g3_55 := Lib.hid (g3_53.out.over hc54.out NE_g3_g6.out)
       have g4_55 := Lib.hid (g4_53.out.over hc54.out NE_g4_g6.out)
       have g5_55 := Lib.hid (g5_53.out.over hc54.out NE_g5_g6.out)
       have rx_55 := Lib.hid (rx_53.out.over hc54.out NE_rx_g6.out)
       have ry_55 := Lib.hid (ry_53.out.over hc54.out NE_ry_g6.out)
       have HOB_55 := Lib.hid (own_has HOB_53.out g6_53.out hc54.out (by decide))
       clear HI_53 g1_53 r1_53 g3_53 g4_53 g5_53 rx_53 ry_53 g6_53 HOB_53 hx54 hc54
       refine hK.out _ _ ⟨g3_55.out, g4_55.out, g5_55.out⟩ (fun hHeld => ?_)
       clear hK K
       try simp only [Act.put, List.setIfInBounds_toArray, List.set_cons_zero, List.set_cons_succ]
       have rB := row_of HOB_55.out
       refine wpAnyH_done (by kernel_rfl) ?_ _
       exact mq_in ⟨g6, Ab1, cb1, rb, cb2, s1, rfl, HI_55.out, r1_55.out, g3_55.out, g4_55.out, rx_55.out, g6_55.out, ⟨rB.1, rB.2⟩⟩
      ·refine step_alloc 27 6 zeroS (by rfl) (by rfl) allocS ?_
       refine And.intro (by rfl) ?_
       intro g6 Wa57 hx57 hb57 hl57
       have LE_g6 := Lib.hid (Nat.le_trans HI_48.out.size hl57.out)
       have NE_g1_g6 := Lib.hid (show g1 ≠ g6 by have := g1_48.out.bound; have := hl57.out; omega)
       have NE_r1_g6 := Lib.hid (show r1 ≠ g6 by have := r1_48.out.bound; have := hl57.out; omega)
       have NE_g3_g6 := Lib.hid (show g3 ≠ g6 by have := g3_48.out.bound; have := hl57.out; omega)
       have NE_g4_g6 := Lib.hid (show g4 ≠ g6 by have := g4_48.out.bound; have := hl57.out; omega)
       have NE_g5_g6 := Lib.hid (show g5 ≠ g6 by have := g5_48.out.bound; have := hl57.out; omega)
       have NE_rx_g6 := Lib.hid (show rx ≠ g6 by have := rx_48.out.bound; have := hl57.out; omega)
       have NE_ry_g6 := Lib.hid (show ry ≠ g6 by have := ry_48.out.bound; have := hl57.out; omega)
       have HI_58 := Lib.hid (HI_48.out.trans (hb57.out.mono HI_48.out.size))
       have g1_58 := Lib.hid (g1_48.out.below hb57.out)
       have r1_58 := Lib.hid (r1_48.out.below hb57.out)
       have g3_58 := Lib.hid (g3_48.out.below hb57.out)
       have g4_58 := Lib.hid (g4_48.out.below hb57.out)
       have g5_58 := Lib.hid (g5_48.out.below hb57.out)
       have rx_58 := Lib.hid (rx_48.out.below hb57.out)
       have ry_58 := Lib.hid (ry_48.out.below hb57.out)
       have HSI_58 := Lib.hid (HSI_48.out.below hb57.out)
       have g6_58 := Lib.hid hx57.out
       clear HI_48 g1_48 r1_48 g3_48 g4_48 g5_48 rx_48 ry_48 HSI_48 hx57 hl57
       refine hK.out _ _ ⟨g3_58.out, g4_58.out, g5_58.out⟩ (fun hHeld => ?_)
       clear hK K
       try simp only [Act.put, List.setIfInBounds_toArray, List.set_cons_zero, List.set_cons_succ]
       refine wpAnyH_ready (rs := [4]) (by kernel_rfl) (by simp) ?_
       refine AllReadyH.cons rfl (fun K hK => ?_) AllReadyH.nil
       go_simp
       go_at_call 14
       refine (states_any (ex1 v1 none 0 r1 1 lL) s1 _ (ex1_in r1_58.out) HSI_58.out (ex1_lim _ _ _ _ _ _) HE1.out (by decide)).mono ?_
       rintro e Wc59 ⟨s2, rfl, hp, ho, hb⟩
       rw [HP1.out] at hp
       obtain ⟨Ab1, cb1, rb, cb2, rfl, _, _⟩ := own_shape (hp.trans join_both) ho
       have ho59 := Lib.hid (show OwnK Wc59 _ 51 25 Fc.linkC (.slice (some ⟨rb, 0, none⟩) 1 cb2) [lB] from ho.links)
       clear hp ho
       have HI_60 := Lib.hid (HI_58.out.trans (hb.mono HI_58.out.size))
       have g1_60 := Lib.hid (g1_58.out.below hb)
       have r1_60 := Lib.hid (r1_58.out.below hb)
       have g3_60 := Lib.hid (g3_58.out.below hb)
       have g4_60 := Lib.hid (g4_58.out.below hb)
       have g5_60 := Lib.hid (g5_58.out.below hb)
       have rx_60 := Lib.hid (rx_58.out.below hb)
       have ry_60 := Lib.hid (ry_58.out.below hb)
       have g6_60 := Lib.hid (g6_58.out.below hb)
       have HOB_60 := Lib.hid ho59.out
       clear hb ho59 HI_58 g1_58 r1_58 g3_58 g4_58 g5_58 rx_58 ry_58 g6_58
       refine hK.out _ _ ⟨g3_60.out, g4_60.out, g5_60.out⟩ (fun hHeld => ?_)
       clear hK K
       try simp only [Act.put, List.setIfInBounds_toArray, List.set_cons_zero, List.set_cons_succ]
       refine wpAnyH_ready (rs := [6]) (by kernel_rfl) (by simp) ?_
       refine AllReadyH.cons rfl (fun K hK => ?_) AllReadyH.nil
       refine stepG_store (T := 27) 27 (.tmp 6) (.tmp 38) (by rfl) g6 0 (zeroS) ((bC Ab1 cb1 rb cb2)) ((bC Ab1 cb1 rb cb2)) ?_
       refine And.intro ⟨by rfl, by rfl, by rfl, by rfl, info_state, state_one (ex1 (joinV v1 (joinV v2 v12)) Ab1 cb1 rb cb2 lB), of_decide_eq_true rfl, by kernel_rfl, g6_60.out⟩ ?_
       intro Ws61 hx61 hc61
       have HI_62 := Lib.hid (below_step HI_60.out hc61.out LE_g6.out)
       have g6_62 := Lib.hid hx61.out
       have g1_62 := Lib.hid (g1_60.out.over hc61.out NE_g1_g6.out)
       have r1_62 := Lib.hid (r1_60.out.over hc61.out NE_r1_g6.out)
       have g3_62 := Lib.hid (g3_60.out.over hc61.out NE_g3_g6.out)
       have g4_62 := Lib.hid (g4_60.out.over hc61.out NE_g4_g6.out)
       have g5_62 := Lib.hid (g5_60.out.over hc61.out NE_g5_g6.out)
       have rx_62 := Lib.hid (rx_60.out.over hc61.out NE_rx_g6.out)
       have ry_62 := Lib.hid (ry_60.out.over hc61.out NE_ry_g6.out)
       have HOB_62 := Lib.hid (own_has HOB_60.out g6_60.out hc61.out (by decide))
       clear HI_60 g1_60 r1_60 g3_60 g4_60 g5_60 rx_60 ry_60 g6_60 HOB_60 hx61 hc61
       refine hK.out _ _ ⟨g3_62.out, g4_62.out, g5_62.out⟩ (fun hHeld => ?_)
       clear hK K
       try simp only [Act.put, List.setIfInBounds_toArray, List.set_cons_zero, List.set_cons_succ]
       have rB := row_of HOB_62.out
       refine wpAnyH_done (by kernel_rfl) ?_ _
       exact mq_in ⟨g6, Ab1, cb1, rb, cb2, s1, rfl, HI_62.out, r1_62.out, g3_62.out, g4_62.out, rx_62.out, g6_62.out, ⟨rB.1, rB.2⟩⟩
     ·refine step_alloc 27 6 zeroS (by rfl) (by rfl) allocS ?_
      refine And.intro (by rfl) ?_
      intro g6 Wa64 hx64 hb64 hl64
      have LE_g6 := Lib.hid (Nat.le_trans HI_46.out.size hl64.out)
      have NE_g1_g6 := Lib.hid (show g1 ≠ g6 by have := g1_46.out.bound; have := hl64.out; omega)
      have NE_r1_g6 := Lib.hid (show r1 ≠ g6 by have := r1_46.out.bound; have := hl64.out; omega)
      have NE_g3_g6 := Lib.hid (show g3 ≠ g6 by have := g3_46.out.bound; have := hl64.out; omega)
      have NE_g4_g6 := Lib.hid (show g4 ≠ g6 by have := g4_46.out.bound; have := hl64.out; omega)
      have NE_g5_g6 := Lib.hid (show g5 ≠ g6 by have := g5_46.out.bound; have := hl64.out; omega)
      have NE_rx_g6 := Lib.hid (show rx ≠ g6 by have := rx_46.out.bound; have := hl64.out; omega)
      have NE_ry_g6 := Lib.hid (show ry ≠ g6 by have := ry_46.out.bound; have := hl64.out; omega)
      have HI_65 := Lib.hid (HI_46.out.trans (hb64.out.mono HI_46.out.size))
      have g1_65 := Lib.hid (g1_46.out.below hb64.out)
      have r1_65 := Lib.hid (r1_46.out.below hb64.out)
      have g3_65 := Lib.hid (g3_46.out.below hb64.out)
      have g4_65 := Lib.hid (g4_46.out.below hb64.out)
      have g5_65 := Lib.hid (g5_46.out.below hb64.out)
      have rx_65 := Lib.hid (rx_46.out.below hb64.out)
      have ry_65 := Lib.hid (ry_46.out.below hb64.out)
      have g6_65 := Lib.hid hx64.out
      clear HI_46 g1_46 r1_46 g3_46 g4_46 g5_46 rx_46 ry_46 hx64 hl64
      refine hK.out _ _ ⟨g3_65.out, g4_65.out, g5_65.out⟩ (fun hHeld => ?_)
      clear hK K
      try simp only [Act.put, List.setIfInBounds_toArray, List.set_cons_zero, List.set_cons_succ]
      refine wpAnyH_ready (rs := [3]) (by kernel_rfl) (by simp) ?_
      refine AllReadyH.cons rfl (fun K hK => ?_) AllReadyH.nil
      go_simp
      go_at_call 14
      refine (states_any (ex1 v2 none 0 rx 1 lX) (ex1 v12 none 0 ry 1 lY) _ (ex1_in rx_65.out) (ex1_in ry_65.out) (ex1_lim _ _ _ _ _ _) (ex1_lim _ _ _ _ _ _) (by decide)).mono ?_
      rintro e Wc66 ⟨s1, rfl, hp, ho, hb⟩
      have HP1 := Lib.hid (hp.trans join_xy)
      have hsi66 := Lib.hid ho.in_
      have HE1 := Lib.hid (show LimS 1 s1 from by obtain ⟨A, c, r, d, h, _⟩ := own_shape HP1.out ho; exact d_lim h)
      clear hp ho
      have HI_67 := Lib.hid (HI_65.out.trans (hb.mono HI_65.out.size))
      have g1_67 := Lib.hid (g1_65.out.below hb)
      have r1_67 := Lib.hid (r1_65.out.below hb)
      have g3_67 := Lib.hid (g3_65.out.below hb)
      have g4_67 := Lib.hid (g4_65.out.below hb)
      have g5_67 := Lib.hid (g5_65.out.below hb)
      have rx_67 := Lib.hid (rx_65.out.below hb)
      have ry_67 := Lib.hid (ry_65.out.below hb)
      have g6_67 := Lib.hid (g6_65.out.below hb)
      have HSI_67 := Lib.hid hsi66.out
      clear hb hsi66 HI_65 g1_65 r1_65 g3_65 g4_65 g5_65 rx_65 ry_65 g6_65
      refine hK.out _ _ ⟨g3_67.out, g4_67.out, g5_67.out⟩ (fun hHeld => ?_)
      clear hK K
      try simp only [Act.put, List.setIfInBounds_toArray, List.set_cons_zero, List.set_cons_succ]
      refine wpAnyH_ready (rs := [4]) (by kernel_rfl) (by simp) ?_
      refine AllReadyH.cons rfl (fun K hK => ?_) AllReadyH.nil
      go_simp
      go_at_call 14
      refine (states_any (ex1 v1 none 0 r1 1 lL) s1 _ (ex1_in r1_67.out) HSI_67.out (ex1_lim _ _ _ _ _ _) HE1.out (by decide)).mono ?_
      rintro e Wc68 ⟨s2, rfl, hp, ho, hb⟩
      rw [HP1.out] at hp
      obtain ⟨Ab1, cb1, rb, cb2, rfl, _, _⟩ := own_shape (hp.trans join_both) ho
      have ho68 := Lib.hid (show OwnK Wc68 _ 51 25 Fc.linkC (.slice (some ⟨rb, 0, none⟩) 1 cb2) [lB] from ho.links)
      clear hp ho
      have HI_69 := Lib.hid (HI_67.out.trans (hb.mono HI_67.out.size))
      have g1_69 := Lib.hid (g1_67.out.below hb)
      have r1_69 := Lib.hid (r1_67.out.below hb)
      have g3_69 := Lib.hid (g3_67.out.below hb)
      have g4_69 := Lib.hid (g4_67.out.below hb)
      have g5_69 := Lib.hid (g5_67.out.below hb)
      have rx_69 := Lib.hid (rx_67.out.below hb)
      have ry_69 := Lib.hid (ry_67.out.below hb)
      have g6_69 := Lib.hid (g6_67.out.below hb)
      have HOB_69 := Lib.hid ho68.out
      clear hb ho68 HI_67 g1_67 r1_67 g3_67 g4_67 g5_67 rx_67 ry_67 g6_67
      refine hK.out _ _ ⟨g3_69.out, g4_69.out, g5_69.out⟩ (fun hHeld => ?_)
      clear hK K
      try simp only [Act.put, List.setIfInBounds_toArray, List.set_cons_zero, List.set_cons_succ]
      refine wpAnyH_ready (rs := [6]) (by kernel_rfl) (by simp) ?_
      refine AllReadyH.cons rfl (fun K hK => ?_) AllReadyH.nil
      refine stepG_store (T := 27) 27 (.tmp 6) (.tmp 38) (by rfl) g6 0 (zeroS) ((bC Ab1 cb1 rb cb2)) ((bC Ab1 cb1 rb cb2)) ?_
      refine And.intro ⟨by rfl, by rfl, by rfl, by rfl, info_state, state_one (ex1 (joinV v1 (joinV v2 v12)) Ab1 cb1 rb cb2 lB), of_decide_eq_true rfl, by kernel_rfl, g6_69.out⟩ ?_
      intro Ws70 hx70 hc70
      have HI_71 := Lib.hid (below_step HI_69.out hc70.out LE_g6.out)
      have g6_71 := Lib.hid hx70.out
      have g1_71 := Lib.hid (g1_69.out.over hc70.out NE_g1_g6.out)
      have r1_71 := Lib.hid (r1_69.out.over hc70.out NE_r1_g6.out)
      have g3_71 := Lib.hid (g3_69.out.over hc70.out NE_g3_g6.out)
      have g4_71 := Lib.hid (g4_69.out.over hc70.out NE_g4_g6.out)
      have g5_71 := Lib.hid (g5_69.out.over hc70.out NE_g5_g6.out)
      have rx_71 := Lib.hid (rx_69.out.over hc70.out NE_rx_g6.out)
      have ry_71 := Lib.hid (ry_69.out.over hc70.out NE_ry_g6.out)
      have HOB_71 := Lib.hid (own_has HOB_69.out g6_69.out hc70.out (by decide))
      clear HI_69 g1_69 r1_69 g3_69 g4_69 g5_69 rx_69 ry_69 g6_69 HOB_69 hx70 hc70
      refine hK.out _ _ ⟨g3_71.out, g4_71.out, g5_71.out⟩ (fun hHeld => ?_)
      clear hK K
      try simp only [Act.put, List.setIfInBounds_toArray, List.set_cons_zero, List.set_cons_succ]
      have rB := row_of HOB_71.out
      refine wpAnyH_done (by kernel_rfl) ?_ _
      exact mq_in ⟨g6, Ab1, cb1, rb, cb2, s1, rfl, HI_71.out, r1_71.out, g3_71.out, g4_71.out, rx_71.out, g6_71.out, ⟨rB.1, rB.2⟩⟩
    ·intro g6 Ab1 cb1 rb cb2 s1 W72 ⟨h0, h_r1, h_g3, h_g4, h_rx, h_g6, h_RB⟩
     have HI_72 := Lib.hid h0
     have r1_72 := Lib.hid h_r1
     have g3_72 := Lib.hid h_g3
     have g4_72 := Lib.hid h_g4
     have rx_72 := Lib.hid h_rx
     have g6_72 := Lib.hid h_g6
     have RB_72 := Lib.hid h_RB
     clear h0 h_r1 h_g3 h_g4 h_rx h_g6 h_RB HI_46 g1_46 r1_46 g3_46 g4_46 g5_46 rx_46 ry_46
     skip
     go_wp2_with (first | ((with_reducible refine Who.wpList_loadC 27 (.tmp 3) rfl (g3) 0 ((Fc.stateC (ex1 v1 none 0 r1 1 lL))) ?_); refine And.intro ⟨by rfl, by rfl, ⟨_, Tryz.underlying27, rfl⟩, info_state⟩ (And.intro (Who.has_range g3_72.out) ?_); (try simp only [Act.put, List.setIfInBounds_toArray, List.set_cons_zero, List.set_cons_succ])) | ((with_reducible refine Who.wpList_loadC 27 (.tmp 4) rfl (g4) 0 ((Fc.stateC (ex1 v2 none 0 rx 1 lX))) ?_); refine And.intro ⟨by rfl, by rfl, ⟨_, Tryz.underlying27, rfl⟩, info_state⟩ (And.intro (Who.has_range g4_72.out) ?_); (try simp only [Act.put, List.setIfInBounds_toArray, List.set_cons_zero, List.set_cons_succ])) | fail)
     refine (states_any (ex1 v1 none 0 r1 1 lL) (ex1 v2 none 0 rx 1 lX) _ (ex1_in r1_72.out) (ex1_in rx_72.out) (ex1_lim _ _ _ _ _ _) (ex1_lim _ _ _ _ _ _) (by decide)).mono ?_
     rintro e W8 ⟨s3, rfl, hp, ho, hb⟩
     obtain ⟨Ad1, cd1, rd, cd2, rfl, _, _⟩ := own_shape (hp.trans join_lx) ho
     have ho73 := Lib.hid (show RowAt W8 rd (dC xB) from have q := row_dead (show OwnK W8 _ 51 25 Fc.linkC (.slice (some ⟨rd, 0, none⟩) 1 cd2) [opL lL lX] from ho.links); ⟨q.1, q.2⟩)
     clear hp ho
     have HI_74 := Lib.hid (HI_72.out.trans (hb.mono HI_72.out.size))
     have r1_74 := Lib.hid (r1_72.out.below hb)
     have g3_74 := Lib.hid (g3_72.out.below hb)
     have g4_74 := Lib.hid (g4_72.out.below hb)
     have rx_74 := Lib.hid (rx_72.out.below hb)
     have g6_74 := Lib.hid (g6_72.out.below hb)
     have RB_74 := Lib.hid (RB_72.out.below hb)
     have HOD_74 := Lib.hid ho73.out
     clear hb ho73 HI_72 r1_72 g3_72 g4_72 rx_72 g6_72 RB_72
     have hbn := (Below.refl W8.heap.size W8).alloc (Nat.le_refl _) (.cells (sC Ad1 cd1 rd cd2) 27)
     have HI_75 := Lib.hid (HI_74.out.trans (hbn.mono HI_74.out.size))
     have r1_75 := Lib.hid (r1_74.out.below hbn)
     have g3_75 := Lib.hid (g3_74.out.below hbn)
     have g4_75 := Lib.hid (g4_74.out.below hbn)
     have rx_75 := Lib.hid (rx_74.out.below hbn)
     have g6_75 := Lib.hid (g6_74.out.below hbn)
     have RB_75 := Lib.hid (RB_74.out.below hbn)
     have HOD_75 := Lib.hid (HOD_74.out.below hbn)
     have HG7 := Lib.hid (Has.fresh W8 27 (sC Ad1 cd1 rd cd2))
     obtain ⟨g7, hg7⟩ : ∃ g7, g7 = W8.heap.size := ⟨_, rfl⟩
     have HG7E := Lib.hid hg7
     have c6 : (W8.alloc (.cells (sC Ad1 cd1 rd cd2) 27)).cell? ⟨g6, 9, none⟩ = some (.slice (some ⟨rb, 0, none⟩) 1 cb2) := g6_75.out.at_ 9
     have rB := Lib.hid RB_75.out
     clear hbn hg7 HI_74 r1_74 g3_74 g4_74 rx_74 g6_74 RB_74 HOD_74
     go_wp2_with (first | ((with_reducible refine Who.wpList_newC 27 7 (.tmp 41) rfl rfl rfl (zeroS) ((sC Ad1 cd1 rd cd2)) ?_); refine And.intro ⟨rfl, rfl, rfl, allocS, by rfl, by rfl, info_state, rfl, state_one (ex1 (joinV v1 v2) Ad1 cd1 rd cd2 (opL lL lX))⟩ ?_; (try simp only [Act.put, List.setIfInBounds_toArray, List.set_cons_zero, List.set_cons_succ]); (try simp only [World.size_alloc])) | ((with_reducible refine Who.wpList_loadC 51 (.tmp 49) rfl (rb) 0 (Fc.linkC lB) ?_); refine And.intro ⟨by rfl, by rfl, ⟨_, Tryz.underlying51, rfl⟩, info_link⟩ (And.intro (rB.out.row) ?_); (try simp only [Act.put, List.setIfInBounds_toArray, List.set_cons_zero, List.set_cons_succ])) | fail)
     refine (alive_b _).mono ?_
     rintro e W9 ⟨rfl, hb⟩
     have HG7a := Lib.hid (HG7.out.below hb)
     clear c6 rB
     have HI_76 := Lib.hid (HI_75.out.trans (hb.mono HI_75.out.size))
     have r1_76 := Lib.hid (r1_75.out.below hb)
     have g3_76 := Lib.hid (g3_75.out.below hb)
     have g4_76 := Lib.hid (g4_75.out.below hb)
     have rx_76 := Lib.hid (rx_75.out.below hb)
     have g6_76 := Lib.hid (g6_75.out.below hb)
     have RB_76 := Lib.hid (RB_75.out.below hb)
     have HOD_76 := Lib.hid (HOD_75.out.below hb)
     clear hb HG7 HI_75 r1_75 g3_75 g4_75 rx_75 g6_75 RB_75 HOD_75
     rw [← HG7E.out] at HG7a
     rw [← HG7E.out]
     have c6 : W9.cell? ⟨g6, 9, none⟩ = some (.slice (some ⟨rb, 0, none⟩) 1 cb2) := g6_76.out.at_ 9
     have rB := Lib.hid RB_76.out
     have c8 : W9.cell? ⟨rb, 8, none⟩ = some (.string ⟨#[120]⟩) := row_name lb_name rB.out.row
     have rD := Lib.hid HOD_76.out
     have c7 : W9.cell? ⟨g7, 9, none⟩ = some (.slice (some ⟨rd, 0, none⟩) 1 cd2) := HG7a.out.at_ 9
     go_wp2_with (first | ((with_reducible refine Who.wpList_loadC 51 (.tmp 64) rfl (rd) 0 (dC xB) ?_); refine And.intro ⟨by rfl, by rfl, ⟨_, Tryz.underlying51, rfl⟩, info_link⟩ (And.intro (rD.out.row) ?_); (try simp only [Act.put, List.setIfInBounds_toArray, List.set_cons_zero, List.set_cons_succ])) | fail)
     refine (alive_d xB _).mono ?_
     rintro e W10 ⟨rfl, hb⟩
     have HG7b := Lib.hid (HG7a.out.below hb)
     clear c6 rB c8 rD c7
     have HI_77 := Lib.hid (HI_76.out.trans (hb.mono HI_76.out.size))
     have r1_77 := Lib.hid (r1_76.out.below hb)
     have g3_77 := Lib.hid (g3_76.out.below hb)
     have g4_77 := Lib.hid (g4_76.out.below hb)
     have rx_77 := Lib.hid (rx_76.out.below hb)
     have g6_77 := Lib.hid (g6_76.out.below hb)
     have RB_77 := Lib.hid (RB_76.out.below hb)
     have HOD_77 := Lib.hid (HOD_76.out.below hb)
     clear hb HG7a HI_76 r1_76 g3_76 g4_76 rx_76 g6_76 RB_76 HOD_76
     have rD := Lib.hid HOD_77.out
     have heqv := eqv_b
     go_wp2_with (first | ((with_reducible refine Who.wpList_loadC 23 (.tmp 70) rfl (g6) 0 (#[.int .i64 2, .int .i64 2, .int .i64 0, .int .i64 0, .int .i64 0, .int .i64 0, .int .i64 0, .int .i64 0]) ?_); refine And.intro ⟨by rfl, by rfl, ⟨_, Tryz.underlying23, rfl⟩, info_vec⟩ (And.intro (b_seen g6_77.out) ?_); (try simp only [Act.put, List.setIfInBounds_toArray, List.set_cons_zero, List.set_cons_succ])) | ((with_reducible refine Who.wpList_loadC 27 (.tmp 7) rfl (g7) 0 ((sC Ad1 cd1 rd cd2)) ?_); refine And.intro ⟨by rfl, by rfl, ⟨_, Tryz.underlying27, rfl⟩, info_state⟩ (And.intro (Who.has_range HG7b.out) ?_); (try simp only [Act.put, List.setIfInBounds_toArray, List.set_cons_zero, List.set_cons_succ])) | fail)
     refine (prune_ex xB Ad1 cd1 rd cd2 _ rD.out.row rD.out.bd).mono ?_
     rintro e W11 ⟨rfl, hb⟩
     have HF := Lib.hid (HI_77.out.trans (hb.mono HI_77.out.size))
     clear hb
     have hfe := field_e
     go_wp2
     go_ret
     exact ⟨rfl, HF.out⟩
end Go.Proofs.YtblogecapegbmaaGreat.Jn
