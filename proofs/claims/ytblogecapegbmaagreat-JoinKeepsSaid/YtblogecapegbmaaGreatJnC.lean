/- Join: how keys stand: in whatever world, with nothing but new blocks and draws behind it. -/
import Derived.Test.YtblogecapegbmaaGreatJnB
import Derived.Test.YtblogecapegbmaaGreatWho
import Derived.Test.YtblogecapegbmaaGreatReg
import Derived.Sort.Grow
import Derived.Deep.Draws
namespace Go.Proofs.YtblogecapegbmaaGreat.Jn
open Go.RowKit Go.Proofs.YtblogecapegbmaaGreat.Mem Go.Sort
open Go.Proofs.YtblogecapegbmaaGreat.Vc (lessB joinV stC vecC)
set_option linter.unusedVariables false set_option linter.unusedSimpArgs false

/-- Nothing but new blocks and draws. -/
def Grows (w w' : World) : Prop := Below w.heap.size w w' ∧ w.drawn ≤ w'.drawn
theorem Grows.refl (w : World) : Grows w w := ⟨Below.refl _ _, Nat.le_refl _⟩
theorem Grows.trans {a b c : World} (h : Grows a b) (k : Grows b c) : Grows a c := ⟨h.1.trans (k.1.mono h.1.size), Nat.le_trans h.2 k.2⟩
theorem Grows.alloc {a b : World} (h : Grows a b) (o : Obj) : Grows a (b.alloc o) := ⟨h.1.alloc h.1.size o, h.2⟩
theorem Grows.drew {a b : World} (h : Grows a b) : Grows a b.drew := ⟨h.1.drew, Nat.le_trans h.2 (Nat.le_succ _)⟩
theorem Grows.grown {a b : World} (h : Grows a b) : ∃ q os, b = grow (a.drewN q) os := by
 refine ⟨b.drawn - a.drawn, b.heap.extract a.heap.size b.heap.size, ?_⟩
 have e1 : b.heap = a.heap ++ b.heap.extract a.heap.size b.heap.size := by
  apply Array.ext_getElem?
  intro i
  by_cases hi : i < a.heap.size
  ·rw [Array.getElem?_append_left hi, h.1.block i hi]
  ·rw [Array.getElem?_append_right (by omega), Array.getElem?_extract]
   have := h.1.size
   by_cases hb : i < b.heap.size
   ·rw [if_pos (by omega)]
    congr 1
    omega
   ·rw [if_neg (by omega), Array.getElem?_eq_none (by omega)]
 have e2 : b.drawn = a.drawn + (b.drawn - a.drawn) := by have := h.2; omega
 obtain ⟨h1, h2⟩ := h
 cases a; cases b
 simp only [grow, World.drewN, World.mk.injEq] at *
 exact ⟨e1, h1.tape, e2, h1.os, h1.output⟩
theorem info_st : (Tryz.prog.info? 37).map (·.size) = some 2 := by kernel_rfl
theorem less_grew (a b c d : Int) (W : World) : Calls Tryz.prog 111 #[.agg (stC a b), .agg (stC c d)] W fun e W' => e = .returned (.bool (lessB a b c d)) ∧ Grows W W' := by
 have hb0 := Lib.hid (((Below.refl W.heap.size W).alloc (Nat.le_refl _) (.cells #[.int .i64 a, .int .i64 b] 37)).alloc (by simp) (.cells #[.int .i64 c, .int .i64 d] 37))
 unfold stC
 by_cases h1 : a < c
 ·have HB := Lib.hid (show lessB a b c d = true by simp [lessB, h1])
  go_enter Tryz.func111, Tryz.ntmps111
  go_wp2
  go_ret
  exact ⟨by rw [HB.out]; rfl, hb0.out, Nat.le_refl _⟩
 ·by_cases h2 : a = c
  ·subst h2
   by_cases h3 : b < d
   ·have HB := Lib.hid (show lessB a b a d = true by simp [lessB, h3])
    go_enter Tryz.func111, Tryz.ntmps111
    go_wp2
    go_ret
    exact ⟨by rw [HB.out]; rfl, hb0.out, Nat.le_refl _⟩
   ·have HB := Lib.hid (show lessB a b a d = false by simp [lessB, h3])
    go_enter Tryz.func111, Tryz.ntmps111
    go_wp2
    go_ret
    exact ⟨by rw [HB.out]; rfl, hb0.out, Nat.le_refl _⟩
  ·have h3 : (a == c) = false := by simp [h2]
   have HB := Lib.hid (show lessB a b c d = false by simp [lessB, h1, h2])
   go_enter Tryz.func111, Tryz.ntmps111
   go_wp2
   go_ret
   exact ⟨by rw [HB.out]; rfl, hb0.out, Nat.le_refl _⟩
def ordS (x y : St) : Int := if stLt x y = true then -1 else if stLt y x = true then 1 else 0
set_option maxRecDepth 100000 in
set_option maxHeartbeats 1000000 in
theorem stamps_grew (a b c d : Int) (W : World) : Calls Tryz.prog 74 #[.agg (stC a b), .agg (stC c d)] W fun e W' => e = .returned (.int .i64 (ordS (a, b) (c, d))) ∧ Grows W W' := by
 have hxy := fun V => less_grew a b c d V
 have hyx := fun V => less_grew c d a b V
 unfold stC at hxy hyx ⊢
 have HG0 := Lib.hid (((Grows.refl W).alloc (.cells #[.int .i64 a, .int .i64 b] 37)).alloc (.cells #[.int .i64 c, .int .i64 d] 37))
 have HX0 := Lib.hid ((Has.fresh W 37 #[.int .i64 a, .int .i64 b]).past (.cells #[.int .i64 c, .int .i64 d] 37))
 have n1 : Has ((W.alloc (.cells #[.int .i64 a, .int .i64 b] 37)).alloc (.cells #[.int .i64 c, .int .i64 d] 37)) (W.heap.size + 1) 37 #[.int .i64 c, .int .i64 d] := by have q := Has.fresh (W.alloc (.cells #[.int .i64 a, .int .i64 b] 37)) 37 #[.int .i64 c, .int .i64 d]; rw [World.size_alloc] at q; exact q
 have HY0 := Lib.hid n1
 clear n1
 cases h1 : lessB a b c d with
 | true =>
  have HP := Lib.hid (show ordS (a, b) (c, d) = -1 by unfold ordS; rw [if_pos (by rw [stLt_less]; exact h1)])
  rw [h1] at hxy
  have HL := Lib.hid hxy
  clear hxy hyx h1
  go_enter Tryz.func74, Tryz.ntmps74
  go_wp2_with (first | ((with_reducible refine Who.wpList_loadC 37 (.tmp 2) rfl (W.heap.size) 0 (#[.int .i64 a, .int .i64 b]) ?_); refine And.intro ⟨by rfl, by rfl, ⟨_, Tryz.underlying37, rfl⟩, info_st⟩ (And.intro (Who.has_range HX0.out) ?_); (try simp only [Act.put, List.setIfInBounds_toArray, List.set_cons_zero, List.set_cons_succ])) | ((with_reducible refine Who.wpList_loadC 37 (.tmp 3) rfl ((W.heap.size + 1)) 0 (#[.int .i64 c, .int .i64 d]) ?_); refine And.intro ⟨by rfl, by rfl, ⟨_, Tryz.underlying37, rfl⟩, info_st⟩ (And.intro (Who.has_range HY0.out) ?_); (try simp only [Act.put, List.setIfInBounds_toArray, List.set_cons_zero, List.set_cons_succ])) | fail)
  refine (HL.out _).mono ?_
  rintro e w2 ⟨rfl, hg⟩
  have HG := Lib.hid (HG0.out.trans hg)
  clear hg
  go_wp2
  go_ret
  exact ⟨by rw [HP.out]; rfl, HG.out⟩
 | false =>
  rw [h1] at hxy
  have HL := Lib.hid hxy
  cases h2 : lessB c d a b with
  | true =>
   have HP := Lib.hid (show ordS (a, b) (c, d) = 1 by unfold ordS; rw [if_neg (by rw [stLt_less, h1]; simp), if_pos (by rw [stLt_less]; exact h2)])
   rw [h2] at hyx
   have HM := Lib.hid hyx
   clear hxy hyx h1 h2
   go_enter Tryz.func74, Tryz.ntmps74
   go_wp2_with (first | ((with_reducible refine Who.wpList_loadC 37 (.tmp 2) rfl (W.heap.size) 0 (#[.int .i64 a, .int .i64 b]) ?_); refine And.intro ⟨by rfl, by rfl, ⟨_, Tryz.underlying37, rfl⟩, info_st⟩ (And.intro (Who.has_range HX0.out) ?_); (try simp only [Act.put, List.setIfInBounds_toArray, List.set_cons_zero, List.set_cons_succ])) | ((with_reducible refine Who.wpList_loadC 37 (.tmp 3) rfl ((W.heap.size + 1)) 0 (#[.int .i64 c, .int .i64 d]) ?_); refine And.intro ⟨by rfl, by rfl, ⟨_, Tryz.underlying37, rfl⟩, info_st⟩ (And.intro (Who.has_range HY0.out) ?_); (try simp only [Act.put, List.setIfInBounds_toArray, List.set_cons_zero, List.set_cons_succ])) | fail)
   refine (HL.out _).mono ?_
   rintro e w2 ⟨rfl, hg⟩
   have HG := Lib.hid (HG0.out.trans hg)
   have HX1 := Lib.hid (HX0.out.below hg.1)
   have HY1 := Lib.hid (HY0.out.below hg.1)
   clear hg
   go_wp2_with (first | ((with_reducible refine Who.wpList_loadC 37 (.tmp 2) rfl (W.heap.size) 0 (#[.int .i64 a, .int .i64 b]) ?_); refine And.intro ⟨by rfl, by rfl, ⟨_, Tryz.underlying37, rfl⟩, info_st⟩ (And.intro (Who.has_range HX1.out) ?_); (try simp only [Act.put, List.setIfInBounds_toArray, List.set_cons_zero, List.set_cons_succ])) | ((with_reducible refine Who.wpList_loadC 37 (.tmp 3) rfl ((W.heap.size + 1)) 0 (#[.int .i64 c, .int .i64 d]) ?_); refine And.intro ⟨by rfl, by rfl, ⟨_, Tryz.underlying37, rfl⟩, info_st⟩ (And.intro (Who.has_range HY1.out) ?_); (try simp only [Act.put, List.setIfInBounds_toArray, List.set_cons_zero, List.set_cons_succ])) | fail)
   refine (HM.out _).mono ?_
   rintro e w3 ⟨rfl, hg⟩
   have HG2 := Lib.hid (HG.out.trans hg)
   clear hg
   go_wp2
   go_ret
   exact ⟨by rw [HP.out]; rfl, HG2.out⟩
  | false =>
   have HP := Lib.hid (show ordS (a, b) (c, d) = 0 by unfold ordS; rw [if_neg (by rw [stLt_less, h1]; simp), if_neg (by rw [stLt_less, h2]; simp)])
   rw [h2] at hyx
   have HM := Lib.hid hyx
   clear hxy hyx h1 h2
   go_enter Tryz.func74, Tryz.ntmps74
   go_wp2_with (first | ((with_reducible refine Who.wpList_loadC 37 (.tmp 2) rfl (W.heap.size) 0 (#[.int .i64 a, .int .i64 b]) ?_); refine And.intro ⟨by rfl, by rfl, ⟨_, Tryz.underlying37, rfl⟩, info_st⟩ (And.intro (Who.has_range HX0.out) ?_); (try simp only [Act.put, List.setIfInBounds_toArray, List.set_cons_zero, List.set_cons_succ])) | ((with_reducible refine Who.wpList_loadC 37 (.tmp 3) rfl ((W.heap.size + 1)) 0 (#[.int .i64 c, .int .i64 d]) ?_); refine And.intro ⟨by rfl, by rfl, ⟨_, Tryz.underlying37, rfl⟩, info_st⟩ (And.intro (Who.has_range HY0.out) ?_); (try simp only [Act.put, List.setIfInBounds_toArray, List.set_cons_zero, List.set_cons_succ])) | fail)
   refine (HL.out _).mono ?_
   rintro e w2 ⟨rfl, hg⟩
   have HG := Lib.hid (HG0.out.trans hg)
   have HX1 := Lib.hid (HX0.out.below hg.1)
   have HY1 := Lib.hid (HY0.out.below hg.1)
   clear hg
   go_wp2_with (first | ((with_reducible refine Who.wpList_loadC 37 (.tmp 2) rfl (W.heap.size) 0 (#[.int .i64 a, .int .i64 b]) ?_); refine And.intro ⟨by rfl, by rfl, ⟨_, Tryz.underlying37, rfl⟩, info_st⟩ (And.intro (Who.has_range HX1.out) ?_); (try simp only [Act.put, List.setIfInBounds_toArray, List.set_cons_zero, List.set_cons_succ])) | ((with_reducible refine Who.wpList_loadC 37 (.tmp 3) rfl ((W.heap.size + 1)) 0 (#[.int .i64 c, .int .i64 d]) ?_); refine And.intro ⟨by rfl, by rfl, ⟨_, Tryz.underlying37, rfl⟩, info_st⟩ (And.intro (Who.has_range HY1.out) ?_); (try simp only [Act.put, List.setIfInBounds_toArray, List.set_cons_zero, List.set_cons_succ])) | fail)
   refine (HM.out _).mono ?_
   rintro e w3 ⟨rfl, hg⟩
   have HG2 := Lib.hid (HG.out.trans hg)
   clear hg
   go_wp2
   go_ret
   exact ⟨by rw [HP.out]; rfl, HG2.out⟩
theorem nodeIds_rng {w : World} {g : Nat} {t : TypeId} {x : Fc.NodeC} (h : Has w g t (Fc.nodeC x)) : w.rangeAt g 0 (#[.int .i64 x.p.id.1, .int .i64 x.p.id.2] : Array Value).toList := fun j v hv => by
 have hj : j < 2 := by
  have := (List.getElem?_eq_some_iff.1 hv).1
  simpa using this
 rw [h.at_ (0 + j)]
 match j, hj with
 | 0, _ => exact hv
 | 1, _ => exact hv
set_option maxRecDepth 100000 in
set_option maxHeartbeats 1000000 in
theorem nodeIds_grew (x y : Fc.NodeC) (W : World) : Calls Tryz.prog 40 #[.agg (Fc.nodeC x), .agg (Fc.nodeC y)] W fun e W' => e = .returned (.int .i64 (ordS x.p.id y.p.id)) ∧ Grows W W' := by
 have hs := fun V => stamps_grew x.p.id.1 x.p.id.2 y.p.id.1 y.p.id.2 V
 unfold stC at hs
 have HS := Lib.hid hs
 clear hs
 have HG0 := Lib.hid (((Grows.refl W).alloc (.cells (Fc.nodeC x) 46)).alloc (.cells (Fc.nodeC y) 46))
 have HX0 := Lib.hid ((Has.fresh W 46 (Fc.nodeC x)).past (.cells (Fc.nodeC y) 46))
 have n1 : Has ((W.alloc (.cells (Fc.nodeC x) 46)).alloc (.cells (Fc.nodeC y) 46)) (W.heap.size + 1) 46 (Fc.nodeC y) := by have q := Has.fresh (W.alloc (.cells (Fc.nodeC x) 46)) 46 (Fc.nodeC y); rw [World.size_alloc] at q; exact q
 have HY0 := Lib.hid n1
 clear n1
 go_enter Tryz.func40, Tryz.ntmps40
 go_wp2_with (first | ((with_reducible refine Who.wpList_loadC 37 (.tmp 5) rfl (W.heap.size) 0 (#[.int .i64 x.p.id.1, .int .i64 x.p.id.2]) ?_); refine And.intro ⟨by rfl, by rfl, ⟨_, Tryz.underlying37, rfl⟩, info_st⟩ (And.intro (nodeIds_rng HX0.out) ?_); (try simp only [Act.put, List.setIfInBounds_toArray, List.set_cons_zero, List.set_cons_succ])) | ((with_reducible refine Who.wpList_loadC 37 (.tmp 7) rfl ((W.heap.size + 1)) 0 (#[.int .i64 y.p.id.1, .int .i64 y.p.id.2]) ?_); refine And.intro ⟨by rfl, by rfl, ⟨_, Tryz.underlying37, rfl⟩, info_st⟩ (And.intro (nodeIds_rng HY0.out) ?_); (try simp only [Act.put, List.setIfInBounds_toArray, List.set_cons_zero, List.set_cons_succ])) | fail)
 refine (HS.out _).mono ?_
 rintro e w2 ⟨rfl, hg⟩
 have HG := Lib.hid (HG0.out.trans hg)
 clear hg
 go_wp2
 go_ret
 exact ⟨rfl, HG.out⟩
theorem linkIds_rng {w : World} {g : Nat} {t : TypeId} {x : Fc.LinkP} (h : Has w g t (Fc.linkC x)) : w.rangeAt g 0 (#[.int .i64 x.id.1, .int .i64 x.id.2] : Array Value).toList := fun j v hv => by
 have hj : j < 2 := by
  have := (List.getElem?_eq_some_iff.1 hv).1
  simpa using this
 rw [h.at_ (0 + j)]
 match j, hj with
 | 0, _ => exact hv
 | 1, _ => exact hv
set_option maxRecDepth 100000 in
set_option maxHeartbeats 1000000 in
theorem linkIds_grew (x y : Fc.LinkP) (W : World) : Calls Tryz.prog 43 #[.agg (Fc.linkC x), .agg (Fc.linkC y)] W fun e W' => e = .returned (.int .i64 (ordS x.id y.id)) ∧ Grows W W' := by
 have hs := fun V => stamps_grew x.id.1 x.id.2 y.id.1 y.id.2 V
 unfold stC at hs
 have HS := Lib.hid hs
 clear hs
 have HG0 := Lib.hid (((Grows.refl W).alloc (.cells (Fc.linkC x) 51)).alloc (.cells (Fc.linkC y) 51))
 have HX0 := Lib.hid ((Has.fresh W 51 (Fc.linkC x)).past (.cells (Fc.linkC y) 51))
 have n1 : Has ((W.alloc (.cells (Fc.linkC x) 51)).alloc (.cells (Fc.linkC y) 51)) (W.heap.size + 1) 51 (Fc.linkC y) := by have q := Has.fresh (W.alloc (.cells (Fc.linkC x) 51)) 51 (Fc.linkC y); rw [World.size_alloc] at q; exact q
 have HY0 := Lib.hid n1
 clear n1
 go_enter Tryz.func43, Tryz.ntmps43
 go_wp2_with (first | ((with_reducible refine Who.wpList_loadC 37 (.tmp 5) rfl (W.heap.size) 0 (#[.int .i64 x.id.1, .int .i64 x.id.2]) ?_); refine And.intro ⟨by rfl, by rfl, ⟨_, Tryz.underlying37, rfl⟩, info_st⟩ (And.intro (linkIds_rng HX0.out) ?_); (try simp only [Act.put, List.setIfInBounds_toArray, List.set_cons_zero, List.set_cons_succ])) | ((with_reducible refine Who.wpList_loadC 37 (.tmp 7) rfl ((W.heap.size + 1)) 0 (#[.int .i64 y.id.1, .int .i64 y.id.2]) ?_); refine And.intro ⟨by rfl, by rfl, ⟨_, Tryz.underlying37, rfl⟩, info_st⟩ (And.intro (linkIds_rng HY0.out) ?_); (try simp only [Act.put, List.setIfInBounds_toArray, List.set_cons_zero, List.set_cons_succ])) | fail)
 refine (HS.out _).mono ?_
 rintro e w2 ⟨rfl, hg⟩
 have HG := Lib.hid (HG0.out.trans hg)
 clear hg
 go_wp2
 go_ret
 exact ⟨rfl, HG.out⟩
def cmpI (a b : Int) : Int := if intLt a b = true then -1 else if intLt b a = true then 1 else 0
theorem cmpI_any (a b : Int) (W : World) : Calls Tryz.prog 114 #[.int .i64 a, .int .i64 b] W fun e W' => e = .returned (.int .i64 (cmpI a b)) ∧ W' = W := by
 cases h1 : intLt a b with
 | true =>
  have HP := Lib.hid (show cmpI a b = -1 by unfold cmpI; rw [if_pos h1])
  have q1 : a < b := by simpa [intLt] using h1
  clear h1
  go_enter Tryz.func114, Tryz.ntmps114
  go_wp2
  go_ret
  exact ⟨by rw [HP.out]; rfl, rfl⟩
 | false =>
  cases h2 : intLt b a with
  | true =>
   have HP := Lib.hid (show cmpI a b = 1 by unfold cmpI; rw [h1, h2]; rfl)
   have q1 : ¬ a < b := by simpa [intLt] using h1
   have q2 : b < a := by simpa [intLt] using h2
   clear h1 h2
   go_enter Tryz.func114, Tryz.ntmps114
   go_wp2
   go_ret
   exact ⟨by rw [HP.out]; rfl, rfl⟩
  | false =>
   have HP := Lib.hid (show cmpI a b = 0 by unfold cmpI; rw [h1, h2]; rfl)
   have q1 : ¬ a < b := by simpa [intLt] using h1
   have q2 : ¬ b < a := by simpa [intLt] using h2
   clear h1 h2
   go_enter Tryz.func114, Tryz.ntmps114
   go_wp2
   go_ret
   exact ⟨by rw [HP.out]; rfl, rfl⟩
def cmpS (a b : ByteArray) : Int := if strLt a b = true then -1 else if strLt b a = true then 1 else 0
theorem cmpS_any (a b : ByteArray) (W : World) : Calls Tryz.prog 120 #[.string a, .string b] W fun e W' => e = .returned (.int .i64 (cmpS a b)) ∧ W' = W := by
 cases h1 : strLt a b with
 | true =>
  have HP := Lib.hid (show cmpS a b = -1 by unfold cmpS; rw [if_pos h1])
  have q1 : Op.bytesLess a.toList b.toList = true := h1
  clear h1
  go_enter Tryz.func120, Tryz.ntmps120
  go_wp2
  go_ret
  exact ⟨by rw [HP.out]; rfl, rfl⟩
 | false =>
  cases h2 : strLt b a with
  | true =>
   have HP := Lib.hid (show cmpS a b = 1 by unfold cmpS; rw [h1, h2]; rfl)
   have q1 : Op.bytesLess a.toList b.toList = false := h1
   have q3 : (a.toList == b.toList) = false := by
    refine beq_eq_false_iff_ne.2 fun e => ?_
    have := h2
    unfold strLt at this
    rw [e, bytes_irr] at this
    cases this
   clear h1 h2
   go_enter Tryz.func120, Tryz.ntmps120
   go_wp2
   go_ret
   exact ⟨by rw [HP.out]; rfl, rfl⟩
  | false =>
   have HP := Lib.hid (show cmpS a b = 0 by unfold cmpS; rw [h1, h2]; rfl)
   have q1 : Op.bytesLess a.toList b.toList = false := h1
   have q3 : (a.toList == b.toList) = true := beq_iff_eq.2 (bytes_tot _ _ h1 h2)
   clear h1 h2
   go_enter Tryz.func120, Tryz.ntmps120
   go_wp2
   go_ret
   exact ⟨by rw [HP.out]; rfl, rfl⟩
def cmpU (a b : Nat) : Int := if natLt a b = true then -1 else if natLt b a = true then 1 else 0
theorem cmpU_any (a b : Nat) (W : World) : Calls Tryz.prog 115 #[.int .u64 (a : Int), .int .u64 (b : Int)] W fun e W' => e = .returned (.int .i64 (cmpU a b)) ∧ W' = W := by
 cases h1 : natLt a b with
 | true =>
  have HP := Lib.hid (show cmpU a b = -1 by unfold cmpU; rw [if_pos h1])
  have q0 : a < b := by simpa [natLt] using h1
  have q1 : (a : Int) < b := by omega
  clear q0
  clear h1
  go_enter Tryz.func115, Tryz.ntmps115
  go_wp2
  go_ret
  exact ⟨by rw [HP.out]; rfl, rfl⟩
 | false =>
  cases h2 : natLt b a with
  | true =>
   have HP := Lib.hid (show cmpU a b = 1 by unfold cmpU; rw [h1, h2]; rfl)
   have q0 : ¬ a < b := by simpa [natLt] using h1
   have q3 : b < a := by simpa [natLt] using h2
   have q1 : ¬ (a : Int) < b := by omega
   have q2 : (b : Int) < a := by omega
   clear q0 q3
   clear h1 h2
   go_enter Tryz.func115, Tryz.ntmps115
   go_wp2
   go_ret
   exact ⟨by rw [HP.out]; rfl, rfl⟩
  | false =>
   have HP := Lib.hid (show cmpU a b = 0 by unfold cmpU; rw [h1, h2]; rfl)
   have q0 : ¬ a < b := by simpa [natLt] using h1
   have q3 : ¬ b < a := by simpa [natLt] using h2
   have q1 : ¬ (a : Int) < b := by omega
   have q2 : ¬ (b : Int) < a := by omega
   clear q0 q3
   clear h1 h2
   go_enter Tryz.func115, Tryz.ntmps115
   go_wp2
   go_ret
   exact ⟨by rw [HP.out]; rfl, rfl⟩
set_option maxRecDepth 100000 in
set_option maxHeartbeats 1000000 in
theorem indices_grew (x y : Fc.PieceP) (W : World) : Calls Tryz.prog 80 #[.agg (Fc.pieceC x), .agg (Fc.pieceC y)] W fun e W' => e = .returned (.int .i64 (cmpI x.i y.i)) ∧ Grows W W' := by
 have HS := Lib.hid (fun V => cmpI_any x.i y.i V)
 have HG0 := Lib.hid (((Grows.refl W).alloc (.cells (Fc.pieceC x) 74)).alloc (.cells (Fc.pieceC y) 74))
 have HX0 := Lib.hid ((Has.fresh W 74 (Fc.pieceC x)).past (.cells (Fc.pieceC y) 74))
 have n1 : Has ((W.alloc (.cells (Fc.pieceC x) 74)).alloc (.cells (Fc.pieceC y) 74)) (W.heap.size + 1) 74 (Fc.pieceC y) := by have q := Has.fresh (W.alloc (.cells (Fc.pieceC x) 74)) 74 (Fc.pieceC y); rw [World.size_alloc] at q; exact q
 have HY0 := Lib.hid n1
 clear n1
 have c1 := HX0.out.at_ 0
 have c2 := HY0.out.at_ 0
 replace c1 : _ = some (Value.int .i64 x.i) := c1
 replace c2 : _ = some (Value.int .i64 y.i) := c2
 go_enter Tryz.func80, Tryz.ntmps80
 go_wp2_with fail
 refine (HS.out _).mono ?_
 rintro e w2 ⟨rfl, rfl⟩
 go_wp2
 go_ret
 exact ⟨rfl, HG0.out⟩
set_option maxRecDepth 100000 in
set_option maxHeartbeats 1000000 in
theorem xattrNames_grew (x y : Fc.XattrP) (W : World) : Calls Tryz.prog 85 #[.agg (Fc.xattrC x), .agg (Fc.xattrC y)] W fun e W' => e = .returned (.int .i64 (cmpS x.name y.name)) ∧ Grows W W' := by
 have HS := Lib.hid (fun V => cmpS_any x.name y.name V)
 have HG0 := Lib.hid (((Grows.refl W).alloc (.cells (Fc.xattrC x) 77)).alloc (.cells (Fc.xattrC y) 77))
 have HX0 := Lib.hid ((Has.fresh W 77 (Fc.xattrC x)).past (.cells (Fc.xattrC y) 77))
 have n1 : Has ((W.alloc (.cells (Fc.xattrC x) 77)).alloc (.cells (Fc.xattrC y) 77)) (W.heap.size + 1) 77 (Fc.xattrC y) := by have q := Has.fresh (W.alloc (.cells (Fc.xattrC x) 77)) 77 (Fc.xattrC y); rw [World.size_alloc] at q; exact q
 have HY0 := Lib.hid n1
 clear n1
 have c1 := HX0.out.at_ 0
 have c2 := HY0.out.at_ 0
 replace c1 : _ = some (Value.string x.name) := c1
 replace c2 : _ = some (Value.string y.name) := c2
 go_enter Tryz.func85, Tryz.ntmps85
 go_wp2_with fail
 refine (HS.out _).mono ?_
 rintro e w2 ⟨rfl, rfl⟩
 go_wp2
 go_ret
 exact ⟨rfl, HG0.out⟩
end Go.Proofs.YtblogecapegbmaaGreat.Jn
