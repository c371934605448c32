/- Join: the document's Attr, Size, Piece and Xattr: the one of two that stands last. -/
import Derived.Test.YtblogecapegbmaaGreatJoG
namespace Go.Proofs.YtblogecapegbmaaGreat.Jn
open Go.RowKit Go.Proofs.YtblogecapegbmaaGreat.Mem
set_option linter.unusedVariables false set_option linter.unusedSimpArgs false

/-- Two boxes, and what is returned. -/
structure TwoI (w wr : World) (T : TypeId) (A B Z : Array Value) : Prop where
 below : Below w.heap.size w wr
 ha : Has wr w.heap.size T A
 hb : Has wr (w.heap.size + 1) T B
 hz : Has wr (w.heap.size + 1 + 1) T Z
theorem TwoI.start (w : World) (T : TypeId) (A B Z : Array Value) : TwoI w (((w.alloc (.cells A T)).alloc (.cells B T)).alloc (.cells Z T)) T A B Z := by
 have h3 := Has.fresh (w.alloc (.cells A T)) T B
 have h4 := Has.fresh ((w.alloc (.cells A T)).alloc (.cells B T)) T Z
 rw [World.size_alloc] at h3
 rw [World.size_alloc, World.size_alloc] at h4
 exact ⟨(((Below.refl w.heap.size w).alloc (Nat.le_refl _) _).alloc (by simp) _).alloc (by simp; omega) _, ((Has.fresh w T A).past _).past _, h3.past _, h4⟩
theorem TwoI.low {w wr w2 : World} {T : TypeId} {A B Z : Array Value} (h : TwoI w wr T A B Z) (hb : Below wr.heap.size wr w2) : TwoI w w2 T A B Z := ⟨h.below.trans (hb.mono h.below.size), h.ha.below hb, h.hb.below hb, h.hz.below hb⟩
theorem TwoI.fin {w wr w2 : World} {T : TypeId} {A B Z : Array Value} (h : TwoI w wr T A B Z) (hc : Chg (· = w.heap.size + 1 + 1) wr w2) : Below w.heap.size w w2 := below_step h.below hc (by omega)
theorem ltA_eq (a b : St × (Int × Nat)) : ltA a b = (Vc.lessB a.1.1 a.1.2 b.1.1 b.1.2 || (decide (a.1 = b.1) && (decide (a.2.1 < b.2.1) || (decide (a.2.1 = b.2.1) && decide (a.2.2 < b.2.2))))) := rfl
theorem ltZ_eq (a b : St × Int) : ltZ a b = (Vc.lessB a.1.1 a.1.2 b.1.1 b.1.2 || (decide (a.1 = b.1) && decide (a.2 < b.2))) := rfl
theorem ltP_eq (a b : Fc.PieceP) : ltP (regP a) (regP b) = (Vc.lessB a.at_.1 a.at_.2 b.at_.1 b.at_.2 || (decide (a.at_ = b.at_) && Op.bytesLess a.data.toList b.data.toList)) := rfl
theorem ltX_eq (a b : Fc.XattrP) : ltX (regX a) (regX b) = (Vc.lessB a.at_.1 a.at_.2 b.at_.1 b.at_.2 || (decide (a.at_ = b.at_) && ((!a.gone && b.gone) || (decide (a.gone = b.gone) && Op.bytesLess a.val.toList b.val.toList)))) := rfl
set_option maxRecDepth 100000 in
set_option maxHeartbeats 16000000 in
theorem rattr_one (a b : St × (Int × Nat)) (w : World) : Calls Tryz.prog 129 #[.agg (attrC a), .agg (attrC b)] w fun e w' => e = .returned (.agg (attrC (if ltA a b = true then b else a))) ∧ Below w.heap.size w w' := by
 obtain ⟨R, hR⟩ : ∃ R, (if ltA a b = true then b else a) = R := ⟨_, rfl⟩
 rw [hR]
 have HR := Lib.hid hR
 clear hR
 have H0 := Lib.hid (TwoI.start w 40 (attrC a) (attrC b) zeroA)
 go_enter Tryz.func129, Tryz.ntmps129
 go_wp2_with (first | ((with_reducible refine Who.wpList_alloc 40 4 rfl rfl rfl (zeroA) allocA ?_); (try simp only [World.size_alloc])) | ((with_reducible refine Who.wpList_loadC 37 (.tmp 5) rfl (w.heap.size) 0 (#[.int .i64 a.1.1, .int .i64 a.1.2]) ?_); refine And.intro ⟨by rfl, by rfl, ⟨_, Tryz.underlying37, rfl⟩, info_st⟩ (And.intro (attrs_rng0 H0.out.ha) ?_)) | ((with_reducible refine Who.wpList_loadC 37 (.tmp 7) rfl (w.heap.size + 1) 0 (#[.int .i64 b.1.1, .int .i64 b.1.2]) ?_); refine And.intro ⟨by rfl, by rfl, ⟨_, Tryz.underlying37, rfl⟩, info_st⟩ (And.intro (attrs_rng0 H0.out.hb) ?_)) | fail)
 refine (Vc.rless_any a.1.1 a.1.2 b.1.1 b.1.2 _).mono ?_
 rintro e w1 ⟨rfl, hb⟩
 have H1 := Lib.hid (H0.out.low hb)
 clear hb H0
 cases hL1 : Vc.lessB a.1.1 a.1.2 b.1.1 b.1.2 with
 | true =>
  have HL1 := Lib.hid hL1
  clear hL1
  have HOP := Lib.hid (show ltA a b = true by rw [ltA_eq, HL1.out]; simp)
  go_wp2_with (first | ((with_reducible refine Who.wpList_loadC 40 (.tmp 3) rfl (w.heap.size + 1) 0 (attrC b) ?_); refine And.intro ⟨by rfl, by rfl, ⟨_, Tryz.underlying40, rfl⟩, infoA⟩ (And.intro (Who.has_range H1.out.hb) ?_)) | ((with_reducible refine wpList_storeG 40 (.tmp 4) (.tmp 38) rfl (w.heap.size + 1 + 1) (zeroA) (attrC b) ?_); refine And.intro ⟨rfl, by rfl, by rfl, infoA, oneA _, rfl, H1.out.hz⟩ ?_; intro W20 HX20 HC20) | fail)
  have HBF := Lib.hid (H1.out.fin HC20.out)
  refine bodyPost_ret (v := .agg (attrC b)) (Who.results_cell (p := 4) (t := 40) rfl _ _ (w.heap.size + 1 + 1) 0 (attrC b) _ (by rfl) (Who.has_range HX20.out) Tryz.underlying40 rfl infoA) rfl ?_
  exact ⟨by rw [← HR.out, if_pos HOP.out], HBF.out⟩
 | false =>
  have HL1 := Lib.hid hL1
  clear hL1
  by_cases q1 : a.1 = b.1
  ·have heq : ∀ w : World, (Op.equalIn 10000 37 (.agg #[.int .i64 a.1.1, .int .i64 a.1.2]) (.agg #[.int .i64 b.1.1, .int .i64 b.1.2])).run Tryz.prog w = .ok true w := fun w => by have h := Vc.eqs a.1.1 a.1.2 b.1.1 b.1.2 w; rw [show (a.1.1 == b.1.1 && a.1.2 == b.1.2) = true by simp [q1]] at h; exact h
   have HQ1 := Lib.hid q1
   clear q1
   have c0a : w1.cell? ⟨w.heap.size, 2, none⟩ = some (.int .i64 a.2.1) := H1.out.ha.at_ 2
   have c0b : w1.cell? ⟨w.heap.size + 1, 2, none⟩ = some (.int .i64 b.2.1) := H1.out.hb.at_ 2
   have c1a : w1.cell? ⟨w.heap.size, 3, none⟩ = some (.int .u64 (a.2.2 : Nat)) := H1.out.ha.at_ 3
   have c1b : w1.cell? ⟨w.heap.size + 1, 3, none⟩ = some (.int .u64 (b.2.2 : Nat)) := H1.out.hb.at_ 3
   by_cases q2 : a.2.1 < b.2.1
   ·have hd : decide (a.2.1 < b.2.1) = true := decide_eq_true q2
    have HOP := Lib.hid (show ltA a b = true by rw [ltA_eq, HL1.out, decide_eq_true HQ1.out, hd]; simp)
    clear q2
    go_wp2_with (first | ((with_reducible refine Who.wpList_loadC 37 (.tmp 11) rfl (w.heap.size) 0 (#[.int .i64 a.1.1, .int .i64 a.1.2]) ?_); refine And.intro ⟨by rfl, by rfl, ⟨_, Tryz.underlying37, rfl⟩, info_st⟩ (And.intro (attrs_rng0 H1.out.ha) ?_)) | ((with_reducible refine Who.wpList_loadC 37 (.tmp 13) rfl (w.heap.size + 1) 0 (#[.int .i64 b.1.1, .int .i64 b.1.2]) ?_); refine And.intro ⟨by rfl, by rfl, ⟨_, Tryz.underlying37, rfl⟩, info_st⟩ (And.intro (attrs_rng0 H1.out.hb) ?_)) | ((with_reducible refine Who.wpList_loadC 40 (.tmp 3) rfl (w.heap.size + 1) 0 (attrC b) ?_); refine And.intro ⟨by rfl, by rfl, ⟨_, Tryz.underlying40, rfl⟩, infoA⟩ (And.intro (Who.has_range H1.out.hb) ?_)) | ((with_reducible refine wpList_storeG 40 (.tmp 4) (.tmp 38) rfl (w.heap.size + 1 + 1) (zeroA) (attrC b) ?_); refine And.intro ⟨rfl, by rfl, by rfl, infoA, oneA _, rfl, H1.out.hz⟩ ?_; intro W21 HX21 HC21) | fail)
    have HBF := Lib.hid (H1.out.fin HC21.out)
    refine bodyPost_ret (v := .agg (attrC b)) (Who.results_cell (p := 4) (t := 40) rfl _ _ (w.heap.size + 1 + 1) 0 (attrC b) _ (by rfl) (Who.has_range HX21.out) Tryz.underlying40 rfl infoA) rfl ?_
    exact ⟨by rw [← HR.out, if_pos HOP.out], HBF.out⟩
   ·have hd : decide (a.2.1 < b.2.1) = false := decide_eq_false q2
    clear q2
    by_cases q3 : a.2.1 = b.2.1
    ·have he : decide (a.2.1 = b.2.1) = true := decide_eq_true q3
     have he2 : (a.2.1 == b.2.1) = true := by simp [q3]
     clear q3
     by_cases q4 : a.2.2 < b.2.2
     ·have hf : decide ((a.2.2 : Int) < (b.2.2 : Int)) = true := by simpa using q4
      have hg : decide (a.2.2 < b.2.2) = true := decide_eq_true q4
      have HOP := Lib.hid (show ltA a b = true by rw [ltA_eq, HL1.out, decide_eq_true HQ1.out, hd, he, hg]; simp)
      clear q4
      go_wp2_with (first | ((with_reducible refine Who.wpList_loadC 37 (.tmp 11) rfl (w.heap.size) 0 (#[.int .i64 a.1.1, .int .i64 a.1.2]) ?_); refine And.intro ⟨by rfl, by rfl, ⟨_, Tryz.underlying37, rfl⟩, info_st⟩ (And.intro (attrs_rng0 H1.out.ha) ?_)) | ((with_reducible refine Who.wpList_loadC 37 (.tmp 13) rfl (w.heap.size + 1) 0 (#[.int .i64 b.1.1, .int .i64 b.1.2]) ?_); refine And.intro ⟨by rfl, by rfl, ⟨_, Tryz.underlying37, rfl⟩, info_st⟩ (And.intro (attrs_rng0 H1.out.hb) ?_)) | ((with_reducible refine Who.wpList_loadC 40 (.tmp 3) rfl (w.heap.size + 1) 0 (attrC b) ?_); refine And.intro ⟨by rfl, by rfl, ⟨_, Tryz.underlying40, rfl⟩, infoA⟩ (And.intro (Who.has_range H1.out.hb) ?_)) | ((with_reducible refine wpList_storeG 40 (.tmp 4) (.tmp 38) rfl (w.heap.size + 1 + 1) (zeroA) (attrC b) ?_); refine And.intro ⟨rfl, by rfl, by rfl, infoA, oneA _, rfl, H1.out.hz⟩ ?_; intro W22 HX22 HC22) | fail)
      have HBF := Lib.hid (H1.out.fin HC22.out)
      refine bodyPost_ret (v := .agg (attrC b)) (Who.results_cell (p := 4) (t := 40) rfl _ _ (w.heap.size + 1 + 1) 0 (attrC b) _ (by rfl) (Who.has_range HX22.out) Tryz.underlying40 rfl infoA) rfl ?_
      exact ⟨by rw [← HR.out, if_pos HOP.out], HBF.out⟩
     ·have hf : decide ((a.2.2 : Int) < (b.2.2 : Int)) = false := by simpa using q4
      have hg : decide (a.2.2 < b.2.2) = false := decide_eq_false q4
      have HOP := Lib.hid (show ltA a b = false by rw [ltA_eq, HL1.out, decide_eq_true HQ1.out, hd, he, hg]; simp)
      clear q4
      go_wp2_with (first | ((with_reducible refine Who.wpList_loadC 37 (.tmp 11) rfl (w.heap.size) 0 (#[.int .i64 a.1.1, .int .i64 a.1.2]) ?_); refine And.intro ⟨by rfl, by rfl, ⟨_, Tryz.underlying37, rfl⟩, info_st⟩ (And.intro (attrs_rng0 H1.out.ha) ?_)) | ((with_reducible refine Who.wpList_loadC 37 (.tmp 13) rfl (w.heap.size + 1) 0 (#[.int .i64 b.1.1, .int .i64 b.1.2]) ?_); refine And.intro ⟨by rfl, by rfl, ⟨_, Tryz.underlying37, rfl⟩, info_st⟩ (And.intro (attrs_rng0 H1.out.hb) ?_)) | ((with_reducible refine Who.wpList_loadC 40 (.tmp 2) rfl (w.heap.size) 0 (attrC a) ?_); refine And.intro ⟨by rfl, by rfl, ⟨_, Tryz.underlying40, rfl⟩, infoA⟩ (And.intro (Who.has_range H1.out.ha) ?_)) | ((with_reducible refine wpList_storeG 40 (.tmp 4) (.tmp 39) rfl (w.heap.size + 1 + 1) (zeroA) (attrC a) ?_); refine And.intro ⟨rfl, by rfl, by rfl, infoA, oneA _, rfl, H1.out.hz⟩ ?_; intro W23 HX23 HC23) | fail)
      have HBF := Lib.hid (H1.out.fin HC23.out)
      refine bodyPost_ret (v := .agg (attrC a)) (Who.results_cell (p := 4) (t := 40) rfl _ _ (w.heap.size + 1 + 1) 0 (attrC a) _ (by rfl) (Who.has_range HX23.out) Tryz.underlying40 rfl infoA) rfl ?_
      exact ⟨by rw [← HR.out, if_neg (show ¬ _ = true by rw [HOP.out]; simp)], HBF.out⟩
    ·have he : decide (a.2.1 = b.2.1) = false := decide_eq_false q3
     have he2 : (a.2.1 == b.2.1) = false := by simpa using q3
     have HOP := Lib.hid (show ltA a b = false by rw [ltA_eq, HL1.out, decide_eq_true HQ1.out, hd, he]; simp)
     clear q3
     go_wp2_with (first | ((with_reducible refine Who.wpList_loadC 37 (.tmp 11) rfl (w.heap.size) 0 (#[.int .i64 a.1.1, .int .i64 a.1.2]) ?_); refine And.intro ⟨by rfl, by rfl, ⟨_, Tryz.underlying37, rfl⟩, info_st⟩ (And.intro (attrs_rng0 H1.out.ha) ?_)) | ((with_reducible refine Who.wpList_loadC 37 (.tmp 13) rfl (w.heap.size + 1) 0 (#[.int .i64 b.1.1, .int .i64 b.1.2]) ?_); refine And.intro ⟨by rfl, by rfl, ⟨_, Tryz.underlying37, rfl⟩, info_st⟩ (And.intro (attrs_rng0 H1.out.hb) ?_)) | ((with_reducible refine Who.wpList_loadC 40 (.tmp 2) rfl (w.heap.size) 0 (attrC a) ?_); refine And.intro ⟨by rfl, by rfl, ⟨_, Tryz.underlying40, rfl⟩, infoA⟩ (And.intro (Who.has_range H1.out.ha) ?_)) | ((with_reducible refine wpList_storeG 40 (.tmp 4) (.tmp 39) rfl (w.heap.size + 1 + 1) (zeroA) (attrC a) ?_); refine And.intro ⟨rfl, by rfl, by rfl, infoA, oneA _, rfl, H1.out.hz⟩ ?_; intro W24 HX24 HC24) | fail)
     have HBF := Lib.hid (H1.out.fin HC24.out)
     refine bodyPost_ret (v := .agg (attrC a)) (Who.results_cell (p := 4) (t := 40) rfl _ _ (w.heap.size + 1 + 1) 0 (attrC a) _ (by rfl) (Who.has_range HX24.out) Tryz.underlying40 rfl infoA) rfl ?_
     exact ⟨by rw [← HR.out, if_neg (show ¬ _ = true by rw [HOP.out]; simp)], HBF.out⟩
  ·have heq : ∀ w : World, (Op.equalIn 10000 37 (.agg #[.int .i64 a.1.1, .int .i64 a.1.2]) (.agg #[.int .i64 b.1.1, .int .i64 b.1.2])).run Tryz.prog w = .ok false w := fun w => by have h := Vc.eqs a.1.1 a.1.2 b.1.1 b.1.2 w; rw [show (a.1.1 == b.1.1 && a.1.2 == b.1.2) = false by (cases hq : (a.1.1 == b.1.1 && a.1.2 == b.1.2) with | false => rfl | true => simp at hq; exact absurd (Prod.ext hq.1 hq.2) q1)] at h; exact h
   have HQN := Lib.hid q1
   clear q1
   have HOP := Lib.hid (show ltA a b = false by rw [ltA_eq, HL1.out, decide_eq_false HQN.out]; simp)
   go_wp2_with (first | ((with_reducible refine Who.wpList_loadC 37 (.tmp 11) rfl (w.heap.size) 0 (#[.int .i64 a.1.1, .int .i64 a.1.2]) ?_); refine And.intro ⟨by rfl, by rfl, ⟨_, Tryz.underlying37, rfl⟩, info_st⟩ (And.intro (attrs_rng0 H1.out.ha) ?_)) | ((with_reducible refine Who.wpList_loadC 37 (.tmp 13) rfl (w.heap.size + 1) 0 (#[.int .i64 b.1.1, .int .i64 b.1.2]) ?_); refine And.intro ⟨by rfl, by rfl, ⟨_, Tryz.underlying37, rfl⟩, info_st⟩ (And.intro (attrs_rng0 H1.out.hb) ?_)) | ((with_reducible refine Who.wpList_loadC 40 (.tmp 2) rfl (w.heap.size) 0 (attrC a) ?_); refine And.intro ⟨by rfl, by rfl, ⟨_, Tryz.underlying40, rfl⟩, infoA⟩ (And.intro (Who.has_range H1.out.ha) ?_)) | ((with_reducible refine wpList_storeG 40 (.tmp 4) (.tmp 39) rfl (w.heap.size + 1 + 1) (zeroA) (attrC a) ?_); refine And.intro ⟨rfl, by rfl, by rfl, infoA, oneA _, rfl, H1.out.hz⟩ ?_; intro W25 HX25 HC25) | fail)
   have HBF := Lib.hid (H1.out.fin HC25.out)
   refine bodyPost_ret (v := .agg (attrC a)) (Who.results_cell (p := 4) (t := 40) rfl _ _ (w.heap.size + 1 + 1) 0 (attrC a) _ (by rfl) (Who.has_range HX25.out) Tryz.underlying40 rfl infoA) rfl ?_
   exact ⟨by rw [← HR.out, if_neg (show ¬ _ = true by rw [HOP.out]; simp)], HBF.out⟩
set_option maxRecDepth 100000 in
set_option maxHeartbeats 16000000 in
theorem rsize_one (a b : St × Int) (w : World) : Calls Tryz.prog 130 #[.agg (sizeC a), .agg (sizeC b)] w fun e w' => e = .returned (.agg (sizeC (if ltZ a b = true then b else a))) ∧ Below w.heap.size w w' := by
 obtain ⟨R, hR⟩ : ∃ R, (if ltZ a b = true then b else a) = R := ⟨_, rfl⟩
 rw [hR]
 have HR := Lib.hid hR
 clear hR
 have H0 := Lib.hid (TwoI.start w 42 (sizeC a) (sizeC b) zeroZ)
 go_enter Tryz.func130, Tryz.ntmps130
 go_wp2_with (first | ((with_reducible refine Who.wpList_alloc 42 4 rfl rfl rfl (zeroZ) allocZ ?_); (try simp only [World.size_alloc])) | ((with_reducible refine Who.wpList_loadC 37 (.tmp 5) rfl (w.heap.size) 0 (#[.int .i64 a.1.1, .int .i64 a.1.2]) ?_); refine And.intro ⟨by rfl, by rfl, ⟨_, Tryz.underlying37, rfl⟩, info_st⟩ (And.intro (sizes_rng0 H0.out.ha) ?_)) | ((with_reducible refine Who.wpList_loadC 37 (.tmp 7) rfl (w.heap.size + 1) 0 (#[.int .i64 b.1.1, .int .i64 b.1.2]) ?_); refine And.intro ⟨by rfl, by rfl, ⟨_, Tryz.underlying37, rfl⟩, info_st⟩ (And.intro (sizes_rng0 H0.out.hb) ?_)) | fail)
 refine (Vc.rless_any a.1.1 a.1.2 b.1.1 b.1.2 _).mono ?_
 rintro e w1 ⟨rfl, hb⟩
 have H1 := Lib.hid (H0.out.low hb)
 clear hb H0
 cases hL1 : Vc.lessB a.1.1 a.1.2 b.1.1 b.1.2 with
 | true =>
  have HL1 := Lib.hid hL1
  clear hL1
  have HOP := Lib.hid (show ltZ a b = true by rw [ltZ_eq, HL1.out]; simp)
  go_wp2_with (first | ((with_reducible refine Who.wpList_loadC 42 (.tmp 3) rfl (w.heap.size + 1) 0 (sizeC b) ?_); refine And.intro ⟨by rfl, by rfl, ⟨_, Tryz.underlying42, rfl⟩, infoZ⟩ (And.intro (Who.has_range H1.out.hb) ?_)) | ((with_reducible refine wpList_storeG 42 (.tmp 4) (.tmp 24) rfl (w.heap.size + 1 + 1) (zeroZ) (sizeC b) ?_); refine And.intro ⟨rfl, by rfl, by rfl, infoZ, oneZ _, rfl, H1.out.hz⟩ ?_; intro W26 HX26 HC26) | fail)
  have HBF := Lib.hid (H1.out.fin HC26.out)
  refine bodyPost_ret (v := .agg (sizeC b)) (Who.results_cell (p := 4) (t := 42) rfl _ _ (w.heap.size + 1 + 1) 0 (sizeC b) _ (by rfl) (Who.has_range HX26.out) Tryz.underlying42 rfl infoZ) rfl ?_
  exact ⟨by rw [← HR.out, if_pos HOP.out], HBF.out⟩
 | false =>
  have HL1 := Lib.hid hL1
  clear hL1
  by_cases q1 : a.1 = b.1
  ·have heq : ∀ w : World, (Op.equalIn 10000 37 (.agg #[.int .i64 a.1.1, .int .i64 a.1.2]) (.agg #[.int .i64 b.1.1, .int .i64 b.1.2])).run Tryz.prog w = .ok true w := fun w => by have h := Vc.eqs a.1.1 a.1.2 b.1.1 b.1.2 w; rw [show (a.1.1 == b.1.1 && a.1.2 == b.1.2) = true by simp [q1]] at h; exact h
   have HQ1 := Lib.hid q1
   clear q1
   have c0a : w1.cell? ⟨w.heap.size, 2, none⟩ = some (.int .i64 a.2) := H1.out.ha.at_ 2
   have c0b : w1.cell? ⟨w.heap.size + 1, 2, none⟩ = some (.int .i64 b.2) := H1.out.hb.at_ 2
   by_cases q2 : a.2 < b.2
   ·have hd : decide (a.2 < b.2) = true := decide_eq_true q2
    have HOP := Lib.hid (show ltZ a b = true by rw [ltZ_eq, HL1.out, decide_eq_true HQ1.out, hd]; simp)
    clear q2
    go_wp2_with (first | ((with_reducible refine Who.wpList_loadC 37 (.tmp 11) rfl (w.heap.size) 0 (#[.int .i64 a.1.1, .int .i64 a.1.2]) ?_); refine And.intro ⟨by rfl, by rfl, ⟨_, Tryz.underlying37, rfl⟩, info_st⟩ (And.intro (sizes_rng0 H1.out.ha) ?_)) | ((with_reducible refine Who.wpList_loadC 37 (.tmp 13) rfl (w.heap.size + 1) 0 (#[.int .i64 b.1.1, .int .i64 b.1.2]) ?_); refine And.intro ⟨by rfl, by rfl, ⟨_, Tryz.underlying37, rfl⟩, info_st⟩ (And.intro (sizes_rng0 H1.out.hb) ?_)) | ((with_reducible refine Who.wpList_loadC 42 (.tmp 3) rfl (w.heap.size + 1) 0 (sizeC b) ?_); refine And.intro ⟨by rfl, by rfl, ⟨_, Tryz.underlying42, rfl⟩, infoZ⟩ (And.intro (Who.has_range H1.out.hb) ?_)) | ((with_reducible refine wpList_storeG 42 (.tmp 4) (.tmp 24) rfl (w.heap.size + 1 + 1) (zeroZ) (sizeC b) ?_); refine And.intro ⟨rfl, by rfl, by rfl, infoZ, oneZ _, rfl, H1.out.hz⟩ ?_; intro W27 HX27 HC27) | fail)
    have HBF := Lib.hid (H1.out.fin HC27.out)
    refine bodyPost_ret (v := .agg (sizeC b)) (Who.results_cell (p := 4) (t := 42) rfl _ _ (w.heap.size + 1 + 1) 0 (sizeC b) _ (by rfl) (Who.has_range HX27.out) Tryz.underlying42 rfl infoZ) rfl ?_
    exact ⟨by rw [← HR.out, if_pos HOP.out], HBF.out⟩
   ·have hd : decide (a.2 < b.2) = false := decide_eq_false q2
    have HOP := Lib.hid (show ltZ a b = false by rw [ltZ_eq, HL1.out, decide_eq_true HQ1.out, hd]; simp)
    clear q2
    go_wp2_with (first | ((with_reducible refine Who.wpList_loadC 37 (.tmp 11) rfl (w.heap.size) 0 (#[.int .i64 a.1.1, .int .i64 a.1.2]) ?_); refine And.intro ⟨by rfl, by rfl, ⟨_, Tryz.underlying37, rfl⟩, info_st⟩ (And.intro (sizes_rng0 H1.out.ha) ?_)) | ((with_reducible refine Who.wpList_loadC 37 (.tmp 13) rfl (w.heap.size + 1) 0 (#[.int .i64 b.1.1, .int .i64 b.1.2]) ?_); refine And.intro ⟨by rfl, by rfl, ⟨_, Tryz.underlying37, rfl⟩, info_st⟩ (And.intro (sizes_rng0 H1.out.hb) ?_)) | ((with_reducible refine Who.wpList_loadC 42 (.tmp 2) rfl (w.heap.size) 0 (sizeC a) ?_); refine And.intro ⟨by rfl, by rfl, ⟨_, Tryz.underlying42, rfl⟩, infoZ⟩ (And.intro (Who.has_range H1.out.ha) ?_)) | ((with_reducible refine wpList_storeG 42 (.tmp 4) (.tmp 25) rfl (w.heap.size + 1 + 1) (zeroZ) (sizeC a) ?_); refine And.intro ⟨rfl, by rfl, by rfl, infoZ, oneZ _, rfl, H1.out.hz⟩ ?_; intro W28 HX28 HC28) | fail)
    have HBF := Lib.hid (H1.out.fin HC28.out)
    refine bodyPost_ret (v := .agg (sizeC a)) (Who.results_cell (p := 4) (t := 42) rfl _ _ (w.heap.size + 1 + 1) 0 (sizeC a) _ (by rfl) (Who.has_range HX28.out) Tryz.underlying42 rfl infoZ) rfl ?_
    exact ⟨by rw [← HR.out, if_neg (show ¬ _ = true by rw [HOP.out]; simp)], HBF.out⟩
  ·have heq : ∀ w : World, (Op.equalIn 10000 37 (.agg #[.int .i64 a.1.1, .int .i64 a.1.2]) (.agg #[.int .i64 b.1.1, .int .i64 b.1.2])).run Tryz.prog w = .ok false w := fun w => by have h := Vc.eqs a.1.1 a.1.2 b.1.1 b.1.2 w; rw [show (a.1.1 == b.1.1 && a.1.2 == b.1.2) = false by (cases hq : (a.1.1 == b.1.1 && a.1.2 == b.1.2) with | false => rfl | true => simp at hq; exact absurd (Prod.ext hq.1 hq.2) q1)] at h; exact h
   have HQN := Lib.hid q1
   clear q1
   have HOP := Lib.hid (show ltZ a b = false by rw [ltZ_eq, HL1.out, decide_eq_false HQN.out]; simp)
   go_wp2_with (first | ((with_reducible refine Who.wpList_loadC 37 (.tmp 11) rfl (w.heap.size) 0 (#[.int .i64 a.1.1, .int .i64 a.1.2]) ?_); refine And.intro ⟨by rfl, by rfl, ⟨_, Tryz.underlying37, rfl⟩, info_st⟩ (And.intro (sizes_rng0 H1.out.ha) ?_)) | ((with_reducible refine Who.wpList_loadC 37 (.tmp 13) rfl (w.heap.size + 1) 0 (#[.int .i64 b.1.1, .int .i64 b.1.2]) ?_); refine And.intro ⟨by rfl, by rfl, ⟨_, Tryz.underlying37, rfl⟩, info_st⟩ (And.intro (sizes_rng0 H1.out.hb) ?_)) | ((with_reducible refine Who.wpList_loadC 42 (.tmp 2) rfl (w.heap.size) 0 (sizeC a) ?_); refine And.intro ⟨by rfl, by rfl, ⟨_, Tryz.underlying42, rfl⟩, infoZ⟩ (And.intro (Who.has_range H1.out.ha) ?_)) | ((with_reducible refine wpList_storeG 42 (.tmp 4) (.tmp 25) rfl (w.heap.size + 1 + 1) (zeroZ) (sizeC a) ?_); refine And.intro ⟨rfl, by rfl, by rfl, infoZ, oneZ _, rfl, H1.out.hz⟩ ?_; intro W29 HX29 HC29) | fail)
   have HBF := Lib.hid (H1.out.fin HC29.out)
   refine bodyPost_ret (v := .agg (sizeC a)) (Who.results_cell (p := 4) (t := 42) rfl _ _ (w.heap.size + 1 + 1) 0 (sizeC a) _ (by rfl) (Who.has_range HX29.out) Tryz.underlying42 rfl infoZ) rfl ?_
   exact ⟨by rw [← HR.out, if_neg (show ¬ _ = true by rw [HOP.out]; simp)], HBF.out⟩
set_option maxRecDepth 100000 in
set_option maxHeartbeats 16000000 in
theorem rpiece_one (a b : Fc.PieceP) (ha : a.data.size ≤ maxLen) (hb : b.data.size ≤ maxLen) (w : World) : Calls Tryz.prog 164 #[.agg (Fc.pieceC a), .agg (Fc.pieceC b)] w fun e w' => e = .returned (.agg (Fc.pieceC (if ltP (regP a) (regP b) = true then b else a))) ∧ Below w.heap.size w w' := by
 have HS := Lib.hid (fun V => rsless_any a.data b.data ha hb V)
 clear ha hb
 obtain ⟨R, hR⟩ : ∃ R, (if ltP (regP a) (regP b) = true then b else a) = R := ⟨_, rfl⟩
 rw [hR]
 have HR := Lib.hid hR
 clear hR
 have H0 := Lib.hid (TwoI.start w 74 (Fc.pieceC a) (Fc.pieceC b) zeroP)
 go_enter Tryz.func164, Tryz.ntmps164
 go_wp2_with (first | ((with_reducible refine Who.wpList_alloc 74 4 rfl rfl rfl (zeroP) allocP ?_); (try simp only [World.size_alloc])) | ((with_reducible refine Who.wpList_loadC 37 (.tmp 5) rfl (w.heap.size) 1 (#[.int .i64 a.at_.1, .int .i64 a.at_.2]) ?_); refine And.intro ⟨by rfl, by rfl, ⟨_, Tryz.underlying37, rfl⟩, info_st⟩ (And.intro (pieceOrder_rng0 H0.out.ha) ?_)) | ((with_reducible refine Who.wpList_loadC 37 (.tmp 7) rfl (w.heap.size + 1) 1 (#[.int .i64 b.at_.1, .int .i64 b.at_.2]) ?_); refine And.intro ⟨by rfl, by rfl, ⟨_, Tryz.underlying37, rfl⟩, info_st⟩ (And.intro (pieceOrder_rng0 H0.out.hb) ?_)) | fail)
 refine (Vc.rless_any a.at_.1 a.at_.2 b.at_.1 b.at_.2 _).mono ?_
 rintro e w1 ⟨rfl, hb⟩
 have H1 := Lib.hid (H0.out.low hb)
 clear hb H0
 cases hL1 : Vc.lessB a.at_.1 a.at_.2 b.at_.1 b.at_.2 with
 | true =>
  have HL1 := Lib.hid hL1
  clear hL1
  have HOP := Lib.hid (show ltP (regP a) (regP b) = true by rw [ltP_eq, HL1.out]; simp)
  go_wp2_with (first | ((with_reducible refine Who.wpList_loadC 74 (.tmp 3) rfl (w.heap.size + 1) 0 (Fc.pieceC b) ?_); refine And.intro ⟨by rfl, by rfl, ⟨_, Tryz.underlying74, rfl⟩, infoP⟩ (And.intro (Who.has_range H1.out.hb) ?_)) | ((with_reducible refine wpList_storeG 74 (.tmp 4) (.tmp 24) rfl (w.heap.size + 1 + 1) (zeroP) (Fc.pieceC b) ?_); refine And.intro ⟨rfl, by rfl, by rfl, infoP, oneP _, rfl, H1.out.hz⟩ ?_; intro W30 HX30 HC30) | fail)
  have HBF := Lib.hid (H1.out.fin HC30.out)
  refine bodyPost_ret (v := .agg (Fc.pieceC b)) (Who.results_cell (p := 4) (t := 74) rfl _ _ (w.heap.size + 1 + 1) 0 (Fc.pieceC b) _ (by rfl) (Who.has_range HX30.out) Tryz.underlying74 rfl infoP) rfl ?_
  exact ⟨by rw [← HR.out, if_pos HOP.out], HBF.out⟩
 | false =>
  have HL1 := Lib.hid hL1
  clear hL1
  by_cases q1 : a.at_ = b.at_
  ·have heq : ∀ w : World, (Op.equalIn 10000 37 (.agg #[.int .i64 a.at_.1, .int .i64 a.at_.2]) (.agg #[.int .i64 b.at_.1, .int .i64 b.at_.2])).run Tryz.prog w = .ok true w := fun w => by have h := Vc.eqs a.at_.1 a.at_.2 b.at_.1 b.at_.2 w; rw [show (a.at_.1 == b.at_.1 && a.at_.2 == b.at_.2) = true by simp [q1]] at h; exact h
   have HQ1 := Lib.hid q1
   clear q1
   have c0a : w1.cell? ⟨w.heap.size, 3, none⟩ = some (.string a.data) := H1.out.ha.at_ 3
   have c0b : w1.cell? ⟨w.heap.size + 1, 3, none⟩ = some (.string b.data) := H1.out.hb.at_ 3
   go_wp2_with (first | ((with_reducible refine Who.wpList_loadC 37 (.tmp 11) rfl (w.heap.size) 1 (#[.int .i64 a.at_.1, .int .i64 a.at_.2]) ?_); refine And.intro ⟨by rfl, by rfl, ⟨_, Tryz.underlying37, rfl⟩, info_st⟩ (And.intro (pieceOrder_rng0 H1.out.ha) ?_)) | ((with_reducible refine Who.wpList_loadC 37 (.tmp 13) rfl (w.heap.size + 1) 1 (#[.int .i64 b.at_.1, .int .i64 b.at_.2]) ?_); refine And.intro ⟨by rfl, by rfl, ⟨_, Tryz.underlying37, rfl⟩, info_st⟩ (And.intro (pieceOrder_rng0 H1.out.hb) ?_)) | fail)
   refine (HS.out _).mono ?_
   rintro e w3 ⟨rfl, hb⟩
   have H3 := Lib.hid (H1.out.low hb)
   clear hb H1 heq c0a c0b
   cases hL3 : Op.bytesLess a.data.toList b.data.toList with
   | true =>
    have HL3 := Lib.hid hL3
    clear hL3
    have HOP := Lib.hid (show ltP (regP a) (regP b) = true by rw [ltP_eq, HL1.out, decide_eq_true HQ1.out, HL3.out]; simp)
    go_wp2_with (first | ((with_reducible refine Who.wpList_loadC 74 (.tmp 3) rfl (w.heap.size + 1) 0 (Fc.pieceC b) ?_); refine And.intro ⟨by rfl, by rfl, ⟨_, Tryz.underlying74, rfl⟩, infoP⟩ (And.intro (Who.has_range H3.out.hb) ?_)) | ((with_reducible refine wpList_storeG 74 (.tmp 4) (.tmp 24) rfl (w.heap.size + 1 + 1) (zeroP) (Fc.pieceC b) ?_); refine And.intro ⟨rfl, by rfl, by rfl, infoP, oneP _, rfl, H3.out.hz⟩ ?_; intro W31 HX31 HC31) | fail)
    have HBF := Lib.hid (H3.out.fin HC31.out)
    refine bodyPost_ret (v := .agg (Fc.pieceC b)) (Who.results_cell (p := 4) (t := 74) rfl _ _ (w.heap.size + 1 + 1) 0 (Fc.pieceC b) _ (by rfl) (Who.has_range HX31.out) Tryz.underlying74 rfl infoP) rfl ?_
    exact ⟨by rw [← HR.out, if_pos HOP.out], HBF.out⟩
   | false =>
    have HL3 := Lib.hid hL3
    clear hL3
    have HOP := Lib.hid (show ltP (regP a) (regP b) = false by rw [ltP_eq, HL1.out, decide_eq_true HQ1.out, HL3.out]; simp)
    go_wp2_with (first | ((with_reducible refine Who.wpList_loadC 74 (.tmp 2) rfl (w.heap.size) 0 (Fc.pieceC a) ?_); refine And.intro ⟨by rfl, by rfl, ⟨_, Tryz.underlying74, rfl⟩, infoP⟩ (And.intro (Who.has_range H3.out.ha) ?_)) | ((with_reducible refine wpList_storeG 74 (.tmp 4) (.tmp 25) rfl (w.heap.size + 1 + 1) (zeroP) (Fc.pieceC a) ?_); refine And.intro ⟨rfl, by rfl, by rfl, infoP, oneP _, rfl, H3.out.hz⟩ ?_; intro W32 HX32 HC32) | fail)
    have HBF := Lib.hid (H3.out.fin HC32.out)
    refine bodyPost_ret (v := .agg (Fc.pieceC a)) (Who.results_cell (p := 4) (t := 74) rfl _ _ (w.heap.size + 1 + 1) 0 (Fc.pieceC a) _ (by rfl) (Who.has_range HX32.out) Tryz.underlying74 rfl infoP) rfl ?_
    exact ⟨by rw [← HR.out, if_neg (show ¬ _ = true by rw [HOP.out]; simp)], HBF.out⟩
  ·have heq : ∀ w : World, (Op.equalIn 10000 37 (.agg #[.int .i64 a.at_.1, .int .i64 a.at_.2]) (.agg #[.int .i64 b.at_.1, .int .i64 b.at_.2])).run Tryz.prog w = .ok false w := fun w => by have h := Vc.eqs a.at_.1 a.at_.2 b.at_.1 b.at_.2 w; rw [show (a.at_.1 == b.at_.1 && a.at_.2 == b.at_.2) = false by (cases hq : (a.at_.1 == b.at_.1 && a.at_.2 == b.at_.2) with | false => rfl | true => simp at hq; exact absurd (Prod.ext hq.1 hq.2) q1)] at h; exact h
   have HQN := Lib.hid q1
   clear q1
   have HOP := Lib.hid (show ltP (regP a) (regP b) = false by rw [ltP_eq, HL1.out, decide_eq_false HQN.out]; simp)
   go_wp2_with (first | ((with_reducible refine Who.wpList_loadC 37 (.tmp 11) rfl (w.heap.size) 1 (#[.int .i64 a.at_.1, .int .i64 a.at_.2]) ?_); refine And.intro ⟨by rfl, by rfl, ⟨_, Tryz.underlying37, rfl⟩, info_st⟩ (And.intro (pieceOrder_rng0 H1.out.ha) ?_)) | ((with_reducible refine Who.wpList_loadC 37 (.tmp 13) rfl (w.heap.size + 1) 1 (#[.int .i64 b.at_.1, .int .i64 b.at_.2]) ?_); refine And.intro ⟨by rfl, by rfl, ⟨_, Tryz.underlying37, rfl⟩, info_st⟩ (And.intro (pieceOrder_rng0 H1.out.hb) ?_)) | ((with_reducible refine Who.wpList_loadC 74 (.tmp 2) rfl (w.heap.size) 0 (Fc.pieceC a) ?_); refine And.intro ⟨by rfl, by rfl, ⟨_, Tryz.underlying74, rfl⟩, infoP⟩ (And.intro (Who.has_range H1.out.ha) ?_)) | ((with_reducible refine wpList_storeG 74 (.tmp 4) (.tmp 25) rfl (w.heap.size + 1 + 1) (zeroP) (Fc.pieceC a) ?_); refine And.intro ⟨rfl, by rfl, by rfl, infoP, oneP _, rfl, H1.out.hz⟩ ?_; intro W33 HX33 HC33) | fail)
   have HBF := Lib.hid (H1.out.fin HC33.out)
   refine bodyPost_ret (v := .agg (Fc.pieceC a)) (Who.results_cell (p := 4) (t := 74) rfl _ _ (w.heap.size + 1 + 1) 0 (Fc.pieceC a) _ (by rfl) (Who.has_range HX33.out) Tryz.underlying74 rfl infoP) rfl ?_
   exact ⟨by rw [← HR.out, if_neg (show ¬ _ = true by rw [HOP.out]; simp)], HBF.out⟩
set_option maxRecDepth 100000 in
set_option maxHeartbeats 16000000 in
theorem rxattr_one (a b : Fc.XattrP) (ha : a.val.size ≤ maxLen) (hb : b.val.size ≤ maxLen) (w : World) : Calls Tryz.prog 165 #[.agg (Fc.xattrC a), .agg (Fc.xattrC b)] w fun e w' => e = .returned (.agg (Fc.xattrC (if ltX (regX a) (regX b) = true then b else a))) ∧ Below w.heap.size w w' := by
 have HS := Lib.hid (fun V => rsless_any a.val b.val ha hb V)
 clear ha hb
 obtain ⟨R, hR⟩ : ∃ R, (if ltX (regX a) (regX b) = true then b else a) = R := ⟨_, rfl⟩
 rw [hR]
 have HR := Lib.hid hR
 clear hR
 have H0 := Lib.hid (TwoI.start w 77 (Fc.xattrC a) (Fc.xattrC b) zeroX)
 go_enter Tryz.func165, Tryz.ntmps165
 go_wp2_with (first | ((with_reducible refine Who.wpList_alloc 77 4 rfl rfl rfl (zeroX) allocX ?_); (try simp only [World.size_alloc])) | ((with_reducible refine Who.wpList_loadC 37 (.tmp 5) rfl (w.heap.size) 1 (#[.int .i64 a.at_.1, .int .i64 a.at_.2]) ?_); refine And.intro ⟨by rfl, by rfl, ⟨_, Tryz.underlying37, rfl⟩, info_st⟩ (And.intro (xattrOrder_rng0 H0.out.ha) ?_)) | ((with_reducible refine Who.wpList_loadC 37 (.tmp 7) rfl (w.heap.size + 1) 1 (#[.int .i64 b.at_.1, .int .i64 b.at_.2]) ?_); refine And.intro ⟨by rfl, by rfl, ⟨_, Tryz.underlying37, rfl⟩, info_st⟩ (And.intro (xattrOrder_rng0 H0.out.hb) ?_)) | fail)
 refine (Vc.rless_any a.at_.1 a.at_.2 b.at_.1 b.at_.2 _).mono ?_
 rintro e w1 ⟨rfl, hb⟩
 have H1 := Lib.hid (H0.out.low hb)
 clear hb H0
 cases hL1 : Vc.lessB a.at_.1 a.at_.2 b.at_.1 b.at_.2 with
 | true =>
  have HL1 := Lib.hid hL1
  clear hL1
  have HOP := Lib.hid (show ltX (regX a) (regX b) = true by rw [ltX_eq, HL1.out]; simp)
  go_wp2_with (first | ((with_reducible refine Who.wpList_loadC 77 (.tmp 3) rfl (w.heap.size + 1) 0 (Fc.xattrC b) ?_); refine And.intro ⟨by rfl, by rfl, ⟨_, Tryz.underlying77, rfl⟩, infoX⟩ (And.intro (Who.has_range H1.out.hb) ?_)) | ((with_reducible refine wpList_storeG 77 (.tmp 4) (.tmp 40) rfl (w.heap.size + 1 + 1) (zeroX) (Fc.xattrC b) ?_); refine And.intro ⟨rfl, by rfl, by rfl, infoX, oneX _, rfl, H1.out.hz⟩ ?_; intro W34 HX34 HC34) | fail)
  have HBF := Lib.hid (H1.out.fin HC34.out)
  refine bodyPost_ret (v := .agg (Fc.xattrC b)) (Who.results_cell (p := 4) (t := 77) rfl _ _ (w.heap.size + 1 + 1) 0 (Fc.xattrC b) _ (by rfl) (Who.has_range HX34.out) Tryz.underlying77 rfl infoX) rfl ?_
  exact ⟨by rw [← HR.out, if_pos HOP.out], HBF.out⟩
 | false =>
  have HL1 := Lib.hid hL1
  clear hL1
  by_cases q1 : a.at_ = b.at_
  ·have heq : ∀ w : World, (Op.equalIn 10000 37 (.agg #[.int .i64 a.at_.1, .int .i64 a.at_.2]) (.agg #[.int .i64 b.at_.1, .int .i64 b.at_.2])).run Tryz.prog w = .ok true w := fun w => by have h := Vc.eqs a.at_.1 a.at_.2 b.at_.1 b.at_.2 w; rw [show (a.at_.1 == b.at_.1 && a.at_.2 == b.at_.2) = true by simp [q1]] at h; exact h
   have HQ1 := Lib.hid q1
   clear q1
   have c0a : w1.cell? ⟨w.heap.size, 3, none⟩ = some (.string a.val) := H1.out.ha.at_ 3
   have c0b : w1.cell? ⟨w.heap.size + 1, 3, none⟩ = some (.string b.val) := H1.out.hb.at_ 3
   cases ga : a.gone with
   | false =>
    have c1a : w1.cell? ⟨w.heap.size, 4, none⟩ = some (.bool false) := by have q : w1.cell? ⟨w.heap.size, 4, none⟩ = some (.bool a.gone) := H1.out.ha.at_ 4; rw [ga] at q; exact q
    have HGA := Lib.hid ga
    clear ga
    cases gb : b.gone with
    | false =>
     have c1b : w1.cell? ⟨w.heap.size + 1, 4, none⟩ = some (.bool false) := by have q : w1.cell? ⟨w.heap.size + 1, 4, none⟩ = some (.bool b.gone) := H1.out.hb.at_ 4; rw [gb] at q; exact q
     have HGB := Lib.hid gb
     clear gb
     go_wp2_with (first | ((with_reducible refine Who.wpList_loadC 37 (.tmp 11) rfl (w.heap.size) 1 (#[.int .i64 a.at_.1, .int .i64 a.at_.2]) ?_); refine And.intro ⟨by rfl, by rfl, ⟨_, Tryz.underlying37, rfl⟩, info_st⟩ (And.intro (xattrOrder_rng0 H1.out.ha) ?_)) | ((with_reducible refine Who.wpList_loadC 37 (.tmp 13) rfl (w.heap.size + 1) 1 (#[.int .i64 b.at_.1, .int .i64 b.at_.2]) ?_); refine And.intro ⟨by rfl, by rfl, ⟨_, Tryz.underlying37, rfl⟩, info_st⟩ (And.intro (xattrOrder_rng0 H1.out.hb) ?_)) | fail)
     refine (HS.out _).mono ?_
     rintro e w3 ⟨rfl, hb⟩
     have H3 := Lib.hid (H1.out.low hb)
     clear hb H1 heq c0a c0b
     cases hL3 : Op.bytesLess a.val.toList b.val.toList with
     | true =>
      have HL3 := Lib.hid hL3
      clear hL3
      have HOP := Lib.hid (show ltX (regX a) (regX b) = true by rw [ltX_eq, HL1.out, decide_eq_true HQ1.out, HGA.out, HGB.out, HL3.out]; simp)
      go_wp2_with (first | ((with_reducible refine Who.wpList_loadC 77 (.tmp 3) rfl (w.heap.size + 1) 0 (Fc.xattrC b) ?_); refine And.intro ⟨by rfl, by rfl, ⟨_, Tryz.underlying77, rfl⟩, infoX⟩ (And.intro (Who.has_range H3.out.hb) ?_)) | ((with_reducible refine wpList_storeG 77 (.tmp 4) (.tmp 40) rfl (w.heap.size + 1 + 1) (zeroX) (Fc.xattrC b) ?_); refine And.intro ⟨rfl, by rfl, by rfl, infoX, oneX _, rfl, H3.out.hz⟩ ?_; intro W35 HX35 HC35) | fail)
      have HBF := Lib.hid (H3.out.fin HC35.out)
      refine bodyPost_ret (v := .agg (Fc.xattrC b)) (Who.results_cell (p := 4) (t := 77) rfl _ _ (w.heap.size + 1 + 1) 0 (Fc.xattrC b) _ (by rfl) (Who.has_range HX35.out) Tryz.underlying77 rfl infoX) rfl ?_
      exact ⟨by rw [← HR.out, if_pos HOP.out], HBF.out⟩
     | false =>
      have HL3 := Lib.hid hL3
      clear hL3
      have HOP := Lib.hid (show ltX (regX a) (regX b) = false by rw [ltX_eq, HL1.out, decide_eq_true HQ1.out, HGA.out, HGB.out, HL3.out]; simp)
      go_wp2_with (first | ((with_reducible refine Who.wpList_loadC 77 (.tmp 2) rfl (w.heap.size) 0 (Fc.xattrC a) ?_); refine And.intro ⟨by rfl, by rfl, ⟨_, Tryz.underlying77, rfl⟩, infoX⟩ (And.intro (Who.has_range H3.out.ha) ?_)) | ((with_reducible refine wpList_storeG 77 (.tmp 4) (.tmp 41) rfl (w.heap.size + 1 + 1) (zeroX) (Fc.xattrC a) ?_); refine And.intro ⟨rfl, by rfl, by rfl, infoX, oneX _, rfl, H3.out.hz⟩ ?_; intro W36 HX36 HC36) | fail)
      have HBF := Lib.hid (H3.out.fin HC36.out)
      refine bodyPost_ret (v := .agg (Fc.xattrC a)) (Who.results_cell (p := 4) (t := 77) rfl _ _ (w.heap.size + 1 + 1) 0 (Fc.xattrC a) _ (by rfl) (Who.has_range HX36.out) Tryz.underlying77 rfl infoX) rfl ?_
      exact ⟨by rw [← HR.out, if_neg (show ¬ _ = true by rw [HOP.out]; simp)], HBF.out⟩
    | true =>
     have c1b : w1.cell? ⟨w.heap.size + 1, 4, none⟩ = some (.bool true) := by have q : w1.cell? ⟨w.heap.size + 1, 4, none⟩ = some (.bool b.gone) := H1.out.hb.at_ 4; rw [gb] at q; exact q
     have HGB := Lib.hid gb
     clear gb
     have HOP := Lib.hid (show ltX (regX a) (regX b) = true by rw [ltX_eq, HL1.out, decide_eq_true HQ1.out, HGA.out, HGB.out]; simp)
     go_wp2_with (first | ((with_reducible refine Who.wpList_loadC 37 (.tmp 11) rfl (w.heap.size) 1 (#[.int .i64 a.at_.1, .int .i64 a.at_.2]) ?_); refine And.intro ⟨by rfl, by rfl, ⟨_, Tryz.underlying37, rfl⟩, info_st⟩ (And.intro (xattrOrder_rng0 H1.out.ha) ?_)) | ((with_reducible refine Who.wpList_loadC 37 (.tmp 13) rfl (w.heap.size + 1) 1 (#[.int .i64 b.at_.1, .int .i64 b.at_.2]) ?_); refine And.intro ⟨by rfl, by rfl, ⟨_, Tryz.underlying37, rfl⟩, info_st⟩ (And.intro (xattrOrder_rng0 H1.out.hb) ?_)) | ((with_reducible refine Who.wpList_loadC 77 (.tmp 3) rfl (w.heap.size + 1) 0 (Fc.xattrC b) ?_); refine And.intro ⟨by rfl, by rfl, ⟨_, Tryz.underlying77, rfl⟩, infoX⟩ (And.intro (Who.has_range H1.out.hb) ?_)) | ((with_reducible refine wpList_storeG 77 (.tmp 4) (.tmp 40) rfl (w.heap.size + 1 + 1) (zeroX) (Fc.xattrC b) ?_); refine And.intro ⟨rfl, by rfl, by rfl, infoX, oneX _, rfl, H1.out.hz⟩ ?_; intro W37 HX37 HC37) | fail)
     have HBF := Lib.hid (H1.out.fin HC37.out)
     refine bodyPost_ret (v := .agg (Fc.xattrC b)) (Who.results_cell (p := 4) (t := 77) rfl _ _ (w.heap.size + 1 + 1) 0 (Fc.xattrC b) _ (by rfl) (Who.has_range HX37.out) Tryz.underlying77 rfl infoX) rfl ?_
     exact ⟨by rw [← HR.out, if_pos HOP.out], HBF.out⟩
   | true =>
    have c1a : w1.cell? ⟨w.heap.size, 4, none⟩ = some (.bool true) := by have q : w1.cell? ⟨w.heap.size, 4, none⟩ = some (.bool a.gone) := H1.out.ha.at_ 4; rw [ga] at q; exact q
    have HGA := Lib.hid ga
    clear ga
    cases gb : b.gone with
    | false =>
     have c1b : w1.cell? ⟨w.heap.size + 1, 4, none⟩ = some (.bool false) := by have q : w1.cell? ⟨w.heap.size + 1, 4, none⟩ = some (.bool b.gone) := H1.out.hb.at_ 4; rw [gb] at q; exact q
     have HGB := Lib.hid gb
     clear gb
     have HOP := Lib.hid (show ltX (regX a) (regX b) = false by rw [ltX_eq, HL1.out, decide_eq_true HQ1.out, HGA.out, HGB.out]; simp)
     go_wp2_with (first | ((with_reducible refine Who.wpList_loadC 37 (.tmp 11) rfl (w.heap.size) 1 (#[.int .i64 a.at_.1, .int .i64 a.at_.2]) ?_); refine And.intro ⟨by rfl, by rfl, ⟨_, Tryz.underlying37, rfl⟩, info_st⟩ (And.intro (xattrOrder_rng0 H1.out.ha) ?_)) | ((with_reducible refine Who.wpList_loadC 37 (.tmp 13) rfl (w.heap.size + 1) 1 (#[.int .i64 b.at_.1, .int .i64 b.at_.2]) ?_); refine And.intro ⟨by rfl, by rfl, ⟨_, Tryz.underlying37, rfl⟩, info_st⟩ (And.intro (xattrOrder_rng0 H1.out.hb) ?_)) | ((with_reducible refine Who.wpList_loadC 77 (.tmp 2) rfl (w.heap.size) 0 (Fc.xattrC a) ?_); refine And.intro ⟨by rfl, by rfl, ⟨_, Tryz.underlying77, rfl⟩, infoX⟩ (And.intro (Who.has_range H1.out.ha) ?_)) | ((with_reducible refine wpList_storeG 77 (.tmp 4) (.tmp 41) rfl (w.heap.size + 1 + 1) (zeroX) (Fc.xattrC a) ?_); refine And.intro ⟨rfl, by rfl, by rfl, infoX, oneX _, rfl, H1.out.hz⟩ ?_; intro W38 HX38 HC38) | fail)
     have HBF := Lib.hid (H1.out.fin HC38.out)
     refine bodyPost_ret (v := .agg (Fc.xattrC a)) (Who.results_cell (p := 4) (t := 77) rfl _ _ (w.heap.size + 1 + 1) 0 (Fc.xattrC a) _ (by rfl) (Who.has_range HX38.out) Tryz.underlying77 rfl infoX) rfl ?_
     exact ⟨by rw [← HR.out, if_neg (show ¬ _ = true by rw [HOP.out]; simp)], HBF.out⟩
    | true =>
     have c1b : w1.cell? ⟨w.heap.size + 1, 4, none⟩ = some (.bool true) := by have q : w1.cell? ⟨w.heap.size + 1, 4, none⟩ = some (.bool b.gone) := H1.out.hb.at_ 4; rw [gb] at q; exact q
     have HGB := Lib.hid gb
     clear gb
     go_wp2_with (first | ((with_reducible refine Who.wpList_loadC 37 (.tmp 11) rfl (w.heap.size) 1 (#[.int .i64 a.at_.1, .int .i64 a.at_.2]) ?_); refine And.intro ⟨by rfl, by rfl, ⟨_, Tryz.underlying37, rfl⟩, info_st⟩ (And.intro (xattrOrder_rng0 H1.out.ha) ?_)) | ((with_reducible refine Who.wpList_loadC 37 (.tmp 13) rfl (w.heap.size + 1) 1 (#[.int .i64 b.at_.1, .int .i64 b.at_.2]) ?_); refine And.intro ⟨by rfl, by rfl, ⟨_, Tryz.underlying37, rfl⟩, info_st⟩ (And.intro (xattrOrder_rng0 H1.out.hb) ?_)) | fail)
     refine (HS.out _).mono ?_
     rintro e w3 ⟨rfl, hb⟩
     have H3 := Lib.hid (H1.out.low hb)
     clear hb H1 heq c0a c0b
     cases hL3 : Op.bytesLess a.val.toList b.val.toList with
     | true =>
      have HL3 := Lib.hid hL3
      clear hL3
      have HOP := Lib.hid (show ltX (regX a) (regX b) = true by rw [ltX_eq, HL1.out, decide_eq_true HQ1.out, HGA.out, HGB.out, HL3.out]; simp)
      go_wp2_with (first | ((with_reducible refine Who.wpList_loadC 77 (.tmp 3) rfl (w.heap.size + 1) 0 (Fc.xattrC b) ?_); refine And.intro ⟨by rfl, by rfl, ⟨_, Tryz.underlying77, rfl⟩, infoX⟩ (And.intro (Who.has_range H3.out.hb) ?_)) | ((with_reducible refine wpList_storeG 77 (.tmp 4) (.tmp 40) rfl (w.heap.size + 1 + 1) (zeroX) (Fc.xattrC b) ?_); refine And.intro ⟨rfl, by rfl, by rfl, infoX, oneX _, rfl, H3.out.hz⟩ ?_; intro W39 HX39 HC39) | fail)
      have HBF := Lib.hid (H3.out.fin HC39.out)
      refine bodyPost_ret (v := .agg (Fc.xattrC b)) (Who.results_cell (p := 4) (t := 77) rfl _ _ (w.heap.size + 1 + 1) 0 (Fc.xattrC b) _ (by rfl) (Who.has_range HX39.out) Tryz.underlying77 rfl infoX) rfl ?_
      exact ⟨by rw [← HR.out, if_pos HOP.out], HBF.out⟩
     | false =>
      have HL3 := Lib.hid hL3
      clear hL3
      have HOP := Lib.hid (show ltX (regX a) (regX b) = false by rw [ltX_eq, HL1.out, decide_eq_true HQ1.out, HGA.out, HGB.out, HL3.out]; simp)
      go_wp2_with (first | ((with_reducible refine Who.wpList_loadC 77 (.tmp 2) rfl (w.heap.size) 0 (Fc.xattrC a) ?_); refine And.intro ⟨by rfl, by rfl, ⟨_, Tryz.underlying77, rfl⟩, infoX⟩ (And.intro (Who.has_range H3.out.ha) ?_)) | ((with_reducible refine wpList_storeG 77 (.tmp 4) (.tmp 41) rfl (w.heap.size + 1 + 1) (zeroX) (Fc.xattrC a) ?_); refine And.intro ⟨rfl, by rfl, by rfl, infoX, oneX _, rfl, H3.out.hz⟩ ?_; intro W40 HX40 HC40) | fail)
      have HBF := Lib.hid (H3.out.fin HC40.out)
      refine bodyPost_ret (v := .agg (Fc.xattrC a)) (Who.results_cell (p := 4) (t := 77) rfl _ _ (w.heap.size + 1 + 1) 0 (Fc.xattrC a) _ (by rfl) (Who.has_range HX40.out) Tryz.underlying77 rfl infoX) rfl ?_
      exact ⟨by rw [← HR.out, if_neg (show ¬ _ = true by rw [HOP.out]; simp)], HBF.out⟩
  ·have heq : ∀ w : World, (Op.equalIn 10000 37 (.agg #[.int .i64 a.at_.1, .int .i64 a.at_.2]) (.agg #[.int .i64 b.at_.1, .int .i64 b.at_.2])).run Tryz.prog w = .ok false w := fun w => by have h := Vc.eqs a.at_.1 a.at_.2 b.at_.1 b.at_.2 w; rw [show (a.at_.1 == b.at_.1 && a.at_.2 == b.at_.2) = false by (cases hq : (a.at_.1 == b.at_.1 && a.at_.2 == b.at_.2) with | false => rfl | true => simp at hq; exact absurd (Prod.ext hq.1 hq.2) q1)] at h; exact h
   have HQN := Lib.hid q1
   clear q1
   have HOP := Lib.hid (show ltX (regX a) (regX b) = false by rw [ltX_eq, HL1.out, decide_eq_false HQN.out]; simp)
   go_wp2_with (first | ((with_reducible refine Who.wpList_loadC 37 (.tmp 11) rfl (w.heap.size) 1 (#[.int .i64 a.at_.1, .int .i64 a.at_.2]) ?_); refine And.intro ⟨by rfl, by rfl, ⟨_, Tryz.underlying37, rfl⟩, info_st⟩ (And.intro (xattrOrder_rng0 H1.out.ha) ?_)) | ((with_reducible refine Who.wpList_loadC 37 (.tmp 13) rfl (w.heap.size + 1) 1 (#[.int .i64 b.at_.1, .int .i64 b.at_.2]) ?_); refine And.intro ⟨by rfl, by rfl, ⟨_, Tryz.underlying37, rfl⟩, info_st⟩ (And.intro (xattrOrder_rng0 H1.out.hb) ?_)) | ((with_reducible refine Who.wpList_loadC 77 (.tmp 2) rfl (w.heap.size) 0 (Fc.xattrC a) ?_); refine And.intro ⟨by rfl, by rfl, ⟨_, Tryz.underlying77, rfl⟩, infoX⟩ (And.intro (Who.has_range H1.out.ha) ?_)) | ((with_reducible refine wpList_storeG 77 (.tmp 4) (.tmp 41) rfl (w.heap.size + 1 + 1) (zeroX) (Fc.xattrC a) ?_); refine And.intro ⟨rfl, by rfl, by rfl, infoX, oneX _, rfl, H1.out.hz⟩ ?_; intro W41 HX41 HC41) | fail)
   have HBF := Lib.hid (H1.out.fin HC41.out)
   refine bodyPost_ret (v := .agg (Fc.xattrC a)) (Who.results_cell (p := 4) (t := 77) rfl _ _ (w.heap.size + 1 + 1) 0 (Fc.xattrC a) _ (by rfl) (Who.has_range HX41.out) Tryz.underlying77 rfl infoX) rfl ?_
   exact ⟨by rw [← HR.out, if_neg (show ¬ _ = true by rw [HOP.out]; simp)], HBF.out⟩
end Go.Proofs.YtblogecapegbmaaGreat.Jn
