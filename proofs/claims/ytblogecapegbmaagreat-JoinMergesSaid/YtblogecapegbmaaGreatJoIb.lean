/- Join: the document's put and name: rows with one more. -/
import Derived.Test.YtblogecapegbmaaGreatJoI
namespace Go.Proofs.YtblogecapegbmaaGreat.Jn
open Go.RowKit Go.Proofs.YtblogecapegbmaaGreat.Mem
set_option linter.unusedVariables false set_option linter.unusedSimpArgs false set_option linter.unusedSectionVars false

set_option maxRecDepth 100000 in
set_option maxHeartbeats 16000000 in
theorem rput_ins (A : Option Addr) (n c : Nat) (l : List Fc.PieceP) (x : Fc.PieceP) (w : World) (hr : RowOk w 4 Fc.pieceC ⟨A, n, c, l⟩) (hm : n ≤ 1000000) (hT : ∀ y ∈ l, y.data.size ≤ maxLen) (hx : x.data.size ≤ maxLen) :
  Calls Tryz.prog 131 #[.slice A n c, .agg (Fc.pieceC x)] w fun e w' => ∃ v, e = .returned v ∧ OwnK w' w.heap.size 74 4 Fc.pieceC v (docIns intLt Fc.PieceP.i opP id l x) ∧ Below w.heap.size w w' := by
 have HR := Lib.hid hr.row
 have HLN := Lib.hid (show n = l.length from hr.row.len.symm)
 have HT := Lib.hid hT
 have HX := Lib.hid hx
 have H0 := Lib.hid (InsI.start w 74 4 Fc.pieceC (Fc.pieceC x))
 clear hr hT hx
 go_enter Tryz.func131, Tryz.ntmps131
 go_wp2_with fail
 go_loopw [5, 6, 11] (fun v d i wr => ∃ j : Nat, i = .int .i64 j ∧ j ≤ n ∧ ∃ os b, d = .bool b ∧ Hid ((l.take j).foldl (stepD intLt Fc.PieceP.i opP id x) ([], false) = (os, b)) ∧ Hid (os.length ≤ 2 * j) ∧ Hid (InsI w wr 74 4 Fc.pieceC (Fc.pieceC x) v os)) (fun _ _ i _ => n - (intOf i).toNat)
 case atStart => exact ⟨0, rfl, Nat.zero_le _, [], false, rfl, Lib.hid rfl, Lib.hid (Nat.le_refl _), H0⟩
 case round =>
  clear H0
  obtain ⟨j, rfl, hj, os, b, rfl, HF, HL, HI⟩ := hrel
  by_cases hlt : j < n
  ·obtain ⟨bk, off, hA, hbl, hxj, mr⟩ := (HR.out.below HI.out.below).range (i := j) hlt
   have HN := Lib.hid (fun y (hy : l[j] = y) => sfold_next hxj hy HF.out)
   have HTY := Lib.hid (HT.out _ (List.getElem_mem hxj))
   obtain ⟨y, hy⟩ : ∃ y, l[j] = y := ⟨_, rfl⟩
   have HS := Lib.hid (HN.out y hy)
   rw [hy] at mr HTY
   have MR := Lib.hid mr
   have HY1 := Lib.hid (Has.fresh wr 74 (Fc.pieceC y))
   have HI1 := Lib.hid (HI.out.low ((Below.refl wr.heap.size wr).alloc (Nat.le_refl _) (.cells (Fc.pieceC y) 74)))
   have HBL := Lib.hid HI.out.lt
   have HLL := Lib.hid (show os.length + 2 ≤ 4000000 by have := HL.out; omega)
   have HL3 := Lib.hid (show os.length + 2 ≤ 2 * (j + 1) by have := HL.out; omega)
   rw [hA]
   clear mr hA hbl hxj hy HN HF HL
   obtain ⟨A5, c5, hv, _⟩ := HI.out.own.any
   subst hv
   have HI0 := HI
   have HNQ := Lib.hid (own_ne HI.out.own HI.out.own (Nat.le_refl wr.heap.size))
   clear HI
   by_cases q1 : y.i = x.i
   ·have HS2 := Lib.hid (HS.out.trans (sd_eq q1 os b))
    clear HS
    have k1 : decide (y.i = x.i) = true := by simp [q1]
    have k2 : (y.i == x.i) = true := by simp [q1]
    have c1 : (wr.alloc (.cells (Fc.pieceC y) 74)).cell? ⟨wr.heap.size, 0, none⟩ = some (.int .i64 y.i) := HY1.out.at_ 0
    have c2 : (wr.alloc (.cells (Fc.pieceC y) 74)).cell? ⟨w.heap.size, 0, none⟩ = some (.int .i64 x.i) := HI1.out.hx.at_ 0
    clear q1
    go_wp2_with (first | ((with_reducible refine Who.wpList_loadC 74 (.tmp 13) rfl (bk) (off + j * 4) (Fc.pieceC y) ?_); refine And.intro ⟨by rfl, by rfl, ⟨_, Tryz.underlying74, rfl⟩, infoP⟩ (And.intro (MR.out) ?_)) | ((with_reducible refine Who.wpList_newC 74 8 (.tmp 14) rfl rfl rfl (zeroP) (Fc.pieceC y) ?_); refine And.intro ⟨rfl, rfl, rfl, allocP, by rfl, by rfl, infoP, rfl, oneP y⟩ ?_; (try simp only [World.size_alloc])) | ((with_reducible refine Who.wpList_loadC 74 (.tmp 8) rfl (wr.heap.size) 0 (Fc.pieceC y) ?_); refine And.intro ⟨by rfl, by rfl, ⟨_, Tryz.underlying74, rfl⟩, infoP⟩ (And.intro (Who.has_range HY1.out) ?_)) | ((with_reducible refine Who.wpList_loadC 74 (.tmp 3) rfl (w.heap.size) 0 (Fc.pieceC x) ?_); refine And.intro ⟨by rfl, by rfl, ⟨_, Tryz.underlying74, rfl⟩, infoP⟩ (And.intro (Who.has_range HI1.out.hx) ?_)) | fail)
    refine (rpiece_op y x HTY.out HX.out _).mono ?_
    rintro e w1 ⟨rfl, hb⟩
    have HI2 := Lib.hid (HI1.out.low hb)
    have HY2 := Lib.hid (HY1.out.below hb)
    have HW := Lib.hid (show wr.heap.size + 1 ≤ w1.heap.size by have := hb.size; simpa using this)
    clear hb HI1 HY1 k1 k2 c1 c2
    go_wp2_with (first | ((with_reducible refine wpList_storeG 74 (.tmp 8) (.tmp 22) rfl (wr.heap.size) (Fc.pieceC y) (Fc.pieceC (opP y x)) ?_); refine And.intro ⟨rfl, by rfl, by rfl, infoP, oneP _, rfl, HY2.out⟩ ?_; intro W40 HX40 HC40; have HI3 := Lib.hid (ins_put HI2.out HC40.out HBL.out HNQ.out)) | ((with_reducible refine Who.wpList_loadC 74 (.tmp 8) rfl (wr.heap.size) 0 (Fc.pieceC (opP y x)) ?_); refine And.intro ⟨by rfl, by rfl, ⟨_, Tryz.underlying74, rfl⟩, infoP⟩ (And.intro (Who.has_range HX40.out) ?_)) | ((with_reducible refine wpl_build1 kdP (.tmp 37) rfl (opP y x) ?_); refine And.intro ⟨rfl, by rfl⟩ ?_) | (at_builtin; (with_reducible refine wpl_one (B := w.heap.size + 1) (u := (.slice (A5) os.length c5)) (es := os) (e := opP y x) kdP (.tmp 36) (.tmp 38) rfl rfl ?_); refine And.intro ⟨⟨by rfl, ⟨_, by rfl, by simp⟩⟩, HI3.out.own, HI3.out.lt, (by have := HLL.out; omega)⟩ ?_) | fail)
    intro u6 w6 g6
    have HI6 := Lib.hid (HI3.out.grew g6)
    clear g6
    go_wp2
    go_roundw
    case rel => exact ⟨j + 1, by go_num, by omega, _, _, rfl, HS2, Lib.hid (by have := HL3.out; simp; omega), HI6⟩
    case measure => simp [intOf]; omega
   ·have k1 : decide (y.i = x.i) = false := by simp [q1]
    have k2 : (y.i == x.i) = false := by simp [q1]
    have c1 : (wr.alloc (.cells (Fc.pieceC y) 74)).cell? ⟨wr.heap.size, 0, none⟩ = some (.int .i64 y.i) := HY1.out.at_ 0
    have c2 : (wr.alloc (.cells (Fc.pieceC y) 74)).cell? ⟨w.heap.size, 0, none⟩ = some (.int .i64 x.i) := HI1.out.hx.at_ 0
    cases b with
    | true =>
     have HS2 := Lib.hid (HS.out.trans (sd_past q1 (.inl rfl) os))
     clear HS q1
     have HYZ := HY1
     go_wp2_with (first | ((with_reducible refine Who.wpList_loadC 74 (.tmp 13) rfl (bk) (off + j * 4) (Fc.pieceC y) ?_); refine And.intro ⟨by rfl, by rfl, ⟨_, Tryz.underlying74, rfl⟩, infoP⟩ (And.intro (MR.out) ?_)) | ((with_reducible refine Who.wpList_newC 74 8 (.tmp 14) rfl rfl rfl (zeroP) (Fc.pieceC y) ?_); refine And.intro ⟨rfl, rfl, rfl, allocP, by rfl, by rfl, infoP, rfl, oneP y⟩ ?_; (try simp only [World.size_alloc])) | ((with_reducible refine Who.wpList_loadC 74 (.tmp 8) rfl (wr.heap.size) 0 (Fc.pieceC y) ?_); refine And.intro ⟨by rfl, by rfl, ⟨_, Tryz.underlying74, rfl⟩, infoP⟩ (And.intro (Who.has_range HYZ.out) ?_)) | ((with_reducible refine wpl_build1 kdP (.tmp 37) rfl (y) ?_); refine And.intro ⟨rfl, by rfl⟩ ?_) | (at_builtin; (with_reducible refine wpl_one (B := w.heap.size + 1) (u := (.slice (A5) os.length c5)) (es := os) (e := y) kdP (.tmp 36) (.tmp 38) rfl rfl ?_); refine And.intro ⟨⟨by rfl, ⟨_, by rfl, by simp⟩⟩, HI1.out.own, HI1.out.lt, (by have := HLL.out; omega)⟩ ?_) | fail)
     intro u7 w7 g7
     have HI7 := Lib.hid (HI1.out.grew g7)
     clear g7
     go_wp2
     go_roundw
     case rel => exact ⟨j + 1, by go_num, by omega, _, _, rfl, HS2, Lib.hid (by have := HL3.out; simp; omega), HI7⟩
     case measure => simp [intOf]; omega
    | false =>
     by_cases q2 : x.i < y.i
     ·have k3 : decide (x.i < y.i) = true := decide_eq_true q2
      have k4 : decide (y.i > x.i) = true := decide_eq_true q2
      have HS2 := Lib.hid (HS.out.trans (sd_in q1 k3 os))
      clear HS q1 q2
      have HYZ := HY1
      have HNE := HNQ
      go_wp2_with (first | ((with_reducible refine Who.wpList_loadC 74 (.tmp 13) rfl (bk) (off + j * 4) (Fc.pieceC y) ?_); refine And.intro ⟨by rfl, by rfl, ⟨_, Tryz.underlying74, rfl⟩, infoP⟩ (And.intro (MR.out) ?_)) | ((with_reducible refine Who.wpList_newC 74 8 (.tmp 14) rfl rfl rfl (zeroP) (Fc.pieceC y) ?_); refine And.intro ⟨rfl, rfl, rfl, allocP, by rfl, by rfl, infoP, rfl, oneP y⟩ ?_; (try simp only [World.size_alloc])) | ((with_reducible refine Who.wpList_loadC 74 (.tmp 3) rfl (w.heap.size) 0 (Fc.pieceC x) ?_); refine And.intro ⟨by rfl, by rfl, ⟨_, Tryz.underlying74, rfl⟩, infoP⟩ (And.intro (Who.has_range HI1.out.hx) ?_)) | ((with_reducible refine wpl_build1 kdP (.tmp 33) rfl (x) ?_); refine And.intro ⟨rfl, by rfl⟩ ?_) | (at_builtin; (with_reducible refine wpl_one (B := w.heap.size + 1) (u := (.slice (A5) os.length c5)) (es := os) (e := x) kdP (.tmp 32) (.tmp 34) rfl rfl ?_); refine And.intro ⟨⟨by rfl, ⟨_, by rfl, by simp⟩⟩, HI1.out.own, HI1.out.lt, (by have := HLL.out; omega)⟩ ?_; intro u6 w6 g6; have HI6 := Lib.hid (HI1.out.grew g6); have HY6 := Lib.hid (HYZ.out.over g6.chg HNE.out); clear g6) | ((with_reducible refine Who.wpList_loadC 74 (.tmp 8) rfl (wr.heap.size) 0 (Fc.pieceC y) ?_); refine And.intro ⟨by rfl, by rfl, ⟨_, Tryz.underlying74, rfl⟩, infoP⟩ (And.intro (Who.has_range HY6.out) ?_)) | ((with_reducible refine wpl_build1 kdP (.tmp 37) rfl (y) ?_); refine And.intro ⟨rfl, by rfl⟩ ?_) | (at_builtin; (with_reducible refine wpl_one (B := w.heap.size + 1) (u := u6) (es := (os ++ [x])) (e := y) kdP (.tmp 36) (.tmp 38) rfl rfl ?_); refine And.intro ⟨⟨by rfl, ⟨_, by rfl, by simp⟩⟩, HI6.out.own, HI6.out.lt, (by have := HLL.out; simp; omega)⟩ ?_) | fail)
      intro u7 w7 g7
      have HI7 := Lib.hid (HI6.out.grew g7)
      clear g7
      go_wp2
      go_roundw
      case rel => exact ⟨j + 1, by go_num, by omega, _, _, rfl, HS2, Lib.hid (by have := HL3.out; simp; omega), HI7⟩
      case measure => simp [intOf]; omega
     ·have k3 : decide (x.i < y.i) = false := decide_eq_false q2
      have k4 : decide (y.i > x.i) = false := decide_eq_false q2
      have HS2 := Lib.hid (HS.out.trans (sd_past q1 (.inr k3) os))
      clear HS q1 q2
      have HYZ := HY1
      go_wp2_with (first | ((with_reducible refine Who.wpList_loadC 74 (.tmp 13) rfl (bk) (off + j * 4) (Fc.pieceC y) ?_); refine And.intro ⟨by rfl, by rfl, ⟨_, Tryz.underlying74, rfl⟩, infoP⟩ (And.intro (MR.out) ?_)) | ((with_reducible refine Who.wpList_newC 74 8 (.tmp 14) rfl rfl rfl (zeroP) (Fc.pieceC y) ?_); refine And.intro ⟨rfl, rfl, rfl, allocP, by rfl, by rfl, infoP, rfl, oneP y⟩ ?_; (try simp only [World.size_alloc])) | ((with_reducible refine Who.wpList_loadC 74 (.tmp 8) rfl (wr.heap.size) 0 (Fc.pieceC y) ?_); refine And.intro ⟨by rfl, by rfl, ⟨_, Tryz.underlying74, rfl⟩, infoP⟩ (And.intro (Who.has_range HYZ.out) ?_)) | ((with_reducible refine wpl_build1 kdP (.tmp 37) rfl (y) ?_); refine And.intro ⟨rfl, by rfl⟩ ?_) | (at_builtin; (with_reducible refine wpl_one (B := w.heap.size + 1) (u := (.slice (A5) os.length c5)) (es := os) (e := y) kdP (.tmp 36) (.tmp 38) rfl rfl ?_); refine And.intro ⟨⟨by rfl, ⟨_, by rfl, by simp⟩⟩, HI1.out.own, HI1.out.lt, (by have := HLL.out; omega)⟩ ?_) | fail)
      intro u7 w7 g7
      have HI7 := Lib.hid (HI1.out.grew g7)
      clear g7
      go_wp2
      go_roundw
      case rel => exact ⟨j + 1, by go_num, by omega, _, _, rfl, HS2, Lib.hid (by have := HL3.out; simp; omega), HI7⟩
      case measure => simp [intOf]; omega
  ·have hjn : j = n := by omega
   have HD := Lib.hid (doc_end (hjn.trans HLN.out) HF.out)
   have HLL := Lib.hid (show os.length + 2 ≤ 4000000 by have := HL.out; omega)
   clear HF hjn
   obtain ⟨A5, c5, hv, _⟩ := HI.out.own.any
   subst hv
   cases b with
   | true =>
    go_wp2
    go_ret
    exact ⟨_, rfl, by rw [HD.out]; exact HI.out.own.mono (Nat.le_succ _), HI.out.below⟩
   | false =>
    go_wp2_with (first | ((with_reducible refine Who.wpList_loadC 74 (.tmp 3) rfl (w.heap.size) 0 (Fc.pieceC x) ?_); refine And.intro ⟨by rfl, by rfl, ⟨_, Tryz.underlying74, rfl⟩, infoP⟩ (And.intro (Who.has_range HI.out.hx) ?_)) | ((with_reducible refine wpl_build1 kdP (.tmp 44) rfl (x) ?_); refine And.intro ⟨rfl, by rfl⟩ ?_) | (at_builtin; (with_reducible refine wpl_one (B := w.heap.size + 1) (u := (.slice (A5) os.length c5)) (es := os) (e := x) kdP (.tmp 43) (.tmp 45) rfl rfl ?_); refine And.intro ⟨⟨by rfl, ⟨_, by rfl, by simp⟩⟩, HI.out.own, HI.out.lt, (by have := HLL.out; omega)⟩ ?_) | fail)
    intro u6 w6 g6
    have HI6 := Lib.hid (HI.out.grew g6)
    clear g6
    go_wp2
    go_ret
    exact ⟨_, rfl, by rw [HD.out]; exact HI6.out.own.mono (Nat.le_succ _), HI6.out.below⟩
set_option maxRecDepth 100000 in
set_option maxHeartbeats 16000000 in
theorem rname_ins (A : Option Addr) (n c : Nat) (l : List Fc.XattrP) (x : Fc.XattrP) (w : World) (hr : RowOk w 5 Fc.xattrC ⟨A, n, c, l⟩) (hm : n ≤ 1000000) (hT : ∀ y ∈ l, y.name.size ≤ maxLen ∧ y.val.size ≤ maxLen) (hx : x.name.size ≤ maxLen ∧ x.val.size ≤ maxLen) :
  Calls Tryz.prog 132 #[.slice A n c, .agg (Fc.xattrC x)] w fun e w' => ∃ v, e = .returned v ∧ OwnK w' w.heap.size 77 5 Fc.xattrC v (docIns strLt Fc.XattrP.name opX id l x) ∧ Below w.heap.size w w' := by
 have HR := Lib.hid hr.row
 have HLN := Lib.hid (show n = l.length from hr.row.len.symm)
 have HT := Lib.hid hT
 have HX := Lib.hid hx
 have H0 := Lib.hid (InsI.start w 77 5 Fc.xattrC (Fc.xattrC x))
 clear hr hT hx
 go_enter Tryz.func132, Tryz.ntmps132
 go_wp2_with fail
 go_loopw [5, 6, 11] (fun v d i wr => ∃ j : Nat, i = .int .i64 j ∧ j ≤ n ∧ ∃ os b, d = .bool b ∧ Hid ((l.take j).foldl (stepD strLt Fc.XattrP.name opX id x) ([], false) = (os, b)) ∧ Hid (os.length ≤ 2 * j) ∧ Hid (InsI w wr 77 5 Fc.xattrC (Fc.xattrC x) v os)) (fun _ _ i _ => n - (intOf i).toNat)
 case atStart => exact ⟨0, rfl, Nat.zero_le _, [], false, rfl, Lib.hid rfl, Lib.hid (Nat.le_refl _), H0⟩
 case round =>
  clear H0
  obtain ⟨j, rfl, hj, os, b, rfl, HF, HL, HI⟩ := hrel
  by_cases hlt : j < n
  ·obtain ⟨bk, off, hA, hbl, hxj, mr⟩ := (HR.out.below HI.out.below).range (i := j) hlt
   have HN := Lib.hid (fun y (hy : l[j] = y) => sfold_next hxj hy HF.out)
   have HTY := Lib.hid (HT.out _ (List.getElem_mem hxj))
   obtain ⟨y, hy⟩ : ∃ y, l[j] = y := ⟨_, rfl⟩
   have HS := Lib.hid (HN.out y hy)
   rw [hy] at mr HTY
   have MR := Lib.hid mr
   have HY1 := Lib.hid (Has.fresh wr 77 (Fc.xattrC y))
   have HI1 := Lib.hid (HI.out.low ((Below.refl wr.heap.size wr).alloc (Nat.le_refl _) (.cells (Fc.xattrC y) 77)))
   have HBL := Lib.hid HI.out.lt
   have HLL := Lib.hid (show os.length + 2 ≤ 4000000 by have := HL.out; omega)
   have HL3 := Lib.hid (show os.length + 2 ≤ 2 * (j + 1) by have := HL.out; omega)
   rw [hA]
   clear mr hA hbl hxj hy HN HF HL
   obtain ⟨A5, c5, hv, _⟩ := HI.out.own.any
   subst hv
   have HI0 := HI
   have HNQ := Lib.hid (own_ne HI.out.own HI.out.own (Nat.le_refl wr.heap.size))
   clear HI
   by_cases q1 : y.name = x.name
   ·have HS2 := Lib.hid (HS.out.trans (sd_eq q1 os b))
    clear HS
    have k1 : decide (y.name = x.name) = true := by simp [q1]
    have k2 : (y.name.toList == x.name.toList) = true := by rw [q1]; simp
    have c1 : (wr.alloc (.cells (Fc.xattrC y) 77)).cell? ⟨wr.heap.size, 0, none⟩ = some (.string y.name) := HY1.out.at_ 0
    have c2 : (wr.alloc (.cells (Fc.xattrC y) 77)).cell? ⟨w.heap.size, 0, none⟩ = some (.string x.name) := HI1.out.hx.at_ 0
    clear q1
    go_wp2_with (first | ((with_reducible refine Who.wpList_loadC 77 (.tmp 13) rfl (bk) (off + j * 5) (Fc.xattrC y) ?_); refine And.intro ⟨by rfl, by rfl, ⟨_, Tryz.underlying77, rfl⟩, infoX⟩ (And.intro (MR.out) ?_)) | ((with_reducible refine Who.wpList_newC 77 8 (.tmp 14) rfl rfl rfl (zeroX) (Fc.xattrC y) ?_); refine And.intro ⟨rfl, rfl, rfl, allocX, by rfl, by rfl, infoX, rfl, oneX y⟩ ?_; (try simp only [World.size_alloc])) | ((with_reducible refine Who.wpList_loadC 77 (.tmp 8) rfl (wr.heap.size) 0 (Fc.xattrC y) ?_); refine And.intro ⟨by rfl, by rfl, ⟨_, Tryz.underlying77, rfl⟩, infoX⟩ (And.intro (Who.has_range HY1.out) ?_)) | ((with_reducible refine Who.wpList_loadC 77 (.tmp 3) rfl (w.heap.size) 0 (Fc.xattrC x) ?_); refine And.intro ⟨by rfl, by rfl, ⟨_, Tryz.underlying77, rfl⟩, infoX⟩ (And.intro (Who.has_range HI1.out.hx) ?_)) | fail)
    refine (rxattr_op y x HTY.out.2 HX.out.2 _).mono ?_
    rintro e w1 ⟨rfl, hb⟩
    have HI2 := Lib.hid (HI1.out.low hb)
    have HY2 := Lib.hid (HY1.out.below hb)
    have HW := Lib.hid (show wr.heap.size + 1 ≤ w1.heap.size by have := hb.size; simpa using this)
    clear hb HI1 HY1 k1 k2 c1 c2
    go_wp2_with (first | ((with_reducible refine wpList_storeG 77 (.tmp 8) (.tmp 22) rfl (wr.heap.size) (Fc.xattrC y) (Fc.xattrC (opX y x)) ?_); refine And.intro ⟨rfl, by rfl, by rfl, infoX, oneX _, rfl, HY2.out⟩ ?_; intro W40 HX40 HC40; have HI3 := Lib.hid (ins_put HI2.out HC40.out HBL.out HNQ.out)) | ((with_reducible refine Who.wpList_loadC 77 (.tmp 8) rfl (wr.heap.size) 0 (Fc.xattrC (opX y x)) ?_); refine And.intro ⟨by rfl, by rfl, ⟨_, Tryz.underlying77, rfl⟩, infoX⟩ (And.intro (Who.has_range HX40.out) ?_)) | ((with_reducible refine wpl_build1 kdX (.tmp 37) rfl (opX y x) ?_); refine And.intro ⟨rfl, by rfl⟩ ?_) | (at_builtin; (with_reducible refine wpl_one (B := w.heap.size + 1) (u := (.slice (A5) os.length c5)) (es := os) (e := opX y x) kdX (.tmp 36) (.tmp 38) rfl rfl ?_); refine And.intro ⟨⟨by rfl, ⟨_, by rfl, by simp⟩⟩, HI3.out.own, HI3.out.lt, (by have := HLL.out; omega)⟩ ?_) | fail)
    intro u6 w6 g6
    have HI6 := Lib.hid (HI3.out.grew g6)
    clear g6
    go_wp2
    go_roundw
    case rel => exact ⟨j + 1, by go_num, by omega, _, _, rfl, HS2, Lib.hid (by have := HL3.out; simp; omega), HI6⟩
    case measure => simp [intOf]; omega
   ·have k1 : decide (y.name = x.name) = false := by simp [q1]
    have k2 : (y.name.toList == x.name.toList) = false := by cases h : (y.name.toList == x.name.toList) with | false => rfl | true => exact absurd (toList_inj (beq_iff_eq.1 h)) q1
    have c1 : (wr.alloc (.cells (Fc.xattrC y) 77)).cell? ⟨wr.heap.size, 0, none⟩ = some (.string y.name) := HY1.out.at_ 0
    have c2 : (wr.alloc (.cells (Fc.xattrC y) 77)).cell? ⟨w.heap.size, 0, none⟩ = some (.string x.name) := HI1.out.hx.at_ 0
    cases b with
    | true =>
     have HS2 := Lib.hid (HS.out.trans (sd_past q1 (.inl rfl) os))
     clear HS q1
     have HYZ := HY1
     go_wp2_with (first | ((with_reducible refine Who.wpList_loadC 77 (.tmp 13) rfl (bk) (off + j * 5) (Fc.xattrC y) ?_); refine And.intro ⟨by rfl, by rfl, ⟨_, Tryz.underlying77, rfl⟩, infoX⟩ (And.intro (MR.out) ?_)) | ((with_reducible refine Who.wpList_newC 77 8 (.tmp 14) rfl rfl rfl (zeroX) (Fc.xattrC y) ?_); refine And.intro ⟨rfl, rfl, rfl, allocX, by rfl, by rfl, infoX, rfl, oneX y⟩ ?_; (try simp only [World.size_alloc])) | ((with_reducible refine Who.wpList_loadC 77 (.tmp 8) rfl (wr.heap.size) 0 (Fc.xattrC y) ?_); refine And.intro ⟨by rfl, by rfl, ⟨_, Tryz.underlying77, rfl⟩, infoX⟩ (And.intro (Who.has_range HYZ.out) ?_)) | ((with_reducible refine wpl_build1 kdX (.tmp 37) rfl (y) ?_); refine And.intro ⟨rfl, by rfl⟩ ?_) | (at_builtin; (with_reducible refine wpl_one (B := w.heap.size + 1) (u := (.slice (A5) os.length c5)) (es := os) (e := y) kdX (.tmp 36) (.tmp 38) rfl rfl ?_); refine And.intro ⟨⟨by rfl, ⟨_, by rfl, by simp⟩⟩, HI1.out.own, HI1.out.lt, (by have := HLL.out; omega)⟩ ?_) | fail)
     intro u7 w7 g7
     have HI7 := Lib.hid (HI1.out.grew g7)
     clear g7
     go_wp2
     go_roundw
     case rel => exact ⟨j + 1, by go_num, by omega, _, _, rfl, HS2, Lib.hid (by have := HL3.out; simp; omega), HI7⟩
     case measure => simp [intOf]; omega
    | false =>
     go_wp2_with (first | ((with_reducible refine Who.wpList_loadC 77 (.tmp 13) rfl (bk) (off + j * 5) (Fc.xattrC y) ?_); refine And.intro ⟨by rfl, by rfl, ⟨_, Tryz.underlying77, rfl⟩, infoX⟩ (And.intro (MR.out) ?_)) | ((with_reducible refine Who.wpList_newC 77 8 (.tmp 14) rfl rfl rfl (zeroX) (Fc.xattrC y) ?_); refine And.intro ⟨rfl, rfl, rfl, allocX, by rfl, by rfl, infoX, rfl, oneX y⟩ ?_; (try simp only [World.size_alloc])) | fail)
     refine (rsless_any x.name y.name HX.out.1 HTY.out.1 _).mono ?_
     rintro e w1 ⟨rfl, hb⟩
     have HYZ := Lib.hid (HY1.out.below hb)
     have HI2 := Lib.hid (HI1.out.low hb)
     have HNE := HNQ
     clear hb HI1 HY1 k1 k2 c1 c2
     cases k3 : Op.bytesLess x.name.toList y.name.toList with
     | true =>
      have HS2 := Lib.hid (HS.out.trans (sd_in q1 k3 os))
      clear HS q1 k3
      go_wp2_with (first | ((with_reducible refine Who.wpList_loadC 77 (.tmp 3) rfl (w.heap.size) 0 (Fc.xattrC x) ?_); refine And.intro ⟨by rfl, by rfl, ⟨_, Tryz.underlying77, rfl⟩, infoX⟩ (And.intro (Who.has_range HI2.out.hx) ?_)) | ((with_reducible refine wpl_build1 kdX (.tmp 33) rfl (x) ?_); refine And.intro ⟨rfl, by rfl⟩ ?_) | (at_builtin; (with_reducible refine wpl_one (B := w.heap.size + 1) (u := (.slice (A5) os.length c5)) (es := os) (e := x) kdX (.tmp 32) (.tmp 34) rfl rfl ?_); refine And.intro ⟨⟨by rfl, ⟨_, by rfl, by simp⟩⟩, HI2.out.own, HI2.out.lt, (by have := HLL.out; omega)⟩ ?_; intro u6 w6 g6; have HI6 := Lib.hid (HI2.out.grew g6); have HY6 := Lib.hid (HYZ.out.over g6.chg HNE.out); clear g6) | ((with_reducible refine Who.wpList_loadC 77 (.tmp 8) rfl (wr.heap.size) 0 (Fc.xattrC y) ?_); refine And.intro ⟨by rfl, by rfl, ⟨_, Tryz.underlying77, rfl⟩, infoX⟩ (And.intro (Who.has_range HY6.out) ?_)) | ((with_reducible refine wpl_build1 kdX (.tmp 37) rfl (y) ?_); refine And.intro ⟨rfl, by rfl⟩ ?_) | (at_builtin; (with_reducible refine wpl_one (B := w.heap.size + 1) (u := u6) (es := (os ++ [x])) (e := y) kdX (.tmp 36) (.tmp 38) rfl rfl ?_); refine And.intro ⟨⟨by rfl, ⟨_, by rfl, by simp⟩⟩, HI6.out.own, HI6.out.lt, (by have := HLL.out; simp; omega)⟩ ?_) | fail)
      intro u7 w7 g7
      have HI7 := Lib.hid (HI6.out.grew g7)
      clear g7
      go_wp2
      go_roundw
      case rel => exact ⟨j + 1, by go_num, by omega, _, _, rfl, HS2, Lib.hid (by have := HL3.out; simp; omega), HI7⟩
      case measure => simp [intOf]; omega
     | false =>
      have HS2 := Lib.hid (HS.out.trans (sd_past q1 (.inr k3) os))
      clear HS q1 k3
      go_wp2_with (first | ((with_reducible refine Who.wpList_loadC 77 (.tmp 8) rfl (wr.heap.size) 0 (Fc.xattrC y) ?_); refine And.intro ⟨by rfl, by rfl, ⟨_, Tryz.underlying77, rfl⟩, infoX⟩ (And.intro (Who.has_range HYZ.out) ?_)) | ((with_reducible refine wpl_build1 kdX (.tmp 37) rfl (y) ?_); refine And.intro ⟨rfl, by rfl⟩ ?_) | (at_builtin; (with_reducible refine wpl_one (B := w.heap.size + 1) (u := (.slice (A5) os.length c5)) (es := os) (e := y) kdX (.tmp 36) (.tmp 38) rfl rfl ?_); refine And.intro ⟨⟨by rfl, ⟨_, by rfl, by simp⟩⟩, HI2.out.own, HI2.out.lt, (by have := HLL.out; omega)⟩ ?_) | fail)
      intro u7 w7 g7
      have HI7 := Lib.hid (HI2.out.grew g7)
      clear g7
      go_wp2
      go_roundw
      case rel => exact ⟨j + 1, by go_num, by omega, _, _, rfl, HS2, Lib.hid (by have := HL3.out; simp; omega), HI7⟩
      case measure => simp [intOf]; omega
  ·have hjn : j = n := by omega
   have HD := Lib.hid (doc_end (hjn.trans HLN.out) HF.out)
   have HLL := Lib.hid (show os.length + 2 ≤ 4000000 by have := HL.out; omega)
   clear HF hjn
   obtain ⟨A5, c5, hv, _⟩ := HI.out.own.any
   subst hv
   cases b with
   | true =>
    go_wp2
    go_ret
    exact ⟨_, rfl, by rw [HD.out]; exact HI.out.own.mono (Nat.le_succ _), HI.out.below⟩
   | false =>
    go_wp2_with (first | ((with_reducible refine Who.wpList_loadC 77 (.tmp 3) rfl (w.heap.size) 0 (Fc.xattrC x) ?_); refine And.intro ⟨by rfl, by rfl, ⟨_, Tryz.underlying77, rfl⟩, infoX⟩ (And.intro (Who.has_range HI.out.hx) ?_)) | ((with_reducible refine wpl_build1 kdX (.tmp 44) rfl (x) ?_); refine And.intro ⟨rfl, by rfl⟩ ?_) | (at_builtin; (with_reducible refine wpl_one (B := w.heap.size + 1) (u := (.slice (A5) os.length c5)) (es := os) (e := x) kdX (.tmp 43) (.tmp 45) rfl rfl ?_); refine And.intro ⟨⟨by rfl, ⟨_, by rfl, by simp⟩⟩, HI.out.own, HI.out.lt, (by have := HLL.out; omega)⟩ ?_) | fail)
    intro u6 w6 g6
    have HI6 := Lib.hid (HI.out.grew g6)
    clear g6
    go_wp2
    go_ret
    exact ⟨_, rfl, by rw [HD.out]; exact HI6.out.own.mono (Nat.le_succ _), HI6.out.below⟩
end Go.Proofs.YtblogecapegbmaaGreat.Jn
