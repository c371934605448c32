/- Join: the document's link, put and name: rows with one more. -/
import Derived.Test.YtblogecapegbmaaGreatJnA
import Derived.Test.YtblogecapegbmaaGreatJoH
namespace Go.Proofs.YtblogecapegbmaaGreat.Jn
open Go.RowKit Go.Proofs.YtblogecapegbmaaGreat.Mem
set_option linter.unusedVariables false set_option linter.unusedSimpArgs false set_option linter.unusedSectionVars false

section
variable {α κ : Type} [DecidableEq κ] {lt : κ → κ → Bool} {key : α → κ} {op : α → α → α} {nrm : α → α}
theorem sd_eq {x y : α} (h : key y = key x) (os : List α) (b : Bool) : stepD lt key op nrm x (os, b) y = (os ++ [op y x], true) := if_pos h
theorem sd_in {x y : α} (h : key y ≠ key x) (hl : lt (key x) (key y) = true) (os : List α) : stepD lt key op nrm x (os, false) y = (os ++ [nrm x] ++ [y], true) := by
 unfold stepD
 rw [if_neg h, if_pos ⟨rfl, hl⟩]
 simp
theorem sd_past {x y : α} (h : key y ≠ key x) {b : Bool} (hl : b = true ∨ lt (key x) (key y) = false) (os : List α) : stepD lt key op nrm x (os, b) y = (os ++ [y], b) := by
 unfold stepD
 rw [if_neg h, if_neg]
 rintro ⟨h1, h2⟩
 replace h1 : b = false := h1
 rcases hl with hl | hl
 ·rw [h1] at hl; cases hl
 ·rw [h2] at hl; cases hl
theorem sfold_next {x y : α} {l : List α} {j : Nat} {st : List α × Bool} (hj : j < l.length) (hy : l[j] = y) (h : (l.take j).foldl (stepD lt key op nrm x) ([], false) = st) : (l.take (j + 1)).foldl (stepD lt key op nrm x) ([], false) = stepD lt key op nrm x st y := by
 rw [List.take_succ_eq_append_getElem hj, List.foldl_append, h, hy]
 rfl
theorem doc_end {x : α} {l : List α} {j : Nat} {os : List α} {b : Bool} (hj : j = l.length) (h : (l.take j).foldl (stepD lt key op nrm x) ([], false) = (os, b)) : docIns lt key op nrm l x = if b = true then os else os ++ [nrm x] := by
 rw [hj, List.take_length] at h
 unfold docIns
 rw [h]
end
/-- What the loops of the document keep: the box of x, and the row that grows. -/
structure InsI {α : Type} (w wr : World) (E : TypeId) (k : Nat) (C : α → Array Value) (cs : Array Value) (v : Value) (os : List α) : Prop where
 below : Below w.heap.size w wr
 hx : Has wr w.heap.size E cs
 own : OwnK wr (w.heap.size + 1) E k C v os
section
variable {α : Type} {w wr w2 : World} {E : TypeId} {k : Nat} {C : α → Array Value} {cs : Array Value} {v v2 : Value} {os : List α}
theorem InsI.start (w : World) (E : TypeId) (k : Nat) (C : α → Array Value) (cs : Array Value) : InsI w (w.alloc (.cells cs E)) E k C cs (.slice none 0 0) [] := ⟨(Below.refl w.heap.size w).alloc (Nat.le_refl _) _, Has.fresh w E cs, OwnK.nil _ _ _ _ _⟩
theorem InsI.low (h : InsI w wr E k C cs v os) (hb : Below wr.heap.size wr w2) : InsI w w2 E k C cs v os := ⟨h.below.trans (hb.mono h.below.size), h.hx.below hb, h.own.below hb⟩
theorem InsI.lt (h : InsI w wr E k C cs v os) : w.heap.size + 1 ≤ wr.heap.size := by
 have := h.hx
 have h2 := (Array.getElem?_eq_some_iff.1 this).1
 omega
theorem InsI.grew (h : InsI w wr E k C cs v os) {e : α} (g : GrewK (w.heap.size + 1) wr w2 E k C v v2 os [e]) : InsI w w2 E k C cs v2 (os ++ [e]) := by
 refine ⟨h.below.trans (g.below.mono (Nat.le_succ _)), h.hx.over g.chg fun e => ?_, g.row⟩
 rcases h.own.sl with ⟨rfl, _⟩ | ⟨g2, cap, rfl, hB, _⟩
 ·cases e
 ·simp [Value.ownBlock] at e
  omega
end
theorem rpiece_op (a b : Fc.PieceP) (ha : a.data.size ≤ maxLen) (hb : b.data.size ≤ maxLen) (w : World) : Calls Tryz.prog 164 #[.agg (Fc.pieceC a), .agg (Fc.pieceC b)] w fun e w' => e = .returned (.agg (Fc.pieceC (opP a b))) ∧ Below w.heap.size w w' := rpiece_one a b ha hb w
theorem rxattr_op (a b : Fc.XattrP) (ha : a.val.size ≤ maxLen) (hb : b.val.size ≤ maxLen) (w : World) : Calls Tryz.prog 165 #[.agg (Fc.xattrC a), .agg (Fc.xattrC b)] w fun e w' => e = .returned (.agg (Fc.xattrC (opX a b))) ∧ Below w.heap.size w w' := rxattr_one a b ha hb w
/-- A block that is newer than a row that one owns is not that row's. -/
theorem own_ne {α : Type} {wr w1 : World} {B B2 : Nat} {E : TypeId} {k : Nat} {C : α → Array Value} {v : Value} {os os2 : List α} (_ : OwnK w1 B2 E k C v os2) (h : OwnK wr B E k C v os) {g : Nat} (hg : wr.heap.size ≤ g) : ¬ v.ownBlock = some g := fun e => by
 have := World.ownsRow.lt h g e
 omega
theorem ins_put {α : Type} {w w1 w2 : World} {E : TypeId} {k : Nat} {C : α → Array Value} {cs : Array Value} {v : Value} {os : List α} {g : Nat} (h : InsI w w1 E k C cs v os) (hc : Chg (· = g) w1 w2) (hg : w.heap.size + 1 ≤ g) (hn : ¬ v.ownBlock = some g) : InsI w w2 E k C cs v os :=
 ⟨below_step h.below hc (by omega), h.hx.over hc (by omega), by
  refine World.ownsRow.kept h.own (row := some g) ⟨hc.os, hc.tape, hc.output, hc.size, fun q hq hq2 => hc.block q hq (fun e => hq2 (by rw [e]))⟩ ?_
  cases hv : v.ownBlock with
  | none => simp
  | some b => simp; intro e; exact hn (by rw [hv, e])⟩
set_option maxRecDepth 100000 in
set_option maxHeartbeats 16000000 in
theorem rlink_ins (A : Option Addr) (n c : Nat) (l : List Fc.LinkP) (x : Fc.LinkP) (w : World) (hr : RowOk w 25 Fc.linkC ⟨A, n, c, l⟩) (hm : n ≤ 1000000) (hT : ∀ y ∈ l, y.name.size ≤ maxLen) (hx : x.name.size ≤ maxLen) :
  Calls Tryz.prog 48 #[.slice A n c, .agg (Fc.linkC x)] w fun e w' => ∃ v, e = .returned v ∧ OwnK w' w.heap.size 51 25 Fc.linkC v (docIns stLt Fc.LinkP.id opL id l x) ∧ Below w.heap.size w w' := by
 have HR := Lib.hid hr.row
 have HLN := Lib.hid (show n = l.length from hr.row.len.symm)
 have HT := Lib.hid hT
 have HX := Lib.hid hx
 have H0 := Lib.hid (InsI.start w 51 25 Fc.linkC (Fc.linkC x))
 clear hr hT hx
 go_enter Tryz.func48, Tryz.ntmps48
 go_wp2_with fail
 go_loopw [5, 6, 11] (fun v d i wr => ∃ j : Nat, i = .int .i64 j ∧ j ≤ n ∧ ∃ os b, d = .bool b ∧ Hid ((l.take j).foldl (stepD stLt Fc.LinkP.id opL id x) ([], false) = (os, b)) ∧ Hid (os.length ≤ 2 * j) ∧ Hid (InsI w wr 51 25 Fc.linkC (Fc.linkC x) v os)) (fun _ _ i _ => n - (intOf i).toNat)
 case atStart => exact ⟨0, rfl, Nat.zero_le _, [], false, rfl, Lib.hid rfl, Lib.hid (Nat.le_refl _), H0⟩
 case round =>
  clear H0
  obtain ⟨j, rfl, hj, os, b, rfl, HF, HL, HI⟩ := hrel
  by_cases hlt : j < n
  ·obtain ⟨bk, off, hA, hbl, hxj, mr⟩ := (HR.out.below HI.out.below).range (i := j) hlt
   have HN := Lib.hid (fun y (hy : l[j] = y) => sfold_next hxj hy HF.out)
   have HTY := Lib.hid (HT.out _ (List.getElem_mem hxj))
   obtain ⟨y, hy⟩ : ∃ y, l[j] = y := ⟨_, rfl⟩
   have HS := Lib.hid (HN.out y hy)
   rw [hy] at mr HTY
   have MR := Lib.hid mr
   have HY1 := Lib.hid (Has.fresh wr 51 (Fc.linkC y))
   have HI1 := Lib.hid (HI.out.low ((Below.refl wr.heap.size wr).alloc (Nat.le_refl _) (.cells (Fc.linkC y) 51)))
   have HBL := Lib.hid HI.out.lt
   have HLL := Lib.hid (show os.length + 2 ≤ 4000000 by have := HL.out; omega)
   have HL3 := Lib.hid (show os.length + 2 ≤ 2 * (j + 1) by have := HL.out; omega)
   rw [hA]
   clear mr hA hbl hxj hy HN HF HL
   obtain ⟨A5, c5, hv, _⟩ := HI.out.own.any
   subst hv
   have HI0 := HI
   have HNQ := Lib.hid (own_ne HI.out.own HI.out.own (Nat.le_refl wr.heap.size))
   clear HI
   by_cases q1 : y.id = x.id
   ·have HS2 := Lib.hid (HS.out.trans (sd_eq q1 os b))
    clear HS
    have heq : ∀ w : World, (Op.equalIn 10000 37 (.agg #[.int .i64 y.id.1, .int .i64 y.id.2]) (.agg #[.int .i64 x.id.1, .int .i64 x.id.2])).run Tryz.prog w = .ok true w := fun w => by have h := Vc.eqs y.id.1 y.id.2 x.id.1 x.id.2 w; rw [show (y.id.1 == x.id.1 && y.id.2 == x.id.2) = true by simp [q1]] at h; exact h
    clear q1
    go_wp2_with (first | ((with_reducible refine Who.wpList_loadC 51 (.tmp 13) rfl (bk) (off + j * 25) (Fc.linkC y) ?_); refine And.intro ⟨by rfl, by rfl, ⟨_, Tryz.underlying51, rfl⟩, info_link⟩ (And.intro (MR.out) ?_)) | ((with_reducible refine Who.wpList_newC 51 8 (.tmp 14) rfl rfl rfl (zeroL) (Fc.linkC y) ?_); refine And.intro ⟨rfl, rfl, rfl, allocL, by rfl, by rfl, info_link, rfl, own1 y⟩ ?_; (try simp only [World.size_alloc])) | ((with_reducible refine Who.wpList_loadC 37 (.tmp 15) rfl (wr.heap.size) 0 (#[.int .i64 y.id.1, .int .i64 y.id.2]) ?_); refine And.intro ⟨by rfl, by rfl, ⟨_, Tryz.underlying37, rfl⟩, info_st⟩ (And.intro (link_id HY1.out) ?_)) | ((with_reducible refine Who.wpList_loadC 37 (.tmp 17) rfl (w.heap.size) 0 (#[.int .i64 x.id.1, .int .i64 x.id.2]) ?_); refine And.intro ⟨by rfl, by rfl, ⟨_, Tryz.underlying37, rfl⟩, info_st⟩ (And.intro (link_id HI1.out.hx) ?_)) | ((with_reducible refine Who.wpList_loadC 51 (.tmp 8) rfl (wr.heap.size) 0 (Fc.linkC y) ?_); refine And.intro ⟨by rfl, by rfl, ⟨_, Tryz.underlying51, rfl⟩, info_link⟩ (And.intro (Who.has_range HY1.out) ?_)) | ((with_reducible refine Who.wpList_loadC 51 (.tmp 3) rfl (w.heap.size) 0 (Fc.linkC x) ?_); refine And.intro ⟨by rfl, by rfl, ⟨_, Tryz.underlying51, rfl⟩, info_link⟩ (And.intro (Who.has_range HI1.out.hx) ?_)) | fail)
    refine (rlink_one y x HTY.out HX.out _).mono ?_
    rintro e w1 ⟨rfl, hb⟩
    have HI2 := Lib.hid (HI1.out.low hb)
    have HY2 := Lib.hid (HY1.out.below hb)
    have HW := Lib.hid (show wr.heap.size + 1 ≤ w1.heap.size by have := hb.size; simpa using this)
    clear hb HI1 HY1 heq
    go_wp2_with (first | ((with_reducible refine wpList_storeG 51 (.tmp 8) (.tmp 22) rfl (wr.heap.size) (Fc.linkC y) (Fc.linkC (opL y x)) ?_); refine And.intro ⟨rfl, by rfl, by rfl, info_link, own1 _, rfl, HY2.out⟩ ?_; intro W40 HX40 HC40; have HI3 := Lib.hid (ins_put HI2.out HC40.out HBL.out HNQ.out)) | ((with_reducible refine Who.wpList_loadC 51 (.tmp 8) rfl (wr.heap.size) 0 (Fc.linkC (opL y x)) ?_); refine And.intro ⟨by rfl, by rfl, ⟨_, Tryz.underlying51, rfl⟩, info_link⟩ (And.intro (Who.has_range HX40.out) ?_)) | ((with_reducible refine wpl_build1 kdL (.tmp 37) rfl (opL y x) ?_); refine And.intro ⟨rfl, by rfl⟩ ?_) | (at_builtin; (with_reducible refine wpl_one (B := w.heap.size + 1) (u := (.slice (A5) os.length c5)) (es := os) (e := opL y x) kdL (.tmp 36) (.tmp 38) rfl rfl ?_); refine And.intro ⟨⟨by rfl, ⟨_, by rfl, by simp⟩⟩, HI3.out.own, HI3.out.lt, (by have := HLL.out; omega)⟩ ?_) | fail)
    intro u6 w6 g6
    have HI6 := Lib.hid (HI3.out.grew g6)
    clear g6
    go_wp2
    go_roundw
    case rel => exact ⟨j + 1, by go_num, by omega, _, _, rfl, HS2, Lib.hid (by have := HL3.out; simp; omega), HI6⟩
    case measure => simp [intOf]; omega
   ·have heq : ∀ w : World, (Op.equalIn 10000 37 (.agg #[.int .i64 y.id.1, .int .i64 y.id.2]) (.agg #[.int .i64 x.id.1, .int .i64 x.id.2])).run Tryz.prog w = .ok false w := fun w => by have h := Vc.eqs y.id.1 y.id.2 x.id.1 x.id.2 w; rw [show (y.id.1 == x.id.1 && y.id.2 == x.id.2) = false by (cases hq : (y.id.1 == x.id.1 && y.id.2 == x.id.2) with | false => rfl | true => simp at hq; exact absurd (Prod.ext hq.1 hq.2) q1)] at h; exact h
    cases b with
    | true =>
     have HS2 := Lib.hid (HS.out.trans (sd_past q1 (.inl rfl) os))
     clear HS q1
     have HYZ := HY1
     go_wp2_with (first | ((with_reducible refine Who.wpList_loadC 51 (.tmp 13) rfl (bk) (off + j * 25) (Fc.linkC y) ?_); refine And.intro ⟨by rfl, by rfl, ⟨_, Tryz.underlying51, rfl⟩, info_link⟩ (And.intro (MR.out) ?_)) | ((with_reducible refine Who.wpList_newC 51 8 (.tmp 14) rfl rfl rfl (zeroL) (Fc.linkC y) ?_); refine And.intro ⟨rfl, rfl, rfl, allocL, by rfl, by rfl, info_link, rfl, own1 y⟩ ?_; (try simp only [World.size_alloc])) | ((with_reducible refine Who.wpList_loadC 37 (.tmp 15) rfl (wr.heap.size) 0 (#[.int .i64 y.id.1, .int .i64 y.id.2]) ?_); refine And.intro ⟨by rfl, by rfl, ⟨_, Tryz.underlying37, rfl⟩, info_st⟩ (And.intro (link_id HY1.out) ?_)) | ((with_reducible refine Who.wpList_loadC 37 (.tmp 17) rfl (w.heap.size) 0 (#[.int .i64 x.id.1, .int .i64 x.id.2]) ?_); refine And.intro ⟨by rfl, by rfl, ⟨_, Tryz.underlying37, rfl⟩, info_st⟩ (And.intro (link_id HI1.out.hx) ?_)) | ((with_reducible refine Who.wpList_loadC 51 (.tmp 8) rfl (wr.heap.size) 0 (Fc.linkC y) ?_); refine And.intro ⟨by rfl, by rfl, ⟨_, Tryz.underlying51, rfl⟩, info_link⟩ (And.intro (Who.has_range HYZ.out) ?_)) | ((with_reducible refine wpl_build1 kdL (.tmp 37) rfl (y) ?_); refine And.intro ⟨rfl, by rfl⟩ ?_) | (at_builtin; (with_reducible refine wpl_one (B := w.heap.size + 1) (u := (.slice (A5) os.length c5)) (es := os) (e := y) kdL (.tmp 36) (.tmp 38) rfl rfl ?_); refine And.intro ⟨⟨by rfl, ⟨_, by rfl, by simp⟩⟩, HI1.out.own, HI1.out.lt, (by have := HLL.out; omega)⟩ ?_) | fail)
     intro u7 w7 g7
     have HI7 := Lib.hid (HI1.out.grew g7)
     clear g7
     go_wp2
     go_roundw
     case rel => exact ⟨j + 1, by go_num, by omega, _, _, rfl, HS2, Lib.hid (by have := HL3.out; simp; omega), HI7⟩
     case measure => simp [intOf]; omega
    | false =>
     go_wp2_with (first | ((with_reducible refine Who.wpList_loadC 51 (.tmp 13) rfl (bk) (off + j * 25) (Fc.linkC y) ?_); refine And.intro ⟨by rfl, by rfl, ⟨_, Tryz.underlying51, rfl⟩, info_link⟩ (And.intro (MR.out) ?_)) | ((with_reducible refine Who.wpList_newC 51 8 (.tmp 14) rfl rfl rfl (zeroL) (Fc.linkC y) ?_); refine And.intro ⟨rfl, rfl, rfl, allocL, by rfl, by rfl, info_link, rfl, own1 y⟩ ?_; (try simp only [World.size_alloc])) | ((with_reducible refine Who.wpList_loadC 37 (.tmp 15) rfl (wr.heap.size) 0 (#[.int .i64 y.id.1, .int .i64 y.id.2]) ?_); refine And.intro ⟨by rfl, by rfl, ⟨_, Tryz.underlying37, rfl⟩, info_st⟩ (And.intro (link_id HY1.out) ?_)) | ((with_reducible refine Who.wpList_loadC 37 (.tmp 17) rfl (w.heap.size) 0 (#[.int .i64 x.id.1, .int .i64 x.id.2]) ?_); refine And.intro ⟨by rfl, by rfl, ⟨_, Tryz.underlying37, rfl⟩, info_st⟩ (And.intro (link_id HI1.out.hx) ?_)) | ((with_reducible refine Who.wpList_loadC 37 (.tmp 26) rfl (w.heap.size) 0 (#[.int .i64 x.id.1, .int .i64 x.id.2]) ?_); refine And.intro ⟨by rfl, by rfl, ⟨_, Tryz.underlying37, rfl⟩, info_st⟩ (And.intro (link_id HI1.out.hx) ?_)) | ((with_reducible refine Who.wpList_loadC 37 (.tmp 28) rfl (wr.heap.size) 0 (#[.int .i64 y.id.1, .int .i64 y.id.2]) ?_); refine And.intro ⟨by rfl, by rfl, ⟨_, Tryz.underlying37, rfl⟩, info_st⟩ (And.intro (link_id HY1.out) ?_)) | fail)
     refine (Vc.rless_any x.id.1 x.id.2 y.id.1 y.id.2 _).mono ?_
     rintro e w1 ⟨rfl, hb⟩
     have HYZ := Lib.hid (HY1.out.below hb)
     have HI2 := Lib.hid (HI1.out.low hb)
     have HNE := HNQ
     clear hb HI1 HY1 heq
     cases k3 : Vc.lessB x.id.1 x.id.2 y.id.1 y.id.2 with
     | true =>
      have HS2 := Lib.hid (HS.out.trans (sd_in q1 k3 os))
      clear HS q1 k3
      go_wp2_with (first | ((with_reducible refine Who.wpList_loadC 51 (.tmp 3) rfl (w.heap.size) 0 (Fc.linkC x) ?_); refine And.intro ⟨by rfl, by rfl, ⟨_, Tryz.underlying51, rfl⟩, info_link⟩ (And.intro (Who.has_range HI2.out.hx) ?_)) | ((with_reducible refine wpl_build1 kdL (.tmp 33) rfl (x) ?_); refine And.intro ⟨rfl, by rfl⟩ ?_) | (at_builtin; (with_reducible refine wpl_one (B := w.heap.size + 1) (u := (.slice (A5) os.length c5)) (es := os) (e := x) kdL (.tmp 32) (.tmp 34) rfl rfl ?_); refine And.intro ⟨⟨by rfl, ⟨_, by rfl, by simp⟩⟩, HI2.out.own, HI2.out.lt, (by have := HLL.out; omega)⟩ ?_; intro u6 w6 g6; have HI6 := Lib.hid (HI2.out.grew g6); have HY6 := Lib.hid (HYZ.out.over g6.chg HNE.out); clear g6) | ((with_reducible refine Who.wpList_loadC 51 (.tmp 8) rfl (wr.heap.size) 0 (Fc.linkC y) ?_); refine And.intro ⟨by rfl, by rfl, ⟨_, Tryz.underlying51, rfl⟩, info_link⟩ (And.intro (Who.has_range HY6.out) ?_)) | ((with_reducible refine wpl_build1 kdL (.tmp 37) rfl (y) ?_); refine And.intro ⟨rfl, by rfl⟩ ?_) | (at_builtin; (with_reducible refine wpl_one (B := w.heap.size + 1) (u := u6) (es := (os ++ [x])) (e := y) kdL (.tmp 36) (.tmp 38) rfl rfl ?_); refine And.intro ⟨⟨by rfl, ⟨_, by rfl, by simp⟩⟩, HI6.out.own, HI6.out.lt, (by have := HLL.out; simp; omega)⟩ ?_) | fail)
      intro u7 w7 g7
      have HI7 := Lib.hid (HI6.out.grew g7)
      clear g7
      go_wp2
      go_roundw
      case rel => exact ⟨j + 1, by go_num, by omega, _, _, rfl, HS2, Lib.hid (by have := HL3.out; simp; omega), HI7⟩
      case measure => simp [intOf]; omega
     | false =>
      have HS2 := Lib.hid (HS.out.trans (sd_past q1 (.inr k3) os))
      clear HS q1 k3
      go_wp2_with (first | ((with_reducible refine Who.wpList_loadC 51 (.tmp 8) rfl (wr.heap.size) 0 (Fc.linkC y) ?_); refine And.intro ⟨by rfl, by rfl, ⟨_, Tryz.underlying51, rfl⟩, info_link⟩ (And.intro (Who.has_range HYZ.out) ?_)) | ((with_reducible refine wpl_build1 kdL (.tmp 37) rfl (y) ?_); refine And.intro ⟨rfl, by rfl⟩ ?_) | (at_builtin; (with_reducible refine wpl_one (B := w.heap.size + 1) (u := (.slice (A5) os.length c5)) (es := os) (e := y) kdL (.tmp 36) (.tmp 38) rfl rfl ?_); refine And.intro ⟨⟨by rfl, ⟨_, by rfl, by simp⟩⟩, HI2.out.own, HI2.out.lt, (by have := HLL.out; omega)⟩ ?_) | fail)
      intro u7 w7 g7
      have HI7 := Lib.hid (HI2.out.grew g7)
      clear g7
      go_wp2
      go_roundw
      case rel => exact ⟨j + 1, by go_num, by omega, _, _, rfl, HS2, Lib.hid (by have := HL3.out; simp; omega), HI7⟩
      case measure => simp [intOf]; omega
  ·have hjn : j = n := by omega
   have HD := Lib.hid (doc_end (hjn.trans HLN.out) HF.out)
   have HLL := Lib.hid (show os.length + 2 ≤ 4000000 by have := HL.out; omega)
   clear HF hjn
   obtain ⟨A5, c5, hv, _⟩ := HI.out.own.any
   subst hv
   cases b with
   | true =>
    go_wp2
    go_ret
    exact ⟨_, rfl, by rw [HD.out]; exact HI.out.own.mono (Nat.le_succ _), HI.out.below⟩
   | false =>
    go_wp2_with (first | ((with_reducible refine Who.wpList_loadC 51 (.tmp 3) rfl (w.heap.size) 0 (Fc.linkC x) ?_); refine And.intro ⟨by rfl, by rfl, ⟨_, Tryz.underlying51, rfl⟩, info_link⟩ (And.intro (Who.has_range HI.out.hx) ?_)) | ((with_reducible refine wpl_build1 kdL (.tmp 44) rfl (x) ?_); refine And.intro ⟨rfl, by rfl⟩ ?_) | (at_builtin; (with_reducible refine wpl_one (B := w.heap.size + 1) (u := (.slice (A5) os.length c5)) (es := os) (e := x) kdL (.tmp 43) (.tmp 45) rfl rfl ?_); refine And.intro ⟨⟨by rfl, ⟨_, by rfl, by simp⟩⟩, HI.out.own, HI.out.lt, (by have := HLL.out; omega)⟩ ?_) | fail)
    intro u6 w6 g6
    have HI6 := Lib.hid (HI.out.grew g6)
    clear g6
    go_wp2
    go_ret
    exact ⟨_, rfl, by rw [HD.out]; exact HI6.out.own.mono (Nat.le_succ _), HI6.out.below⟩
end Go.Proofs.YtblogecapegbmaaGreat.Jn
