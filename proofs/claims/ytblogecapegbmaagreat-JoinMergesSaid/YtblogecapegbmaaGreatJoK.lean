/- Join: the document's node: rows of inodes with one more. -/
import Derived.Test.YtblogecapegbmaaGreatJoJ
namespace Go.Proofs.YtblogecapegbmaaGreat.Jn
open Go.RowKit Go.Proofs.YtblogecapegbmaaGreat.Mem
set_option linter.unusedVariables false set_option linter.unusedSimpArgs false set_option linter.unusedSectionVars false

theorem NodeOwn.mono {B B2 : Nat} {w : World} {z : Fc.NodeC} (h : NodeOwn B w z) (hb : B2 ≤ B) : NodeOwn B2 w z := ⟨h.ps.mono hb, h.xs.mono hb⟩
theorem NodeOwn.isIn {B : Nat} {w : World} {z : Fc.NodeC} (h : NodeOwn B w z) : NodeIn w z := ⟨⟨OwnK.srow2 h.ps (fun _ => rfl) (own_len h.ps), own_nil h.ps⟩, ⟨OwnK.srow2 h.xs (fun _ => rfl) (own_len h.xs), own_nil h.xs⟩⟩
theorem NodeIn.len {w : World} {z : Fc.NodeC} (h : NodeIn w z) : z.n1 = z.p.ps.length ∧ z.n2 = z.p.xs.length := ⟨h.ps.row.len.symm, h.xs.row.len.symm⟩
theorem NodeOwn.other {B B2 k2 : Nat} {w w' : World} {z : Fc.NodeC} {v : Value} {es : List Fc.NodeC} (h : NodeOwn B w z) (hu : OwnK w B2 46 k2 Fc.nodeC v es) (hc : Chg (fun q => v.ownBlock = some q) w w') : NodeOwn B w' z := ⟨own_other h.ps hu hc (by decide), own_other h.xs hu hc (by decide)⟩
theorem info_sn : (Tryz.prog.info? 24).map (·.size) = some 1 := by kernel_rfl
theorem NodeOwn.past {B : Nat} {w w' : World} {z : Fc.NodeC} {g : Nat} {cs : Array Value} (h : NodeOwn B w z) (hx : Has w g 27 cs) (hc : Chg (· = g) w w') : NodeOwn B w' z := ⟨own_has h.ps hx hc (by decide), own_has h.xs hx hc (by decide)⟩
/-- What may be put together. -/
structure Fits (n : Fc.NodeP) : Prop where
 txt : TxtN n
 few : n.ps.length ≤ 400000 ∧ n.xs.length ≤ 400000
/-- What the loop keeps of inodes. -/
structure InsN (w wr : World) (cs : Array Value) (v : Value) (os : List Fc.NodeC) : Prop where
 ins : InsI w wr 46 13 Fc.nodeC cs v os
 each : ∀ y ∈ os, NodeOwn 0 wr y
section
variable {w wr w2 : World} {cs : Array Value} {v v2 : Value} {os : List Fc.NodeC}
theorem InsN.low (h : InsN w wr cs v os) (hb : Below wr.heap.size wr w2) : InsN w w2 cs v os := ⟨h.ins.low hb, fun y hy => (h.each y hy).below hb⟩
theorem InsN.grew (h : InsN w wr cs v os) {e : Fc.NodeC} (he : NodeOwn 0 wr e) (g : GrewK (w.heap.size + 1) wr w2 46 13 Fc.nodeC v v2 os [e]) : InsN w w2 cs v2 (os ++ [e]) := ⟨h.ins.grew g, fun y hy => by
  rcases List.mem_append.1 hy with hy | hy
  ·exact (h.each y hy).other h.ins.own g.chg
  ·rw [List.mem_singleton.1 hy]
   exact he.other h.ins.own g.chg⟩
theorem InsN.put (h : InsN w wr cs v os) {g : Nat} {ds : Array Value} (hx : Has wr g 46 ds) (hc : Chg (· = g) wr w2) (hg : w.heap.size + 1 ≤ g) (hn : ¬ v.ownBlock = some g) : InsN w w2 cs v os := ⟨ins_put h.ins hc hg hn, fun y hy => (h.each y hy).over hx hc⟩
end
theorem rnode2 (a b : Fc.NodeC) (w : World) (ha : NodeIn w a) (hb : NodeIn w b) (fa : Fits a.p) (fb : Fits b.p) : Calls Tryz.prog 94 #[.agg (Fc.nodeC a), .agg (Fc.nodeC b)] w fun e w' => ∃ c, e = .returned (.agg (Fc.nodeC c)) ∧ c.p = opN a.p b.p ∧ NodeOwn w.heap.size w' c ∧ Below w.heap.size w w' := by
 obtain ⟨a1, a2⟩ := ha.len
 obtain ⟨b1, b2⟩ := hb.len
 have := fa.few
 have := fb.few
 exact rtwo_any a b w ha hb fa.txt fb.txt (by omega) (by omega)
set_option maxRecDepth 100000 in
set_option maxHeartbeats 16000000 in
theorem rnodes_ins (A : Option Addr) (n c : Nat) (l : List Fc.NodeC) (x : Fc.NodeC) (w : World) (hr : RowOk w 13 Fc.nodeC ⟨A, n, c, l⟩) (hm : n ≤ 1000000) (hT : ∀ y ∈ l, NodeOwn 0 w y ∧ Fits y.p) (hx : NodeIn w x) (hf : Fits x.p) :
  Calls Tryz.prog 47 #[.slice A n c, .agg (Fc.nodeC x)] w fun e w' => ∃ v ys, e = .returned v ∧ OwnK w' w.heap.size 46 13 Fc.nodeC v ys ∧ ys.map Fc.NodeC.p = docIns stLt Fc.NodeP.id opN nrmN (l.map Fc.NodeC.p) x.p ∧ (∀ y ∈ ys, NodeOwn 0 w' y) ∧ Below w.heap.size w w' := by
 have HR := Lib.hid hr.row
 have HLN := Lib.hid (show n = (l.map Fc.NodeC.p).length from by rw [List.length_map]; exact hr.row.len.symm)
 have HT := Lib.hid hT
 have HX := Lib.hid (show ∀ V, Below w.heap.size w V → NodeIn V x from fun V h => hx.below h)
 have HF := Lib.hid hf
 have HNS := Lib.hid (show nrmN x.p = opN x.p x.p from (joins_N.self x.p).symm)
 have H0 := Lib.hid (show InsN w (w.alloc (.cells (Fc.nodeC x) 46)) (Fc.nodeC x) (.slice none 0 0) [] from ⟨InsI.start w 46 13 Fc.nodeC (Fc.nodeC x), fun y hy => by cases hy⟩)
 clear hr hT hx hf
 go_enter Tryz.func47, Tryz.ntmps47
 go_wp2_with fail
 go_loopw [5, 6, 11] (fun v d i wr => ∃ j : Nat, i = .int .i64 j ∧ j ≤ n ∧ ∃ os b, d = .bool b ∧ Hid (((l.map Fc.NodeC.p).take j).foldl (stepD stLt Fc.NodeP.id opN nrmN x.p) ([], false) = (os.map Fc.NodeC.p, b)) ∧ Hid (os.length ≤ 2 * j) ∧ Hid (InsN w wr (Fc.nodeC x) v os)) (fun _ _ i _ => n - (intOf i).toNat)
 case atStart => exact ⟨0, rfl, Nat.zero_le _, [], false, rfl, Lib.hid rfl, Lib.hid (Nat.le_refl _), H0⟩
 case round =>
  clear H0
  obtain ⟨j, rfl, hj, os, b, rfl, HFO, HL, HI⟩ := hrel
  by_cases hlt : j < n
  ·obtain ⟨bk, off, hA, hbl, hxj, mr⟩ := (HR.out.below HI.out.ins.below).range (i := j) hlt
   have hxj : j < l.length := hxj
   obtain ⟨y, hy⟩ : ∃ y, l[j] = y := ⟨_, rfl⟩
   have HS := Lib.hid (sfold_next (l := l.map Fc.NodeC.p) (y := y.p) (by rw [List.length_map]; exact hxj) (by rw [List.getElem_map, hy]) HFO.out)
   have HTY := Lib.hid (HT.out y (hy ▸ List.getElem_mem hxj))
   replace mr : wr.rangeAt bk (off + j * 13) (Fc.nodeC y).toList := by rw [← hy]; exact mr
   have MR := Lib.hid mr
   have HYN := Lib.hid (show ∀ V, Below w.heap.size w V → NodeOwn 0 V y from fun V h => HTY.out.1.below h)
   have HY1 := Lib.hid (Has.fresh wr 46 (Fc.nodeC y))
   have HI1 := Lib.hid (HI.out.low ((Below.refl wr.heap.size wr).alloc (Nat.le_refl _) (.cells (Fc.nodeC y) 46)))
   have HBL := Lib.hid HI.out.ins.lt
   have HLL := Lib.hid (show os.length + 2 ≤ 4000000 by have := HL.out; omega)
   have HL3 := Lib.hid (show os.length + 2 ≤ 2 * (j + 1) by have := HL.out; omega)
   have HNQ := Lib.hid (own_ne HI.out.ins.own HI.out.ins.own (Nat.le_refl wr.heap.size))
   rw [hA]
   clear mr hA hbl hxj hy HFO HL
   obtain ⟨A5, c5, hv, _⟩ := HI.out.ins.own.any
   subst hv
   clear HI
   by_cases q1 : y.p.id = x.p.id
   ·have HS2 := Lib.hid (HS.out.trans (sd_eq q1 (os.map Fc.NodeC.p) b))
    clear HS
    have heq : ∀ w : World, (Op.equalIn 10000 37 (.agg #[.int .i64 y.p.id.1, .int .i64 y.p.id.2]) (.agg #[.int .i64 x.p.id.1, .int .i64 x.p.id.2])).run Tryz.prog w = .ok true w := fun w => by have h := Vc.eqs y.p.id.1 y.p.id.2 x.p.id.1 x.p.id.2 w; rw [show (y.p.id.1 == x.p.id.1 && y.p.id.2 == x.p.id.2) = true by simp [q1]] at h; exact h
    clear q1
    go_wp2_with (first | ((with_reducible refine Who.wpList_loadC 46 (.tmp 13) rfl (bk) (off + j * 13) (Fc.nodeC y) ?_); refine And.intro ⟨by rfl, by rfl, ⟨_, Tryz.underlying46, rfl⟩, infoN⟩ (And.intro (MR.out) ?_)) | ((with_reducible refine Who.wpList_newC 46 8 (.tmp 14) rfl rfl rfl (zeroN) (Fc.nodeC y) ?_); refine And.intro ⟨rfl, rfl, rfl, allocN, by rfl, by rfl, infoN, rfl, oneN y⟩ ?_; (try simp only [World.size_alloc])) | ((with_reducible refine Who.wpList_loadC 37 (.tmp 15) rfl (wr.heap.size) 0 (#[.int .i64 y.p.id.1, .int .i64 y.p.id.2]) ?_); refine And.intro ⟨by rfl, by rfl, ⟨_, Tryz.underlying37, rfl⟩, info_st⟩ (And.intro (nodeIds_rng HY1.out) ?_)) | ((with_reducible refine Who.wpList_loadC 37 (.tmp 17) rfl (w.heap.size) 0 (#[.int .i64 x.p.id.1, .int .i64 x.p.id.2]) ?_); refine And.intro ⟨by rfl, by rfl, ⟨_, Tryz.underlying37, rfl⟩, info_st⟩ (And.intro (nodeIds_rng HI1.out.ins.hx) ?_)) | ((with_reducible refine Who.wpList_loadC 46 (.tmp 8) rfl (wr.heap.size) 0 (Fc.nodeC y) ?_); refine And.intro ⟨by rfl, by rfl, ⟨_, Tryz.underlying46, rfl⟩, infoN⟩ (And.intro (Who.has_range HY1.out) ?_)) | ((with_reducible refine Who.wpList_loadC 46 (.tmp 3) rfl (w.heap.size) 0 (Fc.nodeC x) ?_); refine And.intro ⟨by rfl, by rfl, ⟨_, Tryz.underlying46, rfl⟩, infoN⟩ (And.intro (Who.has_range HI1.out.ins.hx) ?_)) | fail)
    refine (rnode2 y x _ (HYN.out _ HI1.out.ins.below).isIn (HX.out _ HI1.out.ins.below) HTY.out.2 HF.out).mono ?_
    rintro e w1 ⟨c, rfl, hcp, hco, hb⟩
    have HI2 := Lib.hid (HI1.out.low hb)
    have HY2 := Lib.hid (HY1.out.below hb)
    have HCO := Lib.hid (hco.mono (Nat.zero_le _))
    have HS3 := Lib.hid (HS2.out.trans (show (os.map Fc.NodeC.p ++ [opN y.p x.p], true) = ((os ++ [c]).map Fc.NodeC.p, true) from by rw [List.map_append, List.map_singleton, hcp]))
    clear hb HI1 HY1 heq hcp hco HS2
    go_wp2_with (first | ((with_reducible refine wpList_storeG 46 (.tmp 8) (.tmp 22) rfl (wr.heap.size) (Fc.nodeC y) (Fc.nodeC c) ?_); refine And.intro ⟨rfl, by rfl, by rfl, infoN, oneN _, rfl, HY2.out⟩ ?_; intro W40 HX40 HC40; have HI3 := Lib.hid (HI2.out.put HY2.out HC40.out HBL.out HNQ.out); have HCO3 := Lib.hid (HCO.out.over HY2.out HC40.out)) | ((with_reducible refine Who.wpList_loadC 46 (.tmp 8) rfl (wr.heap.size) 0 (Fc.nodeC c) ?_); refine And.intro ⟨by rfl, by rfl, ⟨_, Tryz.underlying46, rfl⟩, infoN⟩ (And.intro (Who.has_range HX40.out) ?_)) | ((with_reducible refine wpl_build1 kdN (.tmp 39) rfl (c) ?_); refine And.intro ⟨rfl, by rfl⟩ ?_) | (at_builtin; (with_reducible refine wpl_one (B := w.heap.size + 1) (u := (.slice (A5) os.length c5)) (es := os) (e := c) kdN (.tmp 38) (.tmp 40) rfl rfl ?_); refine And.intro ⟨⟨by rfl, ⟨_, by rfl, by simp⟩⟩, HI3.out.ins.own, HI3.out.ins.lt, (by have := HLL.out; omega)⟩ ?_) | fail)
    intro u9 w9 g9
    have HI9 := Lib.hid (HI3.out.grew HCO3.out g9)
    clear g9
    go_wp2
    go_roundw
    case rel => exact ⟨j + 1, by go_num, by omega, _, _, rfl, HS3, Lib.hid (by have := HL3.out; simp; omega), HI9⟩
    case measure => simp [intOf]; omega
   ·have heq : ∀ w : World, (Op.equalIn 10000 37 (.agg #[.int .i64 y.p.id.1, .int .i64 y.p.id.2]) (.agg #[.int .i64 x.p.id.1, .int .i64 x.p.id.2])).run Tryz.prog w = .ok false w := fun w => by have h := Vc.eqs y.p.id.1 y.p.id.2 x.p.id.1 x.p.id.2 w; rw [show (y.p.id.1 == x.p.id.1 && y.p.id.2 == x.p.id.2) = false by (cases hq : (y.p.id.1 == x.p.id.1 && y.p.id.2 == x.p.id.2) with | false => rfl | true => simp at hq; exact absurd (Prod.ext hq.1 hq.2) q1)] at h; exact h
    cases b with
    | true =>
     have HS2 := Lib.hid (HS.out.trans (sd_past q1 (.inl rfl) (os.map Fc.NodeC.p)))
     have HS3 := Lib.hid (show _ = ((os ++ [y]).map Fc.NodeC.p, true) from by simp only [List.map_append, List.map_singleton]; exact HS2.out)
     clear HS HS2 q1
     go_wp2_with (first | ((with_reducible refine Who.wpList_loadC 46 (.tmp 13) rfl (bk) (off + j * 13) (Fc.nodeC y) ?_); refine And.intro ⟨by rfl, by rfl, ⟨_, Tryz.underlying46, rfl⟩, infoN⟩ (And.intro (MR.out) ?_)) | ((with_reducible refine Who.wpList_newC 46 8 (.tmp 14) rfl rfl rfl (zeroN) (Fc.nodeC y) ?_); refine And.intro ⟨rfl, rfl, rfl, allocN, by rfl, by rfl, infoN, rfl, oneN y⟩ ?_; (try simp only [World.size_alloc])) | ((with_reducible refine Who.wpList_loadC 37 (.tmp 15) rfl (wr.heap.size) 0 (#[.int .i64 y.p.id.1, .int .i64 y.p.id.2]) ?_); refine And.intro ⟨by rfl, by rfl, ⟨_, Tryz.underlying37, rfl⟩, info_st⟩ (And.intro (nodeIds_rng HY1.out) ?_)) | ((with_reducible refine Who.wpList_loadC 37 (.tmp 17) rfl (w.heap.size) 0 (#[.int .i64 x.p.id.1, .int .i64 x.p.id.2]) ?_); refine And.intro ⟨by rfl, by rfl, ⟨_, Tryz.underlying37, rfl⟩, info_st⟩ (And.intro (nodeIds_rng HI1.out.ins.hx) ?_)) | ((with_reducible refine Who.wpList_loadC 46 (.tmp 8) rfl (wr.heap.size) 0 (Fc.nodeC y) ?_); refine And.intro ⟨by rfl, by rfl, ⟨_, Tryz.underlying46, rfl⟩, infoN⟩ (And.intro (Who.has_range HY1.out) ?_)) | ((with_reducible refine wpl_build1 kdN (.tmp 39) rfl (y) ?_); refine And.intro ⟨rfl, by rfl⟩ ?_) | (at_builtin; (with_reducible refine wpl_one (B := w.heap.size + 1) (u := (.slice (A5) os.length c5)) (es := os) (e := y) kdN (.tmp 38) (.tmp 40) rfl rfl ?_); refine And.intro ⟨⟨by rfl, ⟨_, by rfl, by simp⟩⟩, HI1.out.ins.own, HI1.out.ins.lt, (by have := HLL.out; omega)⟩ ?_) | fail)
     intro u9 w9 g9
     have HI9 := Lib.hid (HI1.out.grew (HYN.out _ HI1.out.ins.below) g9)
     clear g9
     go_wp2
     go_roundw
     case rel => exact ⟨j + 1, by go_num, by omega, _, _, rfl, HS3, Lib.hid (by have := HL3.out; simp; omega), HI9⟩
     case measure => simp [intOf]; omega
    | false =>
     go_wp2_with (first | ((with_reducible refine Who.wpList_loadC 46 (.tmp 13) rfl (bk) (off + j * 13) (Fc.nodeC y) ?_); refine And.intro ⟨by rfl, by rfl, ⟨_, Tryz.underlying46, rfl⟩, infoN⟩ (And.intro (MR.out) ?_)) | ((with_reducible refine Who.wpList_newC 46 8 (.tmp 14) rfl rfl rfl (zeroN) (Fc.nodeC y) ?_); refine And.intro ⟨rfl, rfl, rfl, allocN, by rfl, by rfl, infoN, rfl, oneN y⟩ ?_; (try simp only [World.size_alloc])) | ((with_reducible refine Who.wpList_loadC 37 (.tmp 15) rfl (wr.heap.size) 0 (#[.int .i64 y.p.id.1, .int .i64 y.p.id.2]) ?_); refine And.intro ⟨by rfl, by rfl, ⟨_, Tryz.underlying37, rfl⟩, info_st⟩ (And.intro (nodeIds_rng HY1.out) ?_)) | ((with_reducible refine Who.wpList_loadC 37 (.tmp 17) rfl (w.heap.size) 0 (#[.int .i64 x.p.id.1, .int .i64 x.p.id.2]) ?_); refine And.intro ⟨by rfl, by rfl, ⟨_, Tryz.underlying37, rfl⟩, info_st⟩ (And.intro (nodeIds_rng HI1.out.ins.hx) ?_)) | ((with_reducible refine Who.wpList_loadC 37 (.tmp 26) rfl (w.heap.size) 0 (#[.int .i64 x.p.id.1, .int .i64 x.p.id.2]) ?_); refine And.intro ⟨by rfl, by rfl, ⟨_, Tryz.underlying37, rfl⟩, info_st⟩ (And.intro (nodeIds_rng HI1.out.ins.hx) ?_)) | ((with_reducible refine Who.wpList_loadC 37 (.tmp 28) rfl (wr.heap.size) 0 (#[.int .i64 y.p.id.1, .int .i64 y.p.id.2]) ?_); refine And.intro ⟨by rfl, by rfl, ⟨_, Tryz.underlying37, rfl⟩, info_st⟩ (And.intro (nodeIds_rng HY1.out) ?_)) | fail)
     refine (Vc.rless_any x.p.id.1 x.p.id.2 y.p.id.1 y.p.id.2 _).mono ?_
     rintro e w1 ⟨rfl, hb⟩
     have HY2 := Lib.hid (HY1.out.below hb)
     have HI2 := Lib.hid (HI1.out.low hb)
     clear hb HI1 HY1 heq
     cases k3 : Vc.lessB x.p.id.1 x.p.id.2 y.p.id.1 y.p.id.2 with
     | false =>
      have HS2 := Lib.hid (HS.out.trans (sd_past q1 (.inr k3) (os.map Fc.NodeC.p)))
      have HS3 := Lib.hid (show _ = ((os ++ [y]).map Fc.NodeC.p, false) from by simp only [List.map_append, List.map_singleton]; exact HS2.out)
      clear HS HS2 q1 k3
      go_wp2_with (first | ((with_reducible refine Who.wpList_loadC 46 (.tmp 8) rfl (wr.heap.size) 0 (Fc.nodeC y) ?_); refine And.intro ⟨by rfl, by rfl, ⟨_, Tryz.underlying46, rfl⟩, infoN⟩ (And.intro (Who.has_range HY2.out) ?_)) | ((with_reducible refine wpl_build1 kdN (.tmp 39) rfl (y) ?_); refine And.intro ⟨rfl, by rfl⟩ ?_) | (at_builtin; (with_reducible refine wpl_one (B := w.heap.size + 1) (u := (.slice (A5) os.length c5)) (es := os) (e := y) kdN (.tmp 38) (.tmp 40) rfl rfl ?_); refine And.intro ⟨⟨by rfl, ⟨_, by rfl, by simp⟩⟩, HI2.out.ins.own, HI2.out.ins.lt, (by have := HLL.out; omega)⟩ ?_) | fail)
      intro u9 w9 g9
      have HI9 := Lib.hid (HI2.out.grew (HYN.out _ HI2.out.ins.below) g9)
      clear g9
      go_wp2
      go_roundw
      case rel => exact ⟨j + 1, by go_num, by omega, _, _, rfl, HS3, Lib.hid (by have := HL3.out; simp; omega), HI9⟩
      case measure => simp [intOf]; omega
     | true =>
      have HS2 := Lib.hid (HS.out.trans (sd_in q1 k3 (os.map Fc.NodeC.p)))
      clear HS q1 k3
      go_wp2_with (first | ((with_reducible refine Who.wpList_loadC 46 (.tmp 3) rfl (w.heap.size) 0 (Fc.nodeC x) ?_); refine And.intro ⟨by rfl, by rfl, ⟨_, Tryz.underlying46, rfl⟩, infoN⟩ (And.intro (Who.has_range HI2.out.ins.hx) ?_)) | fail)
      refine (rnode2 x x _ (HX.out _ HI2.out.ins.below) (HX.out _ HI2.out.ins.below) HF.out HF.out).mono ?_
      rintro e w2 ⟨c, rfl, hcp, hco, hb⟩
      have HI3 := Lib.hid (HI2.out.low hb)
      have HY3 := Lib.hid (HY2.out.below hb)
      have HCO := Lib.hid (hco.mono (Nat.zero_le _))
      have HS3 := Lib.hid (HS2.out.trans (show (os.map Fc.NodeC.p ++ [nrmN x.p] ++ [y.p], true) = ((os ++ [c] ++ [y]).map Fc.NodeC.p, true) from by simp only [List.map_append, List.map_singleton]; rw [hcp, ← HNS.out]))
      clear hb HI2 HY2 hcp hco HS2
      go_wp2_with (first | ((with_reducible refine wpl_build1 kdN (.tmp 35) rfl (c) ?_); refine And.intro ⟨rfl, by rfl⟩ ?_) | (at_builtin; (with_reducible refine wpl_one (B := w.heap.size + 1) (u := (.slice (A5) os.length c5)) (es := os) (e := c) kdN (.tmp 32) (.tmp 36) rfl rfl ?_); refine And.intro ⟨⟨by rfl, ⟨_, by rfl, by simp⟩⟩, HI3.out.ins.own, HI3.out.ins.lt, (by have := HLL.out; omega)⟩ ?_; intro u6 w6 g6; have HI6 := Lib.hid (HI3.out.grew HCO.out g6); have HY6 := Lib.hid (HY3.out.over g6.chg HNQ.out); clear g6) | ((with_reducible refine Who.wpList_loadC 46 (.tmp 8) rfl (wr.heap.size) 0 (Fc.nodeC y) ?_); refine And.intro ⟨by rfl, by rfl, ⟨_, Tryz.underlying46, rfl⟩, infoN⟩ (And.intro (Who.has_range HY6.out) ?_)) | ((with_reducible refine wpl_build1 kdN (.tmp 39) rfl (y) ?_); refine And.intro ⟨rfl, by rfl⟩ ?_) | (at_builtin; (with_reducible refine wpl_one (B := w.heap.size + 1) (u := u6) (es := (os ++ [c])) (e := y) kdN (.tmp 38) (.tmp 40) rfl rfl ?_); refine And.intro ⟨⟨by rfl, ⟨_, by rfl, by simp⟩⟩, HI6.out.ins.own, HI6.out.ins.lt, (by have := HLL.out; simp; omega)⟩ ?_) | fail)
      intro u9 w9 g9
      have HI9 := Lib.hid (HI6.out.grew (HYN.out _ HI6.out.ins.below) g9)
      clear g9
      go_wp2
      go_roundw
      case rel => exact ⟨j + 1, by go_num, by omega, _, _, rfl, HS3, Lib.hid (by have := HL3.out; simp; omega), HI9⟩
      case measure => simp [intOf]; omega
  ·have hjn : j = n := by omega
   have HD := Lib.hid (doc_end (hjn.trans HLN.out) HFO.out)
   have HLL := Lib.hid (show os.length + 2 ≤ 4000000 by have := HL.out; omega)
   clear HFO hjn
   obtain ⟨A5, c5, hv, _⟩ := HI.out.ins.own.any
   subst hv
   cases b with
   | true =>
    go_wp2
    go_ret
    exact ⟨_, rfl, os, HI.out.ins.own.mono (Nat.le_succ _), HD.out.symm, HI.out.each, HI.out.ins.below⟩
   | false =>
    go_wp2_with (first | ((with_reducible refine Who.wpList_loadC 46 (.tmp 3) rfl (w.heap.size) 0 (Fc.nodeC x) ?_); refine And.intro ⟨by rfl, by rfl, ⟨_, Tryz.underlying46, rfl⟩, infoN⟩ (And.intro (Who.has_range HI.out.ins.hx) ?_)) | fail)
    refine (rnode2 x x _ (HX.out _ HI.out.ins.below) (HX.out _ HI.out.ins.below) HF.out HF.out).mono ?_
    rintro e w2 ⟨c, rfl, hcp, hco, hb⟩
    have HI3 := Lib.hid (HI.out.low hb)
    have HCO := Lib.hid (hco.mono (Nat.zero_le _))
    have HD2 := Lib.hid (show (os ++ [c]).map Fc.NodeC.p = os.map Fc.NodeC.p ++ [nrmN x.p] from by rw [List.map_append, List.map_singleton, hcp, ← HNS.out])
    clear hb hcp hco
    go_wp2_with (first | ((with_reducible refine wpl_build1 kdN (.tmp 48) rfl (c) ?_); refine And.intro ⟨rfl, by rfl⟩ ?_) | (at_builtin; (with_reducible refine wpl_one (B := w.heap.size + 1) (u := (.slice (A5) os.length c5)) (es := os) (e := c) kdN (.tmp 45) (.tmp 49) rfl rfl ?_); refine And.intro ⟨⟨by rfl, ⟨_, by rfl, by simp⟩⟩, HI3.out.ins.own, HI3.out.ins.lt, (by have := HLL.out; omega)⟩ ?_) | fail)
    intro u6 w6 g6
    have HI6 := Lib.hid (HI3.out.grew HCO.out g6)
    clear g6
    go_wp2
    go_ret
    first | exact ⟨_, rfl, _, HI6.out.ins.own.mono (Nat.le_succ _), HD2.out.trans HD.out.symm, HI6.out.each, HI6.out.ins.below⟩ | exact ⟨_, _, rfl, HI6.out.ins.own.mono (Nat.le_succ _), HD2.out.trans HD.out.symm, HI6.out.each, HI6.out.ins.below⟩
end Go.Proofs.YtblogecapegbmaaGreat.Jn
