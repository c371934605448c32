/- Join: the document's States: two states as one. -/
import Derived.Test.YtblogecapegbmaaGreatJoK
namespace Go.Proofs.YtblogecapegbmaaGreat.Jn
open Go.RowKit Go.Proofs.YtblogecapegbmaaGreat.Mem
open Go.Proofs.YtblogecapegbmaaGreat.Vc (joinV vecC)
set_option linter.unusedVariables false set_option linter.unusedSimpArgs false set_option linter.unusedSectionVars false

/-- Inodes that may be put together. -/
structure SumOk (l : List Fc.NodeP) : Prop where
 ps : (l.map fun n => n.ps.length).sum ≤ 200000
 xs : (l.map fun n => n.xs.length).sum ≤ 200000
 txt : ∀ y ∈ l, TxtN y
theorem SumOk.nil : SumOk [] := ⟨by simp, by simp, fun y hy => by cases hy⟩
theorem sum_take (f : Fc.NodeP → Nat) (l : List Fc.NodeP) (j : Nat) : ((l.take j).map f).sum ≤ (l.map f).sum := by
 have h : (l.map f).sum = ((l.take j).map f).sum + ((l.drop j).map f).sum := by
  rw [← List.sum_append_nat, ← List.map_append, List.take_append_drop]
 omega
theorem SumOk.take {l : List Fc.NodeP} (h : SumOk l) (j : Nat) : SumOk (l.take j) := ⟨Nat.le_trans (sum_take _ l j) h.ps, Nat.le_trans (sum_take _ l j) h.xs, fun y hy => h.txt y (List.mem_of_mem_take hy)⟩
theorem le_sumN (f : Fc.NodeP → Nat) : ∀ (l : List Fc.NodeP), ∀ y ∈ l, f y ≤ (l.map f).sum
 | z :: r, y, hy => by
  rw [List.map_cons, List.sum_cons]
  rcases List.mem_cons.1 hy with rfl | hy
  ·omega
  ·have := le_sumN f r y hy
   omega
theorem SumOk.fits {l : List Fc.NodeP} (h : SumOk l) : ∀ y ∈ l, Fits y := fun y hy => ⟨h.txt y hy, by
 have h1 := le_sumN (fun n => n.ps.length) l y hy
 have h2 := le_sumN (fun n => n.xs.length) l y hy
 have := h.ps
 have := h.xs
 omega⟩
theorem fits_mrg {l k : List Fc.NodeP} (h : SumOk l) (h2 : SumOk k) : ∀ y ∈ mrgN (l ++ k), Fits y := fun y hy => by
 have p1 : ((mrgN (l ++ k)).map fun n => n.ps.length).sum ≤ ((l ++ k).map fun n => n.ps.length).sum := mrg_sum (fun n : Fc.NodeP => n.ps.length) (fun x y => by
  have q : (mrgP (x.ps ++ y.ps)).length ≤ (x.ps ++ y.ps).length := mrg_len _
  rw [List.length_append] at q
  exact q) (fun x => mrg_len _) _
 have p2 : ((mrgN (l ++ k)).map fun n => n.xs.length).sum ≤ ((l ++ k).map fun n => n.xs.length).sum := mrg_sum (fun n : Fc.NodeP => n.xs.length) (fun x y => by
  have q : (mrgX (x.xs ++ y.xs)).length ≤ (x.xs ++ y.xs).length := mrg_len _
  rw [List.length_append] at q
  exact q) (fun x => mrg_len _) _
 rw [List.map_append, List.sum_append_nat] at p1 p2
 have q1 := le_sumN (fun n => n.ps.length) _ y hy
 have q2 := le_sumN (fun n => n.xs.length) _ y hy
 have := h.ps
 have := h.xs
 have := h2.ps
 have := h2.xs
 exact ⟨mrgQ_mem (P := TxtN) (fun a b ha hb => ha.op hb) (fun a ha => ha.nrm) (l ++ k) (fun z hz => (List.mem_append.1 hz).elim (h.txt z) (h2.txt z)) y hy, by omega⟩
theorem txt_mrgL {l : List Fc.LinkP} (h : ∀ y ∈ l, y.name.size ≤ maxLen) : ∀ y ∈ mrgL l, y.name.size ≤ maxLen := mrgQ_mem (P := fun y : Fc.LinkP => y.name.size ≤ maxLen) (fun a b ha hb => by
 show (top ltL (plL a) (plL b)).2.2.size ≤ maxLen
 unfold top
 split
 ·exact hb
 ·exact ha) (fun a h => h) l h
/-- A state as it is being made. -/
def sd (v : Nat → Int) (r : RowP Fc.NodeC) (q : RowP Fc.LinkP) : Fc.StateC := ⟨v, r.A, r.n, r.c, q.A, q.n, q.c, r.l, q.l⟩
theorem build_sd (v : Nat → Int) (w : World) : (Instr.build 27 #[(0, .agg (vecC v))]).run Tryz.prog w = .ok (.agg (Fc.stateC (sd v r0 r0))) w := run_build w _ _ _ (by kernel_rfl)
theorem wpList_buildS {ops : Array Oper} {rest : List Oper} {o : Oper} {a : Act} {w : World} {Q : Exit → Act → World → Prop} (x : Operand) (v : Nat → Int) (ho : o.op = .build 27 #[(0, x)])
  (h : (o.guard = none ∧ a.eval x = .agg (vecC v)) ∧ wpList Tryz.prog ops Q rest (a.put o.dst (.agg (Fc.stateC (sd v r0 r0)))) w) : wpList Tryz.prog ops Q (o :: rest) a w := by
 obtain ⟨⟨h1, h2⟩, h3⟩ := h
 refine wpList_plain h1 fun K hK => ?_
 have e1 : (#[(0, x)] : Array (Nat × Operand)).map (fun (i, x) => (i, a.eval x)) = #[(0, .agg (vecC v))] := by simp [h2]
 have hb := build_sd v w
 unfold Oper.wp execOp
 simp only [ho, e1, Sem.run_bind, Sem.run_pure, Sem.run_map, hb, Result.andThen_ok]
 exact hK _ _ h3
theorem sd_seen {w : World} {g : Nat} {t : TypeId} {s : Fc.StateC} (h : Has w g t (Fc.stateC s)) : w.rangeAt g 0 (vecC s.seen).toList := range_of h fun j hj => by
 match j, (show j < 8 from hj) with
 | 0, _ | 1, _ | 2, _ | 3, _ | 4, _ | 5, _ | 6, _ | 7, _ => rfl
theorem StateOwn.low {B : Nat} {w w' : World} {s : Fc.StateC} (h : StateOwn B w s) (hb : Below w.heap.size w w') : StateOwn B w' s := ⟨h.nodes.below hb, h.links.below hb, fun z hz => (h.each z hz).below hb⟩
theorem StateOwn.past {B : Nat} {w w' : World} {s : Fc.StateC} {g : Nat} {cs : Array Value} (h : StateOwn B w s) (hx : Has w g 27 cs) (hc : Chg (· = g) w w') : StateOwn B w' s := ⟨own_has h.nodes hx hc (by decide), own_has h.links hx hc (by decide), fun z hz => (h.each z hz).past hx hc⟩
theorem own_rr {w : World} {v : Nat → Int} : StateOwn 0 w (sd v r0 r0) := ⟨OwnK.nil _ _ _ _ _, OwnK.nil _ _ _ _ _, fun y hy => by cases hy⟩
/-- What the walk keeps. -/
structure StI (w wr : World) (g : Nat) (a b s : Fc.StateC) : Prop where
 below : Below w.heap.size w wr
 gz : w.heap.size + 1 + 1 + 1 ≤ g
 ha : Has wr (w.heap.size) 27 (Fc.stateC a)
 hb : Has wr (w.heap.size + 1) 27 (Fc.stateC b)
 hz : Has wr (w.heap.size + 1 + 1) 27 zeroS
 hc : Has wr g 27 (Fc.stateC s)
 own : StateOwn 0 wr s
section
variable {w wr w2 : World} {g : Nat} {a b s d : Fc.StateC}
theorem StI.low (h : StI w wr g a b s) (hb : Below wr.heap.size wr w2) : StI w w2 g a b s := ⟨h.below.trans (hb.mono h.below.size), h.gz, h.ha.below hb, h.hb.below hb, h.hz.below hb, h.hc.below hb, h.own.low hb⟩
theorem StI.put (h : StI w wr g a b s) (hx : Has w2 g 27 (Fc.stateC d)) (hc : Chg (· = g) wr w2) (ho : StateOwn 0 wr d) : StI w w2 g a b d := ⟨below_step h.below hc (by have := h.gz; omega), h.gz, h.ha.over hc (by have := h.gz; omega), h.hb.over hc (by have := h.gz; omega), h.hz.over hc (by have := h.gz; omega), hx, ho.past h.hc hc⟩
theorem StI.start (h : TwoI w wr 27 (Fc.stateC a) (Fc.stateC b) zeroS) (hs : StateOwn 0 wr s) : StI w (wr.alloc (.cells (Fc.stateC s) 27)) wr.heap.size a b s := by
 have q := (Array.getElem?_eq_some_iff.1 h.hz).1
 have hbn := (Below.refl wr.heap.size wr).alloc (Nat.le_refl _) (.cells (Fc.stateC s) 27)
 exact ⟨h.below.trans (hbn.mono h.below.size), by omega, h.ha.past _, h.hb.past _, h.hz.past _, Has.fresh wr 27 (Fc.stateC s), hs.low hbn⟩
end
set_option maxRecDepth 100000 in
set_option maxHeartbeats 16000000 in
theorem rstates_any (a b : Fc.StateC) (w : World) (ha : StateIn w a) (hb : StateIn w b) (sa : SumOk (a.nodes.map Fc.NodeC.p)) (sb : SumOk (b.nodes.map Fc.NodeC.p)) (ta : ∀ y ∈ a.links, y.name.size ≤ maxLen) (tb : ∀ y ∈ b.links, y.name.size ≤ maxLen) (la : a.n1 ≤ 400000 ∧ a.n2 ≤ 400000) (lb : b.n1 ≤ 400000 ∧ b.n2 ≤ 400000) :
  Calls Tryz.prog 16 #[.agg (Fc.stateC a), .agg (Fc.stateC b)] w fun e w' => ∃ s, e = .returned (.agg (Fc.stateC s)) ∧ s.p = joinP a.p b.p ∧ StateOwn 0 w' s ∧ Below w.heap.size w w' := by
 have HSA := Lib.hid sa
 have HSB := Lib.hid sb
 have HTA := Lib.hid ta
 have HTB := Lib.hid tb
 have HIA := Lib.hid ha
 have HIB := Lib.hid hb
 have HLA := Lib.hid (show a.n1 = (a.nodes.map Fc.NodeC.p).length ∧ a.n2 = a.links.length from ⟨by rw [List.length_map]; exact ha.nodes.row.len.symm, ha.links.row.len.symm⟩)
 have HLB := Lib.hid (show b.n1 = (b.nodes.map Fc.NodeC.p).length ∧ b.n2 = b.links.length from ⟨by rw [List.length_map]; exact hb.nodes.row.len.symm, hb.links.row.len.symm⟩)
 obtain ⟨hma, hna⟩ := la
 obtain ⟨hmb, hnb⟩ := lb
 have HM := Lib.hid (show (a.n1 ≤ 400000 ∧ a.n2 ≤ 400000) ∧ b.n1 ≤ 400000 ∧ b.n2 ≤ 400000 from ⟨⟨hma, hna⟩, hmb, hnb⟩)
 have H0 := Lib.hid (TwoI.start w 27 (Fc.stateC a) (Fc.stateC b) zeroS)
 clear ha hb sa sb ta tb
 go_enter Tryz.func16, Tryz.ntmps16
 go_wp2_with (first | ((with_reducible refine Who.wpList_alloc 27 4 rfl rfl rfl (zeroS) allocS ?_); (try simp only [World.size_alloc])) | ((with_reducible refine Who.wpList_loadC 23 (.tmp 14) rfl (w.heap.size) 0 (vecC a.seen) ?_); refine And.intro ⟨by rfl, by rfl, ⟨_, Tryz.underlying23, rfl⟩, info_vec⟩ (And.intro (sd_seen H0.out.ha) ?_)) | ((with_reducible refine Who.wpList_loadC 23 (.tmp 16) rfl (w.heap.size + 1) 0 (vecC b.seen) ?_); refine And.intro ⟨by rfl, by rfl, ⟨_, Tryz.underlying23, rfl⟩, info_vec⟩ (And.intro (sd_seen H0.out.hb) ?_)) | fail)
 refine (Vc.rjoin_any a.seen b.seen _).mono ?_
 rintro e w1 ⟨rfl, hb⟩
 have H1 := Lib.hid (H0.out.low hb)
 clear hb H0
 obtain ⟨v, hv⟩ : ∃ v, v = joinV a.seen b.seen := ⟨_, rfl⟩
 have HV := Lib.hid hv
 rw [← hv]
 clear hv
 have H2 := Lib.hid (StI.start H1.out (own_rr (v := v)))
 have d1 : (w1.alloc (.cells (Fc.stateC (sd v r0 r0)) 27)).cell? ⟨w.heap.size, 8, none⟩ = some (.slice a.A1 a.n1 a.c1) := H2.out.ha.at_ 8
 obtain ⟨g, hg⟩ : ∃ g, g = w1.heap.size := ⟨_, rfl⟩
 rw [← hg] at H2
 go_wp2_with (first | ((with_reducible refine wpList_buildS (.tmp 18) v rfl ?_); refine And.intro ⟨rfl, by rfl⟩ ?_) | ((with_reducible refine Who.wpList_newC 27 5 (.tmp 19) rfl rfl rfl (zeroS) (Fc.stateC (sd v r0 r0)) ?_); refine And.intro ⟨rfl, rfl, rfl, allocS, by rfl, by rfl, info_state, rfl, state_one _⟩ ?_; (try simp only [World.size_alloc])) | fail)
 rw [← hg]
 clear d1 H1 hg
 go_loopw [23] (fun i wr => ∃ j : Nat, i = .int .i64 j ∧ j ≤ a.n1 ∧ ∃ r : RowP Fc.NodeC, Hid (r.l.map Fc.NodeC.p = mrgN ([] ++ (a.nodes.map Fc.NodeC.p).take j)) ∧ Hid (StI w wr g a b (sd v r r0))) (fun i _ => a.n1 - (intOf i).toNat)
 case atStart => exact ⟨0, rfl, Nat.zero_le _, r0, Lib.hid rfl, H2⟩
 case round =>
  clear H2
  obtain ⟨j, rfl, hj, r, HR, HN⟩ := hrel
  by_cases hlt : j < a.n1
  ·obtain ⟨bk, off, hA, hbl, hxj, mr⟩ := (HIA.out.nodes.row.below HN.out.below).range (i := j) hlt
   replace hxj : j < a.nodes.length := hxj
   obtain ⟨y, hy⟩ : ∃ y, a.nodes[j] = y := ⟨_, rfl⟩
   have HST := Lib.hid (show docIns stLt Fc.NodeP.id opN nrmN (r.l.map Fc.NodeC.p) y.p = mrgN ([] ++ (a.nodes.map Fc.NodeC.p).take (j + 1)) from by rw [HR.out]; exact mrg_step klt_st joins_N (by rw [List.length_map]; exact hxj) (by rw [List.getElem_map, hy]))
   have HTY := Lib.hid (show NodeIn (wr.alloc (.cells (Fc.nodeC y) 46)) y from (HIA.out.each y (hy ▸ List.getElem_mem hxj)).below (HN.out.below.trans (((Below.refl wr.heap.size wr).alloc (Nat.le_refl _) _).mono HN.out.below.size)))
   have HFY := Lib.hid (HSA.out.fits y.p (List.mem_map_of_mem (hy ▸ List.getElem_mem hxj)))
   have HFR := Lib.hid (show ∀ y ∈ r.l, Fits y.p from fun y hy => fits_mrg SumOk.nil (HSA.out.take j) y.p (by rw [← HR.out]; exact List.mem_map_of_mem hy))
   replace mr : wr.rangeAt bk (off + j * 13) (Fc.nodeC y).toList := by rw [← hy]; exact mr
   have MR := Lib.hid mr
   have HN1 := Lib.hid (HN.out.low ((Below.refl wr.heap.size wr).alloc (Nat.le_refl _) (.cells (Fc.nodeC y) 46)))
   have HY1 := Lib.hid (Has.fresh wr 46 (Fc.nodeC y))
   have HRL := Lib.hid (show r.n = r.l.length from own_len HN.out.own.nodes)
   have hq : r.l.length = (mrgN ([] ++ (a.nodes.map Fc.NodeC.p).take j)).length := by rw [← HR.out, List.length_map]
   have HRM := Lib.hid (show r.n ≤ 1000000 from by rw [HRL.out, hq]; refine Nat.le_trans (mrg_len _) ?_; simp only [List.length_append, List.length_take, List.length_nil]; have := HM.out; have := HLA.out; have := HLB.out; omega)
   clear hq
   have cc : (wr.alloc (.cells (Fc.nodeC y) 46)).cell? ⟨g, 8, none⟩ = some (.slice r.A r.n r.c) := HN1.out.hc.at_ 8
   replace hA : a.A1 = some ⟨bk, off, none⟩ := hA
   rw [hA]
   clear mr hA hbl hxj hy HN HR
   go_wp2_with (first | ((with_reducible refine Who.wpList_loadC 46 (.tmp 25) rfl (bk) (off + j * 13) (Fc.nodeC y) ?_); refine And.intro ⟨by rfl, by rfl, ⟨_, Tryz.underlying46, rfl⟩, infoN⟩ (And.intro (MR.out) ?_)) | ((with_reducible refine Who.wpList_newC 46 7 (.tmp 26) rfl rfl rfl (zeroN) (Fc.nodeC y) ?_); refine And.intro ⟨rfl, rfl, rfl, allocN, by rfl, by rfl, infoN, rfl, oneN y⟩ ?_; (try simp only [World.size_alloc])) | ((with_reducible refine Who.wpList_loadC 46 (.tmp 7) rfl (wr.heap.size) 0 (Fc.nodeC y) ?_); refine And.intro ⟨by rfl, by rfl, ⟨_, Tryz.underlying46, rfl⟩, infoN⟩ (And.intro (Who.has_range HY1.out) ?_)) | fail)
   refine (rnodes_ins r.A r.n r.c r.l y _ ⟨HN1.out.own.nodes.srow2 (fun _ => rfl) HRL.out, own_nil HN1.out.own.nodes⟩ HRM.out (fun y hy => ⟨HN1.out.own.each y hy, HFR.out y hy⟩) HTY.out HFY.out).mono ?_
   rintro e w2 ⟨v2, ys, rfl, ho, hys, hye, hb⟩
   have HN2 := Lib.hid (HN1.out.low hb)
   have HO := Lib.hid (show OwnK w2 0 46 13 Fc.nodeC v2 ys from ho.mono (Nat.zero_le _))
   have HL6 := Lib.hid (show ys.map Fc.NodeC.p = mrgN ([] ++ (a.nodes.map Fc.NodeC.p).take (j + 1)) from hys.trans HST.out)
   have HYE := Lib.hid hye
   clear ho hb hys hye HN1 HY1 HST HTY HFY HFR HRM cc
   obtain ⟨A6, c6, hv, _⟩ := HO.out.any
   subst hv
   go_wp2_with (first | ((with_reducible refine wpList_cell (T := 27) 24 (.tmp 31) (.tmp 30) rfl g 8 (Fc.stateC (sd v r r0)) (Fc.stateC (sd v ⟨A6, ys.length, c6, ys⟩ r0)) ((.slice A6 ys.length c6)) ?_); refine And.intro ⟨rfl, rfl, by rfl, by rfl, info_sn, rfl, of_decide_eq_true rfl, by kernel_rfl, HN2.out.hc⟩ ?_; intro W21 HX21 HC21) | fail)
   have HN3 := Lib.hid (HN2.out.put HX21.out HC21.out ⟨HO.out, HN2.out.own.links, HYE.out⟩)
   go_wp2
   go_roundw
   case rel => exact ⟨j + 1, by go_num, by omega, ⟨A6, ys.length, c6, ys⟩, HL6, HN3⟩
   case measure => simp [intOf]; omega
  ·have hjn : j = a.n1 := by omega
   have E1 := Lib.hid (show r.l.map Fc.NodeC.p = mrgN ([] ++ (a.nodes.map Fc.NodeC.p)) from by rw [HR.out, hjn, HLA.out.1, List.take_length])
   clear HR hjn
   obtain ⟨v1, hwo⟩ : ∃ wo : World, wo = wr := ⟨_, rfl⟩
   subst hwo
   obtain ⟨rA, hro⟩ : ∃ ro : RowP Fc.NodeC, ro = r := ⟨_, rfl⟩
   subst hro
   have N1 := HN
   clear HN
   have d2 : v1.cell? ⟨w.heap.size + 1, 8, none⟩ = some (.slice b.A1 b.n1 b.c1) := N1.out.hb.at_ 8
   go_wp2
   clear d2
   go_loopw [36] (fun i wr => ∃ j : Nat, i = .int .i64 j ∧ j ≤ b.n1 ∧ ∃ r : RowP Fc.NodeC, Hid (r.l.map Fc.NodeC.p = mrgN ((a.nodes.map Fc.NodeC.p) ++ (b.nodes.map Fc.NodeC.p).take j)) ∧ Hid (StI w wr g a b (sd v r r0))) (fun i _ => b.n1 - (intOf i).toNat)
   case atStart => exact ⟨0, rfl, Nat.zero_le _, rA, Lib.hid (by rw [E1.out]; simp), N1⟩
   case round =>
    clear N1
    obtain ⟨j, rfl, hj, r, HR, HN⟩ := hrel
    by_cases hlt : j < b.n1
    ·obtain ⟨bk, off, hA, hbl, hxj, mr⟩ := (HIB.out.nodes.row.below HN.out.below).range (i := j) hlt
     replace hxj : j < b.nodes.length := hxj
     obtain ⟨y, hy⟩ : ∃ y, b.nodes[j] = y := ⟨_, rfl⟩
     have HST := Lib.hid (show docIns stLt Fc.NodeP.id opN nrmN (r.l.map Fc.NodeC.p) y.p = mrgN ((a.nodes.map Fc.NodeC.p) ++ (b.nodes.map Fc.NodeC.p).take (j + 1)) from by rw [HR.out]; exact mrg_step klt_st joins_N (by rw [List.length_map]; exact hxj) (by rw [List.getElem_map, hy]))
     have HTY := Lib.hid (show NodeIn (wr.alloc (.cells (Fc.nodeC y) 46)) y from (HIB.out.each y (hy ▸ List.getElem_mem hxj)).below (HN.out.below.trans (((Below.refl wr.heap.size wr).alloc (Nat.le_refl _) _).mono HN.out.below.size)))
     have HFY := Lib.hid (HSB.out.fits y.p (List.mem_map_of_mem (hy ▸ List.getElem_mem hxj)))
     have HFR := Lib.hid (show ∀ y ∈ r.l, Fits y.p from fun y hy => fits_mrg HSA.out (HSB.out.take j) y.p (by rw [← HR.out]; exact List.mem_map_of_mem hy))
     replace mr : wr.rangeAt bk (off + j * 13) (Fc.nodeC y).toList := by rw [← hy]; exact mr
     have MR := Lib.hid mr
     have HN1 := Lib.hid (HN.out.low ((Below.refl wr.heap.size wr).alloc (Nat.le_refl _) (.cells (Fc.nodeC y) 46)))
     have HY1 := Lib.hid (Has.fresh wr 46 (Fc.nodeC y))
     have HRL := Lib.hid (show r.n = r.l.length from own_len HN.out.own.nodes)
     have hq : r.l.length = (mrgN ((a.nodes.map Fc.NodeC.p) ++ (b.nodes.map Fc.NodeC.p).take j)).length := by rw [← HR.out, List.length_map]
     have HRM := Lib.hid (show r.n ≤ 1000000 from by rw [HRL.out, hq]; refine Nat.le_trans (mrg_len _) ?_; simp only [List.length_append, List.length_take, List.length_nil]; have := HM.out; have := HLA.out; have := HLB.out; omega)
     clear hq
     have cc : (wr.alloc (.cells (Fc.nodeC y) 46)).cell? ⟨g, 8, none⟩ = some (.slice r.A r.n r.c) := HN1.out.hc.at_ 8
     replace hA : b.A1 = some ⟨bk, off, none⟩ := hA
     rw [hA]
     clear mr hA hbl hxj hy HN HR
     go_wp2_with (first | ((with_reducible refine Who.wpList_loadC 46 (.tmp 38) rfl (bk) (off + j * 13) (Fc.nodeC y) ?_); refine And.intro ⟨by rfl, by rfl, ⟨_, Tryz.underlying46, rfl⟩, infoN⟩ (And.intro (MR.out) ?_)) | ((with_reducible refine Who.wpList_newC 46 9 (.tmp 39) rfl rfl rfl (zeroN) (Fc.nodeC y) ?_); refine And.intro ⟨rfl, rfl, rfl, allocN, by rfl, by rfl, infoN, rfl, oneN y⟩ ?_; (try simp only [World.size_alloc])) | ((with_reducible refine Who.wpList_loadC 46 (.tmp 9) rfl (wr.heap.size) 0 (Fc.nodeC y) ?_); refine And.intro ⟨by rfl, by rfl, ⟨_, Tryz.underlying46, rfl⟩, infoN⟩ (And.intro (Who.has_range HY1.out) ?_)) | fail)
     refine (rnodes_ins r.A r.n r.c r.l y _ ⟨HN1.out.own.nodes.srow2 (fun _ => rfl) HRL.out, own_nil HN1.out.own.nodes⟩ HRM.out (fun y hy => ⟨HN1.out.own.each y hy, HFR.out y hy⟩) HTY.out HFY.out).mono ?_
     rintro e w2 ⟨v2, ys, rfl, ho, hys, hye, hb⟩
     have HN2 := Lib.hid (HN1.out.low hb)
     have HO := Lib.hid (show OwnK w2 0 46 13 Fc.nodeC v2 ys from ho.mono (Nat.zero_le _))
     have HL6 := Lib.hid (show ys.map Fc.NodeC.p = mrgN ((a.nodes.map Fc.NodeC.p) ++ (b.nodes.map Fc.NodeC.p).take (j + 1)) from hys.trans HST.out)
     have HYE := Lib.hid hye
     clear ho hb hys hye HN1 HY1 HST HTY HFY HFR HRM cc
     obtain ⟨A6, c6, hv, _⟩ := HO.out.any
     subst hv
     go_wp2_with (first | ((with_reducible refine wpList_cell (T := 27) 24 (.tmp 44) (.tmp 43) rfl g 8 (Fc.stateC (sd v r r0)) (Fc.stateC (sd v ⟨A6, ys.length, c6, ys⟩ r0)) ((.slice A6 ys.length c6)) ?_); refine And.intro ⟨rfl, rfl, by rfl, by rfl, info_sn, rfl, of_decide_eq_true rfl, by kernel_rfl, HN2.out.hc⟩ ?_; intro W22 HX22 HC22) | fail)
     have HN3 := Lib.hid (HN2.out.put HX22.out HC22.out ⟨HO.out, HN2.out.own.links, HYE.out⟩)
     go_wp2
     go_roundw
     case rel => exact ⟨j + 1, by go_num, by omega, ⟨A6, ys.length, c6, ys⟩, HL6, HN3⟩
     case measure => simp [intOf]; omega
    ·have hjn : j = b.n1 := by omega
     have E2 := Lib.hid (show r.l.map Fc.NodeC.p = mrgN ((a.nodes.map Fc.NodeC.p) ++ (b.nodes.map Fc.NodeC.p)) from by rw [HR.out, hjn, HLB.out.1, List.take_length])
     clear HR hjn
     obtain ⟨v2, hwo⟩ : ∃ wo : World, wo = wr := ⟨_, rfl⟩
     subst hwo
     obtain ⟨rp, hro⟩ : ∃ ro : RowP Fc.NodeC, ro = r := ⟨_, rfl⟩
     subst hro
     have N2 := HN
     clear HN
     have d3 : v2.cell? ⟨w.heap.size, 9, none⟩ = some (.slice a.A2 a.n2 a.c2) := N2.out.ha.at_ 9
     go_wp2
     clear d3
     go_loopw [49] (fun i wr => ∃ j : Nat, i = .int .i64 j ∧ j ≤ a.n2 ∧ ∃ r : RowP Fc.LinkP, Hid (r.l = mrgL ([] ++ a.links.take j)) ∧ Hid (StI w wr g a b (sd v rp r))) (fun i _ => a.n2 - (intOf i).toNat)
     case atStart => exact ⟨0, rfl, Nat.zero_le _, r0, Lib.hid rfl, N2⟩
     case round =>
      clear N2
      obtain ⟨j, rfl, hj, r, HR, HN⟩ := hrel
      by_cases hlt : j < a.n2
      ·obtain ⟨bk, off, hA, hbl, hxj, mr⟩ := (HIA.out.links.row.below HN.out.below).range (i := j) hlt
       replace hxj : j < a.links.length := hxj
       obtain ⟨y, hy⟩ : ∃ y, a.links[j] = y := ⟨_, rfl⟩
       have HST := Lib.hid (show docIns stLt Fc.LinkP.id opL id r.l y = mrgL ([] ++ a.links.take (j + 1)) from by rw [HR.out]; exact mrg_step klt_st joins_L hxj hy)
       have HTY := Lib.hid (HTA.out y (hy ▸ List.getElem_mem hxj))
       have HTR := Lib.hid (show ∀ y ∈ r.l, y.name.size ≤ maxLen from by rw [HR.out]; exact txt_mrgL fun y hy => (List.mem_append.1 hy).elim (fun h => by cases h) (fun h => HTA.out y (List.mem_of_mem_take h)))
       replace mr : wr.rangeAt bk (off + j * 25) (Fc.linkC y).toList := by rw [← hy]; exact mr
       have MR := Lib.hid mr
       have HN1 := Lib.hid (HN.out.low ((Below.refl wr.heap.size wr).alloc (Nat.le_refl _) (.cells (Fc.linkC y) 51)))
       have HY1 := Lib.hid (Has.fresh wr 51 (Fc.linkC y))
       have HRL := Lib.hid (show r.n = r.l.length from own_len HN.out.own.links)
       have hq : r.l.length = (mrgL ([] ++ a.links.take j)).length := by rw [← HR.out]
       have HRM := Lib.hid (show r.n ≤ 1000000 from by rw [HRL.out, hq]; refine Nat.le_trans (mrg_len _) ?_; simp only [List.length_append, List.length_take, List.length_nil]; have := HM.out; have := HLA.out; have := HLB.out; omega)
       clear hq
       have cc : (wr.alloc (.cells (Fc.linkC y) 51)).cell? ⟨g, 9, none⟩ = some (.slice r.A r.n r.c) := HN1.out.hc.at_ 9
       replace hA : a.A2 = some ⟨bk, off, none⟩ := hA
       rw [hA]
       clear mr hA hbl hxj hy HN HR
       go_wp2_with (first | ((with_reducible refine Who.wpList_loadC 51 (.tmp 51) rfl (bk) (off + j * 25) (Fc.linkC y) ?_); refine And.intro ⟨by rfl, by rfl, ⟨_, Tryz.underlying51, rfl⟩, info_link⟩ (And.intro (MR.out) ?_)) | ((with_reducible refine Who.wpList_newC 51 11 (.tmp 52) rfl rfl rfl (zeroL) (Fc.linkC y) ?_); refine And.intro ⟨rfl, rfl, rfl, allocL, by rfl, by rfl, info_link, rfl, own1 y⟩ ?_; (try simp only [World.size_alloc])) | ((with_reducible refine Who.wpList_loadC 51 (.tmp 11) rfl (wr.heap.size) 0 (Fc.linkC y) ?_); refine And.intro ⟨by rfl, by rfl, ⟨_, Tryz.underlying51, rfl⟩, info_link⟩ (And.intro (Who.has_range HY1.out) ?_)) | fail)
       refine (rlink_ins r.A r.n r.c r.l y _ ⟨HN1.out.own.links.srow2 (fun _ => rfl) HRL.out, own_nil HN1.out.own.links⟩ HRM.out HTR.out HTY.out).mono ?_
       rintro e w2 ⟨v2, rfl, ho, hb⟩
       have HN2 := Lib.hid (HN1.out.low hb)
       obtain ⟨ys, hys⟩ : ∃ ys, ys = docIns stLt Fc.LinkP.id opL id r.l y := ⟨_, rfl⟩
       rw [← hys] at ho
       have HO := Lib.hid (show OwnK w2 0 51 25 Fc.linkC v2 ys from ho.mono (Nat.zero_le _))
       have HL6 := Lib.hid (show ys = mrgL ([] ++ a.links.take (j + 1)) from hys.trans HST.out)
       clear ho hb hys HN1 HY1 HST HTY HTR HRM cc
       obtain ⟨A6, c6, hv, _⟩ := HO.out.any
       subst hv
       go_wp2_with (first | ((with_reducible refine wpList_cell (T := 27) 25 (.tmp 57) (.tmp 56) rfl g 9 (Fc.stateC (sd v rp r)) (Fc.stateC (sd v rp ⟨A6, ys.length, c6, ys⟩)) ((.slice A6 ys.length c6)) ?_); refine And.intro ⟨rfl, rfl, by rfl, by rfl, info_sl, rfl, of_decide_eq_true rfl, by kernel_rfl, HN2.out.hc⟩ ?_; intro W23 HX23 HC23) | fail)
       have HN3 := Lib.hid (HN2.out.put HX23.out HC23.out ⟨HN2.out.own.nodes, HO.out, HN2.out.own.each⟩)
       go_wp2
       go_roundw
       case rel => exact ⟨j + 1, by go_num, by omega, ⟨A6, ys.length, c6, ys⟩, HL6, HN3⟩
       case measure => simp [intOf]; omega
      ·have hjn : j = a.n2 := by omega
       have E3 := Lib.hid (show r.l = mrgL ([] ++ a.links) from by rw [HR.out, hjn, HLA.out.2, List.take_length])
       clear HR hjn
       obtain ⟨v3, hwo⟩ : ∃ wo : World, wo = wr := ⟨_, rfl⟩
       subst hwo
       obtain ⟨rB, hro⟩ : ∃ ro : RowP Fc.LinkP, ro = r := ⟨_, rfl⟩
       subst hro
       have N3 := HN
       clear HN
       have d4 : v3.cell? ⟨w.heap.size + 1, 9, none⟩ = some (.slice b.A2 b.n2 b.c2) := N3.out.hb.at_ 9
       go_wp2
       clear d4
       go_loopw [62] (fun i wr => ∃ j : Nat, i = .int .i64 j ∧ j ≤ b.n2 ∧ ∃ r : RowP Fc.LinkP, Hid (r.l = mrgL (a.links ++ b.links.take j)) ∧ Hid (StI w wr g a b (sd v rp r))) (fun i _ => b.n2 - (intOf i).toNat)
       case atStart => exact ⟨0, rfl, Nat.zero_le _, rB, Lib.hid (by rw [E3.out]; simp), N3⟩
       case round =>
        clear N3
        obtain ⟨j, rfl, hj, r, HR, HN⟩ := hrel
        by_cases hlt : j < b.n2
        ·obtain ⟨bk, off, hA, hbl, hxj, mr⟩ := (HIB.out.links.row.below HN.out.below).range (i := j) hlt
         replace hxj : j < b.links.length := hxj
         obtain ⟨y, hy⟩ : ∃ y, b.links[j] = y := ⟨_, rfl⟩
         have HST := Lib.hid (show docIns stLt Fc.LinkP.id opL id r.l y = mrgL (a.links ++ b.links.take (j + 1)) from by rw [HR.out]; exact mrg_step klt_st joins_L hxj hy)
         have HTY := Lib.hid (HTB.out y (hy ▸ List.getElem_mem hxj))
         have HTR := Lib.hid (show ∀ y ∈ r.l, y.name.size ≤ maxLen from by rw [HR.out]; exact txt_mrgL fun y hy => (List.mem_append.1 hy).elim (HTA.out y) (fun h => HTB.out y (List.mem_of_mem_take h)))
         replace mr : wr.rangeAt bk (off + j * 25) (Fc.linkC y).toList := by rw [← hy]; exact mr
         have MR := Lib.hid mr
         have HN1 := Lib.hid (HN.out.low ((Below.refl wr.heap.size wr).alloc (Nat.le_refl _) (.cells (Fc.linkC y) 51)))
         have HY1 := Lib.hid (Has.fresh wr 51 (Fc.linkC y))
         have HRL := Lib.hid (show r.n = r.l.length from own_len HN.out.own.links)
         have hq : r.l.length = (mrgL (a.links ++ b.links.take j)).length := by rw [← HR.out]
         have HRM := Lib.hid (show r.n ≤ 1000000 from by rw [HRL.out, hq]; refine Nat.le_trans (mrg_len _) ?_; simp only [List.length_append, List.length_take, List.length_nil]; have := HM.out; have := HLA.out; have := HLB.out; omega)
         clear hq
         have cc : (wr.alloc (.cells (Fc.linkC y) 51)).cell? ⟨g, 9, none⟩ = some (.slice r.A r.n r.c) := HN1.out.hc.at_ 9
         replace hA : b.A2 = some ⟨bk, off, none⟩ := hA
         rw [hA]
         clear mr hA hbl hxj hy HN HR
         go_wp2_with (first | ((with_reducible refine Who.wpList_loadC 51 (.tmp 64) rfl (bk) (off + j * 25) (Fc.linkC y) ?_); refine And.intro ⟨by rfl, by rfl, ⟨_, Tryz.underlying51, rfl⟩, info_link⟩ (And.intro (MR.out) ?_)) | ((with_reducible refine Who.wpList_newC 51 13 (.tmp 65) rfl rfl rfl (zeroL) (Fc.linkC y) ?_); refine And.intro ⟨rfl, rfl, rfl, allocL, by rfl, by rfl, info_link, rfl, own1 y⟩ ?_; (try simp only [World.size_alloc])) | ((with_reducible refine Who.wpList_loadC 51 (.tmp 13) rfl (wr.heap.size) 0 (Fc.linkC y) ?_); refine And.intro ⟨by rfl, by rfl, ⟨_, Tryz.underlying51, rfl⟩, info_link⟩ (And.intro (Who.has_range HY1.out) ?_)) | fail)
         refine (rlink_ins r.A r.n r.c r.l y _ ⟨HN1.out.own.links.srow2 (fun _ => rfl) HRL.out, own_nil HN1.out.own.links⟩ HRM.out HTR.out HTY.out).mono ?_
         rintro e w2 ⟨v2, rfl, ho, hb⟩
         have HN2 := Lib.hid (HN1.out.low hb)
         obtain ⟨ys, hys⟩ : ∃ ys, ys = docIns stLt Fc.LinkP.id opL id r.l y := ⟨_, rfl⟩
         rw [← hys] at ho
         have HO := Lib.hid (show OwnK w2 0 51 25 Fc.linkC v2 ys from ho.mono (Nat.zero_le _))
         have HL6 := Lib.hid (show ys = mrgL (a.links ++ b.links.take (j + 1)) from hys.trans HST.out)
         clear ho hb hys HN1 HY1 HST HTY HTR HRM cc
         obtain ⟨A6, c6, hv, _⟩ := HO.out.any
         subst hv
         go_wp2_with (first | ((with_reducible refine wpList_cell (T := 27) 25 (.tmp 70) (.tmp 69) rfl g 9 (Fc.stateC (sd v rp r)) (Fc.stateC (sd v rp ⟨A6, ys.length, c6, ys⟩)) ((.slice A6 ys.length c6)) ?_); refine And.intro ⟨rfl, rfl, by rfl, by rfl, info_sl, rfl, of_decide_eq_true rfl, by kernel_rfl, HN2.out.hc⟩ ?_; intro W24 HX24 HC24) | fail)
         have HN3 := Lib.hid (HN2.out.put HX24.out HC24.out ⟨HN2.out.own.nodes, HO.out, HN2.out.own.each⟩)
         go_wp2
         go_roundw
         case rel => exact ⟨j + 1, by go_num, by omega, ⟨A6, ys.length, c6, ys⟩, HL6, HN3⟩
         case measure => simp [intOf]; omega
        ·have hjn : j = b.n2 := by omega
         have E4 := Lib.hid (show r.l = mrgL (a.links ++ b.links) from by rw [HR.out, hjn, HLB.out.2, List.take_length])
         clear HR hjn
         obtain ⟨v4, hwo⟩ : ∃ wo : World, wo = wr := ⟨_, rfl⟩
         subst hwo
         obtain ⟨rx, hro⟩ : ∃ ro : RowP Fc.LinkP, ro = r := ⟨_, rfl⟩
         subst hro
         have N4 := HN
         clear HN
         go_wp2_with (first | ((with_reducible refine Who.wpList_loadC 27 (.tmp 5) rfl (g) 0 (Fc.stateC (sd v rp rx)) ?_); refine And.intro ⟨by rfl, by rfl, ⟨_, Tryz.underlying27, rfl⟩, info_state⟩ (And.intro (Who.has_range N4.out.hc) ?_)) | ((with_reducible refine wpList_storeG 27 (.tmp 4) (.tmp 72) rfl (w.heap.size + 1 + 1) (zeroS) (Fc.stateC (sd v rp rx)) ?_); refine And.intro ⟨rfl, by rfl, by rfl, info_state, state_one _, rfl, N4.out.hz⟩ ?_; intro W25 HX25 HC25) | fail)
         have HBF := Lib.hid (below_step N4.out.below HC25.out (by omega))
         have HOF := Lib.hid (N4.out.own.past N4.out.hz HC25.out)
         refine bodyPost_ret (v := .agg (Fc.stateC (sd v rp rx))) (Who.results_cell (p := 4) (t := 27) rfl _ _ (w.heap.size + 1 + 1) 0 (Fc.stateC (sd v rp rx)) _ (by rfl) (Who.has_range HX25.out) Tryz.underlying27 rfl info_state) rfl ?_
         refine ⟨sd v rp rx, rfl, ?_, HOF.out, HBF.out⟩
         show (⟨v, rp.l.map Fc.NodeC.p, rx.l⟩ : Fc.StateP) = joinP a.p b.p
         rw [HV.out, E2.out, E4.out]
         rfl
end Go.Proofs.YtblogecapegbmaaGreat.Jn
