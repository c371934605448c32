/- Model: the volume that events make: both answers. -/
import Derived.Test.YtblogecapegbmaaGreatJoL
import Derived.Test.YtblogecapegbmaaGreatFcQ
import Derived.Test.YtblogecapegbmaaGreatMfBase
namespace Go.Proofs.YtblogecapegbmaaGreat.Jn
open Go.RowKit Go.Proofs.YtblogecapegbmaaGreat.Mem
open Go.Proofs.YtblogecapegbmaaGreat.Vc (joinV vecC)
set_option linter.unusedVariables false set_option linter.unusedSimpArgs false set_option linter.unusedSectionVars false

/-- What of a volume bounds its folding. -/
structure FoldOk (K : Nat) (p : Fc.StateP) : Prop where
  lim : LimP K p
  txt : ∀ y ∈ p.nodes, TxtN y
  names : ∀ y ∈ p.links, y.name.size ≤ maxLen
theorem FoldOk.join {Ka Kb : Nat} {a b : Fc.StateP} (ha : FoldOk Ka a) (hb : FoldOk Kb b) : FoldOk (Ka + Kb) (joinP a b) := ⟨limP_join ha.lim hb.lim,
  mrgQ_mem (P := TxtN) (fun a b ha hb => ha.op hb) (fun a ha => ha.nrm) (a.nodes ++ b.nodes) fun z hz => (List.mem_append.1 hz).elim (ha.txt z) (hb.txt z),
  txt_mrgL fun z hz => (List.mem_append.1 hz).elim (ha.names z) (hb.names z)⟩
theorem FoldOk.sum {K : Nat} {p : Fc.StateP} (h : FoldOk K p) (hK : K ≤ 200000) : SumOk p.nodes := ⟨Nat.le_trans h.lim.ps hK, Nat.le_trans h.lim.xs hK, h.txt⟩
def emptyP : Fc.StateP := ⟨fun _ => 0, [Fc.rootN.p], []⟩
theorem empty_p (g : Nat) : (Fc.emptyS g).p = emptyP := rfl
theorem empty_ok : FoldOk 1 emptyP := ⟨⟨by decide, by decide, by decide, by decide⟩, fun y hy => by
    rw [show emptyP.nodes = [Fc.rootN.p] from rfl, List.mem_singleton] at hy
    subst hy
    exact ⟨by decide, (fun y hy => by cases hy), (fun y hy => by cases hy)⟩, fun y hy => by cases hy⟩
/-- What events make. -/
def foldP (es : List Fc.EventC) : Fc.StateP := es.foldl (fun s e => joinP s e.d.p) emptyP
theorem foldP_next {es : List Fc.EventC} {j : Nat} {y : Fc.EventC} (hj : j < es.length) (hy : es[j] = y) : foldP (es.take (j + 1)) = joinP (foldP (es.take j)) y.d.p := by
  unfold foldP
  rw [List.take_succ_eq_append_getElem hj, List.foldl_append, hy]
  rfl
theorem fold_ok {es : List Fc.EventC} (h : ∀ e ∈ es, FoldOk 1300 e.d.p) : FoldOk (1 + 1300 * es.length) (foldP es) := by
  have go : ∀ (l : List Fc.EventC) (K : Nat) (p : Fc.StateP), (∀ e ∈ l, FoldOk 1300 e.d.p) → FoldOk K p → FoldOk (K + 1300 * l.length) (l.foldl (fun s e => joinP s e.d.p) p) := by
    intro l
    induction l with
    | nil => exact fun K p _ hp => by simpa using hp
    | cons e l ih =>
      intro K p hl hp
      have q := ih (K + 1300) (joinP p e.d.p) (fun z hz => hl z (List.mem_cons_of_mem _ hz)) (hp.join (hl e List.mem_cons_self))
      rw [List.length_cons, show K + 1300 * (l.length + 1) = K + 1300 + 1300 * l.length by omega]
      exact q
  exact go es 1 emptyP h empty_ok
theorem event_d {w : World} {g : Nat} {t : TypeId} {x : Fc.EventC} (h : Has w g t (Fc.eventC x)) : w.rangeAt g 11 (Fc.stateC x.d).toList := range_of h fun j hj => by
  match j, (show j < 10 from hj) with
  | 0, _ | 1, _ | 2, _ | 3, _ | 4, _ | 5, _ | 6, _ | 7, _ | 8, _ | 9, _ => rfl
theorem StateOwn.mono {B B2 : Nat} {w : World} {s : Fc.StateC} (h : StateOwn B w s) (hb : B2 ≤ B) : StateOwn B2 w s := ⟨h.nodes.mono hb, h.links.mono hb, fun z hz => (h.each z hz).mono hb⟩
theorem empty_own {w : World} {g : Nat} (h : Has w g 46 (Fc.nodeC Fc.rootN)) : StateOwn 0 w (Fc.emptyS g) := ⟨⟨flatC_len (C := Fc.nodeC) (fun _ => rfl) _, .inr ⟨g, 1, Fc.nodeC Fc.rootN, rfl, Nat.zero_le _, h, Nat.le_refl _, by unfold maxLen; omega, rfl, rfl⟩⟩, OwnK.nil _ _ _ _ _, fun z hz => by
    rw [show (Fc.emptyS g).nodes = [Fc.rootN] from rfl, List.mem_singleton] at hz
    subst hz
    exact ⟨OwnK.nil _ _ _ _ _, OwnK.nil _ _ _ _ _⟩⟩
/-- What both folds keep. -/
structure FoI (w wr : World) (g3 : Nat) (s : Fc.StateC) : Prop where
  below : Below w.heap.size w wr
  hz : Has wr w.heap.size 27 zeroS
  gz : w.heap.size + 1 ≤ g3
  hs : Has wr g3 27 (Fc.stateC s)
  own : StateOwn 0 wr s
theorem FoI.low {w wr w2 : World} {g3 : Nat} {s : Fc.StateC} (h : FoI w wr g3 s) (hb : Below wr.heap.size wr w2) : FoI w w2 g3 s := ⟨h.below.trans (hb.mono h.below.size), h.hz.below hb, h.gz, h.hs.below hb, h.own.low hb⟩
theorem FoI.put {w wr w2 : World} {g3 : Nat} {s s2 : Fc.StateC} (h : FoI w wr g3 s) (ho : StateOwn 0 wr s2) (hx : Has w2 g3 27 (Fc.stateC s2)) (hc : Chg (· = g3) wr w2) : FoI w w2 g3 s2 := ⟨below_step h.below hc (by have := h.gz; omega), h.hz.over hc (by have := h.gz; omega), h.gz, hx, ho.past h.hs hc⟩
theorem FoI.start {w w1 : World} {s : Fc.StateC} (hb : Below (w.alloc (.cells zeroS 27)).heap.size (w.alloc (.cells zeroS 27)) w1) (ho : StateOwn 0 w1 s) : FoI w (w1.alloc (.cells (Fc.stateC s) 27)) w1.heap.size s := by
  have hbn := (Below.refl w1.heap.size w1).alloc (Nat.le_refl _) (.cells (Fc.stateC s) 27)
  have h0 := ((Below.refl w.heap.size w).alloc (Nat.le_refl _) (.cells zeroS 27)).trans (hb.mono (by simp))
  exact ⟨h0.trans (hbn.mono h0.size), ((Has.fresh w 27 zeroS).below hb).past _, by have := hb.size; simpa using this, Has.fresh w1 27 (Fc.stateC s), ho.low hbn⟩
set_option maxRecDepth 100000 in
set_option maxHeartbeats 2000000 in
theorem rempty_has (w : World) : Calls Tryz.prog 68 #[] w fun e w' => ∃ g, e = .returned (.agg (Fc.stateC (Fc.emptyS g))) ∧ Has w' g 46 (Fc.nodeC Fc.rootN) ∧ w.heap.size ≤ g ∧ Below w.heap.size w w' := by
  go_enter Tryz.func68, Tryz.ntmps68
  go_wp2
  refine bodyPost_ret (v := .agg (Fc.stateC (Fc.emptyS (w.heap.size + 1 + 1)))) (by simp [results, Tryz.results68, go_sem, Fc.stateC, Fc.emptyS]) rfl ⟨w.heap.size + 1 + 1, rfl, ?_, by omega, ?_⟩
  · have h := Has.fresh ((w.alloc (.cells (Fc.stateC (Fc.emptyS (w.heap.size + 1 + 1))) 27)).alloc (.cells (Fc.nodeC Fc.rootN) 46)) 46 (Fc.nodeC Fc.rootN)
    simp only [World.size_alloc] at h
    exact h
  · exact (((Below.refl w.heap.size w).alloc (Nat.le_refl _) (.cells (Fc.stateC (Fc.emptyS (w.heap.size + 1 + 1))) 27)).alloc (by simp) (.cells (Fc.nodeC Fc.rootN) 46)).alloc (by simp <;> omega) (.cells (Fc.nodeC Fc.rootN) 46)
set_option maxRecDepth 100000 in
set_option maxHeartbeats 4000000 in
theorem fold_any (A : Option Addr) (n c : Nat) (es : List Fc.EventC) (hn : n ≤ 120) (w : World) (hr : Fc.SRow w 21 Fc.eventC A n es) (hin : ∀ e ∈ es, StateIn w e.d) (hok : ∀ e ∈ es, FoldOk 1300 e.d.p) :
    Calls Tryz.prog 27 #[.slice A n c] w fun e w' => ∃ s, e = .returned (.agg (Fc.stateC s)) ∧ s.p = foldP es ∧ StateOwn 0 w' s ∧ Below w.heap.size w w' := by
  have HR := Lib.hid hr
  have HLN := Lib.hid (show n = es.length from hr.len.symm)
  have HIN := Lib.hid (show ∀ V, Below w.heap.size w V → ∀ e ∈ es, StateIn V e.d from fun V h e he => (hin e he).below h)
  have HOK := Lib.hid hok
  have HE := Lib.hid (Fc.empty_has (w.alloc (.cells zeroS 27)))
  clear hr hin hok
  go_enter Tryz.func27, Tryz.ntmps27
  go_wp2_with (first | ((with_reducible refine Who.wpList_alloc 27 2 rfl rfl rfl (zeroS) allocS ?_); (try simp only [Act.put, List.setIfInBounds_toArray, List.set_cons_zero, List.set_cons_succ]); (try simp only [World.size_alloc])) | fail)
  refine HE.out.mono ?_
  rintro e w1 ⟨g, rfl, hh, hg, hb⟩
  have H1 := Lib.hid (FoI.start hb (empty_own hh))
  obtain ⟨g3, hg3⟩ : ∃ g, g = w1.heap.size := ⟨_, rfl⟩
  rw [← hg3] at H1
  clear hh hg hb HE
  go_wp2_with (first | ((with_reducible refine Who.wpList_newC 27 3 (.tmp 6) rfl rfl rfl (zeroS) (Fc.stateC (Fc.emptyS g)) ?_); refine And.intro ⟨rfl, rfl, rfl, allocS, by rfl, by rfl, info_state, rfl, state_one _⟩ ?_; (try simp only [Act.put, List.setIfInBounds_toArray, List.set_cons_zero, List.set_cons_succ]); (try simp only [World.size_alloc])) | fail)
  rw [← hg3]
  clear hg3
  go_loopw [9] (fun i wr => ∃ j : Nat, i = .int .i64 j ∧ j ≤ n ∧ ∃ s, Hid (s.p = foldP (es.take j)) ∧ Hid (FoI w wr g3 s)) (fun i _ => n - (intOf i).toNat)
  case atStart => exact ⟨0, rfl, Nat.zero_le _, Fc.emptyS g, Lib.hid rfl, H1⟩
  case round =>
    clear H1
    obtain ⟨j, rfl, hj, s, HP, HI⟩ := hrel
    by_cases hlt : j < n
    · obtain ⟨bk, off, hA, hbl, hxj, mr⟩ := (HR.out.below HI.out.below).range (i := j) hlt
      obtain ⟨y, hy⟩ : ∃ y, es[j] = y := ⟨_, rfl⟩
      rw [hy] at mr
      have HST := Lib.hid (foldP_next hxj hy)
      have MR := Lib.hid mr
      have HY1 := Lib.hid (Has.fresh wr 58 (Fc.eventC y))
      have HI1 := Lib.hid (HI.out.low ((Below.refl wr.heap.size wr).alloc (Nat.le_refl _) (.cells (Fc.eventC y) 58)))
      have HYI := Lib.hid (HIN.out _ HI1.out.below y (hy ▸ List.getElem_mem hxj))
      have HYO := Lib.hid (HOK.out y (hy ▸ List.getElem_mem hxj))
      have HSO := Lib.hid (show FoldOk 160000 s.p from by
        have q := fold_ok (es := es.take j) (fun e he => HOK.out e (List.mem_of_mem_take he))
        rw [← HP.out, List.length_take] at q
        exact ⟨⟨Nat.le_trans q.lim.n1 (by omega), Nat.le_trans q.lim.n2 (by omega), Nat.le_trans q.lim.ps (by omega), Nat.le_trans q.lim.xs (by omega)⟩, q.txt, q.names⟩)
      have HSL := Lib.hid (limS_of HI1.out.own.in_ HSO.out.lim)
      have HYL := Lib.hid ((limS_of HYI.out HYO.out.lim).mono (show 1300 ≤ 160000 by decide))
      rw [hA]
      clear mr hA hbl hxj hy HI
      go_wp2_with (first | ((with_reducible refine Who.wpList_loadC 58 (.tmp 11) rfl (bk) (off + j * 21) (Fc.eventC y) ?_); refine And.intro ⟨by rfl, by rfl, ⟨_, Tryz.underlying58, rfl⟩, Sr.info_event⟩ (And.intro (MR.out) ?_)) | ((with_reducible refine Who.wpList_newC 58 5 (.tmp 12) rfl rfl rfl (Fc.eventC Sr.zeroE) (Fc.eventC y) ?_); refine And.intro ⟨rfl, rfl, rfl, Sr.alloc_event, by rfl, by rfl, Sr.info_event, rfl, Sr.event_one _⟩ ?_; (try simp only [Act.put, List.setIfInBounds_toArray, List.set_cons_zero, List.set_cons_succ]); (try simp only [World.size_alloc])) | ((with_reducible refine Who.wpList_loadC 27 (.tmp 3) rfl (g3) 0 (Fc.stateC s) ?_); refine And.intro ⟨by rfl, by rfl, ⟨_, Tryz.underlying27, rfl⟩, info_state⟩ (And.intro (Who.has_range HI1.out.hs) ?_)) | ((with_reducible refine Who.wpList_loadC 27 (.tmp 14) rfl (wr.heap.size) 11 (Fc.stateC y.d) ?_); refine And.intro ⟨by rfl, by rfl, ⟨_, Tryz.underlying27, rfl⟩, info_state⟩ (And.intro (event_d HY1.out) ?_)) | fail)
      refine (states_any s y.d _ HI1.out.own.in_ HYI.out HSL.out HYL.out (by decide)).mono ?_
      rintro e w2 ⟨s2, rfl, hp, ho, hb⟩
      have HI2 := Lib.hid (HI1.out.low hb)
      have HO2 := Lib.hid (ho.mono (Nat.zero_le _))
      have HP2 := Lib.hid (show s2.p = foldP (es.take (j + 1)) from by rw [hp, HP.out, HST.out])
      clear hp ho hb HI1 HY1 HST HP
      go_wp2_with (first | ((with_reducible refine wpList_storeG 27 (.tmp 3) (.tmp 16) rfl (g3) (Fc.stateC s) (Fc.stateC s2) ?_); refine And.intro ⟨rfl, by rfl, by rfl, info_state, state_one _, rfl, HI2.out.hs⟩ ?_; intro W8 HX8 HC8; (try simp only [Act.put, List.setIfInBounds_toArray, List.set_cons_zero, List.set_cons_succ])) | fail)
      have HI3 := Lib.hid (HI2.out.put HO2.out HX8.out HC8.out)
      go_wp2
      go_roundw
      case rel => exact ⟨j + 1, by go_num, by omega, s2, HP2, HI3⟩
      case measure => simp [intOf]; omega
    · have hjn : j = n := by omega
      have HPE := Lib.hid (show s.p = foldP es from by rw [HP.out, hjn, HLN.out, List.take_length])
      clear HP hjn
      go_wp2_with (first | ((with_reducible refine Who.wpList_loadC 27 (.tmp 3) rfl (g3) 0 (Fc.stateC s) ?_); refine And.intro ⟨by rfl, by rfl, ⟨_, Tryz.underlying27, rfl⟩, info_state⟩ (And.intro (Who.has_range HI.out.hs) ?_)) | ((with_reducible refine wpList_storeG 27 (.tmp 2) (.tmp 18) rfl (w.heap.size) (zeroS) (Fc.stateC s) ?_); refine And.intro ⟨rfl, by rfl, by rfl, info_state, state_one _, rfl, HI.out.hz⟩ ?_; intro W9 HX9 HC9; (try simp only [Act.put, List.setIfInBounds_toArray, List.set_cons_zero, List.set_cons_succ])) | fail)
      have HBF := Lib.hid (below_step HI.out.below HC9.out (Nat.le_refl _))
      have HOF := Lib.hid (HI.out.own.past HI.out.hz HC9.out)
      refine bodyPost_ret (v := .agg (Fc.stateC s)) (Who.results_cell (p := 2) (t := 27) rfl _ _ w.heap.size 0 (Fc.stateC s) _ (by rfl) (Who.has_range HX9.out) Tryz.underlying27 rfl info_state) rfl ?_
      exact ⟨s, rfl, HPE.out, HOF.out, HBF.out⟩
set_option maxRecDepth 100000 in
set_option maxHeartbeats 4000000 in
theorem rfold_any (A : Option Addr) (n c : Nat) (es : List Fc.EventC) (hn : n ≤ 120) (w : World) (hr : Fc.SRow w 21 Fc.eventC A n es) (hin : ∀ e ∈ es, StateIn w e.d) (hok : ∀ e ∈ es, FoldOk 1300 e.d.p) :
    Calls Tryz.prog 28 #[.slice A n c] w fun e w' => ∃ s, e = .returned (.agg (Fc.stateC s)) ∧ s.p = foldP es ∧ StateOwn 0 w' s ∧ Below w.heap.size w w' := by
  have HR := Lib.hid hr
  have HLN := Lib.hid (show n = es.length from hr.len.symm)
  have HIN := Lib.hid (show ∀ V, Below w.heap.size w V → ∀ e ∈ es, StateIn V e.d from fun V h e he => (hin e he).below h)
  have HOK := Lib.hid hok
  have HE := Lib.hid (rempty_has (w.alloc (.cells zeroS 27)))
  clear hr hin hok
  go_enter Tryz.func28, Tryz.ntmps28
  go_wp2_with (first | ((with_reducible refine Who.wpList_alloc 27 2 rfl rfl rfl (zeroS) allocS ?_); (try simp only [Act.put, List.setIfInBounds_toArray, List.set_cons_zero, List.set_cons_succ]); (try simp only [World.size_alloc])) | fail)
  refine HE.out.mono ?_
  rintro e w1 ⟨g, rfl, hh, hg, hb⟩
  have H1 := Lib.hid (FoI.start hb (empty_own hh))
  obtain ⟨g3, hg3⟩ : ∃ g, g = w1.heap.size := ⟨_, rfl⟩
  rw [← hg3] at H1
  clear hh hg hb HE
  go_wp2_with (first | ((with_reducible refine Who.wpList_newC 27 3 (.tmp 6) rfl rfl rfl (zeroS) (Fc.stateC (Fc.emptyS g)) ?_); refine And.intro ⟨rfl, rfl, rfl, allocS, by rfl, by rfl, info_state, rfl, state_one _⟩ ?_; (try simp only [Act.put, List.setIfInBounds_toArray, List.set_cons_zero, List.set_cons_succ]); (try simp only [World.size_alloc])) | fail)
  rw [← hg3]
  clear hg3
  go_loopw [9] (fun i wr => ∃ j : Nat, i = .int .i64 j ∧ j ≤ n ∧ ∃ s, Hid (s.p = foldP (es.take j)) ∧ Hid (FoI w wr g3 s)) (fun i _ => n - (intOf i).toNat)
  case atStart => exact ⟨0, rfl, Nat.zero_le _, Fc.emptyS g, Lib.hid rfl, H1⟩
  case round =>
    clear H1
    obtain ⟨j, rfl, hj, s, HP, HI⟩ := hrel
    by_cases hlt : j < n
    · obtain ⟨bk, off, hA, hbl, hxj, mr⟩ := (HR.out.below HI.out.below).range (i := j) hlt
      obtain ⟨y, hy⟩ : ∃ y, es[j] = y := ⟨_, rfl⟩
      rw [hy] at mr
      have HST := Lib.hid (foldP_next hxj hy)
      have MR := Lib.hid mr
      have HY1 := Lib.hid (Has.fresh wr 58 (Fc.eventC y))
      have HI1 := Lib.hid (HI.out.low ((Below.refl wr.heap.size wr).alloc (Nat.le_refl _) (.cells (Fc.eventC y) 58)))
      have HYI := Lib.hid (HIN.out _ HI1.out.below y (hy ▸ List.getElem_mem hxj))
      have HYO := Lib.hid (HOK.out y (hy ▸ List.getElem_mem hxj))
      have HSO := Lib.hid (show FoldOk 160000 s.p from by
        have q := fold_ok (es := es.take j) (fun e he => HOK.out e (List.mem_of_mem_take he))
        rw [← HP.out, List.length_take] at q
        exact ⟨⟨Nat.le_trans q.lim.n1 (by omega), Nat.le_trans q.lim.n2 (by omega), Nat.le_trans q.lim.ps (by omega), Nat.le_trans q.lim.xs (by omega)⟩, q.txt, q.names⟩)
      have HSL := Lib.hid (limS_of HI1.out.own.in_ HSO.out.lim)
      have HYL := Lib.hid ((limS_of HYI.out HYO.out.lim).mono (show 1300 ≤ 160000 by decide))
      rw [hA]
      clear mr hA hbl hxj hy HI
      go_wp2_with (first | ((with_reducible refine Who.wpList_loadC 58 (.tmp 11) rfl (bk) (off + j * 21) (Fc.eventC y) ?_); refine And.intro ⟨by rfl, by rfl, ⟨_, Tryz.underlying58, rfl⟩, Sr.info_event⟩ (And.intro (MR.out) ?_)) | ((with_reducible refine Who.wpList_newC 58 5 (.tmp 12) rfl rfl rfl (Fc.eventC Sr.zeroE) (Fc.eventC y) ?_); refine And.intro ⟨rfl, rfl, rfl, Sr.alloc_event, by rfl, by rfl, Sr.info_event, rfl, Sr.event_one _⟩ ?_; (try simp only [Act.put, List.setIfInBounds_toArray, List.set_cons_zero, List.set_cons_succ]); (try simp only [World.size_alloc])) | ((with_reducible refine Who.wpList_loadC 27 (.tmp 3) rfl (g3) 0 (Fc.stateC s) ?_); refine And.intro ⟨by rfl, by rfl, ⟨_, Tryz.underlying27, rfl⟩, info_state⟩ (And.intro (Who.has_range HI1.out.hs) ?_)) | ((with_reducible refine Who.wpList_loadC 27 (.tmp 14) rfl (wr.heap.size) 11 (Fc.stateC y.d) ?_); refine And.intro ⟨by rfl, by rfl, ⟨_, Tryz.underlying27, rfl⟩, info_state⟩ (And.intro (event_d HY1.out) ?_)) | fail)
      refine (rstates_any s y.d _ HI1.out.own.in_ HYI.out (HSO.out.sum (by decide)) (HYO.out.sum (by decide)) HSO.out.names HYO.out.names ⟨Nat.le_trans HSL.out.n1 (by decide), Nat.le_trans HSL.out.n2 (by decide)⟩ ⟨Nat.le_trans HYL.out.n1 (by decide), Nat.le_trans HYL.out.n2 (by decide)⟩).mono ?_
      rintro e w2 ⟨s2, rfl, hp, ho, hb⟩
      have HI2 := Lib.hid (HI1.out.low hb)
      have HO2 := Lib.hid (ho.mono (Nat.zero_le _))
      have HP2 := Lib.hid (show s2.p = foldP (es.take (j + 1)) from by rw [hp, HP.out, HST.out])
      clear hp ho hb HI1 HY1 HST HP
      go_wp2_with (first | ((with_reducible refine wpList_storeG 27 (.tmp 3) (.tmp 16) rfl (g3) (Fc.stateC s) (Fc.stateC s2) ?_); refine And.intro ⟨rfl, by rfl, by rfl, info_state, state_one _, rfl, HI2.out.hs⟩ ?_; intro W8 HX8 HC8; (try simp only [Act.put, List.setIfInBounds_toArray, List.set_cons_zero, List.set_cons_succ])) | fail)
      have HI3 := Lib.hid (HI2.out.put HO2.out HX8.out HC8.out)
      go_wp2
      go_roundw
      case rel => exact ⟨j + 1, by go_num, by omega, s2, HP2, HI3⟩
      case measure => simp [intOf]; omega
    · have hjn : j = n := by omega
      have HPE := Lib.hid (show s.p = foldP es from by rw [HP.out, hjn, HLN.out, List.take_length])
      clear HP hjn
      go_wp2_with (first | ((with_reducible refine Who.wpList_loadC 27 (.tmp 3) rfl (g3) 0 (Fc.stateC s) ?_); refine And.intro ⟨by rfl, by rfl, ⟨_, Tryz.underlying27, rfl⟩, info_state⟩ (And.intro (Who.has_range HI.out.hs) ?_)) | ((with_reducible refine wpList_storeG 27 (.tmp 2) (.tmp 18) rfl (w.heap.size) (zeroS) (Fc.stateC s) ?_); refine And.intro ⟨rfl, by rfl, by rfl, info_state, state_one _, rfl, HI.out.hz⟩ ?_; intro W9 HX9 HC9; (try simp only [Act.put, List.setIfInBounds_toArray, List.set_cons_zero, List.set_cons_succ])) | fail)
      have HBF := Lib.hid (below_step HI.out.below HC9.out (Nat.le_refl _))
      have HOF := Lib.hid (HI.out.own.past HI.out.hz HC9.out)
      refine bodyPost_ret (v := .agg (Fc.stateC s)) (Who.results_cell (p := 2) (t := 27) rfl _ _ w.heap.size 0 (Fc.stateC s) _ (by rfl) (Who.has_range HX9.out) Tryz.underlying27 rfl info_state) rfl ?_
      exact ⟨s, rfl, HPE.out, HOF.out, HBF.out⟩
end Go.Proofs.YtblogecapegbmaaGreat.Jn
