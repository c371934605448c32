/- Join: left: what stays of a state, in memory of its own. -/
import Derived.Test.YtblogecapegbmaaGreatJkF
import Derived.Test.YtblogecapegbmaaGreatJoA
namespace Go.Proofs.YtblogecapegbmaaGreat.Jn
open Go.RowKit Go.Proofs.YtblogecapegbmaaGreat.Mem Go.Sort
open Go.Proofs.YtblogecapegbmaaGreat.Vc (joinV meetV vecC stC)
set_option linter.unusedVariables false set_option linter.unusedSimpArgs false set_option linter.unusedSectionVars false

def sdK (v : Nat → Int) : Fc.StateC := ⟨v, none, 0, 0, none, 0, 0, [], []⟩
theorem build_sdK (v : Nat → Int) (w : World) : (Instr.build 27 #[(0, .agg (vecC v))]).run Tryz.prog w = .ok (.agg (Fc.stateC (sdK v))) w := run_build w _ _ _ (by kernel_rfl)
theorem wpList_buildK {ops : Array Oper} {rest : List Oper} {o : Oper} {a : Act} {w : World} {Q : Exit → Act → World → Prop} (x : Operand) (v : Nat → Int) (ho : o.op = .build 27 #[(0, x)])
    (h : (o.guard = none ∧ a.eval x = .agg (vecC v)) ∧ wpList Tryz.prog ops Q rest (a.put o.dst (.agg (Fc.stateC (sdK v)))) w) : wpList Tryz.prog ops Q (o :: rest) a w := by
  obtain ⟨⟨h1, h2⟩, h3⟩ := h
  refine wpList_plain h1 fun K hK => ?_
  have e1 : (#[(0, x)] : Array (Nat × Operand)).map (fun (i, x) => (i, a.eval x)) = #[(0, .agg (vecC v))] := by simp [h2]
  have hb := build_sdK v w
  unfold Oper.wp execOp
  simp only [ho, e1, Sem.run_bind, Sem.run_pure, Sem.run_map, hb, Result.andThen_ok]
  exact hK _ _ h3
theorem ownK_len {α : Type} {w : World} {B : Nat} {E : TypeId} {k n c : Nat} {A : Option Addr} {C : α → Array Value} {xs : List α} (h : OwnK w B E k C (.slice A n c) xs) : n = xs.length := by
  obtain ⟨A2, c2, e, _⟩ := h.any
  injection e
theorem own_not_map {α : Type} {w : World} {B b : Nat} {E : TypeId} {k : Nat} {C : α → Array Value} {v : Value} {xs : List α} {m : Int × Int → Option Value} (h : OwnK w B E k C v xs) (hm : KMap stK w b m) : v.ownBlock ≠ some b := by
  rcases h.2 with ⟨rfl, _⟩ | ⟨g2, cap2, cur2, rfl, _, hw2, _⟩
  · intro e; cases e
  · intro e
    have e2 : g2 = b := by simpa [Value.ownBlock] using e
    subst e2
    obtain ⟨es, c, h1, _⟩ := hm
    rw [h1] at hw2
    injection hw2 with hw2
    cases hw2
theorem own_over {α : Type} {w w' : World} {B g : Nat} {E : TypeId} {k : Nat} {C : α → Array Value} {v : Value} {xs : List α} (h : OwnK w B E k C v xs) (hc : Chg (· = g) w w') (hne : v.ownBlock ≠ some g) : OwnK w' B E k C v xs :=
  World.ownsRow.kept h (row := some g) ⟨hc.os, hc.tape, hc.output, hc.size, fun q hq hn => hc.block q hq (fun e => hn (by rw [e]))⟩ (.inr hne)
/-- What left's loops keep: t is what is made so far, cl what was counted. -/
structure LfI (w W wr : World) (s t : Fc.StateC) (known : Nat → Int) (g mb bb sb gl : Nat) (bs : List Nat) (ss : List Bool) (m : Int × Int → Option Value) (cl : List (Int × Int)) : Prop where
  pr : PrI w wr s known g mb bb sb bs ss m
  lg : w.heap.size ≤ W.heap.size ∧ (g < W.heap.size ∧ mb < W.heap.size ∧ bb < W.heap.size ∧ sb < W.heap.size)
  below : Below W.heap.size W wr
  hz : Has wr W.heap.size 27 zeroS
  h3 : Has wr (W.heap.size + 1) 27 (Fc.stateC t)
  own : StateOwn W.heap.size wr t
  km : ∃ mm, KMap stK wr gl mm ∧ CntK cl mm
  lo : W.heap.size + 1 < gl
  seen : t.seen = s.seen
section
variable {w W wr w2 wa : World} {s t : Fc.StateC} {known : Nat → Int} {g mb bb sb gl c : Nat} {bs : List Nat} {ss : List Bool} {m : Int × Int → Option Value} {cl cl' : List (Int × Int)} {A : Option Addr}
theorem LfI.low (h : LfI w W wr s t known g mb bb sb gl bs ss m cl) (hb : Below wr.heap.size wr w2) : LfI w W w2 s t known g mb bb sb gl bs ss m cl := by
  obtain ⟨mm, m1, m2⟩ := h.km
  exact ⟨h.pr.low hb, h.lg, h.below.trans (hb.mono h.below.size), h.hz.below hb, h.h3.below hb, ⟨h.own.nodes.below hb, h.own.links.below hb, fun z hz => (h.own.each z hz).below hb⟩, ⟨mm, m1.below hb, m2⟩, h.lo, h.seen⟩
theorem LfI.count {mm : Int × Int → Option Value} (h : LfI w W wr s t known g mb bb sb gl bs ss m cl) {m0 : Int × Int → Option Value} (hm : KMap stK wr gl m0) (hx : KMap stK w2 gl mm) (hc : Chg (· = gl) wr w2) (hn : CntK cl' mm) : LfI w W w2 s t known g mb bb sb gl bs ss m cl' := by
  have hlo := h.lo
  have kb : Below W.heap.size wr w2 := hc.below h.below.size fun q hq e => by omega
  exact ⟨h.pr.far h.lg.1 h.lg.2 kb, h.lg, h.below.trans kb, h.hz.over hc (by omega), h.h3.over hc (by omega), ⟨own_kmap h.own.nodes hm hc, own_kmap h.own.links hm hc, fun z hz => ⟨own_kmap (h.own.each z hz).ps hm hc, own_kmap (h.own.each z hz).xs hm hc⟩⟩, ⟨mm, hx, hn⟩, h.lo, h.seen⟩
theorem LfI.links {l : List Fc.LinkP} (h : LfI w W wr s t known g mb bb sb gl bs ss m cl) (hn : OwnK wa W.heap.size 51 25 Fc.linkC (.slice A l.length c) l) (hc : Chg (fun q => (Value.slice t.A2 t.n2 t.c2).ownBlock = some q) wr wa) :
    Has wa (W.heap.size + 1) 27 (Fc.stateC t) ∧ ∀ W', Has W' (W.heap.size + 1) 27 (Fc.stateC { t with A2 := A, n2 := l.length, c2 := c, links := l }) → Chg (· = W.heap.size + 1) wa W' → LfI w W W' s { t with A2 := A, n2 := l.length, c2 := c, links := l } known g mb bb sb gl bs ss m cl := by
  have u := h.own.links
  have hlo := h.lo
  have h3 := has_other h.h3 u hc (by decide)
  have hb : Below W.heap.size wr wa := hc.below h.below.size fun q hq e => by have := (World.ownsRow.lt u q e).1; omega
  obtain ⟨mm, m1, m2⟩ := h.km
  refine ⟨h3, fun W' hx k => ?_⟩
  have kb : Below W.heap.size wa W' := k.below (Nat.le_trans h.below.size hb.size) fun q hq e => by omega
  exact ⟨(h.pr.far h.lg.1 h.lg.2 hb).far h.lg.1 h.lg.2 kb, h.lg, (h.below.trans hb).trans kb, (has_other h.hz u hc (by decide)).over k (by omega), hx, ⟨own_has (own_other h.own.nodes u hc (by decide)) h3 k (by decide), own_has hn h3 k (by decide), fun z hz => ⟨own_has (own_other (h.own.each z hz).ps u hc (by decide)) h3 k (by decide), own_has (own_other (h.own.each z hz).xs u hc (by decide)) h3 k (by decide)⟩⟩, ⟨mm, (m1.over hc (own_not_map u m1)).over k (by omega), m2⟩, h.lo, h.seen⟩
theorem LfI.nodes {l : List Fc.NodeC} (h : LfI w W wr s t known g mb bb sb gl bs ss m cl) (hn : OwnK wa W.heap.size 46 13 Fc.nodeC (.slice A l.length c) l) (he : ∀ z ∈ l, z ∈ t.nodes ∨ NodeOwn W.heap.size wr z) (hc : Chg (fun q => (Value.slice t.A1 t.n1 t.c1).ownBlock = some q) wr wa) :
    Has wa (W.heap.size + 1) 27 (Fc.stateC t) ∧ ∀ W', Has W' (W.heap.size + 1) 27 (Fc.stateC { t with A1 := A, n1 := l.length, c1 := c, nodes := l }) → Chg (· = W.heap.size + 1) wa W' → LfI w W W' s { t with A1 := A, n1 := l.length, c1 := c, nodes := l } known g mb bb sb gl bs ss m cl := by
  have u := h.own.nodes
  have hlo := h.lo
  have h3 := has_other h.h3 u hc (by decide)
  have hb : Below W.heap.size wr wa := hc.below h.below.size fun q hq e => by have := (World.ownsRow.lt u q e).1; omega
  obtain ⟨mm, m1, m2⟩ := h.km
  refine ⟨h3, fun W' hx k => ?_⟩
  have kb : Below W.heap.size wa W' := k.below (Nat.le_trans h.below.size hb.size) fun q hq e => by omega
  refine ⟨(h.pr.far h.lg.1 h.lg.2 hb).far h.lg.1 h.lg.2 kb, h.lg, (h.below.trans hb).trans kb, (has_other h.hz u hc (by decide)).over k (by omega), hx, ⟨own_has hn h3 k (by decide), own_has (own_other h.own.links u hc (by decide)) h3 k (by decide), fun z hz => ?_⟩, ⟨mm, (m1.over hc (own_not_map u m1)).over k (by omega), m2⟩, h.lo, h.seen⟩
  have o : NodeOwn W.heap.size wr z := (he z hz).elim (h.own.each z) id
  exact ⟨own_has (own_other o.ps u hc (by decide)) h3 k (by decide), own_has (own_other o.xs u hc (by decide)) h3 k (by decide)⟩
end
theorem LfI.inode {gy : Nat} {C : Array Value} {w W wr w2 : World} {s t : Fc.StateC} {known : Nat → Int} {g mb bb sb gl : Nat} {bs : List Nat} {ss : List Bool} {m : Int × Int → Option Value} {cl : List (Int × Int)} (h : LfI w W wr s t known g mb bb sb gl bs ss m cl) (hx : Has wr gy 46 C) (hc : Chg (· = gy) wr w2) (hg : W.heap.size + 1 < gy ∧ gl < gy ∧ W.heap.size ≤ gy) (ha : (Value.slice t.A1 t.n1 t.c1).ownBlock ≠ some gy) : LfI w W w2 s t known g mb bb sb gl bs ss m cl := by
  have hh := hg.1
  have hh2 := hg.2.1
  have kb : Below W.heap.size wr w2 := hc.below h.below.size fun q hq e => by omega
  obtain ⟨mm, m1, m2⟩ := h.km
  exact ⟨h.pr.far h.lg.1 h.lg.2 kb, h.lg, h.below.trans kb, h.hz.over hc (by omega), h.h3.over hc (by omega), ⟨own_over h.own.nodes hc ha, own_has h.own.links hx hc (by decide), fun z hz => ⟨own_has (h.own.each z hz).ps hx hc (by decide), own_has (h.own.each z hz).xs hx hc (by decide)⟩⟩, ⟨mm, m1.over hc (by omega), m2⟩, h.lo, h.seen⟩
theorem count_any (l : List Fc.LinkP) (i : Int × Int) : l.any (fun y => decide (y.node = i)) = decide (0 < countK (l.map Fc.LinkP.node) i) := by
  rw [Bool.eq_iff_iff, decide_eq_true_eq, List.any_eq_true, Nat.pos_iff_ne_zero]
  constructor
  · rintro ⟨y, hy, e⟩ h
    exact cntK_zero.1 h y.node (List.mem_map_of_mem hy) (of_decide_eq_true e)
  · intro h
    refine Classical.byContradiction fun k => h (cntK_zero.2 fun z hz e => ?_)
    obtain ⟨y, hy, rfl⟩ := List.mem_map.1 hz
    exact k ⟨y, hy, decide_eq_true e⟩
theorem le_sum {α : Type} (f : α → Nat) : ∀ {l : List α} {x : α}, x ∈ l → f x ≤ (l.map f).sum
  | y :: r, x, h => by
    rw [List.map_cons, List.sum_cons]
    rcases List.mem_cons.1 h with rfl | h
    · omega
    · have := le_sum f h
      omega
theorem lim_ps {s : Fc.StateC} {y : Fc.NodeC} {w : World} (h : LimS 4800 s) (hy : y ∈ s.nodes) (hn : NodeIn w y) : y.n1 ≤ 500000 := by
  have := le_sum Fc.NodeC.n1 hy
  have := h.ps
  omega
theorem lim_xs {s : Fc.StateC} {y : Fc.NodeC} {w : World} (h : LimS 4800 s) (hy : y ∈ s.nodes) (hn : NodeIn w y) : y.n2 ≤ 500000 := by
  have := le_sum Fc.NodeC.n2 hy
  have := h.xs
  omega
theorem info_sn : (Tryz.prog.info? 24).map (·.size) = some 1 := by kernel_rfl
theorem node_id {w : World} {g : Nat} {t : TypeId} {x : Fc.NodeC} (h : Has w g t (Fc.nodeC x)) : w.rangeAt g 0 (#[.int .i64 x.p.id.1, .int .i64 x.p.id.2] : Array Value).toList := range_of h fun j hj => by
  match j, (show j < 2 from hj) with
  | 0, _ | 1, _ => rfl
set_option maxRecDepth 100000 in
set_option maxHeartbeats 16000000 in
theorem leftA (s : Fc.StateC) (known : Nat → Int) (g mb bb sb : Nat) (bs : List Nat) (ss : List Bool) (m : Int × Int → Option Value) (kp : Fc.LinkP → Bool) (w W : World) (hI : PrI w W s known g mb bb sb bs ss m) (hss : ∀ i (h : i < s.links.length), ss[i]? = some (kp s.links[i])) (hl : LimS 4800 s) :
    Calls Tryz.prog 64 #[.pointer (some ⟨g, 0, none⟩)] W fun e W' => ∃ t, e = .returned (.agg (Fc.stateC t)) ∧ t.seen = s.seen ∧ t.links = s.links.filter kp ∧ t.nodes.map Fc.NodeC.p = (s.nodes.map Fc.NodeC.p).filter (usedB known (s.links.filter kp)) ∧ StateOwn W.heap.size W' t ∧ Below W.heap.size W W' := by
  have HLIM := Lib.hid hl
  have HSS := Lib.hid hss
  have HLN := Lib.hid (show s.links.length = s.n2 from hI.si.links.row.len)
  have HLM := Lib.hid (show s.nodes.length = s.n1 from hI.si.nodes.row.len)
  have HI0 := Lib.hid hI
  have HLG := Lib.hid (show w.heap.size ≤ W.heap.size ∧ (g < W.heap.size ∧ mb < W.heap.size ∧ bb < W.heap.size ∧ sb < W.heap.size) from ⟨hI.below.size, hI.hp.bound, hI.hm.bound, hI.hb.bound, hI.hs.bound⟩)
  have HB1 := Lib.hid ((Below.refl W.heap.size W).alloc (Nat.le_refl _) (.cells zeroS 27))
  have HI1 := Lib.hid (hI.low HB1.out)
  have HS1 := Lib.hid (Has.fresh W 27 zeroS)
  have HB2 := Lib.hid (HB1.out.alloc (by simp) (.cells zeroS 27))
  have HS2 := Lib.hid (HS1.out.past (.cells zeroS 27))
  have h3 : Has ((W.alloc (.cells zeroS 27)).alloc (.cells zeroS 27)) (W.heap.size + 1) 27 zeroS := by have q := Has.fresh (W.alloc (.cells zeroS 27)) 27 zeroS; rw [World.size_alloc] at q; exact q
  have HS3 := Lib.hid h3
  have hmm := @run_makeMap Tryz.prog
  clear hI h3 hl hss
  go_enter Tryz.func64, Tryz.ntmps64
  go_wp2_with (first | ((with_reducible refine Who.wpList_alloc 27 2 rfl rfl rfl (zeroS) allocS ?_); (try simp only [Act.put, List.setIfInBounds_toArray, List.set_cons_zero, List.set_cons_succ]); (try simp only [World.size_alloc])) | ((with_reducible refine Who.wpList_loadC 23 (.tmp 12) rfl (g) 0 (vecC s.seen) ?_); refine And.intro ⟨by rfl, by rfl, ⟨_, Tryz.underlying23, rfl⟩, info_vec⟩ (And.intro (prA_seen HI1.out.hp) ?_); (try simp only [Act.put, List.setIfInBounds_toArray, List.set_cons_zero, List.set_cons_succ])) | ((with_reducible refine wpList_buildK (.tmp 13) s.seen rfl ?_); refine And.intro ⟨rfl, by rfl⟩ ?_; (try simp only [Act.put, List.setIfInBounds_toArray, List.set_cons_zero, List.set_cons_succ])) | ((with_reducible refine Who.wpList_alloc 27 3 rfl rfl rfl (zeroS) allocS ?_); (try simp only [Act.put, List.setIfInBounds_toArray, List.set_cons_zero, List.set_cons_succ]); (try simp only [World.size_alloc])) | ((with_reducible refine wpList_storeG 27 (.tmp 3) (.tmp 14) rfl (W.heap.size + 1) (zeroS) (Fc.stateC (sdK s.seen)) ?_); refine And.intro ⟨rfl, by rfl, by rfl, info_state, state_one _, rfl, HS3.out⟩ ?_; intro W4 HX4 HC4; (try simp only [Act.put, List.setIfInBounds_toArray, List.set_cons_zero, List.set_cons_succ]); have HB4 := Lib.hid ((below_step HB2.out HC4.out (by omega)).alloc (below_step HB2.out HC4.out (by omega)).size (.map #[] 0)); have HI4 := Lib.hid (HI0.out.low HB4.out); have c9 : (W4.alloc (.map #[] 0)).cell? ⟨g, 9, none⟩ = some (.slice s.A2 s.n2 s.c2) := HI4.out.hp.at_ 9) | fail)
  obtain ⟨gl, hgl⟩ : ∃ gl, gl = W4.heap.size := ⟨_, rfl⟩
  have HLO := Lib.hid (show W.heap.size + 1 < gl from by rw [hgl]; exact HX4.out.bound)
  have HL := Lib.hid (show LfI w W (W4.alloc (.map #[] 0)) s (sdK s.seen) known g mb bb sb gl bs ss m [] from ⟨HI4.out, HLG.out, HB4.out, (HS2.out.over HC4.out (by omega)).past _, HX4.out.past _, ⟨OwnK.nil _ _ _ _ _, OwnK.nil _ _ _ _ _, fun y hy => by cases hy⟩, ⟨_, by rw [hgl]; exact KMap.made stK W4, cntK_nil⟩, HLO.out, rfl⟩)
  rw [← hgl]
  clear c9 HX4 HC4 HB1 HI1 HS1 HB2 HS2 HS3 HI4 HB4 hgl HI0
  go_loopw [22] (fun i wr => ∃ j : Nat, i = .int .i64 j ∧ j ≤ s.n2 ∧ Hid (∃ t, LfI w W wr s t known g mb bb sb gl bs ss m (t.links.map Fc.LinkP.node) ∧ t.links = (s.links.take j).filter kp ∧ t.nodes = [])) (fun i _ => s.n2 - (intOf i).toNat)
  case atStart => exact ⟨0, rfl, Nat.zero_le _, Lib.hid ⟨_, HL.out, rfl, rfl⟩⟩
  case round =>
    clear HL hmm
    obtain ⟨j, rfl, hj, HK⟩ := hrel
    by_cases hlt : j < s.n2
    · obtain ⟨t, hL, htl, htn⟩ := HK.out
      have HL := Lib.hid hL
      have HTL := Lib.hid htl
      have HTN := Lib.hid htn
      obtain ⟨bk, off, hA, hbl, hxj, mr⟩ := (hL.pr.si.links.row.below hL.pr.below).range (i := j) hlt
      have hxj : j < s.links.length := hxj
      obtain ⟨y, hy⟩ : ∃ y, s.links[j] = y := ⟨_, rfl⟩
      have hA : s.A2 = _ := hA
      have mr : wr.rangeAt bk (off + j * 25) (Fc.linkC (s.links[j])).toList := mr
      rw [hy] at mr
      have MR := Lib.hid mr
      obtain ⟨b, hb⟩ : ∃ b, kp y = b := ⟨_, rfl⟩
      have HSB := Lib.hid (show ss[j]? = some b from by rw [HSS.out j hxj, hy, hb])
      have HNX := Lib.hid (show (s.links.take (j + 1)).filter kp = (s.links.take j).filter kp ++ (if b = true then [y] else []) from by
        rw [List.take_succ_eq_append_getElem hxj, List.filter_append, hy]
        cases b <;> simp [List.filter_cons, hb])
      have HZ := Lib.hid (Has.fresh wr 51 zeroL)
      have HBA := Lib.hid ((Below.refl wr.heap.size wr).alloc (Nat.le_refl _) (.cells zeroL 51))
      have HJL := Lib.hid (show t.links.length ≤ 1000000 from by
        have h1 : ((s.links.take j).filter kp).length ≤ (s.links.take j).length := List.length_filter_le _ _
        rw [htl]
        rw [List.length_take] at h1
        have := HLIM.out.n2
        omega)
      have hjb : j ≤ 4800 := Nat.le_trans hj HLIM.out.n2
      rw [hA]
      clear mr hy hA hbl hxj hL htl htn HK hb
      cases b with
      | false =>
        go_wp2_with (first | ((with_reducible refine Who.wpList_loadC 51 (.tmp 25) rfl (bk) (off + j * 25) (Fc.linkC y) ?_); refine And.intro ⟨by rfl, by rfl, ⟨_, Tryz.underlying51, rfl⟩, info_link⟩ (And.intro (MR.out) ?_); (try simp only [Act.put, List.setIfInBounds_toArray, List.set_cons_zero, List.set_cons_succ])) | ((with_reducible refine Who.wpList_alloc 51 6 rfl rfl rfl (zeroL) allocL ?_); (try simp only [Act.put, List.setIfInBounds_toArray, List.set_cons_zero, List.set_cons_succ]); (try simp only [World.size_alloc])) | ((with_reducible refine wpList_storeG 51 (.tmp 6) (.tmp 26) rfl (wr.heap.size) (zeroL) (Fc.linkC y) ?_); refine And.intro ⟨rfl, by rfl, by rfl, info_link, own1 y, rfl, HZ.out⟩ ?_; intro W6 HX6 HC6; (try simp only [Act.put, List.setIfInBounds_toArray, List.set_cons_zero, List.set_cons_succ]); have HBW := Lib.hid (below_step HBA.out HC6.out (Nat.le_refl _)); have HL6 := Lib.hid (HL.out.low HBW.out); have c20 : W6.cell? ⟨g, 20, none⟩ = some (.slice (some ⟨sb, 0, none⟩) s.n2 s.n2) := HL6.out.pr.hp.at_ 20; have c0 : W6.cell? ⟨sb, j, none⟩ = some (.bool false) := (by rw [HL6.out.pr.hs.at_ j]; exact boolsA_at HSB.out); have c9 : W6.cell? ⟨W.heap.size + 1, 9, none⟩ = some (.slice t.A2 t.n2 t.c2) := HL6.out.h3.at_ 9) | fail)
        clear c20 c0 c9 HX6 HC6 HBW HZ HBA MR HL
        go_roundw
        case rel => exact ⟨j + 1, by go_num, by omega, Lib.hid ⟨t, HL6.out, by rw [HNX.out, HTL.out]; simp, HTN.out⟩⟩
        case measure => simp [intOf]; omega
      | true =>
        go_wp2_with (first | ((with_reducible refine Who.wpList_loadC 51 (.tmp 25) rfl (bk) (off + j * 25) (Fc.linkC y) ?_); refine And.intro ⟨by rfl, by rfl, ⟨_, Tryz.underlying51, rfl⟩, info_link⟩ (And.intro (MR.out) ?_); (try simp only [Act.put, List.setIfInBounds_toArray, List.set_cons_zero, List.set_cons_succ])) | ((with_reducible refine Who.wpList_alloc 51 6 rfl rfl rfl (zeroL) allocL ?_); (try simp only [Act.put, List.setIfInBounds_toArray, List.set_cons_zero, List.set_cons_succ]); (try simp only [World.size_alloc])) | ((with_reducible refine wpList_storeG 51 (.tmp 6) (.tmp 26) rfl (wr.heap.size) (zeroL) (Fc.linkC y) ?_); refine And.intro ⟨rfl, by rfl, by rfl, info_link, own1 y, rfl, HZ.out⟩ ?_; intro W6 HX6 HC6; (try simp only [Act.put, List.setIfInBounds_toArray, List.set_cons_zero, List.set_cons_succ]); have HBW := Lib.hid (below_step HBA.out HC6.out (Nat.le_refl _)); have HL6 := Lib.hid (HL.out.low HBW.out); have c20 : W6.cell? ⟨g, 20, none⟩ = some (.slice (some ⟨sb, 0, none⟩) s.n2 s.n2) := HL6.out.pr.hp.at_ 20; have c0 : W6.cell? ⟨sb, j, none⟩ = some (.bool true) := (by rw [HL6.out.pr.hs.at_ j]; exact boolsA_at HSB.out); have c9 : W6.cell? ⟨W.heap.size + 1, 9, none⟩ = some (.slice t.A2 t.n2 t.c2) := HL6.out.h3.at_ 9) | ((with_reducible refine Who.wpList_loadC 51 (.tmp 6) rfl (wr.heap.size) 0 (Fc.linkC y) ?_); refine And.intro ⟨by rfl, by rfl, ⟨_, Tryz.underlying51, rfl⟩, info_link⟩ (And.intro (Who.has_range HX6.out) ?_); (try simp only [Act.put, List.setIfInBounds_toArray, List.set_cons_zero, List.set_cons_succ])) | ((with_reducible refine wpl_build1 kdL (.tmp 36) rfl y ?_); refine And.intro ⟨rfl, by rfl⟩ ?_; (try simp only [Act.put, List.setIfInBounds_toArray, List.set_cons_zero, List.set_cons_succ])) | (at_builtin; (with_reducible refine wpl_one (B := W.heap.size) (u := .slice t.A2 t.n2 t.c2) (es := t.links) (e := y) kdL (.tmp 35) (.tmp 37) rfl rfl ?_); refine And.intro ⟨⟨by rfl, ⟨_, by rfl, by simp⟩⟩, HL6.out.own.links, HL6.out.below.size, Nat.le_trans HJL.out (by decide)⟩ ?_; intro u8 w8 hg8; obtain ⟨A8, n8, c8, hn8, hu8⟩ : ∃ A n c, n = (t.links ++ [y]).length ∧ u8 = .slice A n c := (by obtain ⟨A, c, e⟩ := hg8.sl; exact ⟨A, _, c, rfl, by rw [e, List.length_append]⟩); subst hu8; have HQ := Lib.hid (show Has w8 (W.heap.size + 1) 27 (Fc.stateC t) ∧ ∀ W', Has W' (W.heap.size + 1) 27 (Fc.stateC { t with A2 := A8, n2 := n8, c2 := c8, links := t.links ++ [y] }) → Chg (· = W.heap.size + 1) w8 W' → LfI w W W' s { t with A2 := A8, n2 := n8, c2 := c8, links := t.links ++ [y] } known g mb bb sb gl bs ss m (t.links.map Fc.LinkP.node) from (by have r := hg8.row; rw [hn8] at r ⊢; exact HL6.out.links r hg8.chg)); have HY8 := Lib.hid (show Has w8 wr.heap.size 51 (Fc.linkC y) from HX6.out.over hg8.chg (fun e => by have := (World.ownsRow.lt HL.out.own.links _ e).2; omega)); clear hg8 c20 c0 c9; (try simp only [Act.put, List.setIfInBounds_toArray, List.set_cons_zero, List.set_cons_succ])) | ((with_reducible refine wpList_cell (T := 27) 25 (.tmp 39) (.tmp 38) rfl (W.heap.size + 1) 9 (Fc.stateC t) (Fc.stateC { t with A2 := A8, n2 := n8, c2 := c8, links := t.links ++ [y] }) (.slice A8 n8 c8) ?_); refine And.intro ⟨rfl, rfl, by rfl, by rfl, info_sl, rfl, of_decide_eq_true rfl, by kernel_rfl, HQ.out.1⟩ ?_; intro W9 HX9 HC9; have HL9 := Lib.hid (HQ.out.2 W9 HX9.out HC9.out); have HY9 := Lib.hid (HY8.out.over HC9.out (by have := HL.out.h3.bound; omega)); (try simp only [Act.put, List.setIfInBounds_toArray, List.set_cons_zero, List.set_cons_succ])) | fail)
        obtain ⟨gy, hgy⟩ : ∃ gy, gy = wr.heap.size := ⟨_, rfl⟩
        rw [← hgy] at HY9
        rw [← hgy]
        have HGY := Lib.hid (show W.heap.size + 1 < gy ∧ gl < gy from by rw [hgy]; refine ⟨HL.out.h3.bound, ?_⟩; obtain ⟨mm, m1, _⟩ := HL.out.km; exact m1.bound)
        have HT9 := Lib.hid (And.intro hn8 HTL.out)
        clear HQ HY8 HX9 HC9 HX6 HC6 HBW HZ HBA MR HL HL6 hgy hn8
        obtain ⟨mm, hm1, hm2⟩ := HL9.out.km
        obtain ⟨cz, hcz⟩ : ∃ cz : Int, cz = (countK (t.links.map Fc.LinkP.node) y.node : Int) := ⟨_, rfl⟩
        have hczb : 0 ≤ cz ∧ cz ≤ 1000000 := by have h1 := cntK_le (t.links.map Fc.LinkP.node) y.node; rw [List.length_map] at h1; have := HJL.out; omega
        have HMZ := Lib.hid (show (mm y.node).getD (.int .i64 0) = .int .i64 cz from by rw [cntK_get hm2, hcz])
        have HM1 := Lib.hid hm1
        have HM2 := Lib.hid (show CntK (t.links.map Fc.LinkP.node ++ [y.node]) (updK mm y.node (.int .i64 (cz + 1))) from by rw [hcz]; exact cntK_snoc hm2)
        clear hm1 hm2 hcz
        refine wp_region_G 7 (S := fun V => Has V gy 51 (Fc.linkC y) ∧ ∃ mm, KMap stK V gl mm ∧ (mm y.node).getD (.int .i64 0) = .int .i64 cz) (by kernel_rfl) ⟨HY9.out.drew, mm, HM1.out.drew, HMZ.out⟩ (fun hHeld hCl => ?_)
        refine wpAnyG_read (i := 0) (d := some 40) (v := .map (some gl)) (by rfl) (by rfl) (by kernel_rfl) (by kernel_rfl) (by kernel_rfl) (by kernel_rfl) (by assumption) (fun _ _ _ h => h) (by rfl) ?hy7001 (by assumption) (fun hCl hHeld => ?rest7001)
        case hy7001 =>
          intro V hSw
          go_simp
        try simp only [Act.put, List.setIfInBounds_toArray, List.set_cons_zero, List.set_cons_succ]
        refine wpAnyG_read (i := 1) (d := some 41) (v := ?v7002) (by rfl) (by rfl) (by kernel_rfl) (by kernel_rfl) (by kernel_rfl) (by kernel_rfl) (by assumption) (fun _ _ _ h => h) (by rfl) ?hy7002 (by assumption) (fun hCl hHeld => ?rest7002)
        case hy7002 =>
          intro V hSw
          try dsimp only at hSw
          go_simp
          try with_reducible rfl
        try simp only [Act.put, List.setIfInBounds_toArray, List.set_cons_zero, List.set_cons_succ]
        refine wpAnyG_read (i := 2) (d := some 42) (v := .agg #[.int .i64 y.node.1, .int .i64 y.node.2]) (by rfl) (by rfl) (by kernel_rfl) (by kernel_rfl) (by kernel_rfl) (by kernel_rfl) (by assumption) (fun _ _ _ h => h) (by rfl) ?hy7003 (by assumption) (fun hCl hHeld => ?rest7003)
        case hy7003 =>
          intro V hSw
          exact Who.exec_loadA _ rfl rfl (link_node hSw.1) Tryz.underlying37 rfl info_st
        try simp only [Act.put, List.setIfInBounds_toArray, List.set_cons_zero, List.set_cons_succ]
        refine wpAnyG_read (i := 3) (d := some 43) (v := .int .i64 cz) (by rfl) (by rfl) (by kernel_rfl) (by kernel_rfl) (by kernel_rfl) (by kernel_rfl) (by assumption) (fun _ _ _ h => h) (by rfl) ?hy7004 (by assumption) (fun hCl hHeld => ?rest7004)
        case hy7004 =>
          intro V hSw
          obtain ⟨m3, g1, g2⟩ := hSw.2
          have hk : (Instr.lookup 98 (.map (some gl)) (.agg #[.int .i64 y.node.1, .int .i64 y.node.2]) false).run Tryz.prog V = .ok (.int .i64 cz) V := by have q := (KMap.lookup Tryz.underlying98 stKeys g1 (.int .i64 0) Tryz.zeroValue3 y.node).1; rw [g2] at q; exact q
          go_simp
        try simp only [Act.put, List.setIfInBounds_toArray, List.set_cons_zero, List.set_cons_succ]
        refine wpAnyG_read (i := 4) (d := some 44) (v := .int .i64 (cz + 1)) (by rfl) (by rfl) (by kernel_rfl) (by kernel_rfl) (by kernel_rfl) (by kernel_rfl) (by assumption) (fun _ _ _ h => h) (by rfl) ?hy7005 (by assumption) (fun hCl hHeld => ?rest7005)
        case hy7005 =>
          intro V hSw
          have hwr : IntKind.i64.wrap (cz + 1) = cz + 1 := by rw [IntKind.wrap_i64] <;> omega
          go_simp
        try simp only [Act.put, List.setIfInBounds_toArray, List.set_cons_zero, List.set_cons_succ]
        refine wpAnyG_ready (rs := [5]) (by kernel_rfl) (by simp) ?_
        refine AllReadyG.cons rfl (by assumption) (by kernel_rfl) (fun K hK => ?_) AllReadyG.nil
        refine stepK_entry 45 gl mm y.node (.tmp 40) (.tmp 42) (by rfl) (by rfl) ?_
        refine And.intro ⟨by rfl, by rfl, by rfl, HM1.out.drew⟩ ?_
        intro q w4 k4 c4 r4
        rw [HMZ.out]
        obtain ⟨w5, r5, k5, c5⟩ := r4.out (.int .i64 (cz + 1))
        have HY4 := Lib.hid (HY9.out.drew.over c4.out (by have := HGY.out.2; omega))
        have HL5 := Lib.hid ((HL9.out.low (Below.refl _ _).drew).count HM1.out.drew k5 (c4.out.trans c5) HM2.out)
        have HR5 := Lib.hid r5
        clear r4 r5 k5 c5
        refine hK.out _ _ (fun _ => ⟨HY4.out, _, k4.out, by rw [updK_same]; exact HMZ.out⟩) (fun hHeld hCl => ?_)
        clear hK K
        try simp only [Act.put, List.setIfInBounds_toArray, List.set_cons_zero, List.set_cons_succ]
        refine wpAnyG_read (i := 6) (d := some 46) (v := .int .i64 q) (by rfl) (by rfl) (by kernel_rfl) (by kernel_rfl) (by kernel_rfl) (by kernel_rfl) (by assumption) (fun _ _ _ h => h) (by rfl) ?hy7006 (by assumption) (fun hCl hHeld => ?rest7006)
        case hy7006 =>
          intro V hSw
          go_simp
        try simp only [Act.put, List.setIfInBounds_toArray, List.set_cons_zero, List.set_cons_succ]
        refine wpAnyG_ready (rs := [7]) (by kernel_rfl) (by simp) ?_
        refine AllReadyG.cons rfl (by assumption) (by kernel_rfl) (fun K hK => ?_) AllReadyG.nil
        refine stepK_enter (w3 := w5) gl q (.int .i64 (cz + 1)) (.tmp 40) (.tmp 46) (.tmp 44) (by rfl) ?_
        refine And.intro ⟨by rfl, by rfl, by rfl, by rfl, by rfl, HR5.out⟩ ?_
        refine hK.out _ _ (late (by rfl)) (fun hHeld hCl => ?_)
        clear hK K
        try simp only [Act.put, List.setIfInBounds_toArray, List.set_cons_zero, List.set_cons_succ]
        refine wpAnyG_done (by kernel_rfl) ?_ _
        clear HL9 HY9 HY4 HM1 HM2 HMZ c4 k4 HR5 hczb
        go_wp2
        go_roundw
        case rel => exact ⟨j + 1, by go_num, by omega, Lib.hid ⟨{ t with A2 := A8, n2 := n8, c2 := c8, links := t.links ++ [y] }, by rw [List.map_append]; exact HL5.out, by rw [HNX.out, ← HT9.out.2]; rfl, HTN.out⟩⟩
        case measure => simp [intOf]; omega
    · obtain rfl : s.n2 = j := by omega
      obtain ⟨t, hL, htl, htn⟩ := HK.out
      rw [← HLN.out, List.take_length] at htl
      have HL := Lib.hid hL
      have HTL := Lib.hid htl
      have HTN := Lib.hid htn
      have c8 : wr.cell? ⟨g, 8, none⟩ = some (.slice s.A1 s.n1 s.c1) := hL.pr.hp.at_ 8
      clear hL htl htn HK hlt hj
      go_wp2
      clear c8
      go_loopw [54] (fun i wr => ∃ j : Nat, i = .int .i64 j ∧ j ≤ s.n1 ∧ Hid (∃ t, LfI w W wr s t known g mb bb sb gl bs ss m ((s.links.filter kp).map Fc.LinkP.node) ∧ t.links = s.links.filter kp ∧ t.nodes.map Fc.NodeC.p = ((s.nodes.take j).map Fc.NodeC.p).filter (usedB known (s.links.filter kp)))) (fun i _ => s.n1 - (intOf i).toNat)
      case atStart => exact ⟨0, rfl, Nat.zero_le _, Lib.hid ⟨t, by rw [← HTL.out]; exact HL.out, HTL.out, by rw [HTN.out]; rfl⟩⟩
      case round =>
        clear HL HTL HTN
        obtain ⟨j, rfl, hj, HK⟩ := hrel
        by_cases hlt : j < s.n1
        · obtain ⟨t, hL, htl, htn⟩ := HK.out
          have HL := Lib.hid hL
          have HTL := Lib.hid htl
          have HTN := Lib.hid htn
          obtain ⟨bk, off, hA, hbl, hxj, mr⟩ := (hL.pr.si.nodes.row.below hL.pr.below).range (i := j) hlt
          have hxj : j < s.nodes.length := hxj
          obtain ⟨y, hy⟩ : ∃ y, s.nodes[j] = y := ⟨_, rfl⟩
          have hA : s.A1 = _ := hA
          have mr : wr.rangeAt bk (off + j * 13) (Fc.nodeC (s.nodes[j])).toList := mr
          rw [hy] at mr
          have MR := Lib.hid mr
          have HYM := Lib.hid (show y ∈ s.nodes from by rw [← hy]; exact List.getElem_mem hxj)
          have HYN := Lib.hid (hL.pr.si.each y HYM.out)
          obtain ⟨cz, hcz⟩ : ∃ cz : Nat, cz = countK ((s.links.filter kp).map Fc.LinkP.node) y.p.id := ⟨_, rfl⟩
          have HCZ := Lib.hid hcz
          obtain ⟨zb, hzb⟩ : ∃ zb, Vc.hasB known y.p.id.1 y.p.id.2 = zb := ⟨_, rfl⟩
          have HH := Lib.hid (fun V => (show Calls Tryz.prog 69 #[.agg (vecC known), .agg #[.int .i64 y.p.id.1, .int .i64 y.p.id.2]] V fun e w' => e = .returned (.bool zb) ∧ Below V.heap.size V w' from by rw [← hzb]; exact Vc.has_any known y.p.id.1 y.p.id.2 V))
          have HUS := Lib.hid (show usedB known (s.links.filter kp) y.p = (decide (0 < cz) || !zb) from by rw [hcz, ← hzb]; unfold usedB; rw [count_any])
          have HNX := Lib.hid (show ((s.nodes.take (j + 1)).map Fc.NodeC.p).filter (usedB known (s.links.filter kp)) = ((s.nodes.take j).map Fc.NodeC.p).filter (usedB known (s.links.filter kp)) ++ (if (decide (0 < cz) || !zb) = true then [y.p] else []) from by
            rw [← HUS.out, List.take_succ_eq_append_getElem hxj, List.map_append, List.filter_append, hy]
            cases h : usedB known (s.links.filter kp) y.p <;> simp [List.filter_cons, h])
          have HJL := Lib.hid (show t.nodes.length ≤ 1000000 from by
            have h1 := congrArg List.length htn
            have h2 : (((s.nodes.take j).map Fc.NodeC.p).filter (usedB known (s.links.filter kp))).length ≤ ((s.nodes.take j).map Fc.NodeC.p).length := List.length_filter_le _ _
            rw [List.length_map] at h1 h2
            rw [List.length_take] at h2
            have := HLIM.out.n1
            omega)
          have hczb : cz ≤ 1000000 := by have h1 := cntK_le ((s.links.filter kp).map Fc.LinkP.node) y.p.id; rw [List.length_map] at h1; have h2 : (s.links.filter kp).length ≤ s.links.length := List.length_filter_le _ _; have := HLIM.out.n2; have := HLN.out; omega
          have HZ := Lib.hid (Has.fresh wr 46 (Fc.nodeC y))
          have HBA := Lib.hid ((Below.refl wr.heap.size wr).alloc (Nat.le_refl _) (.cells (Fc.nodeC y) 46))
          have hjb : j ≤ 4800 := Nat.le_trans hj HLIM.out.n1
          rw [hA]
          clear mr hy hA hbl hxj hL htl htn HK hcz hzb
          go_wp2_with (first | ((with_reducible refine Who.wpList_loadC 46 (.tmp 56) rfl (bk) (off + j * 13) (Fc.nodeC y) ?_); refine And.intro ⟨by rfl, by rfl, ⟨_, Tryz.underlying46, rfl⟩, infoN⟩ (And.intro (MR.out) ?_); (try simp only [Act.put, List.setIfInBounds_toArray, List.set_cons_zero, List.set_cons_succ])) | ((with_reducible refine Who.wpList_newC 46 8 (.tmp 57) rfl rfl rfl (zeroN) (Fc.nodeC y) ?_); refine And.intro ⟨rfl, rfl, rfl, allocN, by rfl, by rfl, infoN, rfl, oneN y⟩ ?_; (try simp only [Act.put, List.setIfInBounds_toArray, List.set_cons_zero, List.set_cons_succ]); (try simp only [World.size_alloc])) | fail)
          obtain ⟨gy, hgy⟩ : ∃ gy, gy = wr.heap.size := ⟨_, rfl⟩
          rw [← hgy] at HZ
          rw [← hgy]
          have HGY := Lib.hid (show W.heap.size + 1 < gy ∧ gl < gy ∧ W.heap.size ≤ gy from by rw [hgy]; refine ⟨HL.out.h3.bound, ?_, HL.out.below.size⟩; obtain ⟨mm, m1, _⟩ := HL.out.km; exact m1.bound)
          have HAP := Lib.hid (show (Value.slice t.A1 t.n1 t.c1).ownBlock ≠ some gy from fun e => by have := (World.ownsRow.lt HL.out.own.nodes _ e).2; omega)
          have HL0 := Lib.hid ((HL.out.low HBA.out).low (Below.refl _ _).drew)
          have HY0 := Lib.hid HZ.out.drew
          clear HL HZ HBA hgy MR
          by_cases hc0 : 0 < cz
          · have HZC := Lib.hid (show decide (0 < cz) = true from decide_eq_true hc0)
            clear hc0 HH
            refine wp_region_held_drew (S := fun V => Has V g 100 (prA s known mb bb sb) ∧ Has V gy 46 (Fc.nodeC y) ∧ ∃ mm, KMap stK V gl mm ∧ CntK ((s.links.filter kp).map Fc.LinkP.node) mm) (by kernel_rfl) ⟨HL0.out.pr.hp, HY0.out, HL0.out.km⟩ (fun hHeld => ?_)
            refine Vc.wpAnyH_read (i := 0) (d := some 58) (v := .map (some gl)) (by rfl) (by rfl) (by kernel_rfl) (by kernel_rfl) (by kernel_rfl) (fun _ _ _ h => h) (by rfl) ?hy20001 (by assumption) ?rest20001
            case hy20001 =>
              intro w hSw
              go_simp
            try simp only [Act.put, List.setIfInBounds_toArray, List.set_cons_zero, List.set_cons_succ]
            refine Vc.wpAnyH_read (i := 1) (d := some 59) (v := ?v20002) (by rfl) (by rfl) (by kernel_rfl) (by kernel_rfl) (by kernel_rfl) (fun _ _ _ h => h) (by rfl) ?hy20002 (by assumption) ?rest20002
            case hy20002 =>
              intro w hSw
              try dsimp only at hSw
              go_simp
              try with_reducible rfl
            try simp only [Act.put, List.setIfInBounds_toArray, List.set_cons_zero, List.set_cons_succ]
            refine Vc.wpAnyH_read (i := 2) (d := some 60) (v := .agg #[.int .i64 y.p.id.1, .int .i64 y.p.id.2]) (by rfl) (by rfl) (by kernel_rfl) (by kernel_rfl) (by kernel_rfl) (fun _ _ _ h => h) (by rfl) ?hy20003 (by assumption) ?rest20003
            case hy20003 =>
              intro w hSw
              exact Who.exec_loadA _ rfl rfl (node_id hSw.2.1) Tryz.underlying37 rfl info_st
            try simp only [Act.put, List.setIfInBounds_toArray, List.set_cons_zero, List.set_cons_succ]
            refine Vc.wpAnyH_read (i := 3) (d := some 61) (v := .int .i64 (cz : Int)) (by rfl) (by rfl) (by kernel_rfl) (by kernel_rfl) (by kernel_rfl) (fun _ _ _ h => h) (by rfl) ?hy20004 (by assumption) ?rest20004
            case hy20004 =>
              intro w hSw
              have hk : (Instr.lookup 98 (.map (some gl)) (.agg #[.int .i64 y.p.id.1, .int .i64 y.p.id.2]) false).run Tryz.prog w = .ok (.int .i64 (cz : Int)) w := (by obtain ⟨m3, g1, g2⟩ := hSw.2.2; have q := (KMap.lookup Tryz.underlying98 stKeys g1 (.int .i64 0) Tryz.zeroValue3 y.p.id).1; rw [cntK_get g2, ← HCZ.out] at q; exact q); go_simp
            try simp only [Act.put, List.setIfInBounds_toArray, List.set_cons_zero, List.set_cons_succ]
            refine Vc.wpAnyH_read (i := 4) (d := some 62) (v := .bool true) (by rfl) (by rfl) (by kernel_rfl) (by kernel_rfl) (by kernel_rfl) (fun _ _ _ h => h) (by rfl) ?hy20005 (by assumption) ?rest20005
            case hy20005 =>
              intro w hSw
              go_simp; try (have h := HZC.out; simp at h; omega)
            try simp only [Act.put, List.setIfInBounds_toArray, List.set_cons_zero, List.set_cons_succ]
            refine Vc.wpAnyH_read (i := 5) (d := some 63) (v := ?v20006) (by rfl) (by rfl) (by kernel_rfl) (by kernel_rfl) (by kernel_rfl) (fun _ _ _ h => h) (by rfl) ?hy20006 (by assumption) ?rest20006
            case hy20006 =>
              intro w hSw
              try dsimp only at hSw
              go_simp
              try with_reducible rfl
            try simp only [Act.put, List.setIfInBounds_toArray, List.set_cons_zero, List.set_cons_succ]
            refine Vc.wpAnyH_skip (i := 6) (d := some 64) (by rfl) (by rfl) (by kernel_rfl) (by kernel_rfl) (by kernel_rfl) (fun _ _ _ h => h) (by rfl) (by assumption) ?_
            try simp only [Act.put, List.setIfInBounds_toArray, List.set_cons_zero, List.set_cons_succ]
            refine Vc.wpAnyH_skip (i := 7) (d := some 65) (by rfl) (by rfl) (by kernel_rfl) (by kernel_rfl) (by kernel_rfl) (fun _ _ _ h => h) (by rfl) (by assumption) ?_
            try simp only [Act.put, List.setIfInBounds_toArray, List.set_cons_zero, List.set_cons_succ]
            refine Vc.wpAnyH_skip (i := 8) (d := some 66) (by rfl) (by rfl) (by kernel_rfl) (by kernel_rfl) (by kernel_rfl) (fun _ _ _ h => h) (by rfl) (by assumption) ?_
            try simp only [Act.put, List.setIfInBounds_toArray, List.set_cons_zero, List.set_cons_succ]
            refine Vc.wpAnyH_skip (i := 9) (d := some 67) (by rfl) (by rfl) (by kernel_rfl) (by kernel_rfl) (by kernel_rfl) (fun _ _ _ h => h) (by rfl) (by assumption) ?_
            try simp only [Act.put, List.setIfInBounds_toArray, List.set_cons_zero, List.set_cons_succ]
            refine Vc.wpAnyH_skip (i := 10) (d := some 68) (by rfl) (by rfl) (by kernel_rfl) (by kernel_rfl) (by kernel_rfl) (fun _ _ _ h => h) (by rfl) (by assumption) ?_
            try simp only [Act.put, List.setIfInBounds_toArray, List.set_cons_zero, List.set_cons_succ]
            refine Vc.wpAnyH_skip (i := 11) (d := some 69) (by rfl) (by rfl) (by kernel_rfl) (by kernel_rfl) (by kernel_rfl) (fun _ _ _ h => h) (by rfl) (by assumption) ?_
            try simp only [Act.put, List.setIfInBounds_toArray, List.set_cons_zero, List.set_cons_succ]
            refine Vc.wpAnyH_skip (i := 12) (d := some 70) (by rfl) (by rfl) (by kernel_rfl) (by kernel_rfl) (by kernel_rfl) (fun _ _ _ h => h) (by rfl) (by assumption) ?_
            try simp only [Act.put, List.setIfInBounds_toArray, List.set_cons_zero, List.set_cons_succ]
            refine Vc.wpAnyH_skip (i := 13) (d := some 71) (by rfl) (by rfl) (by kernel_rfl) (by kernel_rfl) (by kernel_rfl) (fun _ _ _ h => h) (by rfl) (by assumption) ?_
            try simp only [Act.put, List.setIfInBounds_toArray, List.set_cons_zero, List.set_cons_succ]
            refine Vc.wpAnyH_read (i := 14) (d := some 72) (v := ?v20015) (by rfl) (by rfl) (by kernel_rfl) (by kernel_rfl) (by kernel_rfl) (fun _ _ _ h => h) (by rfl) ?hy20015 (by assumption) ?rest20015
            case hy20015 =>
              intro w hSw
              try dsimp only at hSw
              go_simp
              try with_reducible rfl
            try simp only [Act.put, List.setIfInBounds_toArray, List.set_cons_zero, List.set_cons_succ]
            refine wpAnyH_done (by kernel_rfl) ?_ _
            go_wp2_with fail
            have HLA := Lib.hid (HL0.out.low (Below.refl _ _).drew)
            have HYA := Lib.hid HY0.out.drew
            clear HL0 HY0
            refine wp_region_G 7 (S := fun V => Has V gy 46 (Fc.nodeC y)) (by kernel_rfl) HYA.out (fun hHeld hCl => ?_)
            refine wpAnyG_read (i := 0) (d := some 73) (v := ?v7007) (by rfl) (by rfl) (by kernel_rfl) (by kernel_rfl) (by kernel_rfl) (by kernel_rfl) (by assumption) (fun _ _ _ h => h) (by rfl) ?hy7007 (by assumption) (fun hCl hHeld => ?rest7007)
            case hy7007 =>
              intro V hSw
              try dsimp only at hSw
              go_simp
              try with_reducible rfl
            try simp only [Act.put, List.setIfInBounds_toArray, List.set_cons_zero, List.set_cons_succ]
            refine wpAnyG_read (i := 1) (d := some 74) (v := .slice y.A1 y.n1 y.c1) (by rfl) (by rfl) (by kernel_rfl) (by kernel_rfl) (by kernel_rfl) (by kernel_rfl) (by assumption) (fun _ _ _ h => h) (by rfl) ?hy7008 (by assumption) (fun hCl hHeld => ?rest7008)
            case hy7008 =>
              intro V hSw
              have c := hSw.at_ 11
              replace c : V.cell? ⟨gy, 11, none⟩ = some (.slice y.A1 y.n1 y.c1) := c
              go_simp
            try simp only [Act.put, List.setIfInBounds_toArray, List.set_cons_zero, List.set_cons_succ]
            refine wpAnyG_read (i := 3) (d := some 76) (v := ?v7009) (by rfl) (by rfl) (by kernel_rfl) (by kernel_rfl) (by kernel_rfl) (by kernel_rfl) (by assumption) (fun _ _ _ h => h) (by rfl) ?hy7009 (by assumption) (fun hCl hHeld => ?rest7009)
            case hy7009 =>
              intro V hSw
              try dsimp only at hSw
              go_simp
              try with_reducible rfl
            try simp only [Act.put, List.setIfInBounds_toArray, List.set_cons_zero, List.set_cons_succ]
            refine wpAnyG_read (i := 4) (d := some 77) (v := .slice y.A2 y.n2 y.c2) (by rfl) (by rfl) (by kernel_rfl) (by kernel_rfl) (by kernel_rfl) (by kernel_rfl) (by assumption) (fun _ _ _ h => h) (by rfl) ?hy7010 (by assumption) (fun hCl hHeld => ?rest7010)
            case hy7010 =>
              intro V hSw
              have c := hSw.at_ 12
              replace c : V.cell? ⟨gy, 12, none⟩ = some (.slice y.A2 y.n2 y.c2) := c
              go_simp
            try simp only [Act.put, List.setIfInBounds_toArray, List.set_cons_zero, List.set_cons_succ]
            refine wpAnyG_ready (rs := [2]) (by kernel_rfl) (by simp) ?_
            refine AllReadyG.cons rfl (by assumption) (by kernel_rfl) (fun K hK => ?_) AllReadyG.nil
            go_simp
            go_at_call 36
            refine (cloneP_any y.A1 y.n1 y.c1 y.p.ps (lim_ps HLIM.out HYM.out HYN.out) _ (HYN.out.ps.below HLA.out.pr.below)).mono ?_
            rintro e w3 ⟨v, rfl, ho, hb⟩
            obtain ⟨A3, c3, hv, _⟩ := ho.any
            subst hv
            have HLB := Lib.hid (HLA.out.low hb)
            have HYB := Lib.hid (HYA.out.below hb)
            have HOP := Lib.hid (ho.mono HLA.out.below.size)
            clear ho hb HLA HYA
            refine hK.out _ _ (fun _ => HYB.out) (fun hHeld hCl => ?_)
            clear hK K
            try simp only [Act.put, List.setIfInBounds_toArray, List.set_cons_zero, List.set_cons_succ]
            refine wpAnyG_read (i := 6) (d := some 79) (v := ?v7011) (by rfl) (by rfl) (by kernel_rfl) (by kernel_rfl) (by kernel_rfl) (by kernel_rfl) (by assumption) (fun _ _ _ h => h) (by rfl) ?hy7011 (by assumption) (fun hCl hHeld => ?rest7011)
            case hy7011 =>
              intro V hSw
              try dsimp only at hSw
              go_simp
              try with_reducible rfl
            try simp only [Act.put, List.setIfInBounds_toArray, List.set_cons_zero, List.set_cons_succ]
            refine wpAnyG_ready (rs := [5]) (by kernel_rfl) (by simp) ?_
            refine AllReadyG.cons rfl (by assumption) (by kernel_rfl) (fun K hK => ?_) AllReadyG.nil
            go_simp
            go_at_call 37
            refine (cloneX_any y.A2 y.n2 y.c2 y.p.xs (lim_xs HLIM.out HYM.out HYN.out) _ (HYN.out.xs.below HLB.out.pr.below)).mono ?_
            rintro e w4 ⟨v, rfl, ho, hb⟩
            obtain ⟨A4, c4, hv, _⟩ := ho.any
            subst hv
            have HLC := Lib.hid (HLB.out.low hb)
            have HYC := Lib.hid (HYB.out.below hb)
            have HOX := Lib.hid (ho.mono HLB.out.below.size)
            have HOQ := Lib.hid (HOP.out.below hb)
            clear ho hb HLB HYB HOP
            refine hK.out _ _ (fun _ => HYC.out) (fun hHeld hCl => ?_)
            clear hK K
            try simp only [Act.put, List.setIfInBounds_toArray, List.set_cons_zero, List.set_cons_succ]
            refine wpAnyG_ready (rs := [7]) (by kernel_rfl) (by simp) ?_
            refine AllReadyG.cons rfl (by assumption) (by kernel_rfl) (fun K hK => ?_) AllReadyG.nil
            refine stepG_cell (T := 46) 43 (.tmp 79) (.tmp 75) (by rfl) gy 11 (Fc.nodeC y) (Fc.nodeC { y with A1 := A3, n1 := y.p.ps.length, c1 := c3 }) (.slice A3 y.p.ps.length c3) ?_
            refine And.intro ⟨by rfl, by rfl, by rfl, by rfl, info_sp, rfl, of_decide_eq_true rfl, by kernel_rfl, HYC.out⟩ ?_
            intro W5 HX5 HC5
            have HLD := Lib.hid (HLC.out.inode HYC.out HC5.out HGY.out HAP.out)
            have HOX5 := Lib.hid (own_has HOX.out HYC.out HC5.out (by decide))
            have HOP5 := Lib.hid (own_has HOQ.out HYC.out HC5.out (by decide))
            clear HLC HOX HOQ
            refine hK.out _ _ (late (by rfl)) (fun hHeld hCl => ?_)
            clear hK K
            try simp only [Act.put, List.setIfInBounds_toArray, List.set_cons_zero, List.set_cons_succ]
            refine wpAnyG_pure (i := 8) (d := some 80) (v := ?v7012) (by rfl) (by rfl) (by kernel_rfl) (by rfl) ?hy7012 (by assumption) (by assumption) (fun hCl hHeld => ?rest7012)
            case hy7012 =>
              go_simp
              try with_reducible rfl
            try simp only [Act.put, List.setIfInBounds_toArray, List.set_cons_zero, List.set_cons_succ]
            refine wpAnyG_ready (rs := [9]) (by kernel_rfl) (by simp) ?_
            refine AllReadyG.cons rfl (by assumption) (by kernel_rfl) (fun K hK => ?_) AllReadyG.nil
            refine stepG_cell (T := 46) 44 (.tmp 80) (.tmp 78) (by rfl) gy 12 (Fc.nodeC { y with A1 := A3, n1 := y.p.ps.length, c1 := c3 }) (Fc.nodeC { y with A1 := A3, n1 := y.p.ps.length, c1 := c3, A2 := A4, n2 := y.p.xs.length, c2 := c4 }) (.slice A4 y.p.xs.length c4) ?_
            refine And.intro ⟨by rfl, by rfl, by rfl, by rfl, info_sx, rfl, of_decide_eq_true rfl, by kernel_rfl, HX5.out⟩ ?_
            intro W6 HX6 HC6
            have HLE := Lib.hid (HLD.out.inode HX5.out HC6.out HGY.out HAP.out)
            have HNO := Lib.hid (show NodeOwn W.heap.size W6 { y with A1 := A3, n1 := y.p.ps.length, c1 := c3, A2 := A4, n2 := y.p.xs.length, c2 := c4 } from ⟨own_has HOP5.out HX5.out HC6.out (by decide), own_has HOX5.out HX5.out HC6.out (by decide)⟩)
            clear HLD HOX5 HOP5 HYC HX5 HC5 HC6
            refine hK.out _ _ (late (by rfl)) (fun hHeld hCl => ?_)
            clear hK K
            try simp only [Act.put, List.setIfInBounds_toArray, List.set_cons_zero, List.set_cons_succ]
            refine wpAnyG_done (by kernel_rfl) ?_ _
            obtain ⟨y3, hy3⟩ : ∃ y3 : Fc.NodeC, y3 = { y with A1 := A3, n1 := y.p.ps.length, c1 := c3, A2 := A4, n2 := y.p.xs.length, c2 := c4 } := ⟨_, rfl⟩
            rw [← hy3] at HNO HX6
            have HYP := Lib.hid (show y3.p = y.p from by rw [hy3])
            clear hy3
            have c8 : W6.cell? ⟨W.heap.size + 1, 8, none⟩ = some (.slice t.A1 t.n1 t.c1) := HLE.out.h3.at_ 8
            go_wp2_with (first | ((with_reducible refine Who.wpList_loadC 46 (.tmp 8) rfl (gy) 0 (Fc.nodeC y3) ?_); refine And.intro ⟨by rfl, by rfl, ⟨_, Tryz.underlying46, rfl⟩, infoN⟩ (And.intro (Who.has_range HX6.out) ?_); (try simp only [Act.put, List.setIfInBounds_toArray, List.set_cons_zero, List.set_cons_succ])) | ((with_reducible refine wpl_build1 kdN (.tmp 83) rfl y3 ?_); refine And.intro ⟨rfl, by rfl⟩ ?_; (try simp only [Act.put, List.setIfInBounds_toArray, List.set_cons_zero, List.set_cons_succ])) | (at_builtin; (with_reducible refine wpl_one (B := W.heap.size) (u := .slice t.A1 t.n1 t.c1) (es := t.nodes) (e := y3) kdN (.tmp 82) (.tmp 84) rfl rfl ?_); refine And.intro ⟨⟨by rfl, ⟨_, by rfl, by simp⟩⟩, HLE.out.own.nodes, HLE.out.below.size, Nat.le_trans HJL.out (by decide)⟩ ?_; intro u8 w8 hg8; obtain ⟨A8, n8, c8b, hn8, hu8⟩ : ∃ A n c, n = (t.nodes ++ [y3]).length ∧ u8 = .slice A n c := (by obtain ⟨A, c, e⟩ := hg8.sl; exact ⟨A, _, c, rfl, by rw [e, List.length_append]⟩); subst hu8; have HQ := Lib.hid (show Has w8 (W.heap.size + 1) 27 (Fc.stateC t) ∧ ∀ W', Has W' (W.heap.size + 1) 27 (Fc.stateC { t with A1 := A8, n1 := n8, c1 := c8b, nodes := t.nodes ++ [y3] }) → Chg (· = W.heap.size + 1) w8 W' → LfI w W W' s { t with A1 := A8, n1 := n8, c1 := c8b, nodes := t.nodes ++ [y3] } known g mb bb sb gl bs ss m ((s.links.filter kp).map Fc.LinkP.node) from (by have r := hg8.row; rw [hn8] at r ⊢; exact HLE.out.nodes r (fun z hz => (List.mem_append.1 hz).imp id (fun e => by rw [List.mem_singleton.1 e]; exact HNO.out)) hg8.chg)); clear hg8 c8; (try simp only [Act.put, List.setIfInBounds_toArray, List.set_cons_zero, List.set_cons_succ])) | ((with_reducible refine wpList_cell (T := 27) 24 (.tmp 86) (.tmp 85) rfl (W.heap.size + 1) 8 (Fc.stateC t) (Fc.stateC { t with A1 := A8, n1 := n8, c1 := c8b, nodes := t.nodes ++ [y3] }) (.slice A8 n8 c8b) ?_); refine And.intro ⟨rfl, rfl, by rfl, by rfl, info_sn, rfl, of_decide_eq_true rfl, by kernel_rfl, HQ.out.1⟩ ?_; intro W9 HX9 HC9; have HL9 := Lib.hid (HQ.out.2 W9 HX9.out HC9.out); (try simp only [Act.put, List.setIfInBounds_toArray, List.set_cons_zero, List.set_cons_succ])) | fail)
            clear HQ HX9 HC9 HLE HNO HX6 hn8
            go_roundw
            case rel => exact ⟨j + 1, by go_num, by omega, Lib.hid ⟨{ t with A1 := A8, n1 := n8, c1 := c8b, nodes := t.nodes ++ [y3] }, HL9.out, HTL.out, by rw [HNX.out, HZC.out, ← HTN.out, List.map_append]; simp [HYP.out]⟩⟩
            case measure => simp [intOf]; omega
          · have HZC := Lib.hid (show decide (0 < cz) = false from decide_eq_false hc0)
            clear hc0
            cases zb with
            | true =>
              refine wp_region_held_drew (S := fun V => Has V g 100 (prA s known mb bb sb) ∧ Has V gy 46 (Fc.nodeC y) ∧ ∃ mm, KMap stK V gl mm ∧ CntK ((s.links.filter kp).map Fc.LinkP.node) mm) (by kernel_rfl) ⟨HL0.out.pr.hp, HY0.out, HL0.out.km⟩ (fun hHeld => ?_)
              refine Vc.wpAnyH_read (i := 0) (d := some 58) (v := .map (some gl)) (by rfl) (by rfl) (by kernel_rfl) (by kernel_rfl) (by kernel_rfl) (fun _ _ _ h => h) (by rfl) ?hy21001 (by assumption) ?rest21001
              case hy21001 =>
                intro w hSw
                go_simp
              try simp only [Act.put, List.setIfInBounds_toArray, List.set_cons_zero, List.set_cons_succ]
              refine Vc.wpAnyH_read (i := 1) (d := some 59) (v := ?v21002) (by rfl) (by rfl) (by kernel_rfl) (by kernel_rfl) (by kernel_rfl) (fun _ _ _ h => h) (by rfl) ?hy21002 (by assumption) ?rest21002
              case hy21002 =>
                intro w hSw
                try dsimp only at hSw
                go_simp
                try with_reducible rfl
              try simp only [Act.put, List.setIfInBounds_toArray, List.set_cons_zero, List.set_cons_succ]
              refine Vc.wpAnyH_read (i := 2) (d := some 60) (v := .agg #[.int .i64 y.p.id.1, .int .i64 y.p.id.2]) (by rfl) (by rfl) (by kernel_rfl) (by kernel_rfl) (by kernel_rfl) (fun _ _ _ h => h) (by rfl) ?hy21003 (by assumption) ?rest21003
              case hy21003 =>
                intro w hSw
                exact Who.exec_loadA _ rfl rfl (node_id hSw.2.1) Tryz.underlying37 rfl info_st
              try simp only [Act.put, List.setIfInBounds_toArray, List.set_cons_zero, List.set_cons_succ]
              refine Vc.wpAnyH_read (i := 3) (d := some 61) (v := .int .i64 (cz : Int)) (by rfl) (by rfl) (by kernel_rfl) (by kernel_rfl) (by kernel_rfl) (fun _ _ _ h => h) (by rfl) ?hy21004 (by assumption) ?rest21004
              case hy21004 =>
                intro w hSw
                have hk : (Instr.lookup 98 (.map (some gl)) (.agg #[.int .i64 y.p.id.1, .int .i64 y.p.id.2]) false).run Tryz.prog w = .ok (.int .i64 (cz : Int)) w := (by obtain ⟨m3, g1, g2⟩ := hSw.2.2; have q := (KMap.lookup Tryz.underlying98 stKeys g1 (.int .i64 0) Tryz.zeroValue3 y.p.id).1; rw [cntK_get g2, ← HCZ.out] at q; exact q); go_simp
              try simp only [Act.put, List.setIfInBounds_toArray, List.set_cons_zero, List.set_cons_succ]
              refine Vc.wpAnyH_read (i := 4) (d := some 62) (v := .bool false) (by rfl) (by rfl) (by kernel_rfl) (by kernel_rfl) (by kernel_rfl) (fun _ _ _ h => h) (by rfl) ?hy21005 (by assumption) ?rest21005
              case hy21005 =>
                intro w hSw
                go_simp; try (have h := HZC.out; simp at h; omega)
              try simp only [Act.put, List.setIfInBounds_toArray, List.set_cons_zero, List.set_cons_succ]
              refine Vc.wpAnyH_read (i := 5) (d := some 63) (v := ?v21006) (by rfl) (by rfl) (by kernel_rfl) (by kernel_rfl) (by kernel_rfl) (fun _ _ _ h => h) (by rfl) ?hy21006 (by assumption) ?rest21006
              case hy21006 =>
                intro w hSw
                try dsimp only at hSw
                go_simp
                try with_reducible rfl
              try simp only [Act.put, List.setIfInBounds_toArray, List.set_cons_zero, List.set_cons_succ]
              refine Vc.wpAnyH_read (i := 6) (d := some 64) (v := ?v21007) (by rfl) (by rfl) (by kernel_rfl) (by kernel_rfl) (by kernel_rfl) (fun _ _ _ h => h) (by rfl) ?hy21007 (by assumption) ?rest21007
              case hy21007 =>
                intro w hSw
                try dsimp only at hSw
                go_simp
                try with_reducible rfl
              try simp only [Act.put, List.setIfInBounds_toArray, List.set_cons_zero, List.set_cons_succ]
              refine Vc.wpAnyH_read (i := 7) (d := some 65) (v := ?v21008) (by rfl) (by rfl) (by kernel_rfl) (by kernel_rfl) (by kernel_rfl) (fun _ _ _ h => h) (by rfl) ?hy21008 (by assumption) ?rest21008
              case hy21008 =>
                intro w hSw
                try dsimp only at hSw
                go_simp
                try with_reducible rfl
              try simp only [Act.put, List.setIfInBounds_toArray, List.set_cons_zero, List.set_cons_succ]
              refine Vc.wpAnyH_read (i := 8) (d := some 66) (v := ?v21009) (by rfl) (by rfl) (by kernel_rfl) (by kernel_rfl) (by kernel_rfl) (fun _ _ _ h => h) (by rfl) ?hy21009 (by assumption) ?rest21009
              case hy21009 =>
                intro w hSw
                try dsimp only at hSw
                go_simp
                try with_reducible rfl
              try simp only [Act.put, List.setIfInBounds_toArray, List.set_cons_zero, List.set_cons_succ]
              refine Vc.wpAnyH_read (i := 9) (d := some 67) (v := .agg (vecC known)) (by rfl) (by rfl) (by kernel_rfl) (by kernel_rfl) (by kernel_rfl) (fun _ _ _ h => h) (by rfl) ?hy21010 (by assumption) ?rest21010
              case hy21010 =>
                intro w hSw
                exact Who.exec_loadA _ rfl rfl (prA_known hSw.1) Tryz.underlying23 rfl info_vec
              try simp only [Act.put, List.setIfInBounds_toArray, List.set_cons_zero, List.set_cons_succ]
              refine Vc.wpAnyH_read (i := 10) (d := some 68) (v := ?v21011) (by rfl) (by rfl) (by kernel_rfl) (by kernel_rfl) (by kernel_rfl) (fun _ _ _ h => h) (by rfl) ?hy21011 (by assumption) ?rest21011
              case hy21011 =>
                intro w hSw
                try dsimp only at hSw
                go_simp
                try with_reducible rfl
              try simp only [Act.put, List.setIfInBounds_toArray, List.set_cons_zero, List.set_cons_succ]
              refine Vc.wpAnyH_read (i := 11) (d := some 69) (v := .agg #[.int .i64 y.p.id.1, .int .i64 y.p.id.2]) (by rfl) (by rfl) (by kernel_rfl) (by kernel_rfl) (by kernel_rfl) (fun _ _ _ h => h) (by rfl) ?hy21012 (by assumption) ?rest21012
              case hy21012 =>
                intro w hSw
                exact Who.exec_loadA _ rfl rfl (node_id hSw.2.1) Tryz.underlying37 rfl info_st
              try simp only [Act.put, List.setIfInBounds_toArray, List.set_cons_zero, List.set_cons_succ]
              refine wpAnyH_ready (rs := [12]) (by kernel_rfl) (by simp) ?_
              refine AllReadyH.cons rfl (fun K hK => ?_) AllReadyH.nil
              go_simp
              go_at_call 69
              refine (HH.out _).mono ?_
              rintro e w13 ⟨rfl, hb⟩
              have HL1 := Lib.hid (HL0.out.low hb)
              have HY1 := Lib.hid (HY0.out.below hb)
              clear hb HL0 HY0
              refine hK.out _ _ ⟨HL1.out.pr.hp, HY1.out, HL1.out.km⟩ (fun hHeld => ?_)
              clear hK K
              try simp only [Act.put, List.setIfInBounds_toArray, List.set_cons_zero, List.set_cons_succ]
              refine Vc.wpAnyH_read (i := 13) (d := some 71) (v := ?v21013) (by rfl) (by rfl) (by kernel_rfl) (by kernel_rfl) (by kernel_rfl) (fun _ _ _ h => h) (by rfl) ?hy21013 (by assumption) ?rest21013
              case hy21013 =>
                intro w hSw
                try dsimp only at hSw
                go_simp
                try with_reducible rfl
              try simp only [Act.put, List.setIfInBounds_toArray, List.set_cons_zero, List.set_cons_succ]
              refine Vc.wpAnyH_read (i := 14) (d := some 72) (v := ?v21014) (by rfl) (by rfl) (by kernel_rfl) (by kernel_rfl) (by kernel_rfl) (fun _ _ _ h => h) (by rfl) ?hy21014 (by assumption) ?rest21014
              case hy21014 =>
                intro w hSw
                try dsimp only at hSw
                go_simp
                try with_reducible rfl
              try simp only [Act.put, List.setIfInBounds_toArray, List.set_cons_zero, List.set_cons_succ]
              refine wpAnyH_done (by kernel_rfl) ?_ _
              go_wp2
              go_roundw
              case rel => exact ⟨j + 1, by go_num, by omega, Lib.hid ⟨t, HL1.out, HTL.out, by rw [HNX.out, HZC.out, HTN.out]; simp⟩⟩
              case measure => simp [intOf]; omega
            | false =>
              refine wp_region_held_drew (S := fun V => Has V g 100 (prA s known mb bb sb) ∧ Has V gy 46 (Fc.nodeC y) ∧ ∃ mm, KMap stK V gl mm ∧ CntK ((s.links.filter kp).map Fc.LinkP.node) mm) (by kernel_rfl) ⟨HL0.out.pr.hp, HY0.out, HL0.out.km⟩ (fun hHeld => ?_)
              refine Vc.wpAnyH_read (i := 0) (d := some 58) (v := .map (some gl)) (by rfl) (by rfl) (by kernel_rfl) (by kernel_rfl) (by kernel_rfl) (fun _ _ _ h => h) (by rfl) ?hy22001 (by assumption) ?rest22001
              case hy22001 =>
                intro w hSw
                go_simp
              try simp only [Act.put, List.setIfInBounds_toArray, List.set_cons_zero, List.set_cons_succ]
              refine Vc.wpAnyH_read (i := 1) (d := some 59) (v := ?v22002) (by rfl) (by rfl) (by kernel_rfl) (by kernel_rfl) (by kernel_rfl) (fun _ _ _ h => h) (by rfl) ?hy22002 (by assumption) ?rest22002
              case hy22002 =>
                intro w hSw
                try dsimp only at hSw
                go_simp
                try with_reducible rfl
              try simp only [Act.put, List.setIfInBounds_toArray, List.set_cons_zero, List.set_cons_succ]
              refine Vc.wpAnyH_read (i := 2) (d := some 60) (v := .agg #[.int .i64 y.p.id.1, .int .i64 y.p.id.2]) (by rfl) (by rfl) (by kernel_rfl) (by kernel_rfl) (by kernel_rfl) (fun _ _ _ h => h) (by rfl) ?hy22003 (by assumption) ?rest22003
              case hy22003 =>
                intro w hSw
                exact Who.exec_loadA _ rfl rfl (node_id hSw.2.1) Tryz.underlying37 rfl info_st
              try simp only [Act.put, List.setIfInBounds_toArray, List.set_cons_zero, List.set_cons_succ]
              refine Vc.wpAnyH_read (i := 3) (d := some 61) (v := .int .i64 (cz : Int)) (by rfl) (by rfl) (by kernel_rfl) (by kernel_rfl) (by kernel_rfl) (fun _ _ _ h => h) (by rfl) ?hy22004 (by assumption) ?rest22004
              case hy22004 =>
                intro w hSw
                have hk : (Instr.lookup 98 (.map (some gl)) (.agg #[.int .i64 y.p.id.1, .int .i64 y.p.id.2]) false).run Tryz.prog w = .ok (.int .i64 (cz : Int)) w := (by obtain ⟨m3, g1, g2⟩ := hSw.2.2; have q := (KMap.lookup Tryz.underlying98 stKeys g1 (.int .i64 0) Tryz.zeroValue3 y.p.id).1; rw [cntK_get g2, ← HCZ.out] at q; exact q); go_simp
              try simp only [Act.put, List.setIfInBounds_toArray, List.set_cons_zero, List.set_cons_succ]
              refine Vc.wpAnyH_read (i := 4) (d := some 62) (v := .bool false) (by rfl) (by rfl) (by kernel_rfl) (by kernel_rfl) (by kernel_rfl) (fun _ _ _ h => h) (by rfl) ?hy22005 (by assumption) ?rest22005
              case hy22005 =>
                intro w hSw
                go_simp; try (have h := HZC.out; simp at h; omega)
              try simp only [Act.put, List.setIfInBounds_toArray, List.set_cons_zero, List.set_cons_succ]
              refine Vc.wpAnyH_read (i := 5) (d := some 63) (v := ?v22006) (by rfl) (by rfl) (by kernel_rfl) (by kernel_rfl) (by kernel_rfl) (fun _ _ _ h => h) (by rfl) ?hy22006 (by assumption) ?rest22006
              case hy22006 =>
                intro w hSw
                try dsimp only at hSw
                go_simp
                try with_reducible rfl
              try simp only [Act.put, List.setIfInBounds_toArray, List.set_cons_zero, List.set_cons_succ]
              refine Vc.wpAnyH_read (i := 6) (d := some 64) (v := ?v22007) (by rfl) (by rfl) (by kernel_rfl) (by kernel_rfl) (by kernel_rfl) (fun _ _ _ h => h) (by rfl) ?hy22007 (by assumption) ?rest22007
              case hy22007 =>
                intro w hSw
                try dsimp only at hSw
                go_simp
                try with_reducible rfl
              try simp only [Act.put, List.setIfInBounds_toArray, List.set_cons_zero, List.set_cons_succ]
              refine Vc.wpAnyH_read (i := 7) (d := some 65) (v := ?v22008) (by rfl) (by rfl) (by kernel_rfl) (by kernel_rfl) (by kernel_rfl) (fun _ _ _ h => h) (by rfl) ?hy22008 (by assumption) ?rest22008
              case hy22008 =>
                intro w hSw
                try dsimp only at hSw
                go_simp
                try with_reducible rfl
              try simp only [Act.put, List.setIfInBounds_toArray, List.set_cons_zero, List.set_cons_succ]
              refine Vc.wpAnyH_read (i := 8) (d := some 66) (v := ?v22009) (by rfl) (by rfl) (by kernel_rfl) (by kernel_rfl) (by kernel_rfl) (fun _ _ _ h => h) (by rfl) ?hy22009 (by assumption) ?rest22009
              case hy22009 =>
                intro w hSw
                try dsimp only at hSw
                go_simp
                try with_reducible rfl
              try simp only [Act.put, List.setIfInBounds_toArray, List.set_cons_zero, List.set_cons_succ]
              refine Vc.wpAnyH_read (i := 9) (d := some 67) (v := .agg (vecC known)) (by rfl) (by rfl) (by kernel_rfl) (by kernel_rfl) (by kernel_rfl) (fun _ _ _ h => h) (by rfl) ?hy22010 (by assumption) ?rest22010
              case hy22010 =>
                intro w hSw
                exact Who.exec_loadA _ rfl rfl (prA_known hSw.1) Tryz.underlying23 rfl info_vec
              try simp only [Act.put, List.setIfInBounds_toArray, List.set_cons_zero, List.set_cons_succ]
              refine Vc.wpAnyH_read (i := 10) (d := some 68) (v := ?v22011) (by rfl) (by rfl) (by kernel_rfl) (by kernel_rfl) (by kernel_rfl) (fun _ _ _ h => h) (by rfl) ?hy22011 (by assumption) ?rest22011
              case hy22011 =>
                intro w hSw
                try dsimp only at hSw
                go_simp
                try with_reducible rfl
              try simp only [Act.put, List.setIfInBounds_toArray, List.set_cons_zero, List.set_cons_succ]
              refine Vc.wpAnyH_read (i := 11) (d := some 69) (v := .agg #[.int .i64 y.p.id.1, .int .i64 y.p.id.2]) (by rfl) (by rfl) (by kernel_rfl) (by kernel_rfl) (by kernel_rfl) (fun _ _ _ h => h) (by rfl) ?hy22012 (by assumption) ?rest22012
              case hy22012 =>
                intro w hSw
                exact Who.exec_loadA _ rfl rfl (node_id hSw.2.1) Tryz.underlying37 rfl info_st
              try simp only [Act.put, List.setIfInBounds_toArray, List.set_cons_zero, List.set_cons_succ]
              refine wpAnyH_ready (rs := [12]) (by kernel_rfl) (by simp) ?_
              refine AllReadyH.cons rfl (fun K hK => ?_) AllReadyH.nil
              go_simp
              go_at_call 69
              refine (HH.out _).mono ?_
              rintro e w13 ⟨rfl, hb⟩
              have HL1 := Lib.hid (HL0.out.low hb)
              have HY1 := Lib.hid (HY0.out.below hb)
              clear hb HL0 HY0
              refine hK.out _ _ ⟨HL1.out.pr.hp, HY1.out, HL1.out.km⟩ (fun hHeld => ?_)
              clear hK K
              try simp only [Act.put, List.setIfInBounds_toArray, List.set_cons_zero, List.set_cons_succ]
              refine Vc.wpAnyH_read (i := 13) (d := some 71) (v := ?v22013) (by rfl) (by rfl) (by kernel_rfl) (by kernel_rfl) (by kernel_rfl) (fun _ _ _ h => h) (by rfl) ?hy22013 (by assumption) ?rest22013
              case hy22013 =>
                intro w hSw
                try dsimp only at hSw
                go_simp
                try with_reducible rfl
              try simp only [Act.put, List.setIfInBounds_toArray, List.set_cons_zero, List.set_cons_succ]
              refine Vc.wpAnyH_read (i := 14) (d := some 72) (v := ?v22014) (by rfl) (by rfl) (by kernel_rfl) (by kernel_rfl) (by kernel_rfl) (fun _ _ _ h => h) (by rfl) ?hy22014 (by assumption) ?rest22014
              case hy22014 =>
                intro w hSw
                try dsimp only at hSw
                go_simp
                try with_reducible rfl
              try simp only [Act.put, List.setIfInBounds_toArray, List.set_cons_zero, List.set_cons_succ]
              refine wpAnyH_done (by kernel_rfl) ?_ _
              go_wp2_with fail
              have HLA := Lib.hid (HL1.out.low (Below.refl _ _).drew)
              have HYA := Lib.hid HY1.out.drew
              clear HL1 HY1
              refine wp_region_G 7 (S := fun V => Has V gy 46 (Fc.nodeC y)) (by kernel_rfl) HYA.out (fun hHeld hCl => ?_)
              refine wpAnyG_read (i := 0) (d := some 73) (v := ?v7013) (by rfl) (by rfl) (by kernel_rfl) (by kernel_rfl) (by kernel_rfl) (by kernel_rfl) (by assumption) (fun _ _ _ h => h) (by rfl) ?hy7013 (by assumption) (fun hCl hHeld => ?rest7013)
              case hy7013 =>
                intro V hSw
                try dsimp only at hSw
                go_simp
                try with_reducible rfl
              try simp only [Act.put, List.setIfInBounds_toArray, List.set_cons_zero, List.set_cons_succ]
              refine wpAnyG_read (i := 1) (d := some 74) (v := .slice y.A1 y.n1 y.c1) (by rfl) (by rfl) (by kernel_rfl) (by kernel_rfl) (by kernel_rfl) (by kernel_rfl) (by assumption) (fun _ _ _ h => h) (by rfl) ?hy7014 (by assumption) (fun hCl hHeld => ?rest7014)
              case hy7014 =>
                intro V hSw
                have c := hSw.at_ 11
                replace c : V.cell? ⟨gy, 11, none⟩ = some (.slice y.A1 y.n1 y.c1) := c
                go_simp
              try simp only [Act.put, List.setIfInBounds_toArray, List.set_cons_zero, List.set_cons_succ]
              refine wpAnyG_read (i := 3) (d := some 76) (v := ?v7015) (by rfl) (by rfl) (by kernel_rfl) (by kernel_rfl) (by kernel_rfl) (by kernel_rfl) (by assumption) (fun _ _ _ h => h) (by rfl) ?hy7015 (by assumption) (fun hCl hHeld => ?rest7015)
              case hy7015 =>
                intro V hSw
                try dsimp only at hSw
                go_simp
                try with_reducible rfl
              try simp only [Act.put, List.setIfInBounds_toArray, List.set_cons_zero, List.set_cons_succ]
              refine wpAnyG_read (i := 4) (d := some 77) (v := .slice y.A2 y.n2 y.c2) (by rfl) (by rfl) (by kernel_rfl) (by kernel_rfl) (by kernel_rfl) (by kernel_rfl) (by assumption) (fun _ _ _ h => h) (by rfl) ?hy7016 (by assumption) (fun hCl hHeld => ?rest7016)
              case hy7016 =>
                intro V hSw
                have c := hSw.at_ 12
                replace c : V.cell? ⟨gy, 12, none⟩ = some (.slice y.A2 y.n2 y.c2) := c
                go_simp
              try simp only [Act.put, List.setIfInBounds_toArray, List.set_cons_zero, List.set_cons_succ]
              refine wpAnyG_ready (rs := [2]) (by kernel_rfl) (by simp) ?_
              refine AllReadyG.cons rfl (by assumption) (by kernel_rfl) (fun K hK => ?_) AllReadyG.nil
              go_simp
              go_at_call 36
              refine (cloneP_any y.A1 y.n1 y.c1 y.p.ps (lim_ps HLIM.out HYM.out HYN.out) _ (HYN.out.ps.below HLA.out.pr.below)).mono ?_
              rintro e w3 ⟨v, rfl, ho, hb⟩
              obtain ⟨A3, c3, hv, _⟩ := ho.any
              subst hv
              have HLB := Lib.hid (HLA.out.low hb)
              have HYB := Lib.hid (HYA.out.below hb)
              have HOP := Lib.hid (ho.mono HLA.out.below.size)
              clear ho hb HLA HYA
              refine hK.out _ _ (fun _ => HYB.out) (fun hHeld hCl => ?_)
              clear hK K
              try simp only [Act.put, List.setIfInBounds_toArray, List.set_cons_zero, List.set_cons_succ]
              refine wpAnyG_read (i := 6) (d := some 79) (v := ?v7017) (by rfl) (by rfl) (by kernel_rfl) (by kernel_rfl) (by kernel_rfl) (by kernel_rfl) (by assumption) (fun _ _ _ h => h) (by rfl) ?hy7017 (by assumption) (fun hCl hHeld => ?rest7017)
              case hy7017 =>
                intro V hSw
                try dsimp only at hSw
                go_simp
                try with_reducible rfl
              try simp only [Act.put, List.setIfInBounds_toArray, List.set_cons_zero, List.set_cons_succ]
              refine wpAnyG_ready (rs := [5]) (by kernel_rfl) (by simp) ?_
              refine AllReadyG.cons rfl (by assumption) (by kernel_rfl) (fun K hK => ?_) AllReadyG.nil
              go_simp
              go_at_call 37
              refine (cloneX_any y.A2 y.n2 y.c2 y.p.xs (lim_xs HLIM.out HYM.out HYN.out) _ (HYN.out.xs.below HLB.out.pr.below)).mono ?_
              rintro e w4 ⟨v, rfl, ho, hb⟩
              obtain ⟨A4, c4, hv, _⟩ := ho.any
              subst hv
              have HLC := Lib.hid (HLB.out.low hb)
              have HYC := Lib.hid (HYB.out.below hb)
              have HOX := Lib.hid (ho.mono HLB.out.below.size)
              have HOQ := Lib.hid (HOP.out.below hb)
              clear ho hb HLB HYB HOP
              refine hK.out _ _ (fun _ => HYC.out) (fun hHeld hCl => ?_)
              clear hK K
              try simp only [Act.put, List.setIfInBounds_toArray, List.set_cons_zero, List.set_cons_succ]
              refine wpAnyG_ready (rs := [7]) (by kernel_rfl) (by simp) ?_
              refine AllReadyG.cons rfl (by assumption) (by kernel_rfl) (fun K hK => ?_) AllReadyG.nil
              refine stepG_cell (T := 46) 43 (.tmp 79) (.tmp 75) (by rfl) gy 11 (Fc.nodeC y) (Fc.nodeC { y with A1 := A3, n1 := y.p.ps.length, c1 := c3 }) (.slice A3 y.p.ps.length c3) ?_
              refine And.intro ⟨by rfl, by rfl, by rfl, by rfl, info_sp, rfl, of_decide_eq_true rfl, by kernel_rfl, HYC.out⟩ ?_
              intro W5 HX5 HC5
              have HLD := Lib.hid (HLC.out.inode HYC.out HC5.out HGY.out HAP.out)
              have HOX5 := Lib.hid (own_has HOX.out HYC.out HC5.out (by decide))
              have HOP5 := Lib.hid (own_has HOQ.out HYC.out HC5.out (by decide))
              clear HLC HOX HOQ
              refine hK.out _ _ (late (by rfl)) (fun hHeld hCl => ?_)
              clear hK K
              try simp only [Act.put, List.setIfInBounds_toArray, List.set_cons_zero, List.set_cons_succ]
              refine wpAnyG_pure (i := 8) (d := some 80) (v := ?v7018) (by rfl) (by rfl) (by kernel_rfl) (by rfl) ?hy7018 (by assumption) (by assumption) (fun hCl hHeld => ?rest7018)
              case hy7018 =>
                go_simp
                try with_reducible rfl
              try simp only [Act.put, List.setIfInBounds_toArray, List.set_cons_zero, List.set_cons_succ]
              refine wpAnyG_ready (rs := [9]) (by kernel_rfl) (by simp) ?_
              refine AllReadyG.cons rfl (by assumption) (by kernel_rfl) (fun K hK => ?_) AllReadyG.nil
              refine stepG_cell (T := 46) 44 (.tmp 80) (.tmp 78) (by rfl) gy 12 (Fc.nodeC { y with A1 := A3, n1 := y.p.ps.length, c1 := c3 }) (Fc.nodeC { y with A1 := A3, n1 := y.p.ps.length, c1 := c3, A2 := A4, n2 := y.p.xs.length, c2 := c4 }) (.slice A4 y.p.xs.length c4) ?_
              refine And.intro ⟨by rfl, by rfl, by rfl, by rfl, info_sx, rfl, of_decide_eq_true rfl, by kernel_rfl, HX5.out⟩ ?_
              intro W6 HX6 HC6
              have HLE := Lib.hid (HLD.out.inode HX5.out HC6.out HGY.out HAP.out)
              have HNO := Lib.hid (show NodeOwn W.heap.size W6 { y with A1 := A3, n1 := y.p.ps.length, c1 := c3, A2 := A4, n2 := y.p.xs.length, c2 := c4 } from ⟨own_has HOP5.out HX5.out HC6.out (by decide), own_has HOX5.out HX5.out HC6.out (by decide)⟩)
              clear HLD HOX5 HOP5 HYC HX5 HC5 HC6
              refine hK.out _ _ (late (by rfl)) (fun hHeld hCl => ?_)
              clear hK K
              try simp only [Act.put, List.setIfInBounds_toArray, List.set_cons_zero, List.set_cons_succ]
              refine wpAnyG_done (by kernel_rfl) ?_ _
              obtain ⟨y3, hy3⟩ : ∃ y3 : Fc.NodeC, y3 = { y with A1 := A3, n1 := y.p.ps.length, c1 := c3, A2 := A4, n2 := y.p.xs.length, c2 := c4 } := ⟨_, rfl⟩
              rw [← hy3] at HNO HX6
              have HYP := Lib.hid (show y3.p = y.p from by rw [hy3])
              clear hy3
              have c8 : W6.cell? ⟨W.heap.size + 1, 8, none⟩ = some (.slice t.A1 t.n1 t.c1) := HLE.out.h3.at_ 8
              go_wp2_with (first | ((with_reducible refine Who.wpList_loadC 46 (.tmp 8) rfl (gy) 0 (Fc.nodeC y3) ?_); refine And.intro ⟨by rfl, by rfl, ⟨_, Tryz.underlying46, rfl⟩, infoN⟩ (And.intro (Who.has_range HX6.out) ?_); (try simp only [Act.put, List.setIfInBounds_toArray, List.set_cons_zero, List.set_cons_succ])) | ((with_reducible refine wpl_build1 kdN (.tmp 83) rfl y3 ?_); refine And.intro ⟨rfl, by rfl⟩ ?_; (try simp only [Act.put, List.setIfInBounds_toArray, List.set_cons_zero, List.set_cons_succ])) | (at_builtin; (with_reducible refine wpl_one (B := W.heap.size) (u := .slice t.A1 t.n1 t.c1) (es := t.nodes) (e := y3) kdN (.tmp 82) (.tmp 84) rfl rfl ?_); refine And.intro ⟨⟨by rfl, ⟨_, by rfl, by simp⟩⟩, HLE.out.own.nodes, HLE.out.below.size, Nat.le_trans HJL.out (by decide)⟩ ?_; intro u8 w8 hg8; obtain ⟨A8, n8, c8b, hn8, hu8⟩ : ∃ A n c, n = (t.nodes ++ [y3]).length ∧ u8 = .slice A n c := (by obtain ⟨A, c, e⟩ := hg8.sl; exact ⟨A, _, c, rfl, by rw [e, List.length_append]⟩); subst hu8; have HQ := Lib.hid (show Has w8 (W.heap.size + 1) 27 (Fc.stateC t) ∧ ∀ W', Has W' (W.heap.size + 1) 27 (Fc.stateC { t with A1 := A8, n1 := n8, c1 := c8b, nodes := t.nodes ++ [y3] }) → Chg (· = W.heap.size + 1) w8 W' → LfI w W W' s { t with A1 := A8, n1 := n8, c1 := c8b, nodes := t.nodes ++ [y3] } known g mb bb sb gl bs ss m ((s.links.filter kp).map Fc.LinkP.node) from (by have r := hg8.row; rw [hn8] at r ⊢; exact HLE.out.nodes r (fun z hz => (List.mem_append.1 hz).imp id (fun e => by rw [List.mem_singleton.1 e]; exact HNO.out)) hg8.chg)); clear hg8 c8; (try simp only [Act.put, List.setIfInBounds_toArray, List.set_cons_zero, List.set_cons_succ])) | ((with_reducible refine wpList_cell (T := 27) 24 (.tmp 86) (.tmp 85) rfl (W.heap.size + 1) 8 (Fc.stateC t) (Fc.stateC { t with A1 := A8, n1 := n8, c1 := c8b, nodes := t.nodes ++ [y3] }) (.slice A8 n8 c8b) ?_); refine And.intro ⟨rfl, rfl, by rfl, by rfl, info_sn, rfl, of_decide_eq_true rfl, by kernel_rfl, HQ.out.1⟩ ?_; intro W9 HX9 HC9; have HL9 := Lib.hid (HQ.out.2 W9 HX9.out HC9.out); (try simp only [Act.put, List.setIfInBounds_toArray, List.set_cons_zero, List.set_cons_succ])) | fail)
              clear HQ HX9 HC9 HLE HNO HX6 hn8
              go_roundw
              case rel => exact ⟨j + 1, by go_num, by omega, Lib.hid ⟨{ t with A1 := A8, n1 := n8, c1 := c8b, nodes := t.nodes ++ [y3] }, HL9.out, HTL.out, by rw [HNX.out, HZC.out, ← HTN.out, List.map_append]; simp [HYP.out]⟩⟩
              case measure => simp [intOf]; omega
        · obtain rfl : s.n1 = j := by omega
          obtain ⟨t, hL, htl, htn⟩ := HK.out
          rw [← HLM.out, List.take_length] at htn
          have HL := Lib.hid hL
          have HTT := Lib.hid (And.intro htl htn)
          clear hL htl htn HK
          go_wp2_with (first | ((with_reducible refine Who.wpList_loadC 27 (.tmp 3) rfl (W.heap.size + 1) 0 (Fc.stateC t) ?_); refine And.intro ⟨by rfl, by rfl, ⟨_, Tryz.underlying27, rfl⟩, info_state⟩ (And.intro (Who.has_range HL.out.h3) ?_); (try simp only [Act.put, List.setIfInBounds_toArray, List.set_cons_zero, List.set_cons_succ])) | ((with_reducible refine wpList_storeG 27 (.tmp 2) (.tmp 88) rfl (W.heap.size) (zeroS) (Fc.stateC t) ?_); refine And.intro ⟨rfl, by rfl, by rfl, info_state, state_one _, rfl, HL.out.hz⟩ ?_; intro W9 HX9 HC9; (try simp only [Act.put, List.setIfInBounds_toArray, List.set_cons_zero, List.set_cons_succ])) | fail)
          have HB9 := Lib.hid (below_step HL.out.below HC9.out (Nat.le_refl _))
          have HO9 := Lib.hid (show StateOwn W.heap.size W9 t from ⟨own_has HL.out.own.nodes HL.out.hz HC9.out (by decide), own_has HL.out.own.links HL.out.hz HC9.out (by decide), fun z hz => ⟨own_has (HL.out.own.each z hz).ps HL.out.hz HC9.out (by decide), own_has (HL.out.own.each z hz).xs HL.out.hz HC9.out (by decide)⟩⟩)
          refine bodyPost_ret (v := .agg (Fc.stateC t)) (Who.results_cell (p := 2) (t := 27) rfl _ _ W.heap.size 0 (Fc.stateC t) _ (by rfl) (Who.has_range HX9.out) Tryz.underlying27 rfl info_state) rfl ?_
          exact ⟨t, rfl, HL.out.seen, HTT.out.1, HTT.out.2, HO9.out, HB9.out⟩
end Go.Proofs.YtblogecapegbmaaGreat.Jn
