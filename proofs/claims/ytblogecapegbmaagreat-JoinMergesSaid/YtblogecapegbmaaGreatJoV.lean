/- Join: Merge. -/
import Derived.Test.YtblogecapegbmaaGreatJoX
import Derived.Test.YtblogecapegbmaaGreatJoQ
import Derived.Test.YtblogecapegbmaaGreatJoN
namespace Go.Proofs.YtblogecapegbmaaGreat.Jn
open Go.RowKit Go.Proofs.YtblogecapegbmaaGreat.Mem
open Go.Proofs.YtblogecapegbmaaGreat.Vc (joinV vecC)
set_option linter.unusedVariables false set_option linter.unusedSimpArgs false set_option linter.unusedSectionVars false

theorem StateOwn.monoB {B B2 : Nat} {w : World} {s : Fc.StateC} (h : StateOwn B w s) (hb : B2 ≤ B) : StateOwn B2 w s := ⟨h.nodes.mono hb, h.links.mono hb, fun z hz => (h.each z hz).mono hb⟩
theorem any_map_id (l : List St) (i : St) : decide (countI l i = 0) = !(l.any fun z => decide (z = i)) := by
 rw [Bool.eq_iff_iff]
 simp only [decide_eq_true_eq, Bool.not_eq_true', List.any_eq_false]
 rw [cntI_zero]
theorem prunedN_eq (s : Fc.StateC) (i : St) : (Vc.hasB s.seen i.1 i.2 && decide (countI (s.nodes.map fun y => y.p.id) i = 0)) = prunedN s.p i := by
 rw [any_map_id]
 show _ = (!((s.nodes.map Fc.NodeC.p).any fun n => decide (n.id = i)) && Vc.hasB s.seen i.1 i.2)
 rw [Bool.and_comm, List.any_map, List.any_map]
 rfl
theorem prunedL_eq (s : Fc.StateC) (i : St) : (Vc.hasB s.seen i.1 i.2 && decide (countI (s.links.map fun y => y.id) i = 0)) = prunedL s.p i := by
 rw [any_map_id]
 show _ = (!(s.links.any fun n => decide (n.id = i)) && Vc.hasB s.seen i.1 i.2)
 rw [Bool.and_comm, List.any_map]
 rfl
def leftN (zs : List Fc.StateC) (y : Fc.NodeC) : Bool := zs.all fun z => !prunedN z.p y.p.id
def leftL (zs : List Fc.StateC) (y : Fc.LinkP) : Bool := zs.all fun z => !prunedL z.p y.id
theorem leftN_next {zs : List Fc.StateC} {x : Fc.StateC} (l : List Fc.NodeC) : (l.filter (leftN zs)).filter (fun y => !(Vc.hasB x.seen y.p.id.1 y.p.id.2 && decide (countI (x.nodes.map fun y => y.p.id) y.p.id = 0))) = l.filter (leftN (zs ++ [x])) := by
 rw [List.filter_filter]
 refine List.filter_congr fun y _ => ?_
 rw [prunedN_eq]
 simp [leftN, Bool.and_comm]
theorem leftL_next {zs : List Fc.StateC} {x : Fc.StateC} (l : List Fc.LinkP) : (l.filter (leftL zs)).filter (fun y => !(Vc.hasB x.seen y.id.1 y.id.2 && decide (countI (x.links.map fun y => y.id) y.id = 0))) = l.filter (leftL (zs ++ [x])) := by
 rw [List.filter_filter]
 refine List.filter_congr fun y _ => ?_
 rw [prunedL_eq]
 simp [leftL, Bool.and_comm]
/-- What Merge's loop keeps. -/
structure MeI (w wr : World) (g5 T : Nat) (a b s t : Fc.StateC) (zs : List Fc.StateC) : Prop where
 below : Below w.heap.size w wr
 g5w : w.heap.size + 1 + 1 < g5
 hz : Has wr (w.heap.size + 1 + 1) 27 zeroS
 hT : Has wr T 27 (row2 a b)
 h5 : Has wr g5 27 (Fc.stateC t)
 own : StateOwn w.heap.size wr t
 seen : t.seen = s.seen
 nodes : t.nodes = s.nodes.filter (leftN zs)
 links : t.links = s.links.filter (leftL zs)
theorem MeI.low {w wr w2 : World} {g5 T : Nat} {a b s t : Fc.StateC} {zs : List Fc.StateC} (h : MeI w wr g5 T a b s t zs) (hb : Below wr.heap.size wr w2) : MeI w w2 g5 T a b s t zs := ⟨h.below.trans (hb.mono h.below.size), h.g5w, h.hz.below hb, h.hT.below hb, h.h5.below hb, h.own.low hb, h.seen, h.nodes, h.links⟩
theorem belowS {w a b : World} {S : Nat → Prop} (h : Below w.heap.size w a) (c : Chg S a b) (hg : ∀ q, S q → w.heap.size ≤ q) : Below w.heap.size w b := by
 refine h.trans (c.below h.size fun k hk e => ?_)
 have := hg k e
 omega
theorem own_lo {α : Type} {w : World} {B : Nat} {E : TypeId} {k : Nat} {C : α → Array Value} {v : Value} {xs : List α} (h : OwnK w B E k C v xs) : ∀ q, v.ownBlock = some q → B ≤ q := fun q hq => (World.ownsRow.lt h q hq).1
/-- In a round x lies in a block of its own, too. -/
structure MeK (w wr : World) (g5 T gy : Nat) (a b x t : Fc.StateC) : Prop where
 below : Below w.heap.size w wr
 g5w : w.heap.size + 1 + 1 < g5
 hz : Has wr (w.heap.size + 1 + 1) 27 zeroS
 hT : Has wr T 27 (row2 a b)
 h5 : Has wr g5 27 (Fc.stateC t)
 own : StateOwn w.heap.size wr t
 hy : Has wr gy 27 (Fc.stateC x)
 ygy : gy ≠ g5
 Tg : T ≠ g5
theorem MeK.nodes {w wr wa : World} {g5 T gy c : Nat} {a b x t : Fc.StateC} {A : Option Addr} {l : List Fc.NodeC} (h : MeK w wr g5 T gy a b x t) (hn : OwnK wa w.heap.size 46 13 Fc.nodeC (.slice A l.length c) l) (hl : ∀ z ∈ l, z ∈ t.nodes) (hc : Chg (fun q => (Value.slice t.A1 t.nodes.length t.c1).ownBlock = some q) wr wa) :
  Has wa g5 27 (Fc.stateC t) ∧ ∀ W', Has W' g5 27 (Fc.stateC { t with A1 := A, n1 := l.length, c1 := c, nodes := l }) → Chg (· = g5) wa W' → MeK w W' g5 T gy a b x { t with A1 := A, n1 := l.length, c1 := c, nodes := l } := by
 have u := h.own.nodes
 rw [own_len u] at u
 have h5 := has_other h.h5 u hc (by decide)
 have hbe := belowS h.below hc (own_lo u)
 have hg := h.g5w
 refine ⟨h5, fun W' hx k => ⟨belowS hbe k (fun q e => by have e2 : q = g5 := e; omega), hg, (has_other h.hz u hc (by decide)).over k (by omega), (has_other h.hT u hc (by decide)).over k h.Tg, hx, ⟨own_has hn h5 k (by decide), own_has (own_other h.own.links u hc (by decide)) h5 k (by decide), fun z hz => ?_⟩, (has_other h.hy u hc (by decide)).over k h.ygy, h.ygy, h.Tg⟩⟩
 have o := (h.own.each z (hl z hz)).other u hc
 exact ⟨own_has o.ps h5 k (by decide), own_has o.xs h5 k (by decide)⟩
theorem MeK.links {w wr wa : World} {g5 T gy c : Nat} {a b x t : Fc.StateC} {A : Option Addr} {l : List Fc.LinkP} (h : MeK w wr g5 T gy a b x t) (hn : OwnK wa w.heap.size 51 25 Fc.linkC (.slice A l.length c) l) (hc : Chg (fun q => (Value.slice t.A2 t.links.length t.c2).ownBlock = some q) wr wa) :
  Has wa g5 27 (Fc.stateC t) ∧ ∀ W', Has W' g5 27 (Fc.stateC { t with A2 := A, n2 := l.length, c2 := c, links := l }) → Chg (· = g5) wa W' → MeK w W' g5 T gy a b x { t with A2 := A, n2 := l.length, c2 := c, links := l } := by
 have u := h.own.links
 rw [own_len u] at u
 have h5 := has_other h.h5 u hc (by decide)
 have hbe := belowS h.below hc (own_lo u)
 have hg := h.g5w
 refine ⟨h5, fun W' hx k => ⟨belowS hbe k (fun q e => by have e2 : q = g5 := e; omega), hg, (has_other h.hz u hc (by decide)).over k (by omega), (has_other h.hT u hc (by decide)).over k h.Tg, hx, ⟨own_has (own_other h.own.nodes u hc (by decide)) h5 k (by decide), own_has hn h5 k (by decide), fun z hz => ?_⟩, (has_other h.hy u hc (by decide)).over k h.ygy, h.ygy, h.Tg⟩⟩
 have o := h.own.each z hz
 exact ⟨own_has (own_other o.ps u hc (by decide)) h5 k (by decide), own_has (own_other o.xs u hc (by decide)) h5 k (by decide)⟩
theorem merge_p {a b s t : Fc.StateC} (hp : s.p = joinP a.p b.p) (e0 : t.seen = s.seen) (e1 : t.nodes = s.nodes.filter (leftN [a, b])) (e2 : t.links = s.links.filter (leftL [a, b])) : t.p = mergeP a.p b.p := by
 have h1 : s.seen = (joinP a.p b.p).seen := by rw [← hp]; rfl
 have h2 : s.nodes.map Fc.NodeC.p = (joinP a.p b.p).nodes := by rw [← hp]; rfl
 have h3 : s.links = (joinP a.p b.p).links := by rw [← hp]; rfl
 have q1 : leftN [a, b] = (fun n : Fc.NodeP => !prunedN a.p n.id && !prunedN b.p n.id) ∘ Fc.NodeC.p := by funext y; simp [leftN]
 have q2 : leftL [a, b] = fun n : Fc.LinkP => !prunedL a.p n.id && !prunedL b.p n.id := by funext y; simp [leftL]
 show (⟨t.seen, t.nodes.map Fc.NodeC.p, t.links⟩ : Fc.StateP) = mergeP a.p b.p
 unfold mergeP
 rw [← h1, ← h2, ← h3, e0, e1, e2, q1, q2, List.filter_map]
theorem limS_merge {w w' : World} {a b s : Fc.StateC} {Ka Kb : Nat} (ha : StateIn w a) (hb : StateIn w b) (la : LimS Ka a) (lb : LimS Kb b) (hs : StateIn w' s) (e : s.p = mergeP a.p b.p) : LimS (Ka + Kb) s := by
 have q := limP_join (limP_of ha la) (limP_of hb lb)
 have sub : ∀ (l : List Fc.NodeP) (P : Fc.NodeP → Bool) (f : Fc.NodeP → Nat), ((l.filter P).map f).sum ≤ (l.map f).sum := by
  intro l P f
  induction l with
  | nil => simp
  | cons z r ih =>
   rw [List.filter_cons]
   split
   ·simp only [List.map_cons, List.sum_cons]; omega
   ·simp only [List.map_cons, List.sum_cons]; omega
 refine limS_of hs ?_
 rw [e]
 exact ⟨Nat.le_trans (List.length_filter_le _ _) q.n1, Nat.le_trans (List.length_filter_le _ _) q.n2, Nat.le_trans (sub _ _ _) q.ps, Nat.le_trans (sub _ _ _) q.xs⟩
set_option maxRecDepth 100000 in
set_option maxHeartbeats 16000000 in
theorem merge_any (a b : Fc.StateC) (w : World) (ha : StateIn w a) (hb : StateIn w b) (la : LimS 4800 a) (lb : LimS 4800 b) :
  Calls Tryz.prog 17 #[.agg (Fc.stateC a), .agg (Fc.stateC b)] w fun e w' => ∃ s, e = .returned (.agg (Fc.stateC s)) ∧ s.p = mergeP a.p b.p ∧ StateOwn w.heap.size w' s ∧ Below w.heap.size w w' := by
 have HIN := Lib.hid (show ∀ V, Below w.heap.size w V → ∀ z ∈ [a, b], StateIn V z ∧ LimS 4800 z from fun V h z hz => by
  rcases List.mem_cons.1 hz with rfl | hz
  ·exact ⟨ha.below h, la⟩
  ·rw [List.mem_singleton.1 hz]; exact ⟨hb.below h, lb⟩)
 have H0 := Lib.hid (TwoI.start w 27 (Fc.stateC a) (Fc.stateC b) zeroS)
 have HST := Lib.hid (fun V (h : Below w.heap.size w V) => states_any a b V (ha.below h) (hb.below h) la lb (by decide))
 clear ha hb la lb
 go_enter Tryz.func17, Tryz.ntmps17
 go_wp2_with (first | ((with_reducible refine Who.wpList_alloc 27 4 rfl rfl rfl (zeroS) allocS ?_); (try simp only [Act.put, List.setIfInBounds_toArray, List.set_cons_zero, List.set_cons_succ]); (try simp only [World.size_alloc])) | ((with_reducible refine Who.wpList_loadC 27 (.tmp 2) rfl (w.heap.size) 0 (Fc.stateC a) ?_); refine And.intro ⟨by rfl, by rfl, ⟨_, Tryz.underlying27, rfl⟩, info_state⟩ (And.intro (Who.has_range H0.out.ha) ?_)) | ((with_reducible refine Who.wpList_loadC 27 (.tmp 3) rfl (w.heap.size + 1) 0 (Fc.stateC b) ?_); refine And.intro ⟨by rfl, by rfl, ⟨_, Tryz.underlying27, rfl⟩, info_state⟩ (And.intro (Who.has_range H0.out.hb) ?_)) | fail)
 refine (HST.out _ H0.out.below).mono ?_
 rintro e ws ⟨s, rfl, hp, ho, hb⟩
 have H1 := Lib.hid (H0.out.low hb)
 have HP := Lib.hid hp
 have HSL := Lib.hid (show s.nodes.length ≤ 20000 ∧ s.links.length ≤ 20000 from by
  have i1 := HIN.out _ (Below.refl _ _) a (by simp)
  have i2 := HIN.out _ (Below.refl _ _) b (by simp)
  have q := limS_join i1.1 i2.1 i1.2 i2.2 ho.in_ hp
  have e1 := own_len ho.nodes
  have e2 := own_len ho.links
  have := q.n1
  have := q.n2
  omega)
 have hbn := (Below.refl ws.heap.size ws).alloc (Nat.le_refl _) (.cells (Fc.stateC s) 27)
 have H2 := Lib.hid (H1.out.low hbn)
 have HO2 := Lib.hid ((ho.monoB (show w.heap.size ≤ _ from H0.out.below.size)).low hbn)
 have hT := Has.fresh (ws.alloc (.cells (Fc.stateC s) 27)) 27 (row2 a b)
 rw [World.size_alloc] at hT
 have hbt := (Below.refl (ws.alloc (.cells (Fc.stateC s) 27)).heap.size (ws.alloc (.cells (Fc.stateC s) 27))).alloc (Nat.le_refl _) (.cells (row2 a b) 27)
 have HI0 := Lib.hid (show MeI w ((ws.alloc (.cells (Fc.stateC s) 27)).alloc (.cells (row2 a b) 27)) ws.heap.size (ws.heap.size + 1) a b s s [] from ⟨(H2.out.low hbt).below, by have := H1.out.hz.bound; omega, (H2.out.low hbt).hz, hT, (Has.fresh ws 27 (Fc.stateC s)).past _, HO2.out.low hbt, rfl, (List.filter_eq_self.2 fun _ _ => rfl).symm, (List.filter_eq_self.2 fun _ _ => rfl).symm⟩)
 obtain ⟨g5, hg5⟩ : ∃ g, g = ws.heap.size := ⟨_, rfl⟩
 obtain ⟨T, hT2⟩ : ∃ g, g = ws.heap.size + 1 := ⟨_, rfl⟩
 rw [← hT2, ← hg5] at HI0
 have HG := Lib.hid (And.intro hg5 hT2)
 clear hp ho hb hbn hbt hT H0 HST hg5 hT2
 go_wp2_with (first | ((with_reducible refine Who.wpList_newC 27 5 (.tmp 10) rfl rfl rfl (zeroS) (Fc.stateC s) ?_); refine And.intro ⟨rfl, rfl, rfl, allocS, by rfl, by rfl, info_state, rfl, state_one _⟩ ?_; (try simp only [Act.put, List.setIfInBounds_toArray, List.set_cons_zero, List.set_cons_succ]); (try simp only [World.size_alloc])) | ((with_reducible refine Who.wpList_loadC 27 (.tmp 2) rfl (w.heap.size) 0 (Fc.stateC a) ?_); refine And.intro ⟨by rfl, by rfl, ⟨_, Tryz.underlying27, rfl⟩, info_state⟩ (And.intro (Who.has_range H2.out.ha) ?_)) | ((with_reducible refine Who.wpList_loadC 27 (.tmp 3) rfl (w.heap.size + 1) 0 (Fc.stateC b) ?_); refine And.intro ⟨by rfl, by rfl, ⟨_, Tryz.underlying27, rfl⟩, info_state⟩ (And.intro (Who.has_range H2.out.hb) ?_)) | ((with_reducible refine wpList_build2 (.tmp 11) (.tmp 12) a b rfl ?_); refine And.intro ⟨by rfl, by rfl, by rfl⟩ ?_; (try simp only [World.size_alloc])) | fail)
 rw [← HG.out.2, ← HG.out.1]
 go_loopw [15] (fun i wr => ∃ j : Nat, i = .int .i64 j ∧ j ≤ 2 ∧ ∃ t, Hid (MeI w wr g5 T a b s t ([a, b].take j))) (fun i _ => 2 - (intOf i).toNat)
 case atStart => exact ⟨0, rfl, Nat.zero_le _, s, HI0⟩
 case round =>
  clear HI0
  obtain ⟨j, rfl, hj, t, HI⟩ := hrel
  by_cases hlt : j < 2
  ·obtain ⟨bk, off, hA, hbl, hxj, mr⟩ := (srow2 HI.out.hT).range (i := j) hlt
   cases hA
   obtain ⟨x, hx⟩ : ∃ x, [a, b][j] = x := ⟨_, rfl⟩
   rw [hx] at mr
   have HNX := Lib.hid (show [a, b].take (j + 1) = [a, b].take j ++ [x] from by rw [List.take_succ_eq_append_getElem hxj, hx])
   have HXI := Lib.hid (fun V (h : Below w.heap.size w V) => HIN.out V h x (hx ▸ List.getElem_mem hxj))
   have MR := Lib.hid mr
   have hbn := (Below.refl wr.heap.size wr).alloc (Nat.le_refl _) (.cells (Fc.stateC x) 27)
   have HI1 := Lib.hid (HI.out.low hbn)
   have HY1 := Lib.hid (Has.fresh wr 27 (Fc.stateC x))
   have hgw : wr.heap.size ≠ g5 := by have := HI.out.h5.bound; omega
   obtain ⟨A1, hA1⟩ : ∃ A1, A1 = t.A1 := ⟨_, rfl⟩
   have HTL := Lib.hid (show t.n1 = t.nodes.length ∧ t.n2 = t.links.length ∧ t.nodes.length ≤ 20000 ∧ t.links.length ≤ 20000 from ⟨own_len HI.out.own.nodes, own_len HI.out.own.links, by rw [HI.out.nodes]; exact Nat.le_trans (List.length_filter_le _ _) HSL.out.1, by rw [HI.out.links]; exact Nat.le_trans (List.length_filter_le _ _) HSL.out.2⟩)
   have c8 : (wr.alloc (.cells (Fc.stateC x) 27)).cell? ⟨g5, 8, none⟩ = some (.slice t.A1 t.nodes.length t.c1) := by have q := HI1.out.h5.at_ 8; rw [← HTL.out.1]; exact q
   have d8 : (wr.alloc (.cells (Fc.stateC x) 27)).cell? ⟨wr.heap.size, 8, none⟩ = some (.slice x.A1 x.n1 x.c1) := HY1.out.at_ 8
   have HW := Lib.hid (withoutN_any w.heap.size t.A1 t.c1 t.nodes x.A1 x.n1 x.c1 x.nodes x.seen (by have := HTL.out; omega) (Nat.le_trans (HXI.out w (Below.refl _ _)).2.n1 (by decide)) (wr.alloc (.cells (Fc.stateC x) 27)) (by have q := HI1.out.own.nodes; rw [HTL.out.1] at q; exact q) (HXI.out _ HI1.out.below).1.nodes.row)
   clear mr hx hbl hxj hbn hA1 HI
   go_wp2_with (first | ((with_reducible refine Who.wpList_loadC 27 (.tmp 17) rfl (T) (0 + j * 10) (Fc.stateC x) ?_); refine And.intro ⟨by rfl, by rfl, ⟨_, Tryz.underlying27, rfl⟩, info_state⟩ (And.intro (MR.out) ?_)) | ((with_reducible refine Who.wpList_loadC 27 (.tmp 17) rfl (T) (j * 10) (Fc.stateC x) ?_); refine And.intro ⟨by rfl, by rfl, ⟨_, Tryz.underlying27, rfl⟩, info_state⟩ (And.intro ((by have q := MR.out; rw [Nat.zero_add] at q; exact q)) ?_)) | ((with_reducible refine Who.wpList_newC 27 7 (.tmp 18) rfl rfl rfl (zeroS) (Fc.stateC x) ?_); refine And.intro ⟨rfl, rfl, rfl, allocS, by rfl, by rfl, info_state, rfl, state_one _⟩ ?_; (try simp only [Act.put, List.setIfInBounds_toArray, List.set_cons_zero, List.set_cons_succ]); (try simp only [World.size_alloc])) | ((with_reducible refine Who.wpList_loadC 23 (.tmp 23) rfl (wr.heap.size) 0 (vecC x.seen) ?_); refine And.intro ⟨by rfl, by rfl, ⟨_, Tryz.underlying23, rfl⟩, info_vec⟩ (And.intro (state_seen HY1.out) ?_)) | fail)
   refine HW.out.mono ?_
   rintro e wa ⟨v, rfl, hn, hc⟩
   obtain ⟨l3, hl3⟩ : ∃ l3, l3 = t.nodes.filter (fun y => !(Vc.hasB x.seen y.p.id.1 y.p.id.2 && decide (countI (x.nodes.map fun y => y.p.id) y.p.id = 0))) := ⟨_, rfl⟩
   rw [← hl3] at hn
   obtain ⟨A3, c3, rfl, -⟩ := hn.any
   have HK1 := Lib.hid (MeK.nodes (show MeK w (wr.alloc (.cells (Fc.stateC x) 27)) g5 T wr.heap.size a b x t from ⟨HI1.out.below, HI1.out.g5w, HI1.out.hz, HI1.out.hT, HI1.out.h5, HI1.out.own, HY1.out, hgw, by have := HG.out; omega⟩) hn (fun z hz => by rw [hl3] at hz; exact (List.mem_filter.1 hz).1) hc)
   have HL3 := Lib.hid hl3
   clear c8 d8 hn hc HW HY1 hl3
   go_wp2_with (first | ((with_reducible refine wpList_cell (T := 27) 24 (.tmp 26) (.tmp 25) rfl g5 8 (Fc.stateC t) (Fc.stateC ({ t with A1 := A3, n1 := l3.length, c1 := c3, nodes := l3 })) (.slice A3 l3.length c3) ?_); refine And.intro ⟨rfl, rfl, by rfl, by rfl, info_sn, rfl, of_decide_eq_true rfl, by kernel_rfl, HK1.out.1⟩ ?_; intro W1 HX1 HC1; have HM1 := Lib.hid (HK1.out.2 W1 HX1.out HC1.out); have c9 : W1.cell? ⟨g5, 9, none⟩ = some (.slice t.A2 t.links.length t.c2) := (by have q := HM1.out.h5.at_ 9; rw [← HTL.out.2.1]; exact q); have d9 : W1.cell? ⟨wr.heap.size, 9, none⟩ = some (.slice x.A2 x.n2 x.c2) := HM1.out.hy.at_ 9) | ((with_reducible refine Who.wpList_loadC 23 (.tmp 31) rfl (wr.heap.size) 0 (vecC x.seen) ?_); refine And.intro ⟨by rfl, by rfl, ⟨_, Tryz.underlying23, rfl⟩, info_vec⟩ (And.intro (state_seen HM1.out.hy) ?_)) | fail)
   refine (withoutL_any w.heap.size t.A2 t.c2 t.links x.A2 x.n2 x.c2 x.links x.seen (by have := HTL.out; omega) (Nat.le_trans (HXI.out w (Below.refl _ _)).2.n2 (by decide)) W1 (by have q : OwnK W1 w.heap.size 51 25 Fc.linkC (.slice t.A2 t.n2 t.c2) t.links := HM1.out.own.links; rw [HTL.out.2.1] at q; exact q) (HXI.out _ HM1.out.below).1.links.row).mono ?_
   rintro e wb ⟨v, rfl, hn, hc⟩
   obtain ⟨l4, hl4⟩ : ∃ l4, l4 = t.links.filter (fun y => !(Vc.hasB x.seen y.id.1 y.id.2 && decide (countI (x.links.map fun y => y.id) y.id = 0))) := ⟨_, rfl⟩
   rw [← hl4] at hn
   obtain ⟨A4, c4, rfl, -⟩ := hn.any
   have HK2 := Lib.hid (MeK.links HM1.out hn hc)
   have HL4 := Lib.hid hl4
   clear c9 d9 hn hc HX1 HC1 HK1 HM1 hl4
   go_wp2_with (first | ((with_reducible refine wpList_cell (T := 27) 25 (.tmp 34) (.tmp 33) rfl g5 9 (Fc.stateC ({ t with A1 := A3, n1 := l3.length, c1 := c3, nodes := l3 })) (Fc.stateC ({ t with A1 := A3, n1 := l3.length, c1 := c3, nodes := l3, A2 := A4, n2 := l4.length, c2 := c4, links := l4 })) (.slice A4 l4.length c4) ?_); refine And.intro ⟨rfl, rfl, by rfl, by rfl, info_sl, rfl, of_decide_eq_true rfl, by kernel_rfl, HK2.out.1⟩ ?_; intro W2 HX2 HC2; skip) | fail)
   have HK3 := Lib.hid (HK2.out.2 W2 HX2.out HC2.out)
   have HI5 := Lib.hid (show MeI w W2 g5 T a b s ({ t with A1 := A3, n1 := l3.length, c1 := c3, nodes := l3, A2 := A4, n2 := l4.length, c2 := c4, links := l4 }) ([a, b].take (j + 1)) from ⟨HK3.out.below, HK3.out.g5w, HK3.out.hz, HK3.out.hT, HK3.out.h5, HK3.out.own, HI1.out.seen, by
    show l3 = _
    rw [HNX.out, ← leftN_next, ← HI1.out.nodes]
    exact HL3.out, by
    show l4 = _
    rw [HNX.out, ← leftL_next, ← HI1.out.links]
    exact HL4.out⟩)
   clear HX2 HC2 HK2 HK3
   go_wp2
   go_roundw
   case rel => exact ⟨j + 1, by go_num, by omega, { t with A1 := A3, n1 := l3.length, c1 := c3, nodes := l3, A2 := A4, n2 := l4.length, c2 := c4, links := l4 }, HI5⟩
   case measure => simp [intOf]; omega
  ·have hj2 : j = 2 := by omega
   subst hj2
   go_wp2_with (first | ((with_reducible refine Who.wpList_loadC 27 (.tmp 5) rfl (g5) 0 (Fc.stateC t) ?_); refine And.intro ⟨by rfl, by rfl, ⟨_, Tryz.underlying27, rfl⟩, info_state⟩ (And.intro (Who.has_range HI.out.h5) ?_)) | ((with_reducible refine wpList_storeG 27 (.tmp 4) (.tmp 36) rfl (w.heap.size + 1 + 1) (zeroS) (Fc.stateC t) ?_); refine And.intro ⟨rfl, by rfl, by rfl, info_state, state_one _, rfl, HI.out.hz⟩ ?_; intro W9 HX9 HC9; (try simp only [Act.put, List.setIfInBounds_toArray, List.set_cons_zero, List.set_cons_succ])) | fail)
   have HBF := Lib.hid (below_step HI.out.below HC9.out (by omega))
   refine bodyPost_ret (v := .agg (Fc.stateC t)) (Who.results_cell (p := 4) (t := 27) rfl _ _ (w.heap.size + 1 + 1) 0 (Fc.stateC t) _ (by rfl) (Who.has_range HX9.out) Tryz.underlying27 rfl info_state) rfl ?_
   exact ⟨t, rfl, merge_p HP.out HI.out.seen HI.out.nodes HI.out.links, ⟨own_has HI.out.own.nodes HI.out.hz HC9.out (by decide), own_has HI.out.own.links HI.out.hz HC9.out (by decide), fun z hz => ⟨own_has (HI.out.own.each z hz).ps HI.out.hz HC9.out (by decide), own_has (HI.out.own.each z hz).xs HI.out.hz HC9.out (by decide)⟩⟩, HBF.out⟩
end Go.Proofs.YtblogecapegbmaaGreat.Jn
