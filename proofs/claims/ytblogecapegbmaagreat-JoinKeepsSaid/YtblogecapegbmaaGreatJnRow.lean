import Derived.Test.YtblogecapegbmaaGreatJnM

/- States by their rows alone. -/
namespace Go.Proofs.YtblogecapegbmaaGreat.Fc
open Go.RowKit Go.Proofs.YtblogecapegbmaaGreat.Mem Go.Proofs.YtblogecapegbmaaGreat.Vc
set_option linter.unusedVariables false

structure NodeRow (w : World) (x : NodeC) : Prop where
 ps : SRow w 4 pieceC x.A1 x.n1 x.p.ps
 xs : SRow w 5 xattrC x.A2 x.n2 x.p.xs
 m1 : x.n1 ≤ 9223372036854775807
 m2 : x.n2 ≤ 9223372036854775807
theorem NodeRow.below {w w' : World} {x : NodeC} (h : NodeRow w x) (hb : Below w.heap.size w w') : NodeRow w' x := ⟨h.ps.below hb, h.xs.below hb, h.m1, h.m2⟩
structure StateRow (w : World) (s : StateC) : Prop where
 nodes : SRow w 13 nodeC s.A1 s.n1 s.nodes
 links : SRow w 25 linkC s.A2 s.n2 s.links
 m1 : s.n1 ≤ 9223372036854775807
 m2 : s.n2 ≤ 9223372036854775807
 each : ∀ x ∈ s.nodes, NodeRow w x
theorem StateRow.below {w w' : World} {s : StateC} (h : StateRow w s) (hb : Below w.heap.size w w') : StateRow w' s := ⟨h.nodes.below hb, h.links.below hb, h.m1, h.m2, fun x hx => (h.each x hx).below hb⟩

/-- The same. -/
def SameP (a b : StateC) : Prop := (∀ i, i < 8 → a.seen i = b.seen i) ∧ a.nodes.map NodeC.p = b.nodes.map NodeC.p ∧ a.links.map linkC = b.links.map linkC
end Go.Proofs.YtblogecapegbmaaGreat.Fc
/- Join: how much is there when two are one; rows of two states; small facts. -/
namespace Go.Proofs.YtblogecapegbmaaGreat.Jn
open Go.RowKit Go.Proofs.YtblogecapegbmaaGreat.Mem
set_option linter.unusedVariables false set_option linter.unusedSimpArgs false set_option linter.unusedSectionVars false

theorem info_link : (Tryz.prog.info? 51).map (·.size) = some 25 := by kernel_rfl
theorem own1 (l : Fc.LinkP) : (Fc.linkC l).all (·.oneCell') = true := by simp [Fc.linkC, Value.oneCell']
theorem info_sl : (Tryz.prog.info? 25).map (·.size) = some 1 := by kernel_rfl
section
variable {α κ : Type} [DecidableEq κ] {lt : κ → κ → Bool} {key : α → κ} {op : α → α → α} {nrm : α → α} (f : α → Nat)
theorem ins_sum (hop : ∀ a b, f (op a b) ≤ f a + f b) (hn : ∀ a, f (nrm a) ≤ f a) : ∀ (l : List α) (x : α), ((ins lt key op nrm l x).map f).sum ≤ (l.map f).sum + f x
 | [], x => by simpa [ins] using hn x
 | y :: r, x => by
  unfold ins
  split
  ·have := hop y x
   simp only [List.map_cons, List.sum_cons]
   omega
  ·split
   ·have := hn x
    simp only [List.map_cons, List.sum_cons]
    omega
   ·have := ins_sum hop hn r x
    simp only [List.map_cons, List.sum_cons]
    omega
theorem fold_sum (hop : ∀ a b, f (op a b) ≤ f a + f b) (hn : ∀ a, f (nrm a) ≤ f a) : ∀ (l acc : List α), ((l.foldl (ins lt key op nrm) acc).map f).sum ≤ (acc.map f).sum + (l.map f).sum
 | [], acc => by simp
 | x :: r, acc => by
  have h1 := fold_sum hop hn r (ins lt key op nrm acc x)
  have h2 := ins_sum (lt := lt) (key := key) f hop hn acc x
  simp only [List.foldl_cons, List.map_cons, List.sum_cons]
  omega
theorem mrg_sum (hop : ∀ a b, f (op a b) ≤ f a + f b) (hn : ∀ a, f (nrm a) ≤ f a) (l : List α) : ((mrg lt key op nrm l).map f).sum ≤ (l.map f).sum := by
 have := fold_sum (lt := lt) (key := key) f hop hn l []
 simpa [mrg] using this
end
theorem ones {α : Type} (l : List α) : (l.map fun _ => 1).sum = l.length := by
 induction l with
 | nil => rfl
 | cons x l ih => rw [List.map_cons, List.sum_cons, ih, List.length_cons]; omega
theorem mrg_len {α κ : Type} [DecidableEq κ] {lt : κ → κ → Bool} {key : α → κ} {op : α → α → α} {nrm : α → α} (l : List α) : (mrg lt key op nrm l).length ≤ l.length := by
 have := mrg_sum (lt := lt) (key := key) (op := op) (nrm := nrm) (fun _ => 1) (fun _ _ => by omega) (fun _ => Nat.le_refl _) l
 rwa [ones, ones] at this
structure LimP (K : Nat) (p : Fc.StateP) : Prop where
 n1 : p.nodes.length ≤ K
 n2 : p.links.length ≤ K
 ps : (p.nodes.map fun n => n.ps.length).sum ≤ K
 xs : (p.nodes.map fun n => n.xs.length).sum ≤ K
theorem limP_join {Ka Kb : Nat} {a b : Fc.StateP} (ha : LimP Ka a) (hb : LimP Kb b) : LimP (Ka + Kb) (joinP a b) where
 n1 := by
  have h : (mrgN (a.nodes ++ b.nodes)).length ≤ (a.nodes ++ b.nodes).length := mrg_len _
  rw [List.length_append] at h
  have := ha.n1; have := hb.n1
  show (mrgN (a.nodes ++ b.nodes)).length ≤ _
  omega
 n2 := by
  have h : (mrgL (a.links ++ b.links)).length ≤ (a.links ++ b.links).length := mrg_len _
  rw [List.length_append] at h
  have := ha.n2; have := hb.n2
  show (mrgL (a.links ++ b.links)).length ≤ _
  omega
 ps := by
  have h : ((mrgN (a.nodes ++ b.nodes)).map fun n => n.ps.length).sum ≤ ((a.nodes ++ b.nodes).map fun n => n.ps.length).sum := mrg_sum (fun n : Fc.NodeP => n.ps.length) (fun x y => by
   have q : (mrgP (x.ps ++ y.ps)).length ≤ (x.ps ++ y.ps).length := mrg_len _
   rw [List.length_append] at q
   exact q) (fun x => mrg_len _) _
  rw [List.map_append, List.sum_append_nat] at h
  have := ha.ps; have := hb.ps
  show ((mrgN (a.nodes ++ b.nodes)).map fun n => n.ps.length).sum ≤ _
  omega
 xs := by
  have h : ((mrgN (a.nodes ++ b.nodes)).map fun n => n.xs.length).sum ≤ ((a.nodes ++ b.nodes).map fun n => n.xs.length).sum := mrg_sum (fun n : Fc.NodeP => n.xs.length) (fun x y => by
   have q : (mrgX (x.xs ++ y.xs)).length ≤ (x.xs ++ y.xs).length := mrg_len _
   rw [List.length_append] at q
   exact q) (fun x => mrg_len _) _
  rw [List.map_append, List.sum_append_nat] at h
  have := ha.xs; have := hb.xs
  show ((mrgN (a.nodes ++ b.nodes)).map fun n => n.xs.length).sum ≤ _
  omega
theorem rows_ps {w : World} {s : Fc.StateC} (h : StateIn w s) : s.nodes.map Fc.NodeC.n1 = (s.nodes.map Fc.NodeC.p).map fun n => n.ps.length := by
 rw [List.map_map]
 exact List.map_congr_left fun z hz => ((h.each z hz).ps.row.len).symm
theorem rows_xs {w : World} {s : Fc.StateC} (h : StateIn w s) : s.nodes.map Fc.NodeC.n2 = (s.nodes.map Fc.NodeC.p).map fun n => n.xs.length := by
 rw [List.map_map]
 exact List.map_congr_left fun z hz => ((h.each z hz).xs.row.len).symm
theorem limP_of {w : World} {s : Fc.StateC} {K : Nat} (h : StateIn w s) (l : LimS K s) : LimP K s.p where
 n1 := by have e := h.nodes.row.len; have := l.n1; simp only [rowN] at e; show (s.nodes.map Fc.NodeC.p).length ≤ K; rw [List.length_map]; omega
 n2 := by have e := h.links.row.len; have := l.n2; simp only [rowL] at e; show s.links.length ≤ K; omega
 ps := by have := l.ps; rw [rows_ps h] at this; exact this
 xs := by have := l.xs; rw [rows_xs h] at this; exact this
theorem limS_of {w : World} {s : Fc.StateC} {K : Nat} (h : StateIn w s) (l : LimP K s.p) : LimS K s where
 n1 := by have e := h.nodes.row.len; have := l.n1; simp only [rowN] at e; simp only [Fc.StateC.p, List.length_map] at this; omega
 n2 := by have e := h.links.row.len; have := l.n2; simp only [rowL] at e; simp only [Fc.StateC.p] at this; omega
 ps := by have := l.ps; rw [rows_ps h]; exact this
 xs := by have := l.xs; rw [rows_xs h]; exact this
theorem limS_join {w w' : World} {a b s : Fc.StateC} {Ka Kb : Nat} (ha : StateIn w a) (hb : StateIn w b) (la : LimS Ka a) (lb : LimS Kb b) (hs : StateIn w' s) (e : s.p = joinP a.p b.p) : LimS (Ka + Kb) s :=
 limS_of hs (by rw [e]; exact limP_join (limP_of ha la) (limP_of hb lb))
theorem LimS.mono {s : Fc.StateC} {K L : Nat} (h : LimS K s) (hl : K ≤ L) : LimS L s := ⟨Nat.le_trans h.n1 hl, Nat.le_trans h.n2 hl, Nat.le_trans h.ps hl, Nat.le_trans h.xs hl⟩
theorem one_sum {α : Type} (f : α → Nat) {l : List α} {x : α} (h : x ∈ l) : f x ≤ (l.map f).sum := by
 induction l with
 | nil => cases h
 | cons y r ih =>
  rw [List.map_cons, List.sum_cons]
  rcases List.mem_cons.1 h with rfl | h
  ·omega
  ·have := ih h; omega
theorem row_in {w : World} {s : Fc.StateC} {K : Nat} (h : StateIn w s) (l : LimS K s) (hK : K ≤ 1000000) : Fc.StateRow w s where
 nodes := h.nodes.row
 links := h.links.row
 m1 := by have := l.n1; omega
 m2 := by have := l.n2; omega
 each := fun z hz => ⟨(h.each z hz).ps.row, (h.each z hz).xs.row, by have := one_sum Fc.NodeC.n1 hz; have := l.ps; omega, by have := one_sum Fc.NodeC.n2 hz; have := l.xs; omega⟩
def row2 (a b : Fc.StateC) : Array Value := #[.int .i64 (a.seen 0), .int .i64 (a.seen 1), .int .i64 (a.seen 2), .int .i64 (a.seen 3), .int .i64 (a.seen 4), .int .i64 (a.seen 5), .int .i64 (a.seen 6), .int .i64 (a.seen 7), .slice a.A1 a.n1 a.c1, .slice a.A2 a.n2 a.c2, .int .i64 (b.seen 0), .int .i64 (b.seen 1), .int .i64 (b.seen 2), .int .i64 (b.seen 3), .int .i64 (b.seen 4), .int .i64 (b.seen 5), .int .i64 (b.seen 6), .int .i64 (b.seen 7), .slice b.A1 b.n1 b.c1, .slice b.A2 b.n2 b.c2]
theorem srow2 {w : World} {g : Nat} {t : TypeId} {a b : Fc.StateC} (h : Has w g t (row2 a b)) : Fc.SRow w 10 Fc.stateC (some ⟨g, 0, none⟩) 2 [a, b] := by
 refine ⟨rfl, fun _ => ⟨g, 0, rfl, h.bound, fun i hi j v hv => ?_⟩⟩
 have hj : j < 10 := by
  obtain ⟨q, _⟩ := Array.getElem?_eq_some_iff.1 hv
  exact q
 rw [show 0 + i * 10 + j = i * 10 + j by omega, h.at_, ← hv]
 match i, hi with
 | 0, _ => match j, hj with | 0, _ | 1, _ | 2, _ | 3, _ | 4, _ | 5, _ | 6, _ | 7, _ | 8, _ | 9, _ => rfl
 | 1, _ => match j, hj with | 0, _ | 1, _ | 2, _ | 3, _ | 4, _ | 5, _ | 6, _ | 7, _ | 8, _ | 9, _ => rfl
 | i + 2, hi => simp at hi; omega
theorem fill2 (a b : Fc.StateC) : Instr.fill (fun i => some (i * 10, 10)) ((Array.range (2 * 10)).map ((Value.agg zeroS).cells[· % (Value.agg zeroS).cells.size]!)) [(0, Value.agg (Fc.stateC a)), (1, Value.agg (Fc.stateC b))] = some (row2 a b) := by kernel_rfl
theorem wpList_build2 {ops : Array Oper} {rest : List Oper} {o : Oper} {act : Act} {w : World} {Q : Exit → Act → World → Prop} (x y : Operand) (a b : Fc.StateC) (ho : o.op = .buildSlice 34 2 #[(0, x), (1, y)])
  (h : (Region.wanted o (yielded ops act.tmps) = true ∧ act.eval x = .agg (Fc.stateC a) ∧ act.eval y = .agg (Fc.stateC b)) ∧ wpList Tryz.prog ops Q rest (act.put o.dst (.slice (some ⟨w.heap.size, 0, none⟩) 2 2)) (w.alloc (.cells (row2 a b) 27))) : wpList Tryz.prog ops Q (o :: rest) act w := by
 obtain ⟨⟨h1, h2, h3⟩, h5⟩ := h
 obtain ⟨i, q0, q1, q2, q3⟩ : ∃ i, Tryz.prog.info? 27 = some i ∧ i.zero = some (.agg zeroS) ∧ i.size = 10 ∧ i.bytes = 112 := by
  have h : (Tryz.prog.info? 27).map (fun i => (i.zero, i.size, i.bytes)) = some (some (.agg zeroS), 10, 112) := by kernel_rfl
  cases hh : Tryz.prog.info? 27 with
  | none => rw [hh] at h; cases h
  | some i => rw [hh] at h; simp at h; exact ⟨i, rfl, h⟩
 refine wpList_step fun K hK => ?_
 rw [if_pos h1]
 refine wp_buildSlice 34 27 2 _ ho (row2 a b) i _ Tryz.underlying34 q0 q1 (by omega) (by omega) ?_ (hK _ _ h5)
 have e1 : (#[(0, x), (1, y)] : Array (Nat × Operand)).map (fun (i, x) => (i, act.eval x)) = #[(0, .agg (Fc.stateC a)), (1, .agg (Fc.stateC b))] := by simp [h2, h3]
 rw [e1, q2]
 exact fill2 a b
theorem node_aat {w : World} {g : Nat} {t : TypeId} {x : Fc.NodeC} (h : Has w g t (Fc.nodeC x)) : w.rangeAt g 4 (#[.int .i64 x.p.aat.1, .int .i64 x.p.aat.2] : Array Value).toList := range_of h fun j hj => by
 match j, (show j < 2 from hj) with
 | 0, _ | 1, _ => rfl
theorem node_sat {w : World} {g : Nat} {t : TypeId} {x : Fc.NodeC} (h : Has w g t (Fc.nodeC x)) : w.rangeAt g 8 (#[.int .i64 x.p.sat.1, .int .i64 x.p.sat.2] : Array Value).toList := range_of h fun j hj => by
 match j, (show j < 2 from hj) with
 | 0, _ | 1, _ => rfl
theorem link_id {w : World} {g : Nat} {t : TypeId} {x : Fc.LinkP} (h : Has w g t (Fc.linkC x)) : w.rangeAt g 0 (#[.int .i64 x.id.1, .int .i64 x.id.2] : Array Value).toList := range_of h fun j hj => by
 match j, (show j < 2 from hj) with
 | 0, _ | 1, _ => rfl
theorem link_at {w : World} {g : Nat} {t : TypeId} {x : Fc.LinkP} (h : Has w g t (Fc.linkC x)) : w.rangeAt g 4 (#[.int .i64 x.at_.1, .int .i64 x.at_.2] : Array Value).toList := range_of h fun j hj => by
 match j, (show j < 2 from hj) with
 | 0, _ | 1, _ => rfl
end Go.Proofs.YtblogecapegbmaaGreat.Jn
