/- Join: what JoinAll wants, as data and rows. -/
import Derived.Test.YtblogecapegbmaaGreatJnU
import Derived.Test.YtblogecapegbmaaGreatJnX
import Derived.Test.YtblogecapegbmaaGreatJnY
namespace Go.Proofs.YtblogecapegbmaaGreat.Jn
open Go.RowKit Go.Proofs.YtblogecapegbmaaGreat.Mem
set_option linter.unusedVariables false set_option linter.unusedSimpArgs false set_option linter.unusedSectionVars false

theorem ris_uniq {α κ : Type} {lt : κ → κ → Bool} {key : α → κ} (hK : KLt lt) : ∀ (l : List α), Ris lt key l → ∀ x ∈ l, ∀ y ∈ l, key x = key y → x = y
  | [], _, x, hx, _, _, _ => by cases hx
  | z :: r, h, x, hx, y, hy, e => by
    have h1 := (List.pairwise_cons.1 h).1
    have h2 := (List.pairwise_cons.1 h).2
    rcases List.mem_cons.1 hx with k1 | k1
    · rcases List.mem_cons.1 hy with k2 | k2
      · rw [k1, k2]
      · have := h1 y k2
        rw [← k1, e, hK.irr] at this
        cases this
    · rcases List.mem_cons.1 hy with k2 | k2
      · have := h1 x k1
        rw [← k2, e, hK.irr] at this
        cases this
      · exact ris_uniq hK r h2 x k1 y k2 e
theorem first_some {l : List Fc.NodeC} {id : Int × Int} (h : ∃ y ∈ l, y.p.id = id) : ∃ m, firstN l id = some m := by
  cases q : firstN l id with
  | some m => exact ⟨m, rfl⟩
  | none =>
    unfold firstN at q
    rw [List.find?_eq_none] at q
    obtain ⟨y, hy, e⟩ := h
    have := q y hy
    simp [e] at this
theorem first_mem {l : List Fc.NodeC} {id : Int × Int} {m : Fc.NodeC} (h : firstN l id = some m) : m ∈ l ∧ m.p.id = id := by
  unfold firstN at h
  exact ⟨List.mem_of_find?_eq_some h, by simpa using List.find?_some h⟩
/-- All of a state is in another one. -/
structure AllIn (x s : Fc.StateC) : Prop where
  seen : Vc.withinB x.seen s.seen = true
  nodes : ∀ n ∈ x.nodes, ∃ c, firstN s.nodes n.p.id = some c ∧ GeN n.p c.p
  links : ∀ l ∈ x.links, ∃ m ∈ s.links, m.id = l.id ∧ GeL l m
theorem all_in {a b s x : Fc.StateC} (e : s.p = joinP a.p b.p) (hs : Vc.withinB x.seen s.seen = true) (hn : ∀ n ∈ x.nodes, n ∈ a.nodes ∨ n ∈ b.nodes) (hl : ∀ l ∈ x.links, l ∈ a.links ∨ l ∈ b.links) : AllIn x s := by
  simp only [Fc.StateC.p, joinP, Fc.StateP.mk.injEq] at e
  refine ⟨hs, fun n hx => ?_, fun l hx => ?_⟩
  · have h1 : n.p ∈ a.nodes.map Fc.NodeC.p ++ b.nodes.map Fc.NodeC.p := by
      rcases hn n hx with h | h
      · exact List.mem_append_left _ (List.mem_map_of_mem h)
      · exact List.mem_append_right _ (List.mem_map_of_mem h)
    obtain ⟨m, hm, k, g⟩ := nodes_have h1
    rw [← e.2.1] at hm
    obtain ⟨c, hc, rfl⟩ := List.mem_map.1 hm
    obtain ⟨d, hd⟩ := first_some (l := s.nodes) (id := n.p.id) ⟨c, hc, k⟩
    obtain ⟨d1, d2⟩ := first_mem hd
    have hu := ris_uniq klt_st _ (nodes_ris (a.nodes.map Fc.NodeC.p ++ b.nodes.map Fc.NodeC.p)) d.p (by rw [← e.2.1]; exact List.mem_map_of_mem d1) c.p (by rw [← e.2.1]; exact hm) (d2.trans k.symm)
    exact ⟨d, hd, by rw [hu]; exact g⟩
  · obtain ⟨m, hm, k, g⟩ := links_have (l := a.links ++ b.links) (by
      rcases hl l hx with h | h
      · exact List.mem_append_left _ h
      · exact List.mem_append_right _ h)
    rw [← e.2.2] at hm
    exact ⟨m, hm, k, g⟩
theorem all_from {a b s : Fc.StateC} (e : s.p = joinP a.p b.p) : ∀ n ∈ s.nodes, (firstN a.nodes n.p.id).isSome = true ∨ (firstN b.nodes n.p.id).isSome = true := fun n hn => by
  simp only [Fc.StateC.p, joinP, Fc.StateP.mk.injEq] at e
  have h1 : n.p ∈ mrgN (a.nodes.map Fc.NodeC.p ++ b.nodes.map Fc.NodeC.p) := by rw [← e.2.1]; exact List.mem_map_of_mem hn
  obtain ⟨z, hz, k⟩ := nodes_from h1
  rcases List.mem_append.1 hz with hz | hz
  · obtain ⟨y, hy, rfl⟩ := List.mem_map.1 hz
    obtain ⟨m, hm⟩ := first_some (l := a.nodes) (id := n.p.id) ⟨y, hy, k.symm⟩
    exact .inl (by rw [hm]; rfl)
  · obtain ⟨y, hy, rfl⟩ := List.mem_map.1 hz
    obtain ⟨m, hm⟩ := first_some (l := b.nodes) (id := n.p.id) ⟨y, hy, k.symm⟩
    exact .inr (by rw [hm]; rfl)
theorem seen_in {a b s : Fc.StateC} (e : s.p = joinP a.p b.p) : Vc.withinB a.seen s.seen = true ∧ Vc.withinB b.seen s.seen = true := by
  simp only [Fc.StateC.p, joinP, Fc.StateP.mk.injEq] at e
  exact ⟨Vc.withinB_iff.2 fun i _ => by rw [e.1]; exact joinV_left _ _ i, Vc.withinB_iff.2 fun i _ => by rw [e.1]; exact joinV_right _ _ i⟩
/-- Is a link there, and does it stand nowhere behind? -/
def goodL (l m : Fc.LinkP) : Bool := decide (m.id = l.id) && (!Vc.lessB m.at_.1 m.at_.2 l.at_.1 l.at_.2 && (Vc.withinB l.al m.al && Vc.withinB l.de m.de))
theorem good_yes {l m : Fc.LinkP} (e : m.id = l.id) (g : GeL l m) : goodL l m = true := by
  have h1 : Vc.lessB m.at_.1 m.at_.2 l.at_.1 l.at_.2 = false := g.at_
  have h2 : Vc.withinB l.al m.al = true := Vc.withinB_iff.2 fun i _ => g.al i
  have h3 : Vc.withinB l.de m.de = true := Vc.withinB_iff.2 fun i _ => g.de i
  unfold goodL
  rw [h1, h2, h3]
  simp [e]
theorem any_good {l : Fc.LinkP} {s : Fc.StateC} (h : ∃ m ∈ s.links, m.id = l.id ∧ GeL l m) : s.links.any (goodL l) = true := by
  obtain ⟨m, hm, e, g⟩ := h
  exact List.any_eq_true.2 ⟨m, hm, good_yes e g⟩
theorem any_next {l : Fc.LinkP} {xs : List Fc.LinkP} {k : Nat} {b : Bool} (hk : k < xs.length) (h : b = (xs.take k).any (goodL l)) : (b || goodL l xs[k]) = (xs.take (k + 1)).any (goodL l) := by
  rw [List.take_succ_eq_append_getElem hk, List.any_append, h]
  simp
theorem gen_kind {n c : Fc.NodeP} (h : GeN n c) : ¬ c.kind < n.kind := by
  have := h.kind
  simpa [intLt] using this
def row2 (a b : Fc.StateC) : Array Value := #[.int .i64 (a.seen 0), .int .i64 (a.seen 1), .int .i64 (a.seen 2), .int .i64 (a.seen 3), .int .i64 (a.seen 4), .int .i64 (a.seen 5), .int .i64 (a.seen 6), .int .i64 (a.seen 7), .slice a.A1 a.n1 a.c1, .slice a.A2 a.n2 a.c2, .int .i64 (b.seen 0), .int .i64 (b.seen 1), .int .i64 (b.seen 2), .int .i64 (b.seen 3), .int .i64 (b.seen 4), .int .i64 (b.seen 5), .int .i64 (b.seen 6), .int .i64 (b.seen 7), .slice b.A1 b.n1 b.c1, .slice b.A2 b.n2 b.c2]
theorem srow2 {w : World} {g : Nat} {t : TypeId} {a b : Fc.StateC} (h : Has w g t (row2 a b)) : Fc.SRow w 10 Fc.stateC (some ⟨g, 0, none⟩) 2 [a, b] := by
  refine ⟨rfl, fun _ => ⟨g, 0, rfl, h.bound, fun i hi j v hv => ?_⟩⟩
  have hj : j < 10 := by
    obtain ⟨q, _⟩ := Array.getElem?_eq_some_iff.1 hv
    exact q
  rw [show 0 + i * 10 + j = i * 10 + j by omega, h.at_, ← hv]
  match i, hi with
  | 0, _ => match j, hj with | 0, _ | 1, _ | 2, _ | 3, _ | 4, _ | 5, _ | 6, _ | 7, _ | 8, _ | 9, _ => rfl
  | 1, _ => match j, hj with | 0, _ | 1, _ | 2, _ | 3, _ | 4, _ | 5, _ | 6, _ | 7, _ | 8, _ | 9, _ => rfl
  | i + 2, hi => simp at hi; omega
theorem fill2 (a b : Fc.StateC) : Instr.fill (fun i => some (i * 10, 10)) ((Array.range (2 * 10)).map ((Value.agg zeroS).cells[· % (Value.agg zeroS).cells.size]!)) [(0, Value.agg (Fc.stateC a)), (1, Value.agg (Fc.stateC b))] = some (row2 a b) := by kernel_rfl
theorem wpList_build2 {ops : Array Oper} {rest : List Oper} {o : Oper} {act : Act} {w : World} {Q : Exit → Act → World → Prop} (x y : Operand) (a b : Fc.StateC) (ho : o.op = .buildSlice 34 2 #[(0, x), (1, y)])
    (h : (Region.wanted o (yielded ops act.tmps) = true ∧ act.eval x = .agg (Fc.stateC a) ∧ act.eval y = .agg (Fc.stateC b)) ∧ wpList Tryz.prog ops Q rest (act.put o.dst (.slice (some ⟨w.heap.size, 0, none⟩) 2 2)) (w.alloc (.cells (row2 a b) 27))) : wpList Tryz.prog ops Q (o :: rest) act w := by
  obtain ⟨⟨h1, h2, h3⟩, h5⟩ := h
  obtain ⟨i, q0, q1, q2, q3⟩ : ∃ i, Tryz.prog.info? 27 = some i ∧ i.zero = some (.agg zeroS) ∧ i.size = 10 ∧ i.bytes = 112 := by
    have h : (Tryz.prog.info? 27).map (fun i => (i.zero, i.size, i.bytes)) = some (some (.agg zeroS), 10, 112) := by kernel_rfl
    cases hh : Tryz.prog.info? 27 with
    | none => rw [hh] at h; cases h
    | some i => rw [hh] at h; simp at h; exact ⟨i, rfl, h⟩
  refine wpList_step fun K hK => ?_
  rw [if_pos h1]
  refine wp_buildSlice 34 27 2 _ ho (row2 a b) i _ Tryz.underlying34 q0 q1 (by omega) (by omega) ?_ (hK _ _ h5)
  have e1 : (#[(0, x), (1, y)] : Array (Nat × Operand)).map (fun (i, x) => (i, act.eval x)) = #[(0, .agg (Fc.stateC a)), (1, .agg (Fc.stateC b))] := by simp [h2, h3]
  rw [e1, q2]
  exact fill2 a b
theorem node_aat {w : World} {g : Nat} {t : TypeId} {x : Fc.NodeC} (h : Has w g t (Fc.nodeC x)) : w.rangeAt g 4 (#[.int .i64 x.p.aat.1, .int .i64 x.p.aat.2] : Array Value).toList := range_of h fun j hj => by
  match j, (show j < 2 from hj) with
  | 0, _ | 1, _ => rfl
theorem node_sat {w : World} {g : Nat} {t : TypeId} {x : Fc.NodeC} (h : Has w g t (Fc.nodeC x)) : w.rangeAt g 8 (#[.int .i64 x.p.sat.1, .int .i64 x.p.sat.2] : Array Value).toList := range_of h fun j hj => by
  match j, (show j < 2 from hj) with
  | 0, _ | 1, _ => rfl
theorem link_id {w : World} {g : Nat} {t : TypeId} {x : Fc.LinkP} (h : Has w g t (Fc.linkC x)) : w.rangeAt g 0 (#[.int .i64 x.id.1, .int .i64 x.id.2] : Array Value).toList := range_of h fun j hj => by
  match j, (show j < 2 from hj) with
  | 0, _ | 1, _ => rfl
theorem link_at {w : World} {g : Nat} {t : TypeId} {x : Fc.LinkP} (h : Has w g t (Fc.linkC x)) : w.rangeAt g 4 (#[.int .i64 x.at_.1, .int .i64 x.at_.2] : Array Value).toList := range_of h fun j hj => by
  match j, (show j < 2 from hj) with
  | 0, _ | 1, _ => rfl
/-- What the document's Node answers: an inode, and whether it is there. -/
theorem rnode_two (s : Fc.StateC) (i : Int × Int) (w : World) (hr : Fc.SRow w 13 Fc.nodeC s.A1 s.n1 s.nodes) (hm : s.n1 ≤ 9223372036854775807) : Calls Tryz.prog 21 #[.agg (Fc.stateC s), .agg #[.int .i64 i.1, .int .i64 i.2]] w fun e w' => (∃ x : Fc.NodeC, e = .returned (.tuple #[.agg (Fc.nodeC x), .bool (firstN s.nodes i).isSome])) ∧ Below w.heap.size w w' := by
  refine (rnode_any s i w hr hm).mono ?_
  rintro e w' ⟨h, hb⟩
  refine ⟨?_, hb⟩
  rcases h with ⟨x, hx, rfl⟩ | ⟨hx, rfl⟩
  · exact ⟨x, by rw [hx]; rfl⟩
  · exact ⟨⟨⟨(0, 0), 0, ⟨#[]⟩, (0, 0), 0, 0, (0, 0), 0, [], []⟩, none, 0, 0, none, 0, 0⟩, by rw [hx]; rfl⟩
theorem rnode_is (s : Fc.StateC) (i : Int × Int) (c : Fc.NodeC) (w : World) (hr : Fc.SRow w 13 Fc.nodeC s.A1 s.n1 s.nodes) (hm : s.n1 ≤ 9223372036854775807) (hc : firstN s.nodes i = some c) : Calls Tryz.prog 21 #[.agg (Fc.stateC s), .agg #[.int .i64 i.1, .int .i64 i.2]] w fun e w' => e = .returned (.tuple #[.agg (Fc.nodeC c), .bool true]) ∧ Below w.heap.size w w' := by
  refine (rnode_any s i w hr hm).mono ?_
  rintro e w' ⟨h, hb⟩
  refine ⟨?_, hb⟩
  rcases h with ⟨x, hx, rfl⟩ | ⟨hx, rfl⟩
  · rw [hc] at hx
    cases hx
    rfl
  · rw [hc] at hx
    cases hx
end Go.Proofs.YtblogecapegbmaaGreat.Jn
