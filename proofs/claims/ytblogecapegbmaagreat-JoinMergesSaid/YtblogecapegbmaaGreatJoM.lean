/- Join: facts.Clone: the same data in rows of its own. -/
import Derived.Test.YtblogecapegbmaaGreatJoA
import Derived.Test.YtblogecapegbmaaGreatJoK
namespace Go.Proofs.YtblogecapegbmaaGreat.Jn
open Go.RowKit Go.Proofs.YtblogecapegbmaaGreat.Mem
set_option linter.unusedVariables false set_option linter.unusedSimpArgs false set_option linter.unusedSectionVars false

theorem flatC_set {α : Type} {C : α → Array Value} {k : Nat} (hk : ∀ x, (C x).size = k) {y : α} {o : Nat} {v : Value} (ho : o < k) : ∀ (xs : List α) (j : Nat) (hj : j < xs.length), C y = (C xs[j]).setIfInBounds o v → flatC C (xs.set j y) = (flatC C xs).set (j * k + o) v
 | x :: r, 0, _, h => by
  have e : (C y).toList = (C x).toList.set o v := by rw [show C y = (C x).setIfInBounds o v from h]; simp
  unfold flatC
  rw [List.set_cons_zero, List.flatMap_cons, List.flatMap_cons, e, Nat.zero_mul, Nat.zero_add, List.set_append_left _ _ (by simp [hk x]; exact ho)]
 | x :: r, j + 1, hj, h => by
  have ih := flatC_set hk ho r j (by simpa using hj) h
  unfold flatC at ih ⊢
  rw [List.set_cons_succ, List.flatMap_cons, List.flatMap_cons, ih]
  have e : (j + 1) * k + o = (C x).toList.length + (j * k + o) := by simp only [Array.length_toList, hk x, Nat.add_mul, Nat.one_mul]; omega
  rw [e, List.set_append_right _ _ (Nat.le_add_right _ _), Nat.add_sub_cancel_left]
theorem take_set {α : Type} : ∀ (l : List α) (n i : Nat) (v : α), (l.set i v).take n = (l.take n).set i v
 | [], n, i, v => by simp
 | x :: r, 0, i, v => by simp
 | x :: r, n + 1, 0, v => by simp
 | x :: r, n + 1, i + 1, v => by simp [take_set r n i v]
/-- All of the block of a row that one owns. -/
theorem OwnK.cur {α : Type} {w : World} {B : Nat} {E : TypeId} {k g n c : Nat} {C : α → Array Value} {xs : List α} (h : OwnK w B E k C (.slice (some ⟨g, 0, none⟩) n c) xs) : ∃ cur, Has w g E cur ∧ xs.length * k ≤ cur.size := by
 rcases h.2 with ⟨e, z⟩ | ⟨g2, cap, cur, e, hB, hw, hn2, hm, hs, ht⟩
 ·cases e
 ·cases e
  exact ⟨cur, hw, by rw [hs]; exact Nat.mul_le_mul_right _ hn2⟩
/-- One cell of one struct of a row stored anew. -/
theorem OwnK.setc {α : Type} {w w' : World} {B : Nat} {E : TypeId} {k g n c : Nat} {C : α → Array Value} {xs : List α} (h : OwnK w B E k C (.slice (some ⟨g, 0, none⟩) n c) xs) (hk : ∀ x, (C x).size = k) {j o : Nat} {v : Value} {y : α} {cur : Array Value} (hj : j < xs.length) (ho : o < k) (hcur : Has w g E cur) (hx : Has w' g E (cur.setIfInBounds (j * k + o) v)) (hy : C y = (C xs[j]).setIfInBounds o v) : OwnK w' B E k C (.slice (some ⟨g, 0, none⟩) n c) (xs.set j y) := by
 rcases h.2 with ⟨e, z⟩ | ⟨g2, cap, cur2, e, hB, hw, hn2, hm, hs, ht⟩
 ·cases e
 ·cases e
  have ec : cur2 = cur := by
   have q : w.heap[g]? = some (.cells cur E) := hcur
   rw [q] at hw
   cases hw
   rfl
  subst ec
  refine ⟨by rw [flatC_len hk], .inr ⟨g, c, _, by rw [List.length_set], hB, hx, by rw [List.length_set]; exact hn2, hm, by simpa using hs, ?_⟩⟩
  rw [List.length_set, flatC_set hk ho xs j hj hy, ← ht]
  simp only [Array.toList_setIfInBounds]
  exact take_set _ _ _ _
/-- What a clone has: rows of its own, or those that were there. -/
structure ClO (s : Fc.StateC) (w : World) (t : Fc.StateC) : Prop where
 nodes : OwnK w 0 46 13 Fc.nodeC (.slice t.A1 t.n1 t.c1) t.nodes
 links : OwnK w 0 51 25 Fc.linkC (.slice t.A2 t.n2 t.c2) t.links
 each : ∀ z ∈ t.nodes, z ∈ s.nodes ∨ NodeOwn 0 w z
theorem ClO.low {s t : Fc.StateC} {w w2 : World} (h : ClO s w t) (hb : Below w.heap.size w w2) : ClO s w2 t := ⟨h.nodes.below hb, h.links.below hb, fun z hz => (h.each z hz).imp id fun q => q.below hb⟩
theorem ClO.past {s t : Fc.StateC} {w w2 : World} {g : Nat} {cs : Array Value} (h : ClO s w t) (hx : Has w g 27 cs) (hc : Chg (· = g) w w2) : ClO s w2 t := ⟨own_has h.nodes hx hc (by decide), own_has h.links hx hc (by decide), fun z hz => (h.each z hz).imp id fun q => q.past hx hc⟩
theorem ClO.isIn {s t : Fc.StateC} {w : World} (h : ClO s w t) (hs : ∀ z ∈ s.nodes, NodeIn w z) : StateIn w t := ⟨(OwnK.rowOk h.nodes (fun _ => rfl)).1, (OwnK.rowOk h.links (fun _ => rfl)).1, fun z hz => (h.each z hz).elim (fun q => hs z q) fun q => q.isIn⟩
/-- What the walk keeps. -/
structure ClI (w wr : World) (s t : Fc.StateC) : Prop where
 below : Below w.heap.size w wr
 hs : Has wr (w.heap.size) 27 (Fc.stateC t)
 hz : Has wr (w.heap.size + 1) 27 zeroS
 nodes : OwnK wr (w.heap.size + 1 + 1) 46 13 Fc.nodeC (.slice t.A1 t.n1 t.c1) t.nodes
 links : OwnK wr (w.heap.size + 1 + 1) 51 25 Fc.linkC (.slice t.A2 t.n2 t.c2) t.links
 each : ∀ z ∈ t.nodes, z ∈ s.nodes ∨ NodeOwn 0 wr z
section
variable {w wr w2 : World} {s t : Fc.StateC}
theorem ClI.low (h : ClI w wr s t) (hb : Below wr.heap.size wr w2) : ClI w w2 s t := ⟨h.below.trans (hb.mono h.below.size), h.hs.below hb, h.hz.below hb, h.nodes.below hb, h.links.below hb, fun z hz => (h.each z hz).imp id fun q => q.below hb⟩
theorem ClI.drew (h : ClI w wr s t) : ClI w wr.drew s t := h.low (Below.refl wr.heap.size wr).drew
theorem ClI.isIn (h : ClI w wr s t) (hin : ∀ V, Below w.heap.size w V → ∀ z ∈ s.nodes, NodeIn V z) : ∀ z ∈ t.nodes, NodeIn wr z := fun z hz => (h.each z hz).elim (fun q => hin wr h.below z q) fun q => q.isIn
end
theorem map_set_same {α β : Type} (f : α → β) : ∀ {l : List α} {j : Nat} {y : α} {h : j < l.length}, f y = f l[j] → (l.set j y).map f = l.map f
 | x :: r, 0, y, _, e => by simp at e; simp [e]
 | x :: r, j + 1, y, h, e => by
  have ih := map_set_same f (l := r) (j := j) (y := y) (h := by simpa using h) (by simpa using e)
  simp [ih]
theorem clone_put {w w4 W5 W6 : World} {s u : Fc.StateC} {g j c3 c4 : Nat} {A3 A4 : Option Addr} {z : Fc.NodeC} {cur : Array Value} (h : ClI w w4 s u) (hA : u.A1 = some ⟨g, 0, none⟩) (hju : j < u.nodes.length) (hzj : u.nodes[j] = z)
  (ho : OwnK w4 0 74 4 Fc.pieceC (.slice A3 z.p.ps.length c3) z.p.ps) (hp : OwnK w4 0 77 5 Fc.xattrC (.slice A4 z.p.xs.length c4) z.p.xs) (hcur : Has w4 g 46 cur)
  (hx5 : Has W5 g 46 (cur.setIfInBounds (j * 13 + 11) (.slice A3 z.p.ps.length c3))) (hc5 : Chg (· = g) w4 W5)
  (hx6 : Has W6 g 46 ((cur.setIfInBounds (j * 13 + 11) (.slice A3 z.p.ps.length c3)).setIfInBounds (j * 13 + 12) (.slice A4 z.p.xs.length c4))) (hc6 : Chg (· = g) W5 W6) (hg : w.heap.size + 1 + 1 ≤ g) : ClI w W6 s { u with nodes := u.nodes.set j { z with A1 := A3, n1 := z.p.ps.length, c1 := c3, A2 := A4, n2 := z.p.xs.length, c2 := c4 } } := by
 have k1 : OwnK w4 (w.heap.size + 1 + 1) 46 13 Fc.nodeC (.slice (some ⟨g, 0, none⟩) u.n1 u.c1) u.nodes := by have q := h.nodes; rw [hA] at q; exact q
 have k2 := k1.setc (fun _ => rfl) hju (o := 11) (y := { z with A1 := A3, n1 := z.p.ps.length, c1 := c3 }) (by omega) hcur hx5 (by rw [hzj]; rfl)
 have hl : j < (u.nodes.set j { z with A1 := A3, n1 := z.p.ps.length, c1 := c3 }).length := by rw [List.length_set]; exact hju
 have k3 := k2.setc (fun _ => rfl) hl (o := 12) (y := { z with A1 := A3, n1 := z.p.ps.length, c1 := c3, A2 := A4, n2 := z.p.xs.length, c2 := c4 }) (by omega) hx5 hx6 (by rw [List.getElem_set_self]; rfl)
 rw [List.set_set] at k3
 have ow : NodeOwn 0 W6 { z with A1 := A3, n1 := z.p.ps.length, c1 := c3, A2 := A4, n2 := z.p.xs.length, c2 := c4 } := ⟨own_has (own_has ho hcur hc5 (by decide)) hx5 hc6 (by decide), own_has (own_has hp hcur hc5 (by decide)) hx5 hc6 (by decide)⟩
 refine ⟨below_step (below_step h.below hc5 (by omega)) hc6 (by omega), (h.hs.over hc5 (by omega)).over hc6 (by omega), (h.hz.over hc5 (by omega)).over hc6 (by omega), ?_, own_has (own_has h.links hcur hc5 (by decide)) hx5 hc6 (by decide), fun y hy => ?_⟩
 ·show OwnK W6 (w.heap.size + 1 + 1) 46 13 Fc.nodeC (.slice u.A1 u.n1 u.c1) (u.nodes.set j { z with A1 := A3, n1 := z.p.ps.length, c1 := c3, A2 := A4, n2 := z.p.xs.length, c2 := c4 })
  rw [hA]
  exact k3
 ·rcases List.mem_or_eq_of_mem_set hy with hy | rfl
  ·exact (h.each y hy).imp id fun q => (q.over hcur hc5).over hx5 hc6
  ·exact .inr ow
set_option maxRecDepth 100000 in
set_option maxHeartbeats 16000000 in
theorem clone_any (s : Fc.StateC) (w : World) (hi : StateIn w s) (h1 : s.n1 ≤ 400000) (h2 : s.n2 ≤ 400000) (hf : ∀ z ∈ s.nodes.map Fc.NodeC.p, z.ps.length ≤ 400000 ∧ z.xs.length ≤ 400000) :
  Calls Tryz.prog 13 #[.agg (Fc.stateC s)] w fun e w' => ∃ t, e = .returned (.agg (Fc.stateC t)) ∧ t.p = s.p ∧ ClO s w' t ∧ Below w.heap.size w w' := by
 have HIN := Lib.hid (show ∀ V, Below w.heap.size w V → ∀ z ∈ s.nodes, NodeIn V z from fun V h z hz => (hi.each z hz).below h)
 have HRN := Lib.hid hi.nodes
 have HRL := Lib.hid hi.links
 have HF := Lib.hid hf
 have H12 := Lib.hid (And.intro h1 h2)
 have hb2 := ((Below.refl w.heap.size w).alloc (Nat.le_refl _) (.cells (Fc.stateC s) 27)).alloc (by simp) (.cells zeroS 27)
 have HB2 := Lib.hid hb2
 have HS2 := Lib.hid ((Has.fresh w 27 (Fc.stateC s)).past (.cells zeroS 27))
 have hz := Has.fresh (w.alloc (.cells (Fc.stateC s) 27)) 27 zeroS
 rw [World.size_alloc] at hz
 have HZ2 := Lib.hid hz
 clear hi hf hb2 hz h1 h2
 go_enter Tryz.func13, Tryz.ntmps13
 go_wp2_with (first | ((with_reducible refine Who.wpList_alloc 27 2 rfl rfl rfl (zeroS) allocS ?_); (try simp only [World.size_alloc])) | fail)
 obtain ⟨w0, hw0⟩ : ∃ w0, w0 = ((w.alloc (.cells (Fc.stateC s) 27)).alloc (.cells zeroS 27)) := ⟨_, rfl⟩
 have HSZ := Lib.hid (show w0.heap.size = w.heap.size + 1 + 1 by rw [hw0]; simp)
 rw [← hw0] at HB2 HS2 HZ2
 rw [← hw0]
 clear hw0
 refine wp_region_G 7 (S := fun V => Has V w.heap.size 27 (Fc.stateC s)) (by kernel_rfl) HS2.out.drew (fun hHeld hCl => ?_)
 refine wpAnyG_read (i := 0) (d := some 5) (v := ?v1) (by rfl) (by rfl) (by kernel_rfl) (by kernel_rfl) (by kernel_rfl) (by kernel_rfl) (by assumption) (fun _ _ _ h => h) (by rfl) ?hy1 (by assumption) (fun hCl hHeld => ?rest1)
 case hy1 =>
  intro w hSw
  go_simp
  try with_reducible rfl
 (try simp only [Act.put, List.setIfInBounds_toArray, List.set_cons_zero, List.set_cons_succ])
 refine wpAnyG_read (i := 1) (d := some 6) (v := .slice s.A1 s.n1 s.c1) (by rfl) (by rfl) (by kernel_rfl) (by kernel_rfl) (by kernel_rfl) (by kernel_rfl) (by assumption) (fun _ _ _ h => h) (by rfl) ?hy2 (by assumption) (fun hCl hHeld => ?rest2)
 case hy2 =>
  intro V hSw
  have c := hSw.at_ 8
  replace c : V.cell? ⟨w.heap.size, 8, none⟩ = some (.slice s.A1 s.n1 s.c1) := c
  go_simp
 (try simp only [Act.put, List.setIfInBounds_toArray, List.set_cons_zero, List.set_cons_succ])
 refine wpAnyG_read (i := 3) (d := some 8) (v := ?v3) (by rfl) (by rfl) (by kernel_rfl) (by kernel_rfl) (by kernel_rfl) (by kernel_rfl) (by assumption) (fun _ _ _ h => h) (by rfl) ?hy3 (by assumption) (fun hCl hHeld => ?rest3)
 case hy3 =>
  intro w hSw
  go_simp
  try with_reducible rfl
 (try simp only [Act.put, List.setIfInBounds_toArray, List.set_cons_zero, List.set_cons_succ])
 refine wpAnyG_read (i := 4) (d := some 9) (v := .slice s.A2 s.n2 s.c2) (by rfl) (by rfl) (by kernel_rfl) (by kernel_rfl) (by kernel_rfl) (by kernel_rfl) (by assumption) (fun _ _ _ h => h) (by rfl) ?hy4 (by assumption) (fun hCl hHeld => ?rest4)
 case hy4 =>
  intro V hSw
  have c := hSw.at_ 9
  replace c : V.cell? ⟨w.heap.size, 9, none⟩ = some (.slice s.A2 s.n2 s.c2) := c
  go_simp
 (try simp only [Act.put, List.setIfInBounds_toArray, List.set_cons_zero, List.set_cons_succ])
 refine wpAnyG_ready (rs := [2]) (by kernel_rfl) (by simp) ?_
 refine AllReadyG.cons rfl (by assumption) (by kernel_rfl) (fun K hK => ?_) AllReadyG.nil
 go_simp
 go_at_call 34
 refine (cloneN_any s.A1 s.n1 s.c1 s.nodes (by have := H12.out.1; omega) _ (HRN.out.below HB2.out.drew)).mono ?_
 rintro e w3 ⟨v3, rfl, ho, hb⟩
 have HO3 := Lib.hid ho
 have HB3 := Lib.hid (HB2.out.drew.trans (hb.mono HB2.out.size))
 have HS3 := Lib.hid (HS2.out.drew.below hb)
 have HZ3 := Lib.hid (HZ2.out.drew.below hb)
 have HG3 := Lib.hid (show w0.heap.size ≤ w3.heap.size from hb.size)
 clear ho hb HS2 HZ2 HB2
 refine hK.out _ _ (fun _ => HS3.out) (fun hHeld hCl => ?_)
 clear hK K
 (try simp only [Act.put, List.setIfInBounds_toArray, List.set_cons_zero, List.set_cons_succ])
 refine wpAnyG_read (i := 6) (d := some 11) (v := ?v5) (by rfl) (by rfl) (by kernel_rfl) (by kernel_rfl) (by kernel_rfl) (by kernel_rfl) (by assumption) (fun _ _ _ h => h) (by rfl) ?hy5 (by assumption) (fun hCl hHeld => ?rest5)
 case hy5 =>
  intro w hSw
  go_simp
  try with_reducible rfl
 (try simp only [Act.put, List.setIfInBounds_toArray, List.set_cons_zero, List.set_cons_succ])
 refine wpAnyG_ready (rs := [5]) (by kernel_rfl) (by simp) ?_
 refine AllReadyG.cons rfl (by assumption) (by kernel_rfl) (fun K hK => ?_) AllReadyG.nil
 go_simp
 go_at_call 35
 refine (cloneL_any s.A2 s.n2 s.c2 s.links (by have := H12.out.2; omega) _ (HRL.out.below HB3.out)).mono ?_
 rintro e w4 ⟨v4, rfl, ho, hb⟩
 have HO4 := Lib.hid (HO3.out.below hb)
 have HP4 := Lib.hid (ho.mono HG3.out)
 have HB4 := Lib.hid (HB3.out.trans (hb.mono HB3.out.size))
 have HS4 := Lib.hid (HS3.out.below hb)
 have HZ4 := Lib.hid (HZ3.out.below hb)
 clear ho hb HS3 HZ3 HB3 HO3 HG3
 obtain ⟨A3, c3, hv3, _⟩ := HO4.out.any
 subst hv3
 obtain ⟨A4, c4, hv4, _⟩ := HP4.out.any
 subst hv4
 refine hK.out _ _ (fun _ => HS4.out) (fun hHeld hCl => ?_)
 clear hK K
 (try simp only [Act.put, List.setIfInBounds_toArray, List.set_cons_zero, List.set_cons_succ])
 refine wpAnyG_ready (rs := [7]) (by kernel_rfl) (by simp) ?_
 refine AllReadyG.cons rfl (by assumption) (by kernel_rfl) (fun K hK => ?_) AllReadyG.nil
 refine stepG_cell (T := 27) 24 (.tmp 11) (.tmp 7) (by rfl) w.heap.size 8 (Fc.stateC s) (Fc.stateC { s with A1 := A3, n1 := s.nodes.length, c1 := c3 }) (.slice A3 s.nodes.length c3) ?_
 refine And.intro ⟨by rfl, by rfl, by rfl, by rfl, info_sn, rfl, of_decide_eq_true rfl, by kernel_rfl, HS4.out⟩ ?_
 intro W5 HX5 HC5
 refine hK.out _ _ (late (by rfl)) (fun hHeld hCl => ?_)
 clear hK K
 (try simp only [Act.put, List.setIfInBounds_toArray, List.set_cons_zero, List.set_cons_succ])
 refine wpAnyG_pure (i := 8) (d := some 12) (v := ?v6) (by rfl) (by rfl) (by kernel_rfl) (by rfl) ?hy6 (by assumption) (by assumption) (fun hCl hHeld => ?rest6)
 case hy6 =>
  go_simp
  try with_reducible rfl
 (try simp only [Act.put, List.setIfInBounds_toArray, List.set_cons_zero, List.set_cons_succ])
 refine wpAnyG_ready (rs := [9]) (by kernel_rfl) (by simp) ?_
 refine AllReadyG.cons rfl (by assumption) (by kernel_rfl) (fun K hK => ?_) AllReadyG.nil
 refine stepG_cell (T := 27) 25 (.tmp 12) (.tmp 10) (by rfl) w.heap.size 9 (Fc.stateC { s with A1 := A3, n1 := s.nodes.length, c1 := c3 }) (Fc.stateC { s with A1 := A3, n1 := s.nodes.length, c1 := c3, A2 := A4, n2 := s.links.length, c2 := c4 }) (.slice A4 s.links.length c4) ?_
 refine And.intro ⟨by rfl, by rfl, by rfl, by rfl, info_sl, rfl, of_decide_eq_true rfl, by kernel_rfl, HX5.out⟩ ?_
 intro W6 HX6 HC6
 refine hK.out _ _ (late (by rfl)) (fun hHeld hCl => ?_)
 clear hK K
 (try simp only [Act.put, List.setIfInBounds_toArray, List.set_cons_zero, List.set_cons_succ])
 refine wpAnyG_done (by kernel_rfl) ?_ _
 obtain ⟨t, ht⟩ : ∃ t : Fc.StateC, t = { s with A1 := A3, n1 := s.nodes.length, c1 := c3, A2 := A4, n2 := s.links.length, c2 := c4 } := ⟨_, rfl⟩
 have H1 := Lib.hid (show ClI w W6 s t from by rw [ht]; exact ⟨below_step (below_step HB4.out HC5.out) HC6.out, HX6.out, (HZ4.out.over HC5.out (by omega)).over HC6.out (by omega), own_has (own_has (HSZ.out ▸ HO4.out) HS4.out HC5.out (by decide)) HX5.out HC6.out (by decide), own_has (own_has (HSZ.out ▸ HP4.out) HS4.out HC5.out (by decide)) HX5.out HC6.out (by decide), fun z hz => .inl hz⟩)
 have HTP := Lib.hid (show t.p = s.p from by rw [ht]; rfl)
 have HTN := Lib.hid (show t.n1 = s.nodes.length ∧ s.nodes.length ≤ 400000 from ⟨by rw [ht], by have e : s.nodes.length = s.n1 := HRN.out.row.len; have := H12.out.1; omega⟩)
 have hn1 : t.n1 ≤ 400000 := by have := HTN.out; omega
 have c8 : W6.cell? ⟨w.heap.size, 8, none⟩ = some (.slice t.A1 t.n1 t.c1) := H1.out.hs.at_ 8
 clear ht HO4 HP4 HB4 HS4 HZ4 HX5 HC5 HX6 HC6 HSZ
 go_wp2
 clear c8
 obtain ⟨A1, hA1⟩ : ∃ A1, A1 = t.A1 := ⟨_, rfl⟩
 obtain ⟨N, hN⟩ : ∃ N, N = t.n1 := ⟨_, rfl⟩
 obtain ⟨c1, hc1⟩ : ∃ c1, c1 = t.c1 := ⟨_, rfl⟩
 rw [← hA1, ← hN, ← hc1]
 rw [← hN] at hn1 HTN
 go_loopw [16] (fun i wr => ∃ j : Nat, i = .int .i64 j ∧ j ≤ N ∧ ∃ u : Fc.StateC, Hid (u.A1 = A1 ∧ u.n1 = N ∧ u.c1 = c1) ∧ Hid (u.p = s.p) ∧ Hid (ClI w wr s u)) (fun i _ => N - (intOf i).toNat)
 case atStart => exact ⟨0, rfl, Nat.zero_le _, t, Lib.hid ⟨hA1.symm, hN.symm, hc1.symm⟩, HTP, H1⟩
 case round =>
  clear H1 HTP hA1 hN hc1
  obtain ⟨j, rfl, hj, u, HE, HP, HI⟩ := hrel
  by_cases hlt : j < N
  ·have hlen : u.nodes.length = N := by have q := own_len HI.out.nodes; have := HE.out.2.1; omega
   have hju : j < u.nodes.length := by omega
   obtain ⟨g, hg, hgl, hgB⟩ : ∃ g, u.A1 = some ⟨g, 0, none⟩ ∧ g < wr.heap.size ∧ w.heap.size + 1 + 1 ≤ g := by
    rcases HI.out.nodes.sl with ⟨e, q⟩ | ⟨g, cap, e, hB, hl, _⟩
    ·rw [q] at hju; cases hju
    ·injection e with e1 e2 e3; exact ⟨g, e1, hl, hB⟩
   obtain ⟨z, hz⟩ : ∃ z, u.nodes[j] = z := ⟨_, rfl⟩
   have HZI := Lib.hid (HI.out.isIn HIN.out z (hz ▸ List.getElem_mem hju))
   have HZF := Lib.hid (show z.p.ps.length ≤ 400000 ∧ z.p.xs.length ≤ 400000 from HF.out z.p (by have e : u.nodes.map Fc.NodeC.p = s.nodes.map Fc.NodeC.p := congrArg Fc.StateP.nodes HP.out; rw [← e]; exact List.mem_map_of_mem (hz ▸ List.getElem_mem hju)))
   have HZL := Lib.hid HZI.out.len
   have mr : wr.rangeAt g (0 + j * 13) (Fc.nodeC z).toList := by
    have q := OwnK.srow2 HI.out.nodes (fun _ => rfl) (own_len HI.out.nodes)
    obtain ⟨b, off, e1, _, hx, m⟩ := q.range (i := j) (by have := HE.out.2.1; omega)
    rw [hg] at e1
    cases e1
    rw [hz] at m
    exact m
   obtain ⟨off, hoff⟩ : ∃ off : Nat, off = 0 := ⟨_, rfl⟩
   rw [← hoff] at mr
   have HOFF := Lib.hid hoff
   have MR := Lib.hid mr
   have HA := Lib.hid hg
   have HGB := Lib.hid (And.intro hgl hgB)
   have HJ := Lib.hid (show ∃ h : j < u.nodes.length, u.nodes[j] = z from ⟨hju, hz⟩)
   have hA : A1 = some ⟨g, off, none⟩ := by rw [hoff, ← hg]; exact HE.out.1.symm
   have HF0 := Lib.hid (Has.fresh wr 46 zeroN)
   have HNB := Lib.hid (show wr.heap.size ≠ g from by omega)
   have HC8 := Lib.hid (show Fc.stateC u = Fc.stateC { u with A1 := some ⟨g, off, none⟩, n1 := N, c1 := c1 } from by rw [hoff, ← hg, ← HE.out.2.1, ← HE.out.2.2])
   have hltj : (j : Int) < (N : Int) := by omega
   rw [hA]
   clear hju hgl hgB hz mr hoff hg hA hlen
   go_wp2_with (first | ((with_reducible refine Who.wpList_loadC 46 (.tmp 19) rfl (g) (off + j * 13) (Fc.nodeC z) ?_); refine And.intro ⟨by rfl, by rfl, ⟨_, Tryz.underlying46, rfl⟩, infoN⟩ (And.intro (MR.out) ?_)) | ((with_reducible refine Who.wpList_alloc 46 4 rfl rfl rfl (zeroN) allocN ?_); (try simp only [World.size_alloc])) | ((with_reducible refine wpList_storeG 46 (.tmp 4) (.tmp 20) rfl (wr.heap.size) (zeroN) (Fc.nodeC z) ?_); refine And.intro ⟨rfl, by rfl, by rfl, infoN, oneN z, rfl, HF0.out⟩ ?_; intro W7 HX7 HC7) | fail)
   have HBW := Lib.hid (below_step ((Below.refl wr.heap.size wr).alloc (Nat.le_refl _) (.cells zeroN 46)) HC7.out (Nat.le_refl _))
   have HI1 := Lib.hid (HI.out.low HBW.out)
   have HY1 := HX7
   have HZ1 := Lib.hid (HZI.out.below HBW.out)
   obtain ⟨gz, hgz⟩ : ∃ gz, gz = wr.heap.size := ⟨_, rfl⟩
   rw [← hgz] at HY1 HNB
   rw [← hgz]
   clear hgz HI HZI HC7 HX7 HF0 HBW
   refine wp_region_G 17 (S := fun V => Has V w.heap.size 27 (Fc.stateC u) ∧ Has V gz 46 (Fc.nodeC z)) (by kernel_rfl) ⟨HI1.out.hs.drew, HY1.out.drew⟩ (fun hHeld hCl => ?_)
   have HSR := Lib.hid (self_row hlt)
   refine wpAnyG_read (i := 0) (d := some 21) (v := ?v7) (by rfl) (by rfl) (by kernel_rfl) (by kernel_rfl) (by kernel_rfl) (by kernel_rfl) (by assumption) (fun _ _ _ h => h) (by rfl) ?hy7 (by assumption) (fun hCl hHeld => ?rest7)
   case hy7 =>
    intro w hSw
    go_simp
    try with_reducible rfl
   (try simp only [Act.put, List.setIfInBounds_toArray, List.set_cons_zero, List.set_cons_succ])
   refine wpAnyG_read (i := 1) (d := some 22) (v := (.slice (some ⟨g, off, none⟩) N c1)) (by rfl) (by rfl) (by kernel_rfl) (by kernel_rfl) (by kernel_rfl) (by kernel_rfl) (by assumption) (fun _ _ _ h => h) (by rfl) ?hy8 (by assumption) (fun hCl hHeld => ?rest8)
   case hy8 =>
    intro V hSw
    have c := hSw.1.at_ 8
    rw [HC8.out] at c
    replace c : V.cell? ⟨w.heap.size, 8, none⟩ = some (.slice (some ⟨g, off, none⟩) N c1) := c
    go_simp
   (try simp only [Act.put, List.setIfInBounds_toArray, List.set_cons_zero, List.set_cons_succ])
   refine wpAnyG_read (i := 2) (d := some 23) (v := ?v9) (by rfl) (by rfl) (by kernel_rfl) (by kernel_rfl) (by kernel_rfl) (by kernel_rfl) (by assumption) (fun _ _ _ h => h) (by rfl) ?hy9 (by assumption) (fun hCl hHeld => ?rest9)
   case hy9 =>
    intro w hSw
    go_simp
    try with_reducible rfl
   (try simp only [Act.put, List.setIfInBounds_toArray, List.set_cons_zero, List.set_cons_succ])
   refine wpAnyG_read (i := 3) (d := some 24) (v := ?v10) (by rfl) (by rfl) (by kernel_rfl) (by kernel_rfl) (by kernel_rfl) (by kernel_rfl) (by assumption) (fun _ _ _ h => h) (by rfl) ?hy10 (by assumption) (fun hCl hHeld => ?rest10)
   case hy10 =>
    intro w hSw
    go_simp
    try with_reducible rfl
   (try simp only [Act.put, List.setIfInBounds_toArray, List.set_cons_zero, List.set_cons_succ])
   refine wpAnyG_read (i := 4) (d := some 25) (v := (.slice (some ⟨g, off, none⟩) N c1)) (by rfl) (by rfl) (by kernel_rfl) (by kernel_rfl) (by kernel_rfl) (by kernel_rfl) (by assumption) (fun _ _ _ h => h) (by rfl) ?hy11 (by assumption) (fun hCl hHeld => ?rest11)
   case hy11 =>
    intro V hSw
    have c := hSw.1.at_ 8
    rw [HC8.out] at c
    replace c : V.cell? ⟨w.heap.size, 8, none⟩ = some (.slice (some ⟨g, off, none⟩) N c1) := c
    go_simp
   (try simp only [Act.put, List.setIfInBounds_toArray, List.set_cons_zero, List.set_cons_succ])
   refine wpAnyG_read (i := 5) (d := some 26) (v := ?v12) (by rfl) (by rfl) (by kernel_rfl) (by kernel_rfl) (by kernel_rfl) (by kernel_rfl) (by assumption) (fun _ _ _ h => h) (by rfl) ?hy12 (by assumption) (fun hCl hHeld => ?rest12)
   case hy12 =>
    intro w hSw
    go_simp
    try with_reducible rfl
   (try simp only [Act.put, List.setIfInBounds_toArray, List.set_cons_zero, List.set_cons_succ])
   refine wpAnyG_read (i := 6) (d := some 27) (v := ?v13) (by rfl) (by rfl) (by kernel_rfl) (by kernel_rfl) (by kernel_rfl) (by kernel_rfl) (by assumption) (fun _ _ _ h => h) (by rfl) ?hy13 (by assumption) (fun hCl hHeld => ?rest13)
   case hy13 =>
    intro w hSw
    go_simp
    try with_reducible rfl
   (try simp only [Act.put, List.setIfInBounds_toArray, List.set_cons_zero, List.set_cons_succ])
   refine wpAnyG_read (i := 7) (d := some 28) (v := .slice z.A1 z.n1 z.c1) (by rfl) (by rfl) (by kernel_rfl) (by kernel_rfl) (by kernel_rfl) (by kernel_rfl) (by assumption) (fun _ _ _ h => h) (by rfl) ?hy14 (by assumption) (fun hCl hHeld => ?rest14)
   case hy14 =>
    intro V hSw
    have c := hSw.2.at_ 11
    replace c : V.cell? ⟨gz, 11, none⟩ = some (.slice z.A1 z.n1 z.c1) := c
    go_simp
   (try simp only [Act.put, List.setIfInBounds_toArray, List.set_cons_zero, List.set_cons_succ])
   refine wpAnyG_read (i := 9) (d := some 30) (v := ?v15) (by rfl) (by rfl) (by kernel_rfl) (by kernel_rfl) (by kernel_rfl) (by kernel_rfl) (by assumption) (fun _ _ _ h => h) (by rfl) ?hy15 (by assumption) (fun hCl hHeld => ?rest15)
   case hy15 =>
    intro w hSw
    go_simp
    try with_reducible rfl
   (try simp only [Act.put, List.setIfInBounds_toArray, List.set_cons_zero, List.set_cons_succ])
   refine wpAnyG_read (i := 10) (d := some 31) (v := .slice z.A2 z.n2 z.c2) (by rfl) (by rfl) (by kernel_rfl) (by kernel_rfl) (by kernel_rfl) (by kernel_rfl) (by assumption) (fun _ _ _ h => h) (by rfl) ?hy16 (by assumption) (fun hCl hHeld => ?rest16)
   case hy16 =>
    intro V hSw
    have c := hSw.2.at_ 12
    replace c : V.cell? ⟨gz, 12, none⟩ = some (.slice z.A2 z.n2 z.c2) := c
    go_simp
   (try simp only [Act.put, List.setIfInBounds_toArray, List.set_cons_zero, List.set_cons_succ])
   refine wpAnyG_ready (rs := [8]) (by kernel_rfl) (by simp) ?_
   refine AllReadyG.cons rfl (by assumption) (by kernel_rfl) (fun K hK => ?_) AllReadyG.nil
   go_simp
   go_at_call 36
   refine (cloneP_any z.A1 z.n1 z.c1 z.p.ps (by have := HZF.out.1; have := HZL.out.1; omega) _ (HZ1.out.ps.below (Below.refl _ _).drew)).mono ?_
   rintro e w3 ⟨v3, rfl, ho, hb⟩
   have HO3 := Lib.hid (ho.mono (Nat.zero_le _))
   have HI3 := Lib.hid (HI1.out.drew.low hb)
   have HY3 := Lib.hid (HY1.out.drew.below hb)
   have HZ3 := Lib.hid ((HZ1.out.below (Below.refl _ _).drew).below hb)
   clear ho hb HI1 HY1 HZ1
   refine hK.out _ _ (fun _ => ⟨HI3.out.hs, HY3.out⟩) (fun hHeld hCl => ?_)
   clear hK K
   (try simp only [Act.put, List.setIfInBounds_toArray, List.set_cons_zero, List.set_cons_succ])
   refine wpAnyG_ready (rs := [11]) (by kernel_rfl) (by simp) ?_
   refine AllReadyG.cons rfl (by assumption) (by kernel_rfl) (fun K hK => ?_) AllReadyG.nil
   go_simp
   go_at_call 37
   refine (cloneX_any z.A2 z.n2 z.c2 z.p.xs (by have := HZF.out.2; have := HZL.out.2; omega) _ HZ3.out.xs).mono ?_
   rintro e w4 ⟨v4, rfl, ho, hb⟩
   have HO4 := Lib.hid (HO3.out.below hb)
   have HP4 := Lib.hid (ho.mono (Nat.zero_le _))
   have HI4 := Lib.hid (HI3.out.low hb)
   have HY4 := Lib.hid (HY3.out.below hb)
   have HZ4 := Lib.hid (HZ3.out.below hb)
   clear ho hb HI3 HY3 HZ3 HO3
   obtain ⟨A3, c3, hv3, _⟩ := HO4.out.any
   subst hv3
   obtain ⟨A4, c4, hv4, _⟩ := HP4.out.any
   subst hv4
   refine hK.out _ _ (fun _ => ⟨HI4.out.hs, HY4.out⟩) (fun hHeld hCl => ?_)
   clear hK K
   (try simp only [Act.put, List.setIfInBounds_toArray, List.set_cons_zero, List.set_cons_succ])
   refine wpAnyG_read (i := 12) (d := some 33) (v := .pointer (some ⟨g, off + j * 13, none⟩)) (by rfl) (by rfl) (by kernel_rfl) (by kernel_rfl) (by kernel_rfl) (by kernel_rfl) (by assumption) (fun _ _ _ h => h) (by rfl) ?hy17 (by assumption) (fun hCl hHeld => ?rest17)
   case hy17 =>
    intro V hSw
    go_simp
    all_goals first | (rw [if_pos HSR.out.1, HSR.out.2]) | (intro hh; exfalso; omega) | (intro hh; exfalso; have hh2 := hh (by omega); omega)
   (try simp only [Act.put, List.setIfInBounds_toArray, List.set_cons_zero, List.set_cons_succ])
   refine wpAnyG_read (i := 13) (d := some 34) (v := ?v18) (by rfl) (by rfl) (by kernel_rfl) (by kernel_rfl) (by kernel_rfl) (by kernel_rfl) (by assumption) (fun _ _ _ h => h) (by rfl) ?hy18 (by assumption) (fun hCl hHeld => ?rest18)
   case hy18 =>
    intro w hSw
    go_simp
    try with_reducible rfl
   (try simp only [Act.put, List.setIfInBounds_toArray, List.set_cons_zero, List.set_cons_succ])
   obtain ⟨cur, hcur, hcs⟩ : ∃ cur, Has w4 g 46 cur ∧ u.nodes.length * 13 ≤ cur.size := OwnK.cur (HA.out ▸ HI4.out.nodes)
   obtain ⟨hju, hzj⟩ := HJ.out
   have HCS := Lib.hid (show j * 13 + 13 ≤ cur.size from by have : (j + 1) * 13 ≤ u.nodes.length * 13 := Nat.mul_le_mul_right 13 hju; omega)
   have HCU := Lib.hid hcur
   clear hcur hcs
   refine wpAnyG_ready (rs := [14]) (by kernel_rfl) (by simp) ?_
   refine AllReadyG.cons rfl (by assumption) (by kernel_rfl) (fun K hK => ?_) AllReadyG.nil
   refine stepG_cell (T := 46) 43 (.tmp 34) (.tmp 29) (by rfl) g (off + j * 13 + 11) (cur) (cur.setIfInBounds (off + j * 13 + 11) (.slice A3 z.p.ps.length c3)) (.slice A3 z.p.ps.length c3) ?_
   refine And.intro ⟨by rfl, by rfl, by rfl, by rfl, info_sp, rfl, (by have := HCS.out; have := HOFF.out; omega), rfl, HCU.out⟩ ?_
   intro W5 HX5 HC5
   have HY5 := Lib.hid (HY4.out.over HC5.out HNB.out)
   have HS5 := Lib.hid (HI4.out.hs.over HC5.out (by have := HGB.out; omega))
   refine hK.out _ _ (fun _ => ⟨HS5.out, HY5.out⟩) (fun hHeld hCl => ?_)
   clear hK K
   (try simp only [Act.put, List.setIfInBounds_toArray, List.set_cons_zero, List.set_cons_succ])
   refine wpAnyG_read (i := 15) (d := some 35) (v := .pointer (some ⟨g, off + j * 13, none⟩)) (by rfl) (by rfl) (by kernel_rfl) (by kernel_rfl) (by kernel_rfl) (by kernel_rfl) (by assumption) (fun _ _ _ h => h) (by rfl) ?hy19 (by assumption) (fun hCl hHeld => ?rest19)
   case hy19 =>
    intro V hSw
    go_simp
    all_goals first | (rw [if_pos HSR.out.1, HSR.out.2]) | (intro hh; exfalso; omega) | (intro hh; exfalso; have hh2 := hh (by omega); omega)
   (try simp only [Act.put, List.setIfInBounds_toArray, List.set_cons_zero, List.set_cons_succ])
   refine wpAnyG_read (i := 16) (d := some 36) (v := ?v20) (by rfl) (by rfl) (by kernel_rfl) (by kernel_rfl) (by kernel_rfl) (by kernel_rfl) (by assumption) (fun _ _ _ h => h) (by rfl) ?hy20 (by assumption) (fun hCl hHeld => ?rest20)
   case hy20 =>
    intro w hSw
    go_simp
    try with_reducible rfl
   (try simp only [Act.put, List.setIfInBounds_toArray, List.set_cons_zero, List.set_cons_succ])
   refine wpAnyG_ready (rs := [17]) (by kernel_rfl) (by simp) ?_
   refine AllReadyG.cons rfl (by assumption) (by kernel_rfl) (fun K hK => ?_) AllReadyG.nil
   refine stepG_cell (T := 46) 44 (.tmp 36) (.tmp 32) (by rfl) g (off + j * 13 + 12) (cur.setIfInBounds (off + j * 13 + 11) (.slice A3 z.p.ps.length c3)) ((cur.setIfInBounds (off + j * 13 + 11) (.slice A3 z.p.ps.length c3)).setIfInBounds (off + j * 13 + 12) (.slice A4 z.p.xs.length c4)) (.slice A4 z.p.xs.length c4) ?_
   refine And.intro ⟨by rfl, by rfl, by rfl, by rfl, info_sx, rfl, (by have := HCS.out; have := HOFF.out; simp; omega), rfl, HX5.out⟩ ?_
   intro W6 HX6 HC6
   refine hK.out _ _ (late (by rfl)) (fun hHeld hCl => ?_)
   clear hK K
   (try simp only [Act.put, List.setIfInBounds_toArray, List.set_cons_zero, List.set_cons_succ])
   refine wpAnyG_done (by kernel_rfl) ?_ _
   have HI6 := Lib.hid (show ClI w W6 s { u with nodes := u.nodes.set j { z with A1 := A3, n1 := z.p.ps.length, c1 := c3, A2 := A4, n2 := z.p.xs.length, c2 := c4 } } from clone_put HI4.out HA.out hju hzj HO4.out HP4.out HCU.out (by have q := HX5.out; rw [HOFF.out, Nat.zero_add] at q; exact q) HC5.out (by have q := HX6.out; rw [HOFF.out, Nat.zero_add] at q; exact q) HC6.out HGB.out.2)
   have HP6 := Lib.hid (show Fc.StateC.p { u with nodes := u.nodes.set j { z with A1 := A3, n1 := z.p.ps.length, c1 := c3, A2 := A4, n2 := z.p.xs.length, c2 := c4 } } = s.p from by rw [← HP.out]; exact congrArg (fun l => (⟨u.seen, l, u.links⟩ : Fc.StateP)) (map_set_same Fc.NodeC.p (by rw [hzj])))
   clear HX5 HC5 HX6 HC6 HCU HI4 HY4 HZ4 HO4 HP4 HY5 HS5 hju hzj
   go_wp2
   go_roundw
   case rel => exact ⟨j + 1, by go_num, by omega, { u with nodes := u.nodes.set j { z with A1 := A3, n1 := z.p.ps.length, c1 := c3, A2 := A4, n2 := z.p.xs.length, c2 := c4 } }, Lib.hid ⟨by rw [HOFF.out]; exact HA.out, HE.out.2⟩, HP6, HI6⟩
   case measure => simp [intOf]; omega
  ·clear hj
   go_wp2_with (first | ((with_reducible refine Who.wpList_loadC 27 (.tmp 1) rfl (w.heap.size) 0 (Fc.stateC u) ?_); refine And.intro ⟨by rfl, by rfl, ⟨_, Tryz.underlying27, rfl⟩, info_state⟩ (And.intro (Who.has_range HI.out.hs) ?_)) | ((with_reducible refine wpList_storeG 27 (.tmp 2) (.tmp 38) rfl ((w.heap.size + 1)) (zeroS) (Fc.stateC u) ?_); refine And.intro ⟨rfl, by rfl, by rfl, info_state, state_one _, rfl, HI.out.hz⟩ ?_; intro W9 HX9 HC9) | fail)
   have HBF := Lib.hid (below_step HI.out.below HC9.out (by omega))
   refine bodyPost_ret (v := .agg (Fc.stateC u)) (Who.results_cell (p := 2) (t := 27) rfl _ _ (w.heap.size + 1) 0 (Fc.stateC u) _ (by rfl) (Who.has_range HX9.out) Tryz.underlying27 rfl info_state) rfl ?_
   exact ⟨u, rfl, HP.out, ⟨own_has (HI.out.nodes.mono (Nat.zero_le _)) HI.out.hz HC9.out (by decide), own_has (HI.out.links.mono (Nat.zero_le _)) HI.out.hz HC9.out (by decide), fun z hz => (HI.out.each z hz).imp id fun q => q.past HI.out.hz HC9.out⟩, HBF.out⟩
end Go.Proofs.YtblogecapegbmaaGreat.Jn
