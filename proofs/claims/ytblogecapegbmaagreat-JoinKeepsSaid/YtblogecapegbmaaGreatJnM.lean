/- Join: two states as one. -/
import Derived.Test.YtblogecapegbmaaGreatJnL
namespace Go.Proofs.YtblogecapegbmaaGreat.Jn
open Go.RowKit Go.Proofs.YtblogecapegbmaaGreat.Mem Go.Sort
open Go.Proofs.YtblogecapegbmaaGreat.Vc (joinV vecC stC)
set_option linter.unusedVariables false set_option linter.unusedSimpArgs false

theorem fill2SN (A B : Option Addr) (n c m d : Nat) : Instr.fill (fun i => some (i * 1, 1)) ((Array.range (2 * 1)).map ((Value.slice none 0 0).cells[· % (Value.slice none 0 0).cells.size]!)) [(0, .slice A n c), (1, .slice B m d)] = some #[.slice A n c, .slice B m d] := by kernel_rfl
theorem step_bSN {α : Type} {ops : Array Oper} {o : Oper} {a : Act} {w : World} {K : Act → World → Prop} {Q : Exit → Act → World → Prop} {EE : Prop} (x y : Operand) (p r : RowP α) (ho : o.op = .buildSlice 107 2 #[(0, x), (1, y)])
  (h : (Region.wanted o (yielded ops a.tmps) = true ∧ a.eval x = .slice p.A p.n p.c ∧ a.eval y = .slice r.A r.n r.c) ∧ ∀ g W', RowsAt W' g [p, r] → Below w.heap.size w W' → K (a.put o.dst (.slice (some ⟨g, 0, none⟩) 2 2)) W') :
  if Region.wanted o (yielded ops a.tmps) = true then Oper.wp Tryz.prog o a w K Q else EE := by
 obtain ⟨⟨h1, h2, h3⟩, h4⟩ := h
 rw [if_pos h1]
 obtain ⟨i, q0, q1, q2⟩ : ∃ i, Tryz.prog.info? 24 = some i ∧ i.zero = some (.slice none 0 0) ∧ i.size = 1 := by
  have h : (Tryz.prog.info? 24).map (fun i => (i.zero, i.size)) = some (some (.slice none 0 0), 1) := by kernel_rfl
  cases hh : Tryz.prog.info? 24 with
  | none => rw [hh] at h; cases h
  | some i => rw [hh] at h; simp at h; exact ⟨i, rfl, h⟩
 have hx := Has.fresh w 24 #[.slice p.A p.n p.c, .slice r.A r.n r.c]
 refine wp_buildSlice 107 24 2 _ ho #[.slice p.A p.n p.c, .slice r.A r.n r.c] i _ Tryz.underlying107 q0 q1 (by rw [q2]; decide) (by rw [q2]; decide) ?_ (h4 _ _ ⟨hx.bound, fun i hi => ?_⟩ ((Below.refl w.heap.size w).alloc (Nat.le_refl _) _))
 ·have e1 : (#[(0, x), (1, y)] : Array (Nat × Operand)).map (fun (i, x) => (i, a.eval x)) = #[(0, .slice p.A p.n p.c), (1, .slice r.A r.n r.c)] := by simp [h2, h3]
  rw [e1, q2]
  exact fill2SN _ _ _ _ _ _
 ·rw [hx.at_ i]
  match i, hi with
  | 0, _ => rfl
  | 1, _ => rfl
theorem fill2SL (A B : Option Addr) (n c m d : Nat) : Instr.fill (fun i => some (i * 1, 1)) ((Array.range (2 * 1)).map ((Value.slice none 0 0).cells[· % (Value.slice none 0 0).cells.size]!)) [(0, .slice A n c), (1, .slice B m d)] = some #[.slice A n c, .slice B m d] := by kernel_rfl
theorem step_bSL {α : Type} {ops : Array Oper} {o : Oper} {a : Act} {w : World} {K : Act → World → Prop} {Q : Exit → Act → World → Prop} {EE : Prop} (x y : Operand) (p r : RowP α) (ho : o.op = .buildSlice 125 2 #[(0, x), (1, y)])
  (h : (Region.wanted o (yielded ops a.tmps) = true ∧ a.eval x = .slice p.A p.n p.c ∧ a.eval y = .slice r.A r.n r.c) ∧ ∀ g W', RowsAt W' g [p, r] → Below w.heap.size w W' → K (a.put o.dst (.slice (some ⟨g, 0, none⟩) 2 2)) W') :
  if Region.wanted o (yielded ops a.tmps) = true then Oper.wp Tryz.prog o a w K Q else EE := by
 obtain ⟨⟨h1, h2, h3⟩, h4⟩ := h
 rw [if_pos h1]
 obtain ⟨i, q0, q1, q2⟩ : ∃ i, Tryz.prog.info? 25 = some i ∧ i.zero = some (.slice none 0 0) ∧ i.size = 1 := by
  have h : (Tryz.prog.info? 25).map (fun i => (i.zero, i.size)) = some (some (.slice none 0 0), 1) := by kernel_rfl
  cases hh : Tryz.prog.info? 25 with
  | none => rw [hh] at h; cases h
  | some i => rw [hh] at h; simp at h; exact ⟨i, rfl, h⟩
 have hx := Has.fresh w 25 #[.slice p.A p.n p.c, .slice r.A r.n r.c]
 refine wp_buildSlice 125 25 2 _ ho #[.slice p.A p.n p.c, .slice r.A r.n r.c] i _ Tryz.underlying125 q0 q1 (by rw [q2]; decide) (by rw [q2]; decide) ?_ (h4 _ _ ⟨hx.bound, fun i hi => ?_⟩ ((Below.refl w.heap.size w).alloc (Nat.le_refl _) _))
 ·have e1 : (#[(0, x), (1, y)] : Array (Nat × Operand)).map (fun (i, x) => (i, a.eval x)) = #[(0, .slice p.A p.n p.c), (1, .slice r.A r.n r.c)] := by simp [h2, h3]
  rw [e1, q2]
  exact fill2SL _ _ _ _ _ _
 ·rw [hx.at_ i]
  match i, hi with
  | 0, _ => rfl
  | 1, _ => rfl

theorem info_state : (Tryz.prog.info? 27).map (·.size) = some 10 := by kernel_rfl
theorem state_one (s : Fc.StateC) : (Fc.stateC s).all (·.oneCell') = true := by simp [Fc.stateC, Value.oneCell']
def zeroS : Array Value := #[.int .i64 0, .int .i64 0, .int .i64 0, .int .i64 0, .int .i64 0, .int .i64 0, .int .i64 0, .int .i64 0, .slice none 0 0, .slice none 0 0]
theorem allocS (w : World) : (Instr.alloc 27 true (.tuple #[])).run Tryz.prog w = .ok (.pointer (some ⟨w.heap.size, 0, none⟩)) (w.alloc (.cells zeroS 27)) := by
 have hz := Tryz.zeroValue27
 go_simp
 rfl
theorem state_seen {w : World} {g : Nat} {t : TypeId} {s : Fc.StateC} (h : Has w g t (Fc.stateC s)) : w.rangeAt g 0 (vecC s.seen).toList := range_of h fun j hj => by
 match j, (show j < 8 from hj) with
 | 0, _ | 1, _ | 2, _ | 3, _ | 4, _ | 5, _ | 6, _ | 7, _ => rfl
def rowN (s : Fc.StateC) : RowP Fc.NodeC := ⟨s.A1, s.n1, s.c1, s.nodes⟩
def rowL (s : Fc.StateC) : RowP Fc.LinkP := ⟨s.A2, s.n2, s.c2, s.links⟩
/-- A state in memory. -/
structure StateIn (w : World) (s : Fc.StateC) : Prop where
 nodes : RowOk w 13 Fc.nodeC (rowN s)
 links : RowOk w 25 Fc.linkC (rowL s)
 each : ∀ z ∈ s.nodes, NodeIn w z
theorem StateIn.below {w w' : World} {s : Fc.StateC} (h : StateIn w s) (hb : Below w.heap.size w w') : StateIn w' s := ⟨h.nodes.below hb, h.links.below hb, fun z hz => (h.each z hz).below hb⟩
structure StateOwn (B : Nat) (w : World) (s : Fc.StateC) : Prop where
 nodes : OwnK w B 46 13 Fc.nodeC (.slice s.A1 s.n1 s.c1) s.nodes
 links : OwnK w B 51 25 Fc.linkC (.slice s.A2 s.n2 s.c2) s.links
 each : ∀ z ∈ s.nodes, NodeOwn B w z
theorem OwnK.rowOk {α : Type} {w : World} {B : Nat} {E : TypeId} {k : Nat} {C : α → Array Value} {A : Option Addr} {n c : Nat} {xs : List α} (h : OwnK w B E k C (.slice A n c) xs) (hk : ∀ x, (C x).size = k) : RowOk w k C ⟨A, n, c, xs⟩ ∧ n = xs.length ∧ n ≤ maxLen := by
 have hr := h.srow hk
 rcases h.sl with ⟨e, rfl⟩ | ⟨g, cap, e, _, _, hl, hm⟩
 ·cases e
  exact ⟨⟨hr, fun _ => ⟨rfl, rfl⟩⟩, rfl, Nat.zero_le _⟩
 ·cases e
  exact ⟨⟨hr, fun q => by cases q⟩, rfl, Nat.le_trans hl hm⟩
theorem StateOwn.in_ {B : Nat} {w : World} {s : Fc.StateC} (h : StateOwn B w s) : StateIn w s :=
 ⟨(h.nodes.rowOk (fun _ => rfl)).1, (h.links.rowOk (fun _ => rfl)).1, fun z hz => ⟨((h.each z hz).ps.rowOk (fun _ => rfl)).1, ((h.each z hz).xs.rowOk (fun _ => rfl)).1⟩⟩
/-- How much a state has. -/
structure LimS (K : Nat) (s : Fc.StateC) : Prop where
 n1 : s.n1 ≤ K
 n2 : s.n2 ≤ K
 ps : (s.nodes.map Fc.NodeC.n1).sum ≤ K
 xs : (s.nodes.map Fc.NodeC.n2).sum ≤ K
def mkS (a b : Fc.StateC) (A1 : Option Addr) (ys : List Fc.NodeC) (c1 : Nat) (A2 : Option Addr) (zs : List Fc.LinkP) (c2 : Nat) : Fc.StateC := ⟨joinV a.seen b.seen, A1, ys.length, c1, A2, zs.length, c2, ys, zs⟩
theorem mkS_p {a b : Fc.StateC} {A1 A2 : Option Addr} {ys : List Fc.NodeC} {zs : List Fc.LinkP} {c1 c2 : Nat} (hn : ys.map Fc.NodeC.p = mrgN (a.nodes.map Fc.NodeC.p ++ b.nodes.map Fc.NodeC.p)) (hl : zs = mrgL (a.links ++ b.links)) : (mkS a b A1 ys c1 A2 zs c2).p = joinP a.p b.p := by
 show (⟨joinV a.seen b.seen, ys.map Fc.NodeC.p, zs⟩ : Fc.StateP) = _
 rw [hn, hl]
 rfl
theorem build_state (w : World) (x : Nat → Int) (A1 A2 : Option Addr) (n1 c1 n2 c2 : Nat) : (Instr.build 27 #[(0, .agg (vecC x)), (1, .slice A1 n1 c1), (2, .slice A2 n2 c2)]).run Tryz.prog w = .ok (.agg (#[.int .i64 (x 0), .int .i64 (x 1), .int .i64 (x 2), .int .i64 (x 3), .int .i64 (x 4), .int .i64 (x 5), .int .i64 (x 6), .int .i64 (x 7), .slice A1 n1 c1, .slice A2 n2 c2])) w := run_build w _ _ _ (by kernel_rfl)
set_option maxRecDepth 100000 in
set_option maxHeartbeats 8000000 in
theorem states_any (a b : Fc.StateC) (w : World) (ha : StateIn w a) (hb : StateIn w b) {K : Nat} (la : LimS K a) (lb : LimS K b) (hK : K ≤ 250000) :
  Calls Tryz.prog 14 #[.agg (Fc.stateC a), .agg (Fc.stateC b)] w fun e w' => ∃ s, e = .returned (.agg (Fc.stateC s)) ∧ s.p = joinP a.p b.p ∧ StateOwn w.heap.size w' s ∧ Below w.heap.size w w' := by
 have hb2 := (Below.refl w.heap.size w).alloc (Nat.le_refl _) (.cells (Fc.stateC a) 27)
 have hb3 := hb2.alloc (by simp) (.cells (Fc.stateC b) 27)
 have hb4 := hb3.alloc (by simp; omega) (.cells zeroS 27)
 have HJ := Lib.hid (fun W => Vc.join_any a.seen b.seen W)
 have HMN0 := Lib.hid (show ∀ W g, Below w.heap.size w W → RowsAt W g [rowN a, rowN b] → Calls Tryz.prog 39 #[.func (.func 40) #[] #[], .func (.func 41) #[] #[], .slice (some ⟨g, 0, none⟩) 2 2] W fun e W' => ∃ v ys, e = .returned v ∧ OwnK W' W.heap.size 46 13 Fc.nodeC v ys ∧ ys.map Fc.NodeC.p = mrgN (a.nodes.map Fc.NodeC.p ++ b.nodes.map Fc.NodeC.p) ∧ (∀ y ∈ ys, NodeOwn w.heap.size W' y) ∧ Below W.heap.size W W' from fun W g hW hr => by
  have h1 : allR [rowN a, rowN b] = a.nodes ++ b.nodes := by simp [allR, rowN]
  have hsum : sumR [rowN a, rowN b] ≤ 500000 := by
   have := la.n1; have := lb.n1
   simp [sumR, rowN]; omega
  have hl : (allR [rowN a, rowN b]).length ≤ 500000 := by
   have e1 := ha.nodes.row.len
   have e2 := hb.nodes.row.len
   have := la.n1; have := lb.n1
   rw [h1, List.length_append]
   simp only [rowN] at e1 e2
   omega
  have hm := mergeN_any g 2 [rowN a, rowN b] (by show 2 ≤ 500000; decide) hsum W hr (fun p hp => by
   rcases List.mem_cons.1 hp with rfl | hp
   ·exact ha.nodes.below hW
   ·rw [List.mem_singleton.1 hp]; exact hb.nodes.below hW) (NodeOwn W.heap.size) (keepsN _) (oneN_is W _ (fun z hz => by
    rw [h1] at hz
    rcases List.mem_append.1 hz with hz | hz
    ·exact (ha.each z hz).below hW
    ·exact (hb.each z hz).below hW) (by rw [h1, List.map_append, List.sum_append_nat]; have := la.ps; have := lb.ps; omega) (by rw [h1, List.map_append, List.sum_append_nat]; have := la.xs; have := lb.xs; omega) hl)
  refine hm.mono ?_
  rintro e W' ⟨v, ys, rfl, ho, hm2, hq, hb5⟩
  refine ⟨v, ys, rfl, ho, ?_, fun y hy => ⟨(hq y hy).ps.mono hW.size, (hq y hy).xs.mono hW.size⟩, hb5⟩
  rw [h1, List.map_append] at hm2
  exact hm2)
 have HML0 := Lib.hid (show ∀ W g, Below w.heap.size w W → RowsAt W g [rowL a, rowL b] → Calls Tryz.prog 42 #[.func (.func 43) #[] #[], .func (.func 44) #[] #[], .slice (some ⟨g, 0, none⟩) 2 2] W fun e W' => ∃ v zs, e = .returned v ∧ OwnK W' W.heap.size 51 25 Fc.linkC v zs ∧ zs = mrgL (a.links ++ b.links) ∧ Below W.heap.size W W' from fun W g hW hr => by
  have h1 : allR [rowL a, rowL b] = a.links ++ b.links := by simp [allR, rowL]
  have hsum : sumR [rowL a, rowL b] ≤ 500000 := by
   have := la.n2; have := lb.n2
   simp [sumR, rowL]; omega
  have hm := mergeL_any g 2 [rowL a, rowL b] (by show 2 ≤ 500000; decide) hsum W hr (fun p hp => by
   rcases List.mem_cons.1 hp with rfl | hp
   ·exact ha.links.below hW
   ·rw [List.mem_singleton.1 hp]; exact hb.links.below hW) (fun _ _ => True) (keepsT _ _ _ _) (oneL_is W _)
  refine hm.mono ?_
  rintro e W' ⟨v, zs, rfl, ho, hm2, _, hb5⟩
  refine ⟨v, zs, rfl, ho, ?_, hb5⟩
  rw [h1] at hm2
  simp only [List.map_id'] at hm2
  exact hm2)
 obtain ⟨g2, hg2⟩ : ∃ g2, g2 = w.heap.size := ⟨_, rfl⟩
 obtain ⟨g3, hg3⟩ : ∃ g3, g3 = w.heap.size + 1 := ⟨_, rfl⟩
 obtain ⟨g4, hg4⟩ : ∃ g4, g4 = w.heap.size + 1 + 1 := ⟨_, rfl⟩
 have HG4 := Lib.hid (show w.heap.size ≤ g4 by omega)
 have HB0 := Lib.hid hb4
 have HX2 := Lib.hid (show Has (((w.alloc (.cells (Fc.stateC a) 27)).alloc (.cells (Fc.stateC b) 27)).alloc (.cells zeroS 27)) g2 27 (Fc.stateC a) by rw [hg2]; exact ((Has.fresh w 27 (Fc.stateC a)).past _).past _)
 have HX3 := Lib.hid (show Has (((w.alloc (.cells (Fc.stateC a) 27)).alloc (.cells (Fc.stateC b) 27)).alloc (.cells zeroS 27)) g3 27 (Fc.stateC b) by
  have q := (Has.fresh (w.alloc (.cells (Fc.stateC a) 27)) 27 (Fc.stateC b)).past (.cells zeroS 27)
  rw [World.size_alloc] at q
  rw [hg3]; exact q)
 have HX4 := Lib.hid (show Has (((w.alloc (.cells (Fc.stateC a) 27)).alloc (.cells (Fc.stateC b) 27)).alloc (.cells zeroS 27)) g4 27 zeroS by
  have q := Has.fresh ((w.alloc (.cells (Fc.stateC a) 27)).alloc (.cells (Fc.stateC b) 27)) 27 zeroS
  rw [World.size_alloc, World.size_alloc] at q
  rw [hg4]; exact q)
 have H2 := Lib.hid hg2
 have H3 := Lib.hid hg3
 have H4 := Lib.hid hg4
 clear hb2 hb3 hb4 hg2 hg3 hg4 ha hb la lb
 go_enter Tryz.func14, Tryz.ntmps14
 go_wp2_with (first | ((with_reducible refine Who.wpList_alloc 27 4 rfl rfl rfl (zeroS) allocS ?_); (try simp only [Act.put, List.setIfInBounds_toArray, List.set_cons_zero, List.set_cons_succ]); (try simp only [World.size_alloc])) | fail)
 rw [← H4.out, ← H3.out, ← H2.out]
 refine wp_region_G 18 (S := fun V => Has V g2 27 (Fc.stateC a) ∧ Has V g3 27 (Fc.stateC b)) (by kernel_rfl) ⟨HX2.out.drew, HX3.out.drew⟩ (fun hHeld hCl => ?_)
 have HI0 := Lib.hid HB0.out.drew
 have HX_0 := Lib.hid HX2.out.drew
 have HY_0 := Lib.hid HX3.out.drew
 have HZ_0 := Lib.hid HX4.out.drew
 refine wpAnyG_read (i := 0) (d := some 5) (v := ?v1) (by rfl) (by rfl) (by kernel_rfl) (by kernel_rfl) (by kernel_rfl) (by kernel_rfl) (by assumption) (fun _ _ _ h => h) (by rfl) ?hy1 (by assumption) (fun hCl hHeld => ?rest1)
 case hy1 =>
  intro w hSw
  go_simp
  try with_reducible rfl
 (try simp only [Act.put, List.setIfInBounds_toArray, List.set_cons_zero, List.set_cons_succ])
 refine wpAnyG_read (i := 1) (d := some 6) (v := .agg (vecC a.seen)) (by rfl) (by rfl) (by kernel_rfl) (by kernel_rfl) (by kernel_rfl) (by kernel_rfl) (by assumption) (fun _ _ _ h => h) (by rfl) ?hy2 (by assumption) (fun hCl hHeld => ?rest2)
 case hy2 =>
  intro w hSw
  exact Who.exec_loadA _ rfl rfl (state_seen hSw.1) Tryz.underlying23 rfl info_vec
 (try simp only [Act.put, List.setIfInBounds_toArray, List.set_cons_zero, List.set_cons_succ])
 refine wpAnyG_read (i := 2) (d := some 7) (v := ?v3) (by rfl) (by rfl) (by kernel_rfl) (by kernel_rfl) (by kernel_rfl) (by kernel_rfl) (by assumption) (fun _ _ _ h => h) (by rfl) ?hy3 (by assumption) (fun hCl hHeld => ?rest3)
 case hy3 =>
  intro w hSw
  go_simp
  try with_reducible rfl
 (try simp only [Act.put, List.setIfInBounds_toArray, List.set_cons_zero, List.set_cons_succ])
 refine wpAnyG_read (i := 3) (d := some 8) (v := .agg (vecC b.seen)) (by rfl) (by rfl) (by kernel_rfl) (by kernel_rfl) (by kernel_rfl) (by kernel_rfl) (by assumption) (fun _ _ _ h => h) (by rfl) ?hy4 (by assumption) (fun hCl hHeld => ?rest4)
 case hy4 =>
  intro w hSw
  exact Who.exec_loadA _ rfl rfl (state_seen hSw.2) Tryz.underlying23 rfl info_vec
 (try simp only [Act.put, List.setIfInBounds_toArray, List.set_cons_zero, List.set_cons_succ])
 refine wpAnyG_read (i := 5) (d := some 10) (v := ?v5) (by rfl) (by rfl) (by kernel_rfl) (by kernel_rfl) (by kernel_rfl) (by kernel_rfl) (by assumption) (fun _ _ _ h => h) (by rfl) ?hy5 (by assumption) (fun hCl hHeld => ?rest5)
 case hy5 =>
  intro w hSw
  go_simp
  try with_reducible rfl
 (try simp only [Act.put, List.setIfInBounds_toArray, List.set_cons_zero, List.set_cons_succ])
 refine wpAnyG_read (i := 6) (d := some 11) (v := .slice a.A1 a.n1 a.c1) (by rfl) (by rfl) (by kernel_rfl) (by kernel_rfl) (by kernel_rfl) (by kernel_rfl) (by assumption) (fun _ _ _ h => h) (by rfl) ?hy6 (by assumption) (fun hCl hHeld => ?rest6)
 case hy6 =>
  intro w hSw
  have c := hSw.1.at_ 8
  replace c : w.cell? ⟨g2, 8, none⟩ = some (.slice a.A1 a.n1 a.c1) := c
  go_simp
 (try simp only [Act.put, List.setIfInBounds_toArray, List.set_cons_zero, List.set_cons_succ])
 refine wpAnyG_read (i := 7) (d := some 12) (v := ?v7) (by rfl) (by rfl) (by kernel_rfl) (by kernel_rfl) (by kernel_rfl) (by kernel_rfl) (by assumption) (fun _ _ _ h => h) (by rfl) ?hy7 (by assumption) (fun hCl hHeld => ?rest7)
 case hy7 =>
  intro w hSw
  go_simp
  try with_reducible rfl
 (try simp only [Act.put, List.setIfInBounds_toArray, List.set_cons_zero, List.set_cons_succ])
 refine wpAnyG_read (i := 8) (d := some 13) (v := .slice b.A1 b.n1 b.c1) (by rfl) (by rfl) (by kernel_rfl) (by kernel_rfl) (by kernel_rfl) (by kernel_rfl) (by assumption) (fun _ _ _ h => h) (by rfl) ?hy8 (by assumption) (fun hCl hHeld => ?rest8)
 case hy8 =>
  intro w hSw
  have c := hSw.2.at_ 8
  replace c : w.cell? ⟨g3, 8, none⟩ = some (.slice b.A1 b.n1 b.c1) := c
  go_simp
 (try simp only [Act.put, List.setIfInBounds_toArray, List.set_cons_zero, List.set_cons_succ])
 refine wpAnyG_read (i := 11) (d := some 16) (v := ?v9) (by rfl) (by rfl) (by kernel_rfl) (by kernel_rfl) (by kernel_rfl) (by kernel_rfl) (by assumption) (fun _ _ _ h => h) (by rfl) ?hy9 (by assumption) (fun hCl hHeld => ?rest9)
 case hy9 =>
  intro w hSw
  go_simp
  try with_reducible rfl
 (try simp only [Act.put, List.setIfInBounds_toArray, List.set_cons_zero, List.set_cons_succ])
 refine wpAnyG_read (i := 12) (d := some 17) (v := .slice a.A2 a.n2 a.c2) (by rfl) (by rfl) (by kernel_rfl) (by kernel_rfl) (by kernel_rfl) (by kernel_rfl) (by assumption) (fun _ _ _ h => h) (by rfl) ?hy10 (by assumption) (fun hCl hHeld => ?rest10)
 case hy10 =>
  intro w hSw
  have c := hSw.1.at_ 9
  replace c : w.cell? ⟨g2, 9, none⟩ = some (.slice a.A2 a.n2 a.c2) := c
  go_simp
 (try simp only [Act.put, List.setIfInBounds_toArray, List.set_cons_zero, List.set_cons_succ])
 refine wpAnyG_read (i := 13) (d := some 18) (v := ?v11) (by rfl) (by rfl) (by kernel_rfl) (by kernel_rfl) (by kernel_rfl) (by kernel_rfl) (by assumption) (fun _ _ _ h => h) (by rfl) ?hy11 (by assumption) (fun hCl hHeld => ?rest11)
 case hy11 =>
  intro w hSw
  go_simp
  try with_reducible rfl
 (try simp only [Act.put, List.setIfInBounds_toArray, List.set_cons_zero, List.set_cons_succ])
 refine wpAnyG_read (i := 14) (d := some 19) (v := .slice b.A2 b.n2 b.c2) (by rfl) (by rfl) (by kernel_rfl) (by kernel_rfl) (by kernel_rfl) (by kernel_rfl) (by assumption) (fun _ _ _ h => h) (by rfl) ?hy12 (by assumption) (fun hCl hHeld => ?rest12)
 case hy12 =>
  intro w hSw
  have c := hSw.2.at_ 9
  replace c : w.cell? ⟨g3, 9, none⟩ = some (.slice b.A2 b.n2 b.c2) := c
  go_simp
 (try simp only [Act.put, List.setIfInBounds_toArray, List.set_cons_zero, List.set_cons_succ])
 refine wpAnyG_ready (rs := [4, 9, 15]) (by kernel_rfl) (by simp) ?_
 refine AllReadyG.cons rfl (by assumption) (by kernel_rfl) (fun K hK => ?_) (AllReadyG.cons rfl (by assumption) (by kernel_rfl) (fun K hK => ?_) (AllReadyG.cons rfl (by assumption) (by kernel_rfl) (fun K hK => ?_) AllReadyG.nil))
 ·go_simp
  go_at_call 38
  refine (HJ.out _).mono ?_
  rintro e W1 ⟨rfl, hb⟩
  have HI1 := Lib.hid (HI0.out.trans (hb.mono HI0.out.size))
  have HX_1 := Lib.hid (HX_0.out.below hb)
  have HY_1 := Lib.hid (HY_0.out.below hb)
  have HZ_1 := Lib.hid (HZ_0.out.below hb)
  clear hb
  refine hK.out _ _ (fun _ => ⟨HX_1.out, HY_1.out⟩) (fun hHeld hCl => ?_)
  clear hK K
  (try simp only [Act.put, List.setIfInBounds_toArray, List.set_cons_zero, List.set_cons_succ])
  refine wpAnyG_ready (rs := [9, 15]) (by kernel_rfl) (by simp) ?_
  refine AllReadyG.cons rfl (by assumption) (by kernel_rfl) (fun K hK => ?_) (AllReadyG.cons rfl (by assumption) (by kernel_rfl) (fun K hK => ?_) AllReadyG.nil)
  ·refine step_bSN (.tmp 11) (.tmp 13) (rowN a) (rowN b) (by rfl) ?_
   refine And.intro ⟨by rfl, by rfl, by rfl⟩ ?_
   intro rN2 W2 hx hb
   have HI2 := Lib.hid (HI1.out.trans (hb.mono HI1.out.size))
   have HX_2 := Lib.hid (HX_1.out.below hb)
   have HY_2 := Lib.hid (HY_1.out.below hb)
   have HZ_2 := Lib.hid (HZ_1.out.below hb)
   have HRN_2 := Lib.hid hx
   clear hx
   clear hb
   refine hK.out _ _ (fun _ => ⟨HX_2.out, HY_2.out⟩) (fun hHeld hCl => ?_)
   clear hK K
   (try simp only [Act.put, List.setIfInBounds_toArray, List.set_cons_zero, List.set_cons_succ])
   refine wpAnyG_ready (rs := [10, 15]) (by kernel_rfl) (by simp) ?_
   refine AllReadyG.cons rfl (by assumption) (by kernel_rfl) (fun K hK => ?_) (AllReadyG.cons rfl (by assumption) (by kernel_rfl) (fun K hK => ?_) AllReadyG.nil)
   ·go_simp
    go_at_call 39
    refine (HMN0.out _ _ HI2.out HRN_2.out).mono ?_
    rintro e W3 ⟨v, ys, rfl, ho, hm, hq, hb⟩
    have HI3 := Lib.hid (HI2.out.trans (hb.mono HI2.out.size))
    have HX_3 := Lib.hid (HX_2.out.below hb)
    have HY_3 := Lib.hid (HY_2.out.below hb)
    have HZ_3 := Lib.hid (HZ_2.out.below hb)
    have HON_3 := Lib.hid (ho.mono HI2.out.size)
    have HQN_3 := Lib.hid (show ∀ y ∈ ys, NodeOwn w.heap.size W3 y from hq)
    have HMN := Lib.hid hm
    obtain ⟨A1, c1, rfl, _⟩ := HON_3.out.any
    clear ho hm hq
    clear hb
    refine hK.out _ _ (fun _ => ⟨HX_3.out, HY_3.out⟩) (fun hHeld hCl => ?_)
    clear hK K
    (try simp only [Act.put, List.setIfInBounds_toArray, List.set_cons_zero, List.set_cons_succ])
    refine wpAnyG_ready (rs := [15]) (by kernel_rfl) (by simp) ?_
    refine AllReadyG.cons rfl (by assumption) (by kernel_rfl) (fun K hK => ?_) AllReadyG.nil
    refine step_bSL (.tmp 17) (.tmp 19) (rowL a) (rowL b) (by rfl) ?_
    refine And.intro ⟨by rfl, by rfl, by rfl⟩ ?_
    intro rL4 W4 hx hb
    have HI4 := Lib.hid (HI3.out.trans (hb.mono HI3.out.size))
    have HX_4 := Lib.hid (HX_3.out.below hb)
    have HY_4 := Lib.hid (HY_3.out.below hb)
    have HZ_4 := Lib.hid (HZ_3.out.below hb)
    have HON_3_4 := Lib.hid (HON_3.out.below hb)
    have HQN_3_4 := Lib.hid (show ∀ y ∈ ys, NodeOwn w.heap.size _ y from fun y hy => (HQN_3.out y hy).below hb)
    have HRL_4 := Lib.hid hx
    clear hx
    clear hb
    refine hK.out _ _ (fun _ => ⟨HX_4.out, HY_4.out⟩) (fun hHeld hCl => ?_)
    clear hK K
    (try simp only [Act.put, List.setIfInBounds_toArray, List.set_cons_zero, List.set_cons_succ])
    refine wpAnyG_ready (rs := [16]) (by kernel_rfl) (by simp) ?_
    refine AllReadyG.cons rfl (by assumption) (by kernel_rfl) (fun K hK => ?_) AllReadyG.nil
    go_simp
    go_at_call 42
    refine (HML0.out _ _ HI4.out HRL_4.out).mono ?_
    rintro e W5 ⟨v, zs, rfl, ho, hm, hb⟩
    have HI5 := Lib.hid (HI4.out.trans (hb.mono HI4.out.size))
    have HX_5 := Lib.hid (HX_4.out.below hb)
    have HY_5 := Lib.hid (HY_4.out.below hb)
    have HZ_5 := Lib.hid (HZ_4.out.below hb)
    have HON_3_4_5 := Lib.hid (HON_3_4.out.below hb)
    have HQN_3_4_5 := Lib.hid (show ∀ y ∈ ys, NodeOwn w.heap.size W5 y from fun y hy => (HQN_3_4.out y hy).below hb)
    have HOL_5 := Lib.hid (ho.mono HI4.out.size)
    have HML := Lib.hid hm
    obtain ⟨A2, c2, rfl, _⟩ := HOL_5.out.any
    clear ho hm
    clear hb
    refine hK.out _ _ (fun _ => ⟨HX_5.out, HY_5.out⟩) (fun hHeld hCl => ?_)
    clear hK K
    (try simp only [Act.put, List.setIfInBounds_toArray, List.set_cons_zero, List.set_cons_succ])
    refine wpAnyG_read (i := 17) (d := some 22) (v := .agg (Fc.stateC (mkS a b A1 ys c1 A2 zs c2))) (by rfl) (by rfl) (by kernel_rfl) (by kernel_rfl) (by kernel_rfl) (by kernel_rfl) (by assumption) (fun _ _ _ h => h) (by rfl) ?hy13 (by assumption) (fun hCl hHeld => ?rest13)
    case hy13 =>
     intro w hSw
     have hb := build_state w (joinV a.seen b.seen) A1 A2 ys.length c1 zs.length c2
     simp [execOp, hb, Result.andThen, Act.eval]
     rfl
    (try simp only [Act.put, List.setIfInBounds_toArray, List.set_cons_zero, List.set_cons_succ])
    refine wpAnyG_ready (rs := [18]) (by kernel_rfl) (by simp) ?_
    refine AllReadyG.cons rfl (by assumption) (by kernel_rfl) (fun K hK => ?_) AllReadyG.nil
    refine stepG_store (T := 27) 27 (.tmp 4) (.tmp 22) (by rfl) g4 0 zeroS (Fc.stateC (mkS a b A1 ys c1 A2 zs c2)) (Fc.stateC (mkS a b A1 ys c1 A2 zs c2)) ?_
    refine And.intro ⟨by rfl, by rfl, by rfl, by rfl, info_state, state_one _, of_decide_eq_true rfl, by kernel_rfl, HZ_5.out⟩ ?_
    intro W9 HX9 HC9
    refine hK.out _ _ (late (by rfl)) (fun hHeld hCl => ?_)
    clear hK K
    (try simp only [Act.put, List.setIfInBounds_toArray, List.set_cons_zero, List.set_cons_succ])
    refine wpAnyG_done (by kernel_rfl) ?_ _
    have HBF := Lib.hid (below_step HI5.out HC9.out HG4.out)
    have HO1 := Lib.hid (own_has HON_3_4_5.out HZ_5.out HC9.out (by decide))
    have HO2 := Lib.hid (own_has HOL_5.out HZ_5.out HC9.out (by decide))
    have HO3 := Lib.hid (show ∀ y ∈ ys, NodeOwn w.heap.size W9 y from fun y hy => ⟨own_has (HQN_3_4_5.out y hy).ps HZ_5.out HC9.out (by decide), own_has (HQN_3_4_5.out y hy).xs HZ_5.out HC9.out (by decide)⟩)
    go_wp2
    refine bodyPost_ret (v := .agg (Fc.stateC (mkS a b A1 ys c1 A2 zs c2))) (Who.results_cell (p := 4) (t := 27) rfl _ _ g4 0 (Fc.stateC (mkS a b A1 ys c1 A2 zs c2)) _ (by rfl) (Who.has_range HX9.out) Tryz.underlying27 rfl info_state) rfl ?_
    exact ⟨_, rfl, mkS_p HMN.out HML.out, ⟨HO1.out, HO2.out, HO3.out⟩, HBF.out⟩
   ·refine step_bSL (.tmp 17) (.tmp 19) (rowL a) (rowL b) (by rfl) ?_
    refine And.intro ⟨by rfl, by rfl, by rfl⟩ ?_
    intro rL6 W6 hx hb
    have HI6 := Lib.hid (HI2.out.trans (hb.mono HI2.out.size))
    have HX_6 := Lib.hid (HX_2.out.below hb)
    have HY_6 := Lib.hid (HY_2.out.below hb)
    have HZ_6 := Lib.hid (HZ_2.out.below hb)
    have HRN_2_6 := Lib.hid (HRN_2.out.below hb HRN_2.out.1)
    have HRL_6 := Lib.hid hx
    clear hx
    clear hb
    refine hK.out _ _ (fun _ => ⟨HX_6.out, HY_6.out⟩) (fun hHeld hCl => ?_)
    clear hK K
    (try simp only [Act.put, List.setIfInBounds_toArray, List.set_cons_zero, List.set_cons_succ])
    refine wpAnyG_ready (rs := [10]) (by kernel_rfl) (by simp) ?_
    refine AllReadyG.cons rfl (by assumption) (by kernel_rfl) (fun K hK => ?_) AllReadyG.nil
    go_simp
    go_at_call 39
    refine (HMN0.out _ _ HI6.out HRN_2_6.out).mono ?_
    rintro e W7 ⟨v, ys, rfl, ho, hm, hq, hb⟩
    have HI7 := Lib.hid (HI6.out.trans (hb.mono HI6.out.size))
    have HX_7 := Lib.hid (HX_6.out.below hb)
    have HY_7 := Lib.hid (HY_6.out.below hb)
    have HZ_7 := Lib.hid (HZ_6.out.below hb)
    have HRL_6_7 := Lib.hid (HRL_6.out.below hb HRL_6.out.1)
    have HON_7 := Lib.hid (ho.mono HI6.out.size)
    have HQN_7 := Lib.hid (show ∀ y ∈ ys, NodeOwn w.heap.size W7 y from hq)
    have HMN := Lib.hid hm
    obtain ⟨A1, c1, rfl, _⟩ := HON_7.out.any
    clear ho hm hq
    clear hb
    refine hK.out _ _ (fun _ => ⟨HX_7.out, HY_7.out⟩) (fun hHeld hCl => ?_)
    clear hK K
    (try simp only [Act.put, List.setIfInBounds_toArray, List.set_cons_zero, List.set_cons_succ])
    refine wpAnyG_ready (rs := [16]) (by kernel_rfl) (by simp) ?_
    refine AllReadyG.cons rfl (by assumption) (by kernel_rfl) (fun K hK => ?_) AllReadyG.nil
    go_simp
    go_at_call 42
    refine (HML0.out _ _ HI7.out HRL_6_7.out).mono ?_
    rintro e W8 ⟨v, zs, rfl, ho, hm, hb⟩
    have HI8 := Lib.hid (HI7.out.trans (hb.mono HI7.out.size))
    have HX_8 := Lib.hid (HX_7.out.below hb)
    have HY_8 := Lib.hid (HY_7.out.below hb)
    have HZ_8 := Lib.hid (HZ_7.out.below hb)
    have HON_7_8 := Lib.hid (HON_7.out.below hb)
    have HQN_7_8 := Lib.hid (show ∀ y ∈ ys, NodeOwn w.heap.size W8 y from fun y hy => (HQN_7.out y hy).below hb)
    have HOL_8 := Lib.hid (ho.mono HI7.out.size)
    have HML := Lib.hid hm
    obtain ⟨A2, c2, rfl, _⟩ := HOL_8.out.any
    clear ho hm
    clear hb
    refine hK.out _ _ (fun _ => ⟨HX_8.out, HY_8.out⟩) (fun hHeld hCl => ?_)
    clear hK K
    (try simp only [Act.put, List.setIfInBounds_toArray, List.set_cons_zero, List.set_cons_succ])
    refine wpAnyG_read (i := 17) (d := some 22) (v := .agg (Fc.stateC (mkS a b A1 ys c1 A2 zs c2))) (by rfl) (by rfl) (by kernel_rfl) (by kernel_rfl) (by kernel_rfl) (by kernel_rfl) (by assumption) (fun _ _ _ h => h) (by rfl) ?hy14 (by assumption) (fun hCl hHeld => ?rest14)
    case hy14 =>
     intro w hSw
     have hb := build_state w (joinV a.seen b.seen) A1 A2 ys.length c1 zs.length c2
     simp [execOp, hb, Result.andThen, Act.eval]
     rfl
    (try simp only [Act.put, List.setIfInBounds_toArray, List.set_cons_zero, List.set_cons_succ])
    refine wpAnyG_ready (rs := [18]) (by kernel_rfl) (by simp) ?_
    refine AllReadyG.cons rfl (by assumption) (by kernel_rfl) (fun K hK => ?_) AllReadyG.nil
    refine stepG_store (T := 27) 27 (.tmp 4) (.tmp 22) (by rfl) g4 0 zeroS (Fc.stateC (mkS a b A1 ys c1 A2 zs c2)) (Fc.stateC (mkS a b A1 ys c1 A2 zs c2)) ?_
    refine And.intro ⟨by rfl, by rfl, by rfl, by rfl, info_state, state_one _, of_decide_eq_true rfl, by kernel_rfl, HZ_8.out⟩ ?_
    intro W9 HX9 HC9
    refine hK.out _ _ (late (by rfl)) (fun hHeld hCl => ?_)
    clear hK K
    (try simp only [Act.put, List.setIfInBounds_toArray, List.set_cons_zero, List.set_cons_succ])
    refine wpAnyG_done (by kernel_rfl) ?_ _
    have HBF := Lib.hid (below_step HI8.out HC9.out HG4.out)
    have HO1 := Lib.hid (own_has HON_7_8.out HZ_8.out HC9.out (by decide))
    have HO2 := Lib.hid (own_has HOL_8.out HZ_8.out HC9.out (by decide))
    have HO3 := Lib.hid (show ∀ y ∈ ys, NodeOwn w.heap.size W9 y from fun y hy => ⟨own_has (HQN_7_8.out y hy).ps HZ_8.out HC9.out (by decide), own_has (HQN_7_8.out y hy).xs HZ_8.out HC9.out (by decide)⟩)
    go_wp2
    refine bodyPost_ret (v := .agg (Fc.stateC (mkS a b A1 ys c1 A2 zs c2))) (Who.results_cell (p := 4) (t := 27) rfl _ _ g4 0 (Fc.stateC (mkS a b A1 ys c1 A2 zs c2)) _ (by rfl) (Who.has_range HX9.out) Tryz.underlying27 rfl info_state) rfl ?_
    exact ⟨_, rfl, mkS_p HMN.out HML.out, ⟨HO1.out, HO2.out, HO3.out⟩, HBF.out⟩
  ·refine step_bSL (.tmp 17) (.tmp 19) (rowL a) (rowL b) (by rfl) ?_
   refine And.intro ⟨by rfl, by rfl, by rfl⟩ ?_
   intro rL9 W9 hx hb
   have HI9 := Lib.hid (HI1.out.trans (hb.mono HI1.out.size))
   have HX_9 := Lib.hid (HX_1.out.below hb)
   have HY_9 := Lib.hid (HY_1.out.below hb)
   have HZ_9 := Lib.hid (HZ_1.out.below hb)
   have HRL_9 := Lib.hid hx
   clear hx
   clear hb
   refine hK.out _ _ (fun _ => ⟨HX_9.out, HY_9.out⟩) (fun hHeld hCl => ?_)
   clear hK K
   (try simp only [Act.put, List.setIfInBounds_toArray, List.set_cons_zero, List.set_cons_succ])
   refine wpAnyG_ready (rs := [9]) (by kernel_rfl) (by simp) ?_
   refine AllReadyG.cons rfl (by assumption) (by kernel_rfl) (fun K hK => ?_) AllReadyG.nil
   refine step_bSN (.tmp 11) (.tmp 13) (rowN a) (rowN b) (by rfl) ?_
   refine And.intro ⟨by rfl, by rfl, by rfl⟩ ?_
   intro rN10 W10 hx hb
   have HI10 := Lib.hid (HI9.out.trans (hb.mono HI9.out.size))
   have HX_10 := Lib.hid (HX_9.out.below hb)
   have HY_10 := Lib.hid (HY_9.out.below hb)
   have HZ_10 := Lib.hid (HZ_9.out.below hb)
   have HRL_9_10 := Lib.hid (HRL_9.out.below hb HRL_9.out.1)
   have HRN_10 := Lib.hid hx
   clear hx
   clear hb
   refine hK.out _ _ (fun _ => ⟨HX_10.out, HY_10.out⟩) (fun hHeld hCl => ?_)
   clear hK K
   (try simp only [Act.put, List.setIfInBounds_toArray, List.set_cons_zero, List.set_cons_succ])
   refine wpAnyG_ready (rs := [10]) (by kernel_rfl) (by simp) ?_
   refine AllReadyG.cons rfl (by assumption) (by kernel_rfl) (fun K hK => ?_) AllReadyG.nil
   go_simp
   go_at_call 39
   refine (HMN0.out _ _ HI10.out HRN_10.out).mono ?_
   rintro e W11 ⟨v, ys, rfl, ho, hm, hq, hb⟩
   have HI11 := Lib.hid (HI10.out.trans (hb.mono HI10.out.size))
   have HX_11 := Lib.hid (HX_10.out.below hb)
   have HY_11 := Lib.hid (HY_10.out.below hb)
   have HZ_11 := Lib.hid (HZ_10.out.below hb)
   have HRL_9_10_11 := Lib.hid (HRL_9_10.out.below hb HRL_9_10.out.1)
   have HON_11 := Lib.hid (ho.mono HI10.out.size)
   have HQN_11 := Lib.hid (show ∀ y ∈ ys, NodeOwn w.heap.size W11 y from hq)
   have HMN := Lib.hid hm
   obtain ⟨A1, c1, rfl, _⟩ := HON_11.out.any
   clear ho hm hq
   clear hb
   refine hK.out _ _ (fun _ => ⟨HX_11.out, HY_11.out⟩) (fun hHeld hCl => ?_)
   clear hK K
   (try simp only [Act.put, List.setIfInBounds_toArray, List.set_cons_zero, List.set_cons_succ])
   refine wpAnyG_ready (rs := [16]) (by kernel_rfl) (by simp) ?_
   refine AllReadyG.cons rfl (by assumption) (by kernel_rfl) (fun K hK => ?_) AllReadyG.nil
   go_simp
   go_at_call 42
   refine (HML0.out _ _ HI11.out HRL_9_10_11.out).mono ?_
   rintro e W12 ⟨v, zs, rfl, ho, hm, hb⟩
   have HI12 := Lib.hid (HI11.out.trans (hb.mono HI11.out.size))
   have HX_12 := Lib.hid (HX_11.out.below hb)
   have HY_12 := Lib.hid (HY_11.out.below hb)
   have HZ_12 := Lib.hid (HZ_11.out.below hb)
   have HON_11_12 := Lib.hid (HON_11.out.below hb)
   have HQN_11_12 := Lib.hid (show ∀ y ∈ ys, NodeOwn w.heap.size W12 y from fun y hy => (HQN_11.out y hy).below hb)
   have HOL_12 := Lib.hid (ho.mono HI11.out.size)
   have HML := Lib.hid hm
   obtain ⟨A2, c2, rfl, _⟩ := HOL_12.out.any
   clear ho hm
   clear hb
   refine hK.out _ _ (fun _ => ⟨HX_12.out, HY_12.out⟩) (fun hHeld hCl => ?_)
   clear hK K
   (try simp only [Act.put, List.setIfInBounds_toArray, List.set_cons_zero, List.set_cons_succ])
   refine wpAnyG_read (i := 17) (d := some 22) (v := .agg (Fc.stateC (mkS a b A1 ys c1 A2 zs c2))) (by rfl) (by rfl) (by kernel_rfl) (by kernel_rfl) (by kernel_rfl) (by kernel_rfl) (by assumption) (fun _ _ _ h => h) (by rfl) ?hy15 (by assumption) (fun hCl hHeld => ?rest15)
   case hy15 =>
    intro w hSw
    have hb := build_state w (joinV a.seen b.seen) A1 A2 ys.length c1 zs.length c2
    simp [execOp, hb, Result.andThen, Act.eval]
    rfl
   (try simp only [Act.put, List.setIfInBounds_toArray, List.set_cons_zero, List.set_cons_succ])
   refine wpAnyG_ready (rs := [18]) (by kernel_rfl) (by simp) ?_
   refine AllReadyG.cons rfl (by assumption) (by kernel_rfl) (fun K hK => ?_) AllReadyG.nil
   refine stepG_store (T := 27) 27 (.tmp 4) (.tmp 22) (by rfl) g4 0 zeroS (Fc.stateC (mkS a b A1 ys c1 A2 zs c2)) (Fc.stateC (mkS a b A1 ys c1 A2 zs c2)) ?_
   refine And.intro ⟨by rfl, by rfl, by rfl, by rfl, info_state, state_one _, of_decide_eq_true rfl, by kernel_rfl, HZ_12.out⟩ ?_
   intro W9 HX9 HC9
   refine hK.out _ _ (late (by rfl)) (fun hHeld hCl => ?_)
   clear hK K
   (try simp only [Act.put, List.setIfInBounds_toArray, List.set_cons_zero, List.set_cons_succ])
   refine wpAnyG_done (by kernel_rfl) ?_ _
   have HBF := Lib.hid (below_step HI12.out HC9.out HG4.out)
   have HO1 := Lib.hid (own_has HON_11_12.out HZ_12.out HC9.out (by decide))
   have HO2 := Lib.hid (own_has HOL_12.out HZ_12.out HC9.out (by decide))
   have HO3 := Lib.hid (show ∀ y ∈ ys, NodeOwn w.heap.size W9 y from fun y hy => ⟨own_has (HQN_11_12.out y hy).ps HZ_12.out HC9.out (by decide), own_has (HQN_11_12.out y hy).xs HZ_12.out HC9.out (by decide)⟩)
   go_wp2
   refine bodyPost_ret (v := .agg (Fc.stateC (mkS a b A1 ys c1 A2 zs c2))) (Who.results_cell (p := 4) (t := 27) rfl _ _ g4 0 (Fc.stateC (mkS a b A1 ys c1 A2 zs c2)) _ (by rfl) (Who.has_range HX9.out) Tryz.underlying27 rfl info_state) rfl ?_
   exact ⟨_, rfl, mkS_p HMN.out HML.out, ⟨HO1.out, HO2.out, HO3.out⟩, HBF.out⟩
 ·refine step_bSN (.tmp 11) (.tmp 13) (rowN a) (rowN b) (by rfl) ?_
  refine And.intro ⟨by rfl, by rfl, by rfl⟩ ?_
  intro rN13 W13 hx hb
  have HI13 := Lib.hid (HI0.out.trans (hb.mono HI0.out.size))
  have HX_13 := Lib.hid (HX_0.out.below hb)
  have HY_13 := Lib.hid (HY_0.out.below hb)
  have HZ_13 := Lib.hid (HZ_0.out.below hb)
  have HRN_13 := Lib.hid hx
  clear hx
  clear hb
  refine hK.out _ _ (fun _ => ⟨HX_13.out, HY_13.out⟩) (fun hHeld hCl => ?_)
  clear hK K
  (try simp only [Act.put, List.setIfInBounds_toArray, List.set_cons_zero, List.set_cons_succ])
  refine wpAnyG_ready (rs := [4, 15]) (by kernel_rfl) (by simp) ?_
  refine AllReadyG.cons rfl (by assumption) (by kernel_rfl) (fun K hK => ?_) (AllReadyG.cons rfl (by assumption) (by kernel_rfl) (fun K hK => ?_) AllReadyG.nil)
  ·go_simp
   go_at_call 38
   refine (HJ.out _).mono ?_
   rintro e W14 ⟨rfl, hb⟩
   have HI14 := Lib.hid (HI13.out.trans (hb.mono HI13.out.size))
   have HX_14 := Lib.hid (HX_13.out.below hb)
   have HY_14 := Lib.hid (HY_13.out.below hb)
   have HZ_14 := Lib.hid (HZ_13.out.below hb)
   have HRN_13_14 := Lib.hid (HRN_13.out.below hb HRN_13.out.1)
   clear hb
   refine hK.out _ _ (fun _ => ⟨HX_14.out, HY_14.out⟩) (fun hHeld hCl => ?_)
   clear hK K
   (try simp only [Act.put, List.setIfInBounds_toArray, List.set_cons_zero, List.set_cons_succ])
   refine wpAnyG_ready (rs := [10, 15]) (by kernel_rfl) (by simp) ?_
   refine AllReadyG.cons rfl (by assumption) (by kernel_rfl) (fun K hK => ?_) (AllReadyG.cons rfl (by assumption) (by kernel_rfl) (fun K hK => ?_) AllReadyG.nil)
   ·go_simp
    go_at_call 39
    refine (HMN0.out _ _ HI14.out HRN_13_14.out).mono ?_
    rintro e W15 ⟨v, ys, rfl, ho, hm, hq, hb⟩
    have HI15 := Lib.hid (HI14.out.trans (hb.mono HI14.out.size))
    have HX_15 := Lib.hid (HX_14.out.below hb)
    have HY_15 := Lib.hid (HY_14.out.below hb)
    have HZ_15 := Lib.hid (HZ_14.out.below hb)
    have HON_15 := Lib.hid (ho.mono HI14.out.size)
    have HQN_15 := Lib.hid (show ∀ y ∈ ys, NodeOwn w.heap.size W15 y from hq)
    have HMN := Lib.hid hm
    obtain ⟨A1, c1, rfl, _⟩ := HON_15.out.any
    clear ho hm hq
    clear hb
    refine hK.out _ _ (fun _ => ⟨HX_15.out, HY_15.out⟩) (fun hHeld hCl => ?_)
    clear hK K
    (try simp only [Act.put, List.setIfInBounds_toArray, List.set_cons_zero, List.set_cons_succ])
    refine wpAnyG_ready (rs := [15]) (by kernel_rfl) (by simp) ?_
    refine AllReadyG.cons rfl (by assumption) (by kernel_rfl) (fun K hK => ?_) AllReadyG.nil
    refine step_bSL (.tmp 17) (.tmp 19) (rowL a) (rowL b) (by rfl) ?_
    refine And.intro ⟨by rfl, by rfl, by rfl⟩ ?_
    intro rL16 W16 hx hb
    have HI16 := Lib.hid (HI15.out.trans (hb.mono HI15.out.size))
    have HX_16 := Lib.hid (HX_15.out.below hb)
    have HY_16 := Lib.hid (HY_15.out.below hb)
    have HZ_16 := Lib.hid (HZ_15.out.below hb)
    have HON_15_16 := Lib.hid (HON_15.out.below hb)
    have HQN_15_16 := Lib.hid (show ∀ y ∈ ys, NodeOwn w.heap.size _ y from fun y hy => (HQN_15.out y hy).below hb)
    have HRL_16 := Lib.hid hx
    clear hx
    clear hb
    refine hK.out _ _ (fun _ => ⟨HX_16.out, HY_16.out⟩) (fun hHeld hCl => ?_)
    clear hK K
    (try simp only [Act.put, List.setIfInBounds_toArray, List.set_cons_zero, List.set_cons_succ])
    refine wpAnyG_ready (rs := [16]) (by kernel_rfl) (by simp) ?_
    refine AllReadyG.cons rfl (by assumption) (by kernel_rfl) (fun K hK => ?_) AllReadyG.nil
    go_simp
    go_at_call 42
    refine (HML0.out _ _ HI16.out HRL_16.out).mono ?_
    rintro e W17 ⟨v, zs, rfl, ho, hm, hb⟩
    have HI17 := Lib.hid (HI16.out.trans (hb.mono HI16.out.size))
    have HX_17 := Lib.hid (HX_16.out.below hb)
    have HY_17 := Lib.hid (HY_16.out.below hb)
    have HZ_17 := Lib.hid (HZ_16.out.below hb)
    have HON_15_16_17 := Lib.hid (HON_15_16.out.below hb)
    have HQN_15_16_17 := Lib.hid (show ∀ y ∈ ys, NodeOwn w.heap.size W17 y from fun y hy => (HQN_15_16.out y hy).below hb)
    have HOL_17 := Lib.hid (ho.mono HI16.out.size)
    have HML := Lib.hid hm
    obtain ⟨A2, c2, rfl, _⟩ := HOL_17.out.any
    clear ho hm
    clear hb
    refine hK.out _ _ (fun _ => ⟨HX_17.out, HY_17.out⟩) (fun hHeld hCl => ?_)
    clear hK K
    (try simp only [Act.put, List.setIfInBounds_toArray, List.set_cons_zero, List.set_cons_succ])
    refine wpAnyG_read (i := 17) (d := some 22) (v := .agg (Fc.stateC (mkS a b A1 ys c1 A2 zs c2))) (by rfl) (by rfl) (by kernel_rfl) (by kernel_rfl) (by kernel_rfl) (by kernel_rfl) (by assumption) (fun _ _ _ h => h) (by rfl) ?hy16 (by assumption) (fun hCl hHeld => ?rest16)
    case hy16 =>
     intro w hSw
     have hb := build_state w (joinV a.seen b.seen) A1 A2 ys.length c1 zs.length c2
     simp [execOp, hb, Result.andThen, Act.eval]
     rfl
    (try simp only [Act.put, List.setIfInBounds_toArray, List.set_cons_zero, List.set_cons_succ])
    refine wpAnyG_ready (rs := [18]) (by kernel_rfl) (by simp) ?_
    refine AllReadyG.cons rfl (by assumption) (by kernel_rfl) (fun K hK => ?_) AllReadyG.nil
    refine stepG_store (T := 27) 27 (.tmp 4) (.tmp 22) (by rfl) g4 0 zeroS (Fc.stateC (mkS a b A1 ys c1 A2 zs c2)) (Fc.stateC (mkS a b A1 ys c1 A2 zs c2)) ?_
    refine And.intro ⟨by rfl, by rfl, by rfl, by rfl, info_state, state_one _, of_decide_eq_true rfl, by kernel_rfl, HZ_17.out⟩ ?_
    intro W9 HX9 HC9
    refine hK.out _ _ (late (by rfl)) (fun hHeld hCl => ?_)
    clear hK K
    (try simp only [Act.put, List.setIfInBounds_toArray, List.set_cons_zero, List.set_cons_succ])
    refine wpAnyG_done (by kernel_rfl) ?_ _
    have HBF := Lib.hid (below_step HI17.out HC9.out HG4.out)
    have HO1 := Lib.hid (own_has HON_15_16_17.out HZ_17.out HC9.out (by decide))
    have HO2 := Lib.hid (own_has HOL_17.out HZ_17.out HC9.out (by decide))
    have HO3 := Lib.hid (show ∀ y ∈ ys, NodeOwn w.heap.size W9 y from fun y hy => ⟨own_has (HQN_15_16_17.out y hy).ps HZ_17.out HC9.out (by decide), own_has (HQN_15_16_17.out y hy).xs HZ_17.out HC9.out (by decide)⟩)
    go_wp2
    refine bodyPost_ret (v := .agg (Fc.stateC (mkS a b A1 ys c1 A2 zs c2))) (Who.results_cell (p := 4) (t := 27) rfl _ _ g4 0 (Fc.stateC (mkS a b A1 ys c1 A2 zs c2)) _ (by rfl) (Who.has_range HX9.out) Tryz.underlying27 rfl info_state) rfl ?_
    exact ⟨_, rfl, mkS_p HMN.out HML.out, ⟨HO1.out, HO2.out, HO3.out⟩, HBF.out⟩
   ·refine step_bSL (.tmp 17) (.tmp 19) (rowL a) (rowL b) (by rfl) ?_
    refine And.intro ⟨by rfl, by rfl, by rfl⟩ ?_
    intro rL18 W18 hx hb
    have HI18 := Lib.hid (HI14.out.trans (hb.mono HI14.out.size))
    have HX_18 := Lib.hid (HX_14.out.below hb)
    have HY_18 := Lib.hid (HY_14.out.below hb)
    have HZ_18 := Lib.hid (HZ_14.out.below hb)
    have HRN_13_14_18 := Lib.hid (HRN_13_14.out.below hb HRN_13_14.out.1)
    have HRL_18 := Lib.hid hx
    clear hx
    clear hb
    refine hK.out _ _ (fun _ => ⟨HX_18.out, HY_18.out⟩) (fun hHeld hCl => ?_)
    clear hK K
    (try simp only [Act.put, List.setIfInBounds_toArray, List.set_cons_zero, List.set_cons_succ])
    refine wpAnyG_ready (rs := [10]) (by kernel_rfl) (by simp) ?_
    refine AllReadyG.cons rfl (by assumption) (by kernel_rfl) (fun K hK => ?_) AllReadyG.nil
    go_simp
    go_at_call 39
    refine (HMN0.out _ _ HI18.out HRN_13_14_18.out).mono ?_
    rintro e W19 ⟨v, ys, rfl, ho, hm, hq, hb⟩
    have HI19 := Lib.hid (HI18.out.trans (hb.mono HI18.out.size))
    have HX_19 := Lib.hid (HX_18.out.below hb)
    have HY_19 := Lib.hid (HY_18.out.below hb)
    have HZ_19 := Lib.hid (HZ_18.out.below hb)
    have HRL_18_19 := Lib.hid (HRL_18.out.below hb HRL_18.out.1)
    have HON_19 := Lib.hid (ho.mono HI18.out.size)
    have HQN_19 := Lib.hid (show ∀ y ∈ ys, NodeOwn w.heap.size W19 y from hq)
    have HMN := Lib.hid hm
    obtain ⟨A1, c1, rfl, _⟩ := HON_19.out.any
    clear ho hm hq
    clear hb
    refine hK.out _ _ (fun _ => ⟨HX_19.out, HY_19.out⟩) (fun hHeld hCl => ?_)
    clear hK K
    (try simp only [Act.put, List.setIfInBounds_toArray, List.set_cons_zero, List.set_cons_succ])
    refine wpAnyG_ready (rs := [16]) (by kernel_rfl) (by simp) ?_
    refine AllReadyG.cons rfl (by assumption) (by kernel_rfl) (fun K hK => ?_) AllReadyG.nil
    go_simp
    go_at_call 42
    refine (HML0.out _ _ HI19.out HRL_18_19.out).mono ?_
    rintro e W20 ⟨v, zs, rfl, ho, hm, hb⟩
    have HI20 := Lib.hid (HI19.out.trans (hb.mono HI19.out.size))
    have HX_20 := Lib.hid (HX_19.out.below hb)
    have HY_20 := Lib.hid (HY_19.out.below hb)
    have HZ_20 := Lib.hid (HZ_19.out.below hb)
    have HON_19_20 := Lib.hid (HON_19.out.below hb)
    have HQN_19_20 := Lib.hid (show ∀ y ∈ ys, NodeOwn w.heap.size W20 y from fun y hy => (HQN_19.out y hy).below hb)
    have HOL_20 := Lib.hid (ho.mono HI19.out.size)
    have HML := Lib.hid hm
    obtain ⟨A2, c2, rfl, _⟩ := HOL_20.out.any
    clear ho hm
    clear hb
    refine hK.out _ _ (fun _ => ⟨HX_20.out, HY_20.out⟩) (fun hHeld hCl => ?_)
    clear hK K
    (try simp only [Act.put, List.setIfInBounds_toArray, List.set_cons_zero, List.set_cons_succ])
    refine wpAnyG_read (i := 17) (d := some 22) (v := .agg (Fc.stateC (mkS a b A1 ys c1 A2 zs c2))) (by rfl) (by rfl) (by kernel_rfl) (by kernel_rfl) (by kernel_rfl) (by kernel_rfl) (by assumption) (fun _ _ _ h => h) (by rfl) ?hy17 (by assumption) (fun hCl hHeld => ?rest17)
    case hy17 =>
     intro w hSw
     have hb := build_state w (joinV a.seen b.seen) A1 A2 ys.length c1 zs.length c2
     simp [execOp, hb, Result.andThen, Act.eval]
     rfl
    (try simp only [Act.put, List.setIfInBounds_toArray, List.set_cons_zero, List.set_cons_succ])
    refine wpAnyG_ready (rs := [18]) (by kernel_rfl) (by simp) ?_
    refine AllReadyG.cons rfl (by assumption) (by kernel_rfl) (fun K hK => ?_) AllReadyG.nil
    refine stepG_store (T := 27) 27 (.tmp 4) (.tmp 22) (by rfl) g4 0 zeroS (Fc.stateC (mkS a b A1 ys c1 A2 zs c2)) (Fc.stateC (mkS a b A1 ys c1 A2 zs c2)) ?_
    refine And.intro ⟨by rfl, by rfl, by rfl, by rfl, info_state, state_one _, of_decide_eq_true rfl, by kernel_rfl, HZ_20.out⟩ ?_
    intro W9 HX9 HC9
    refine hK.out _ _ (late (by rfl)) (fun hHeld hCl => ?_)
    clear hK K
    (try simp only [Act.put, List.setIfInBounds_toArray, List.set_cons_zero, List.set_cons_succ])
    refine wpAnyG_done (by kernel_rfl) ?_ _
    have HBF := Lib.hid (below_step HI20.out HC9.out HG4.out)
    have HO1 := Lib.hid (own_has HON_19_20.out HZ_20.out HC9.out (by decide))
    have HO2 := Lib.hid (own_has HOL_20.out HZ_20.out HC9.out (by decide))
    have HO3 := Lib.hid (show ∀ y ∈ ys, NodeOwn w.heap.size W9 y from fun y hy => ⟨own_has (HQN_19_20.out y hy).ps HZ_20.out HC9.out (by decide), own_has (HQN_19_20.out y hy).xs HZ_20.out HC9.out (by decide)⟩)
    go_wp2
    refine bodyPost_ret (v := .agg (Fc.stateC (mkS a b A1 ys c1 A2 zs c2))) (Who.results_cell (p := 4) (t := 27) rfl _ _ g4 0 (Fc.stateC (mkS a b A1 ys c1 A2 zs c2)) _ (by rfl) (Who.has_range HX9.out) Tryz.underlying27 rfl info_state) rfl ?_
    exact ⟨_, rfl, mkS_p HMN.out HML.out, ⟨HO1.out, HO2.out, HO3.out⟩, HBF.out⟩
  ·refine step_bSL (.tmp 17) (.tmp 19) (rowL a) (rowL b) (by rfl) ?_
   refine And.intro ⟨by rfl, by rfl, by rfl⟩ ?_
   intro rL21 W21 hx hb
   have HI21 := Lib.hid (HI13.out.trans (hb.mono HI13.out.size))
   have HX_21 := Lib.hid (HX_13.out.below hb)
   have HY_21 := Lib.hid (HY_13.out.below hb)
   have HZ_21 := Lib.hid (HZ_13.out.below hb)
   have HRN_13_21 := Lib.hid (HRN_13.out.below hb HRN_13.out.1)
   have HRL_21 := Lib.hid hx
   clear hx
   clear hb
   refine hK.out _ _ (fun _ => ⟨HX_21.out, HY_21.out⟩) (fun hHeld hCl => ?_)
   clear hK K
   (try simp only [Act.put, List.setIfInBounds_toArray, List.set_cons_zero, List.set_cons_succ])
   refine wpAnyG_ready (rs := [4]) (by kernel_rfl) (by simp) ?_
   refine AllReadyG.cons rfl (by assumption) (by kernel_rfl) (fun K hK => ?_) AllReadyG.nil
   go_simp
   go_at_call 38
   refine (HJ.out _).mono ?_
   rintro e W22 ⟨rfl, hb⟩
   have HI22 := Lib.hid (HI21.out.trans (hb.mono HI21.out.size))
   have HX_22 := Lib.hid (HX_21.out.below hb)
   have HY_22 := Lib.hid (HY_21.out.below hb)
   have HZ_22 := Lib.hid (HZ_21.out.below hb)
   have HRN_13_21_22 := Lib.hid (HRN_13_21.out.below hb HRN_13_21.out.1)
   have HRL_21_22 := Lib.hid (HRL_21.out.below hb HRL_21.out.1)
   clear hb
   refine hK.out _ _ (fun _ => ⟨HX_22.out, HY_22.out⟩) (fun hHeld hCl => ?_)
   clear hK K
   (try simp only [Act.put, List.setIfInBounds_toArray, List.set_cons_zero, List.set_cons_succ])
   refine wpAnyG_ready (rs := [10]) (by kernel_rfl) (by simp) ?_
   refine AllReadyG.cons rfl (by assumption) (by kernel_rfl) (fun K hK => ?_) AllReadyG.nil
   go_simp
   go_at_call 39
   refine (HMN0.out _ _ HI22.out HRN_13_21_22.out).mono ?_
   rintro e W23 ⟨v, ys, rfl, ho, hm, hq, hb⟩
   have HI23 := Lib.hid (HI22.out.trans (hb.mono HI22.out.size))
   have HX_23 := Lib.hid (HX_22.out.below hb)
   have HY_23 := Lib.hid (HY_22.out.below hb)
   have HZ_23 := Lib.hid (HZ_22.out.below hb)
   have HRL_21_22_23 := Lib.hid (HRL_21_22.out.below hb HRL_21_22.out.1)
   have HON_23 := Lib.hid (ho.mono HI22.out.size)
   have HQN_23 := Lib.hid (show ∀ y ∈ ys, NodeOwn w.heap.size W23 y from hq)
   have HMN := Lib.hid hm
   obtain ⟨A1, c1, rfl, _⟩ := HON_23.out.any
   clear ho hm hq
   clear hb
   refine hK.out _ _ (fun _ => ⟨HX_23.out, HY_23.out⟩) (fun hHeld hCl => ?_)
   clear hK K
   (try simp only [Act.put, List.setIfInBounds_toArray, List.set_cons_zero, List.set_cons_succ])
   refine wpAnyG_ready (rs := [16]) (by kernel_rfl) (by simp) ?_
   refine AllReadyG.cons rfl (by assumption) (by kernel_rfl) (fun K hK => ?_) AllReadyG.nil
   go_simp
   go_at_call 42
   refine (HML0.out _ _ HI23.out HRL_21_22_23.out).mono ?_
   rintro e W24 ⟨v, zs, rfl, ho, hm, hb⟩
   have HI24 := Lib.hid (HI23.out.trans (hb.mono HI23.out.size))
   have HX_24 := Lib.hid (HX_23.out.below hb)
   have HY_24 := Lib.hid (HY_23.out.below hb)
   have HZ_24 := Lib.hid (HZ_23.out.below hb)
   have HON_23_24 := Lib.hid (HON_23.out.below hb)
   have HQN_23_24 := Lib.hid (show ∀ y ∈ ys, NodeOwn w.heap.size W24 y from fun y hy => (HQN_23.out y hy).below hb)
   have HOL_24 := Lib.hid (ho.mono HI23.out.size)
   have HML := Lib.hid hm
   obtain ⟨A2, c2, rfl, _⟩ := HOL_24.out.any
   clear ho hm
   clear hb
   refine hK.out _ _ (fun _ => ⟨HX_24.out, HY_24.out⟩) (fun hHeld hCl => ?_)
   clear hK K
   (try simp only [Act.put, List.setIfInBounds_toArray, List.set_cons_zero, List.set_cons_succ])
   refine wpAnyG_read (i := 17) (d := some 22) (v := .agg (Fc.stateC (mkS a b A1 ys c1 A2 zs c2))) (by rfl) (by rfl) (by kernel_rfl) (by kernel_rfl) (by kernel_rfl) (by kernel_rfl) (by assumption) (fun _ _ _ h => h) (by rfl) ?hy18 (by assumption) (fun hCl hHeld => ?rest18)
   case hy18 =>
    intro w hSw
    have hb := build_state w (joinV a.seen b.seen) A1 A2 ys.length c1 zs.length c2
    simp [execOp, hb, Result.andThen, Act.eval]
    rfl
   (try simp only [Act.put, List.setIfInBounds_toArray, List.set_cons_zero, List.set_cons_succ])
   refine wpAnyG_ready (rs := [18]) (by kernel_rfl) (by simp) ?_
   refine AllReadyG.cons rfl (by assumption) (by kernel_rfl) (fun K hK => ?_) AllReadyG.nil
   refine stepG_store (T := 27) 27 (.tmp 4) (.tmp 22) (by rfl) g4 0 zeroS (Fc.stateC (mkS a b A1 ys c1 A2 zs c2)) (Fc.stateC (mkS a b A1 ys c1 A2 zs c2)) ?_
   refine And.intro ⟨by rfl, by rfl, by rfl, by rfl, info_state, state_one _, of_decide_eq_true rfl, by kernel_rfl, HZ_24.out⟩ ?_
   intro W9 HX9 HC9
   refine hK.out _ _ (late (by rfl)) (fun hHeld hCl => ?_)
   clear hK K
   (try simp only [Act.put, List.setIfInBounds_toArray, List.set_cons_zero, List.set_cons_succ])
   refine wpAnyG_done (by kernel_rfl) ?_ _
   have HBF := Lib.hid (below_step HI24.out HC9.out HG4.out)
   have HO1 := Lib.hid (own_has HON_23_24.out HZ_24.out HC9.out (by decide))
   have HO2 := Lib.hid (own_has HOL_24.out HZ_24.out HC9.out (by decide))
   have HO3 := Lib.hid (show ∀ y ∈ ys, NodeOwn w.heap.size W9 y from fun y hy => ⟨own_has (HQN_23_24.out y hy).ps HZ_24.out HC9.out (by decide), own_has (HQN_23_24.out y hy).xs HZ_24.out HC9.out (by decide)⟩)
   go_wp2
   refine bodyPost_ret (v := .agg (Fc.stateC (mkS a b A1 ys c1 A2 zs c2))) (Who.results_cell (p := 4) (t := 27) rfl _ _ g4 0 (Fc.stateC (mkS a b A1 ys c1 A2 zs c2)) _ (by rfl) (Who.has_range HX9.out) Tryz.underlying27 rfl info_state) rfl ?_
   exact ⟨_, rfl, mkS_p HMN.out HML.out, ⟨HO1.out, HO2.out, HO3.out⟩, HBF.out⟩
 ·refine step_bSL (.tmp 17) (.tmp 19) (rowL a) (rowL b) (by rfl) ?_
  refine And.intro ⟨by rfl, by rfl, by rfl⟩ ?_
  intro rL25 W25 hx hb
  have HI25 := Lib.hid (HI0.out.trans (hb.mono HI0.out.size))
  have HX_25 := Lib.hid (HX_0.out.below hb)
  have HY_25 := Lib.hid (HY_0.out.below hb)
  have HZ_25 := Lib.hid (HZ_0.out.below hb)
  have HRL_25 := Lib.hid hx
  clear hx
  clear hb
  refine hK.out _ _ (fun _ => ⟨HX_25.out, HY_25.out⟩) (fun hHeld hCl => ?_)
  clear hK K
  (try simp only [Act.put, List.setIfInBounds_toArray, List.set_cons_zero, List.set_cons_succ])
  refine wpAnyG_ready (rs := [4, 9]) (by kernel_rfl) (by simp) ?_
  refine AllReadyG.cons rfl (by assumption) (by kernel_rfl) (fun K hK => ?_) (AllReadyG.cons rfl (by assumption) (by kernel_rfl) (fun K hK => ?_) AllReadyG.nil)
  ·go_simp
   go_at_call 38
   refine (HJ.out _).mono ?_
   rintro e W26 ⟨rfl, hb⟩
   have HI26 := Lib.hid (HI25.out.trans (hb.mono HI25.out.size))
   have HX_26 := Lib.hid (HX_25.out.below hb)
   have HY_26 := Lib.hid (HY_25.out.below hb)
   have HZ_26 := Lib.hid (HZ_25.out.below hb)
   have HRL_25_26 := Lib.hid (HRL_25.out.below hb HRL_25.out.1)
   clear hb
   refine hK.out _ _ (fun _ => ⟨HX_26.out, HY_26.out⟩) (fun hHeld hCl => ?_)
   clear hK K
   (try simp only [Act.put, List.setIfInBounds_toArray, List.set_cons_zero, List.set_cons_succ])
   refine wpAnyG_ready (rs := [9]) (by kernel_rfl) (by simp) ?_
   refine AllReadyG.cons rfl (by assumption) (by kernel_rfl) (fun K hK => ?_) AllReadyG.nil
   refine step_bSN (.tmp 11) (.tmp 13) (rowN a) (rowN b) (by rfl) ?_
   refine And.intro ⟨by rfl, by rfl, by rfl⟩ ?_
   intro rN27 W27 hx hb
   have HI27 := Lib.hid (HI26.out.trans (hb.mono HI26.out.size))
   have HX_27 := Lib.hid (HX_26.out.below hb)
   have HY_27 := Lib.hid (HY_26.out.below hb)
   have HZ_27 := Lib.hid (HZ_26.out.below hb)
   have HRL_25_26_27 := Lib.hid (HRL_25_26.out.below hb HRL_25_26.out.1)
   have HRN_27 := Lib.hid hx
   clear hx
   clear hb
   refine hK.out _ _ (fun _ => ⟨HX_27.out, HY_27.out⟩) (fun hHeld hCl => ?_)
   clear hK K
   (try simp only [Act.put, List.setIfInBounds_toArray, List.set_cons_zero, List.set_cons_succ])
   refine wpAnyG_ready (rs := [10]) (by kernel_rfl) (by simp) ?_
   refine AllReadyG.cons rfl (by assumption) (by kernel_rfl) (fun K hK => ?_) AllReadyG.nil
   go_simp
   go_at_call 39
   refine (HMN0.out _ _ HI27.out HRN_27.out).mono ?_
   rintro e W28 ⟨v, ys, rfl, ho, hm, hq, hb⟩
   have HI28 := Lib.hid (HI27.out.trans (hb.mono HI27.out.size))
   have HX_28 := Lib.hid (HX_27.out.below hb)
   have HY_28 := Lib.hid (HY_27.out.below hb)
   have HZ_28 := Lib.hid (HZ_27.out.below hb)
   have HRL_25_26_27_28 := Lib.hid (HRL_25_26_27.out.below hb HRL_25_26_27.out.1)
   have HON_28 := Lib.hid (ho.mono HI27.out.size)
   have HQN_28 := Lib.hid (show ∀ y ∈ ys, NodeOwn w.heap.size W28 y from hq)
   have HMN := Lib.hid hm
   obtain ⟨A1, c1, rfl, _⟩ := HON_28.out.any
   clear ho hm hq
   clear hb
   refine hK.out _ _ (fun _ => ⟨HX_28.out, HY_28.out⟩) (fun hHeld hCl => ?_)
   clear hK K
   (try simp only [Act.put, List.setIfInBounds_toArray, List.set_cons_zero, List.set_cons_succ])
   refine wpAnyG_ready (rs := [16]) (by kernel_rfl) (by simp) ?_
   refine AllReadyG.cons rfl (by assumption) (by kernel_rfl) (fun K hK => ?_) AllReadyG.nil
   go_simp
   go_at_call 42
   refine (HML0.out _ _ HI28.out HRL_25_26_27_28.out).mono ?_
   rintro e W29 ⟨v, zs, rfl, ho, hm, hb⟩
   have HI29 := Lib.hid (HI28.out.trans (hb.mono HI28.out.size))
   have HX_29 := Lib.hid (HX_28.out.below hb)
   have HY_29 := Lib.hid (HY_28.out.below hb)
   have HZ_29 := Lib.hid (HZ_28.out.below hb)
   have HON_28_29 := Lib.hid (HON_28.out.below hb)
   have HQN_28_29 := Lib.hid (show ∀ y ∈ ys, NodeOwn w.heap.size W29 y from fun y hy => (HQN_28.out y hy).below hb)
   have HOL_29 := Lib.hid (ho.mono HI28.out.size)
   have HML := Lib.hid hm
   obtain ⟨A2, c2, rfl, _⟩ := HOL_29.out.any
   clear ho hm
   clear hb
   refine hK.out _ _ (fun _ => ⟨HX_29.out, HY_29.out⟩) (fun hHeld hCl => ?_)
   clear hK K
   (try simp only [Act.put, List.setIfInBounds_toArray, List.set_cons_zero, List.set_cons_succ])
   refine wpAnyG_read (i := 17) (d := some 22) (v := .agg (Fc.stateC (mkS a b A1 ys c1 A2 zs c2))) (by rfl) (by rfl) (by kernel_rfl) (by kernel_rfl) (by kernel_rfl) (by kernel_rfl) (by assumption) (fun _ _ _ h => h) (by rfl) ?hy19 (by assumption) (fun hCl hHeld => ?rest19)
   case hy19 =>
    intro w hSw
    have hb := build_state w (joinV a.seen b.seen) A1 A2 ys.length c1 zs.length c2
    simp [execOp, hb, Result.andThen, Act.eval]
    rfl
   (try simp only [Act.put, List.setIfInBounds_toArray, List.set_cons_zero, List.set_cons_succ])
   refine wpAnyG_ready (rs := [18]) (by kernel_rfl) (by simp) ?_
   refine AllReadyG.cons rfl (by assumption) (by kernel_rfl) (fun K hK => ?_) AllReadyG.nil
   refine stepG_store (T := 27) 27 (.tmp 4) (.tmp 22) (by rfl) g4 0 zeroS (Fc.stateC (mkS a b A1 ys c1 A2 zs c2)) (Fc.stateC (mkS a b A1 ys c1 A2 zs c2)) ?_
   refine And.intro ⟨by rfl, by rfl, by rfl, by rfl, info_state, state_one _, of_decide_eq_true rfl, by kernel_rfl, HZ_29.out⟩ ?_
   intro W9 HX9 HC9
   refine hK.out _ _ (late (by rfl)) (fun hHeld hCl => ?_)
   clear hK K
   (try simp only [Act.put, List.setIfInBounds_toArray, List.set_cons_zero, List.set_cons_succ])
   refine wpAnyG_done (by kernel_rfl) ?_ _
   have HBF := Lib.hid (below_step HI29.out HC9.out HG4.out)
   have HO1 := Lib.hid (own_has HON_28_29.out HZ_29.out HC9.out (by decide))
   have HO2 := Lib.hid (own_has HOL_29.out HZ_29.out HC9.out (by decide))
   have HO3 := Lib.hid (show ∀ y ∈ ys, NodeOwn w.heap.size W9 y from fun y hy => ⟨own_has (HQN_28_29.out y hy).ps HZ_29.out HC9.out (by decide), own_has (HQN_28_29.out y hy).xs HZ_29.out HC9.out (by decide)⟩)
   go_wp2
   refine bodyPost_ret (v := .agg (Fc.stateC (mkS a b A1 ys c1 A2 zs c2))) (Who.results_cell (p := 4) (t := 27) rfl _ _ g4 0 (Fc.stateC (mkS a b A1 ys c1 A2 zs c2)) _ (by rfl) (Who.has_range HX9.out) Tryz.underlying27 rfl info_state) rfl ?_
   exact ⟨_, rfl, mkS_p HMN.out HML.out, ⟨HO1.out, HO2.out, HO3.out⟩, HBF.out⟩
  ·refine step_bSN (.tmp 11) (.tmp 13) (rowN a) (rowN b) (by rfl) ?_
   refine And.intro ⟨by rfl, by rfl, by rfl⟩ ?_
   intro rN30 W30 hx hb
   have HI30 := Lib.hid (HI25.out.trans (hb.mono HI25.out.size))
   have HX_30 := Lib.hid (HX_25.out.below hb)
   have HY_30 := Lib.hid (HY_25.out.below hb)
   have HZ_30 := Lib.hid (HZ_25.out.below hb)
   have HRL_25_30 := Lib.hid (HRL_25.out.below hb HRL_25.out.1)
   have HRN_30 := Lib.hid hx
   clear hx
   clear hb
   refine hK.out _ _ (fun _ => ⟨HX_30.out, HY_30.out⟩) (fun hHeld hCl => ?_)
   clear hK K
   (try simp only [Act.put, List.setIfInBounds_toArray, List.set_cons_zero, List.set_cons_succ])
   refine wpAnyG_ready (rs := [4]) (by kernel_rfl) (by simp) ?_
   refine AllReadyG.cons rfl (by assumption) (by kernel_rfl) (fun K hK => ?_) AllReadyG.nil
   go_simp
   go_at_call 38
   refine (HJ.out _).mono ?_
   rintro e W31 ⟨rfl, hb⟩
   have HI31 := Lib.hid (HI30.out.trans (hb.mono HI30.out.size))
   have HX_31 := Lib.hid (HX_30.out.below hb)
   have HY_31 := Lib.hid (HY_30.out.below hb)
   have HZ_31 := Lib.hid (HZ_30.out.below hb)
   have HRL_25_30_31 := Lib.hid (HRL_25_30.out.below hb HRL_25_30.out.1)
   have HRN_30_31 := Lib.hid (HRN_30.out.below hb HRN_30.out.1)
   clear hb
   refine hK.out _ _ (fun _ => ⟨HX_31.out, HY_31.out⟩) (fun hHeld hCl => ?_)
   clear hK K
   (try simp only [Act.put, List.setIfInBounds_toArray, List.set_cons_zero, List.set_cons_succ])
   refine wpAnyG_ready (rs := [10]) (by kernel_rfl) (by simp) ?_
   refine AllReadyG.cons rfl (by assumption) (by kernel_rfl) (fun K hK => ?_) AllReadyG.nil
   go_simp
   go_at_call 39
   refine (HMN0.out _ _ HI31.out HRN_30_31.out).mono ?_
   rintro e W32 ⟨v, ys, rfl, ho, hm, hq, hb⟩
   have HI32 := Lib.hid (HI31.out.trans (hb.mono HI31.out.size))
   have HX_32 := Lib.hid (HX_31.out.below hb)
   have HY_32 := Lib.hid (HY_31.out.below hb)
   have HZ_32 := Lib.hid (HZ_31.out.below hb)
   have HRL_25_30_31_32 := Lib.hid (HRL_25_30_31.out.below hb HRL_25_30_31.out.1)
   have HON_32 := Lib.hid (ho.mono HI31.out.size)
   have HQN_32 := Lib.hid (show ∀ y ∈ ys, NodeOwn w.heap.size W32 y from hq)
   have HMN := Lib.hid hm
   obtain ⟨A1, c1, rfl, _⟩ := HON_32.out.any
   clear ho hm hq
   clear hb
   refine hK.out _ _ (fun _ => ⟨HX_32.out, HY_32.out⟩) (fun hHeld hCl => ?_)
   clear hK K
   (try simp only [Act.put, List.setIfInBounds_toArray, List.set_cons_zero, List.set_cons_succ])
   refine wpAnyG_ready (rs := [16]) (by kernel_rfl) (by simp) ?_
   refine AllReadyG.cons rfl (by assumption) (by kernel_rfl) (fun K hK => ?_) AllReadyG.nil
   go_simp
   go_at_call 42
   refine (HML0.out _ _ HI32.out HRL_25_30_31_32.out).mono ?_
   rintro e W33 ⟨v, zs, rfl, ho, hm, hb⟩
   have HI33 := Lib.hid (HI32.out.trans (hb.mono HI32.out.size))
   have HX_33 := Lib.hid (HX_32.out.below hb)
   have HY_33 := Lib.hid (HY_32.out.below hb)
   have HZ_33 := Lib.hid (HZ_32.out.below hb)
   have HON_32_33 := Lib.hid (HON_32.out.below hb)
   have HQN_32_33 := Lib.hid (show ∀ y ∈ ys, NodeOwn w.heap.size W33 y from fun y hy => (HQN_32.out y hy).below hb)
   have HOL_33 := Lib.hid (ho.mono HI32.out.size)
   have HML := Lib.hid hm
   obtain ⟨A2, c2, rfl, _⟩ := HOL_33.out.any
   clear ho hm
   clear hb
   refine hK.out _ _ (fun _ => ⟨HX_33.out, HY_33.out⟩) (fun hHeld hCl => ?_)
   clear hK K
   (try simp only [Act.put, List.setIfInBounds_toArray, List.set_cons_zero, List.set_cons_succ])
   refine wpAnyG_read (i := 17) (d := some 22) (v := .agg (Fc.stateC (mkS a b A1 ys c1 A2 zs c2))) (by rfl) (by rfl) (by kernel_rfl) (by kernel_rfl) (by kernel_rfl) (by kernel_rfl) (by assumption) (fun _ _ _ h => h) (by rfl) ?hy20 (by assumption) (fun hCl hHeld => ?rest20)
   case hy20 =>
    intro w hSw
    have hb := build_state w (joinV a.seen b.seen) A1 A2 ys.length c1 zs.length c2
    simp [execOp, hb, Result.andThen, Act.eval]
    rfl
   (try simp only [Act.put, List.setIfInBounds_toArray, List.set_cons_zero, List.set_cons_succ])
   refine wpAnyG_ready (rs := [18]) (by kernel_rfl) (by simp) ?_
   refine AllReadyG.cons rfl (by assumption) (by kernel_rfl) (fun K hK => ?_) AllReadyG.nil
   refine stepG_store (T := 27) 27 (.tmp 4) (.tmp 22) (by rfl) g4 0 zeroS (Fc.stateC (mkS a b A1 ys c1 A2 zs c2)) (Fc.stateC (mkS a b A1 ys c1 A2 zs c2)) ?_
   refine And.intro ⟨by rfl, by rfl, by rfl, by rfl, info_state, state_one _, of_decide_eq_true rfl, by kernel_rfl, HZ_33.out⟩ ?_
   intro W9 HX9 HC9
   refine hK.out _ _ (late (by rfl)) (fun hHeld hCl => ?_)
   clear hK K
   (try simp only [Act.put, List.setIfInBounds_toArray, List.set_cons_zero, List.set_cons_succ])
   refine wpAnyG_done (by kernel_rfl) ?_ _
   have HBF := Lib.hid (below_step HI33.out HC9.out HG4.out)
   have HO1 := Lib.hid (own_has HON_32_33.out HZ_33.out HC9.out (by decide))
   have HO2 := Lib.hid (own_has HOL_33.out HZ_33.out HC9.out (by decide))
   have HO3 := Lib.hid (show ∀ y ∈ ys, NodeOwn w.heap.size W9 y from fun y hy => ⟨own_has (HQN_32_33.out y hy).ps HZ_33.out HC9.out (by decide), own_has (HQN_32_33.out y hy).xs HZ_33.out HC9.out (by decide)⟩)
   go_wp2
   refine bodyPost_ret (v := .agg (Fc.stateC (mkS a b A1 ys c1 A2 zs c2))) (Who.results_cell (p := 4) (t := 27) rfl _ _ g4 0 (Fc.stateC (mkS a b A1 ys c1 A2 zs c2)) _ (by rfl) (Who.has_range HX9.out) Tryz.underlying27 rfl info_state) rfl ?_
   exact ⟨_, rfl, mkS_p HMN.out HML.out, ⟨HO1.out, HO2.out, HO3.out⟩, HBF.out⟩
end Go.Proofs.YtblogecapegbmaaGreat.Jn
