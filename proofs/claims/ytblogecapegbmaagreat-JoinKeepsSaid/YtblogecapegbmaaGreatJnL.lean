/- Join: inodes of one Id. -/
import Derived.Test.YtblogecapegbmaaGreatJnK
namespace Go.Proofs.YtblogecapegbmaaGreat.Jn
open Go.RowKit Go.Proofs.YtblogecapegbmaaGreat.Mem Go.Sort
open Go.Proofs.YtblogecapegbmaaGreat.Vc (joinV vecC stC)
set_option linter.unusedVariables false set_option linter.unusedSimpArgs false

theorem info_int : (Tryz.prog.info? 3).map (·.size) = some 1 := by kernel_rfl
theorem info_str : (Tryz.prog.info? 9).map (·.size) = some 1 := by kernel_rfl
theorem info_sp : (Tryz.prog.info? 43).map (·.size) = some 1 := by kernel_rfl
theorem info_sx : (Tryz.prog.info? 44).map (·.size) = some 1 := by kernel_rfl
theorem oneN (x : Fc.NodeC) : (Fc.nodeC x).all (·.oneCell') = true := by simp [Fc.nodeC, Value.oneCell']
def atP (x : Fc.NodeC) (p : Fc.NodeP) : Fc.NodeC := { x with p := p }
theorem node_at {w : World} {g : Nat} {t : TypeId} {x : Fc.NodeC} (h : Has w g t (Fc.nodeC x)) : w.rangeAt g 4 (attrC (atN x.p)).toList := range_of h fun j hj => by
 match j, (show j < 4 from hj) with
 | 0, _ | 1, _ | 2, _ | 3, _ => rfl
theorem node_sz {w : World} {g : Nat} {t : TypeId} {x : Fc.NodeC} (h : Has w g t (Fc.nodeC x)) : w.rangeAt g 8 (sizeC (szN x.p)).toList := range_of h fun j hj => by
 match j, (show j < 3 from hj) with
 | 0, _ | 1, _ | 2, _ => rfl
theorem srow_twoA {w : World} {g : Nat} {a b : St × (Int × Nat)} (h : Has w g 40 (attrC a ++ attrC b)) : Fc.SRow w 4 attrC (some ⟨g, 0, none⟩) 2 [a, b] := by
 refine ⟨rfl, fun _ => ⟨g, 0, rfl, h.bound, fun i hi j v hv => ?_⟩⟩
 have hj : j < 4 := by
  obtain ⟨q, _⟩ := Array.getElem?_eq_some_iff.1 hv
  exact q
 rw [show 0 + i * 4 + j = i * 4 + j by omega, h.at_]
 match i, hi with
 | 0, _ =>
  rw [Array.getElem?_append_left (by show 0 * 4 + j < 4; omega), show 0 * 4 + j = j by omega]
  simpa using hv
 | 1, _ =>
  rw [Array.getElem?_append_right (by show 4 ≤ 1 * 4 + j; omega), show 1 * 4 + j - (attrC a).size = j by show 1 * 4 + j - 4 = j; omega]
  simpa using hv
 | i + 2, hi => simp at hi; omega
theorem fill2A (a b : St × (Int × Nat)) : Instr.fill (fun i => some (i * 4, 4)) ((Array.range (2 * 4)).map ((Value.agg zeroA).cells[· % (Value.agg zeroA).cells.size]!)) [(0, Value.agg (attrC a)), (1, Value.agg (attrC b))] = some (attrC a ++ attrC b) := by kernel_rfl
theorem info2A : ∃ i, Tryz.prog.info? 40 = some i ∧ i.zero = some (.agg zeroA) ∧ i.size = 4 := by
 have h : (Tryz.prog.info? 40).map (fun i => (i.zero, i.size)) = some (some (.agg zeroA), 4) := by kernel_rfl
 cases hh : Tryz.prog.info? 40 with
 | none => rw [hh] at h; cases h
 | some i => rw [hh] at h; simp at h; exact ⟨i, rfl, h⟩
theorem step_bA {ops : Array Oper} {o : Oper} {a : Act} {w : World} {K : Act → World → Prop} {Q : Exit → Act → World → Prop} {EE : Prop} (x y : Operand) (p r : St × (Int × Nat)) (ho : o.op = .buildSlice 148 2 #[(0, x), (1, y)])
  (h : (Region.wanted o (yielded ops a.tmps) = true ∧ a.eval x = .agg (attrC p) ∧ a.eval y = .agg (attrC r)) ∧ ∀ g W', Has W' g 40 (attrC p ++ attrC r) → Below w.heap.size w W' → K (a.put o.dst (.slice (some ⟨g, 0, none⟩) 2 2)) W') :
  if Region.wanted o (yielded ops a.tmps) = true then Oper.wp Tryz.prog o a w K Q else EE := by
 obtain ⟨⟨h1, h2, h3⟩, h4⟩ := h
 rw [if_pos h1]
 obtain ⟨i, q0, q1, q2⟩ := info2A
 refine wp_buildSlice 148 40 2 _ ho (attrC p ++ attrC r) i _ Tryz.underlying148 q0 q1 (by rw [q2]; decide) (by rw [q2]; decide) ?_ (h4 _ _ (Has.fresh w 40 _) ((Below.refl w.heap.size w).alloc (Nat.le_refl _) _))
 have e1 : (#[(0, x), (1, y)] : Array (Nat × Operand)).map (fun (i, x) => (i, a.eval x)) = #[(0, .agg (attrC p)), (1, .agg (attrC r))] := by simp [h2, h3]
 rw [e1, q2]
 exact fill2A p r
theorem srow_twoZ {w : World} {g : Nat} {a b : St × Int} (h : Has w g 42 (sizeC a ++ sizeC b)) : Fc.SRow w 3 sizeC (some ⟨g, 0, none⟩) 2 [a, b] := by
 refine ⟨rfl, fun _ => ⟨g, 0, rfl, h.bound, fun i hi j v hv => ?_⟩⟩
 have hj : j < 3 := by
  obtain ⟨q, _⟩ := Array.getElem?_eq_some_iff.1 hv
  exact q
 rw [show 0 + i * 3 + j = i * 3 + j by omega, h.at_]
 match i, hi with
 | 0, _ =>
  rw [Array.getElem?_append_left (by show 0 * 3 + j < 3; omega), show 0 * 3 + j = j by omega]
  simpa using hv
 | 1, _ =>
  rw [Array.getElem?_append_right (by show 3 ≤ 1 * 3 + j; omega), show 1 * 3 + j - (sizeC a).size = j by show 1 * 3 + j - 3 = j; omega]
  simpa using hv
 | i + 2, hi => simp at hi; omega
theorem fill2Z (a b : St × Int) : Instr.fill (fun i => some (i * 3, 3)) ((Array.range (2 * 3)).map ((Value.agg zeroZ).cells[· % (Value.agg zeroZ).cells.size]!)) [(0, Value.agg (sizeC a)), (1, Value.agg (sizeC b))] = some (sizeC a ++ sizeC b) := by kernel_rfl
theorem info2Z : ∃ i, Tryz.prog.info? 42 = some i ∧ i.zero = some (.agg zeroZ) ∧ i.size = 3 := by
 have h : (Tryz.prog.info? 42).map (fun i => (i.zero, i.size)) = some (some (.agg zeroZ), 3) := by kernel_rfl
 cases hh : Tryz.prog.info? 42 with
 | none => rw [hh] at h; cases h
 | some i => rw [hh] at h; simp at h; exact ⟨i, rfl, h⟩
theorem step_bZ {ops : Array Oper} {o : Oper} {a : Act} {w : World} {K : Act → World → Prop} {Q : Exit → Act → World → Prop} {EE : Prop} (x y : Operand) (p r : St × Int) (ho : o.op = .buildSlice 153 2 #[(0, x), (1, y)])
  (h : (Region.wanted o (yielded ops a.tmps) = true ∧ a.eval x = .agg (sizeC p) ∧ a.eval y = .agg (sizeC r)) ∧ ∀ g W', Has W' g 42 (sizeC p ++ sizeC r) → Below w.heap.size w W' → K (a.put o.dst (.slice (some ⟨g, 0, none⟩) 2 2)) W') :
  if Region.wanted o (yielded ops a.tmps) = true then Oper.wp Tryz.prog o a w K Q else EE := by
 obtain ⟨⟨h1, h2, h3⟩, h4⟩ := h
 rw [if_pos h1]
 obtain ⟨i, q0, q1, q2⟩ := info2Z
 refine wp_buildSlice 153 42 2 _ ho (sizeC p ++ sizeC r) i _ Tryz.underlying153 q0 q1 (by rw [q2]; decide) (by rw [q2]; decide) ?_ (h4 _ _ (Has.fresh w 42 _) ((Below.refl w.heap.size w).alloc (Nat.le_refl _) _))
 have e1 : (#[(0, x), (1, y)] : Array (Nat × Operand)).map (fun (i, x) => (i, a.eval x)) = #[(0, .agg (sizeC p)), (1, .agg (sizeC r))] := by simp [h2, h3]
 rw [e1, q2]
 exact fill2Z p r

theorem lastA2 (a b : St × (Int × Nat)) (w : World) {g : Nat} (h : Fc.SRow w 4 attrC (some ⟨g, 0, none⟩) 2 [a, b]) : Calls Tryz.prog 75 #[.func (.func 76) #[] #[], .slice (some ⟨g, 0, none⟩) 2 2] w fun e w' => e = .returned (.agg (attrC (top ltA a b))) ∧ Below w.heap.size w w' := lastA_any _ 2 2 a [b] (by decide) w h
theorem lastZ2 (a b : St × Int) (w : World) {g : Nat} (h : Fc.SRow w 3 sizeC (some ⟨g, 0, none⟩) 2 [a, b]) : Calls Tryz.prog 77 #[.func (.func 78) #[] #[], .slice (some ⟨g, 0, none⟩) 2 2] w fun e w' => e = .returned (.agg (sizeC (top ltZ a b))) ∧ Below w.heap.size w w' := lastZ_any _ 2 2 a [b] (by decide) w h
theorem step_build1 {α : Type} {k : Nat} {C : α → Array Value} {P : Program} {E S : TypeId} {bts : Nat} {pv : α → Value} {Z : Value} (KD : KdOk P E S k bts C pv Z) {ops : Array Oper} {o : Oper} {a : Act} {w : World} {K : Act → World → Prop} {Q : Exit → Act → World → Prop} {EE : Prop} (y : Operand) (e : α) (ho : o.op = .buildSlice S 1 #[(0, y)])
  (h : (Region.wanted o (yielded ops a.tmps) = true ∧ a.eval y = pv e) ∧ ∀ g W', Has W' g E (C e) → Below w.heap.size w W' → K (a.put o.dst (.slice (some ⟨g, 0, none⟩) 1 1)) W') :
  if Region.wanted o (yielded ops a.tmps) = true then Oper.wp P o a w K Q else EE := by
 obtain ⟨⟨h1, h2⟩, h4⟩ := h
 rw [if_pos h1]
 obtain ⟨i, q0, q1, q2, q3⟩ := KD.hi
 obtain ⟨hbb, hkk⟩ := KD.hb
 refine wp_buildSlice S E 1 _ ho (C e) i _ KD.hS q0 q1 (by omega) (by have := KD.k0; omega) ?_ (h4 _ _ (Has.fresh w E _) ((Below.refl w.heap.size w).alloc (Nat.le_refl _) _))
 have e1 : (#[(0, y)] : Array (Nat × Operand)).map (fun (i, x) => (i, a.eval x)) = #[(0, pv e)] := by simp [h2]
 rw [e1, q2]
 exact KD.fill e
theorem wpList_cell {P : Program} {ops : Array Oper} {rest : List Oper} {o : Oper} {a : Act} {w : World} {Q : Exit → Act → World → Prop} (ty : TypeId) (x y : Operand) (ho : o.op = .store ty x y) (b off : Nat) (C0 C1 : Array Value) (v : Value) {T : TypeId}
  (h : (o.guard = none ∧ o.dst = none ∧ a.eval x = .pointer (some ⟨b, off, none⟩) ∧ a.eval y = v ∧ (P.info? ty).map (·.size) = some 1 ∧ v.oneCell' = true ∧ off < C0.size ∧ C0.setIfInBounds off v = C1 ∧ Has w b T C0) ∧ ∀ W', Hid (Has W' b T C1) → Hid (Chg (· = b) w W') → wpList P ops Q rest a W') : wpList P ops Q (o :: rest) a w := by
 obtain ⟨⟨h1, h0, h2, h3, h4, h5, h6, h7, h8⟩, h9⟩ := h
 refine wpList_plain h1 fun K hK => ?_
 have := stepG_cell (ops := ops) (K := K) (Q := Q) (E := True) ty x y ho b off C0 C1 v ⟨⟨by unfold Region.wanted; rw [h1], h0, h2, h3, h4, h5, h6, h7, h8⟩, fun W' hx hc => hK _ _ (h9 W' hx hc)⟩
 rw [if_pos (by unfold Region.wanted; rw [h1])] at this
 exact this
theorem own_has {α : Type} {w w' : World} {B g : Nat} {E T : TypeId} {k : Nat} {C : α → Array Value} {v : Value} {xs : List α} {cs : Array Value} (h : OwnK w B E k C v xs) (hx : Has w g T cs) (hc : Chg (· = g) w w') (hne : T ≠ E) : OwnK w' B E k C v xs := by
 refine World.ownsRow.kept h (row := some g) ⟨hc.os, hc.tape, hc.output, hc.size, fun q hq hn => hc.block q hq (fun e => hn (by rw [e]))⟩ ?_
 rcases h.2 with ⟨rfl, _⟩ | ⟨g2, cap2, cur2, rfl, _, hw2, _⟩
 ·exact .inl rfl
 ·refine .inr fun e => ?_
  have e2 : g2 = g := by simpa [Value.ownBlock] using e
  subst e2
  unfold Has at hx
  rw [hx] at hw2
  cases hw2
  exact hne rfl
/-- What the loop over inodes keeps. -/
structure NodI (w wr : World) (g3 : Nat) (cs : Array Value) (u4 u5 : Value) (l4 : List (RowP Fc.PieceP)) (l5 : List (RowP Fc.XattrP)) : Prop where
 below : Below w.heap.size w wr
 h2 : Has wr w.heap.size 46 zeroN
 h3 : Has wr g3 46 cs
 g : w.heap.size < g3
 r4 : OwnK wr w.heap.size 43 1 rowCP u4 l4
 r5 : OwnK wr w.heap.size 44 1 rowCX u5 l5
 few4 : l4.length ≤ 1000000
 few5 : l5.length ≤ 1000000
section
variable {w wr w2 : World} {g3 : Nat} {cs ds : Array Value} {u4 u5 u6 : Value} {l4 : List (RowP Fc.PieceP)} {l5 : List (RowP Fc.XattrP)}
theorem NodI.low (h : NodI w wr g3 cs u4 u5 l4 l5) (hb : Below wr.heap.size wr w2) : NodI w w2 g3 cs u4 u5 l4 l5 := ⟨h.below.trans (hb.mono h.below.size), h.h2.below hb, h.h3.below hb, h.g, h.r4.below hb, h.r5.below hb, h.few4, h.few5⟩
theorem NodI.drew (h : NodI w wr g3 cs u4 u5 l4 l5) : NodI w wr.drew g3 cs u4 u5 l4 l5 := h.low (Below.refl wr.heap.size wr).drew
theorem NodI.put (h : NodI w wr g3 cs u4 u5 l4 l5) (hx : Has w2 g3 46 ds) (hc : Chg (· = g3) wr w2) : NodI w w2 g3 ds u4 u5 l4 l5 := ⟨below_step h.below hc (Nat.le_of_lt h.g), h.h2.over hc (by have := h.g; omega), hx, h.g, own_has h.r4 h.h3 hc (by decide), own_has h.r5 h.h3 hc (by decide), h.few4, h.few5⟩
theorem NodI.app4 (h : NodI w wr g3 cs u4 u5 l4 l5) {p : RowP Fc.PieceP} (hg : GrewK w.heap.size wr w2 43 1 rowCP u4 u6 l4 [p]) (hl : l4.length + 1 ≤ 1000000) : NodI w w2 g3 cs u6 u5 (l4 ++ [p]) l5 :=
 ⟨h.below.trans hg.below, has_other h.h2 h.r4 hg.chg (by decide), has_other h.h3 h.r4 hg.chg (by decide), h.g, hg.row, own_other h.r5 h.r4 hg.chg (by decide), by simpa using hl, h.few5⟩
theorem NodI.app5 (h : NodI w wr g3 cs u4 u5 l4 l5) {p : RowP Fc.XattrP} (hg : GrewK w.heap.size wr w2 44 1 rowCX u5 u6 l5 [p]) (hl : l5.length + 1 ≤ 1000000) : NodI w w2 g3 cs u4 u6 l4 (l5 ++ [p]) :=
 ⟨h.below.trans hg.below, has_other h.h2 h.r5 hg.chg (by decide), has_other h.h3 h.r5 hg.chg (by decide), h.g, own_other h.r4 h.r5 hg.chg (by decide), hg.row, h.few4, by simpa using hl⟩
end
theorem rows_at {α : Type} {C : RowP α → Array Value} (hC : ∀ p, C p = #[.slice p.A p.n p.c]) {w : World} {n g : Nat} {ps : List (RowP α)} (h : Fc.SRow w 1 C (some ⟨g, 0, none⟩) n ps) (h0 : 0 < n) : RowsAt w g ps := by
 obtain ⟨b, off, e, hl, hx⟩ := h.cells h0
 cases e
 refine ⟨hl, fun i hi => ?_⟩
 have := hx i hi 0 (.slice ps[i].A ps[i].n ps[i].c) (by rw [hC]; rfl)
 simpa using this
theorem map_next {α β : Type} (f : α → β) {l : List α} {j : Nat} {y : α} (hj : j < l.length) (hy : y = l[j]) : (l.take (j + 1)).map f = (l.take j).map f ++ [f y] := by
 rw [List.take_succ_eq_append_getElem hj, List.map_append, hy]
 rfl
set_option maxRecDepth 100000 in
set_option maxHeartbeats 16000000 in
theorem oneN_is (w : World) (xs : List Fc.NodeC) (hin : ∀ z ∈ xs, NodeIn w z) (hs1 : (xs.map Fc.NodeC.n1).sum ≤ 500000) (hs2 : (xs.map Fc.NodeC.n2).sum ≤ 500000) (hl : xs.length ≤ 500000) : OneIs w Tryz.prog 41 13 Fc.nodeC Fc.NodeC.p Fc.NodeP.id opN nrmN (NodeOwn w.heap.size) xs := by
 intro V hV A n c x r hn hsub hkey hrow
 have hlen := hrow.len
 have hn0 : 0 < n := by rw [← hlen]; exact Nat.succ_pos _
 have HLEN := Lib.hid (show (x :: r).length ≤ 500000 by
  obtain ⟨ys, h1, h2⟩ := hsub
  have := h2.length_le
  have := h1.length_eq
  omega)
 have HIN := Lib.hid (show ∀ z ∈ x :: r, NodeIn V z from fun z hz => by
  obtain ⟨ys, h1, h2⟩ := hsub
  exact (hin z (h1.subset (h2.subset hz))).below hV)
 have HS1 := Lib.hid (show sumR ((x :: r).map rowPs) ≤ 500000 by
  obtain ⟨ys, h1, h2⟩ := hsub
  have := sum_sub Fc.NodeC.n1 h1 h2
  unfold sumR
  rw [List.map_map]
  exact Nat.le_trans this hs1)
 have HS2 := Lib.hid (show sumR ((x :: r).map rowXs) ≤ 500000 by
  obtain ⟨ys, h1, h2⟩ := hsub
  have := sum_sub Fc.NodeC.n2 h1 h2
  unfold sumR
  rw [List.map_map]
  exact Nat.le_trans this hs2)
 have HVS := Lib.hid hV.size
 obtain ⟨b, off, rfl, hbl, _, mr0⟩ := hrow.range hn0
 have mr1 : V.rangeAt b off (Fc.nodeC x).toList := by rw [Nat.zero_mul, Nat.add_zero] at mr0; exact mr0
 have HR := Lib.hid hrow
 have HLN := Lib.hid hlen
 have hb1 := (Below.refl V.heap.size V).alloc (Nat.le_refl _) (.cells zeroN 46)
 have MR0 := Lib.hid (Fc.row_range_below mr1 hb1 hbl)
 obtain ⟨g3, hg3⟩ : ∃ g3, g3 = V.heap.size + 1 := ⟨_, rfl⟩
 have HG3 := Lib.hid hg3
 have HI0 := Lib.hid (show NodI V ((V.alloc (.cells zeroN 46)).alloc (.cells (Fc.nodeC (atP x x.p)) 46)) g3 (Fc.nodeC (atP x x.p)) (.slice none 0 0) (.slice none 0 0) [] [] from ⟨hb1.alloc (by simp) _, (Has.fresh V 46 zeroN).past _, by
   have q := Has.fresh (V.alloc (.cells zeroN 46)) 46 (Fc.nodeC (atP x x.p))
   rw [World.size_alloc] at q
   rw [hg3]; exact q, by rw [hg3]; omega, OwnK.nil _ _ _ _ _, OwnK.nil _ _ _ _ _, by decide, by decide⟩)
 clear mr0 mr1 hb1 hrow hlen hsub hkey hV hg3 hin hs1 hs2 hl
 go_enter Tryz.func41, Tryz.ntmps41
 go_wp2_with (first | ((with_reducible refine Who.wpList_alloc 46 2 rfl rfl rfl (zeroN) allocN ?_); (try simp only [Act.put, List.setIfInBounds_toArray, List.set_cons_zero, List.set_cons_succ]); (try simp only [World.size_alloc])) | ((with_reducible refine Who.wpList_loadC 46 (.tmp 9) rfl (b) off (Fc.nodeC x) ?_); refine And.intro ⟨by rfl, by rfl, ⟨_, Tryz.underlying46, rfl⟩, infoN⟩ (And.intro (MR0.out) ?_); (try simp only [Act.put, List.setIfInBounds_toArray, List.set_cons_zero, List.set_cons_succ])) | ((with_reducible refine Who.wpList_newC 46 3 (.tmp 10) rfl rfl rfl (zeroN) (Fc.nodeC x) ?_); refine And.intro ⟨rfl, rfl, rfl, allocN, by rfl, by rfl, infoN, rfl, oneN _⟩ ?_; (try simp only [Act.put, List.setIfInBounds_toArray, List.set_cons_zero, List.set_cons_succ]); (try simp only [World.size_alloc])) | fail)
 rw [← HG3.out]
 go_loopw [4, 5, 13] (fun u4 u5 i wr => ∃ (j : Nat) (nd : Fc.NodeP), i = .int .i64 j ∧ j ≤ n ∧ Hid ((((x :: r).map Fc.NodeC.p).take j).foldl stepN x.p = nd) ∧ Hid (NodI V wr g3 (Fc.nodeC (atP x nd)) u4 u5 (((x :: r).take j).map rowPs) (((x :: r).take j).map rowXs))) (fun _ _ i _ => n - (intOf i).toNat)
 case atStart => exact ⟨0, x.p, rfl, Nat.zero_le _, Lib.hid rfl, HI0⟩
 case round =>
  clear HI0 MR0
  obtain ⟨j, nd, rfl, hj, HQ0, HI⟩ := hrel
  obtain ⟨A4, c4, rfl, _⟩ := HI.out.r4.any
  obtain ⟨A5, c5, rfl, _⟩ := HI.out.r5.any
  by_cases hlt : j < n
  ·obtain ⟨b', off', e, hbl2, hx, mr⟩ := (HR.out.below HI.out.below).range (i := j) hlt
   cases e
   obtain ⟨y, hy⟩ : ∃ y, y = (x :: r)[j] := ⟨_, rfl⟩
   rw [← hy] at mr
   have HQ := Lib.hid (fold_next stepN (y := y.p) (l := (x :: r).map Fc.NodeC.p) (by simpa using hx) (by rw [hy, List.getElem_map]) HQ0.out)
   have HT1 := Lib.hid (map_next rowPs hx hy)
   have HT2 := Lib.hid (map_next rowXs hx hy)
   have MR := Lib.hid mr
   have hjl : ((x :: r).take j).length + 1 ≤ 1000000 := by
    have := HLEN.out
    have h2 : ((x :: r).take j).length ≤ (x :: r).length := List.length_take_le' _ _
    omega
   have HJL := Lib.hid hjl
   obtain ⟨P4, hP4⟩ : ∃ P4, P4 = ((x :: r).take j).map rowPs := ⟨_, rfl⟩
   obtain ⟨P5, hP5⟩ : ∃ P5, P5 = ((x :: r).take j).map rowXs := ⟨_, rfl⟩
   have hl4 : P4.length + 1 ≤ 1000000 := by rw [hP4, List.length_map]; exact hjl
   have hl5 : P5.length + 1 ≤ 1000000 := by rw [hP5, List.length_map]; exact hjl
   rw [← hP4, ← hP5] at HI
   rw [← hP4] at HT1
   rw [← hP5] at HT2
   simp only [← hP4, ← hP5]
   obtain ⟨g7, hg7⟩ : ∃ g7, g7 = wr.heap.size := ⟨_, rfl⟩
   have HY1 := Lib.hid (show Has (wr.alloc (.cells (Fc.nodeC y) 46)) g7 46 (Fc.nodeC y) by rw [hg7]; exact Has.fresh wr 46 (Fc.nodeC y))
   have HI1 := Lib.hid (HI.out.low (w2 := wr.alloc (.cells (Fc.nodeC y) 46)) ((Below.refl wr.heap.size wr).alloc (Nat.le_refl _) _))
   have HNE := Lib.hid (show g7 ≠ g3 by have := HI.out.h3.bound; omega)
   have HG7 := Lib.hid hg7
   clear hy mr hx hbl2 HQ0 HI hg7 hP4 hP5 hjl
   go_wp2_with (first | ((with_reducible refine Who.wpList_loadC 46 (.tmp 15) rfl (b) (off + j * 13) (Fc.nodeC y) ?_); refine And.intro ⟨by rfl, by rfl, ⟨_, Tryz.underlying46, rfl⟩, infoN⟩ (And.intro (MR.out) ?_); (try simp only [Act.put, List.setIfInBounds_toArray, List.set_cons_zero, List.set_cons_succ])) | ((with_reducible refine Who.wpList_newC 46 7 (.tmp 16) rfl rfl rfl (zeroN) (Fc.nodeC y) ?_); refine And.intro ⟨rfl, rfl, rfl, allocN, by rfl, by rfl, infoN, rfl, oneN _⟩ ?_; (try simp only [Act.put, List.setIfInBounds_toArray, List.set_cons_zero, List.set_cons_succ]); (try simp only [World.size_alloc])) | fail)
   rw [← HG7.out]
   have c1 := HI1.out.h3.drew.at_ 2
   replace c1 : _ = some (Value.int .i64 nd.kind) := c1
   refine wp_region_G 13 (S := fun V => V.cell? ⟨g3, 3, none⟩ = some (.string nd.text) ∧ Has V g7 46 (Fc.nodeC y)) (by kernel_rfl) ⟨HI1.out.h3.drew.at_ 3, HY1.out.drew⟩ (fun hHeld hCl => ?_)
   refine wpAnyG_read (i := 0) (d := some 17) (v := ?v1) (by rfl) (by rfl) (by kernel_rfl) (by kernel_rfl) (by kernel_rfl) (by kernel_rfl) (by assumption) (fun _ _ _ h => h) (by rfl) ?hy1 (by assumption) (fun hCl hHeld => ?rest1)
   case hy1 =>
    intro w hSw
    go_simp
    try with_reducible rfl
   (try simp only [Act.put, List.setIfInBounds_toArray, List.set_cons_zero, List.set_cons_succ])
   refine wpAnyG_read (i := 2) (d := some 19) (v := ?v2) (by rfl) (by rfl) (by kernel_rfl) (by kernel_rfl) (by kernel_rfl) (by kernel_rfl) (by assumption) (fun _ _ _ h => h) (by rfl) ?hy2 (by assumption) (fun hCl hHeld => ?rest2)
   case hy2 =>
    intro w hSw
    go_simp
    try with_reducible rfl
   (try simp only [Act.put, List.setIfInBounds_toArray, List.set_cons_zero, List.set_cons_succ])
   refine wpAnyG_read (i := 3) (d := some 20) (v := .int .i64 y.p.kind) (by rfl) (by rfl) (by kernel_rfl) (by kernel_rfl) (by kernel_rfl) (by kernel_rfl) (by assumption) (fun _ _ _ h => h) (by rfl) ?hy3 (by assumption) (fun hCl hHeld => ?rest3)
   case hy3 =>
    intro w hSw
    have c := hSw.2.at_ 2
    replace c : w.cell? ⟨g7, 2, none⟩ = some (.int .i64 y.p.kind) := c
    go_simp
   (try simp only [Act.put, List.setIfInBounds_toArray, List.set_cons_zero, List.set_cons_succ])
   refine wpAnyG_read (i := 5) (d := some 22) (v := ?v4) (by rfl) (by rfl) (by kernel_rfl) (by kernel_rfl) (by kernel_rfl) (by kernel_rfl) (by assumption) (fun _ _ _ h => h) (by rfl) ?hy4 (by assumption) (fun hCl hHeld => ?rest4)
   case hy4 =>
    intro w hSw
    go_simp
    try with_reducible rfl
   (try simp only [Act.put, List.setIfInBounds_toArray, List.set_cons_zero, List.set_cons_succ])
   refine wpAnyG_read (i := 6) (d := some 23) (v := .string nd.text) (by rfl) (by rfl) (by kernel_rfl) (by kernel_rfl) (by kernel_rfl) (by kernel_rfl) (by assumption) (fun _ _ _ h => h) (by rfl) ?hy5 (by assumption) (fun hCl hHeld => ?rest5)
   case hy5 =>
    intro w hSw
    have c := hSw.1
    go_simp
   (try simp only [Act.put, List.setIfInBounds_toArray, List.set_cons_zero, List.set_cons_succ])
   refine wpAnyG_read (i := 7) (d := some 24) (v := ?v6) (by rfl) (by rfl) (by kernel_rfl) (by kernel_rfl) (by kernel_rfl) (by kernel_rfl) (by assumption) (fun _ _ _ h => h) (by rfl) ?hy6 (by assumption) (fun hCl hHeld => ?rest6)
   case hy6 =>
    intro w hSw
    go_simp
    try with_reducible rfl
   (try simp only [Act.put, List.setIfInBounds_toArray, List.set_cons_zero, List.set_cons_succ])
   refine wpAnyG_read (i := 8) (d := some 25) (v := .string y.p.text) (by rfl) (by rfl) (by kernel_rfl) (by kernel_rfl) (by kernel_rfl) (by kernel_rfl) (by assumption) (fun _ _ _ h => h) (by rfl) ?hy7 (by assumption) (fun hCl hHeld => ?rest7)
   case hy7 =>
    intro w hSw
    have c := hSw.2.at_ 3
    replace c : w.cell? ⟨g7, 3, none⟩ = some (.string y.p.text) := c
    go_simp
   (try simp only [Act.put, List.setIfInBounds_toArray, List.set_cons_zero, List.set_cons_succ])
   refine wpAnyG_read (i := 9) (d := some 26) (v := .string (top strLt nd.text y.p.text)) (by rfl) (by rfl) (by kernel_rfl) (by kernel_rfl) (by kernel_rfl) (by kernel_rfl) (by assumption) (fun _ _ _ h => h) (by rfl) ?hy8 (by assumption) (fun hCl hHeld => ?rest8)
   case hy8 =>
    intro w hSw
    have hm := fun ts t => run_max_s (P := Tryz.prog) w ts t nd.text y.p.text
    simp [execOp, resolve, invoke, builtin, hm, Result.andThen, Act.eval]
   (try simp only [Act.put, List.setIfInBounds_toArray, List.set_cons_zero, List.set_cons_succ])
   refine wpAnyG_ready (rs := [1]) (by kernel_rfl) (by simp) ?_
   refine AllReadyG.cons rfl (by assumption) (by kernel_rfl) (fun K hK => ?_) AllReadyG.nil
   go_simp
   refine hK.out _ _ (fun _ => ⟨HI1.out.h3.drew.at_ 3, HY1.out.drew⟩) (fun hHeld hCl => ?_)
   clear hK K c1
   (try simp only [Act.put, List.setIfInBounds_toArray, List.set_cons_zero, List.set_cons_succ])
   refine wpAnyG_read (i := 4) (d := some 21) (v := .int .i64 (top intLt nd.kind y.p.kind)) (by rfl) (by rfl) (by kernel_rfl) (by kernel_rfl) (by kernel_rfl) (by kernel_rfl) (by assumption) (fun _ _ _ h => h) (by rfl) ?hy9 (by assumption) (fun hCl hHeld => ?rest9)
   case hy9 =>
    intro w hSw
    have hm := fun ts t => run_max_n (P := Tryz.prog) w ts t nd.kind y.p.kind
    simp [execOp, resolve, invoke, builtin, hm, Result.andThen, Act.eval]
   (try simp only [Act.put, List.setIfInBounds_toArray, List.set_cons_zero, List.set_cons_succ])
   refine wpAnyG_read (i := 10) (d := some 27) (v := ?v10) (by rfl) (by rfl) (by kernel_rfl) (by kernel_rfl) (by kernel_rfl) (by kernel_rfl) (by assumption) (fun _ _ _ h => h) (by rfl) ?hy10 (by assumption) (fun hCl hHeld => ?rest10)
   case hy10 =>
    intro w hSw
    go_simp
    try with_reducible rfl
   (try simp only [Act.put, List.setIfInBounds_toArray, List.set_cons_zero, List.set_cons_succ])
   refine wpAnyG_ready (rs := [11]) (by kernel_rfl) (by simp) ?_
   refine AllReadyG.cons rfl (by assumption) (by kernel_rfl) (fun K hK => ?_) AllReadyG.nil
   refine stepG_cell (T := 46) 3 (.tmp 27) (.tmp 21) (by rfl) g3 2 (Fc.nodeC (atP x nd)) (Fc.nodeC (atP x { nd with kind := top intLt nd.kind y.p.kind })) (.int .i64 (top intLt nd.kind y.p.kind)) ?_
   refine And.intro ⟨by rfl, by rfl, by rfl, by rfl, info_int, rfl, of_decide_eq_true rfl, by kernel_rfl, HI1.out.h3.drew⟩ ?_
   intro W5 HK5 HC5
   refine hK.out _ _ (fun _ => ⟨HK5.out.at_ 3, HY1.out.drew.over HC5.out HNE.out⟩) (fun hHeld hCl => ?_)
   clear hK K
   (try simp only [Act.put, List.setIfInBounds_toArray, List.set_cons_zero, List.set_cons_succ])
   refine wpAnyG_read (i := 12) (d := some 28) (v := ?v11) (by rfl) (by rfl) (by kernel_rfl) (by kernel_rfl) (by kernel_rfl) (by kernel_rfl) (by assumption) (fun _ _ _ h => h) (by rfl) ?hy11 (by assumption) (fun hCl hHeld => ?rest11)
   case hy11 =>
    intro w hSw
    go_simp
    try with_reducible rfl
   (try simp only [Act.put, List.setIfInBounds_toArray, List.set_cons_zero, List.set_cons_succ])
   refine wpAnyG_ready (rs := [13]) (by kernel_rfl) (by simp) ?_
   refine AllReadyG.cons rfl (by assumption) (by kernel_rfl) (fun K hK => ?_) AllReadyG.nil
   refine stepG_cell (T := 46) 9 (.tmp 28) (.tmp 26) (by rfl) g3 3 (Fc.nodeC (atP x { nd with kind := top intLt nd.kind y.p.kind })) (Fc.nodeC (atP x { nd with kind := top intLt nd.kind y.p.kind, text := top strLt nd.text y.p.text })) (.string (top strLt nd.text y.p.text)) ?_
   refine And.intro ⟨by rfl, by rfl, by rfl, by rfl, info_str, rfl, of_decide_eq_true rfl, by kernel_rfl, HK5.out⟩ ?_
   intro W6 HK6 HC6
   refine hK.out _ _ (late (by rfl)) (fun hHeld hCl => ?_)
   clear hK K
   (try simp only [Act.put, List.setIfInBounds_toArray, List.set_cons_zero, List.set_cons_succ])
   refine wpAnyG_done (by kernel_rfl) ?_ _
   have HI2 := Lib.hid ((HI1.out.drew.put HK5.out HC5.out).put HK6.out HC6.out)
   have HY2 := Lib.hid ((HY1.out.drew.over HC5.out HNE.out).over HC6.out HNE.out)
   clear HK5 HC5 HK6 HC6 HI1 HY1
   obtain ⟨n2, hn2⟩ : ∃ n2, n2 = { nd with kind := top intLt nd.kind y.p.kind, text := top strLt nd.text y.p.text } := ⟨_, rfl⟩
   rw [← hn2] at HI2
   have HSP := Lib.hid (show ({ n2 with aat := (top ltA (atN n2) (atN y.p)).1, mode := (top ltA (atN n2) (atN y.p)).2.1, time := (top ltA (atN n2) (atN y.p)).2.2, sat := (top ltZ (szN n2) (szN y.p)).1, n := (top ltZ (szN n2) (szN y.p)).2 } : Fc.NodeP) = stepN nd y.p by rw [hn2]; rfl)
   clear hn2
   go_wp2
   refine wp_region_G 13 (S := fun V => Has V g3 46 (Fc.nodeC (atP x n2)) ∧ Has V g7 46 (Fc.nodeC y)) (by kernel_rfl) ⟨HI2.out.h3.drew, HY2.out.drew⟩ (fun hHeld hCl => ?_)
   have HI3 := Lib.hid HI2.out.drew
   have HY3 := Lib.hid HY2.out.drew
   clear HI2 HY2
   refine wpAnyG_read (i := 0) (d := some 29) (v := ?v12) (by rfl) (by rfl) (by kernel_rfl) (by kernel_rfl) (by kernel_rfl) (by kernel_rfl) (by assumption) (fun _ _ _ h => h) (by rfl) ?hy12 (by assumption) (fun hCl hHeld => ?rest12)
   case hy12 =>
    intro w hSw
    go_simp
    try with_reducible rfl
   (try simp only [Act.put, List.setIfInBounds_toArray, List.set_cons_zero, List.set_cons_succ])
   refine wpAnyG_read (i := 1) (d := some 30) (v := .agg (attrC (atN n2))) (by rfl) (by rfl) (by kernel_rfl) (by kernel_rfl) (by kernel_rfl) (by kernel_rfl) (by assumption) (fun _ _ _ h => h) (by rfl) ?hy13 (by assumption) (fun hCl hHeld => ?rest13)
   case hy13 =>
    intro w hSw
    exact Who.exec_loadA _ rfl rfl (node_at hSw.1) Tryz.underlying40 rfl infoA
   (try simp only [Act.put, List.setIfInBounds_toArray, List.set_cons_zero, List.set_cons_succ])
   refine wpAnyG_read (i := 2) (d := some 31) (v := ?v14) (by rfl) (by rfl) (by kernel_rfl) (by kernel_rfl) (by kernel_rfl) (by kernel_rfl) (by assumption) (fun _ _ _ h => h) (by rfl) ?hy14 (by assumption) (fun hCl hHeld => ?rest14)
   case hy14 =>
    intro w hSw
    go_simp
    try with_reducible rfl
   (try simp only [Act.put, List.setIfInBounds_toArray, List.set_cons_zero, List.set_cons_succ])
   refine wpAnyG_read (i := 3) (d := some 32) (v := .agg (attrC (atN y.p))) (by rfl) (by rfl) (by kernel_rfl) (by kernel_rfl) (by kernel_rfl) (by kernel_rfl) (by assumption) (fun _ _ _ h => h) (by rfl) ?hy15 (by assumption) (fun hCl hHeld => ?rest15)
   case hy15 =>
    intro w hSw
    exact Who.exec_loadA _ rfl rfl (node_at hSw.2) Tryz.underlying40 rfl infoA
   (try simp only [Act.put, List.setIfInBounds_toArray, List.set_cons_zero, List.set_cons_succ])
   refine wpAnyG_read (i := 6) (d := some 35) (v := ?v16) (by rfl) (by rfl) (by kernel_rfl) (by kernel_rfl) (by kernel_rfl) (by kernel_rfl) (by assumption) (fun _ _ _ h => h) (by rfl) ?hy16 (by assumption) (fun hCl hHeld => ?rest16)
   case hy16 =>
    intro w hSw
    go_simp
    try with_reducible rfl
   (try simp only [Act.put, List.setIfInBounds_toArray, List.set_cons_zero, List.set_cons_succ])
   refine wpAnyG_read (i := 7) (d := some 36) (v := .agg (sizeC (szN n2))) (by rfl) (by rfl) (by kernel_rfl) (by kernel_rfl) (by kernel_rfl) (by kernel_rfl) (by assumption) (fun _ _ _ h => h) (by rfl) ?hy17 (by assumption) (fun hCl hHeld => ?rest17)
   case hy17 =>
    intro w hSw
    exact Who.exec_loadA _ rfl rfl (node_sz hSw.1) Tryz.underlying42 rfl infoZ
   (try simp only [Act.put, List.setIfInBounds_toArray, List.set_cons_zero, List.set_cons_succ])
   refine wpAnyG_read (i := 8) (d := some 37) (v := ?v18) (by rfl) (by rfl) (by kernel_rfl) (by kernel_rfl) (by kernel_rfl) (by kernel_rfl) (by assumption) (fun _ _ _ h => h) (by rfl) ?hy18 (by assumption) (fun hCl hHeld => ?rest18)
   case hy18 =>
    intro w hSw
    go_simp
    try with_reducible rfl
   (try simp only [Act.put, List.setIfInBounds_toArray, List.set_cons_zero, List.set_cons_succ])
   refine wpAnyG_read (i := 9) (d := some 38) (v := .agg (sizeC (szN y.p))) (by rfl) (by rfl) (by kernel_rfl) (by kernel_rfl) (by kernel_rfl) (by kernel_rfl) (by assumption) (fun _ _ _ h => h) (by rfl) ?hy19 (by assumption) (fun hCl hHeld => ?rest19)
   case hy19 =>
    intro w hSw
    exact Who.exec_loadA _ rfl rfl (node_sz hSw.2) Tryz.underlying42 rfl infoZ
   (try simp only [Act.put, List.setIfInBounds_toArray, List.set_cons_zero, List.set_cons_succ])
   refine wpAnyG_ready (rs := [4, 10]) (by kernel_rfl) (by simp) ?_
   refine AllReadyG.cons rfl (by assumption) (by kernel_rfl) (fun K hK => ?_) (AllReadyG.cons rfl (by assumption) (by kernel_rfl) (fun K hK => ?_) AllReadyG.nil)
   ·refine step_bA (.tmp 30) (.tmp 32) (atN n2) (atN y.p) (by rfl) ?_
    refine And.intro ⟨by rfl, by rfl, by rfl⟩ ?_
    intro ra1 W1 hx1 hb1
    have HI_1 := Lib.hid (HI3.out.low hb1)
    have HY_1 := Lib.hid (HY3.out.below hb1)
    have HRra_1 := Lib.hid (srow_twoA hx1)
    clear hx1 hb1
    refine hK.out _ _ (fun _ => ⟨HI_1.out.h3, HY_1.out⟩) (fun hHeld hCl => ?_)
    clear hK K
    (try simp only [Act.put, List.setIfInBounds_toArray, List.set_cons_zero, List.set_cons_succ])
    refine wpAnyG_ready (rs := [5, 10]) (by kernel_rfl) (by simp) ?_
    refine AllReadyG.cons rfl (by assumption) (by kernel_rfl) (fun K hK => ?_) (AllReadyG.cons rfl (by assumption) (by kernel_rfl) (fun K hK => ?_) AllReadyG.nil)
    ·go_simp
     go_at_call 75
     refine (lastA2 (atN n2) (atN y.p) _ HRra_1.out).mono ?_
     rintro e W2 ⟨rfl, hb2⟩
     have HI_2 := Lib.hid (HI_1.out.low hb2)
     have HY_2 := Lib.hid (HY_1.out.below hb2)
     have HRra_1_2 := Lib.hid (HRra_1.out.below hb2)
     clear hb2
     refine hK.out _ _ (fun _ => ⟨HI_2.out.h3, HY_2.out⟩) (fun hHeld hCl => ?_)
     clear hK K
     (try simp only [Act.put, List.setIfInBounds_toArray, List.set_cons_zero, List.set_cons_succ])
     refine wpAnyG_read (i := 12) (d := some 41) (v := ?v20) (by rfl) (by rfl) (by kernel_rfl) (by kernel_rfl) (by kernel_rfl) (by kernel_rfl) (by assumption) (fun _ _ _ h => h) (by rfl) ?hy20 (by assumption) (fun hCl hHeld => ?rest20)
     case hy20 =>
      intro w hSw
      go_simp
      try with_reducible rfl
     (try simp only [Act.put, List.setIfInBounds_toArray, List.set_cons_zero, List.set_cons_succ])
     refine wpAnyG_ready (rs := [10]) (by kernel_rfl) (by simp) ?_
     refine AllReadyG.cons rfl (by assumption) (by kernel_rfl) (fun K hK => ?_) AllReadyG.nil
     refine step_bZ (.tmp 36) (.tmp 38) (szN n2) (szN y.p) (by rfl) ?_
     refine And.intro ⟨by rfl, by rfl, by rfl⟩ ?_
     intro rz3 W3 hx3 hb3
     have HI_3 := Lib.hid (HI_2.out.low hb3)
     have HY_3 := Lib.hid (HY_2.out.below hb3)
     have HRrz_3 := Lib.hid (srow_twoZ hx3)
     have HRra_1_2_3 := Lib.hid (HRra_1_2.out.below hb3)
     clear hx3 hb3
     refine hK.out _ _ (fun _ => ⟨HI_3.out.h3, HY_3.out⟩) (fun hHeld hCl => ?_)
     clear hK K
     (try simp only [Act.put, List.setIfInBounds_toArray, List.set_cons_zero, List.set_cons_succ])
     refine wpAnyG_ready (rs := [11]) (by kernel_rfl) (by simp) ?_
     refine AllReadyG.cons rfl (by assumption) (by kernel_rfl) (fun K hK => ?_) AllReadyG.nil
     go_simp
     go_at_call 77
     refine (lastZ2 (szN n2) (szN y.p) _ HRrz_3.out).mono ?_
     rintro e W4 ⟨rfl, hb4⟩
     have HI_4 := Lib.hid (HI_3.out.low hb4)
     have HY_4 := Lib.hid (HY_3.out.below hb4)
     have HRra_1_2_3_4 := Lib.hid (HRra_1_2_3.out.below hb4)
     have HRrz_3_4 := Lib.hid (HRrz_3.out.below hb4)
     clear hb4
     refine hK.out _ _ (fun _ => ⟨HI_4.out.h3, HY_4.out⟩) (fun hHeld hCl => ?_)
     clear hK K
     (try simp only [Act.put, List.setIfInBounds_toArray, List.set_cons_zero, List.set_cons_succ])
     refine wpAnyG_ready (rs := [13]) (by kernel_rfl) (by simp) ?_
     refine AllReadyG.cons rfl (by assumption) (by kernel_rfl) (fun K hK => ?_) AllReadyG.nil
     refine stepG_store (T := 46) 40 (.tmp 41) (.tmp 34) (by rfl) g3 4 (Fc.nodeC (atP x n2)) (attrC (top ltA (atN n2) (atN y.p))) (Fc.nodeC (atP x { n2 with aat := (top ltA (atN n2) (atN y.p)).1, mode := (top ltA (atN n2) (atN y.p)).2.1, time := (top ltA (atN n2) (atN y.p)).2.2 })) ?_
     refine And.intro ⟨by rfl, by rfl, by rfl, by rfl, infoA, oneA _, of_decide_eq_true rfl, by kernel_rfl, HI_4.out.h3⟩ ?_
     intro W7 HK7 HC7
     refine hK.out _ _ (late (by rfl)) (fun hHeld hCl => ?_)
     clear hK K
     (try simp only [Act.put, List.setIfInBounds_toArray, List.set_cons_zero, List.set_cons_succ])
     refine wpAnyG_pure (i := 14) (d := some 42) (v := ?v21) (by rfl) (by rfl) (by kernel_rfl) (by rfl) ?hy21 (by assumption) (by assumption) (fun hCl hHeld => ?rest21)
     case hy21 =>
      go_simp
      try with_reducible rfl
     (try simp only [Act.put, List.setIfInBounds_toArray, List.set_cons_zero, List.set_cons_succ])
     refine wpAnyG_ready (rs := [15]) (by kernel_rfl) (by simp) ?_
     refine AllReadyG.cons rfl (by assumption) (by kernel_rfl) (fun K hK => ?_) AllReadyG.nil
     refine stepG_store (T := 46) 42 (.tmp 42) (.tmp 40) (by rfl) g3 8 (Fc.nodeC (atP x { n2 with aat := (top ltA (atN n2) (atN y.p)).1, mode := (top ltA (atN n2) (atN y.p)).2.1, time := (top ltA (atN n2) (atN y.p)).2.2 })) (sizeC (top ltZ (szN n2) (szN y.p))) (Fc.nodeC (atP x { n2 with aat := (top ltA (atN n2) (atN y.p)).1, mode := (top ltA (atN n2) (atN y.p)).2.1, time := (top ltA (atN n2) (atN y.p)).2.2, sat := (top ltZ (szN n2) (szN y.p)).1, n := (top ltZ (szN n2) (szN y.p)).2 })) ?_
     refine And.intro ⟨by rfl, by rfl, by rfl, by rfl, infoZ, oneZ _, of_decide_eq_true rfl, by kernel_rfl, HK7.out⟩ ?_
     intro W8 HK8 HC8
     refine hK.out _ _ (late (by rfl)) (fun hHeld hCl => ?_)
     clear hK K
     (try simp only [Act.put, List.setIfInBounds_toArray, List.set_cons_zero, List.set_cons_succ])
     refine wpAnyG_done (by kernel_rfl) ?_ _
     have HI5 := Lib.hid ((HI_4.out.put HK7.out HC7.out).put HK8.out HC8.out)
     rw [HSP.out] at HI5
     have HY5 := Lib.hid ((HY_4.out.over HC7.out HNE.out).over HC8.out HNE.out)
     clear HK7 HC7 HK8 HC8 HI_4 HY_4
     go_wp2
     refine wp_region_G 11 (S := fun V => Has V g7 46 (Fc.nodeC y)) (by kernel_rfl) HY5.out.drew (fun hHeld hCl => ?_)
     have HI6 := Lib.hid HI5.out.drew
     have HY6 := Lib.hid HY5.out.drew
     clear HI5 HY5
     refine wpAnyG_read (i := 0) (d := some 43) (v := ?v22) (by rfl) (by rfl) (by kernel_rfl) (by kernel_rfl) (by kernel_rfl) (by kernel_rfl) (by assumption) (fun _ _ _ h => h) (by rfl) ?hy22 (by assumption) (fun hCl hHeld => ?rest22)
     case hy22 =>
      intro w hSw
      go_simp
      try with_reducible rfl
     (try simp only [Act.put, List.setIfInBounds_toArray, List.set_cons_zero, List.set_cons_succ])
     refine wpAnyG_read (i := 1) (d := some 44) (v := ?v23) (by rfl) (by rfl) (by kernel_rfl) (by kernel_rfl) (by kernel_rfl) (by kernel_rfl) (by assumption) (fun _ _ _ h => h) (by rfl) ?hy23 (by assumption) (fun hCl hHeld => ?rest23)
     case hy23 =>
      intro w hSw
      go_simp
      try with_reducible rfl
     (try simp only [Act.put, List.setIfInBounds_toArray, List.set_cons_zero, List.set_cons_succ])
     refine wpAnyG_read (i := 2) (d := some 45) (v := .slice y.A1 y.n1 y.c1) (by rfl) (by rfl) (by kernel_rfl) (by kernel_rfl) (by kernel_rfl) (by kernel_rfl) (by assumption) (fun _ _ _ h => h) (by rfl) ?hy24 (by assumption) (fun hCl hHeld => ?rest24)
     case hy24 =>
      intro w hSw
      have c := hSw.at_ 11
      replace c : w.cell? ⟨g7, 11, none⟩ = some (.slice y.A1 y.n1 y.c1) := c
      go_simp
     (try simp only [Act.put, List.setIfInBounds_toArray, List.set_cons_zero, List.set_cons_succ])
     refine wpAnyG_read (i := 5) (d := some 48) (v := ?v25) (by rfl) (by rfl) (by kernel_rfl) (by kernel_rfl) (by kernel_rfl) (by kernel_rfl) (by assumption) (fun _ _ _ h => h) (by rfl) ?hy25 (by assumption) (fun hCl hHeld => ?rest25)
     case hy25 =>
      intro w hSw
      go_simp
      try with_reducible rfl
     (try simp only [Act.put, List.setIfInBounds_toArray, List.set_cons_zero, List.set_cons_succ])
     refine wpAnyG_read (i := 6) (d := some 49) (v := ?v26) (by rfl) (by rfl) (by kernel_rfl) (by kernel_rfl) (by kernel_rfl) (by kernel_rfl) (by assumption) (fun _ _ _ h => h) (by rfl) ?hy26 (by assumption) (fun hCl hHeld => ?rest26)
     case hy26 =>
      intro w hSw
      go_simp
      try with_reducible rfl
     (try simp only [Act.put, List.setIfInBounds_toArray, List.set_cons_zero, List.set_cons_succ])
     refine wpAnyG_read (i := 7) (d := some 50) (v := .slice y.A2 y.n2 y.c2) (by rfl) (by rfl) (by kernel_rfl) (by kernel_rfl) (by kernel_rfl) (by kernel_rfl) (by assumption) (fun _ _ _ h => h) (by rfl) ?hy27 (by assumption) (fun hCl hHeld => ?rest27)
     case hy27 =>
      intro w hSw
      have c := hSw.at_ 12
      replace c : w.cell? ⟨g7, 12, none⟩ = some (.slice y.A2 y.n2 y.c2) := c
      go_simp
     (try simp only [Act.put, List.setIfInBounds_toArray, List.set_cons_zero, List.set_cons_succ])
     refine wpAnyG_ready (rs := [3, 8]) (by kernel_rfl) (by simp) ?_
     refine AllReadyG.cons rfl (by assumption) (by kernel_rfl) (fun K hK => ?_) (AllReadyG.cons rfl (by assumption) (by kernel_rfl) (fun K hK => ?_) AllReadyG.nil)
     ·refine step_build1 kdRP (.tmp 45) (rowPs y) (by rfl) ?_
      refine And.intro ⟨by rfl, by rfl⟩ ?_
      intro rp5 W5 hx5 hb5
      have HI_5 := Lib.hid (HI6.out.low hb5)
      have HY_5 := Lib.hid (HY6.out.below hb5)
      have HXrp_5 := Lib.hid hx5
      clear hx5 hb5
      refine hK.out _ _ (fun _ => HY_5.out) (fun hHeld hCl => ?_)
      clear hK K
      (try simp only [Act.put, List.setIfInBounds_toArray, List.set_cons_zero, List.set_cons_succ])
      refine wpAnyG_ready (rs := [4, 8]) (by kernel_rfl) (by simp) ?_
      refine AllReadyG.cons rfl (by assumption) (by kernel_rfl) (fun K hK => ?_) (AllReadyG.cons rfl (by assumption) (by kernel_rfl) (fun K hK => ?_) AllReadyG.nil)
      ·refine step_one kdRP (.tmp 43) (.tmp 46) rfl (by rfl) (B := V.heap.size) (g0 := rp5) (u := .slice A4 P4.length c4) (es := P4) (e := rowPs y) ?_
       refine And.intro ⟨⟨by rfl, by rfl⟩, HXrp_5.out, HI_5.out.r4, HI_5.out.below.size, by have z1 := HI_5.out.few4; omega⟩ ?_
       intro u6 W6 hg6
       have HI_6 := Lib.hid (HI_5.out.app4 hg6 (by omega))
       have HY_6 := Lib.hid (has_other HY_5.out HI_5.out.r4 hg6.chg (by decide))
       clear hg6
       refine hK.out _ _ (fun _ => HY_6.out) (fun hHeld hCl => ?_)
       clear hK K
       (try simp only [Act.put, List.setIfInBounds_toArray, List.set_cons_zero, List.set_cons_succ])
       refine wpAnyG_ready (rs := [8]) (by kernel_rfl) (by simp) ?_
       refine AllReadyG.cons rfl (by assumption) (by kernel_rfl) (fun K hK => ?_) AllReadyG.nil
       refine step_build1 kdRX (.tmp 50) (rowXs y) (by rfl) ?_
       refine And.intro ⟨by rfl, by rfl⟩ ?_
       intro rx7 W7 hx7 hb7
       have HI_7 := Lib.hid (HI_6.out.low hb7)
       have HY_7 := Lib.hid (HY_6.out.below hb7)
       have HXrx_7 := Lib.hid hx7
       clear hx7 hb7
       refine hK.out _ _ (fun _ => HY_7.out) (fun hHeld hCl => ?_)
       clear hK K
       (try simp only [Act.put, List.setIfInBounds_toArray, List.set_cons_zero, List.set_cons_succ])
       refine wpAnyG_ready (rs := [9]) (by kernel_rfl) (by simp) ?_
       refine AllReadyG.cons rfl (by assumption) (by kernel_rfl) (fun K hK => ?_) AllReadyG.nil
       refine step_one kdRX (.tmp 48) (.tmp 51) rfl (by rfl) (B := V.heap.size) (g0 := rx7) (u := .slice A5 P5.length c5) (es := P5) (e := rowXs y) ?_
       refine And.intro ⟨⟨by rfl, by rfl⟩, HXrx_7.out, HI_7.out.r5, HI_7.out.below.size, by have z1 := HI_7.out.few5; omega⟩ ?_
       intro u8 W8 hg8
       have HI_8 := Lib.hid (HI_7.out.app5 hg8 (by omega))
       have HY_8 := Lib.hid (has_other HY_7.out HI_7.out.r5 hg8.chg (by decide))
       clear hg8
       refine hK.out _ _ (fun _ => HY_8.out) (fun hHeld hCl => ?_)
       clear hK K
       (try simp only [Act.put, List.setIfInBounds_toArray, List.set_cons_zero, List.set_cons_succ])
       refine wpAnyG_pure (i := 10) (d := some 4) (v := ?v28) (by rfl) (by rfl) (by kernel_rfl) (by rfl) ?hy28 (by assumption) (by assumption) (fun hCl hHeld => ?rest28)
       case hy28 =>
        go_simp
        try with_reducible rfl
       (try simp only [Act.put, List.setIfInBounds_toArray, List.set_cons_zero, List.set_cons_succ])
       refine wpAnyG_pure (i := 11) (d := some 5) (v := ?v29) (by rfl) (by rfl) (by kernel_rfl) (by rfl) ?hy29 (by assumption) (by assumption) (fun hCl hHeld => ?rest29)
       case hy29 =>
        go_simp
        try with_reducible rfl
       (try simp only [Act.put, List.setIfInBounds_toArray, List.set_cons_zero, List.set_cons_succ])
       refine wpAnyG_done (by kernel_rfl) ?_ _
       have HI9 := Lib.hid HI_8.out
       clear HI_8 HY_8
       go_wp2
       go_roundw
       case rel => exact ⟨j + 1, stepN nd y.p, by go_num, by omega, HQ, by rw [HT1.out, HT2.out]; exact HI9⟩
       case measure => simp [intOf]; omega
      ·refine step_build1 kdRX (.tmp 50) (rowXs y) (by rfl) ?_
       refine And.intro ⟨by rfl, by rfl⟩ ?_
       intro rx9 W9 hx9 hb9
       have HI_9 := Lib.hid (HI_5.out.low hb9)
       have HY_9 := Lib.hid (HY_5.out.below hb9)
       have HXrx_9 := Lib.hid hx9
       have HXrp_5_9 := Lib.hid (HXrp_5.out.below hb9)
       clear hx9 hb9
       refine hK.out _ _ (fun _ => HY_9.out) (fun hHeld hCl => ?_)
       clear hK K
       (try simp only [Act.put, List.setIfInBounds_toArray, List.set_cons_zero, List.set_cons_succ])
       refine wpAnyG_ready (rs := [4]) (by kernel_rfl) (by simp) ?_
       refine AllReadyG.cons rfl (by assumption) (by kernel_rfl) (fun K hK => ?_) AllReadyG.nil
       refine step_one kdRP (.tmp 43) (.tmp 46) rfl (by rfl) (B := V.heap.size) (g0 := rp5) (u := .slice A4 P4.length c4) (es := P4) (e := rowPs y) ?_
       refine And.intro ⟨⟨by rfl, by rfl⟩, HXrp_5_9.out, HI_9.out.r4, HI_9.out.below.size, by have z1 := HI_9.out.few4; omega⟩ ?_
       intro u10 W10 hg10
       have HI_10 := Lib.hid (HI_9.out.app4 hg10 (by omega))
       have HY_10 := Lib.hid (has_other HY_9.out HI_9.out.r4 hg10.chg (by decide))
       have HXrx_9_10 := Lib.hid (has_other HXrx_9.out HI_9.out.r4 hg10.chg (by decide))
       clear hg10
       refine hK.out _ _ (fun _ => HY_10.out) (fun hHeld hCl => ?_)
       clear hK K
       (try simp only [Act.put, List.setIfInBounds_toArray, List.set_cons_zero, List.set_cons_succ])
       refine wpAnyG_ready (rs := [9]) (by kernel_rfl) (by simp) ?_
       refine AllReadyG.cons rfl (by assumption) (by kernel_rfl) (fun K hK => ?_) AllReadyG.nil
       refine step_one kdRX (.tmp 48) (.tmp 51) rfl (by rfl) (B := V.heap.size) (g0 := rx9) (u := .slice A5 P5.length c5) (es := P5) (e := rowXs y) ?_
       refine And.intro ⟨⟨by rfl, by rfl⟩, HXrx_9_10.out, HI_10.out.r5, HI_10.out.below.size, by have z1 := HI_10.out.few5; omega⟩ ?_
       intro u11 W11 hg11
       have HI_11 := Lib.hid (HI_10.out.app5 hg11 (by omega))
       have HY_11 := Lib.hid (has_other HY_10.out HI_10.out.r5 hg11.chg (by decide))
       clear hg11
       refine hK.out _ _ (fun _ => HY_11.out) (fun hHeld hCl => ?_)
       clear hK K
       (try simp only [Act.put, List.setIfInBounds_toArray, List.set_cons_zero, List.set_cons_succ])
       refine wpAnyG_pure (i := 10) (d := some 4) (v := ?v30) (by rfl) (by rfl) (by kernel_rfl) (by rfl) ?hy30 (by assumption) (by assumption) (fun hCl hHeld => ?rest30)
       case hy30 =>
        go_simp
        try with_reducible rfl
       (try simp only [Act.put, List.setIfInBounds_toArray, List.set_cons_zero, List.set_cons_succ])
       refine wpAnyG_pure (i := 11) (d := some 5) (v := ?v31) (by rfl) (by rfl) (by kernel_rfl) (by rfl) ?hy31 (by assumption) (by assumption) (fun hCl hHeld => ?rest31)
       case hy31 =>
        go_simp
        try with_reducible rfl
       (try simp only [Act.put, List.setIfInBounds_toArray, List.set_cons_zero, List.set_cons_succ])
       refine wpAnyG_done (by kernel_rfl) ?_ _
       have HI9 := Lib.hid HI_11.out
       clear HI_11 HY_11
       go_wp2
       go_roundw
       case rel => exact ⟨j + 1, stepN nd y.p, by go_num, by omega, HQ, by rw [HT1.out, HT2.out]; exact HI9⟩
       case measure => simp [intOf]; omega
     ·refine step_build1 kdRX (.tmp 50) (rowXs y) (by rfl) ?_
      refine And.intro ⟨by rfl, by rfl⟩ ?_
      intro rx12 W12 hx12 hb12
      have HI_12 := Lib.hid (HI6.out.low hb12)
      have HY_12 := Lib.hid (HY6.out.below hb12)
      have HXrx_12 := Lib.hid hx12
      clear hx12 hb12
      refine hK.out _ _ (fun _ => HY_12.out) (fun hHeld hCl => ?_)
      clear hK K
      (try simp only [Act.put, List.setIfInBounds_toArray, List.set_cons_zero, List.set_cons_succ])
      refine wpAnyG_ready (rs := [3]) (by kernel_rfl) (by simp) ?_
      refine AllReadyG.cons rfl (by assumption) (by kernel_rfl) (fun K hK => ?_) AllReadyG.nil
      refine step_build1 kdRP (.tmp 45) (rowPs y) (by rfl) ?_
      refine And.intro ⟨by rfl, by rfl⟩ ?_
      intro rp13 W13 hx13 hb13
      have HI_13 := Lib.hid (HI_12.out.low hb13)
      have HY_13 := Lib.hid (HY_12.out.below hb13)
      have HXrp_13 := Lib.hid hx13
      have HXrx_12_13 := Lib.hid (HXrx_12.out.below hb13)
      clear hx13 hb13
      refine hK.out _ _ (fun _ => HY_13.out) (fun hHeld hCl => ?_)
      clear hK K
      (try simp only [Act.put, List.setIfInBounds_toArray, List.set_cons_zero, List.set_cons_succ])
      refine wpAnyG_ready (rs := [4]) (by kernel_rfl) (by simp) ?_
      refine AllReadyG.cons rfl (by assumption) (by kernel_rfl) (fun K hK => ?_) AllReadyG.nil
      refine step_one kdRP (.tmp 43) (.tmp 46) rfl (by rfl) (B := V.heap.size) (g0 := rp13) (u := .slice A4 P4.length c4) (es := P4) (e := rowPs y) ?_
      refine And.intro ⟨⟨by rfl, by rfl⟩, HXrp_13.out, HI_13.out.r4, HI_13.out.below.size, by have z1 := HI_13.out.few4; omega⟩ ?_
      intro u14 W14 hg14
      have HI_14 := Lib.hid (HI_13.out.app4 hg14 (by omega))
      have HY_14 := Lib.hid (has_other HY_13.out HI_13.out.r4 hg14.chg (by decide))
      have HXrx_12_13_14 := Lib.hid (has_other HXrx_12_13.out HI_13.out.r4 hg14.chg (by decide))
      clear hg14
      refine hK.out _ _ (fun _ => HY_14.out) (fun hHeld hCl => ?_)
      clear hK K
      (try simp only [Act.put, List.setIfInBounds_toArray, List.set_cons_zero, List.set_cons_succ])
      refine wpAnyG_ready (rs := [9]) (by kernel_rfl) (by simp) ?_
      refine AllReadyG.cons rfl (by assumption) (by kernel_rfl) (fun K hK => ?_) AllReadyG.nil
      refine step_one kdRX (.tmp 48) (.tmp 51) rfl (by rfl) (B := V.heap.size) (g0 := rx12) (u := .slice A5 P5.length c5) (es := P5) (e := rowXs y) ?_
      refine And.intro ⟨⟨by rfl, by rfl⟩, HXrx_12_13_14.out, HI_14.out.r5, HI_14.out.below.size, by have z1 := HI_14.out.few5; omega⟩ ?_
      intro u15 W15 hg15
      have HI_15 := Lib.hid (HI_14.out.app5 hg15 (by omega))
      have HY_15 := Lib.hid (has_other HY_14.out HI_14.out.r5 hg15.chg (by decide))
      clear hg15
      refine hK.out _ _ (fun _ => HY_15.out) (fun hHeld hCl => ?_)
      clear hK K
      (try simp only [Act.put, List.setIfInBounds_toArray, List.set_cons_zero, List.set_cons_succ])
      refine wpAnyG_pure (i := 10) (d := some 4) (v := ?v32) (by rfl) (by rfl) (by kernel_rfl) (by rfl) ?hy32 (by assumption) (by assumption) (fun hCl hHeld => ?rest32)
      case hy32 =>
       go_simp
       try with_reducible rfl
      (try simp only [Act.put, List.setIfInBounds_toArray, List.set_cons_zero, List.set_cons_succ])
      refine wpAnyG_pure (i := 11) (d := some 5) (v := ?v33) (by rfl) (by rfl) (by kernel_rfl) (by rfl) ?hy33 (by assumption) (by assumption) (fun hCl hHeld => ?rest33)
      case hy33 =>
       go_simp
       try with_reducible rfl
      (try simp only [Act.put, List.setIfInBounds_toArray, List.set_cons_zero, List.set_cons_succ])
      refine wpAnyG_done (by kernel_rfl) ?_ _
      have HI9 := Lib.hid HI_15.out
      clear HI_15 HY_15
      go_wp2
      go_roundw
      case rel => exact ⟨j + 1, stepN nd y.p, by go_num, by omega, HQ, by rw [HT1.out, HT2.out]; exact HI9⟩
      case measure => simp [intOf]; omega
    ·refine step_bZ (.tmp 36) (.tmp 38) (szN n2) (szN y.p) (by rfl) ?_
     refine And.intro ⟨by rfl, by rfl, by rfl⟩ ?_
     intro rz16 W16 hx16 hb16
     have HI_16 := Lib.hid (HI_1.out.low hb16)
     have HY_16 := Lib.hid (HY_1.out.below hb16)
     have HRrz_16 := Lib.hid (srow_twoZ hx16)
     have HRra_1_16 := Lib.hid (HRra_1.out.below hb16)
     clear hx16 hb16
     refine hK.out _ _ (fun _ => ⟨HI_16.out.h3, HY_16.out⟩) (fun hHeld hCl => ?_)
     clear hK K
     (try simp only [Act.put, List.setIfInBounds_toArray, List.set_cons_zero, List.set_cons_succ])
     refine wpAnyG_ready (rs := [5]) (by kernel_rfl) (by simp) ?_
     refine AllReadyG.cons rfl (by assumption) (by kernel_rfl) (fun K hK => ?_) AllReadyG.nil
     go_simp
     go_at_call 75
     refine (lastA2 (atN n2) (atN y.p) _ HRra_1_16.out).mono ?_
     rintro e W17 ⟨rfl, hb17⟩
     have HI_17 := Lib.hid (HI_16.out.low hb17)
     have HY_17 := Lib.hid (HY_16.out.below hb17)
     have HRra_1_16_17 := Lib.hid (HRra_1_16.out.below hb17)
     have HRrz_16_17 := Lib.hid (HRrz_16.out.below hb17)
     clear hb17
     refine hK.out _ _ (fun _ => ⟨HI_17.out.h3, HY_17.out⟩) (fun hHeld hCl => ?_)
     clear hK K
     (try simp only [Act.put, List.setIfInBounds_toArray, List.set_cons_zero, List.set_cons_succ])
     refine wpAnyG_read (i := 12) (d := some 41) (v := ?v34) (by rfl) (by rfl) (by kernel_rfl) (by kernel_rfl) (by kernel_rfl) (by kernel_rfl) (by assumption) (fun _ _ _ h => h) (by rfl) ?hy34 (by assumption) (fun hCl hHeld => ?rest34)
     case hy34 =>
      intro w hSw
      go_simp
      try with_reducible rfl
     (try simp only [Act.put, List.setIfInBounds_toArray, List.set_cons_zero, List.set_cons_succ])
     refine wpAnyG_ready (rs := [11]) (by kernel_rfl) (by simp) ?_
     refine AllReadyG.cons rfl (by assumption) (by kernel_rfl) (fun K hK => ?_) AllReadyG.nil
     go_simp
     go_at_call 77
     refine (lastZ2 (szN n2) (szN y.p) _ HRrz_16_17.out).mono ?_
     rintro e W18 ⟨rfl, hb18⟩
     have HI_18 := Lib.hid (HI_17.out.low hb18)
     have HY_18 := Lib.hid (HY_17.out.below hb18)
     have HRra_1_16_17_18 := Lib.hid (HRra_1_16_17.out.below hb18)
     have HRrz_16_17_18 := Lib.hid (HRrz_16_17.out.below hb18)
     clear hb18
     refine hK.out _ _ (fun _ => ⟨HI_18.out.h3, HY_18.out⟩) (fun hHeld hCl => ?_)
     clear hK K
     (try simp only [Act.put, List.setIfInBounds_toArray, List.set_cons_zero, List.set_cons_succ])
     refine wpAnyG_ready (rs := [13]) (by kernel_rfl) (by simp) ?_
     refine AllReadyG.cons rfl (by assumption) (by kernel_rfl) (fun K hK => ?_) AllReadyG.nil
     refine stepG_store (T := 46) 40 (.tmp 41) (.tmp 34) (by rfl) g3 4 (Fc.nodeC (atP x n2)) (attrC (top ltA (atN n2) (atN y.p))) (Fc.nodeC (atP x { n2 with aat := (top ltA (atN n2) (atN y.p)).1, mode := (top ltA (atN n2) (atN y.p)).2.1, time := (top ltA (atN n2) (atN y.p)).2.2 })) ?_
     refine And.intro ⟨by rfl, by rfl, by rfl, by rfl, infoA, oneA _, of_decide_eq_true rfl, by kernel_rfl, HI_18.out.h3⟩ ?_
     intro W7 HK7 HC7
     refine hK.out _ _ (late (by rfl)) (fun hHeld hCl => ?_)
     clear hK K
     (try simp only [Act.put, List.setIfInBounds_toArray, List.set_cons_zero, List.set_cons_succ])
     refine wpAnyG_pure (i := 14) (d := some 42) (v := ?v35) (by rfl) (by rfl) (by kernel_rfl) (by rfl) ?hy35 (by assumption) (by assumption) (fun hCl hHeld => ?rest35)
     case hy35 =>
      go_simp
      try with_reducible rfl
     (try simp only [Act.put, List.setIfInBounds_toArray, List.set_cons_zero, List.set_cons_succ])
     refine wpAnyG_ready (rs := [15]) (by kernel_rfl) (by simp) ?_
     refine AllReadyG.cons rfl (by assumption) (by kernel_rfl) (fun K hK => ?_) AllReadyG.nil
     refine stepG_store (T := 46) 42 (.tmp 42) (.tmp 40) (by rfl) g3 8 (Fc.nodeC (atP x { n2 with aat := (top ltA (atN n2) (atN y.p)).1, mode := (top ltA (atN n2) (atN y.p)).2.1, time := (top ltA (atN n2) (atN y.p)).2.2 })) (sizeC (top ltZ (szN n2) (szN y.p))) (Fc.nodeC (atP x { n2 with aat := (top ltA (atN n2) (atN y.p)).1, mode := (top ltA (atN n2) (atN y.p)).2.1, time := (top ltA (atN n2) (atN y.p)).2.2, sat := (top ltZ (szN n2) (szN y.p)).1, n := (top ltZ (szN n2) (szN y.p)).2 })) ?_
     refine And.intro ⟨by rfl, by rfl, by rfl, by rfl, infoZ, oneZ _, of_decide_eq_true rfl, by kernel_rfl, HK7.out⟩ ?_
     intro W8 HK8 HC8
     refine hK.out _ _ (late (by rfl)) (fun hHeld hCl => ?_)
     clear hK K
     (try simp only [Act.put, List.setIfInBounds_toArray, List.set_cons_zero, List.set_cons_succ])
     refine wpAnyG_done (by kernel_rfl) ?_ _
     have HI5 := Lib.hid ((HI_18.out.put HK7.out HC7.out).put HK8.out HC8.out)
     rw [HSP.out] at HI5
     have HY5 := Lib.hid ((HY_18.out.over HC7.out HNE.out).over HC8.out HNE.out)
     clear HK7 HC7 HK8 HC8 HI_18 HY_18
     go_wp2
     refine wp_region_G 11 (S := fun V => Has V g7 46 (Fc.nodeC y)) (by kernel_rfl) HY5.out.drew (fun hHeld hCl => ?_)
     have HI6 := Lib.hid HI5.out.drew
     have HY6 := Lib.hid HY5.out.drew
     clear HI5 HY5
     refine wpAnyG_read (i := 0) (d := some 43) (v := ?v36) (by rfl) (by rfl) (by kernel_rfl) (by kernel_rfl) (by kernel_rfl) (by kernel_rfl) (by assumption) (fun _ _ _ h => h) (by rfl) ?hy36 (by assumption) (fun hCl hHeld => ?rest36)
     case hy36 =>
      intro w hSw
      go_simp
      try with_reducible rfl
     (try simp only [Act.put, List.setIfInBounds_toArray, List.set_cons_zero, List.set_cons_succ])
     refine wpAnyG_read (i := 1) (d := some 44) (v := ?v37) (by rfl) (by rfl) (by kernel_rfl) (by kernel_rfl) (by kernel_rfl) (by kernel_rfl) (by assumption) (fun _ _ _ h => h) (by rfl) ?hy37 (by assumption) (fun hCl hHeld => ?rest37)
     case hy37 =>
      intro w hSw
      go_simp
      try with_reducible rfl
     (try simp only [Act.put, List.setIfInBounds_toArray, List.set_cons_zero, List.set_cons_succ])
     refine wpAnyG_read (i := 2) (d := some 45) (v := .slice y.A1 y.n1 y.c1) (by rfl) (by rfl) (by kernel_rfl) (by kernel_rfl) (by kernel_rfl) (by kernel_rfl) (by assumption) (fun _ _ _ h => h) (by rfl) ?hy38 (by assumption) (fun hCl hHeld => ?rest38)
     case hy38 =>
      intro w hSw
      have c := hSw.at_ 11
      replace c : w.cell? ⟨g7, 11, none⟩ = some (.slice y.A1 y.n1 y.c1) := c
      go_simp
     (try simp only [Act.put, List.setIfInBounds_toArray, List.set_cons_zero, List.set_cons_succ])
     refine wpAnyG_read (i := 5) (d := some 48) (v := ?v39) (by rfl) (by rfl) (by kernel_rfl) (by kernel_rfl) (by kernel_rfl) (by kernel_rfl) (by assumption) (fun _ _ _ h => h) (by rfl) ?hy39 (by assumption) (fun hCl hHeld => ?rest39)
     case hy39 =>
      intro w hSw
      go_simp
      try with_reducible rfl
     (try simp only [Act.put, List.setIfInBounds_toArray, List.set_cons_zero, List.set_cons_succ])
     refine wpAnyG_read (i := 6) (d := some 49) (v := ?v40) (by rfl) (by rfl) (by kernel_rfl) (by kernel_rfl) (by kernel_rfl) (by kernel_rfl) (by assumption) (fun _ _ _ h => h) (by rfl) ?hy40 (by assumption) (fun hCl hHeld => ?rest40)
     case hy40 =>
      intro w hSw
      go_simp
      try with_reducible rfl
     (try simp only [Act.put, List.setIfInBounds_toArray, List.set_cons_zero, List.set_cons_succ])
     refine wpAnyG_read (i := 7) (d := some 50) (v := .slice y.A2 y.n2 y.c2) (by rfl) (by rfl) (by kernel_rfl) (by kernel_rfl) (by kernel_rfl) (by kernel_rfl) (by assumption) (fun _ _ _ h => h) (by rfl) ?hy41 (by assumption) (fun hCl hHeld => ?rest41)
     case hy41 =>
      intro w hSw
      have c := hSw.at_ 12
      replace c : w.cell? ⟨g7, 12, none⟩ = some (.slice y.A2 y.n2 y.c2) := c
      go_simp
     (try simp only [Act.put, List.setIfInBounds_toArray, List.set_cons_zero, List.set_cons_succ])
     refine wpAnyG_ready (rs := [3, 8]) (by kernel_rfl) (by simp) ?_
     refine AllReadyG.cons rfl (by assumption) (by kernel_rfl) (fun K hK => ?_) (AllReadyG.cons rfl (by assumption) (by kernel_rfl) (fun K hK => ?_) AllReadyG.nil)
     ·refine step_build1 kdRP (.tmp 45) (rowPs y) (by rfl) ?_
      refine And.intro ⟨by rfl, by rfl⟩ ?_
      intro rp19 W19 hx19 hb19
      have HI_19 := Lib.hid (HI6.out.low hb19)
      have HY_19 := Lib.hid (HY6.out.below hb19)
      have HXrp_19 := Lib.hid hx19
      clear hx19 hb19
      refine hK.out _ _ (fun _ => HY_19.out) (fun hHeld hCl => ?_)
      clear hK K
      (try simp only [Act.put, List.setIfInBounds_toArray, List.set_cons_zero, List.set_cons_succ])
      refine wpAnyG_ready (rs := [4, 8]) (by kernel_rfl) (by simp) ?_
      refine AllReadyG.cons rfl (by assumption) (by kernel_rfl) (fun K hK => ?_) (AllReadyG.cons rfl (by assumption) (by kernel_rfl) (fun K hK => ?_) AllReadyG.nil)
      ·refine step_one kdRP (.tmp 43) (.tmp 46) rfl (by rfl) (B := V.heap.size) (g0 := rp19) (u := .slice A4 P4.length c4) (es := P4) (e := rowPs y) ?_
       refine And.intro ⟨⟨by rfl, by rfl⟩, HXrp_19.out, HI_19.out.r4, HI_19.out.below.size, by have z1 := HI_19.out.few4; omega⟩ ?_
       intro u20 W20 hg20
       have HI_20 := Lib.hid (HI_19.out.app4 hg20 (by omega))
       have HY_20 := Lib.hid (has_other HY_19.out HI_19.out.r4 hg20.chg (by decide))
       clear hg20
       refine hK.out _ _ (fun _ => HY_20.out) (fun hHeld hCl => ?_)
       clear hK K
       (try simp only [Act.put, List.setIfInBounds_toArray, List.set_cons_zero, List.set_cons_succ])
       refine wpAnyG_ready (rs := [8]) (by kernel_rfl) (by simp) ?_
       refine AllReadyG.cons rfl (by assumption) (by kernel_rfl) (fun K hK => ?_) AllReadyG.nil
       refine step_build1 kdRX (.tmp 50) (rowXs y) (by rfl) ?_
       refine And.intro ⟨by rfl, by rfl⟩ ?_
       intro rx21 W21 hx21 hb21
       have HI_21 := Lib.hid (HI_20.out.low hb21)
       have HY_21 := Lib.hid (HY_20.out.below hb21)
       have HXrx_21 := Lib.hid hx21
       clear hx21 hb21
       refine hK.out _ _ (fun _ => HY_21.out) (fun hHeld hCl => ?_)
       clear hK K
       (try simp only [Act.put, List.setIfInBounds_toArray, List.set_cons_zero, List.set_cons_succ])
       refine wpAnyG_ready (rs := [9]) (by kernel_rfl) (by simp) ?_
       refine AllReadyG.cons rfl (by assumption) (by kernel_rfl) (fun K hK => ?_) AllReadyG.nil
       refine step_one kdRX (.tmp 48) (.tmp 51) rfl (by rfl) (B := V.heap.size) (g0 := rx21) (u := .slice A5 P5.length c5) (es := P5) (e := rowXs y) ?_
       refine And.intro ⟨⟨by rfl, by rfl⟩, HXrx_21.out, HI_21.out.r5, HI_21.out.below.size, by have z1 := HI_21.out.few5; omega⟩ ?_
       intro u22 W22 hg22
       have HI_22 := Lib.hid (HI_21.out.app5 hg22 (by omega))
       have HY_22 := Lib.hid (has_other HY_21.out HI_21.out.r5 hg22.chg (by decide))
       clear hg22
       refine hK.out _ _ (fun _ => HY_22.out) (fun hHeld hCl => ?_)
       clear hK K
       (try simp only [Act.put, List.setIfInBounds_toArray, List.set_cons_zero, List.set_cons_succ])
       refine wpAnyG_pure (i := 10) (d := some 4) (v := ?v42) (by rfl) (by rfl) (by kernel_rfl) (by rfl) ?hy42 (by assumption) (by assumption) (fun hCl hHeld => ?rest42)
       case hy42 =>
        go_simp
        try with_reducible rfl
       (try simp only [Act.put, List.setIfInBounds_toArray, List.set_cons_zero, List.set_cons_succ])
       refine wpAnyG_pure (i := 11) (d := some 5) (v := ?v43) (by rfl) (by rfl) (by kernel_rfl) (by rfl) ?hy43 (by assumption) (by assumption) (fun hCl hHeld => ?rest43)
       case hy43 =>
        go_simp
        try with_reducible rfl
       (try simp only [Act.put, List.setIfInBounds_toArray, List.set_cons_zero, List.set_cons_succ])
       refine wpAnyG_done (by kernel_rfl) ?_ _
       have HI9 := Lib.hid HI_22.out
       clear HI_22 HY_22
       go_wp2
       go_roundw
       case rel => exact ⟨j + 1, stepN nd y.p, by go_num, by omega, HQ, by rw [HT1.out, HT2.out]; exact HI9⟩
       case measure => simp [intOf]; omega
      ·refine step_build1 kdRX (.tmp 50) (rowXs y) (by rfl) ?_
       refine And.intro ⟨by rfl, by rfl⟩ ?_
       intro rx23 W23 hx23 hb23
       have HI_23 := Lib.hid (HI_19.out.low hb23)
       have HY_23 := Lib.hid (HY_19.out.below hb23)
       have HXrx_23 := Lib.hid hx23
       have HXrp_19_23 := Lib.hid (HXrp_19.out.below hb23)
       clear hx23 hb23
       refine hK.out _ _ (fun _ => HY_23.out) (fun hHeld hCl => ?_)
       clear hK K
       (try simp only [Act.put, List.setIfInBounds_toArray, List.set_cons_zero, List.set_cons_succ])
       refine wpAnyG_ready (rs := [4]) (by kernel_rfl) (by simp) ?_
       refine AllReadyG.cons rfl (by assumption) (by kernel_rfl) (fun K hK => ?_) AllReadyG.nil
       refine step_one kdRP (.tmp 43) (.tmp 46) rfl (by rfl) (B := V.heap.size) (g0 := rp19) (u := .slice A4 P4.length c4) (es := P4) (e := rowPs y) ?_
       refine And.intro ⟨⟨by rfl, by rfl⟩, HXrp_19_23.out, HI_23.out.r4, HI_23.out.below.size, by have z1 := HI_23.out.few4; omega⟩ ?_
       intro u24 W24 hg24
       have HI_24 := Lib.hid (HI_23.out.app4 hg24 (by omega))
       have HY_24 := Lib.hid (has_other HY_23.out HI_23.out.r4 hg24.chg (by decide))
       have HXrx_23_24 := Lib.hid (has_other HXrx_23.out HI_23.out.r4 hg24.chg (by decide))
       clear hg24
       refine hK.out _ _ (fun _ => HY_24.out) (fun hHeld hCl => ?_)
       clear hK K
       (try simp only [Act.put, List.setIfInBounds_toArray, List.set_cons_zero, List.set_cons_succ])
       refine wpAnyG_ready (rs := [9]) (by kernel_rfl) (by simp) ?_
       refine AllReadyG.cons rfl (by assumption) (by kernel_rfl) (fun K hK => ?_) AllReadyG.nil
       refine step_one kdRX (.tmp 48) (.tmp 51) rfl (by rfl) (B := V.heap.size) (g0 := rx23) (u := .slice A5 P5.length c5) (es := P5) (e := rowXs y) ?_
       refine And.intro ⟨⟨by rfl, by rfl⟩, HXrx_23_24.out, HI_24.out.r5, HI_24.out.below.size, by have z1 := HI_24.out.few5; omega⟩ ?_
       intro u25 W25 hg25
       have HI_25 := Lib.hid (HI_24.out.app5 hg25 (by omega))
       have HY_25 := Lib.hid (has_other HY_24.out HI_24.out.r5 hg25.chg (by decide))
       clear hg25
       refine hK.out _ _ (fun _ => HY_25.out) (fun hHeld hCl => ?_)
       clear hK K
       (try simp only [Act.put, List.setIfInBounds_toArray, List.set_cons_zero, List.set_cons_succ])
       refine wpAnyG_pure (i := 10) (d := some 4) (v := ?v44) (by rfl) (by rfl) (by kernel_rfl) (by rfl) ?hy44 (by assumption) (by assumption) (fun hCl hHeld => ?rest44)
       case hy44 =>
        go_simp
        try with_reducible rfl
       (try simp only [Act.put, List.setIfInBounds_toArray, List.set_cons_zero, List.set_cons_succ])
       refine wpAnyG_pure (i := 11) (d := some 5) (v := ?v45) (by rfl) (by rfl) (by kernel_rfl) (by rfl) ?hy45 (by assumption) (by assumption) (fun hCl hHeld => ?rest45)
       case hy45 =>
        go_simp
        try with_reducible rfl
       (try simp only [Act.put, List.setIfInBounds_toArray, List.set_cons_zero, List.set_cons_succ])
       refine wpAnyG_done (by kernel_rfl) ?_ _
       have HI9 := Lib.hid HI_25.out
       clear HI_25 HY_25
       go_wp2
       go_roundw
       case rel => exact ⟨j + 1, stepN nd y.p, by go_num, by omega, HQ, by rw [HT1.out, HT2.out]; exact HI9⟩
       case measure => simp [intOf]; omega
     ·refine step_build1 kdRX (.tmp 50) (rowXs y) (by rfl) ?_
      refine And.intro ⟨by rfl, by rfl⟩ ?_
      intro rx26 W26 hx26 hb26
      have HI_26 := Lib.hid (HI6.out.low hb26)
      have HY_26 := Lib.hid (HY6.out.below hb26)
      have HXrx_26 := Lib.hid hx26
      clear hx26 hb26
      refine hK.out _ _ (fun _ => HY_26.out) (fun hHeld hCl => ?_)
      clear hK K
      (try simp only [Act.put, List.setIfInBounds_toArray, List.set_cons_zero, List.set_cons_succ])
      refine wpAnyG_ready (rs := [3]) (by kernel_rfl) (by simp) ?_
      refine AllReadyG.cons rfl (by assumption) (by kernel_rfl) (fun K hK => ?_) AllReadyG.nil
      refine step_build1 kdRP (.tmp 45) (rowPs y) (by rfl) ?_
      refine And.intro ⟨by rfl, by rfl⟩ ?_
      intro rp27 W27 hx27 hb27
      have HI_27 := Lib.hid (HI_26.out.low hb27)
      have HY_27 := Lib.hid (HY_26.out.below hb27)
      have HXrp_27 := Lib.hid hx27
      have HXrx_26_27 := Lib.hid (HXrx_26.out.below hb27)
      clear hx27 hb27
      refine hK.out _ _ (fun _ => HY_27.out) (fun hHeld hCl => ?_)
      clear hK K
      (try simp only [Act.put, List.setIfInBounds_toArray, List.set_cons_zero, List.set_cons_succ])
      refine wpAnyG_ready (rs := [4]) (by kernel_rfl) (by simp) ?_
      refine AllReadyG.cons rfl (by assumption) (by kernel_rfl) (fun K hK => ?_) AllReadyG.nil
      refine step_one kdRP (.tmp 43) (.tmp 46) rfl (by rfl) (B := V.heap.size) (g0 := rp27) (u := .slice A4 P4.length c4) (es := P4) (e := rowPs y) ?_
      refine And.intro ⟨⟨by rfl, by rfl⟩, HXrp_27.out, HI_27.out.r4, HI_27.out.below.size, by have z1 := HI_27.out.few4; omega⟩ ?_
      intro u28 W28 hg28
      have HI_28 := Lib.hid (HI_27.out.app4 hg28 (by omega))
      have HY_28 := Lib.hid (has_other HY_27.out HI_27.out.r4 hg28.chg (by decide))
      have HXrx_26_27_28 := Lib.hid (has_other HXrx_26_27.out HI_27.out.r4 hg28.chg (by decide))
      clear hg28
      refine hK.out _ _ (fun _ => HY_28.out) (fun hHeld hCl => ?_)
      clear hK K
      (try simp only [Act.put, List.setIfInBounds_toArray, List.set_cons_zero, List.set_cons_succ])
      refine wpAnyG_ready (rs := [9]) (by kernel_rfl) (by simp) ?_
      refine AllReadyG.cons rfl (by assumption) (by kernel_rfl) (fun K hK => ?_) AllReadyG.nil
      refine step_one kdRX (.tmp 48) (.tmp 51) rfl (by rfl) (B := V.heap.size) (g0 := rx26) (u := .slice A5 P5.length c5) (es := P5) (e := rowXs y) ?_
      refine And.intro ⟨⟨by rfl, by rfl⟩, HXrx_26_27_28.out, HI_28.out.r5, HI_28.out.below.size, by have z1 := HI_28.out.few5; omega⟩ ?_
      intro u29 W29 hg29
      have HI_29 := Lib.hid (HI_28.out.app5 hg29 (by omega))
      have HY_29 := Lib.hid (has_other HY_28.out HI_28.out.r5 hg29.chg (by decide))
      clear hg29
      refine hK.out _ _ (fun _ => HY_29.out) (fun hHeld hCl => ?_)
      clear hK K
      (try simp only [Act.put, List.setIfInBounds_toArray, List.set_cons_zero, List.set_cons_succ])
      refine wpAnyG_pure (i := 10) (d := some 4) (v := ?v46) (by rfl) (by rfl) (by kernel_rfl) (by rfl) ?hy46 (by assumption) (by assumption) (fun hCl hHeld => ?rest46)
      case hy46 =>
       go_simp
       try with_reducible rfl
      (try simp only [Act.put, List.setIfInBounds_toArray, List.set_cons_zero, List.set_cons_succ])
      refine wpAnyG_pure (i := 11) (d := some 5) (v := ?v47) (by rfl) (by rfl) (by kernel_rfl) (by rfl) ?hy47 (by assumption) (by assumption) (fun hCl hHeld => ?rest47)
      case hy47 =>
       go_simp
       try with_reducible rfl
      (try simp only [Act.put, List.setIfInBounds_toArray, List.set_cons_zero, List.set_cons_succ])
      refine wpAnyG_done (by kernel_rfl) ?_ _
      have HI9 := Lib.hid HI_29.out
      clear HI_29 HY_29
      go_wp2
      go_roundw
      case rel => exact ⟨j + 1, stepN nd y.p, by go_num, by omega, HQ, by rw [HT1.out, HT2.out]; exact HI9⟩
      case measure => simp [intOf]; omega
   ·refine step_bZ (.tmp 36) (.tmp 38) (szN n2) (szN y.p) (by rfl) ?_
    refine And.intro ⟨by rfl, by rfl, by rfl⟩ ?_
    intro rz30 W30 hx30 hb30
    have HI_30 := Lib.hid (HI3.out.low hb30)
    have HY_30 := Lib.hid (HY3.out.below hb30)
    have HRrz_30 := Lib.hid (srow_twoZ hx30)
    clear hx30 hb30
    refine hK.out _ _ (fun _ => ⟨HI_30.out.h3, HY_30.out⟩) (fun hHeld hCl => ?_)
    clear hK K
    (try simp only [Act.put, List.setIfInBounds_toArray, List.set_cons_zero, List.set_cons_succ])
    refine wpAnyG_ready (rs := [4]) (by kernel_rfl) (by simp) ?_
    refine AllReadyG.cons rfl (by assumption) (by kernel_rfl) (fun K hK => ?_) AllReadyG.nil
    refine step_bA (.tmp 30) (.tmp 32) (atN n2) (atN y.p) (by rfl) ?_
    refine And.intro ⟨by rfl, by rfl, by rfl⟩ ?_
    intro ra31 W31 hx31 hb31
    have HI_31 := Lib.hid (HI_30.out.low hb31)
    have HY_31 := Lib.hid (HY_30.out.below hb31)
    have HRra_31 := Lib.hid (srow_twoA hx31)
    have HRrz_30_31 := Lib.hid (HRrz_30.out.below hb31)
    clear hx31 hb31
    refine hK.out _ _ (fun _ => ⟨HI_31.out.h3, HY_31.out⟩) (fun hHeld hCl => ?_)
    clear hK K
    (try simp only [Act.put, List.setIfInBounds_toArray, List.set_cons_zero, List.set_cons_succ])
    refine wpAnyG_ready (rs := [5]) (by kernel_rfl) (by simp) ?_
    refine AllReadyG.cons rfl (by assumption) (by kernel_rfl) (fun K hK => ?_) AllReadyG.nil
    go_simp
    go_at_call 75
    refine (lastA2 (atN n2) (atN y.p) _ HRra_31.out).mono ?_
    rintro e W32 ⟨rfl, hb32⟩
    have HI_32 := Lib.hid (HI_31.out.low hb32)
    have HY_32 := Lib.hid (HY_31.out.below hb32)
    have HRrz_30_31_32 := Lib.hid (HRrz_30_31.out.below hb32)
    have HRra_31_32 := Lib.hid (HRra_31.out.below hb32)
    clear hb32
    refine hK.out _ _ (fun _ => ⟨HI_32.out.h3, HY_32.out⟩) (fun hHeld hCl => ?_)
    clear hK K
    (try simp only [Act.put, List.setIfInBounds_toArray, List.set_cons_zero, List.set_cons_succ])
    refine wpAnyG_read (i := 12) (d := some 41) (v := ?v48) (by rfl) (by rfl) (by kernel_rfl) (by kernel_rfl) (by kernel_rfl) (by kernel_rfl) (by assumption) (fun _ _ _ h => h) (by rfl) ?hy48 (by assumption) (fun hCl hHeld => ?rest48)
    case hy48 =>
     intro w hSw
     go_simp
     try with_reducible rfl
    (try simp only [Act.put, List.setIfInBounds_toArray, List.set_cons_zero, List.set_cons_succ])
    refine wpAnyG_ready (rs := [11]) (by kernel_rfl) (by simp) ?_
    refine AllReadyG.cons rfl (by assumption) (by kernel_rfl) (fun K hK => ?_) AllReadyG.nil
    go_simp
    go_at_call 77
    refine (lastZ2 (szN n2) (szN y.p) _ HRrz_30_31_32.out).mono ?_
    rintro e W33 ⟨rfl, hb33⟩
    have HI_33 := Lib.hid (HI_32.out.low hb33)
    have HY_33 := Lib.hid (HY_32.out.below hb33)
    have HRrz_30_31_32_33 := Lib.hid (HRrz_30_31_32.out.below hb33)
    have HRra_31_32_33 := Lib.hid (HRra_31_32.out.below hb33)
    clear hb33
    refine hK.out _ _ (fun _ => ⟨HI_33.out.h3, HY_33.out⟩) (fun hHeld hCl => ?_)
    clear hK K
    (try simp only [Act.put, List.setIfInBounds_toArray, List.set_cons_zero, List.set_cons_succ])
    refine wpAnyG_ready (rs := [13]) (by kernel_rfl) (by simp) ?_
    refine AllReadyG.cons rfl (by assumption) (by kernel_rfl) (fun K hK => ?_) AllReadyG.nil
    refine stepG_store (T := 46) 40 (.tmp 41) (.tmp 34) (by rfl) g3 4 (Fc.nodeC (atP x n2)) (attrC (top ltA (atN n2) (atN y.p))) (Fc.nodeC (atP x { n2 with aat := (top ltA (atN n2) (atN y.p)).1, mode := (top ltA (atN n2) (atN y.p)).2.1, time := (top ltA (atN n2) (atN y.p)).2.2 })) ?_
    refine And.intro ⟨by rfl, by rfl, by rfl, by rfl, infoA, oneA _, of_decide_eq_true rfl, by kernel_rfl, HI_33.out.h3⟩ ?_
    intro W7 HK7 HC7
    refine hK.out _ _ (late (by rfl)) (fun hHeld hCl => ?_)
    clear hK K
    (try simp only [Act.put, List.setIfInBounds_toArray, List.set_cons_zero, List.set_cons_succ])
    refine wpAnyG_pure (i := 14) (d := some 42) (v := ?v49) (by rfl) (by rfl) (by kernel_rfl) (by rfl) ?hy49 (by assumption) (by assumption) (fun hCl hHeld => ?rest49)
    case hy49 =>
     go_simp
     try with_reducible rfl
    (try simp only [Act.put, List.setIfInBounds_toArray, List.set_cons_zero, List.set_cons_succ])
    refine wpAnyG_ready (rs := [15]) (by kernel_rfl) (by simp) ?_
    refine AllReadyG.cons rfl (by assumption) (by kernel_rfl) (fun K hK => ?_) AllReadyG.nil
    refine stepG_store (T := 46) 42 (.tmp 42) (.tmp 40) (by rfl) g3 8 (Fc.nodeC (atP x { n2 with aat := (top ltA (atN n2) (atN y.p)).1, mode := (top ltA (atN n2) (atN y.p)).2.1, time := (top ltA (atN n2) (atN y.p)).2.2 })) (sizeC (top ltZ (szN n2) (szN y.p))) (Fc.nodeC (atP x { n2 with aat := (top ltA (atN n2) (atN y.p)).1, mode := (top ltA (atN n2) (atN y.p)).2.1, time := (top ltA (atN n2) (atN y.p)).2.2, sat := (top ltZ (szN n2) (szN y.p)).1, n := (top ltZ (szN n2) (szN y.p)).2 })) ?_
    refine And.intro ⟨by rfl, by rfl, by rfl, by rfl, infoZ, oneZ _, of_decide_eq_true rfl, by kernel_rfl, HK7.out⟩ ?_
    intro W8 HK8 HC8
    refine hK.out _ _ (late (by rfl)) (fun hHeld hCl => ?_)
    clear hK K
    (try simp only [Act.put, List.setIfInBounds_toArray, List.set_cons_zero, List.set_cons_succ])
    refine wpAnyG_done (by kernel_rfl) ?_ _
    have HI5 := Lib.hid ((HI_33.out.put HK7.out HC7.out).put HK8.out HC8.out)
    rw [HSP.out] at HI5
    have HY5 := Lib.hid ((HY_33.out.over HC7.out HNE.out).over HC8.out HNE.out)
    clear HK7 HC7 HK8 HC8 HI_33 HY_33
    go_wp2
    refine wp_region_G 11 (S := fun V => Has V g7 46 (Fc.nodeC y)) (by kernel_rfl) HY5.out.drew (fun hHeld hCl => ?_)
    have HI6 := Lib.hid HI5.out.drew
    have HY6 := Lib.hid HY5.out.drew
    clear HI5 HY5
    refine wpAnyG_read (i := 0) (d := some 43) (v := ?v50) (by rfl) (by rfl) (by kernel_rfl) (by kernel_rfl) (by kernel_rfl) (by kernel_rfl) (by assumption) (fun _ _ _ h => h) (by rfl) ?hy50 (by assumption) (fun hCl hHeld => ?rest50)
    case hy50 =>
     intro w hSw
     go_simp
     try with_reducible rfl
    (try simp only [Act.put, List.setIfInBounds_toArray, List.set_cons_zero, List.set_cons_succ])
    refine wpAnyG_read (i := 1) (d := some 44) (v := ?v51) (by rfl) (by rfl) (by kernel_rfl) (by kernel_rfl) (by kernel_rfl) (by kernel_rfl) (by assumption) (fun _ _ _ h => h) (by rfl) ?hy51 (by assumption) (fun hCl hHeld => ?rest51)
    case hy51 =>
     intro w hSw
     go_simp
     try with_reducible rfl
    (try simp only [Act.put, List.setIfInBounds_toArray, List.set_cons_zero, List.set_cons_succ])
    refine wpAnyG_read (i := 2) (d := some 45) (v := .slice y.A1 y.n1 y.c1) (by rfl) (by rfl) (by kernel_rfl) (by kernel_rfl) (by kernel_rfl) (by kernel_rfl) (by assumption) (fun _ _ _ h => h) (by rfl) ?hy52 (by assumption) (fun hCl hHeld => ?rest52)
    case hy52 =>
     intro w hSw
     have c := hSw.at_ 11
     replace c : w.cell? ⟨g7, 11, none⟩ = some (.slice y.A1 y.n1 y.c1) := c
     go_simp
    (try simp only [Act.put, List.setIfInBounds_toArray, List.set_cons_zero, List.set_cons_succ])
    refine wpAnyG_read (i := 5) (d := some 48) (v := ?v53) (by rfl) (by rfl) (by kernel_rfl) (by kernel_rfl) (by kernel_rfl) (by kernel_rfl) (by assumption) (fun _ _ _ h => h) (by rfl) ?hy53 (by assumption) (fun hCl hHeld => ?rest53)
    case hy53 =>
     intro w hSw
     go_simp
     try with_reducible rfl
    (try simp only [Act.put, List.setIfInBounds_toArray, List.set_cons_zero, List.set_cons_succ])
    refine wpAnyG_read (i := 6) (d := some 49) (v := ?v54) (by rfl) (by rfl) (by kernel_rfl) (by kernel_rfl) (by kernel_rfl) (by kernel_rfl) (by assumption) (fun _ _ _ h => h) (by rfl) ?hy54 (by assumption) (fun hCl hHeld => ?rest54)
    case hy54 =>
     intro w hSw
     go_simp
     try with_reducible rfl
    (try simp only [Act.put, List.setIfInBounds_toArray, List.set_cons_zero, List.set_cons_succ])
    refine wpAnyG_read (i := 7) (d := some 50) (v := .slice y.A2 y.n2 y.c2) (by rfl) (by rfl) (by kernel_rfl) (by kernel_rfl) (by kernel_rfl) (by kernel_rfl) (by assumption) (fun _ _ _ h => h) (by rfl) ?hy55 (by assumption) (fun hCl hHeld => ?rest55)
    case hy55 =>
     intro w hSw
     have c := hSw.at_ 12
     replace c : w.cell? ⟨g7, 12, none⟩ = some (.slice y.A2 y.n2 y.c2) := c
     go_simp
    (try simp only [Act.put, List.setIfInBounds_toArray, List.set_cons_zero, List.set_cons_succ])
    refine wpAnyG_ready (rs := [3, 8]) (by kernel_rfl) (by simp) ?_
    refine AllReadyG.cons rfl (by assumption) (by kernel_rfl) (fun K hK => ?_) (AllReadyG.cons rfl (by assumption) (by kernel_rfl) (fun K hK => ?_) AllReadyG.nil)
    ·refine step_build1 kdRP (.tmp 45) (rowPs y) (by rfl) ?_
     refine And.intro ⟨by rfl, by rfl⟩ ?_
     intro rp34 W34 hx34 hb34
     have HI_34 := Lib.hid (HI6.out.low hb34)
     have HY_34 := Lib.hid (HY6.out.below hb34)
     have HXrp_34 := Lib.hid hx34
     clear hx34 hb34
     refine hK.out _ _ (fun _ => HY_34.out) (fun hHeld hCl => ?_)
     clear hK K
     (try simp only [Act.put, List.setIfInBounds_toArray, List.set_cons_zero, List.set_cons_succ])
     refine wpAnyG_ready (rs := [4, 8]) (by kernel_rfl) (by simp) ?_
     refine AllReadyG.cons rfl (by assumption) (by kernel_rfl) (fun K hK => ?_) (AllReadyG.cons rfl (by assumption) (by kernel_rfl) (fun K hK => ?_) AllReadyG.nil)
     ·refine step_one kdRP (.tmp 43) (.tmp 46) rfl (by rfl) (B := V.heap.size) (g0 := rp34) (u := .slice A4 P4.length c4) (es := P4) (e := rowPs y) ?_
      refine And.intro ⟨⟨by rfl, by rfl⟩, HXrp_34.out, HI_34.out.r4, HI_34.out.below.size, by have z1 := HI_34.out.few4; omega⟩ ?_
      intro u35 W35 hg35
      have HI_35 := Lib.hid (HI_34.out.app4 hg35 (by omega))
      have HY_35 := Lib.hid (has_other HY_34.out HI_34.out.r4 hg35.chg (by decide))
      clear hg35
      refine hK.out _ _ (fun _ => HY_35.out) (fun hHeld hCl => ?_)
      clear hK K
      (try simp only [Act.put, List.setIfInBounds_toArray, List.set_cons_zero, List.set_cons_succ])
      refine wpAnyG_ready (rs := [8]) (by kernel_rfl) (by simp) ?_
      refine AllReadyG.cons rfl (by assumption) (by kernel_rfl) (fun K hK => ?_) AllReadyG.nil
      refine step_build1 kdRX (.tmp 50) (rowXs y) (by rfl) ?_
      refine And.intro ⟨by rfl, by rfl⟩ ?_
      intro rx36 W36 hx36 hb36
      have HI_36 := Lib.hid (HI_35.out.low hb36)
      have HY_36 := Lib.hid (HY_35.out.below hb36)
      have HXrx_36 := Lib.hid hx36
      clear hx36 hb36
      refine hK.out _ _ (fun _ => HY_36.out) (fun hHeld hCl => ?_)
      clear hK K
      (try simp only [Act.put, List.setIfInBounds_toArray, List.set_cons_zero, List.set_cons_succ])
      refine wpAnyG_ready (rs := [9]) (by kernel_rfl) (by simp) ?_
      refine AllReadyG.cons rfl (by assumption) (by kernel_rfl) (fun K hK => ?_) AllReadyG.nil
      refine step_one kdRX (.tmp 48) (.tmp 51) rfl (by rfl) (B := V.heap.size) (g0 := rx36) (u := .slice A5 P5.length c5) (es := P5) (e := rowXs y) ?_
      refine And.intro ⟨⟨by rfl, by rfl⟩, HXrx_36.out, HI_36.out.r5, HI_36.out.below.size, by have z1 := HI_36.out.few5; omega⟩ ?_
      intro u37 W37 hg37
      have HI_37 := Lib.hid (HI_36.out.app5 hg37 (by omega))
      have HY_37 := Lib.hid (has_other HY_36.out HI_36.out.r5 hg37.chg (by decide))
      clear hg37
      refine hK.out _ _ (fun _ => HY_37.out) (fun hHeld hCl => ?_)
      clear hK K
      (try simp only [Act.put, List.setIfInBounds_toArray, List.set_cons_zero, List.set_cons_succ])
      refine wpAnyG_pure (i := 10) (d := some 4) (v := ?v56) (by rfl) (by rfl) (by kernel_rfl) (by rfl) ?hy56 (by assumption) (by assumption) (fun hCl hHeld => ?rest56)
      case hy56 =>
       go_simp
       try with_reducible rfl
      (try simp only [Act.put, List.setIfInBounds_toArray, List.set_cons_zero, List.set_cons_succ])
      refine wpAnyG_pure (i := 11) (d := some 5) (v := ?v57) (by rfl) (by rfl) (by kernel_rfl) (by rfl) ?hy57 (by assumption) (by assumption) (fun hCl hHeld => ?rest57)
      case hy57 =>
       go_simp
       try with_reducible rfl
      (try simp only [Act.put, List.setIfInBounds_toArray, List.set_cons_zero, List.set_cons_succ])
      refine wpAnyG_done (by kernel_rfl) ?_ _
      have HI9 := Lib.hid HI_37.out
      clear HI_37 HY_37
      go_wp2
      go_roundw
      case rel => exact ⟨j + 1, stepN nd y.p, by go_num, by omega, HQ, by rw [HT1.out, HT2.out]; exact HI9⟩
      case measure => simp [intOf]; omega
     ·refine step_build1 kdRX (.tmp 50) (rowXs y) (by rfl) ?_
      refine And.intro ⟨by rfl, by rfl⟩ ?_
      intro rx38 W38 hx38 hb38
      have HI_38 := Lib.hid (HI_34.out.low hb38)
      have HY_38 := Lib.hid (HY_34.out.below hb38)
      have HXrx_38 := Lib.hid hx38
      have HXrp_34_38 := Lib.hid (HXrp_34.out.below hb38)
      clear hx38 hb38
      refine hK.out _ _ (fun _ => HY_38.out) (fun hHeld hCl => ?_)
      clear hK K
      (try simp only [Act.put, List.setIfInBounds_toArray, List.set_cons_zero, List.set_cons_succ])
      refine wpAnyG_ready (rs := [4]) (by kernel_rfl) (by simp) ?_
      refine AllReadyG.cons rfl (by assumption) (by kernel_rfl) (fun K hK => ?_) AllReadyG.nil
      refine step_one kdRP (.tmp 43) (.tmp 46) rfl (by rfl) (B := V.heap.size) (g0 := rp34) (u := .slice A4 P4.length c4) (es := P4) (e := rowPs y) ?_
      refine And.intro ⟨⟨by rfl, by rfl⟩, HXrp_34_38.out, HI_38.out.r4, HI_38.out.below.size, by have z1 := HI_38.out.few4; omega⟩ ?_
      intro u39 W39 hg39
      have HI_39 := Lib.hid (HI_38.out.app4 hg39 (by omega))
      have HY_39 := Lib.hid (has_other HY_38.out HI_38.out.r4 hg39.chg (by decide))
      have HXrx_38_39 := Lib.hid (has_other HXrx_38.out HI_38.out.r4 hg39.chg (by decide))
      clear hg39
      refine hK.out _ _ (fun _ => HY_39.out) (fun hHeld hCl => ?_)
      clear hK K
      (try simp only [Act.put, List.setIfInBounds_toArray, List.set_cons_zero, List.set_cons_succ])
      refine wpAnyG_ready (rs := [9]) (by kernel_rfl) (by simp) ?_
      refine AllReadyG.cons rfl (by assumption) (by kernel_rfl) (fun K hK => ?_) AllReadyG.nil
      refine step_one kdRX (.tmp 48) (.tmp 51) rfl (by rfl) (B := V.heap.size) (g0 := rx38) (u := .slice A5 P5.length c5) (es := P5) (e := rowXs y) ?_
      refine And.intro ⟨⟨by rfl, by rfl⟩, HXrx_38_39.out, HI_39.out.r5, HI_39.out.below.size, by have z1 := HI_39.out.few5; omega⟩ ?_
      intro u40 W40 hg40
      have HI_40 := Lib.hid (HI_39.out.app5 hg40 (by omega))
      have HY_40 := Lib.hid (has_other HY_39.out HI_39.out.r5 hg40.chg (by decide))
      clear hg40
      refine hK.out _ _ (fun _ => HY_40.out) (fun hHeld hCl => ?_)
      clear hK K
      (try simp only [Act.put, List.setIfInBounds_toArray, List.set_cons_zero, List.set_cons_succ])
      refine wpAnyG_pure (i := 10) (d := some 4) (v := ?v58) (by rfl) (by rfl) (by kernel_rfl) (by rfl) ?hy58 (by assumption) (by assumption) (fun hCl hHeld => ?rest58)
      case hy58 =>
       go_simp
       try with_reducible rfl
      (try simp only [Act.put, List.setIfInBounds_toArray, List.set_cons_zero, List.set_cons_succ])
      refine wpAnyG_pure (i := 11) (d := some 5) (v := ?v59) (by rfl) (by rfl) (by kernel_rfl) (by rfl) ?hy59 (by assumption) (by assumption) (fun hCl hHeld => ?rest59)
      case hy59 =>
       go_simp
       try with_reducible rfl
      (try simp only [Act.put, List.setIfInBounds_toArray, List.set_cons_zero, List.set_cons_succ])
      refine wpAnyG_done (by kernel_rfl) ?_ _
      have HI9 := Lib.hid HI_40.out
      clear HI_40 HY_40
      go_wp2
      go_roundw
      case rel => exact ⟨j + 1, stepN nd y.p, by go_num, by omega, HQ, by rw [HT1.out, HT2.out]; exact HI9⟩
      case measure => simp [intOf]; omega
    ·refine step_build1 kdRX (.tmp 50) (rowXs y) (by rfl) ?_
     refine And.intro ⟨by rfl, by rfl⟩ ?_
     intro rx41 W41 hx41 hb41
     have HI_41 := Lib.hid (HI6.out.low hb41)
     have HY_41 := Lib.hid (HY6.out.below hb41)
     have HXrx_41 := Lib.hid hx41
     clear hx41 hb41
     refine hK.out _ _ (fun _ => HY_41.out) (fun hHeld hCl => ?_)
     clear hK K
     (try simp only [Act.put, List.setIfInBounds_toArray, List.set_cons_zero, List.set_cons_succ])
     refine wpAnyG_ready (rs := [3]) (by kernel_rfl) (by simp) ?_
     refine AllReadyG.cons rfl (by assumption) (by kernel_rfl) (fun K hK => ?_) AllReadyG.nil
     refine step_build1 kdRP (.tmp 45) (rowPs y) (by rfl) ?_
     refine And.intro ⟨by rfl, by rfl⟩ ?_
     intro rp42 W42 hx42 hb42
     have HI_42 := Lib.hid (HI_41.out.low hb42)
     have HY_42 := Lib.hid (HY_41.out.below hb42)
     have HXrp_42 := Lib.hid hx42
     have HXrx_41_42 := Lib.hid (HXrx_41.out.below hb42)
     clear hx42 hb42
     refine hK.out _ _ (fun _ => HY_42.out) (fun hHeld hCl => ?_)
     clear hK K
     (try simp only [Act.put, List.setIfInBounds_toArray, List.set_cons_zero, List.set_cons_succ])
     refine wpAnyG_ready (rs := [4]) (by kernel_rfl) (by simp) ?_
     refine AllReadyG.cons rfl (by assumption) (by kernel_rfl) (fun K hK => ?_) AllReadyG.nil
     refine step_one kdRP (.tmp 43) (.tmp 46) rfl (by rfl) (B := V.heap.size) (g0 := rp42) (u := .slice A4 P4.length c4) (es := P4) (e := rowPs y) ?_
     refine And.intro ⟨⟨by rfl, by rfl⟩, HXrp_42.out, HI_42.out.r4, HI_42.out.below.size, by have z1 := HI_42.out.few4; omega⟩ ?_
     intro u43 W43 hg43
     have HI_43 := Lib.hid (HI_42.out.app4 hg43 (by omega))
     have HY_43 := Lib.hid (has_other HY_42.out HI_42.out.r4 hg43.chg (by decide))
     have HXrx_41_42_43 := Lib.hid (has_other HXrx_41_42.out HI_42.out.r4 hg43.chg (by decide))
     clear hg43
     refine hK.out _ _ (fun _ => HY_43.out) (fun hHeld hCl => ?_)
     clear hK K
     (try simp only [Act.put, List.setIfInBounds_toArray, List.set_cons_zero, List.set_cons_succ])
     refine wpAnyG_ready (rs := [9]) (by kernel_rfl) (by simp) ?_
     refine AllReadyG.cons rfl (by assumption) (by kernel_rfl) (fun K hK => ?_) AllReadyG.nil
     refine step_one kdRX (.tmp 48) (.tmp 51) rfl (by rfl) (B := V.heap.size) (g0 := rx41) (u := .slice A5 P5.length c5) (es := P5) (e := rowXs y) ?_
     refine And.intro ⟨⟨by rfl, by rfl⟩, HXrx_41_42_43.out, HI_43.out.r5, HI_43.out.below.size, by have z1 := HI_43.out.few5; omega⟩ ?_
     intro u44 W44 hg44
     have HI_44 := Lib.hid (HI_43.out.app5 hg44 (by omega))
     have HY_44 := Lib.hid (has_other HY_43.out HI_43.out.r5 hg44.chg (by decide))
     clear hg44
     refine hK.out _ _ (fun _ => HY_44.out) (fun hHeld hCl => ?_)
     clear hK K
     (try simp only [Act.put, List.setIfInBounds_toArray, List.set_cons_zero, List.set_cons_succ])
     refine wpAnyG_pure (i := 10) (d := some 4) (v := ?v60) (by rfl) (by rfl) (by kernel_rfl) (by rfl) ?hy60 (by assumption) (by assumption) (fun hCl hHeld => ?rest60)
     case hy60 =>
      go_simp
      try with_reducible rfl
     (try simp only [Act.put, List.setIfInBounds_toArray, List.set_cons_zero, List.set_cons_succ])
     refine wpAnyG_pure (i := 11) (d := some 5) (v := ?v61) (by rfl) (by rfl) (by kernel_rfl) (by rfl) ?hy61 (by assumption) (by assumption) (fun hCl hHeld => ?rest61)
     case hy61 =>
      go_simp
      try with_reducible rfl
     (try simp only [Act.put, List.setIfInBounds_toArray, List.set_cons_zero, List.set_cons_succ])
     refine wpAnyG_done (by kernel_rfl) ?_ _
     have HI9 := Lib.hid HI_44.out
     clear HI_44 HY_44
     go_wp2
     go_roundw
     case rel => exact ⟨j + 1, stepN nd y.p, by go_num, by omega, HQ, by rw [HT1.out, HT2.out]; exact HI9⟩
     case measure => simp [intOf]; omega
  ·have hjn : j = n := by omega
   have HT1 := Lib.hid (show ((x :: r).take j).map rowPs = (x :: r).map rowPs by rw [List.take_of_length_le (by rw [HLN.out]; omega)])
   have HT2 := Lib.hid (show ((x :: r).take j).map rowXs = (x :: r).map rowXs by rw [List.take_of_length_le (by rw [HLN.out]; omega)])
   have HQ := Lib.hid (show ((x :: r).map Fc.NodeC.p).foldl stepN x.p = nd by
    have := HQ0.out
    rwa [List.take_of_length_le (by rw [List.length_map, HLN.out]; omega)] at this)
   rw [HT1.out, HT2.out] at HI
   simp only [HT1.out, HT2.out]
   have HFL1 := Lib.hid (show allR ((x :: r).map rowPs) = ((x :: r).map Fc.NodeC.p).flatMap Fc.NodeP.ps by simp [allR, rowPs, List.flatMap_map])
   have HFL2 := Lib.hid (show allR ((x :: r).map rowXs) = ((x :: r).map Fc.NodeC.p).flatMap Fc.NodeP.xs by simp [allR, rowXs, List.flatMap_map])
   have HO1 := Lib.hid (show ∀ W, Below V.heap.size V W → ∀ p ∈ (x :: r).map rowPs, RowOk W 4 Fc.pieceC p from fun W hW p hp => by
    obtain ⟨z, hz, rfl⟩ := List.mem_map.1 hp
    exact ((HIN.out z hz).below hW).ps)
   have HO2 := Lib.hid (show ∀ W, Below V.heap.size V W → ∀ p ∈ (x :: r).map rowXs, RowOk W 5 Fc.xattrC p from fun W hW p hp => by
    obtain ⟨z, hz, rfl⟩ := List.mem_map.1 hp
    exact ((HIN.out z hz).below hW).xs)
   have HL1 := Lib.hid (show ((x :: r).map rowPs).length ≤ 500000 by rw [List.length_map]; exact HLEN.out)
   have HL2 := Lib.hid (show ((x :: r).map rowXs).length ≤ 500000 by rw [List.length_map]; exact HLEN.out)
   have HZ1 := Lib.hid (show 0 < ((x :: r).map rowPs).length by rw [List.length_map]; exact Nat.succ_pos _)
   have HZ2 := Lib.hid (show 0 < ((x :: r).map rowXs).length by rw [List.length_map]; exact Nat.succ_pos _)
   generalize hPS : (x :: r).map rowPs = PS at *
   generalize hXS : (x :: r).map rowXs = XS at *
   clear HT1 HT2 HQ0 hPS hXS HIN
   rcases HI.out.r4.sl with ⟨_, e0⟩ | ⟨g4, cap4, e4, hB4, hlt4, _⟩
   ·exfalso
    have := HZ1.out
    rw [e0] at this
    simp at this
   rcases HI.out.r5.sl with ⟨_, e0⟩ | ⟨gx, capx, e5, hB5, hlt5, _⟩
   ·exfalso
    have := HZ2.out
    rw [e0] at this
    simp at this
   cases e4
   cases e5
   have HM4 := Lib.hid (mergeP_any g4 c4 PS HL1.out HS1.out wr (rows_at (fun _ => rfl) (HI.out.r4.srow (fun _ => rfl)) HZ1.out) (HO1.out wr HI.out.below) (fun _ _ => True) (keepsT _ _ _ _) (oneP_is _ _ _))
   clear hB4 hlt4 hB5 hlt5
   go_wp2_with fail
   refine HM4.out.mono ?_
   rintro e w4 ⟨v, ps2, rfl, ho, hm, _, hb⟩
   have HI4 := Lib.hid (HI.out.low hb)
   have HSZ4 := Lib.hid HI.out.below.size
   have HOP := Lib.hid (ho.mono HI.out.below.size)
   have HMP := Lib.hid (show ps2 = mrgP (((x :: r).map Fc.NodeC.p).flatMap Fc.NodeP.ps) by rw [← HFL1.out]; simp at hm; exact hm)
   clear HM4 hm hb ho HI HFL1
   obtain ⟨A1, c1, rfl, _⟩ := HOP.out.any
   go_wp2_with (first | ((with_reducible refine wpList_cell (T := 46) 43 (.tmp 56) (.tmp 55) rfl g3 11 (Fc.nodeC (atP x nd)) (Fc.nodeC ⟨{ nd with ps := ps2 }, A1, ps2.length, c1, x.A2, x.n2, x.c2⟩) (.slice A1 ps2.length c1) ?_); refine And.intro ⟨rfl, rfl, by rfl, by rfl, info_sp, rfl, of_decide_eq_true rfl, by kernel_rfl, HI4.out.h3⟩ ?_; intro W5 HX5 HC5; (try simp only [Act.put, List.setIfInBounds_toArray, List.set_cons_zero, List.set_cons_succ])) | fail)
   have HI5 := Lib.hid (HI4.out.put HX5.out HC5.out)
   have HOP5 := Lib.hid (own_has HOP.out HI4.out.h3 HC5.out (by decide))
   clear HX5 HC5 HI4 HOP
   have HM5 := Lib.hid (mergeX_any gx c5 XS HL2.out HS2.out W5 (rows_at (fun _ => rfl) (HI5.out.r5.srow (fun _ => rfl)) HZ2.out) (HO2.out W5 HI5.out.below) (fun _ _ => True) (keepsT _ _ _ _) (oneX_is _ _ _))
   go_wp2_with fail
   refine HM5.out.mono ?_
   rintro e w6 ⟨v, xs2, rfl, ho, hm, _, hb⟩
   have HI6 := Lib.hid (HI5.out.low hb)
   have HOP6 := Lib.hid (HOP5.out.below hb)
   have HOX := Lib.hid (ho.mono HI5.out.below.size)
   have HMX := Lib.hid (show xs2 = mrgX (((x :: r).map Fc.NodeC.p).flatMap Fc.NodeP.xs) by rw [← HFL2.out]; simp at hm; exact hm)
   clear HM5 hm hb ho HI5 HFL2 HOP5
   obtain ⟨A2, c2, rfl, _⟩ := HOX.out.any
   go_wp2_with (first | ((with_reducible refine wpList_cell (T := 46) 44 (.tmp 59) (.tmp 58) rfl g3 12 (Fc.nodeC ⟨{ nd with ps := ps2 }, A1, ps2.length, c1, x.A2, x.n2, x.c2⟩) (Fc.nodeC ⟨{ nd with ps := ps2, xs := xs2 }, A1, ps2.length, c1, A2, xs2.length, c2⟩) (.slice A2 xs2.length c2) ?_); refine And.intro ⟨rfl, rfl, by rfl, by rfl, info_sx, rfl, of_decide_eq_true rfl, by kernel_rfl, HI6.out.h3⟩ ?_; intro W7 HX7 HC7; (try simp only [Act.put, List.setIfInBounds_toArray, List.set_cons_zero, List.set_cons_succ])) | ((with_reducible refine Who.wpList_loadC 46 (.tmp 3) rfl (g3) 0 (Fc.nodeC (⟨{ nd with ps := ps2, xs := xs2 }, A1, ps2.length, c1, A2, xs2.length, c2⟩ : Fc.NodeC)) ?_); refine And.intro ⟨by rfl, by rfl, ⟨_, Tryz.underlying46, rfl⟩, infoN⟩ (And.intro (Who.has_range HX7.out) ?_); (try simp only [Act.put, List.setIfInBounds_toArray, List.set_cons_zero, List.set_cons_succ])) | ((with_reducible refine wpList_storeG 46 (.tmp 2) (.tmp 60) rfl (V.heap.size) (zeroN) (Fc.nodeC (⟨{ nd with ps := ps2, xs := xs2 }, A1, ps2.length, c1, A2, xs2.length, c2⟩ : Fc.NodeC)) ?_); refine And.intro ⟨rfl, by rfl, by rfl, infoN, oneN _, rfl, (HI6.out.h2.over HC7.out (by have := HI6.out.g; omega))⟩ ?_; intro W9 HX9 HC9; (try simp only [Act.put, List.setIfInBounds_toArray, List.set_cons_zero, List.set_cons_succ])) | fail)
   have HI7 := Lib.hid (HI6.out.put HX7.out HC7.out)
   have HOP7 := Lib.hid (own_has HOP6.out HI6.out.h3 HC7.out (by decide))
   have HOX7 := Lib.hid (own_has HOX.out HI6.out.h3 HC7.out (by decide))
   have HBF := Lib.hid (below_step HI7.out.below HC9.out (Nat.le_refl _))
   refine bodyPost_ret (v := .agg (Fc.nodeC (⟨{ nd with ps := ps2, xs := xs2 }, A1, ps2.length, c1, A2, xs2.length, c2⟩ : Fc.NodeC))) (Who.results_cell (p := 2) (t := 46) rfl _ _ V.heap.size 0 (Fc.nodeC (⟨{ nd with ps := ps2, xs := xs2 }, A1, ps2.length, c1, A2, xs2.length, c2⟩ : Fc.NodeC)) _ (by rfl) (Who.has_range HX9.out) Tryz.underlying46 rfl infoN) rfl ?_
   refine ⟨_, rfl, ?_, ⟨?_, ?_⟩, HBF.out⟩
   ·have := nodes_one x.p (r.map Fc.NodeC.p)
    rw [show x.p :: r.map Fc.NodeC.p = (x :: r).map Fc.NodeC.p from rfl, HQ.out, ← HMP.out, ← HMX.out] at this
    exact this
   ·exact (own_has HOP7.out HI7.out.h2 HC9.out (by decide)).mono HVS.out
   ·exact (own_has HOX7.out HI7.out.h2 HC9.out (by decide)).mono HVS.out
end Go.Proofs.YtblogecapegbmaaGreat.Jn
