/- Whole structs in and out of memory, their cells a variable: in a list of operations, as results, in a block that is known. -/
import Derived.Test.YtblogecapegbmaaGreatMem
import Derived.Deep.WholeRow
import Derived.Deep.MidRow
import Derived.Deep.QuietTactic
import Derived.BigQuiet
import Derived.Lib.SlicesCompact
import Derived.Tactics2
namespace Go.Proofs.YtblogecapegbmaaGreat.Who
open Go.RowKit Go.Proofs.YtblogecapegbmaaGreat.Mem
set_option linter.unusedVariables false

/-- A whole struct out of memory, in a list of operations, under a guard that is met or none. -/
theorem wpList_loadA {P : Program} {ops : Array Oper} {rest : List Oper} {op : Oper} {a : Act} {w : World} {Q : Exit → Act → World → Prop} (hw : Region.wanted op (yielded ops a.tmps) = true) (ty : TypeId) (x : Operand) (ho : op.op = .load ty x)
  (b o : Nat) (C : Array Value) (d : TypeDesc) (hc : w.rangeAt b o C.toList) (hx : a.eval x = .pointer (some ⟨b, o, none⟩)) (hu : P.underlying ty = some d) (hd : d.isRow = true) (hi : (P.info? ty).map (·.size) = some C.size)
  (h : wpList P ops Q rest (a.put op.dst (.agg C)) w) : wpList P ops Q (op :: rest) a w := by
 refine wpList_step fun K hK => ?_
 rw [if_pos hw]
 exact wp_load_mid ty x ho b o hx C.toList d hc hu hd (by simpa using hi) (hK _ _ (by simpa using h))
theorem wpList_storeA {P : Program} {ops : Array Oper} {rest : List Oper} {op : Oper} {a : Act} {w : World} {Q : Exit → Act → World → Prop} (hgd : op.guard = none) (ty : TypeId) (x y : Operand) (ho : op.op = .store ty x y)
  (b o : Nat) (C : Array Value) (ht : w.there b o C.size) (hx : a.eval x = .pointer (some ⟨b, o, none⟩)) (hy : a.eval y = .agg C) (hi : (P.info? ty).map (·.size) = some C.size) (h1 : C.all (·.oneCell') = true)
  (h : wpList P ops Q rest (a.put op.dst undef) (w.setCells b o C.toList)) : wpList P ops Q (op :: rest) a w :=
 wpList_store_mid hgd ty x y ho b o C hx hy ht hi h1 h
/-- The same, what memory has asked for last (so that an arm of a walk that does not fit fails at once). -/
theorem wpList_loadB {P : Program} {ops : Array Oper} {rest : List Oper} {op : Oper} {a : Act} {w : World} {Q : Exit → Act → World → Prop} (hw : Region.wanted op (yielded ops a.tmps) = true) (ty : TypeId) (x : Operand) (ho : op.op = .load ty x)
  (b o : Nat) (C : Array Value) (d : TypeDesc) (hx : a.eval x = .pointer (some ⟨b, o, none⟩)) (hu : P.underlying ty = some d) (hd : d.isRow = true) (hi : (P.info? ty).map (·.size) = some C.size)
  (h : w.rangeAt b o C.toList ∧ wpList P ops Q rest (a.put op.dst (.agg C)) w) : wpList P ops Q (op :: rest) a w := wpList_loadA hw ty x ho b o C d h.1 hx hu hd hi h.2
theorem wpList_storeB {P : Program} {ops : Array Oper} {rest : List Oper} {op : Oper} {a : Act} {w : World} {Q : Exit → Act → World → Prop} (hgd : op.guard = none) (ty : TypeId) (x y : Operand) (ho : op.op = .store ty x y)
  (b o : Nat) (C : Array Value) (hx : a.eval x = .pointer (some ⟨b, o, none⟩)) (hy : a.eval y = .agg C) (hi : (P.info? ty).map (·.size) = some C.size) (h1 : C.all (·.oneCell') = true)
  (h : w.there b o C.size ∧ wpList P ops Q rest (a.put op.dst undef) (w.setCells b o C.toList)) : wpList P ops Q (op :: rest) a w := wpList_storeA hgd ty x y ho b o C h.1 hx hy hi h1 h.2
/-- The same, the operation alone asked for first. -/
theorem wpList_loadC {P : Program} {ops : Array Oper} {rest : List Oper} {op : Oper} {a : Act} {w : World} {Q : Exit → Act → World → Prop} (ty : TypeId) (x : Operand) (ho : op.op = .load ty x)
  (b o : Nat) (C : Array Value)
  (h : (Region.wanted op (yielded ops a.tmps) = true ∧ a.eval x = .pointer (some ⟨b, o, none⟩) ∧ (∃ d, P.underlying ty = some d ∧ d.isRow = true) ∧ (P.info? ty).map (·.size) = some C.size) ∧ w.rangeAt b o C.toList ∧ wpList P ops Q rest (a.put op.dst (.agg C)) w) : wpList P ops Q (op :: rest) a w := by
 obtain ⟨⟨h1, h2, ⟨d, h3, h4⟩, h5⟩, h6, h7⟩ := h
 exact wpList_loadA h1 ty x ho b o C d h6 h2 h3 h4 h5 h7
theorem wpList_storeC {P : Program} {ops : Array Oper} {rest : List Oper} {op : Oper} {a : Act} {w : World} {Q : Exit → Act → World → Prop} (ty : TypeId) (x y : Operand) (ho : op.op = .store ty x y)
  (b o : Nat) (C : Array Value)
  (h : (op.guard = none ∧ a.eval x = .pointer (some ⟨b, o, none⟩) ∧ a.eval y = .agg C ∧ (P.info? ty).map (·.size) = some C.size ∧ C.all (·.oneCell') = true) ∧ w.there b o C.size ∧ wpList P ops Q rest (a.put op.dst undef) (w.setCells b o C.toList)) : wpList P ops Q (op :: rest) a w := wpList_storeA h.1.1 ty x y ho b o C h.2.1 h.1.2.1 h.1.2.2.1 h.1.2.2.2.1 h.1.2.2.2.2 h.2.2
/-- A new block, and a whole struct stored into it. -/
theorem wpList_new {P : Program} {ops : Array Oper} {rest : List Oper} {o1 o2 : Oper} {a : Act} {w : World} {Q : Exit → Act → World → Prop} (E : TypeId) (p : Tmp) (y : Operand) (h1 : o1.op = .alloc E) (hp : o1.dst = some p) (hg1 : o1.guard = none) (h2 : o2.op = .store E (.tmp p) y) (hg2 : o2.guard = none) (hd2 : o2.dst = none)
  (z C : Array Value) (hz : ∀ w : World, (Instr.alloc E true (.tuple #[])).run P w = .ok (.pointer (some ⟨w.heap.size, 0, none⟩)) (w.alloc (.cells z E)))
  (hx : (a.put (some p) (.pointer (some ⟨w.heap.size, 0, none⟩))).eval (.tmp p) = .pointer (some ⟨w.heap.size, 0, none⟩)) (hy : (a.put (some p) (.pointer (some ⟨w.heap.size, 0, none⟩))).eval y = .agg C)
  (hi : (P.info? E).map (·.size) = some C.size) (hzC : z.size = C.size) (hone : C.all (·.oneCell') = true)
  (h : wpList P ops Q rest (a.put (some p) (.pointer (some ⟨w.heap.size, 0, none⟩))) (w.alloc (.cells C E))) : wpList P ops Q (o1 :: o2 :: rest) a w := by
 refine wpList_plain hg1 fun K hK => ?_
 have e1 : (execOp a.eval o1).run P w = .ok (.value (.pointer (some ⟨w.heap.size, 0, none⟩))) (w.alloc (.cells z E)) := by
  unfold execOp
  simp only [h1, Sem.run_bind, hz, Result.andThen_ok, Sem.run_pure]
 have e2 : o1.wp P a w K Q := by
  unfold Oper.wp
  rw [e1]
  refine hK _ _ ?_
  rw [hp]
  refine wpList_plain hg2 fun K2 hK2 => ?_
  have e3 : (execOp (a.put (some p) (.pointer (some ⟨w.heap.size, 0, none⟩))).eval o2).run P (w.alloc (.cells z E)) = .ok .skip (w.alloc (.cells C E)) := by
   unfold execOp
   simp only [h2, hx, hy, Instr.storeAt, Instr.sureAddr, Sem.run_bind, Sem.run_pure, Result.andThen_ok, run_storeVar_new w E z C hi hzC hone]
  unfold Oper.wp
  rw [e3]
  refine hK2 _ _ ?_
  rw [hd2]
  exact h
 exact e2
theorem wpList_newC {P : Program} {ops : Array Oper} {rest : List Oper} {o1 o2 : Oper} {a : Act} {w : World} {Q : Exit → Act → World → Prop} (E : TypeId) (p : Tmp) (y : Operand) (h1 : o1.op = .alloc E) (hp : o1.dst = some p) (h2 : o2.op = .store E (.tmp p) y)
  (z C : Array Value)
  (h : (o1.guard = none ∧ o2.guard = none ∧ o2.dst = none ∧ (∀ w : World, (Instr.alloc E true (.tuple #[])).run P w = .ok (.pointer (some ⟨w.heap.size, 0, none⟩)) (w.alloc (.cells z E))) ∧ (a.put (some p) (.pointer (some ⟨w.heap.size, 0, none⟩))).eval (.tmp p) = .pointer (some ⟨w.heap.size, 0, none⟩) ∧ (a.put (some p) (.pointer (some ⟨w.heap.size, 0, none⟩))).eval y = .agg C ∧ (P.info? E).map (·.size) = some C.size ∧ z.size = C.size ∧ C.all (·.oneCell') = true)
   ∧ wpList P ops Q rest (a.put (some p) (.pointer (some ⟨w.heap.size, 0, none⟩))) (w.alloc (.cells C E))) : wpList P ops Q (o1 :: o2 :: rest) a w :=
 wpList_new E p y h1 hp h.1.1 h2 h.1.2.1 h.1.2.2.1 z C h.1.2.2.2.1 h.1.2.2.2.2.1 h.1.2.2.2.2.2.1 h.1.2.2.2.2.2.2.1 h.1.2.2.2.2.2.2.2.1 h.1.2.2.2.2.2.2.2.2 h.2
/-- A new block alone. -/
theorem wpList_alloc {P : Program} {ops : Array Oper} {rest : List Oper} {o1 : Oper} {a : Act} {w : World} {Q : Exit → Act → World → Prop} (E : TypeId) (p : Tmp) (h1 : o1.op = .alloc E) (hp : o1.dst = some p) (hg1 : o1.guard = none)
  (z : Array Value) (hz : ∀ w : World, (Instr.alloc E true (.tuple #[])).run P w = .ok (.pointer (some ⟨w.heap.size, 0, none⟩)) (w.alloc (.cells z E)))
  (h : wpList P ops Q rest (a.put (some p) (.pointer (some ⟨w.heap.size, 0, none⟩))) (w.alloc (.cells z E))) : wpList P ops Q (o1 :: rest) a w := by
 refine wpList_plain hg1 fun K hK => ?_
 have e1 : (execOp a.eval o1).run P w = .ok (.value (.pointer (some ⟨w.heap.size, 0, none⟩))) (w.alloc (.cells z E)) := by
  unfold execOp
  simp only [h1, Sem.run_bind, hz, Result.andThen_ok, Sem.run_pure]
 unfold Oper.wp
 rw [e1]
 refine hK _ _ ?_
 rw [hp]
 exact h
/-- In a region that draws its order and only reads: a whole struct loaded. -/
theorem quiet_loadA {P : Program} {C : World → Prop} {o : Oper} {a : Act} {K : Act → Prop} (ty : TypeId) (x : Operand) (ho : o.op = .load ty x)
  (b q : Nat) (cs : Array Value) (d : TypeDesc) (hc : ∀ w, C w → w.rangeAt b q cs.toList) (hx : a.eval x = .pointer (some ⟨b, q, none⟩)) (hu : P.underlying ty = some d) (hd : d.isRow = true) (hi : (P.info? ty).map (·.size) = some cs.size)
  (h : K (a.put o.dst (.agg cs))) : o.quiet P a C K :=
 ⟨.agg cs, fun w hw => by
  unfold Oper.quietAt execOp
  simp only [ho, hx, Instr.loadAt, Instr.sureAddr, Sem.run_bind, Sem.run_pure, Result.andThen_ok, run_loadVar_mid w b q ty cs.toList d (hc w hw) hu hd (by simpa using hi)]
  exact ⟨rfl, rfl⟩, h⟩
/-- The operation of a drawn region that loads a whole struct: what it yields. -/
theorem exec_loadA {P : Program} {ρ : Operand → Value} {o : Oper} {ty : TypeId} {x : Operand} {w : World} {b q : Nat} {C : Array Value} (d : TypeDesc) (ho : o.op = .load ty x) (hx : ρ x = .pointer (some ⟨b, q, none⟩)) (hc : w.rangeAt b q C.toList) (hu : P.underlying ty = some d) (hd : d.isRow = true) (hi : (P.info? ty).map (·.size) = some C.size) : (execOp ρ o).run P w = .ok (.value (.agg C)) w := by
 unfold execOp
 simp only [ho, hx, Instr.loadAt, Instr.sureAddr, Sem.run_bind, Sem.run_pure, Result.andThen_ok, run_loadVar_mid w b q ty C.toList d hc hu hd (by simpa using hi)]
/-- A block that is known whole, as a range. -/
theorem has_range {w : World} {g : Nat} {t : TypeId} {cs : Array Value} (h : Has w g t cs) : w.rangeAt g 0 cs.toList := fun j v hv => by
 rw [Nat.zero_add, h.at_ j]
 simpa using hv
theorem has_there {w : World} {g : Nat} {t : TypeId} {cs : Array Value} (h : Has w g t cs) {n : Nat} (hn : n = cs.size) : w.there g 0 n := fun j hj => by
 rw [Nat.zero_add, h.at_ j]
 exact ⟨by simp; omega, h.free j⟩
theorem size_setCells (b : Nat) : ∀ (vs : List Value) (o : Nat) (w : World), (w.setCells b o vs).heap.size = w.heap.size
 | [], _, _ => rfl
 | v :: r, o, w => by
  unfold World.setCells
  rw [size_setCells b r]
  simp [World.setCell]
theorem chg_setCells (b : Nat) : ∀ (vs : List Value) (o : Nat) (w : World), Chg (· = b) w (w.setCells b o vs)
 | [], _, w => Chg.refl _ w
 | v :: r, o, w => by
  unfold World.setCells
  exact ((Chg.refl (· = b) w).setCell (p := ⟨b, o, none⟩) (.inl rfl) v).trans (chg_setCells b r (o + 1) _)
theorem below_setCells {B b : Nat} {u w : World} (h : Below B u w) (hb : B ≤ b) (o : Nat) (vs : List Value) : Below B u (w.setCells b o vs) := by
 have c := chg_setCells b vs o w
 exact ⟨c.os.trans h.os, c.tape.trans h.tape, c.output.trans h.output, Nat.le_trans h.size c.size, fun k hk => by
  by_cases hk2 : k < w.heap.size
  ·exact (c.block k hk2 (by omega)).trans (h.block k hk)
  ·have e1 : w.heap[k]? = none := Array.getElem?_eq_none (by omega)
   have e2 : (w.setCells b o vs).heap[k]? = none := Array.getElem?_eq_none (by rw [size_setCells]; omega)
   rw [e2, ← e1]
   exact h.block k hk⟩
theorem has_setCells {b : Nat} {t : TypeId} : ∀ (vs : List Value) (o : Nat) (w : World) (cs : Array Value), Has w b t cs → Has (w.setCells b o vs) b t (Lib.lay cs o vs)
 | [], _, _, _, h => h
 | v :: r, o, w, cs, h => by
  unfold World.setCells Lib.lay
  exact has_setCells r (o + 1) _ _ (h.put o v)
theorem lay_all (cs C : Array Value) (h : cs.size = C.size) : Lib.lay cs 0 C.toList = C := by
 apply Array.ext_getElem?
 intro t
 rw [Lib.lay_get? _ _ _ _ (by simp; omega)]
 by_cases ht : t < C.size
 ·rw [if_pos (by simp; omega)]
  simp
 ·rw [if_neg (by simp; omega)]
  rw [Array.getElem?_eq_none (by omega), Array.getElem?_eq_none (by omega)]
/-- A block that is known whole, overwritten whole. -/
theorem has_over {w : World} {b : Nat} {t : TypeId} {cs C : Array Value} (h : Has w b t cs) (hn : cs.size = C.size) : Has (w.setCells b 0 C.toList) b t C := by
 have k := has_setCells C.toList 0 w cs h
 rw [lay_all cs C hn] at k
 exact k
theorem has_apart {w : World} {g b : Nat} {t : TypeId} {cs : Array Value} (h : Has w g t cs) (hg : g ≠ b) (o : Nat) (vs : List Value) : Has (w.setCells b o vs) g t cs := h.over (chg_setCells b vs o w) hg
/-- Results that lie in memory. -/
theorem results_cell {P : Program} {fn : Func} {p : Tmp} {t : TypeId} (hr : fn.results = #[.cell p t]) (tmps : Array Value) (w : World) (b o : Nat) (C : Array Value) (d : TypeDesc) (hp : tmps.getD p undef = .pointer (some ⟨b, o, none⟩)) (hc : w.rangeAt b o C.toList) (hu : P.underlying t = some d) (hd : d.isRow = true) (hi : (P.info? t).map (·.size) = some C.size) :
  (results fn tmps).run P w = .ok (.agg C) w := by
 have hp2 : tmps[p]?.getD undef = .pointer (some ⟨b, o, none⟩) := by simpa using hp
 simp [results, hr, hp2, asAddr, run_loadVar_mid w b o t C.toList d hc hu hd (by simpa using hi)]
theorem results_cell_tmp {P : Program} {fn : Func} {p u : Tmp} {t : TypeId} (hr : fn.results = #[.cell p t, .tmp u]) (tmps : Array Value) (w : World) (b o : Nat) (C : Array Value) (d : TypeDesc) (hp : tmps.getD p undef = .pointer (some ⟨b, o, none⟩)) (hc : w.rangeAt b o C.toList) (hu : P.underlying t = some d) (hd : d.isRow = true) (hi : (P.info? t).map (·.size) = some C.size) :
  (results fn tmps).run P w = .ok (.tuple #[.agg C, tmps.getD u undef]) w := by
 have hp2 : tmps[p]?.getD undef = .pointer (some ⟨b, o, none⟩) := by simpa using hp
 simp [results, hr, hp2, asAddr, run_loadVar_mid w b o t C.toList d hc hu hd (by simpa using hi)]
end Go.Proofs.YtblogecapegbmaaGreat.Who
