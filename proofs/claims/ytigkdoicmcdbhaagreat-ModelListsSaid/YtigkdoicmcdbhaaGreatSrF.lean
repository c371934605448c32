/- Rows of texts compared; About of one event; the example. -/
import Derived.Test.YtigkdoicmcdbhaaGreatSrE
import Derived.Great.BuildSlice
namespace Go.Proofs.YtigkdoicmcdbhaaGreat.Sr
open Go.RowKit Go.Proofs.YtigkdoicmcdbhaaGreat.Mem Go.Proofs.YtigkdoicmcdbhaaGreat.Tx
open Go.Proofs.YtigkdoicmcdbhaaGreat.Fc (fitS NodeP LinkP NodeC PieceP XattrP nodeC linkC pieceC xattrC)
open Go.Proofs.YtigkdoicmcdbhaaGreat.Vc (vecC stC eq8 eqv neq_st eql_st)
set_option linter.unusedVariables false set_option linter.unusedSimpArgs false

theorem srow_one {α : Type} {w : World} {k g : Nat} {f : α → Array Value} {t : TypeId} {x : α} (h : Has w g t (f x)) : Fc.SRow w k f (some ⟨g, 0, none⟩) 1 [x] :=
  ⟨rfl, fun _ => ⟨g, 0, rfl, h.bound, fun i hi j v hv => by
    have hi0 : i = 0 := by simp at hi; omega
    subst hi0
    have := h.at_ j
    rw [Nat.zero_mul, Nat.add_zero, Nat.zero_add, this]
    exact hv⟩⟩
theorem info_ev : (Tryz.prog.info? 34).map (fun i => (i.zero, i.size, i.bytes)) = some (some (.agg (Fc.eventC zeroE)), 21, 200) := by kernel_rfl
theorem info_parts_ev : ∃ i, Tryz.prog.info? 34 = some i ∧ i.zero = some (.agg (Fc.eventC zeroE)) ∧ i.size = 21 ∧ i.bytes = 200 := by
  cases hh : Tryz.prog.info? 34 with
  | none => have := info_ev; rw [hh] at this; cases this
  | some i => have := info_ev; rw [hh] at this; simp at this; exact ⟨i, rfl, this⟩
theorem fill_ev (e : Fc.EventC) : Instr.fill (fun i => some (i * 21, 21)) ((Array.range (1 * 21)).map ((Value.agg (Fc.eventC zeroE)).cells[· % (Value.agg (Fc.eventC zeroE)).cells.size]!)) [(0, Value.agg (Fc.eventC e))] = some (Fc.eventC e) := by kernel_rfl
theorem wpList_build_ev {ops : Array Oper} {rest : List Oper} {o : Oper} {a : Act} {w : World} {Q : Exit → Act → World → Prop} (x : Operand) (ho : o.op = .buildSlice 22 1 #[(0, x)]) (e : Fc.EventC)
    (h : (o.guard = none ∧ a.eval x = .agg (Fc.eventC e)) ∧ wpList Tryz.prog ops Q rest (a.put o.dst (.slice (some ⟨w.heap.size, 0, none⟩) 1 1)) (w.alloc (.cells (Fc.eventC e) 34))) : wpList Tryz.prog ops Q (o :: rest) a w := by
  obtain ⟨⟨h1, h2⟩, h3⟩ := h
  obtain ⟨i, q0, q1, q2, q3⟩ := info_parts_ev
  refine wpList_buildSlice h1 22 34 1 _ ho (Fc.eventC e) i _ Tryz.underlying22 q0 q1 (by omega) (by omega) ?_ h3
  have e1 : (#[(0, x)] : Array (Nat × Operand)).map (fun (i, x) => (i, a.eval x)) = #[(0, .agg (Fc.eventC e))] := by simp [h2]
  rw [e1, q2]
  exact fill_ev e
def eL (e : Fc.EventC) : List Value := (Fc.eventC e).toList
def EOwn (w : World) (B : Nat) (v : Value) (es : List Fc.EventC) : Prop := w.ownsRow B 34 21 v es.length (es.flatMap eL)
structure GrewE (B : Nat) (w w' : World) (u u' : Value) (es : List Fc.EventC) (e : Fc.EventC) : Prop where
  row : EOwn w' B u' (es ++ [e])
  below : Below B w w'
  chg : Chg (fun k => u.ownBlock = some k) w w'
  sl : ∃ A c, u' = .slice A (es.length + 1) c
theorem wpl_event {ops : Array Oper} {rest : List Oper} {o : Oper} {a : Act} {Q : Exit → Act → World → Prop} (s x : Operand) (hgd : o.guard = none)
    (ho : o.op = .call { callee := .builtin .append, args := #[s, x], argTypes := #[22, 22] }) {B : Nat} {u : Value} {es : List Fc.EventC} {wc : World} {e : Fc.EventC}
    (h : ((a.eval s = u ∧ (∃ g : Nat, a.eval x = .slice (some ⟨g, 0, none⟩) 1 1 ∧ g = wc.heap.size)) ∧ EOwn wc B u es ∧ B ≤ wc.heap.size ∧ es.length ≤ 4000000) ∧
      ∀ u' w', GrewE B wc w' u u' es e → wpList Tryz.prog ops Q rest (a.put o.dst u') w') :
    wpList Tryz.prog ops Q (o :: rest) a (wc.alloc (.cells (Fc.eventC e) 34)) := by
  obtain ⟨⟨⟨h1, g0, h2, rfl⟩, h3, h4, h5⟩, hk⟩ := h
  obtain ⟨i0, hi, hz0, hz1, hz2⟩ := info_parts_ev
  refine wpList_append_lies _ hgd s x 22 ho B 34 i0 (.agg (Fc.eventC zeroE)) 21 200 Tryz.underlying22 hi hz0 hz1 hz2 rfl (by decide) u es.length (es.flatMap eL) h1 (World.ownsRow.alloc h3 _) ⟨wc.heap.size, 0, none⟩ 1 1 (eL e) h2 rfl ?_ ?_ (by decide) (by unfold maxLen; omega) (by omega) (by simp; omega) _ rfl ?_
  · exact World.news_of_block (Has.fresh wc 34 (Fc.eventC e))
  · exact fun u hu => (Array.all_eq_true_iff_forall_mem.1 (event_one e)) u (by simpa [eL] using hu)
  · intro g cap w' hg hgr hor hlt
    refine hk _ _ ⟨?_, ?_, ?_, ⟨_, _, rfl⟩⟩
    · unfold EOwn
      rw [List.length_append, List.flatMap_append]
      simpa using hg
    · exact ((Below.refl B wc).alloc h4 _).grown hgr (by simp; omega) (fun q hq => ((World.ownsRow.lt h3) q hq).1)
    · have c : Chg (fun k => u.ownBlock = some k) (wc.alloc (.cells (Fc.eventC e) 34)) w' := ⟨hgr.os, hgr.tape, hgr.output, hgr.size, fun k hk hn => hgr.block k hk (fun e => hn e.symm)⟩
      exact ((Chg.refl _ wc).alloc _).trans c
end Go.Proofs.YtigkdoicmcdbhaaGreat.Sr
