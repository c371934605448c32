/- Model: what the laws of folds want: events that are small, rows of two events. -/
import Derived.Test.YtblogecapegbmaaGreatMfB
import Derived.Test.YtblogecapegbmaaGreatMfBase
import Derived.Test.YtblogecapegbmaaGreatOpenE
import Derived.Test.YtblogecapegbmaaGreatJoD
namespace Go.Proofs.YtblogecapegbmaaGreat.Jn
open Go.RowKit Go.Proofs.YtblogecapegbmaaGreat.Mem
set_option linter.unusedVariables false set_option linter.unusedSimpArgs false

theorem sum_leE {α : Type} (f : α → Nat) (k : Nat) : ∀ (l : List α), (∀ x ∈ l, f x ≤ k) → (l.map f).sum ≤ l.length * k
  | [], _ => by simp
  | x :: r, h => by
    have h1 := h x List.mem_cons_self
    have h2 := sum_leE f k r (fun y hy => h y (List.mem_cons_of_mem _ hy))
    rw [List.map_cons, List.sum_cons, List.length_cons, Nat.add_mul]
    omega
theorem in_fitE {w : World} {s : Fc.StateC} (h : Fc.StateFit w s) (n : Fc.NilS s) : StateIn w s :=
  ⟨⟨h.nodes, n.1⟩, ⟨h.links, n.2.1⟩, fun z hz => ⟨⟨(h.each z hz).ps, (n.2.2 z hz).1⟩, ⟨(h.each z hz).xs, (n.2.2 z hz).2⟩⟩⟩
/-- An event, its rows there. -/
abbrev EvOk (w : World) (e : Fc.EventC) : Prop := Fc.EventFit w e ∧ Fc.NilS e.d
theorem EvOk.isIn {w : World} {e : Fc.EventC} (h : EvOk w e) : StateIn w e.d := in_fitE h.1.1 h.2
theorem EvOk.ok {w : World} {e : Fc.EventC} (h : EvOk w e) (l : LimE e) : FoldOk 1300 e.d.p := by
  have q : LimS 1300 e.d := by
    have e1 := h.1.1.nodes.len
    have a1 := sum_leE Fc.NodeC.n1 120 e.d.nodes (fun x hx => (l.each x hx).1)
    have a2 := sum_leE Fc.NodeC.n2 120 e.d.nodes (fun x hx => (l.each x hx).2)
    have := l.n1
    have := l.n2
    exact ⟨by omega, by omega, by omega, by omega⟩
  exact ⟨limP_of h.isIn q, fun y hy => by
    obtain ⟨z, hz, rfl⟩ := List.mem_map.1 hy
    have k := h.1.1.each z hz
    exact ⟨k.text, k.pdata, k.xdata⟩, h.1.1.names⟩
theorem EvOk.low {w w2 : World} {e : Fc.EventC} (h : EvOk w e) (hb : Below w.heap.size w w2) : EvOk w2 e := ⟨⟨h.1.1.below hb, h.1.2⟩, h.2⟩
theorem fold_lim {es : List Fc.EventC} (h : ∀ e ∈ es, FoldOk 1300 e.d.p) (hl : es.length ≤ 120) : LimP 160000 (foldP es) := by
  have q := (fold_ok h).lim
  exact ⟨Nat.le_trans q.n1 (by omega), Nat.le_trans q.n2 (by omega), Nat.le_trans q.ps (by omega), Nat.le_trans q.xs (by omega)⟩
theorem fill2E (a b : Fc.EventC) : Instr.fill (fun i => some (i * 21, 21)) ((Array.range (2 * 21)).map ((Value.agg (Fc.eventC Sr.zeroE)).cells[· % (Value.agg (Fc.eventC Sr.zeroE)).cells.size]!)) [(0, Value.agg (Fc.eventC a)), (1, Value.agg (Fc.eventC b))] = some (Fc.eventC a ++ Fc.eventC b) := by kernel_rfl
theorem wpList_build2E {ops : Array Oper} {rest : List Oper} {o : Oper} {act : Act} {w : World} {Q : Exit → Act → World → Prop} (x y : Operand) (a b : Fc.EventC) (ho : o.op = .buildSlice 56 2 #[(0, x), (1, y)])
    (h : (Region.wanted o (yielded ops act.tmps) = true ∧ act.eval x = .agg (Fc.eventC a) ∧ act.eval y = .agg (Fc.eventC b)) ∧ wpList Tryz.prog ops Q rest (act.put o.dst (.slice (some ⟨w.heap.size, 0, none⟩) 2 2)) (w.alloc (.cells (Fc.eventC a ++ Fc.eventC b) 58))) : wpList Tryz.prog ops Q (o :: rest) act w := by
  obtain ⟨⟨h1, h2, h3⟩, h5⟩ := h
  obtain ⟨i, q0, q1, q2, q3⟩ : ∃ i, Tryz.prog.info? 58 = some i ∧ i.zero = some (.agg (Fc.eventC Sr.zeroE)) ∧ i.size = 21 ∧ i.bytes ≤ 1000 := by
    have h : (Tryz.prog.info? 58).map (fun i => (i.zero, i.size, decide (i.bytes ≤ 1000))) = some (some (.agg (Fc.eventC Sr.zeroE)), 21, true) := by kernel_rfl
    cases hh : Tryz.prog.info? 58 with
    | none => rw [hh] at h; cases h
    | some i => rw [hh] at h; simp at h; exact ⟨i, rfl, h⟩
  refine wpList_step fun K hK => ?_
  rw [if_pos h1]
  refine wp_buildSlice 56 58 2 _ ho (Fc.eventC a ++ Fc.eventC b) i _ Tryz.underlying56 q0 q1 (by omega) (by omega) ?_ (hK _ _ h5)
  have e1 : (#[(0, x), (1, y)] : Array (Nat × Operand)).map (fun (i, x) => (i, act.eval x)) = #[(0, .agg (Fc.eventC a)), (1, .agg (Fc.eventC b))] := by simp [h2, h3]
  rw [e1, q2]
  exact fill2E a b
end Go.Proofs.YtblogecapegbmaaGreat.Jn
