/- Join: counts by stamps; an entry of a map counted up. -/
import Derived.Test.YtblogecapegbmaaGreatJnN
import Derived.Test.YtblogecapegbmaaGreatJnJ
namespace Go.Proofs.YtblogecapegbmaaGreat.Jn
open Go.RowKit Go.Proofs.YtblogecapegbmaaGreat.Mem
set_option linter.unusedVariables false set_option linter.unusedSimpArgs false set_option linter.unusedSectionVars false

def countK (l : List (Int × Int)) (id : Int × Int) : Nat := (l.filter fun z => decide (z = id)).length
def CntK (l : List (Int × Int)) (m : Int × Int → Option Value) : Prop := ∀ id, m id = if countK l id = 0 then none else some (.int .i64 (countK l id : Int))
theorem cntK_nil : CntK [] (fun _ => none) := fun id => by simp [countK]
theorem cntK_get {l : List (Int × Int)} {m : Int × Int → Option Value} (h : CntK l m) (id : Int × Int) : (m id).getD (.int .i64 0) = .int .i64 (countK l id : Int) := by
  rw [h id]
  split
  · rename_i e; rw [e]; rfl
  · rfl
theorem cntK_snoc {l : List (Int × Int)} {z : Int × Int} {m : Int × Int → Option Value} (h : CntK l m) : CntK (l ++ [z]) (updK m z (.int .i64 ((countK l z : Int) + 1))) := fun id => by
  have e : countK (l ++ [z]) id = countK l id + if z = id then 1 else 0 := by
    unfold countK
    rw [List.filter_append, List.length_append]
    by_cases k : z = id <;> simp [List.filter_cons, k]
  by_cases k : id = z
  · subst k
    rw [updK_same, e, if_pos rfl, if_neg (by omega)]
    simp
  · rw [updK_other _ _ k, h id, e, show (if z = id then 1 else 0) = 0 from if_neg (fun q => k q.symm), Nat.add_zero]
theorem cntK_le (l : List (Int × Int)) (id : Int × Int) : countK l id ≤ l.length := List.length_filter_le _ _
theorem cntK_zero {l : List (Int × Int)} {id : Int × Int} : countK l id = 0 ↔ ∀ z ∈ l, z ≠ id := by
  unfold countK
  rw [List.length_eq_zero_iff, List.filter_eq_nil_iff]
  simp
theorem stepK_entry {ops : Array Oper} {o : Oper} {a : Act} {w : World} {K : Act → World → Prop} {Q : Exit → Act → World → Prop} {EE : Prop} (p : Tmp) (b : Nat) (m : Int × Int → Option Value) (z : Int × Int) (x y : Operand) (ho : o.op = .mapEntry 98 x y) (hp : o.dst = some p)
    (h : (Region.wanted o (yielded ops a.tmps) = true ∧ a.eval x = .map (some b) ∧ a.eval y = stK z ∧ KMap stK w b m) ∧ ∀ q w2, Hid (KMap stK w2 b (updK m z ((m z).getD (.int .i64 0)))) → Hid (Chg (· = b) w w2) → Hid (∀ v, ∃ w3, (Instr.entryStore 98 (.map (some b)) (.int .i64 q) v).run Tryz.prog w2 = .ok () w3 ∧ KMap stK w3 b (updK m z v) ∧ Chg (· = b) w2 w3) → K (a.put (some p) (.tuple #[(m z).getD (.int .i64 0), .int .i64 q])) w2) : if Region.wanted o (yielded ops a.tmps) = true then Oper.wp Tryz.prog o a w K Q else EE := by
  obtain ⟨⟨h1, e1, e2, e4⟩, h2⟩ := h
  rw [if_pos h1]
  obtain ⟨w2, q, hr, hk, hc, _, h3⟩ := KMap.entry Tryz.underlying98 stKeys e4 (.int .i64 0) Tryz.zeroValue3 z
  unfold Oper.wp execOp
  simp only [ho, e1, e2, hr, Sem.run_bind, Sem.run_pure, Sem.run_map, Result.andThen_ok]
  have := h2 q w2 (Lib.hid hk) (Lib.hid hc) (Lib.hid fun v => by
    obtain ⟨w3, g1, g2, g3, _⟩ := h3 v
    exact ⟨w3, g1, g2, g3⟩)
  show K (a.put o.dst _) _
  rw [hp]
  exact this
theorem stepK_enter {ops : Array Oper} {o : Oper} {a : Act} {w w3 : World} {K : Act → World → Prop} {Q : Exit → Act → World → Prop} {EE : Prop} (b : Nat) (q : Int) (v : Value) (x y u : Operand) (ho : o.op = .entryStore 98 x y u)
    (h : (Region.wanted o (yielded ops a.tmps) = true ∧ o.dst = none ∧ a.eval x = .map (some b) ∧ a.eval y = .int .i64 q ∧ a.eval u = v ∧ (Instr.entryStore 98 (.map (some b)) (.int .i64 q) v).run Tryz.prog w = .ok () w3) ∧ K a w3) : if Region.wanted o (yielded ops a.tmps) = true then Oper.wp Tryz.prog o a w K Q else EE := by
  obtain ⟨⟨h1, h0, e1, e2, e3, hr⟩, h2⟩ := h
  rw [if_pos h1]
  unfold Oper.wp execOp
  simp only [ho, e1, e2, e3, hr, Sem.run_bind, Sem.run_pure, Sem.run_map, Result.andThen_ok]
  show K (a.put o.dst undef) _
  rw [h0]
  exact h2
end Go.Proofs.YtblogecapegbmaaGreat.Jn
