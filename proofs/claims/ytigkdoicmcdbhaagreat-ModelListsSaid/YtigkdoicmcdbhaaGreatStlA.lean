import Derived.Test.YtigkdoicmcdbhaaGreatSmrB
import Derived.Test.YtigkdoicmcdbhaaGreatStabQ

/- Whether an event wrote something of an inode or of a link. -/
namespace Go.Proofs.YtigkdoicmcdbhaaGreat.Stl
open Go.RowKit Go.Proofs.YtigkdoicmcdbhaaGreat.Mem
open Go.Proofs.YtigkdoicmcdbhaaGreat.Fc (PieceP XattrP LinkP NodeC pieceC xattrC linkC nodeC stateC)
open Go.Proofs.YtigkdoicmcdbhaaGreat.Vc (vecC stC eql_st)
open Go.Proofs.YtigkdoicmcdbhaaGreat.Sr (zeroS)
set_option linter.unusedVariables false set_option linter.unusedSimpArgs false

def isId (a b : Int × Int) : Bool := a.1 == b.1 && a.2 == b.2
/-- a place, or none: at least 0 just if there is one -/
def IdxIs (b : Bool) (e : Ending) : Prop := ∃ i : Int, e = .returned (.int .i64 i) ∧ decide (0 ≤ i) = b
theorem any_take {α : Type} {xs : List α} (P : α → Bool) {j : Nat} (h : j < xs.length) (hf : (xs.take j).any P = false) : P xs[j] = false → (xs.take (j + 1)).any P = false := by
  intro hp
  rw [List.take_succ_eq_append_getElem h, List.any_append, hf]
  simp [hp]
theorem any_hit {α : Type} {xs : List α} (P : α → Bool) {j : Nat} (h : j < xs.length) : P xs[j] = true → xs.any P = true := fun hp => List.any_eq_true.2 ⟨_, List.getElem_mem h, hp⟩
theorem node_range {w : World} {g : Nat} {t : TypeId} {k : LinkP} (h : Has w g t (linkC k)) : w.rangeAt g 2 (#[.int .i64 k.node.1, .int .i64 k.node.2] : Array Value).toList := fun j v hv => by
  match j, hv with
  | 0, hv => exact (h.at_ 2).trans hv
  | 1, hv => exact (h.at_ 3).trans hv
  | j + 2, hv => simp at hv
end Go.Proofs.YtigkdoicmcdbhaaGreat.Stl
/- story's About: the events that wrote something of an inode or of a link. -/
namespace Go.Proofs.YtigkdoicmcdbhaaGreat.Stl
open Go.RowKit Go.Proofs.YtigkdoicmcdbhaaGreat.Mem
open Go.Proofs.YtigkdoicmcdbhaaGreat.Fc (PieceP XattrP LinkP NodeC pieceC xattrC linkC nodeC stateC)
open Go.Proofs.YtigkdoicmcdbhaaGreat.Sr (EOwn GrewE)
open Go.Proofs.YtigkdoicmcdbhaaGreat.Stab (EOut eown_nil eown_sl)
set_option linter.unusedVariables false set_option linter.unusedSimpArgs false

theorem has_low {w w2 : World} {B g : Nat} {t : TypeId} {cs : Array Value} (h : Has w g t cs) (hb : Below B w w2) (hg : g < B) : Has w2 g t cs := (hb.block g hg).trans h
theorem eown_below {w w2 : World} {B : Nat} {v : Value} {l : List Fc.EventC} (h : EOwn w B v l) (hb : Below w.heap.size w w2) : EOwn w2 B v l := by
  unfold EOwn at *
  refine ⟨h.1, ?_⟩
  rcases h.2 with hn | ⟨g, cap, cur, e, hB, hw, rest⟩
  · exact .inl hn
  · exact .inr ⟨g, cap, cur, e, hB, (hb.block g (Array.getElem?_eq_some_iff.1 hw).1).trans hw, rest⟩
theorem eown_mono {w : World} {B B2 : Nat} {v : Value} {l : List Fc.EventC} (h : EOwn w B v l) (hb : B2 ≤ B) : EOwn w B2 v l := by
  unfold EOwn at *
  refine ⟨h.1, ?_⟩
  rcases h.2 with hn | ⟨g, cap, cur, e, hB, rest⟩
  · exact .inl hn
  · exact .inr ⟨g, cap, cur, e, Nat.le_trans hb hB, rest⟩
theorem filter_yes {α : Type} {xs : List α} (P : α → Bool) {j : Nat} (h : j < xs.length) : P xs[j] = true → (xs.take (j + 1)).filter P = (xs.take j).filter P ++ [xs[j]] := by
  intro hp
  rw [List.take_succ_eq_append_getElem h, List.filter_append]
  simp [hp]
theorem filter_no {α : Type} {xs : List α} (P : α → Bool) {j : Nat} (h : j < xs.length) : P xs[j] = false → (xs.take (j + 1)).filter P = (xs.take j).filter P := by
  intro hp
  rw [List.take_succ_eq_append_getElem h, List.filter_append]
  simp [hp]
theorem filter_len {α : Type} {xs : List α} (P : α → Bool) (j : Nat) : ((xs.take j).filter P).length ≤ xs.length := Nat.le_trans (List.length_filter_le _ _) (by rw [List.length_take]; exact Nat.min_le_right _ _)
end Go.Proofs.YtigkdoicmcdbhaaGreat.Stl
/- The document's About: the events that wrote something of an inode or of a link. -/
namespace Go.Proofs.YtigkdoicmcdbhaaGreat.Stl
open Go.RowKit Go.Proofs.YtigkdoicmcdbhaaGreat.Mem
open Go.Proofs.YtigkdoicmcdbhaaGreat.Fc (PieceP XattrP LinkP NodeC pieceC xattrC linkC nodeC stateC)
open Go.Proofs.YtigkdoicmcdbhaaGreat.Sr (EOwn GrewE zeroS)
open Go.Proofs.YtigkdoicmcdbhaaGreat.Stab (EOut eown_nil eown_sl)
open Go.Proofs.YtigkdoicmcdbhaaGreat.Vc (vecC stC eql_st neq_st)
set_option linter.unusedVariables false set_option linter.unusedSimpArgs false

def zeroN : NodeC := ⟨⟨(0, 0), 0, ⟨#[]⟩, (0, 0), 0, 0, (0, 0), 0, [], []⟩, none, 0, 0, none, 0, 0⟩
def zeroK : LinkP := ⟨(0, 0), (0, 0), (0, 0), (0, 0), ⟨#[]⟩, fun _ => 0, fun _ => 0⟩
theorem alloc_node (w : World) : (Instr.alloc 60 true (.tuple #[])).run Tryz.prog w = .ok (.pointer (some ⟨w.heap.size, 0, none⟩)) (w.alloc (.cells (nodeC zeroN) 60)) := by
  have hz := Tryz.zeroValue60
  go_simp
  rfl
theorem alloc_link (w : World) : (Instr.alloc 63 true (.tuple #[])).run Tryz.prog w = .ok (.pointer (some ⟨w.heap.size, 0, none⟩)) (w.alloc (.cells (linkC zeroK) 63)) := by
  have hz := Tryz.zeroValue63
  go_simp
  rfl
theorem node_one (x : NodeC) : (nodeC x).all (·.oneCell') = true := by simp [nodeC, Value.oneCell']
theorem link_one (x : LinkP) : (linkC x).all (·.oneCell') = true := by simp [linkC, Value.oneCell']
theorem nid_range {w : World} {g : Nat} {t : TypeId} {y : NodeC} (h : Has w g t (nodeC y)) : w.rangeAt g 0 (#[.int .i64 y.p.id.1, .int .i64 y.p.id.2] : Array Value).toList := fun j v hv => by
  match j, hv with
  | 0, hv => exact (h.at_ 0).trans hv
  | 1, hv => exact (h.at_ 1).trans hv
  | j + 2, hv => simp at hv
theorem any_step {α : Type} {xs : List α} (P : α → Bool) {j : Nat} (h : j < xs.length) : (xs.take (j + 1)).any P = ((xs.take j).any P || P xs[j]) := by
  rw [List.take_succ_eq_append_getElem h, List.any_append]
  simp
end Go.Proofs.YtigkdoicmcdbhaaGreat.Stl
