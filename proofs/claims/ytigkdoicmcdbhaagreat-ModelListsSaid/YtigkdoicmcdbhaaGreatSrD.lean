/- An event as lines: the program's, the document's. -/
import Derived.Test.YtigkdoicmcdbhaaGreatSrC
namespace Go.Proofs.YtigkdoicmcdbhaaGreat.Sr
open Go.RowKit Go.Proofs.YtigkdoicmcdbhaaGreat.Mem Go.Proofs.YtigkdoicmcdbhaaGreat.Tx
open Go.Proofs.YtigkdoicmcdbhaaGreat.Fc (fitS NodeP LinkP NodeC PieceP XattrP nodeC linkC pieceC xattrC)
open Go.Proofs.YtigkdoicmcdbhaaGreat.Vc (vecC stC eq8 eqv neq_st)
set_option linter.unusedVariables false set_option linter.unusedSimpArgs false

theorem info_inode : (Tryz.prog.info? 60).map (·.size) = some 13 := by kernel_rfl
def zeroN : NodeC := ⟨⟨(0, 0), 0, ⟨#[]⟩, (0, 0), 0, 0, (0, 0), 0, [], []⟩, none, 0, 0, none, 0, 0⟩
def zeroL : LinkP := ⟨(0, 0), (0, 0), (0, 0), (0, 0), ⟨#[]⟩, fun _ => 0, fun _ => 0⟩
theorem alloc_inode (w : World) : (Instr.alloc 60 true (.tuple #[])).run Tryz.prog w = .ok (.pointer (some ⟨w.heap.size, 0, none⟩)) (w.alloc (.cells (nodeC zeroN) 60)) := by
  have hz := Tryz.zeroValue60
  go_simp
  rfl
theorem alloc_link (w : World) : (Instr.alloc 63 true (.tuple #[])).run Tryz.prog w = .ok (.pointer (some ⟨w.heap.size, 0, none⟩)) (w.alloc (.cells (linkC zeroL) 63)) := by
  have hz := Tryz.zeroValue63
  go_simp
  rfl
theorem inode_one (x : NodeC) : (nodeC x).all (·.oneCell') = true := by simp [nodeC, Value.oneCell']
theorem link_one (k : LinkP) : (linkC k).all (·.oneCell') = true := by simp [linkC, Value.oneCell']
theorem eat_range {w : World} {g : Nat} {t : TypeId} {e : Fc.EventC} (h : Has w g t (Fc.eventC e)) : w.rangeAt g 0 (#[.int .i64 e.at_.1, .int .i64 e.at_.2]).toList := fun j v hv => by
  match j, hv with
  | 0, hv => exact (h.at_ 0).trans hv
  | 1, hv => exact (h.at_ 1).trans hv
  | j + 2, hv => simp at hv
end Go.Proofs.YtigkdoicmcdbhaaGreat.Sr
