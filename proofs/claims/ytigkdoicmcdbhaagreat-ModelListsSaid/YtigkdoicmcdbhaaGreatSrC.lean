/- What an event wrote of an inode: the program's parts, the document's line. -/
import Derived.Test.YtigkdoicmcdbhaaGreatSrB
namespace Go.Proofs.YtigkdoicmcdbhaaGreat.Sr
open Go.RowKit Go.Proofs.YtigkdoicmcdbhaaGreat.Mem Go.Proofs.YtigkdoicmcdbhaaGreat.Tx
open Go.Proofs.YtigkdoicmcdbhaaGreat.Fc (fitS NodeP LinkP NodeC PieceP XattrP nodeC linkC pieceC xattrC)
open Go.Proofs.YtigkdoicmcdbhaaGreat.Vc (vecC stC eq8 eqv neq_st)
set_option linter.unusedVariables false set_option linter.unusedSimpArgs false

theorem info_piece : (Tryz.prog.info? 69).map (·.size) = some 4 := by kernel_rfl
theorem info_xattr : (Tryz.prog.info? 71).map (·.size) = some 5 := by kernel_rfl
def zeroP : PieceP := ⟨0, (0, 0), ⟨#[]⟩⟩
def zeroX : XattrP := ⟨⟨#[]⟩, (0, 0), ⟨#[]⟩, false⟩
theorem alloc_piece (w : World) : (Instr.alloc 69 true (.tuple #[])).run Tryz.prog w = .ok (.pointer (some ⟨w.heap.size, 0, none⟩)) (w.alloc (.cells (pieceC zeroP) 69)) := by
  have hz := Tryz.zeroValue69
  go_simp
  rfl
theorem alloc_xattr (w : World) : (Instr.alloc 71 true (.tuple #[])).run Tryz.prog w = .ok (.pointer (some ⟨w.heap.size, 0, none⟩)) (w.alloc (.cells (xattrC zeroX) 71)) := by
  have hz := Tryz.zeroValue71
  go_simp
  rfl
theorem piece_one (p : PieceP) : (pieceC p).all (·.oneCell') = true := by simp [pieceC, Value.oneCell']
theorem xattr_one (p : XattrP) : (xattrC p).all (·.oneCell') = true := by simp [xattrC, Value.oneCell']
theorem nid_range {w : World} {g : Nat} {t : TypeId} {x : NodeC} (h : Has w g t (nodeC x)) : w.rangeAt g 0 (#[.int .i64 x.p.id.1, .int .i64 x.p.id.2]).toList := fun j v hv => by
  match j, hv with
  | 0, hv => exact (h.at_ 0).trans hv
  | 1, hv => exact (h.at_ 1).trans hv
  | j + 2, hv => simp at hv
theorem aat_range {w : World} {g : Nat} {t : TypeId} {x : NodeC} (h : Has w g t (nodeC x)) : w.rangeAt g 4 (#[.int .i64 x.p.aat.1, .int .i64 x.p.aat.2]).toList := fun j v hv => by
  match j, hv with
  | 0, hv => exact (h.at_ 4).trans hv
  | 1, hv => exact (h.at_ 5).trans hv
  | j + 2, hv => simp at hv
theorem sat_range {w : World} {g : Nat} {t : TypeId} {x : NodeC} (h : Has w g t (nodeC x)) : w.rangeAt g 8 (#[.int .i64 x.p.sat.1, .int .i64 x.p.sat.2]).toList := fun j v hv => by
  match j, hv with
  | 0, hv => exact (h.at_ 8).trans hv
  | 1, hv => exact (h.at_ 9).trans hv
  | j + 2, hv => simp at hv
end Go.Proofs.YtigkdoicmcdbhaaGreat.Sr
