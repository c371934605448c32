/- What an event wrote of a link: the program's parts, the document's line. -/
import Derived.Test.YtigkdoicmcdbhaaGreatSrA
namespace Go.Proofs.YtigkdoicmcdbhaaGreat.Sr
open Go.RowKit Go.Proofs.YtigkdoicmcdbhaaGreat.Mem Go.Proofs.YtigkdoicmcdbhaaGreat.Tx
open Go.Proofs.YtigkdoicmcdbhaaGreat.Fc (fitS NodeP LinkP NodeC nodeC linkC)
open Go.Proofs.YtigkdoicmcdbhaaGreat.Vc (vecC stC eq8 eqv neq_st)
set_option linter.unusedVariables false set_option linter.unusedSimpArgs false

theorem info_st : (Tryz.prog.info? 26).map (·.size) = some 2 := by kernel_rfl
theorem info_vec : (Tryz.prog.info? 24).map (·.size) = some 8 := by kernel_rfl
theorem info_link : (Tryz.prog.info? 63).map (·.size) = some 25 := by kernel_rfl
theorem id_range {w : World} {g : Nat} {t : TypeId} {k : LinkP} (h : Has w g t (linkC k)) : w.rangeAt g 0 (#[.int .i64 k.id.1, .int .i64 k.id.2]).toList := fun j v hv => by
  match j, hv with
  | 0, hv => exact (h.at_ 0).trans hv
  | 1, hv => exact (h.at_ 1).trans hv
  | j + 2, hv => simp [vecC] at hv
theorem at_range {w : World} {g : Nat} {t : TypeId} {k : LinkP} (h : Has w g t (linkC k)) : w.rangeAt g 4 (#[.int .i64 k.at_.1, .int .i64 k.at_.2]).toList := fun j v hv => by
  match j, hv with
  | 0, hv => exact (h.at_ 4).trans hv
  | 1, hv => exact (h.at_ 5).trans hv
  | j + 2, hv => simp [vecC] at hv
theorem par_range {w : World} {g : Nat} {t : TypeId} {k : LinkP} (h : Has w g t (linkC k)) : w.rangeAt g 6 (#[.int .i64 k.par.1, .int .i64 k.par.2]).toList := fun j v hv => by
  match j, hv with
  | 0, hv => exact (h.at_ 6).trans hv
  | 1, hv => exact (h.at_ 7).trans hv
  | j + 2, hv => simp [vecC] at hv
theorem al_range {w : World} {g : Nat} {t : TypeId} {k : LinkP} (h : Has w g t (linkC k)) : w.rangeAt g 9 (vecC k.al).toList := fun j v hv => by
  match j, hv with
  | 0, hv => exact (h.at_ 9).trans hv
  | 1, hv => exact (h.at_ 10).trans hv
  | 2, hv => exact (h.at_ 11).trans hv
  | 3, hv => exact (h.at_ 12).trans hv
  | 4, hv => exact (h.at_ 13).trans hv
  | 5, hv => exact (h.at_ 14).trans hv
  | 6, hv => exact (h.at_ 15).trans hv
  | 7, hv => exact (h.at_ 16).trans hv
  | j + 8, hv => simp [vecC] at hv
theorem de_range {w : World} {g : Nat} {t : TypeId} {k : LinkP} (h : Has w g t (linkC k)) : w.rangeAt g 17 (vecC k.de).toList := fun j v hv => by
  match j, hv with
  | 0, hv => exact (h.at_ 17).trans hv
  | 1, hv => exact (h.at_ 18).trans hv
  | 2, hv => exact (h.at_ 19).trans hv
  | 3, hv => exact (h.at_ 20).trans hv
  | 4, hv => exact (h.at_ 21).trans hv
  | 5, hv => exact (h.at_ 22).trans hv
  | 6, hv => exact (h.at_ 23).trans hv
  | 7, hv => exact (h.at_ 24).trans hv
  | j + 8, hv => simp [vecC] at hv
end Go.Proofs.YtigkdoicmcdbhaaGreat.Sr
