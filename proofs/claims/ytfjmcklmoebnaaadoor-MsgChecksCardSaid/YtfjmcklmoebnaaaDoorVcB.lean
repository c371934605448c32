/- Vectors: the later of two stamps, whether one is known, joins and meets. -/
import Derived.Test.YtfjmcklmoebnaaaDoorVcA
namespace Go.Proofs.YtfjmcklmoebnaaaDoor.Vc
open Go.RowKit Go.Proofs.YtfjmcklmoebnaaaDoor.Mem

theorem vecC_at (x : Nat → Int) {n : Nat} (h : n < 8) : (vecC x)[n]? = some (.int .i64 (x n)) := by
  match n, h with
  | 0, _ => rfl
  | 1, _ => rfl
  | 2, _ => rfl
  | 3, _ => rfl
  | 4, _ => rfl
  | 5, _ => rfl
  | 6, _ => rfl
  | 7, _ => rfl
theorem vecC_ext {x y : Nat → Int} (h : ∀ i, i < 8 → x i = y i) : vecC x = vecC y := by
  unfold vecC
  rw [h 0 (by decide), h 1 (by decide), h 2 (by decide), h 3 (by decide), h 4 (by decide), h 5 (by decide), h 6 (by decide), h 7 (by decide)]
def upd (x : Nat → Int) (n : Nat) (v : Int) : Nat → Int := fun i => if i = n then v else x i
theorem vecC_put (x : Nat → Int) {n : Nat} (v : Int) (h : n < 8) : (vecC x).setIfInBounds n (.int .i64 v) = vecC (upd x n v) := by
  match n, h with
  | 0, _ => rfl
  | 1, _ => rfl
  | 2, _ => rfl
  | 3, _ => rfl
  | 4, _ => rfl
  | 5, _ => rfl
  | 6, _ => rfl
  | 7, _ => rfl
section
variable {w : World} {g : Nat} {t : TypeId}
theorem has_st {a b : Int} (h : Has w g t (stC a b)) : w.cell? ⟨g, 0, none⟩ = some (.int .i64 a) ∧ w.cell? ⟨g, 1, none⟩ = some (.int .i64 b) := ⟨h.at_ 0, h.at_ 1⟩
theorem has_vec {x : Nat → Int} (h : Has w g t (vecC x)) : w.cell? ⟨g, 0, none⟩ = some (.int .i64 (x 0)) ∧ w.cell? ⟨g, 1, none⟩ = some (.int .i64 (x 1)) ∧ w.cell? ⟨g, 2, none⟩ = some (.int .i64 (x 2)) ∧ w.cell? ⟨g, 3, none⟩ = some (.int .i64 (x 3)) ∧ w.cell? ⟨g, 4, none⟩ = some (.int .i64 (x 4)) ∧ w.cell? ⟨g, 5, none⟩ = some (.int .i64 (x 5)) ∧ w.cell? ⟨g, 6, none⟩ = some (.int .i64 (x 6)) ∧ w.cell? ⟨g, 7, none⟩ = some (.int .i64 (x 7)) :=
  ⟨h.at_ 0, h.at_ 1, h.at_ 2, h.at_ 3, h.at_ 4, h.at_ 5, h.at_ 6, h.at_ 7⟩
theorem has_vec_at {x : Nat → Int} (h : Has w g t (vecC x)) {n : Nat} (hn : n < 8) : w.cell? ⟨g, n, none⟩ = some (.int .i64 (x n)) := (h.at_ n).trans (vecC_at x hn)
end

def laterC (a b c d : Int) : Array Value := if lessB a b c d then stC c d else stC a b
def hasB (x : Nat → Int) (t w : Int) : Bool := isB t w && decide (t ≤ x w.toNat)
end Go.Proofs.YtfjmcklmoebnaaaDoor.Vc
