/- Vectors: joins and meets. -/
import Derived.Test.YtdbmnnmcelaehaaDoorVcB
namespace Go.Proofs.YtdbmnnmcelaehaaDoor.Vc
open Go.RowKit Go.Proofs.YtdbmnnmcelaehaaDoor.Mem

def joinV (x y : Nat → Int) : Nat → Int := fun i => if x i < y i then y i else x i
def meetV (x y : Nat → Int) : Nat → Int := fun i => if y i < x i then y i else x i
def nil8 : Nat → Int := fun _ => 0
/-- A row of eight that has been gone through as far as k. -/
def Thru (f : Nat → Int) (x : Nat → Int) (k : Nat) (z : Nat → Int) : Prop := ∀ j, z j = if j < k then f j else x j
theorem Thru.zero (f x : Nat → Int) : Thru f x 0 x := fun j => by simp
theorem Thru.at_ {f x z : Nat → Int} {k : Nat} (h : Thru f x k z) : z k = x k := by rw [h k]; simp
theorem Thru.step {f x z : Nat → Int} {k : Nat} (h : Thru f x k z) {v : Int} (hv : v = f k) : Thru f x (k + 1) (upd z k v) := fun j => by
  unfold upd
  by_cases e : j = k
  · subst e; simp [hv]
  · rw [if_neg e, h j]
    by_cases l : j < k
    · rw [if_pos l, if_pos (by omega)]
    · rw [if_neg l, if_neg (by omega)]
theorem Thru.skip {f x z : Nat → Int} {k : Nat} (h : Thru f x k z) (hv : x k = f k) : Thru f x (k + 1) z := fun j => by
  rw [h j]
  by_cases e : j = k
  · subst e; simp [hv]
  · by_cases l : j < k
    · rw [if_pos l, if_pos (by omega)]
    · rw [if_neg l, if_neg (by omega)]
theorem Thru.done {f x z : Nat → Int} (h : Thru f x 8 z) : vecC z = vecC f := vecC_ext fun i hi => by rw [h i, if_pos hi]

theorem Has.putV {w : World} {g k : Nat} {t : TypeId} {z : Nat → Int} (h : Has w g t (vecC z)) (hk : k < 8) (v : Int) : Has (w.setCell ⟨g, k, none⟩ (.int .i64 v)) g t (vecC (upd z k v)) := by
  rw [← vecC_put _ _ hk]
  exact h.put k _
theorem cells_put8 {w : World} {g : Nat} {t : TypeId} {z : Nat → Int} (h : Has w g t (vecC z)) (x : Nat → Int) : ((w).setCell ⟨g, 0, none⟩ (.int .i64 (x 0))).cell? ⟨g, 0, none⟩ = some (.int .i64 (x 0)) ∧ (((w).setCell ⟨g, 0, none⟩ (.int .i64 (x 0))).setCell ⟨g, 1, none⟩ (.int .i64 (x 1))).cell? ⟨g, 1, none⟩ = some (.int .i64 (x 1)) ∧ ((((w).setCell ⟨g, 0, none⟩ (.int .i64 (x 0))).setCell ⟨g, 1, none⟩ (.int .i64 (x 1))).setCell ⟨g, 2, none⟩ (.int .i64 (x 2))).cell? ⟨g, 2, none⟩ = some (.int .i64 (x 2)) ∧ (((((w).setCell ⟨g, 0, none⟩ (.int .i64 (x 0))).setCell ⟨g, 1, none⟩ (.int .i64 (x 1))).setCell ⟨g, 2, none⟩ (.int .i64 (x 2))).setCell ⟨g, 3, none⟩ (.int .i64 (x 3))).cell? ⟨g, 3, none⟩ = some (.int .i64 (x 3)) ∧ ((((((w).setCell ⟨g, 0, none⟩ (.int .i64 (x 0))).setCell ⟨g, 1, none⟩ (.int .i64 (x 1))).setCell ⟨g, 2, none⟩ (.int .i64 (x 2))).setCell ⟨g, 3, none⟩ (.int .i64 (x 3))).setCell ⟨g, 4, none⟩ (.int .i64 (x 4))).cell? ⟨g, 4, none⟩ = some (.int .i64 (x 4)) ∧ (((((((w).setCell ⟨g, 0, none⟩ (.int .i64 (x 0))).setCell ⟨g, 1, none⟩ (.int .i64 (x 1))).setCell ⟨g, 2, none⟩ (.int .i64 (x 2))).setCell ⟨g, 3, none⟩ (.int .i64 (x 3))).setCell ⟨g, 4, none⟩ (.int .i64 (x 4))).setCell ⟨g, 5, none⟩ (.int .i64 (x 5))).cell? ⟨g, 5, none⟩ = some (.int .i64 (x 5)) ∧ ((((((((w).setCell ⟨g, 0, none⟩ (.int .i64 (x 0))).setCell ⟨g, 1, none⟩ (.int .i64 (x 1))).setCell ⟨g, 2, none⟩ (.int .i64 (x 2))).setCell ⟨g, 3, none⟩ (.int .i64 (x 3))).setCell ⟨g, 4, none⟩ (.int .i64 (x 4))).setCell ⟨g, 5, none⟩ (.int .i64 (x 5))).setCell ⟨g, 6, none⟩ (.int .i64 (x 6))).cell? ⟨g, 6, none⟩ = some (.int .i64 (x 6)) ∧ (((((((((w).setCell ⟨g, 0, none⟩ (.int .i64 (x 0))).setCell ⟨g, 1, none⟩ (.int .i64 (x 1))).setCell ⟨g, 2, none⟩ (.int .i64 (x 2))).setCell ⟨g, 3, none⟩ (.int .i64 (x 3))).setCell ⟨g, 4, none⟩ (.int .i64 (x 4))).setCell ⟨g, 5, none⟩ (.int .i64 (x 5))).setCell ⟨g, 6, none⟩ (.int .i64 (x 6))).setCell ⟨g, 7, none⟩ (.int .i64 (x 7))).cell? ⟨g, 7, none⟩ = some (.int .i64 (x 7)) :=
  ⟨(has_vec_at (Has.putV h (show 0 < 8 by decide) (x 0)) (show 0 < 8 by decide)), (has_vec_at (Has.putV (Has.putV h (show 0 < 8 by decide) (x 0)) (show 1 < 8 by decide) (x 1)) (show 1 < 8 by decide)), (has_vec_at (Has.putV (Has.putV (Has.putV h (show 0 < 8 by decide) (x 0)) (show 1 < 8 by decide) (x 1)) (show 2 < 8 by decide) (x 2)) (show 2 < 8 by decide)), (has_vec_at (Has.putV (Has.putV (Has.putV (Has.putV h (show 0 < 8 by decide) (x 0)) (show 1 < 8 by decide) (x 1)) (show 2 < 8 by decide) (x 2)) (show 3 < 8 by decide) (x 3)) (show 3 < 8 by decide)), (has_vec_at (Has.putV (Has.putV (Has.putV (Has.putV (Has.putV h (show 0 < 8 by decide) (x 0)) (show 1 < 8 by decide) (x 1)) (show 2 < 8 by decide) (x 2)) (show 3 < 8 by decide) (x 3)) (show 4 < 8 by decide) (x 4)) (show 4 < 8 by decide)), (has_vec_at (Has.putV (Has.putV (Has.putV (Has.putV (Has.putV (Has.putV h (show 0 < 8 by decide) (x 0)) (show 1 < 8 by decide) (x 1)) (show 2 < 8 by decide) (x 2)) (show 3 < 8 by decide) (x 3)) (show 4 < 8 by decide) (x 4)) (show 5 < 8 by decide) (x 5)) (show 5 < 8 by decide)), (has_vec_at (Has.putV (Has.putV (Has.putV (Has.putV (Has.putV (Has.putV (Has.putV h (show 0 < 8 by decide) (x 0)) (show 1 < 8 by decide) (x 1)) (show 2 < 8 by decide) (x 2)) (show 3 < 8 by decide) (x 3)) (show 4 < 8 by decide) (x 4)) (show 5 < 8 by decide) (x 5)) (show 6 < 8 by decide) (x 6)) (show 6 < 8 by decide)), (has_vec_at (Has.putV (Has.putV (Has.putV (Has.putV (Has.putV (Has.putV (Has.putV (Has.putV h (show 0 < 8 by decide) (x 0)) (show 1 < 8 by decide) (x 1)) (show 2 < 8 by decide) (x 2)) (show 3 < 8 by decide) (x 3)) (show 4 < 8 by decide) (x 4)) (show 5 < 8 by decide) (x 5)) (show 6 < 8 by decide) (x 6)) (show 7 < 8 by decide) (x 7)) (show 7 < 8 by decide))⟩
theorem upd8 (z x : Nat → Int) : vecC (upd (upd (upd (upd (upd (upd (upd (upd z 0 (x 0)) 1 (x 1)) 2 (x 2)) 3 (x 3)) 4 (x 4)) 5 (x 5)) 6 (x 6)) 7 (x 7)) = vecC x := rfl
/-- A whole row of eight is stored. -/
theorem Has.put8 {w : World} {g : Nat} {t : TypeId} {z : Nat → Int} (h : Has w g t (vecC z)) (x : Nat → Int) : Has (((((((((w).setCell ⟨g, 0, none⟩ (.int .i64 (x 0))).setCell ⟨g, 1, none⟩ (.int .i64 (x 1))).setCell ⟨g, 2, none⟩ (.int .i64 (x 2))).setCell ⟨g, 3, none⟩ (.int .i64 (x 3))).setCell ⟨g, 4, none⟩ (.int .i64 (x 4))).setCell ⟨g, 5, none⟩ (.int .i64 (x 5))).setCell ⟨g, 6, none⟩ (.int .i64 (x 6))).setCell ⟨g, 7, none⟩ (.int .i64 (x 7))) g t (vecC x) := by
  rw [← upd8 z x]
  exact Has.putV (Has.putV (Has.putV (Has.putV (Has.putV (Has.putV (Has.putV (Has.putV h (by decide) _) (by decide) _) (by decide) _) (by decide) _) (by decide) _) (by decide) _) (by decide) _) (by decide) _
theorem below_put8 {B g : Nat} {u w : World} (h : Below B u w) (hg : B ≤ g) (x : Nat → Int) : Below B u (((((((((w).setCell ⟨g, 0, none⟩ (.int .i64 (x 0))).setCell ⟨g, 1, none⟩ (.int .i64 (x 1))).setCell ⟨g, 2, none⟩ (.int .i64 (x 2))).setCell ⟨g, 3, none⟩ (.int .i64 (x 3))).setCell ⟨g, 4, none⟩ (.int .i64 (x 4))).setCell ⟨g, 5, none⟩ (.int .i64 (x 5))).setCell ⟨g, 6, none⟩ (.int .i64 (x 6))).setCell ⟨g, 7, none⟩ (.int .i64 (x 7))) :=
  ((((((((h.setCell (p := ⟨g, 0, none⟩) hg _).setCell (p := ⟨g, 1, none⟩) hg _).setCell (p := ⟨g, 2, none⟩) hg _).setCell (p := ⟨g, 3, none⟩) hg _).setCell (p := ⟨g, 4, none⟩) hg _).setCell (p := ⟨g, 5, none⟩) hg _).setCell (p := ⟨g, 6, none⟩) hg _).setCell (p := ⟨g, 7, none⟩) hg _)




end Go.Proofs.YtdbmnnmcelaehaaDoor.Vc
