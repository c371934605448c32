/- Vectors: joins and meets. -/
import Derived.Test.YtblogecapegbmaaGreatVcB
namespace Go.Proofs.YtblogecapegbmaaGreat.Vc
open Go.RowKit Go.Proofs.YtblogecapegbmaaGreat.Mem

def joinV (x y : Nat → Int) : Nat → Int := fun i => if x i < y i then y i else x i
def meetV (x y : Nat → Int) : Nat → Int := fun i => if y i < x i then y i else x i
def nil8 : Nat → Int := fun _ => 0
/-- A row of eight that has been gone through as far as k. -/
def Thru (f : Nat → Int) (x : Nat → Int) (k : Nat) (z : Nat → Int) : Prop := ∀ j, z j = if j < k then f j else x j
theorem Thru.zero (f x : Nat → Int) : Thru f x 0 x := fun j => by simp
theorem Thru.at_ {f x z : Nat → Int} {k : Nat} (h : Thru f x k z) : z k = x k := by rw [h k]; simp
theorem Thru.step {f x z : Nat → Int} {k : Nat} (h : Thru f x k z) {v : Int} (hv : v = f k) : Thru f x (k + 1) (upd z k v) := fun j => by
  unfold upd
  by_cases e : j = k
  · subst e; simp [hv]
  · rw [if_neg e, h j]
    by_cases l : j < k
    · rw [if_pos l, if_pos (by omega)]
    · rw [if_neg l, if_neg (by omega)]
theorem Thru.skip {f x z : Nat → Int} {k : Nat} (h : Thru f x k z) (hv : x k = f k) : Thru f x (k + 1) z := fun j => by
  rw [h j]
  by_cases e : j = k
  · subst e; simp [hv]
  · by_cases l : j < k
    · rw [if_pos l, if_pos (by omega)]
    · rw [if_neg l, if_neg (by omega)]
theorem Thru.done {f x z : Nat → Int} (h : Thru f x 8 z) : vecC z = vecC f := vecC_ext fun i hi => by rw [h i, if_pos hi]

theorem Has.putV {w : World} {g k : Nat} {t : TypeId} {z : Nat → Int} (h : Has w g t (vecC z)) (hk : k < 8) (v : Int) : Has (w.setCell ⟨g, k, none⟩ (.int .i64 v)) g t (vecC (upd z k v)) := by
  rw [← vecC_put _ _ hk]
  exact h.put k _
theorem cells_put8 {w : World} {g : Nat} {t : TypeId} {z : Nat → Int} (h : Has w g t (vecC z)) (x : Nat → Int) : ((w).setCell ⟨g, 0, none⟩ (.int .i64 (x 0))).cell? ⟨g, 0, none⟩ = some (.int .i64 (x 0)) ∧ (((w).setCell ⟨g, 0, none⟩ (.int .i64 (x 0))).setCell ⟨g, 1, none⟩ (.int .i64 (x 1))).cell? ⟨g, 1, none⟩ = some (.int .i64 (x 1)) ∧ ((((w).setCell ⟨g, 0, none⟩ (.int .i64 (x 0))).setCell ⟨g, 1, none⟩ (.int .i64 (x 1))).setCell ⟨g, 2, none⟩ (.int .i64 (x 2))).cell? ⟨g, 2, none⟩ = some (.int .i64 (x 2)) ∧ (((((w).setCell ⟨g, 0, none⟩ (.int .i64 (x 0))).setCell ⟨g, 1, none⟩ (.int .i64 (x 1))).setCell ⟨g, 2, none⟩ (.int .i64 (x 2))).setCell ⟨g, 3, none⟩ (.int .i64 (x 3))).cell? ⟨g, 3, none⟩ = some (.int .i64 (x 3)) ∧ ((((((w).setCell ⟨g, 0, none⟩ (.int .i64 (x 0))).setCell ⟨g, 1, none⟩ (.int .i64 (x 1))).setCell ⟨g, 2, none⟩ (.int .i64 (x 2))).setCell ⟨g, 3, none⟩ (.int .i64 (x 3))).setCell ⟨g, 4, none⟩ (.int .i64 (x 4))).cell? ⟨g, 4, none⟩ = some (.int .i64 (x 4)) ∧ (((((((w).setCell ⟨g, 0, none⟩ (.int .i64 (x 0))).setCell ⟨g, 1, none⟩ (.int .i64 (x 1))).setCell ⟨g, 2, none⟩ (.int .i64 (x 2))).setCell ⟨g, 3, none⟩ (.int .i64 (x 3))).setCell ⟨g, 4, none⟩ (.int .i64 (x 4))).setCell ⟨g, 5, none⟩ (.int .i64 (x 5))).cell? ⟨g, 5, none⟩ = some (.int .i64 (x 5)) ∧ ((((((((w).setCell ⟨g, 0, none⟩ (.int .i64 (x 0))).setCell ⟨g, 1, none⟩ (.int .i64 (x 1))).setCell ⟨g, 2, none⟩ (.int .i64 (x 2))).setCell ⟨g, 3, none⟩ (.int .i64 (x 3))).setCell ⟨g, 4, none⟩ (.int .i64 (x 4))).setCell ⟨g, 5, none⟩ (.int .i64 (x 5))).setCell ⟨g, 6, none⟩ (.int .i64 (x 6))).cell? ⟨g, 6, none⟩ = some (.int .i64 (x 6)) ∧ (((((((((w).setCell ⟨g, 0, none⟩ (.int .i64 (x 0))).setCell ⟨g, 1, none⟩ (.int .i64 (x 1))).setCell ⟨g, 2, none⟩ (.int .i64 (x 2))).setCell ⟨g, 3, none⟩ (.int .i64 (x 3))).setCell ⟨g, 4, none⟩ (.int .i64 (x 4))).setCell ⟨g, 5, none⟩ (.int .i64 (x 5))).setCell ⟨g, 6, none⟩ (.int .i64 (x 6))).setCell ⟨g, 7, none⟩ (.int .i64 (x 7))).cell? ⟨g, 7, none⟩ = some (.int .i64 (x 7)) :=
  ⟨(has_vec_at (Has.putV h (show 0 < 8 by decide) (x 0)) (show 0 < 8 by decide)), (has_vec_at (Has.putV (Has.putV h (show 0 < 8 by decide) (x 0)) (show 1 < 8 by decide) (x 1)) (show 1 < 8 by decide)), (has_vec_at (Has.putV (Has.putV (Has.putV h (show 0 < 8 by decide) (x 0)) (show 1 < 8 by decide) (x 1)) (show 2 < 8 by decide) (x 2)) (show 2 < 8 by decide)), (has_vec_at (Has.putV (Has.putV (Has.putV (Has.putV h (show 0 < 8 by decide) (x 0)) (show 1 < 8 by decide) (x 1)) (show 2 < 8 by decide) (x 2)) (show 3 < 8 by decide) (x 3)) (show 3 < 8 by decide)), (has_vec_at (Has.putV (Has.putV (Has.putV (Has.putV (Has.putV h (show 0 < 8 by decide) (x 0)) (show 1 < 8 by decide) (x 1)) (show 2 < 8 by decide) (x 2)) (show 3 < 8 by decide) (x 3)) (show 4 < 8 by decide) (x 4)) (show 4 < 8 by decide)), (has_vec_at (Has.putV (Has.putV (Has.putV (Has.putV (Has.putV (Has.putV h (show 0 < 8 by decide) (x 0)) (show 1 < 8 by decide) (x 1)) (show 2 < 8 by decide) (x 2)) (show 3 < 8 by decide) (x 3)) (show 4 < 8 by decide) (x 4)) (show 5 < 8 by decide) (x 5)) (show 5 < 8 by decide)), (has_vec_at (Has.putV (Has.putV (Has.putV (Has.putV (Has.putV (Has.putV (Has.putV h (show 0 < 8 by decide) (x 0)) (show 1 < 8 by decide) (x 1)) (show 2 < 8 by decide) (x 2)) (show 3 < 8 by decide) (x 3)) (show 4 < 8 by decide) (x 4)) (show 5 < 8 by decide) (x 5)) (show 6 < 8 by decide) (x 6)) (show 6 < 8 by decide)), (has_vec_at (Has.putV (Has.putV (Has.putV (Has.putV (Has.putV (Has.putV (Has.putV (Has.putV h (show 0 < 8 by decide) (x 0)) (show 1 < 8 by decide) (x 1)) (show 2 < 8 by decide) (x 2)) (show 3 < 8 by decide) (x 3)) (show 4 < 8 by decide) (x 4)) (show 5 < 8 by decide) (x 5)) (show 6 < 8 by decide) (x 6)) (show 7 < 8 by decide) (x 7)) (show 7 < 8 by decide))⟩
theorem upd8 (z x : Nat → Int) : vecC (upd (upd (upd (upd (upd (upd (upd (upd z 0 (x 0)) 1 (x 1)) 2 (x 2)) 3 (x 3)) 4 (x 4)) 5 (x 5)) 6 (x 6)) 7 (x 7)) = vecC x := rfl
/-- A whole row of eight is stored. -/
theorem Has.put8 {w : World} {g : Nat} {t : TypeId} {z : Nat → Int} (h : Has w g t (vecC z)) (x : Nat → Int) : Has (((((((((w).setCell ⟨g, 0, none⟩ (.int .i64 (x 0))).setCell ⟨g, 1, none⟩ (.int .i64 (x 1))).setCell ⟨g, 2, none⟩ (.int .i64 (x 2))).setCell ⟨g, 3, none⟩ (.int .i64 (x 3))).setCell ⟨g, 4, none⟩ (.int .i64 (x 4))).setCell ⟨g, 5, none⟩ (.int .i64 (x 5))).setCell ⟨g, 6, none⟩ (.int .i64 (x 6))).setCell ⟨g, 7, none⟩ (.int .i64 (x 7))) g t (vecC x) := by
  rw [← upd8 z x]
  exact Has.putV (Has.putV (Has.putV (Has.putV (Has.putV (Has.putV (Has.putV (Has.putV h (by decide) _) (by decide) _) (by decide) _) (by decide) _) (by decide) _) (by decide) _) (by decide) _) (by decide) _
theorem below_put8 {B g : Nat} {u w : World} (h : Below B u w) (hg : B ≤ g) (x : Nat → Int) : Below B u (((((((((w).setCell ⟨g, 0, none⟩ (.int .i64 (x 0))).setCell ⟨g, 1, none⟩ (.int .i64 (x 1))).setCell ⟨g, 2, none⟩ (.int .i64 (x 2))).setCell ⟨g, 3, none⟩ (.int .i64 (x 3))).setCell ⟨g, 4, none⟩ (.int .i64 (x 4))).setCell ⟨g, 5, none⟩ (.int .i64 (x 5))).setCell ⟨g, 6, none⟩ (.int .i64 (x 6))).setCell ⟨g, 7, none⟩ (.int .i64 (x 7))) :=
  ((((((((h.setCell (p := ⟨g, 0, none⟩) hg _).setCell (p := ⟨g, 1, none⟩) hg _).setCell (p := ⟨g, 2, none⟩) hg _).setCell (p := ⟨g, 3, none⟩) hg _).setCell (p := ⟨g, 4, none⟩) hg _).setCell (p := ⟨g, 5, none⟩) hg _).setCell (p := ⟨g, 6, none⟩) hg _).setCell (p := ⟨g, 7, none⟩) hg _)

set_option maxHeartbeats 1000000 in
theorem join_any (x y : Nat → Int) (W : World) : Calls Tryz.prog 38 #[.agg (vecC x), .agg (vecC y)] W fun e W' => e = .returned (.agg (vecC (joinV x y))) ∧ Below W.heap.size W W' := by
  have hb0 := (((Below.refl W.heap.size W).alloc (Nat.le_refl _) (.cells (vecC x) 23)).alloc (by simp) (.cells (vecC y) 23)).alloc (by simp; omega) (.cells (vecC nil8) 23)
  have hx0 := ((Has.fresh W 23 (vecC x)).past (.cells (vecC y) 23)).past (.cells (vecC nil8) 23)
  have hy0 := (Has.fresh (W.alloc (.cells (vecC x) 23)) 23 (vecC y)).past (.cells (vecC nil8) 23)
  have hr0 := Has.fresh ((W.alloc (.cells (vecC x) 23)).alloc (.cells (vecC y) 23)) 23 (vecC nil8)
  rw [World.size_alloc] at hy0 hr0
  rw [World.size_alloc] at hr0
  have HX := Lib.hid hx0
  have HY := Lib.hid hy0
  have HR := Lib.hid hr0
  have HB := Lib.hid hb0
  clear hx0 hy0 hr0 hb0
  go_enter Tryz.func38, Tryz.ntmps38
  go_wp2
  go_loopw [6] (fun i wr => ∃ (k : Nat) (z : Nat → Int), k ≤ 8 ∧ i = .int .i64 k ∧ Hid (Thru (joinV x y) x k z) ∧ Hid (Has wr W.heap.size 23 (vecC z)) ∧ Hid (Has wr (W.heap.size + 1) 23 (vecC y)) ∧ Hid (Has wr (W.heap.size + 1 + 1) 23 (vecC nil8)) ∧ Hid (Below W.heap.size W wr)) (fun i _ => 8 - (intOf i).toNat)
  case atStart => exact ⟨0, x, by omega, rfl, Lib.hid (Thru.zero _ _), HX, HY, HR, HB⟩
  case round =>
    obtain ⟨k, z, hk, rfl, hT, hZ, hY, hR, hB⟩ := hrel
    by_cases hlt : k < 8
    · have k1 : (k : Int) < 8 := by omega
      have cz := has_vec_at hZ.out.drew hlt
      have cy := has_vec_at hY.out.drew hlt
      have zk := hT.out.at_
      rw [zk] at cz
      have fz := hZ.out.drew.free k
      go_wp2
      go_region
      go_wp2
      go_roundw
      case rel =>
        exact ⟨k + 1, upd z k (joinV x y k), by omega, by go_num, Lib.hid (hT.out.step rfl), Lib.hid (Has.drew (Has.putV hZ.out hlt _)), Lib.hid (Has.drew (Has.keep hY.out (by show W.heap.size + 1 ≠ W.heap.size; omega) _)), Lib.hid (Has.drew (Has.keep hR.out (by show W.heap.size + 1 + 1 ≠ W.heap.size; omega) _)), Lib.hid (Below.drew (hB.out.setCell (p := ⟨W.heap.size, k, none⟩) (Nat.le_refl _) _))⟩
      case measure => simp [intOf]; omega
    · obtain rfl : k = 8 := by omega
      rw [hT.out.done] at hZ
      obtain ⟨J, hJ⟩ : ∃ J : Nat → Int, J = joinV x y := ⟨_, rfl⟩
      rw [← hJ] at hZ
      have HJ := Lib.hid hJ
      obtain ⟨c0, c1, c2, c3, c4, c5, c6, c7⟩ := has_vec hZ.out
      obtain ⟨r0, r1, r2, r3, r4, r5, r6, r7⟩ := has_vec hR.out
      have ff := fun i => hR.out.free i
      obtain ⟨d0, d1, d2, d3, d4, d5, d6, d7⟩ := cells_put8 hR.out J
      have HQ := Lib.hid (below_put8 hB.out (g := W.heap.size + 1 + 1) (by omega) J)
      clear hJ hT
      go_wp2
      refine bodyPost_ret (v := .agg (vecC J)) (by simp [results, Tryz.results38, go_sem, d0, d1, d2, d3, d4, d5, d6, d7, vecC]) rfl ⟨by rw [HJ.out], HQ.out⟩

set_option maxHeartbeats 1000000 in
theorem meet_any (x y : Nat → Int) (W : World) : Calls Tryz.prog 59 #[.agg (vecC x), .agg (vecC y)] W fun e W' => e = .returned (.agg (vecC (meetV x y))) ∧ Below W.heap.size W W' := by
  have hb0 := (((Below.refl W.heap.size W).alloc (Nat.le_refl _) (.cells (vecC x) 23)).alloc (by simp) (.cells (vecC y) 23)).alloc (by simp; omega) (.cells (vecC nil8) 23)
  have hx0 := ((Has.fresh W 23 (vecC x)).past (.cells (vecC y) 23)).past (.cells (vecC nil8) 23)
  have hy0 := (Has.fresh (W.alloc (.cells (vecC x) 23)) 23 (vecC y)).past (.cells (vecC nil8) 23)
  have hr0 := Has.fresh ((W.alloc (.cells (vecC x) 23)).alloc (.cells (vecC y) 23)) 23 (vecC nil8)
  rw [World.size_alloc] at hy0 hr0
  rw [World.size_alloc] at hr0
  have HX := Lib.hid hx0
  have HY := Lib.hid hy0
  have HR := Lib.hid hr0
  have HB := Lib.hid hb0
  clear hx0 hy0 hr0 hb0
  go_enter Tryz.func59, Tryz.ntmps59
  go_wp2
  go_loopw [6] (fun i wr => ∃ (k : Nat) (z : Nat → Int), k ≤ 8 ∧ i = .int .i64 k ∧ Hid (Thru (meetV x y) x k z) ∧ Hid (Has wr W.heap.size 23 (vecC z)) ∧ Hid (Has wr (W.heap.size + 1) 23 (vecC y)) ∧ Hid (Has wr (W.heap.size + 1 + 1) 23 (vecC nil8)) ∧ Hid (Below W.heap.size W wr)) (fun i _ => 8 - (intOf i).toNat)
  case atStart => exact ⟨0, x, by omega, rfl, Lib.hid (Thru.zero _ _), HX, HY, HR, HB⟩
  case round =>
    obtain ⟨k, z, hk, rfl, hT, hZ, hY, hR, hB⟩ := hrel
    by_cases hlt : k < 8
    · have k1 : (k : Int) < 8 := by omega
      have cz := has_vec_at hZ.out.drew hlt
      have cy := has_vec_at hY.out.drew hlt
      have zk := hT.out.at_
      rw [zk] at cz
      have fz := hZ.out.drew.free k
      go_wp2
      go_region
      go_wp2
      go_roundw
      case rel =>
        exact ⟨k + 1, upd z k (meetV x y k), by omega, by go_num, Lib.hid (hT.out.step rfl), Lib.hid (Has.drew (Has.putV hZ.out hlt _)), Lib.hid (Has.drew (Has.keep hY.out (by show W.heap.size + 1 ≠ W.heap.size; omega) _)), Lib.hid (Has.drew (Has.keep hR.out (by show W.heap.size + 1 + 1 ≠ W.heap.size; omega) _)), Lib.hid (Below.drew (hB.out.setCell (p := ⟨W.heap.size, k, none⟩) (Nat.le_refl _) _))⟩
      case measure => simp [intOf]; omega
    · obtain rfl : k = 8 := by omega
      rw [hT.out.done] at hZ
      obtain ⟨J, hJ⟩ : ∃ J : Nat → Int, J = meetV x y := ⟨_, rfl⟩
      rw [← hJ] at hZ
      have HJ := Lib.hid hJ
      obtain ⟨c0, c1, c2, c3, c4, c5, c6, c7⟩ := has_vec hZ.out
      obtain ⟨r0, r1, r2, r3, r4, r5, r6, r7⟩ := has_vec hR.out
      have ff := fun i => hR.out.free i
      obtain ⟨d0, d1, d2, d3, d4, d5, d6, d7⟩ := cells_put8 hR.out J
      have HQ := Lib.hid (below_put8 hB.out (g := W.heap.size + 1 + 1) (by omega) J)
      clear hJ hT
      go_wp2
      refine bodyPost_ret (v := .agg (vecC J)) (by simp [results, Tryz.results59, go_sem, d0, d1, d2, d3, d4, d5, d6, d7, vecC]) rfl ⟨by rw [HJ.out], HQ.out⟩

set_option maxHeartbeats 1000000 in
theorem rjoin_any (x y : Nat → Int) (W : World) : Calls Tryz.prog 46 #[.agg (vecC x), .agg (vecC y)] W fun e W' => e = .returned (.agg (vecC (joinV x y))) ∧ Below W.heap.size W W' := by
  have hb0 := (((Below.refl W.heap.size W).alloc (Nat.le_refl _) (.cells (vecC x) 23)).alloc (by simp) (.cells (vecC y) 23)).alloc (by simp; omega) (.cells (vecC nil8) 23)
  have hx0 := ((Has.fresh W 23 (vecC x)).past (.cells (vecC y) 23)).past (.cells (vecC nil8) 23)
  have hy0 := (Has.fresh (W.alloc (.cells (vecC x) 23)) 23 (vecC y)).past (.cells (vecC nil8) 23)
  have hr0 := Has.fresh ((W.alloc (.cells (vecC x) 23)).alloc (.cells (vecC y) 23)) 23 (vecC nil8)
  rw [World.size_alloc] at hy0 hr0
  rw [World.size_alloc] at hr0
  have HX := Lib.hid hx0
  have HY := Lib.hid hy0
  have HR := Lib.hid hr0
  have HB := Lib.hid hb0
  clear hx0 hy0 hr0 hb0
  go_enter Tryz.func46, Tryz.ntmps46
  go_wp2
  go_loopw [6] (fun i wr => ∃ (k : Nat) (z : Nat → Int), k ≤ 8 ∧ i = .int .i64 k ∧ Hid (Thru (joinV x y) x k z) ∧ Hid (Has wr W.heap.size 23 (vecC z)) ∧ Hid (Has wr (W.heap.size + 1) 23 (vecC y)) ∧ Hid (Has wr (W.heap.size + 1 + 1) 23 (vecC nil8)) ∧ Hid (Below W.heap.size W wr)) (fun i _ => 8 - (intOf i).toNat)
  case atStart => exact ⟨0, x, by omega, rfl, Lib.hid (Thru.zero _ _), HX, HY, HR, HB⟩
  case round =>
    obtain ⟨k, z, hk, rfl, hT, hZ, hY, hR, hB⟩ := hrel
    by_cases hlt : k < 8
    · have k1 : (k : Int) < 8 := by omega
      have cz := has_vec_at hZ.out.drew hlt
      have cy := has_vec_at hY.out.drew hlt
      have zk := hT.out.at_
      rw [zk] at cz
      have fz := hZ.out.drew.free k
      by_cases hc : x k < y k
      · have e1 := Lib.hid (show y k = joinV x y k by unfold joinV; rw [if_pos hc])
        go_wp2
        go_region
        go_wp2
        go_roundw
        case rel =>
          exact ⟨k + 1, upd z k (y k), by omega, by go_num, Lib.hid (hT.out.step e1.out), Lib.hid (Has.putV hZ.out.drew hlt _), Lib.hid (Has.keep hY.out.drew (by show W.heap.size + 1 ≠ W.heap.size; omega) _), Lib.hid (Has.keep hR.out.drew (by show W.heap.size + 1 + 1 ≠ W.heap.size; omega) _), Lib.hid (hB.out.drew.setCell (p := ⟨W.heap.size, k, none⟩) (Nat.le_refl _) _)⟩
        case measure => simp [intOf]; omega
      · have e1 := Lib.hid (show x k = joinV x y k by unfold joinV; rw [if_neg hc])
        go_wp2
        go_region
        go_wp2
        go_roundw
        case rel => exact ⟨k + 1, z, by omega, by go_num, Lib.hid (hT.out.skip e1.out), Lib.hid hZ.out.drew, Lib.hid hY.out.drew, Lib.hid hR.out.drew, Lib.hid hB.out.drew⟩
        case measure => simp [intOf]; omega
    · obtain rfl : k = 8 := by omega
      rw [hT.out.done] at hZ
      obtain ⟨J, hJ⟩ : ∃ J : Nat → Int, J = joinV x y := ⟨_, rfl⟩
      rw [← hJ] at hZ
      have HJ := Lib.hid hJ
      obtain ⟨c0, c1, c2, c3, c4, c5, c6, c7⟩ := has_vec hZ.out
      obtain ⟨r0, r1, r2, r3, r4, r5, r6, r7⟩ := has_vec hR.out
      have ff := fun i => hR.out.free i
      obtain ⟨d0, d1, d2, d3, d4, d5, d6, d7⟩ := cells_put8 hR.out J
      have HQ := Lib.hid (below_put8 hB.out (g := W.heap.size + 1 + 1) (by omega) J)
      clear hJ hT
      go_wp2
      refine bodyPost_ret (v := .agg (vecC J)) (by simp [results, Tryz.results46, go_sem, d0, d1, d2, d3, d4, d5, d6, d7, vecC]) rfl ⟨by rw [HJ.out], HQ.out⟩

end Go.Proofs.YtblogecapegbmaaGreat.Vc
