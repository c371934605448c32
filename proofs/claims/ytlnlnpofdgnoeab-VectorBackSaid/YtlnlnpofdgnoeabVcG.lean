/- Vectors: the document's own Later and Has; a vector by which an event is known, too. -/
import Derived.Test.YtlnlnpofdgnoeabVcF
namespace Go.Proofs.Ytlnlnpofdgnoeab.Vc
open Go.RowKit Go.Proofs.Ytlnlnpofdgnoeab.Mem


def withV (x : Nat → Int) (t w : Int) : Nat → Int := if isB t w then upd x w.toNat (if x w.toNat < t then t else x w.toNat) else x
set_option maxHeartbeats 1000000 in
theorem with_any (x : Nat → Int) (t w : Int) (W : World) : Calls Try.prog 7 #[.agg (vecC x), .agg (stC t w)] W fun e W' => e = .returned (.agg (vecC (withV x t w))) ∧ Below W.heap.size W W' := by
  have hb0 := (((Below.refl W.heap.size W).alloc (Nat.le_refl _) (.cells (vecC x) 23)).alloc (by simp) (.cells (stC t w) 25)).alloc (by simp; omega) (.cells (vecC nil8) 23)
  have hx0 := ((Has.fresh W 23 (vecC x)).past (.cells (stC t w) 25)).past (.cells (vecC nil8) 23)
  have hs0 := (Has.fresh (W.alloc (.cells (vecC x) 23)) 25 (stC t w)).past (.cells (vecC nil8) 23)
  have hr0 := Has.fresh ((W.alloc (.cells (vecC x) 23)).alloc (.cells (stC t w) 25)) 23 (vecC nil8)
  rw [World.size_alloc] at hs0 hr0
  rw [World.size_alloc] at hr0
  have hl := fun W => is_any t w W
  cases hB : isB t w with
  | false =>
    have HB := Lib.hid (show x = withV x t w by unfold withV; rw [hB]; rfl)
    rw [hB] at hl
    have HL := Lib.hid hl
    clear hB hl
    unfold stC at *
    go_enter Try.func7, Try.ntmps7
    go_wp2_with fail
    refine (HL.out _).mono ?_
    rintro e w1 ⟨rfl, hb⟩
    have hx1 := hx0.below hb
    have hr1 := hr0.below hb
    have hb1 := hb0.trans (hb.mono hb0.size)
    clear hx0 hs0 hr0 hb0 hb
    obtain ⟨J, hJ⟩ : ∃ J : Nat → Int, J = x := ⟨_, rfl⟩
    have HJ := Lib.hid (hJ.trans HB.out)
    rw [← hJ] at hx1
    clear hJ
    obtain ⟨c0, c1, c2, c3, c4, c5, c6, c7⟩ := has_vec hx1
    obtain ⟨r0, r1, r2, r3, r4, r5, r6, r7⟩ := has_vec hr1
    have ff := fun i => hr1.free i
    obtain ⟨d0, d1, d2, d3, d4, d5, d6, d7⟩ := cells_put8 hr1 J
    have HQ := Lib.hid (below_put8 hb1 (g := W.heap.size + 1 + 1) (by omega) J)
    clear hx1 hr1 hb1
    go_wp2
    refine bodyPost_ret (v := .agg (vecC J)) (by simp [results, Try.results7, go_sem, d0, d1, d2, d3, d4, d5, d6, d7, vecC]) rfl ⟨by rw [HJ.out], HQ.out⟩
  | true =>
    obtain ⟨⟨i1, i2⟩, i3, i4⟩ := isB_iff.1 hB
    obtain ⟨n, rfl⟩ := Int.eq_ofNat_of_zero_le i3
    have hn : n < 8 := by omega
    have n1 : (n : Int) < 8 := by omega
    have HB := Lib.hid (show upd x n (if x n < t then t else x n) = withV x t n by unfold withV; rw [hB]; rfl)
    rw [hB] at hl
    have HL := Lib.hid hl
    clear hB hl i1 i2 i4
    unfold stC at *
    go_enter Try.func7, Try.ntmps7
    go_wp2_with fail
    refine (HL.out _).mono ?_
    rintro e w1 ⟨rfl, hb⟩
    replace hx0 := hx0.below hb
    replace hs0 := hs0.below hb
    replace hr0 := hr0.below hb
    have hb1 := hb0.trans (hb.mono hb0.size)
    clear hb0 hb
    have s0 := Has.at_ hs0.drew 0
    have s1 := Has.at_ hs0.drew 1
    simp at s0 s1
    have cx := has_vec_at hx0.drew hn
    have fx := hx0.drew.free n
    go_wp2
    go_region
    have hx2 := Has.drew (Has.putV hx0 hn (if x n < t then t else x n))
    have hr2 := Has.drew (Has.keep hr0 (p := ⟨W.heap.size, n, none⟩) (by show W.heap.size + 1 + 1 ≠ W.heap.size; omega) (.int .i64 (if x n < t then t else x n)))
    replace hb1 := Below.drew (hb1.setCell (p := ⟨W.heap.size, n, none⟩) (Nat.le_refl _) (.int .i64 (if x n < t then t else x n)))
    have hx1 := hx2
    have hr1 := hr2
    clear hx0 hs0 hr0 hx2 hr2 cx fx s0 s1
    generalize (w1.setCell ⟨W.heap.size, n, none⟩ (.int .i64 (if x n < t then t else x n))).drew = w2 at *
    generalize (if x n < t then t else x n) = V at *
    obtain ⟨J, hJ⟩ : ∃ J : Nat → Int, J = upd x n V := ⟨_, rfl⟩
    have HJ := Lib.hid (hJ.trans HB.out)
    rw [← hJ] at hx1
    clear hJ
    obtain ⟨c0, c1, c2, c3, c4, c5, c6, c7⟩ := has_vec hx1
    obtain ⟨r0, r1, r2, r3, r4, r5, r6, r7⟩ := has_vec hr1
    have ff := fun i => hr1.free i
    obtain ⟨d0, d1, d2, d3, d4, d5, d6, d7⟩ := cells_put8 hr1 J
    have HQ := Lib.hid (below_put8 hb1 (g := W.heap.size + 1 + 1) (by omega) J)
    clear hx1 hr1 hb1
    go_wp2
    refine bodyPost_ret (v := .agg (vecC J)) (by simp [results, Try.results7, go_sem, d0, d1, d2, d3, d4, d5, d6, d7, vecC]) rfl ⟨by rw [HJ.out], HQ.out⟩
end Go.Proofs.Ytlnlnpofdgnoeab.Vc
