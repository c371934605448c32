import Derived.Test.YtblogecapegbmaaGreatVcD

/- Vectors: one within another by the document; the least and the greatest number; whether one may be. -/
namespace Go.Proofs.YtblogecapegbmaaGreat.Vc
open Go.RowKit Go.Proofs.YtblogecapegbmaaGreat.Mem

set_option maxHeartbeats 1000000 in
theorem rwithin_any (x y : Nat → Int) (W : World) : Calls Tryz.prog 20 #[.agg (vecC x), .agg (vecC y)] W fun e W' => e = .returned (.bool (withinB x y)) ∧ Below W.heap.size W W' := by
  have hb0 := ((Below.refl W.heap.size W).alloc (Nat.le_refl _) (.cells (vecC x) 23)).alloc (by simp) (.cells (vecC y) 23)
  have hx0 := (Has.fresh W 23 (vecC x)).past (.cells (vecC y) 23)
  have hy0 := Has.fresh (W.alloc (.cells (vecC x) 23)) 23 (vecC y)
  rw [World.size_alloc] at hy0
  have HX := Lib.hid hx0
  have HY := Lib.hid hy0
  have HB := Lib.hid hb0
  clear hx0 hy0 hb0
  go_enter Tryz.func20, Tryz.ntmps20
  go_wp2
  go_loopw [6] (fun i wr => ∃ k : Nat, k ≤ 8 ∧ i = .int .i64 k ∧ Hid (∀ j, j < k → x j ≤ y j) ∧ Hid (Has wr W.heap.size 23 (vecC x)) ∧ Hid (Has wr (W.heap.size + 1) 23 (vecC y)) ∧ Hid (Below W.heap.size W wr)) (fun i _ => 8 - (intOf i).toNat)
  case atStart => exact ⟨0, by omega, rfl, Lib.hid (fun j h => absurd h (by omega)), HX, HY, HB⟩
  case round =>
    obtain ⟨k, hk, rfl, hT, hX, hY, hB⟩ := hrel
    by_cases hlt : k < 8
    · have k1 : (k : Int) < 8 := by omega
      have cx := has_vec_at hX.out.drew hlt
      have cy := has_vec_at hY.out.drew hlt
      by_cases hc : y k < x k
      · have e1 := Lib.hid (show withinB x y = false by
          rw [Bool.eq_false_iff]
          intro h
          have := withinB_iff.1 h k hlt
          omega)
        go_wp2
        go_region
        go_wp2
        go_ret
        exact ⟨by rw [e1.out]; rfl, hB.out.drew⟩
      · have e1 := Lib.hid (show ∀ j, j < k + 1 → x j ≤ y j by
          intro j hj
          by_cases e : j = k
          · subst e; omega
          · exact hT.out j (by omega))
        go_wp2
        go_region
        go_wp2
        go_roundw
        case rel => exact ⟨k + 1, by omega, by go_num, e1, Lib.hid hX.out.drew, Lib.hid hY.out.drew, Lib.hid hB.out.drew⟩
        case measure => simp [intOf]; omega
    · obtain rfl : k = 8 := by omega
      have e1 := Lib.hid (show withinB x y = true from withinB_iff.2 hT.out)
      go_wp2
      go_ret
      exact ⟨by rw [e1.out]; rfl, hB.out⟩

/-- The least, the greatest of the first so many and one. -/
def low (x : Nat → Int) : Nat → Int
  | 0 => x 0
  | k + 1 => if x (k + 1) < low x k then x (k + 1) else low x k
def top (x : Nat → Int) : Nat → Int
  | 0 => x 0
  | k + 1 => if top x k < x (k + 1) then x (k + 1) else top x k
theorem low_iff (x : Nat → Int) (b : Int) : ∀ k, b ≤ low x k ↔ ∀ i, i ≤ k → b ≤ x i
  | 0 => by
    simp only [low]
    exact ⟨fun h i hi => by obtain rfl : i = 0 := by omega
                            exact h, fun h => h 0 (Nat.le_refl _)⟩
  | k + 1 => by
    have ih := low_iff x b k
    simp only [low]
    constructor
    · intro h i hi
      by_cases e : i = k + 1
      · subst e
        split at h <;> omega
      · refine ih.1 ?_ i (by omega)
        split at h <;> omega
    · intro h
      have h1 := ih.2 fun i hi => h i (by omega)
      have h2 := h (k + 1) (Nat.le_refl _)
      split <;> assumption
theorem top_iff (x : Nat → Int) (b : Int) : ∀ k, top x k ≤ b ↔ ∀ i, i ≤ k → x i ≤ b
  | 0 => by
    simp only [top]
    exact ⟨fun h i hi => by obtain rfl : i = 0 := by omega
                            exact h, fun h => h 0 (Nat.le_refl _)⟩
  | k + 1 => by
    have ih := top_iff x b k
    simp only [top]
    constructor
    · intro h i hi
      by_cases e : i = k + 1
      · subst e
        split at h <;> omega
      · refine ih.1 ?_ i (by omega)
        split at h <;> omega
    · intro h
      have h1 := ih.2 fun i hi => h i (by omega)
      have h2 := h (k + 1) (Nat.le_refl _)
      split <;> assumption
end Go.Proofs.YtblogecapegbmaaGreat.Vc
/- Vectors: whether one may be; the document's own stamps. -/
namespace Go.Proofs.YtblogecapegbmaaGreat.Vc
open Go.RowKit Go.Proofs.YtblogecapegbmaaGreat.Mem

def goodB (x : Nat → Int) : Bool := (List.range 8).all fun i => decide (0 ≤ x i) && decide (x i ≤ 1099511627776)
theorem goodB_iff {x : Nat → Int} : goodB x = true ↔ ∀ i, i < 8 → 0 ≤ x i ∧ x i ≤ 1099511627776 := by
  unfold goodB
  simp only [List.all_eq_true, List.mem_range, Bool.and_eq_true, decide_eq_true_eq]
theorem good_low {x : Nat → Int} : goodB x = true ↔ 0 ≤ low x 7 ∧ top x 7 ≤ 1099511627776 := by
  rw [goodB_iff, low_iff, top_iff]
  exact ⟨fun h => ⟨fun i hi => (h i (by omega)).1, fun i hi => (h i (by omega)).2⟩, fun h i hi => ⟨h.1 i (by omega), h.2 i (by omega)⟩⟩
end Go.Proofs.YtblogecapegbmaaGreat.Vc
/- Vectors: the document's own Later and Has; a vector by which an event is known, too. -/
namespace Go.Proofs.YtblogecapegbmaaGreat.Vc
open Go.RowKit Go.Proofs.YtblogecapegbmaaGreat.Mem

theorem rlater_any (a b c d : Int) (W : World) : Calls Tryz.prog 133 #[.agg (stC a b), .agg (stC c d)] W fun e W' => e = .returned (.agg (laterC a b c d)) ∧ Below W.heap.size W W' := by
  have hb0 := ((((Below.refl W.heap.size W).alloc (Nat.le_refl _) (.cells #[.int .i64 a, .int .i64 b] 37)).alloc (by simp) (.cells #[.int .i64 c, .int .i64 d] 37)).alloc (by simp; omega) (.cells #[.int .i64 0, .int .i64 0] 37))
  have ha0 := ((Has.fresh W 37 #[.int .i64 a, .int .i64 b]).past (.cells #[.int .i64 c, .int .i64 d] 37)).past (.cells #[.int .i64 0, .int .i64 0] 37)
  have hk0 := (Has.fresh (W.alloc (.cells #[.int .i64 a, .int .i64 b] 37)) 37 #[.int .i64 c, .int .i64 d]).past (.cells #[.int .i64 0, .int .i64 0] 37)
  have hr0 := Has.fresh ((W.alloc (.cells #[.int .i64 a, .int .i64 b] 37)).alloc (.cells #[.int .i64 c, .int .i64 d] 37)) 37 #[.int .i64 0, .int .i64 0]
  rw [World.size_alloc] at hk0 hr0
  rw [World.size_alloc] at hr0
  have hl := fun W => rless_any a b c d W
  cases hB : lessB a b c d with
  | false =>
    have HB := Lib.hid (show laterC a b c d = stC a b by unfold laterC; rw [hB]; rfl)
    rw [hB] at hl
    clear hB
    unfold stC
    have HL := Lib.hid hl
    clear hl
    go_enter Tryz.func133, Tryz.ntmps133
    go_wp2_with fail
    refine (HL.out _).mono ?_
    rintro e w1 ⟨rfl, hb⟩
    have hb1 := hb0.trans (hb.mono hb0.size)
    have ha1 := ha0.below hb
    have hr1 := hr0.below hb
    obtain ⟨c0, c1⟩ := has_st ha1
    obtain ⟨q0, q1⟩ := has_st hr1
    have f0 := hr1.free 0
    have f1 := hr1.free 1
    have H := Lib.hid (Has.put (Has.put hr1 0 (.int .i64 a)) 1 (.int .i64 b))
    have hq := Lib.hid ((hb1.setCell (p := ⟨W.heap.size + 1 + 1, 0, none⟩) (by show W.heap.size ≤ W.heap.size + 1 + 1; omega) (.int .i64 a)).setCell (p := ⟨W.heap.size + 1 + 1, 1, none⟩) (by show W.heap.size ≤ W.heap.size + 1 + 1; omega) (.int .i64 b))
    clear hb1 ha1 hr1 ha0 hr0 hk0 hb0 hb
    go_wp2
    obtain ⟨d0, d1⟩ := has_st H.out
    refine bodyPost_ret (v := .agg #[.int .i64 a, .int .i64 b]) (by simp [results, Tryz.results133, go_sem, d0, d1]) rfl ⟨by rw [HB.out]; rfl, hq.out⟩
  | true =>
    have HB := Lib.hid (show laterC a b c d = stC c d by unfold laterC; rw [hB]; rfl)
    rw [hB] at hl
    clear hB
    unfold stC
    have HL := Lib.hid hl
    clear hl
    go_enter Tryz.func133, Tryz.ntmps133
    go_wp2_with fail
    refine (HL.out _).mono ?_
    rintro e w1 ⟨rfl, hb⟩
    have hb1 := hb0.trans (hb.mono hb0.size)
    have ha1 := hk0.below hb
    have hr1 := hr0.below hb
    obtain ⟨c0, c1⟩ := has_st ha1
    obtain ⟨q0, q1⟩ := has_st hr1
    have f0 := hr1.free 0
    have f1 := hr1.free 1
    have H := Lib.hid (Has.put (Has.put hr1 0 (.int .i64 c)) 1 (.int .i64 d))
    have hq := Lib.hid ((hb1.setCell (p := ⟨W.heap.size + 1 + 1, 0, none⟩) (by show W.heap.size ≤ W.heap.size + 1 + 1; omega) (.int .i64 c)).setCell (p := ⟨W.heap.size + 1 + 1, 1, none⟩) (by show W.heap.size ≤ W.heap.size + 1 + 1; omega) (.int .i64 d))
    clear hb1 ha1 hr1 ha0 hr0 hk0 hb0 hb
    go_wp2
    obtain ⟨d0, d1⟩ := has_st H.out
    refine bodyPost_ret (v := .agg #[.int .i64 c, .int .i64 d]) (by simp [results, Tryz.results133, go_sem, d0, d1]) rfl ⟨by rw [HB.out]; rfl, hq.out⟩
theorem rhas_any (x : Nat → Int) (t w : Int) (W : World) : Calls Tryz.prog 70 #[.agg (vecC x), .agg (stC t w)] W fun e W' => e = .returned (.bool (hasB x t w)) ∧ Below W.heap.size W W' := by
  have hb0 := ((Below.refl W.heap.size W).alloc (Nat.le_refl _) (.cells (vecC x) 23)).alloc (by simp) (.cells (stC t w) 37)
  have hx0 := (Has.fresh W 23 (vecC x)).past (.cells (stC t w) 37)
  have hs0 := Has.fresh (W.alloc (.cells (vecC x) 23)) 37 (stC t w)
  rw [World.size_alloc] at hs0
  have hl := fun W => ris_any t w W
  cases hB : isB t w with
  | false =>
    have HB := Lib.hid (show hasB x t w = false by unfold hasB; rw [hB]; rfl)
    rw [hB] at hl
    have HL := Lib.hid hl
    clear hB hl
    unfold stC vecC at *
    go_enter Tryz.func70, Tryz.ntmps70
    go_wp2_with fail
    replace hb0 := hb0.drew
    replace hx0 := hx0.drew
    replace hs0 := hs0.drew
    refine wp_region_held_drew (S := (fun w' => w'.cell? ⟨W.heap.size + 1, 0, none⟩ = some (.int .i64 t) ∧ w'.cell? ⟨W.heap.size + 1, 1, none⟩ = some (.int .i64 w))) (by kernel_rfl) ⟨Has.at_ hs0 0, Has.at_ hs0 1⟩ (fun hHeld => ?_)
    refine wpAnyH_rd (i := 0) (d := some 5) (v := ?v2) ?hy2 ?rest2
    case hy2 =>
      intro w hSw
      try dsimp only at hSw
      go_simp
      try with_reducible rfl
    try simp only [Act.put, List.setIfInBounds_toArray, List.set_cons_zero, List.set_cons_succ]
    refine wpAnyH_ready (rs := [1]) (by kernel_rfl) (by simp) ?_
    refine AllReadyH.cons rfl (fun K hK => ?_) AllReadyH.nil
    go_simp
    go_at_call 107
    refine (HL.out _).mono ?_
    rintro e w' ⟨rfl, hb⟩
    replace hs0 := hs0.below hb
    replace hx0 := hx0.below hb
    replace hb0 := hb0.trans (hb.mono hb0.size)
    clear hb
    refine hK.out _ _ ⟨Has.at_ hs0 0, Has.at_ hs0 1⟩ (fun hHeld => ?_)
    clear hK K
    try simp only [Act.put, List.setIfInBounds_toArray, List.set_cons_zero, List.set_cons_succ]
    refine wpAnyH_rd (i := 2) (d := some 7) (v := ?v4) ?hy4 ?rest4
    case hy4 =>
      intro w hSw
      try dsimp only at hSw
      go_simp
      try with_reducible rfl
    try simp only [Act.put, List.setIfInBounds_toArray, List.set_cons_zero, List.set_cons_succ]
    refine wpAnyH_skip (i := 3) (d := some 8) (by rfl) (by rfl) (by kernel_rfl) (by kernel_rfl) (by kernel_rfl) (fun _ _ _ h => h) (by rfl) (by assumption) ?_
    try simp only [Act.put, List.setIfInBounds_toArray, List.set_cons_zero, List.set_cons_succ]
    refine wpAnyH_skip (i := 4) (d := some 9) (by rfl) (by rfl) (by kernel_rfl) (by kernel_rfl) (by kernel_rfl) (fun _ _ _ h => h) (by rfl) (by assumption) ?_
    try simp only [Act.put, List.setIfInBounds_toArray, List.set_cons_zero, List.set_cons_succ]
    refine wpAnyH_skip (i := 5) (d := some 10) (by rfl) (by rfl) (by kernel_rfl) (by kernel_rfl) (by kernel_rfl) (fun _ _ _ h => h) (by rfl) (by assumption) ?_
    try simp only [Act.put, List.setIfInBounds_toArray, List.set_cons_zero, List.set_cons_succ]
    refine wpAnyH_skip (i := 6) (d := some 11) (by rfl) (by rfl) (by kernel_rfl) (by kernel_rfl) (by kernel_rfl) (fun _ _ _ h => h) (by rfl) (by assumption) ?_
    try simp only [Act.put, List.setIfInBounds_toArray, List.set_cons_zero, List.set_cons_succ]
    refine wpAnyH_skip (i := 7) (d := some 12) (by rfl) (by rfl) (by kernel_rfl) (by kernel_rfl) (by kernel_rfl) (fun _ _ _ h => h) (by rfl) (by assumption) ?_
    try simp only [Act.put, List.setIfInBounds_toArray, List.set_cons_zero, List.set_cons_succ]
    refine wpAnyH_skip (i := 8) (d := some 13) (by rfl) (by rfl) (by kernel_rfl) (by kernel_rfl) (by kernel_rfl) (fun _ _ _ h => h) (by rfl) (by assumption) ?_
    try simp only [Act.put, List.setIfInBounds_toArray, List.set_cons_zero, List.set_cons_succ]
    refine wpAnyH_skip (i := 9) (d := some 14) (by rfl) (by rfl) (by kernel_rfl) (by kernel_rfl) (by kernel_rfl) (fun _ _ _ h => h) (by rfl) (by assumption) ?_
    try simp only [Act.put, List.setIfInBounds_toArray, List.set_cons_zero, List.set_cons_succ]
    refine wpAnyH_rd (i := 10) (d := some 15) (v := ?v12) ?hy12 ?rest12
    case hy12 =>
      intro w hSw
      try dsimp only at hSw
      go_simp
      try with_reducible rfl
    try simp only [Act.put, List.setIfInBounds_toArray, List.set_cons_zero, List.set_cons_succ]
    refine wpAnyH_rd (i := 11) (d := some 4) (v := ?v13) ?hy13 ?rest13
    case hy13 =>
      intro w hSw
      try dsimp only at hSw
      go_simp
      try with_reducible rfl
    try simp only [Act.put, List.setIfInBounds_toArray, List.set_cons_zero, List.set_cons_succ]
    refine wpAnyH_done (by kernel_rfl) ?_ _
    go_wp2
    go_ret
    exact ⟨by rw [HB.out]; rfl, hb0⟩
  | true =>
    obtain ⟨⟨i1, i2⟩, i3, i4⟩ := isB_iff.1 hB
    obtain ⟨n, rfl⟩ := Int.eq_ofNat_of_zero_le i3
    have HB := Lib.hid (show hasB x t n = decide (t ≤ x n) by unfold hasB; rw [hB]; rfl)
    rw [hB] at hl
    have HL := Lib.hid hl
    have hn : n < 8 := by omega
    have n1 : (n : Int) < 8 := by omega
    clear hB hl i1 i2 i4
    go_enter Tryz.func70, Tryz.ntmps70
    go_wp2_with fail
    replace hb0 := hb0.drew
    replace hx0 := hx0.drew
    replace hs0 := hs0.drew
    first | (go_region_held3 (fun w' => w'.cell? ⟨W.heap.size + 1, 0, none⟩ = some (.int .i64 t) ∧ w'.cell? ⟨W.heap.size + 1, 1, none⟩ = some (.int .i64 n) ∧ w'.cell? ⟨W.heap.size, n, none⟩ = some (.int .i64 (x n))) (exact ⟨Has.at_ hs0 0, Has.at_ hs0 1, has_vec_at hx0 hn⟩) (first | (go_at_call 107; refine (HL.out _).mono ?_; rintro e w' ⟨rfl, hb⟩; replace hs0 := hs0.below hb; replace hx0 := hx0.below hb; replace hb0 := hb0.trans (hb.mono hb0.size); clear hb))) | fail
    go_wp2
    go_ret
    exact ⟨by rw [HB.out]; rfl, hb0⟩

def withV (x : Nat → Int) (t w : Int) : Nat → Int := if isB t w then upd x w.toNat (if x w.toNat < t then t else x w.toNat) else x
end Go.Proofs.YtblogecapegbmaaGreat.Vc
