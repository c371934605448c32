/- Vectors: the document's own Later and Has; a vector by which an event is known, too. -/
import Derived.Test.YtlnlnpofdgnoeaaVcF
namespace Go.Proofs.Ytlnlnpofdgnoeaa.Vc
open Go.RowKit Go.Proofs.Ytlnlnpofdgnoeaa.Mem

theorem rlater_any (a b c d : Int) (W : World) : Calls Try.prog 14 #[.agg (stC a b), .agg (stC c d)] W fun e W' => e = .returned (.agg (laterC a b c d)) ∧ Below W.heap.size W W' := by
  have hb0 := ((((Below.refl W.heap.size W).alloc (Nat.le_refl _) (.cells #[.int .i64 a, .int .i64 b] 23)).alloc (by simp) (.cells #[.int .i64 c, .int .i64 d] 23)).alloc (by simp; omega) (.cells #[.int .i64 0, .int .i64 0] 23))
  have ha0 := ((Has.fresh W 23 #[.int .i64 a, .int .i64 b]).past (.cells #[.int .i64 c, .int .i64 d] 23)).past (.cells #[.int .i64 0, .int .i64 0] 23)
  have hk0 := (Has.fresh (W.alloc (.cells #[.int .i64 a, .int .i64 b] 23)) 23 #[.int .i64 c, .int .i64 d]).past (.cells #[.int .i64 0, .int .i64 0] 23)
  have hr0 := Has.fresh ((W.alloc (.cells #[.int .i64 a, .int .i64 b] 23)).alloc (.cells #[.int .i64 c, .int .i64 d] 23)) 23 #[.int .i64 0, .int .i64 0]
  rw [World.size_alloc] at hk0 hr0
  rw [World.size_alloc] at hr0
  have hl := fun W => rless_any a b c d W
  cases hB : lessB a b c d with
  | false =>
    have HB := Lib.hid (show laterC a b c d = stC a b by unfold laterC; rw [hB]; rfl)
    rw [hB] at hl
    clear hB
    unfold stC
    have HL := Lib.hid hl
    clear hl
    go_enter Try.func14, Try.ntmps14
    go_wp2_with fail
    refine (HL.out _).mono ?_
    rintro e w1 ⟨rfl, hb⟩
    have hb1 := hb0.trans (hb.mono hb0.size)
    have ha1 := ha0.below hb
    have hr1 := hr0.below hb
    obtain ⟨c0, c1⟩ := has_st ha1
    obtain ⟨q0, q1⟩ := has_st hr1
    have f0 := hr1.free 0
    have f1 := hr1.free 1
    have H := Lib.hid (Has.put (Has.put hr1 0 (.int .i64 a)) 1 (.int .i64 b))
    have hq := Lib.hid ((hb1.setCell (p := ⟨W.heap.size + 1 + 1, 0, none⟩) (by show W.heap.size ≤ W.heap.size + 1 + 1; omega) (.int .i64 a)).setCell (p := ⟨W.heap.size + 1 + 1, 1, none⟩) (by show W.heap.size ≤ W.heap.size + 1 + 1; omega) (.int .i64 b))
    clear hb1 ha1 hr1 ha0 hr0 hk0 hb0 hb
    go_wp2
    obtain ⟨d0, d1⟩ := has_st H.out
    refine bodyPost_ret (v := .agg #[.int .i64 a, .int .i64 b]) (by simp [results, Try.results14, go_sem, d0, d1]) rfl ⟨by rw [HB.out]; rfl, hq.out⟩
  | true =>
    have HB := Lib.hid (show laterC a b c d = stC c d by unfold laterC; rw [hB]; rfl)
    rw [hB] at hl
    clear hB
    unfold stC
    have HL := Lib.hid hl
    clear hl
    go_enter Try.func14, Try.ntmps14
    go_wp2_with fail
    refine (HL.out _).mono ?_
    rintro e w1 ⟨rfl, hb⟩
    have hb1 := hb0.trans (hb.mono hb0.size)
    have ha1 := hk0.below hb
    have hr1 := hr0.below hb
    obtain ⟨c0, c1⟩ := has_st ha1
    obtain ⟨q0, q1⟩ := has_st hr1
    have f0 := hr1.free 0
    have f1 := hr1.free 1
    have H := Lib.hid (Has.put (Has.put hr1 0 (.int .i64 c)) 1 (.int .i64 d))
    have hq := Lib.hid ((hb1.setCell (p := ⟨W.heap.size + 1 + 1, 0, none⟩) (by show W.heap.size ≤ W.heap.size + 1 + 1; omega) (.int .i64 c)).setCell (p := ⟨W.heap.size + 1 + 1, 1, none⟩) (by show W.heap.size ≤ W.heap.size + 1 + 1; omega) (.int .i64 d))
    clear hb1 ha1 hr1 ha0 hr0 hk0 hb0 hb
    go_wp2
    obtain ⟨d0, d1⟩ := has_st H.out
    refine bodyPost_ret (v := .agg #[.int .i64 c, .int .i64 d]) (by simp [results, Try.results14, go_sem, d0, d1]) rfl ⟨by rw [HB.out]; rfl, hq.out⟩
theorem rhas_any (x : Nat → Int) (t w : Int) (W : World) : Calls Try.prog 16 #[.agg (vecC x), .agg (stC t w)] W fun e W' => e = .returned (.bool (hasB x t w)) ∧ Below W.heap.size W W' := by
  have hb0 := ((Below.refl W.heap.size W).alloc (Nat.le_refl _) (.cells (vecC x) 25)).alloc (by simp) (.cells (stC t w) 23)
  have hx0 := (Has.fresh W 25 (vecC x)).past (.cells (stC t w) 23)
  have hs0 := Has.fresh (W.alloc (.cells (vecC x) 25)) 23 (stC t w)
  rw [World.size_alloc] at hs0
  have hl := fun W => ris_any t w W
  cases hB : isB t w with
  | false =>
    have HB := Lib.hid (show hasB x t w = false by unfold hasB; rw [hB]; rfl)
    rw [hB] at hl
    have HL := Lib.hid hl
    clear hB hl
    unfold stC vecC at *
    go_enter Try.func16, Try.ntmps16
    go_wp2_with fail
    replace hb0 := hb0.drew
    replace hx0 := hx0.drew
    replace hs0 := hs0.drew
    refine wp_region_held_drew (S := (fun w' => w'.cell? ⟨W.heap.size + 1, 0, none⟩ = some (.int .i64 t) ∧ w'.cell? ⟨W.heap.size + 1, 1, none⟩ = some (.int .i64 w))) (by kernel_rfl) ⟨Has.at_ hs0 0, Has.at_ hs0 1⟩ (fun hHeld => ?_)
    refine wpAnyH_read (i := 0) (d := some 5) (v := ?v2) (by rfl) (by rfl) (by kernel_rfl) (by kernel_rfl) (by kernel_rfl) (fun _ _ _ h => h) (by rfl) ?hy2 (by assumption) ?rest2
    case hy2 =>
      intro w hSw
      try dsimp only at hSw
      go_simp
      try with_reducible rfl
    try simp only [Act.put, List.setIfInBounds_toArray, List.set_cons_zero, List.set_cons_succ]
    refine wpAnyH_ready (rs := [1]) (by kernel_rfl) (by simp) ?_
    refine AllReadyH.cons rfl (fun K hK => ?_) AllReadyH.nil
    go_simp
    go_at_call 10
    refine (HL.out _).mono ?_
    rintro e w' ⟨rfl, hb⟩
    replace hs0 := hs0.below hb
    replace hx0 := hx0.below hb
    replace hb0 := hb0.trans (hb.mono hb0.size)
    clear hb
    refine hK.out _ _ ⟨Has.at_ hs0 0, Has.at_ hs0 1⟩ (fun hHeld => ?_)
    clear hK K
    try simp only [Act.put, List.setIfInBounds_toArray, List.set_cons_zero, List.set_cons_succ]
    refine wpAnyH_read (i := 2) (d := some 7) (v := ?v4) (by rfl) (by rfl) (by kernel_rfl) (by kernel_rfl) (by kernel_rfl) (fun _ _ _ h => h) (by rfl) ?hy4 (by assumption) ?rest4
    case hy4 =>
      intro w hSw
      try dsimp only at hSw
      go_simp
      try with_reducible rfl
    try simp only [Act.put, List.setIfInBounds_toArray, List.set_cons_zero, List.set_cons_succ]
    refine wpAnyH_skip (i := 3) (d := some 8) (by rfl) (by rfl) (by kernel_rfl) (by kernel_rfl) (by kernel_rfl) (fun _ _ _ h => h) (by rfl) (by assumption) ?_
    try simp only [Act.put, List.setIfInBounds_toArray, List.set_cons_zero, List.set_cons_succ]
    refine wpAnyH_skip (i := 4) (d := some 9) (by rfl) (by rfl) (by kernel_rfl) (by kernel_rfl) (by kernel_rfl) (fun _ _ _ h => h) (by rfl) (by assumption) ?_
    try simp only [Act.put, List.setIfInBounds_toArray, List.set_cons_zero, List.set_cons_succ]
    refine wpAnyH_skip (i := 5) (d := some 10) (by rfl) (by rfl) (by kernel_rfl) (by kernel_rfl) (by kernel_rfl) (fun _ _ _ h => h) (by rfl) (by assumption) ?_
    try simp only [Act.put, List.setIfInBounds_toArray, List.set_cons_zero, List.set_cons_succ]
    refine wpAnyH_skip (i := 6) (d := some 11) (by rfl) (by rfl) (by kernel_rfl) (by kernel_rfl) (by kernel_rfl) (fun _ _ _ h => h) (by rfl) (by assumption) ?_
    try simp only [Act.put, List.setIfInBounds_toArray, List.set_cons_zero, List.set_cons_succ]
    refine wpAnyH_skip (i := 7) (d := some 12) (by rfl) (by rfl) (by kernel_rfl) (by kernel_rfl) (by kernel_rfl) (fun _ _ _ h => h) (by rfl) (by assumption) ?_
    try simp only [Act.put, List.setIfInBounds_toArray, List.set_cons_zero, List.set_cons_succ]
    refine wpAnyH_skip (i := 8) (d := some 13) (by rfl) (by rfl) (by kernel_rfl) (by kernel_rfl) (by kernel_rfl) (fun _ _ _ h => h) (by rfl) (by assumption) ?_
    try simp only [Act.put, List.setIfInBounds_toArray, List.set_cons_zero, List.set_cons_succ]
    refine wpAnyH_skip (i := 9) (d := some 14) (by rfl) (by rfl) (by kernel_rfl) (by kernel_rfl) (by kernel_rfl) (fun _ _ _ h => h) (by rfl) (by assumption) ?_
    try simp only [Act.put, List.setIfInBounds_toArray, List.set_cons_zero, List.set_cons_succ]
    refine wpAnyH_read (i := 10) (d := some 15) (v := ?v12) (by rfl) (by rfl) (by kernel_rfl) (by kernel_rfl) (by kernel_rfl) (fun _ _ _ h => h) (by rfl) ?hy12 (by assumption) ?rest12
    case hy12 =>
      intro w hSw
      try dsimp only at hSw
      go_simp
      try with_reducible rfl
    try simp only [Act.put, List.setIfInBounds_toArray, List.set_cons_zero, List.set_cons_succ]
    refine wpAnyH_read (i := 11) (d := some 4) (v := ?v13) (by rfl) (by rfl) (by kernel_rfl) (by kernel_rfl) (by kernel_rfl) (fun _ _ _ h => h) (by rfl) ?hy13 (by assumption) ?rest13
    case hy13 =>
      intro w hSw
      try dsimp only at hSw
      go_simp
      try with_reducible rfl
    try simp only [Act.put, List.setIfInBounds_toArray, List.set_cons_zero, List.set_cons_succ]
    refine wpAnyH_done (by kernel_rfl) ?_ _
    go_wp2
    go_ret
    exact ⟨by rw [HB.out]; rfl, hb0⟩
  | true =>
    obtain ⟨⟨i1, i2⟩, i3, i4⟩ := isB_iff.1 hB
    obtain ⟨n, rfl⟩ := Int.eq_ofNat_of_zero_le i3
    have HB := Lib.hid (show hasB x t n = decide (t ≤ x n) by unfold hasB; rw [hB]; rfl)
    rw [hB] at hl
    have HL := Lib.hid hl
    have hn : n < 8 := by omega
    have n1 : (n : Int) < 8 := by omega
    clear hB hl i1 i2 i4
    go_enter Try.func16, Try.ntmps16
    go_wp2_with fail
    replace hb0 := hb0.drew
    replace hx0 := hx0.drew
    replace hs0 := hs0.drew
    first | (go_region_held3 (fun w' => w'.cell? ⟨W.heap.size + 1, 0, none⟩ = some (.int .i64 t) ∧ w'.cell? ⟨W.heap.size + 1, 1, none⟩ = some (.int .i64 n) ∧ w'.cell? ⟨W.heap.size, n, none⟩ = some (.int .i64 (x n))) (exact ⟨Has.at_ hs0 0, Has.at_ hs0 1, has_vec_at hx0 hn⟩) (first | (go_at_call 10; refine (HL.out _).mono ?_; rintro e w' ⟨rfl, hb⟩; replace hs0 := hs0.below hb; replace hx0 := hx0.below hb; replace hb0 := hb0.trans (hb.mono hb0.size); clear hb))) | fail
    go_wp2
    go_ret
    exact ⟨by rw [HB.out]; rfl, hb0⟩

def withV (x : Nat → Int) (t w : Int) : Nat → Int := if isB t w then upd x w.toNat (if x w.toNat < t then t else x w.toNat) else x
set_option maxHeartbeats 1000000 in
theorem with_any (x : Nat → Int) (t w : Int) (W : World) : Calls Try.prog 17 #[.agg (vecC x), .agg (stC t w)] W fun e W' => e = .returned (.agg (vecC (withV x t w))) ∧ Below W.heap.size W W' := by
  have hb0 := (((Below.refl W.heap.size W).alloc (Nat.le_refl _) (.cells (vecC x) 25)).alloc (by simp) (.cells (stC t w) 23)).alloc (by simp; omega) (.cells (vecC nil8) 25)
  have hx0 := ((Has.fresh W 25 (vecC x)).past (.cells (stC t w) 23)).past (.cells (vecC nil8) 25)
  have hs0 := (Has.fresh (W.alloc (.cells (vecC x) 25)) 23 (stC t w)).past (.cells (vecC nil8) 25)
  have hr0 := Has.fresh ((W.alloc (.cells (vecC x) 25)).alloc (.cells (stC t w) 23)) 25 (vecC nil8)
  rw [World.size_alloc] at hs0 hr0
  rw [World.size_alloc] at hr0
  have hl := fun W => is_any t w W
  cases hB : isB t w with
  | false =>
    have HB := Lib.hid (show x = withV x t w by unfold withV; rw [hB]; rfl)
    rw [hB] at hl
    have HL := Lib.hid hl
    clear hB hl
    unfold stC at *
    go_enter Try.func17, Try.ntmps17
    go_wp2_with fail
    refine (HL.out _).mono ?_
    rintro e w1 ⟨rfl, hb⟩
    have hx1 := hx0.below hb
    have hr1 := hr0.below hb
    have hb1 := hb0.trans (hb.mono hb0.size)
    clear hx0 hs0 hr0 hb0 hb
    obtain ⟨J, hJ⟩ : ∃ J : Nat → Int, J = x := ⟨_, rfl⟩
    have HJ := Lib.hid (hJ.trans HB.out)
    rw [← hJ] at hx1
    clear hJ
    obtain ⟨c0, c1, c2, c3, c4, c5, c6, c7⟩ := has_vec hx1
    obtain ⟨r0, r1, r2, r3, r4, r5, r6, r7⟩ := has_vec hr1
    have ff := fun i => hr1.free i
    obtain ⟨d0, d1, d2, d3, d4, d5, d6, d7⟩ := cells_put8 hr1 J
    have HQ := Lib.hid (below_put8 hb1 (g := W.heap.size + 1 + 1) (by omega) J)
    clear hx1 hr1 hb1
    go_wp2
    refine bodyPost_ret (v := .agg (vecC J)) (by simp [results, Try.results17, go_sem, d0, d1, d2, d3, d4, d5, d6, d7, vecC]) rfl ⟨by rw [HJ.out], HQ.out⟩
  | true =>
    obtain ⟨⟨i1, i2⟩, i3, i4⟩ := isB_iff.1 hB
    obtain ⟨n, rfl⟩ := Int.eq_ofNat_of_zero_le i3
    have hn : n < 8 := by omega
    have n1 : (n : Int) < 8 := by omega
    have HB := Lib.hid (show upd x n (if x n < t then t else x n) = withV x t n by unfold withV; rw [hB]; rfl)
    rw [hB] at hl
    have HL := Lib.hid hl
    clear hB hl i1 i2 i4
    unfold stC at *
    go_enter Try.func17, Try.ntmps17
    go_wp2_with fail
    refine (HL.out _).mono ?_
    rintro e w1 ⟨rfl, hb⟩
    replace hx0 := hx0.below hb
    replace hs0 := hs0.below hb
    replace hr0 := hr0.below hb
    have hb1 := hb0.trans (hb.mono hb0.size)
    clear hb0 hb
    have s0 := Has.at_ hs0.drew 0
    have s1 := Has.at_ hs0.drew 1
    simp at s0 s1
    have cx := has_vec_at hx0.drew hn
    have fx := hx0.drew.free n
    go_wp2
    go_region
    have hx2 := Has.drew (Has.putV hx0 hn (if x n < t then t else x n))
    have hr2 := Has.drew (Has.keep hr0 (p := ⟨W.heap.size, n, none⟩) (by show W.heap.size + 1 + 1 ≠ W.heap.size; omega) (.int .i64 (if x n < t then t else x n)))
    replace hb1 := Below.drew (hb1.setCell (p := ⟨W.heap.size, n, none⟩) (Nat.le_refl _) (.int .i64 (if x n < t then t else x n)))
    have hx1 := hx2
    have hr1 := hr2
    clear hx0 hs0 hr0 hx2 hr2 cx fx s0 s1
    generalize (w1.setCell ⟨W.heap.size, n, none⟩ (.int .i64 (if x n < t then t else x n))).drew = w2 at *
    generalize (if x n < t then t else x n) = V at *
    obtain ⟨J, hJ⟩ : ∃ J : Nat → Int, J = upd x n V := ⟨_, rfl⟩
    have HJ := Lib.hid (hJ.trans HB.out)
    rw [← hJ] at hx1
    clear hJ
    obtain ⟨c0, c1, c2, c3, c4, c5, c6, c7⟩ := has_vec hx1
    obtain ⟨r0, r1, r2, r3, r4, r5, r6, r7⟩ := has_vec hr1
    have ff := fun i => hr1.free i
    obtain ⟨d0, d1, d2, d3, d4, d5, d6, d7⟩ := cells_put8 hr1 J
    have HQ := Lib.hid (below_put8 hb1 (g := W.heap.size + 1 + 1) (by omega) J)
    clear hx1 hr1 hb1
    go_wp2
    refine bodyPost_ret (v := .agg (vecC J)) (by simp [results, Try.results17, go_sem, d0, d1, d2, d3, d4, d5, d6, d7, vecC]) rfl ⟨by rw [HJ.out], HQ.out⟩
set_option maxHeartbeats 1000000 in
theorem rwith_any (x : Nat → Int) (t w : Int) (W : World) : Calls Try.prog 18 #[.agg (vecC x), .agg (stC t w)] W fun e W' => e = .returned (.agg (vecC (withV x t w))) ∧ Below W.heap.size W W' := by
  have hb0 := (((Below.refl W.heap.size W).alloc (Nat.le_refl _) (.cells (vecC x) 25)).alloc (by simp) (.cells (stC t w) 23)).alloc (by simp; omega) (.cells (vecC nil8) 25)
  have hx0 := ((Has.fresh W 25 (vecC x)).past (.cells (stC t w) 23)).past (.cells (vecC nil8) 25)
  have hs0 := (Has.fresh (W.alloc (.cells (vecC x) 25)) 23 (stC t w)).past (.cells (vecC nil8) 25)
  have hr0 := Has.fresh ((W.alloc (.cells (vecC x) 25)).alloc (.cells (stC t w) 23)) 25 (vecC nil8)
  rw [World.size_alloc] at hs0 hr0
  rw [World.size_alloc] at hr0
  have hl := fun W => ris_any t w W
  cases hB : isB t w with
  | false =>
    have HB := Lib.hid (show x = withV x t w by unfold withV; rw [hB]; rfl)
    rw [hB] at hl
    have HL := Lib.hid hl
    clear hB hl
    unfold stC at hs0 HL
    go_enter Try.func18, Try.ntmps18
    go_wp2_with fail
    replace hb0 := hb0.drew
    replace hx0 := hx0.drew
    replace hs0 := hs0.drew
    replace hr0 := hr0.drew
    refine wp_region_held_drew (S := (fun w' => w'.cell? ⟨W.heap.size + 1, 0, none⟩ = some (.int .i64 t) ∧ w'.cell? ⟨W.heap.size + 1, 1, none⟩ = some (.int .i64 w))) (by kernel_rfl) ⟨Has.at_ hs0 0, Has.at_ hs0 1⟩ (fun hHeld => ?_)
    refine wpAnyH_read (i := 0) (d := some 5) (v := ?v16) (by rfl) (by rfl) (by kernel_rfl) (by kernel_rfl) (by kernel_rfl) (fun _ _ _ h => h) (by rfl) ?hy16 (by assumption) ?rest16
    case hy16 =>
      intro w hSw
      try dsimp only at hSw
      go_simp
      try with_reducible rfl
    try simp only [Act.put, List.setIfInBounds_toArray, List.set_cons_zero, List.set_cons_succ]
    refine wpAnyH_ready (rs := [1]) (by kernel_rfl) (by simp) ?_
    refine AllReadyH.cons rfl (fun K hK => ?_) AllReadyH.nil
    go_simp
    go_at_call 10
    refine (HL.out _).mono ?_
    rintro e w' ⟨rfl, hb⟩
    replace hs0 := hs0.below hb
    replace hx0 := hx0.below hb
    replace hr0 := hr0.below hb
    replace hb0 := hb0.trans (hb.mono hb0.size)
    clear hb
    refine hK.out _ _ ⟨Has.at_ hs0 0, Has.at_ hs0 1⟩ (fun hHeld => ?_)
    clear hK K
    try simp only [Act.put, List.setIfInBounds_toArray, List.set_cons_zero, List.set_cons_succ]
    refine wpAnyH_read (i := 2) (d := some 7) (v := ?v18) (by rfl) (by rfl) (by kernel_rfl) (by kernel_rfl) (by kernel_rfl) (fun _ _ _ h => h) (by rfl) ?hy18 (by assumption) ?rest18
    case hy18 =>
      intro w hSw
      try dsimp only at hSw
      go_simp
      try with_reducible rfl
    try simp only [Act.put, List.setIfInBounds_toArray, List.set_cons_zero, List.set_cons_succ]
    refine wpAnyH_skip (i := 3) (d := some 8) (by rfl) (by rfl) (by kernel_rfl) (by kernel_rfl) (by kernel_rfl) (fun _ _ _ h => h) (by rfl) (by assumption) ?_
    try simp only [Act.put, List.setIfInBounds_toArray, List.set_cons_zero, List.set_cons_succ]
    refine wpAnyH_skip (i := 4) (d := some 9) (by rfl) (by rfl) (by kernel_rfl) (by kernel_rfl) (by kernel_rfl) (fun _ _ _ h => h) (by rfl) (by assumption) ?_
    try simp only [Act.put, List.setIfInBounds_toArray, List.set_cons_zero, List.set_cons_succ]
    refine wpAnyH_skip (i := 5) (d := some 10) (by rfl) (by rfl) (by kernel_rfl) (by kernel_rfl) (by kernel_rfl) (fun _ _ _ h => h) (by rfl) (by assumption) ?_
    try simp only [Act.put, List.setIfInBounds_toArray, List.set_cons_zero, List.set_cons_succ]
    refine wpAnyH_skip (i := 6) (d := some 11) (by rfl) (by rfl) (by kernel_rfl) (by kernel_rfl) (by kernel_rfl) (fun _ _ _ h => h) (by rfl) (by assumption) ?_
    try simp only [Act.put, List.setIfInBounds_toArray, List.set_cons_zero, List.set_cons_succ]
    refine wpAnyH_skip (i := 7) (d := some 12) (by rfl) (by rfl) (by kernel_rfl) (by kernel_rfl) (by kernel_rfl) (fun _ _ _ h => h) (by rfl) (by assumption) ?_
    try simp only [Act.put, List.setIfInBounds_toArray, List.set_cons_zero, List.set_cons_succ]
    refine wpAnyH_skip (i := 8) (d := some 13) (by rfl) (by rfl) (by kernel_rfl) (by kernel_rfl) (by kernel_rfl) (fun _ _ _ h => h) (by rfl) (by assumption) ?_
    try simp only [Act.put, List.setIfInBounds_toArray, List.set_cons_zero, List.set_cons_succ]
    refine wpAnyH_skip (i := 9) (d := some 14) (by rfl) (by rfl) (by kernel_rfl) (by kernel_rfl) (by kernel_rfl) (fun _ _ _ h => h) (by rfl) (by assumption) ?_
    try simp only [Act.put, List.setIfInBounds_toArray, List.set_cons_zero, List.set_cons_succ]
    refine wpAnyH_read (i := 10) (d := some 15) (v := ?v26) (by rfl) (by rfl) (by kernel_rfl) (by kernel_rfl) (by kernel_rfl) (fun _ _ _ h => h) (by rfl) ?hy26 (by assumption) ?rest26
    case hy26 =>
      intro w hSw
      try dsimp only at hSw
      go_simp
      try with_reducible rfl
    try simp only [Act.put, List.setIfInBounds_toArray, List.set_cons_zero, List.set_cons_succ]
    refine wpAnyH_done (by kernel_rfl) ?_ _
    have hx1 := hx0
    have hr1 := hr0
    have hb1 := hb0
    clear hx0 hs0 hr0 hb0
    obtain ⟨J, hJ⟩ : ∃ J : Nat → Int, J = x := ⟨_, rfl⟩
    have HJ := Lib.hid (hJ.trans HB.out)
    rw [← hJ] at hx1
    clear hJ
    obtain ⟨c0, c1, c2, c3, c4, c5, c6, c7⟩ := has_vec hx1
    obtain ⟨r0, r1, r2, r3, r4, r5, r6, r7⟩ := has_vec hr1
    have ff := fun i => hr1.free i
    obtain ⟨d0, d1, d2, d3, d4, d5, d6, d7⟩ := cells_put8 hr1 J
    have HQ := Lib.hid (below_put8 hb1 (g := W.heap.size + 1 + 1) (by omega) J)
    clear hx1 hr1 hb1
    go_wp2
    refine bodyPost_ret (v := .agg (vecC J)) (by simp [results, Try.results18, go_sem, d0, d1, d2, d3, d4, d5, d6, d7, vecC]) rfl ⟨by rw [HJ.out], HQ.out⟩
  | true =>
    obtain ⟨⟨i1, i2⟩, i3, i4⟩ := isB_iff.1 hB
    obtain ⟨n, rfl⟩ := Int.eq_ofNat_of_zero_le i3
    have hn : n < 8 := by omega
    have n1 : (n : Int) < 8 := by omega
    have HB := Lib.hid (show upd x n (if x n < t then t else x n) = withV x t n by unfold withV; rw [hB]; rfl)
    rw [hB] at hl
    have HL := Lib.hid hl
    clear hB hl i1 i2 i4
    unfold stC at hs0 HL
    by_cases hc : x n < t
    · rw [if_pos hc] at HB
      go_enter Try.func18, Try.ntmps18
      go_wp2_with fail
      replace hb0 := hb0.drew
      replace hx0 := hx0.drew
      replace hs0 := hs0.drew
      replace hr0 := hr0.drew
      first | (go_region_held3 (fun w' => w'.cell? ⟨W.heap.size + 1, 0, none⟩ = some (.int .i64 t) ∧ w'.cell? ⟨W.heap.size + 1, 1, none⟩ = some (.int .i64 n) ∧ w'.cell? ⟨W.heap.size, n, none⟩ = some (.int .i64 (x n))) (exact ⟨Has.at_ hs0 0, Has.at_ hs0 1, has_vec_at hx0 hn⟩) (first | (go_at_call 10; refine (HL.out _).mono ?_; rintro e w' ⟨rfl, hb⟩; replace hs0 := hs0.below hb; replace hx0 := hx0.below hb; replace hr0 := hr0.below hb; replace hb0 := hb0.trans (hb.mono hb0.size); clear hb))) | fail
      have s0 := Has.at_ hs0 0
      have s1 := Has.at_ hs0 1
      simp at s0 s1
      have cx := has_vec_at hx0 hn
      have fx := hx0.free n
      obtain ⟨J, hJ⟩ : ∃ J : Nat → Int, J = upd x n t := ⟨_, rfl⟩
      have HJ := Lib.hid (hJ.trans HB.out)
      have hx1 := Has.putV hx0 hn t
      have hr1 := Has.keep hr0 (p := ⟨W.heap.size, n, none⟩) (by show W.heap.size + 1 + 1 ≠ W.heap.size; omega) (.int .i64 t)
      have hb1 := hb0.setCell (p := ⟨W.heap.size, n, none⟩) (Nat.le_refl _) (.int .i64 t)
      rw [← hJ] at hx1
      clear hJ hx0 hs0 hr0 hb0
      have hcx := Lib.hid hx1
      obtain ⟨c0, c1, c2, c3, c4, c5, c6, c7⟩ := has_vec hx1
      obtain ⟨r0, r1, r2, r3, r4, r5, r6, r7⟩ := has_vec hr1
      have ff := fun i => hr1.free i
      obtain ⟨d0, d1, d2, d3, d4, d5, d6, d7⟩ := cells_put8 hr1 J
      have HQ := Lib.hid (below_put8 hb1 (g := W.heap.size + 1 + 1) (by omega) J)
      clear hx1 hr1 hb1
      go_wp2
      refine bodyPost_ret (v := .agg (vecC J)) (by simp [results, Try.results18, go_sem, d0, d1, d2, d3, d4, d5, d6, d7, vecC]) rfl ⟨by rw [HJ.out], HQ.out⟩
    · have HB2 := Lib.hid (show x = withV x t n by
        rw [← HB.out, if_neg hc]
        funext i
        unfold upd
        by_cases e : i = n
        · rw [if_pos e, e]
        · rw [if_neg e])
      clear HB
      have HB := HB2
      have hd : decide (x n < t) = false := decide_eq_false hc
      clear HB2
      go_enter Try.func18, Try.ntmps18
      go_wp2_with fail
      replace hb0 := hb0.drew
      replace hx0 := hx0.drew
      replace hs0 := hs0.drew
      replace hr0 := hr0.drew
      first | (go_region_held3 (fun w' => w'.cell? ⟨W.heap.size + 1, 0, none⟩ = some (.int .i64 t) ∧ w'.cell? ⟨W.heap.size + 1, 1, none⟩ = some (.int .i64 n) ∧ w'.cell? ⟨W.heap.size, n, none⟩ = some (.int .i64 (x n))) (exact ⟨Has.at_ hs0 0, Has.at_ hs0 1, has_vec_at hx0 hn⟩) (first | (go_at_call 10; refine (HL.out _).mono ?_; rintro e w' ⟨rfl, hb⟩; replace hs0 := hs0.below hb; replace hx0 := hx0.below hb; replace hr0 := hr0.below hb; replace hb0 := hb0.trans (hb.mono hb0.size); clear hb))) | fail
      have hx1 := hx0
      have hr1 := hr0
      have hb1 := hb0
      clear hx0 hs0 hr0 hb0
      obtain ⟨J, hJ⟩ : ∃ J : Nat → Int, J = x := ⟨_, rfl⟩
      have HJ := Lib.hid (hJ.trans HB.out)
      rw [← hJ] at hx1
      clear hJ
      obtain ⟨c0, c1, c2, c3, c4, c5, c6, c7⟩ := has_vec hx1
      obtain ⟨r0, r1, r2, r3, r4, r5, r6, r7⟩ := has_vec hr1
      have ff := fun i => hr1.free i
      obtain ⟨d0, d1, d2, d3, d4, d5, d6, d7⟩ := cells_put8 hr1 J
      have HQ := Lib.hid (below_put8 hb1 (g := W.heap.size + 1 + 1) (by omega) J)
      clear hx1 hr1 hb1
      go_wp2
      refine bodyPost_ret (v := .agg (vecC J)) (by simp [results, Try.results18, go_sem, d0, d1, d2, d3, d4, d5, d6, d7, vecC]) rfl ⟨by rw [HJ.out], HQ.out⟩
end Go.Proofs.Ytlnlnpofdgnoeaa.Vc
