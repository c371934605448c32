/- Vectors: the later of two stamps, whether one is known, joins and meets. -/
import Derived.Test.YtblogecapegbmaaGreatVcA
namespace Go.Proofs.YtblogecapegbmaaGreat.Vc
open Go.RowKit Go.Proofs.YtblogecapegbmaaGreat.Mem

theorem vecC_at (x : Nat → Int) {n : Nat} (h : n < 8) : (vecC x)[n]? = some (.int .i64 (x n)) := by
  match n, h with
  | 0, _ => rfl
  | 1, _ => rfl
  | 2, _ => rfl
  | 3, _ => rfl
  | 4, _ => rfl
  | 5, _ => rfl
  | 6, _ => rfl
  | 7, _ => rfl
theorem vecC_ext {x y : Nat → Int} (h : ∀ i, i < 8 → x i = y i) : vecC x = vecC y := by
  unfold vecC
  rw [h 0 (by decide), h 1 (by decide), h 2 (by decide), h 3 (by decide), h 4 (by decide), h 5 (by decide), h 6 (by decide), h 7 (by decide)]
def upd (x : Nat → Int) (n : Nat) (v : Int) : Nat → Int := fun i => if i = n then v else x i
theorem vecC_put (x : Nat → Int) {n : Nat} (v : Int) (h : n < 8) : (vecC x).setIfInBounds n (.int .i64 v) = vecC (upd x n v) := by
  match n, h with
  | 0, _ => rfl
  | 1, _ => rfl
  | 2, _ => rfl
  | 3, _ => rfl
  | 4, _ => rfl
  | 5, _ => rfl
  | 6, _ => rfl
  | 7, _ => rfl
section
variable {w : World} {g : Nat} {t : TypeId}
theorem has_st {a b : Int} (h : Has w g t (stC a b)) : w.cell? ⟨g, 0, none⟩ = some (.int .i64 a) ∧ w.cell? ⟨g, 1, none⟩ = some (.int .i64 b) := ⟨h.at_ 0, h.at_ 1⟩
theorem has_vec {x : Nat → Int} (h : Has w g t (vecC x)) : w.cell? ⟨g, 0, none⟩ = some (.int .i64 (x 0)) ∧ w.cell? ⟨g, 1, none⟩ = some (.int .i64 (x 1)) ∧ w.cell? ⟨g, 2, none⟩ = some (.int .i64 (x 2)) ∧ w.cell? ⟨g, 3, none⟩ = some (.int .i64 (x 3)) ∧ w.cell? ⟨g, 4, none⟩ = some (.int .i64 (x 4)) ∧ w.cell? ⟨g, 5, none⟩ = some (.int .i64 (x 5)) ∧ w.cell? ⟨g, 6, none⟩ = some (.int .i64 (x 6)) ∧ w.cell? ⟨g, 7, none⟩ = some (.int .i64 (x 7)) :=
  ⟨h.at_ 0, h.at_ 1, h.at_ 2, h.at_ 3, h.at_ 4, h.at_ 5, h.at_ 6, h.at_ 7⟩
theorem has_vec_at {x : Nat → Int} (h : Has w g t (vecC x)) {n : Nat} (hn : n < 8) : w.cell? ⟨g, n, none⟩ = some (.int .i64 (x n)) := (h.at_ n).trans (vecC_at x hn)
end

def laterC (a b c d : Int) : Array Value := if lessB a b c d then stC c d else stC a b
theorem later_any (a b c d : Int) (W : World) : Calls Tryz.prog 93 #[.agg (stC a b), .agg (stC c d)] W fun e W' => e = .returned (.agg (laterC a b c d)) ∧ Below W.heap.size W W' := by
  have hb0 := ((((Below.refl W.heap.size W).alloc (Nat.le_refl _) (.cells #[.int .i64 a, .int .i64 b] 37)).alloc (by simp) (.cells #[.int .i64 c, .int .i64 d] 37)).alloc (by simp; omega) (.cells #[.int .i64 0, .int .i64 0] 37))
  have ha0 := ((Has.fresh W 37 #[.int .i64 a, .int .i64 b]).past (.cells #[.int .i64 c, .int .i64 d] 37)).past (.cells #[.int .i64 0, .int .i64 0] 37)
  have hk0 := (Has.fresh (W.alloc (.cells #[.int .i64 a, .int .i64 b] 37)) 37 #[.int .i64 c, .int .i64 d]).past (.cells #[.int .i64 0, .int .i64 0] 37)
  have hr0 := Has.fresh ((W.alloc (.cells #[.int .i64 a, .int .i64 b] 37)).alloc (.cells #[.int .i64 c, .int .i64 d] 37)) 37 #[.int .i64 0, .int .i64 0]
  rw [World.size_alloc] at hk0 hr0
  rw [World.size_alloc] at hr0
  have hl := fun W => less_any a b c d W
  cases hB : lessB a b c d with
  | false =>
    have HB := Lib.hid (show laterC a b c d = stC a b by unfold laterC; rw [hB]; rfl)
    rw [hB] at hl
    clear hB
    unfold stC
    have HL := Lib.hid hl
    clear hl
    go_enter Tryz.func93, Tryz.ntmps93
    go_wp2_with fail
    refine (HL.out _).mono ?_
    rintro e w1 ⟨rfl, hb⟩
    have hb1 := hb0.trans (hb.mono hb0.size)
    have ha1 := ha0.below hb
    have hr1 := hr0.below hb
    obtain ⟨c0, c1⟩ := has_st ha1
    obtain ⟨q0, q1⟩ := has_st hr1
    have f0 := hr1.free 0
    have f1 := hr1.free 1
    have H := Lib.hid (Has.put (Has.put hr1 0 (.int .i64 a)) 1 (.int .i64 b))
    have hq := Lib.hid ((hb1.setCell (p := ⟨W.heap.size + 1 + 1, 0, none⟩) (by show W.heap.size ≤ W.heap.size + 1 + 1; omega) (.int .i64 a)).setCell (p := ⟨W.heap.size + 1 + 1, 1, none⟩) (by show W.heap.size ≤ W.heap.size + 1 + 1; omega) (.int .i64 b))
    clear hb1 ha1 hr1 ha0 hr0 hk0 hb0 hb
    go_wp2
    obtain ⟨d0, d1⟩ := has_st H.out
    refine bodyPost_ret (v := .agg #[.int .i64 a, .int .i64 b]) (by simp [results, Tryz.results93, go_sem, d0, d1]) rfl ⟨by rw [HB.out]; rfl, hq.out⟩
  | true =>
    have HB := Lib.hid (show laterC a b c d = stC c d by unfold laterC; rw [hB]; rfl)
    rw [hB] at hl
    clear hB
    unfold stC
    have HL := Lib.hid hl
    clear hl
    go_enter Tryz.func93, Tryz.ntmps93
    go_wp2_with fail
    refine (HL.out _).mono ?_
    rintro e w1 ⟨rfl, hb⟩
    have hb1 := hb0.trans (hb.mono hb0.size)
    have ha1 := hk0.below hb
    have hr1 := hr0.below hb
    obtain ⟨c0, c1⟩ := has_st ha1
    obtain ⟨q0, q1⟩ := has_st hr1
    have f0 := hr1.free 0
    have f1 := hr1.free 1
    have H := Lib.hid (Has.put (Has.put hr1 0 (.int .i64 c)) 1 (.int .i64 d))
    have hq := Lib.hid ((hb1.setCell (p := ⟨W.heap.size + 1 + 1, 0, none⟩) (by show W.heap.size ≤ W.heap.size + 1 + 1; omega) (.int .i64 c)).setCell (p := ⟨W.heap.size + 1 + 1, 1, none⟩) (by show W.heap.size ≤ W.heap.size + 1 + 1; omega) (.int .i64 d))
    clear hb1 ha1 hr1 ha0 hr0 hk0 hb0 hb
    go_wp2
    obtain ⟨d0, d1⟩ := has_st H.out
    refine bodyPost_ret (v := .agg #[.int .i64 c, .int .i64 d]) (by simp [results, Tryz.results93, go_sem, d0, d1]) rfl ⟨by rw [HB.out]; rfl, hq.out⟩
def hasB (x : Nat → Int) (t w : Int) : Bool := isB t w && decide (t ≤ x w.toNat)
theorem has_any (x : Nat → Int) (t w : Int) (W : World) : Calls Tryz.prog 69 #[.agg (vecC x), .agg (stC t w)] W fun e W' => e = .returned (.bool (hasB x t w)) ∧ Below W.heap.size W W' := by
  have hb0 := ((Below.refl W.heap.size W).alloc (Nat.le_refl _) (.cells (vecC x) 23)).alloc (by simp) (.cells (stC t w) 37)
  have hx0 := (Has.fresh W 23 (vecC x)).past (.cells (stC t w) 37)
  have hs0 := Has.fresh (W.alloc (.cells (vecC x) 23)) 37 (stC t w)
  rw [World.size_alloc] at hs0
  have hl := fun W => is_any t w W
  cases hB : isB t w with
  | false =>
    have HB := Lib.hid (show hasB x t w = false by unfold hasB; rw [hB]; rfl)
    rw [hB] at hl
    have HL := Lib.hid hl
    clear hB hl
    unfold stC vecC at *
    go_enter Tryz.func69, Tryz.ntmps69
    go_wp2_with fail
    replace hb0 := hb0.drew
    replace hx0 := hx0.drew
    replace hs0 := hs0.drew
    refine wp_region_held_drew (S := (fun w' => w'.cell? ⟨W.heap.size + 1, 0, none⟩ = some (.int .i64 t) ∧ w'.cell? ⟨W.heap.size + 1, 1, none⟩ = some (.int .i64 w))) (by kernel_rfl) ⟨Has.at_ hs0 0, Has.at_ hs0 1⟩ (fun hHeld => ?_)
    refine wpAnyH_rd (i := 0) (d := some 5) (v := ?v2) ?hy2 ?rest2
    case hy2 =>
      intro w hSw
      try dsimp only at hSw
      go_simp
      try with_reducible rfl
    try simp only [Act.put, List.setIfInBounds_toArray, List.set_cons_zero, List.set_cons_succ]
    refine wpAnyH_ready (rs := [1]) (by kernel_rfl) (by simp) ?_
    refine AllReadyH.cons rfl (fun K hK => ?_) AllReadyH.nil
    go_simp
    go_at_call 106
    refine (HL.out _).mono ?_
    rintro e w' ⟨rfl, hb⟩
    replace hs0 := hs0.below hb
    replace hx0 := hx0.below hb
    replace hb0 := hb0.trans (hb.mono hb0.size)
    clear hb
    refine hK.out _ _ ⟨Has.at_ hs0 0, Has.at_ hs0 1⟩ (fun hHeld => ?_)
    clear hK K
    try simp only [Act.put, List.setIfInBounds_toArray, List.set_cons_zero, List.set_cons_succ]
    refine wpAnyH_rd (i := 2) (d := some 7) (v := ?v4) ?hy4 ?rest4
    case hy4 =>
      intro w hSw
      try dsimp only at hSw
      go_simp
      try with_reducible rfl
    try simp only [Act.put, List.setIfInBounds_toArray, List.set_cons_zero, List.set_cons_succ]
    refine wpAnyH_skip (i := 3) (d := some 8) (by rfl) (by rfl) (by kernel_rfl) (by kernel_rfl) (by kernel_rfl) (fun _ _ _ h => h) (by rfl) (by assumption) ?_
    try simp only [Act.put, List.setIfInBounds_toArray, List.set_cons_zero, List.set_cons_succ]
    refine wpAnyH_skip (i := 4) (d := some 9) (by rfl) (by rfl) (by kernel_rfl) (by kernel_rfl) (by kernel_rfl) (fun _ _ _ h => h) (by rfl) (by assumption) ?_
    try simp only [Act.put, List.setIfInBounds_toArray, List.set_cons_zero, List.set_cons_succ]
    refine wpAnyH_skip (i := 5) (d := some 10) (by rfl) (by rfl) (by kernel_rfl) (by kernel_rfl) (by kernel_rfl) (fun _ _ _ h => h) (by rfl) (by assumption) ?_
    try simp only [Act.put, List.setIfInBounds_toArray, List.set_cons_zero, List.set_cons_succ]
    refine wpAnyH_skip (i := 6) (d := some 11) (by rfl) (by rfl) (by kernel_rfl) (by kernel_rfl) (by kernel_rfl) (fun _ _ _ h => h) (by rfl) (by assumption) ?_
    try simp only [Act.put, List.setIfInBounds_toArray, List.set_cons_zero, List.set_cons_succ]
    refine wpAnyH_skip (i := 7) (d := some 12) (by rfl) (by rfl) (by kernel_rfl) (by kernel_rfl) (by kernel_rfl) (fun _ _ _ h => h) (by rfl) (by assumption) ?_
    try simp only [Act.put, List.setIfInBounds_toArray, List.set_cons_zero, List.set_cons_succ]
    refine wpAnyH_skip (i := 8) (d := some 13) (by rfl) (by rfl) (by kernel_rfl) (by kernel_rfl) (by kernel_rfl) (fun _ _ _ h => h) (by rfl) (by assumption) ?_
    try simp only [Act.put, List.setIfInBounds_toArray, List.set_cons_zero, List.set_cons_succ]
    refine wpAnyH_skip (i := 9) (d := some 14) (by rfl) (by rfl) (by kernel_rfl) (by kernel_rfl) (by kernel_rfl) (fun _ _ _ h => h) (by rfl) (by assumption) ?_
    try simp only [Act.put, List.setIfInBounds_toArray, List.set_cons_zero, List.set_cons_succ]
    refine wpAnyH_rd (i := 10) (d := some 15) (v := ?v12) ?hy12 ?rest12
    case hy12 =>
      intro w hSw
      try dsimp only at hSw
      go_simp
      try with_reducible rfl
    try simp only [Act.put, List.setIfInBounds_toArray, List.set_cons_zero, List.set_cons_succ]
    refine wpAnyH_rd (i := 11) (d := some 4) (v := ?v13) ?hy13 ?rest13
    case hy13 =>
      intro w hSw
      try dsimp only at hSw
      go_simp
      try with_reducible rfl
    try simp only [Act.put, List.setIfInBounds_toArray, List.set_cons_zero, List.set_cons_succ]
    refine wpAnyH_done (by kernel_rfl) ?_ _
    go_wp2
    go_ret
    exact ⟨by rw [HB.out]; rfl, hb0⟩
  | true =>
    obtain ⟨⟨i1, i2⟩, i3, i4⟩ := isB_iff.1 hB
    obtain ⟨n, rfl⟩ := Int.eq_ofNat_of_zero_le i3
    have HB := Lib.hid (show hasB x t n = decide (t ≤ x n) by unfold hasB; rw [hB]; rfl)
    rw [hB] at hl
    have HL := Lib.hid hl
    have hn : n < 8 := by omega
    have n1 : (n : Int) < 8 := by omega
    clear hB hl i1 i2 i4
    go_enter Tryz.func69, Tryz.ntmps69
    go_wp2_with fail
    replace hb0 := hb0.drew
    replace hx0 := hx0.drew
    replace hs0 := hs0.drew
    first | (go_region_held3 (fun w' => w'.cell? ⟨W.heap.size + 1, 0, none⟩ = some (.int .i64 t) ∧ w'.cell? ⟨W.heap.size + 1, 1, none⟩ = some (.int .i64 n) ∧ w'.cell? ⟨W.heap.size, n, none⟩ = some (.int .i64 (x n))) (exact ⟨Has.at_ hs0 0, Has.at_ hs0 1, has_vec_at hx0 hn⟩) (first | (go_at_call 106; refine (HL.out _).mono ?_; rintro e w' ⟨rfl, hb⟩; replace hs0 := hs0.below hb; replace hx0 := hx0.below hb; replace hb0 := hb0.trans (hb.mono hb0.size); clear hb))) | fail
    go_wp2
    go_ret
    exact ⟨by rw [HB.out]; rfl, hb0⟩
end Go.Proofs.YtblogecapegbmaaGreat.Vc
