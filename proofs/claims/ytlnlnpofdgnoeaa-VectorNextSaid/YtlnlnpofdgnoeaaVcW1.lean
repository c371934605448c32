/- VectorStamps, VectorTwo, VectorNext: walked. -/
import Derived.Test.YtlnlnpofdgnoeaaVcJ
namespace Go.Proofs.Ytlnlnpofdgnoeaa.Vc
open Go.RowKit Go.Proofs.Ytlnlnpofdgnoeaa.Mem

theorem eql_later (a b c d : Int) (w : World) : (binOp .eql 23 (.agg (laterC a b c d)) (.agg (laterC a b c d))).run Try.prog w = .ok (.bool true) w := by
  unfold laterC
  cases lessB a b c d
  · exact (eql_st a b a b w).trans (by simp)
  · exact (eql_st c d c d w).trans (by simp)
theorem eql_same (x : Nat → Int) (w : World) : (binOp .eql 25 (.agg (vecC x)) (.agg (vecC x))).run Try.prog w = .ok (.bool true) w := by rw [eql_vec, eq8_self]

set_option maxHeartbeats 8000000 in
set_option maxRecDepth 100000 in
theorem stamps_walk (a b c d : Int) (x : Nat → Int) (W : World) :
    Calls Try.prog 3 #[.agg (stC a b), .agg (stC c d), .agg (vecC x)] W fun e w' => e = .returned (.bool true) ∧ Below W.heap.size W w' := by
  have hb0 := (((Below.refl W.heap.size W).alloc (Nat.le_refl _) (.cells (stC a b) 23)).alloc (by simp) (.cells (stC c d) 23)).alloc (by simp; omega) (.cells (vecC x) 25)
  have ha := ((Has.fresh W 23 (stC a b)).past (.cells (stC c d) 23)).past (.cells (vecC x) 25)
  have hk := (Has.fresh (W.alloc (.cells (stC a b) 23)) 23 (stC c d)).past (.cells (vecC x) 25)
  have hx := Has.fresh ((W.alloc (.cells (stC a b) 23)).alloc (.cells (stC c d) 23)) 25 (vecC x)
  rw [World.size_alloc] at hk hx
  rw [World.size_alloc] at hx
  have H1 := Lib.hid (fun W => is_any a b W)
  have H2 := Lib.hid (fun W => ris_any a b W)
  have H3 := Lib.hid (fun W => less_any a b c d W)
  have H4 := Lib.hid (fun W => rless_any a b c d W)
  have H5 := Lib.hid (fun W => later_any a b c d W)
  have H6 := Lib.hid (fun W => rlater_any a b c d W)
  have H7 := Lib.hid (fun W => has_any x a b W)
  have H8 := Lib.hid (fun W => rhas_any x a b W)
  have H9 := Lib.hid (fun W => with_any x a b W)
  have H10 := Lib.hid (fun W => rwith_any x a b W)
  have H11 := Lib.hid (fun W => awake_any W)
  have q1 := fun w => eql_later a b c d w
  have q2 := fun w => eql_same (withV x a b) w
  generalize laterC a b c d = LC at *
  generalize vecC (withV x a b) = WC at *
  generalize isB a b = B1 at *
  generalize lessB a b c d = B2 at *
  generalize hasB x a b = B3 at *
  unfold stC at *
  go_enter Try.func3, Try.ntmps3
  go_wp2_with fail
  replace hb0 := hb0.drew
  replace ha := ha.drew
  replace hk := hk.drew
  replace hx := hx.drew
  first | (go_region_held3 (fun w' => (w'.cell? ⟨W.heap.size, 0, none⟩ = some (.int .i64 a) ∧ w'.cell? ⟨W.heap.size, 1, none⟩ = some (.int .i64 b)) ∧ (w'.cell? ⟨W.heap.size + 1, 0, none⟩ = some (.int .i64 c) ∧ w'.cell? ⟨W.heap.size + 1, 1, none⟩ = some (.int .i64 d)) ∧ w'.cell? ⟨W.heap.size + 1 + 1, 0, none⟩ = some (.int .i64 (x 0)) ∧ w'.cell? ⟨W.heap.size + 1 + 1, 1, none⟩ = some (.int .i64 (x 1)) ∧ w'.cell? ⟨W.heap.size + 1 + 1, 2, none⟩ = some (.int .i64 (x 2)) ∧ w'.cell? ⟨W.heap.size + 1 + 1, 3, none⟩ = some (.int .i64 (x 3)) ∧ w'.cell? ⟨W.heap.size + 1 + 1, 4, none⟩ = some (.int .i64 (x 4)) ∧ w'.cell? ⟨W.heap.size + 1 + 1, 5, none⟩ = some (.int .i64 (x 5)) ∧ w'.cell? ⟨W.heap.size + 1 + 1, 6, none⟩ = some (.int .i64 (x 6)) ∧ w'.cell? ⟨W.heap.size + 1 + 1, 7, none⟩ = some (.int .i64 (x 7))) (exact ⟨has_st ha, has_st hk, has_vec hx⟩) (first | (go_at_call 9; refine (H1.out _).mono ?_; rintro e w' ⟨rfl, hb⟩; replace ha := ha.below hb; replace hk := hk.below hb; replace hx := hx.below hb; replace hb0 := hb0.trans (hb.mono hb0.size); clear hb) | (go_at_call 10; refine (H2.out _).mono ?_; rintro e w' ⟨rfl, hb⟩; replace ha := ha.below hb; replace hk := hk.below hb; replace hx := hx.below hb; replace hb0 := hb0.trans (hb.mono hb0.size); clear hb) | (go_at_call 11; refine (H3.out _).mono ?_; rintro e w' ⟨rfl, hb⟩; replace ha := ha.below hb; replace hk := hk.below hb; replace hx := hx.below hb; replace hb0 := hb0.trans (hb.mono hb0.size); clear hb) | (go_at_call 12; refine (H4.out _).mono ?_; rintro e w' ⟨rfl, hb⟩; replace ha := ha.below hb; replace hk := hk.below hb; replace hx := hx.below hb; replace hb0 := hb0.trans (hb.mono hb0.size); clear hb) | (go_at_call 13; refine (H5.out _).mono ?_; rintro e w' ⟨rfl, hb⟩; replace ha := ha.below hb; replace hk := hk.below hb; replace hx := hx.below hb; replace hb0 := hb0.trans (hb.mono hb0.size); clear hb) | (go_at_call 14; refine (H6.out _).mono ?_; rintro e w' ⟨rfl, hb⟩; replace ha := ha.below hb; replace hk := hk.below hb; replace hx := hx.below hb; replace hb0 := hb0.trans (hb.mono hb0.size); clear hb) | (go_at_call 15; refine (H7.out _).mono ?_; rintro e w' ⟨rfl, hb⟩; replace ha := ha.below hb; replace hk := hk.below hb; replace hx := hx.below hb; replace hb0 := hb0.trans (hb.mono hb0.size); clear hb) | (go_at_call 16; refine (H8.out _).mono ?_; rintro e w' ⟨rfl, hb⟩; replace ha := ha.below hb; replace hk := hk.below hb; replace hx := hx.below hb; replace hb0 := hb0.trans (hb.mono hb0.size); clear hb) | (go_at_call 17; refine (H9.out _).mono ?_; rintro e w' ⟨rfl, hb⟩; replace ha := ha.below hb; replace hk := hk.below hb; replace hx := hx.below hb; replace hb0 := hb0.trans (hb.mono hb0.size); clear hb) | (go_at_call 18; refine (H10.out _).mono ?_; rintro e w' ⟨rfl, hb⟩; replace ha := ha.below hb; replace hk := hk.below hb; replace hx := hx.below hb; replace hb0 := hb0.trans (hb.mono hb0.size); clear hb) | (go_at_call 19; refine (H11.out _).mono ?_; rintro e w' ⟨rfl, hb⟩; replace ha := ha.below hb; replace hk := hk.below hb; replace hx := hx.below hb; replace hb0 := hb0.trans (hb.mono hb0.size); clear hb))) | fail
  go_wp2
  go_ret
  exact ⟨rfl, hb0⟩

set_option maxHeartbeats 8000000 in
set_option maxRecDepth 100000 in
theorem two_walk (x y : Nat → Int) (W : World) :
    Calls Try.prog 4 #[.agg (vecC x), .agg (vecC y)] W fun e w' => e = .returned (.bool true) ∧ Below W.heap.size W w' := by
  have hb0 := ((Below.refl W.heap.size W).alloc (Nat.le_refl _) (.cells (vecC x) 25)).alloc (by simp) (.cells (vecC y) 25)
  have hx := (Has.fresh W 25 (vecC x)).past (.cells (vecC y) 25)
  have hy := Has.fresh (W.alloc (.cells (vecC x) 25)) 25 (vecC y)
  rw [World.size_alloc] at hy
  have H1 := Lib.hid (fun W => join_any x y W)
  have H2 := Lib.hid (fun W => rjoin_any x y W)
  have H3 := Lib.hid (fun W => meet_any x y W)
  have H4 := Lib.hid (fun W => rmeet_any x y W)
  have H5 := Lib.hid (fun W => within_any x y W)
  have H6 := Lib.hid (fun W => rwithin_any x y W)
  have H7 := Lib.hid (fun W => good_any x W)
  have H8 := Lib.hid (fun W => rgood_any x W)
  have H11 := Lib.hid (fun W => awake_any W)
  have q1 := fun w => eql_same (joinV x y) w
  have q2 := fun w => eql_same (meetV x y) w
  generalize vecC (joinV x y) = JC at *
  generalize vecC (meetV x y) = MC at *
  generalize withinB x y = B1 at *
  generalize goodB x = B2 at *
  go_enter Try.func4, Try.ntmps4
  go_wp2_with fail
  replace hb0 := hb0.drew
  replace hx := hx.drew
  replace hy := hy.drew
  first | (go_region_held3 (fun w' => (w'.cell? ⟨W.heap.size, 0, none⟩ = some (.int .i64 (x 0)) ∧ w'.cell? ⟨W.heap.size, 1, none⟩ = some (.int .i64 (x 1)) ∧ w'.cell? ⟨W.heap.size, 2, none⟩ = some (.int .i64 (x 2)) ∧ w'.cell? ⟨W.heap.size, 3, none⟩ = some (.int .i64 (x 3)) ∧ w'.cell? ⟨W.heap.size, 4, none⟩ = some (.int .i64 (x 4)) ∧ w'.cell? ⟨W.heap.size, 5, none⟩ = some (.int .i64 (x 5)) ∧ w'.cell? ⟨W.heap.size, 6, none⟩ = some (.int .i64 (x 6)) ∧ w'.cell? ⟨W.heap.size, 7, none⟩ = some (.int .i64 (x 7))) ∧ w'.cell? ⟨W.heap.size + 1, 0, none⟩ = some (.int .i64 (y 0)) ∧ w'.cell? ⟨W.heap.size + 1, 1, none⟩ = some (.int .i64 (y 1)) ∧ w'.cell? ⟨W.heap.size + 1, 2, none⟩ = some (.int .i64 (y 2)) ∧ w'.cell? ⟨W.heap.size + 1, 3, none⟩ = some (.int .i64 (y 3)) ∧ w'.cell? ⟨W.heap.size + 1, 4, none⟩ = some (.int .i64 (y 4)) ∧ w'.cell? ⟨W.heap.size + 1, 5, none⟩ = some (.int .i64 (y 5)) ∧ w'.cell? ⟨W.heap.size + 1, 6, none⟩ = some (.int .i64 (y 6)) ∧ w'.cell? ⟨W.heap.size + 1, 7, none⟩ = some (.int .i64 (y 7))) (exact ⟨has_vec hx, has_vec hy⟩) (first | (go_at_call 20; refine (H1.out _).mono ?_; rintro e w' ⟨rfl, hb⟩; replace hx := hx.below hb; replace hy := hy.below hb; replace hb0 := hb0.trans (hb.mono hb0.size); clear hb) | (go_at_call 21; refine (H2.out _).mono ?_; rintro e w' ⟨rfl, hb⟩; replace hx := hx.below hb; replace hy := hy.below hb; replace hb0 := hb0.trans (hb.mono hb0.size); clear hb) | (go_at_call 22; refine (H3.out _).mono ?_; rintro e w' ⟨rfl, hb⟩; replace hx := hx.below hb; replace hy := hy.below hb; replace hb0 := hb0.trans (hb.mono hb0.size); clear hb) | (go_at_call 23; refine (H4.out _).mono ?_; rintro e w' ⟨rfl, hb⟩; replace hx := hx.below hb; replace hy := hy.below hb; replace hb0 := hb0.trans (hb.mono hb0.size); clear hb) | (go_at_call 24; refine (H5.out _).mono ?_; rintro e w' ⟨rfl, hb⟩; replace hx := hx.below hb; replace hy := hy.below hb; replace hb0 := hb0.trans (hb.mono hb0.size); clear hb) | (go_at_call 25; refine (H6.out _).mono ?_; rintro e w' ⟨rfl, hb⟩; replace hx := hx.below hb; replace hy := hy.below hb; replace hb0 := hb0.trans (hb.mono hb0.size); clear hb) | (go_at_call 26; refine (H7.out _).mono ?_; rintro e w' ⟨rfl, hb⟩; replace hx := hx.below hb; replace hy := hy.below hb; replace hb0 := hb0.trans (hb.mono hb0.size); clear hb) | (go_at_call 27; refine (H8.out _).mono ?_; rintro e w' ⟨rfl, hb⟩; replace hx := hx.below hb; replace hy := hy.below hb; replace hb0 := hb0.trans (hb.mono hb0.size); clear hb) | (go_at_call 19; refine (H11.out _).mono ?_; rintro e w' ⟨rfl, hb⟩; replace hx := hx.below hb; replace hy := hy.below hb; replace hb0 := hb0.trans (hb.mono hb0.size); clear hb))) | fail
  go_wp2
  go_ret
  exact ⟨rfl, hb0⟩

theorem nextV_is (x : Nat → Int) (who : Int) : ∃ a b e : Int, nextV x who = .tuple #[.agg #[.int .i64 a, .int .i64 b], .int .i64 e] := by
  unfold nextV
  split
  · split
    · exact ⟨0, 0, 75, rfl⟩
    · exact ⟨top x 7 + 1, who, 0, rfl⟩
  · exact ⟨0, 0, 22, rfl⟩
set_option maxHeartbeats 2000000 in
theorem next_walk (x : Nat → Int) (who : Int) (W : World) :
    Calls Try.prog 5 #[.agg (vecC x), .int .i64 who] W fun e w' => e = .returned (.bool true) ∧ Below W.heap.size W w' := by
  have hb0 := (Below.refl W.heap.size W).alloc (Nat.le_refl _) (.cells (vecC x) 25)
  have hx := Has.fresh W 25 (vecC x)
  obtain ⟨a, b, e0, hV⟩ := nextV_is x who
  have h1 := fun W => next_any x who W
  have h2 := fun W => rnext_any x who W
  rw [hV] at h1 h2
  have q1 : ∀ w : World, (binOp .eql 23 (.agg #[.int .i64 a, .int .i64 b]) (.agg #[.int .i64 a, .int .i64 b])).run Try.prog w = .ok (.bool true) w := fun w => (eql_st a b a b w).trans (by simp)
  have H1 := Lib.hid h1
  have H2 := Lib.hid h2
  clear h1 h2 hV
  obtain ⟨c0, c1, c2, c3, c4, c5, c6, c7⟩ := has_vec hx
  go_enter Try.func5, Try.ntmps5
  go_wp2_with fail
  refine (H1.out _).mono ?_
  rintro e w1 ⟨rfl, hb1⟩
  replace hx := (hx.below hb1).past (.cells #[.int .i64 a, .int .i64 b] 23)
  replace hb0 := hb0.trans (hb1.mono hb0.size)
  have ha := Has.fresh w1 23 #[.int .i64 a, .int .i64 b]
  replace hb0 := hb0.alloc hb0.size (.cells #[.int .i64 a, .int .i64 b] 23)
  clear hb1 c0 c1 c2 c3 c4 c5 c6 c7
  obtain ⟨c0, c1, c2, c3, c4, c5, c6, c7⟩ := has_vec hx
  go_wp2_with fail
  refine (H2.out _).mono ?_
  rintro e w2 ⟨rfl, hb2⟩
  replace ha := (ha.below hb2).past (.cells #[.int .i64 a, .int .i64 b] 23)
  replace hb0 := hb0.trans (hb2.mono hb0.size)
  replace hb0 := hb0.alloc hb0.size (.cells #[.int .i64 a, .int .i64 b] 23)
  clear hb2 c0 c1 c2 c3 c4 c5 c6 c7 hx
  obtain ⟨d0, d1⟩ := has_st ha
  go_wp2_with fail
  refine (awake_any _).mono ?_
  rintro e w3 ⟨rfl, hb3⟩
  replace hb0 := hb0.trans (hb3.mono hb0.size)
  go_wp2
  go_ret
  exact ⟨rfl, hb0⟩
end Go.Proofs.Ytlnlnpofdgnoeaa.Vc
