/- VectorFresh, walked. -/
import Derived.Test.YtlnlnpofdgnoeabVcJ
namespace Go.Proofs.Ytlnlnpofdgnoeab.Vc
open Go.RowKit Go.Proofs.Ytlnlnpofdgnoeab.Mem

theorem eql_lit (x : Nat → Int) (w : World) : (binOp .eql 23 (.agg #[.int .i64 (x 0), .int .i64 (x 1), .int .i64 (x 2), .int .i64 (x 3), .int .i64 (x 4), .int .i64 (x 5), .int .i64 (x 6), .int .i64 (x 7)]) (.agg #[.int .i64 (x 0), .int .i64 (x 1), .int .i64 (x 2), .int .i64 (x 3), .int .i64 (x 4), .int .i64 (x 5), .int .i64 (x 6), .int .i64 (x 7)])).run Try.prog w = .ok (.bool true) w := (eql_vec x x w).trans (by rw [eq8_self])
theorem fresh_with {v : Nat → Int} {m : Int} {n : Nat} (h : top v 7 = m) (hm : 0 ≤ m) (hm2 : m < 1099511627776) (hn : n < 8) : withV v (m + 1) n = upd v n (m + 1) := by
  have hv := (top_iff v m 7).1 (by omega) n (by omega)
  unfold withV
  rw [if_pos (isB_iff.2 ⟨⟨by omega, by omega⟩, by omega, by omega⟩)]
  show upd v n (if v n < m + 1 then m + 1 else v n) = _
  rw [if_pos (by omega)]
theorem fresh_hasnot {x v : Nat → Int} {m : Int} {n : Nat} (h : top v 7 = m) (hn : n < 8) (hx : ∀ i, i < 8 → x i ≤ v i) : hasB x (m + 1) n = false := by
  have hv := (top_iff v m 7).1 (by omega) n (by omega)
  have hx2 := hx n hn
  unfold hasB
  rw [Bool.and_eq_false_iff]
  right
  exact decide_eq_false (show ¬ m + 1 ≤ x n by omega)
theorem fresh_less {v : Nat → Int} {m st sw : Int} {n : Nat} (h : top v 7 = m) (hs : hasB v st sw = true) : lessB st sw (m + 1) n = true := by
  unfold hasB at hs
  rw [Bool.and_eq_true] at hs
  obtain ⟨h1, h2⟩ := hs
  obtain ⟨_, h3, h4⟩ := isB_iff.1 h1
  have h5 : st ≤ v sw.toNat := of_decide_eq_true h2
  have hv := (top_iff v m 7).1 (by omega) sw.toNat (by omega)
  exact lessB_iff.2 (.inl (by omega))
theorem fresh_has {v : Nat → Int} {m : Int} {n : Nat} (hm : 0 ≤ m) (hm2 : m < 1099511627776) (hn : n < 8) : hasB (upd v n (m + 1)) (m + 1) n = true := by
  unfold hasB
  rw [Bool.and_eq_true]
  exact ⟨isB_iff.2 ⟨⟨by omega, by omega⟩, by omega, by omega⟩, decide_eq_true (show m + 1 ≤ upd v n (m + 1) n by unfold upd; rw [if_pos rfl]; omega)⟩
theorem fresh_within {v : Nat → Int} {m : Int} {n : Nat} (h : top v 7 = m) : withinB v (upd v n (m + 1)) = true := by
  rw [withinB_iff]
  intro i hi
  have hv := (top_iff v m 7).1 (by omega) i (by omega)
  unfold upd
  split <;> omega
theorem upd_back (v : Nat → Int) (n : Nat) (a : Int) : upd (upd v n a) n (v n) = v := by
  funext i
  unfold upd
  by_cases e : i = n
  · rw [if_pos e, e]
  · rw [if_neg e, if_neg e]

set_option maxHeartbeats 2000000 in
theorem fresh_err (v l : Nat → Int) (who st sw e0 : Int) (W : World) (hV : nextV v who = .tuple #[.agg #[.int .i64 0, .int .i64 0], .int .i64 e0]) (he : (e0 == 0) = false) :
    Calls Try.prog 3 #[.agg (vecC v), .agg (vecC l), .int .i64 who, .agg (stC st sw)] W fun e w' => e = .returned (.bool true) ∧ Below W.heap.size W w' := by
  have he2 : (e0 != 0) = true := by simp [bne, he]
  have h1 := fun W => next_any v who W
  rw [hV] at h1
  have H1 := Lib.hid h1
  have b1 : ∀ w : World, (Instr.build 25 #[]).run Try.prog w = .ok (.agg #[.int .i64 0, .int .i64 0]) w := fun w => run_build w _ _ _ (by kernel_rfl)
  have q1 : ∀ w : World, (binOp .eql 25 (.agg #[.int .i64 0, .int .i64 0]) (.agg #[.int .i64 0, .int .i64 0])).run Try.prog w = .ok (.bool true) w := fun w => eql_st 0 0 0 0 w
  have hb0 := (((Below.refl W.heap.size W).alloc (Nat.le_refl _) (.cells (vecC v) 23)).alloc (by simp) (.cells (vecC l) 23)).alloc (by simp; omega) (.cells (stC st sw) 25)
  have hv := ((Has.fresh W 23 (vecC v)).past (.cells (vecC l) 23)).past (.cells (stC st sw) 25)
  clear h1 hV
  obtain ⟨c0, c1, c2, c3, c4, c5, c6, c7⟩ := has_vec hv
  go_enter Try.func3, Try.ntmps3
  go_wp2_with fail
  refine (H1.out _).mono ?_
  rintro e w1 ⟨rfl, hb⟩
  replace hb0 := hb0.trans (hb.mono hb0.size)
  replace hb0 := hb0.alloc hb0.size (.cells #[.int .i64 0, .int .i64 0] 25)
  clear hb hv c0 c1 c2 c3 c4 c5 c6 c7
  go_wp2_with fail
  refine (awake_any _).mono ?_
  rintro e w2 ⟨rfl, hb⟩
  replace hb0 := hb0.trans (hb.mono hb0.size)
  go_wp2
  go_ret
  exact ⟨rfl, hb0⟩

set_option maxHeartbeats 4000000 in
set_option maxRecDepth 100000 in
theorem fresh_ok00 (v l : Nat → Int) (n : Nat) (st sw m : Int) (W : World) (hV : nextV v n = .tuple #[.agg (stC (m + 1) n), .int .i64 0]) (hm : top v 7 = m) (hm0 : 0 ≤ m) (hm1 : m < 1099511627776) (hn0 : n < 8) (hB1 : withinB l v = false) (hB2 : hasB v st sw = false) :
    Calls Try.prog 3 #[.agg (vecC v), .agg (vecC l), .int .i64 n, .agg (stC st sw)] W fun e w' => e = .returned (.bool true) ∧ Below W.heap.size W w' := by
  have HN := Lib.hid (show ∀ W : World, Calls Try.prog 5 #[.agg (vecC v), .int .i64 n] W fun e w' => e = .returned (.tuple #[.agg #[.int .i64 (m + 1), .int .i64 n], .int .i64 0]) ∧ Below W.heap.size W w' from fun W => by have h := next_any v n W; rw [hV] at h; exact h)
  have HW := Lib.hid (show ∀ W : World, Calls Try.prog 7 #[.agg (vecC v), .agg (stC (m + 1) n)] W fun e w' => e = .returned (.agg (vecC (upd v n (m + 1)))) ∧ Below W.heap.size W w' from fun W => by have h := with_any v (m + 1) n W; rw [fresh_with hm hm0 hm1 hn0] at h; exact h)
  have HI := Lib.hid (show ∀ W : World, Calls Try.prog 8 #[.agg (stC (m + 1) n)] W fun e w' => e = .returned (.bool true) ∧ Below W.heap.size W w' from fun W => by have h := is_any (m + 1) n W; rw [isB_iff.2 ⟨⟨by omega, by omega⟩, by omega, by omega⟩] at h; exact h)
  have HH1 := Lib.hid (show ∀ W : World, Calls Try.prog 9 #[.agg (vecC v), .agg (stC (m + 1) n)] W fun e w' => e = .returned (.bool false) ∧ Below W.heap.size W w' from fun W => by have h := has_any v (m + 1) n W; rw [fresh_hasnot hm hn0 fun _ _ => Int.le_refl _] at h; exact h)
  have HB1 := Lib.hid (show ∀ W : World, Calls Try.prog 10 #[.agg (vecC l), .agg (vecC v)] W fun e w' => e = .returned (.bool false) ∧ Below W.heap.size W w' from fun W => by have h := within_any l v W; rw [hB1] at h; exact h)
  have HH3 := Lib.hid (show ∀ W : World, Calls Try.prog 9 #[.agg (vecC v), .agg (stC st sw)] W fun e w' => e = .returned (.bool false) ∧ Below W.heap.size W w' from fun W => by have h := has_any v st sw W; rw [hB2] at h; exact h)
  have HH4 := Lib.hid (show ∀ W : World, Calls Try.prog 9 #[.agg (vecC (upd v n (m + 1))), .agg (stC (m + 1) n)] W fun e w' => e = .returned (.bool true) ∧ Below W.heap.size W w' from fun W => by have h := has_any (upd v n (m + 1)) (m + 1) n W; rw [fresh_has hm0 hm1 hn0] at h; exact h)
  have HWI := Lib.hid (show ∀ W : World, Calls Try.prog 10 #[.agg (vecC v), .agg (vecC (upd v n (m + 1)))] W fun e w' => e = .returned (.bool true) ∧ Below W.heap.size W w' from fun W => by have h := within_any v (upd v n (m + 1)) W; rw [fresh_within hm] at h; exact h)
  have hb0 := (((Below.refl W.heap.size W).alloc (Nat.le_refl _) (.cells (vecC v) 23)).alloc (by simp) (.cells (vecC l) 23)).alloc (by simp; omega) (.cells (stC st sw) 25)
  have hv := ((Has.fresh W 23 (vecC v)).past (.cells (vecC l) 23)).past (.cells (stC st sw) 25)
  have hl := (Has.fresh (W.alloc (.cells (vecC v) 23)) 23 (vecC l)).past (.cells (stC st sw) 25)
  have hs := Has.fresh ((W.alloc (.cells (vecC v) 23)).alloc (.cells (vecC l) 23)) 25 (stC st sw)
  rw [World.size_alloc] at hl hs
  rw [World.size_alloc] at hs
  have n1 : (n : Int) < 8 := by omega
  have HM := Lib.hid hm
  clear hV hm hB1 hB2 hm0 hm1
  have qe := fun w => eql_lit v w
  have HU := Lib.hid (upd_back v n (m + 1))
  unfold stC at HN
  generalize m + 1 = T at *
  obtain ⟨U, hU⟩ : ∃ U : Nat → Int, U = upd v n T := ⟨_, rfl⟩
  rw [← hU] at HW HH4 HWI HU
  clear hU HM
  have HW2 := Lib.hid (show ∀ W : World, Calls Try.prog 7 #[.agg (vecC v), .agg (stC T n)] W fun e w' => e = .returned (.agg #[.int .i64 (U 0), .int .i64 (U 1), .int .i64 (U 2), .int .i64 (U 3), .int .i64 (U 4), .int .i64 (U 5), .int .i64 (U 6), .int .i64 (U 7)]) ∧ Below W.heap.size W w' from HW.out)
  obtain ⟨cv0, cv1, cv2, cv3, cv4, cv5, cv6, cv7⟩ := has_vec hv
  obtain ⟨cl0, cl1, cl2, cl3, cl4, cl5, cl6, cl7⟩ := has_vec hl
  obtain ⟨cs0, cs1⟩ := has_st hs
  go_enter Try.func3, Try.ntmps3
  go_wp2_with fail
  refine (HN.out _).mono ?_
  rintro e w1 ⟨rfl, hb⟩
  clear cv0 cv1 cv2 cv3 cv4 cv5 cv6 cv7 cl0 cl1 cl2 cl3 cl4 cl5 cl6 cl7 cs0 cs1
  replace hv := hv.below hb
  replace hl := hl.below hb
  replace hs := hs.below hb
  replace hb0 := hb0.trans (hb.mono hb0.size)
  clear hb
  replace hv := hv.past (.cells #[.int .i64 T, .int .i64 n] 25)
  replace hl := hl.past (.cells #[.int .i64 T, .int .i64 n] 25)
  replace hs := hs.past (.cells #[.int .i64 T, .int .i64 n] 25)
  replace hb0 := hb0.alloc hb0.size (.cells #[.int .i64 T, .int .i64 n] 25)
  have hn := Has.fresh w1 25 #[.int .i64 T, .int .i64 n]
  obtain ⟨cv0, cv1, cv2, cv3, cv4, cv5, cv6, cv7⟩ := has_vec hv
  obtain ⟨cl0, cl1, cl2, cl3, cl4, cl5, cl6, cl7⟩ := has_vec hl
  obtain ⟨cs0, cs1⟩ := has_st hs
  obtain ⟨cn0, cn1⟩ := has_st hn
  go_wp2_with fail
  refine (HW2.out _).mono ?_
  rintro e w2 ⟨rfl, hb⟩
  clear cv0 cv1 cv2 cv3 cv4 cv5 cv6 cv7 cl0 cl1 cl2 cl3 cl4 cl5 cl6 cl7 cs0 cs1 cn0 cn1
  replace hv := hv.below hb
  replace hl := hl.below hb
  replace hs := hs.below hb
  replace hn := hn.below hb
  replace hb0 := hb0.trans (hb.mono hb0.size)
  clear hb
  have hz := Lib.hid hv.bound
  replace hv := hv.past (.cells #[.int .i64 (U 0), .int .i64 (U 1), .int .i64 (U 2), .int .i64 (U 3), .int .i64 (U 4), .int .i64 (U 5), .int .i64 (U 6), .int .i64 (U 7)] 23)
  replace hl := hl.past (.cells #[.int .i64 (U 0), .int .i64 (U 1), .int .i64 (U 2), .int .i64 (U 3), .int .i64 (U 4), .int .i64 (U 5), .int .i64 (U 6), .int .i64 (U 7)] 23)
  replace hs := hs.past (.cells #[.int .i64 (U 0), .int .i64 (U 1), .int .i64 (U 2), .int .i64 (U 3), .int .i64 (U 4), .int .i64 (U 5), .int .i64 (U 6), .int .i64 (U 7)] 23)
  replace hn := hn.past (.cells #[.int .i64 (U 0), .int .i64 (U 1), .int .i64 (U 2), .int .i64 (U 3), .int .i64 (U 4), .int .i64 (U 5), .int .i64 (U 6), .int .i64 (U 7)] 23)
  replace hb0 := hb0.alloc hb0.size (.cells #[.int .i64 (U 0), .int .i64 (U 1), .int .i64 (U 2), .int .i64 (U 3), .int .i64 (U 4), .int .i64 (U 5), .int .i64 (U 6), .int .i64 (U 7)] 23)
  have hw := Has.fresh w2 23 #[.int .i64 (U 0), .int .i64 (U 1), .int .i64 (U 2), .int .i64 (U 3), .int .i64 (U 4), .int .i64 (U 5), .int .i64 (U 6), .int .i64 (U 7)]
  obtain ⟨cv0, cv1, cv2, cv3, cv4, cv5, cv6, cv7⟩ := has_vec hv
  obtain ⟨cl0, cl1, cl2, cl3, cl4, cl5, cl6, cl7⟩ := has_vec hl
  obtain ⟨cs0, cs1⟩ := has_st hs
  obtain ⟨cn0, cn1⟩ := has_st hn
  obtain ⟨cw0, cw1, cw2, cw3, cw4, cw5, cw6, cw7⟩ := has_vec hw
  go_wp2_with fail
  refine (HI.out _).mono ?_
  rintro e w3 ⟨rfl, hb⟩
  clear cv0 cv1 cv2 cv3 cv4 cv5 cv6 cv7 cl0 cl1 cl2 cl3 cl4 cl5 cl6 cl7 cs0 cs1 cn0 cn1 cw0 cw1 cw2 cw3 cw4 cw5 cw6 cw7
  replace hv := hv.below hb
  replace hl := hl.below hb
  replace hs := hs.below hb
  replace hn := hn.below hb
  replace hw := hw.below hb
  replace hb0 := hb0.trans (hb.mono hb0.size)
  clear hb
  obtain ⟨cv0, cv1, cv2, cv3, cv4, cv5, cv6, cv7⟩ := has_vec hv
  obtain ⟨cl0, cl1, cl2, cl3, cl4, cl5, cl6, cl7⟩ := has_vec hl
  obtain ⟨cs0, cs1⟩ := has_st hs
  obtain ⟨cn0, cn1⟩ := has_st hn
  obtain ⟨cw0, cw1, cw2, cw3, cw4, cw5, cw6, cw7⟩ := has_vec hw
  go_wp2_with fail
  refine (HH1.out _).mono ?_
  rintro e w4 ⟨rfl, hb⟩
  clear cv0 cv1 cv2 cv3 cv4 cv5 cv6 cv7 cl0 cl1 cl2 cl3 cl4 cl5 cl6 cl7 cs0 cs1 cn0 cn1 cw0 cw1 cw2 cw3 cw4 cw5 cw6 cw7
  replace hv := hv.below hb
  replace hl := hl.below hb
  replace hs := hs.below hb
  replace hn := hn.below hb
  replace hw := hw.below hb
  replace hb0 := hb0.trans (hb.mono hb0.size)
  clear hb
  obtain ⟨cv0, cv1, cv2, cv3, cv4, cv5, cv6, cv7⟩ := has_vec hv
  obtain ⟨cl0, cl1, cl2, cl3, cl4, cl5, cl6, cl7⟩ := has_vec hl
  obtain ⟨cs0, cs1⟩ := has_st hs
  obtain ⟨cn0, cn1⟩ := has_st hn
  obtain ⟨cw0, cw1, cw2, cw3, cw4, cw5, cw6, cw7⟩ := has_vec hw
  go_wp2_with fail
  refine (HB1.out _).mono ?_
  rintro e w5 ⟨rfl, hb⟩
  clear cv0 cv1 cv2 cv3 cv4 cv5 cv6 cv7 cl0 cl1 cl2 cl3 cl4 cl5 cl6 cl7 cs0 cs1 cn0 cn1 cw0 cw1 cw2 cw3 cw4 cw5 cw6 cw7
  replace hv := hv.below hb
  replace hl := hl.below hb
  replace hs := hs.below hb
  replace hn := hn.below hb
  replace hw := hw.below hb
  replace hb0 := hb0.trans (hb.mono hb0.size)
  clear hb
  obtain ⟨cv0, cv1, cv2, cv3, cv4, cv5, cv6, cv7⟩ := has_vec hv
  obtain ⟨cl0, cl1, cl2, cl3, cl4, cl5, cl6, cl7⟩ := has_vec hl
  obtain ⟨cs0, cs1⟩ := has_st hs
  obtain ⟨cn0, cn1⟩ := has_st hn
  obtain ⟨cw0, cw1, cw2, cw3, cw4, cw5, cw6, cw7⟩ := has_vec hw
  go_wp2_with fail
  refine (HH3.out _).mono ?_
  rintro e w6 ⟨rfl, hb⟩
  clear cv0 cv1 cv2 cv3 cv4 cv5 cv6 cv7 cl0 cl1 cl2 cl3 cl4 cl5 cl6 cl7 cs0 cs1 cn0 cn1 cw0 cw1 cw2 cw3 cw4 cw5 cw6 cw7
  replace hv := hv.below hb
  replace hl := hl.below hb
  replace hs := hs.below hb
  replace hn := hn.below hb
  replace hw := hw.below hb
  replace hb0 := hb0.trans (hb.mono hb0.size)
  clear hb
  obtain ⟨cv0, cv1, cv2, cv3, cv4, cv5, cv6, cv7⟩ := has_vec hv
  obtain ⟨cl0, cl1, cl2, cl3, cl4, cl5, cl6, cl7⟩ := has_vec hl
  obtain ⟨cs0, cs1⟩ := has_st hs
  obtain ⟨cn0, cn1⟩ := has_st hn
  obtain ⟨cw0, cw1, cw2, cw3, cw4, cw5, cw6, cw7⟩ := has_vec hw
  go_wp2_with fail
  refine (HH4.out _).mono ?_
  rintro e w7 ⟨rfl, hb⟩
  clear cv0 cv1 cv2 cv3 cv4 cv5 cv6 cv7 cl0 cl1 cl2 cl3 cl4 cl5 cl6 cl7 cs0 cs1 cn0 cn1 cw0 cw1 cw2 cw3 cw4 cw5 cw6 cw7
  replace hv := hv.below hb
  replace hl := hl.below hb
  replace hs := hs.below hb
  replace hn := hn.below hb
  replace hw := hw.below hb
  replace hb0 := hb0.trans (hb.mono hb0.size)
  clear hb
  obtain ⟨cv0, cv1, cv2, cv3, cv4, cv5, cv6, cv7⟩ := has_vec hv
  obtain ⟨cl0, cl1, cl2, cl3, cl4, cl5, cl6, cl7⟩ := has_vec hl
  obtain ⟨cs0, cs1⟩ := has_st hs
  obtain ⟨cn0, cn1⟩ := has_st hn
  obtain ⟨cw0, cw1, cw2, cw3, cw4, cw5, cw6, cw7⟩ := has_vec hw
  go_wp2_with fail
  refine (HWI.out _).mono ?_
  rintro e w8 ⟨rfl, hb⟩
  clear cv0 cv1 cv2 cv3 cv4 cv5 cv6 cv7 cl0 cl1 cl2 cl3 cl4 cl5 cl6 cl7 cs0 cs1 cn0 cn1 cw0 cw1 cw2 cw3 cw4 cw5 cw6 cw7
  replace hv := hv.below hb
  replace hl := hl.below hb
  replace hs := hs.below hb
  replace hn := hn.below hb
  replace hw := hw.below hb
  replace hb0 := hb0.trans (hb.mono hb0.size)
  clear hb
  obtain ⟨cv0, cv1, cv2, cv3, cv4, cv5, cv6, cv7⟩ := has_vec hv
  obtain ⟨cl0, cl1, cl2, cl3, cl4, cl5, cl6, cl7⟩ := has_vec hl
  obtain ⟨cs0, cs1⟩ := has_st hs
  obtain ⟨cn0, cn1⟩ := has_st hn
  obtain ⟨cw0, cw1, cw2, cw3, cw4, cw5, cw6, cw7⟩ := has_vec hw
  clear cv0 cv1 cv2 cv3 cv4 cv5 cv6 cv7 cl0 cl1 cl2 cl3 cl4 cl5 cl6 cl7 cs0 cs1 cn0 cn1 cw0 cw1 cw2 cw3 cw4 cw5 cw6 cw7
  have dn := Has.at_ hn.drew 1
  simp [stC] at dn
  have dv := has_vec_at hv.drew hn0
  have dw := has_vec_at hw.drew hn0
  have fw := hw.drew.free n
  go_wp2
  go_region
  clear dn dv dw fw
  have hw2 : Has (w8.setCell ⟨w2.heap.size, n, none⟩ (.int .i64 (v n))).drew w2.heap.size 23 (vecC v) := by
    have h := Has.drew (Has.putV (z := U) hw hn0 (v n))
    rw [HU.out] at h
    exact h
  have hv2 : Has (w8.setCell ⟨w2.heap.size, n, none⟩ (.int .i64 (v n))).drew W.heap.size 23 (vecC v) := Has.drew (Has.keep hv (p := ⟨w2.heap.size, n, none⟩) (Nat.ne_of_lt hz.out) _)
  have hb2 : Below W.heap.size W (w8.setCell ⟨w2.heap.size, n, none⟩ (.int .i64 (v n))).drew := Below.drew (hb0.setCell (p := ⟨w2.heap.size, n, none⟩) (Nat.le_of_lt hz.out) _)
  generalize (w8.setCell ⟨w2.heap.size, n, none⟩ (.int .i64 (v n))).drew = wz at *
  clear hv hl hs hn hw hb0
  obtain ⟨cw0, cw1, cw2, cw3, cw4, cw5, cw6, cw7⟩ := has_vec hw2
  obtain ⟨cv0, cv1, cv2, cv3, cv4, cv5, cv6, cv7⟩ := has_vec hv2
  go_wp2_with fail
  refine (awake_any _).mono ?_
  rintro e w99 ⟨rfl, hb⟩
  go_wp2
  go_ret
  exact ⟨rfl, hb2.trans (hb.mono hb2.size)⟩

set_option maxHeartbeats 4000000 in
set_option maxRecDepth 100000 in
theorem fresh_ok01 (v l : Nat → Int) (n : Nat) (st sw m : Int) (W : World) (hV : nextV v n = .tuple #[.agg (stC (m + 1) n), .int .i64 0]) (hm : top v 7 = m) (hm0 : 0 ≤ m) (hm1 : m < 1099511627776) (hn0 : n < 8) (hB1 : withinB l v = false) (hB2 : hasB v st sw = true) :
    Calls Try.prog 3 #[.agg (vecC v), .agg (vecC l), .int .i64 n, .agg (stC st sw)] W fun e w' => e = .returned (.bool true) ∧ Below W.heap.size W w' := by
  have HN := Lib.hid (show ∀ W : World, Calls Try.prog 5 #[.agg (vecC v), .int .i64 n] W fun e w' => e = .returned (.tuple #[.agg #[.int .i64 (m + 1), .int .i64 n], .int .i64 0]) ∧ Below W.heap.size W w' from fun W => by have h := next_any v n W; rw [hV] at h; exact h)
  have HW := Lib.hid (show ∀ W : World, Calls Try.prog 7 #[.agg (vecC v), .agg (stC (m + 1) n)] W fun e w' => e = .returned (.agg (vecC (upd v n (m + 1)))) ∧ Below W.heap.size W w' from fun W => by have h := with_any v (m + 1) n W; rw [fresh_with hm hm0 hm1 hn0] at h; exact h)
  have HI := Lib.hid (show ∀ W : World, Calls Try.prog 8 #[.agg (stC (m + 1) n)] W fun e w' => e = .returned (.bool true) ∧ Below W.heap.size W w' from fun W => by have h := is_any (m + 1) n W; rw [isB_iff.2 ⟨⟨by omega, by omega⟩, by omega, by omega⟩] at h; exact h)
  have HH1 := Lib.hid (show ∀ W : World, Calls Try.prog 9 #[.agg (vecC v), .agg (stC (m + 1) n)] W fun e w' => e = .returned (.bool false) ∧ Below W.heap.size W w' from fun W => by have h := has_any v (m + 1) n W; rw [fresh_hasnot hm hn0 fun _ _ => Int.le_refl _] at h; exact h)
  have HB1 := Lib.hid (show ∀ W : World, Calls Try.prog 10 #[.agg (vecC l), .agg (vecC v)] W fun e w' => e = .returned (.bool false) ∧ Below W.heap.size W w' from fun W => by have h := within_any l v W; rw [hB1] at h; exact h)
  have HH3 := Lib.hid (show ∀ W : World, Calls Try.prog 9 #[.agg (vecC v), .agg (stC st sw)] W fun e w' => e = .returned (.bool true) ∧ Below W.heap.size W w' from fun W => by have h := has_any v st sw W; rw [hB2] at h; exact h)
  have HH4 := Lib.hid (show ∀ W : World, Calls Try.prog 9 #[.agg (vecC (upd v n (m + 1))), .agg (stC (m + 1) n)] W fun e w' => e = .returned (.bool true) ∧ Below W.heap.size W w' from fun W => by have h := has_any (upd v n (m + 1)) (m + 1) n W; rw [fresh_has hm0 hm1 hn0] at h; exact h)
  have HWI := Lib.hid (show ∀ W : World, Calls Try.prog 10 #[.agg (vecC v), .agg (vecC (upd v n (m + 1)))] W fun e w' => e = .returned (.bool true) ∧ Below W.heap.size W w' from fun W => by have h := within_any v (upd v n (m + 1)) W; rw [fresh_within hm] at h; exact h)
  have HL := Lib.hid (show ∀ W : World, Calls Try.prog 11 #[.agg (stC st sw), .agg (stC (m + 1) n)] W fun e w' => e = .returned (.bool true) ∧ Below W.heap.size W w' from fun W => by have h := less_any st sw (m + 1) n W; rw [fresh_less hm hB2] at h; exact h)
  have hb0 := (((Below.refl W.heap.size W).alloc (Nat.le_refl _) (.cells (vecC v) 23)).alloc (by simp) (.cells (vecC l) 23)).alloc (by simp; omega) (.cells (stC st sw) 25)
  have hv := ((Has.fresh W 23 (vecC v)).past (.cells (vecC l) 23)).past (.cells (stC st sw) 25)
  have hl := (Has.fresh (W.alloc (.cells (vecC v) 23)) 23 (vecC l)).past (.cells (stC st sw) 25)
  have hs := Has.fresh ((W.alloc (.cells (vecC v) 23)).alloc (.cells (vecC l) 23)) 25 (stC st sw)
  rw [World.size_alloc] at hl hs
  rw [World.size_alloc] at hs
  have n1 : (n : Int) < 8 := by omega
  have HM := Lib.hid hm
  clear hV hm hB1 hB2 hm0 hm1
  have qe := fun w => eql_lit v w
  have HU := Lib.hid (upd_back v n (m + 1))
  unfold stC at HN
  generalize m + 1 = T at *
  obtain ⟨U, hU⟩ : ∃ U : Nat → Int, U = upd v n T := ⟨_, rfl⟩
  rw [← hU] at HW HH4 HWI HU
  clear hU HM
  have HW2 := Lib.hid (show ∀ W : World, Calls Try.prog 7 #[.agg (vecC v), .agg (stC T n)] W fun e w' => e = .returned (.agg #[.int .i64 (U 0), .int .i64 (U 1), .int .i64 (U 2), .int .i64 (U 3), .int .i64 (U 4), .int .i64 (U 5), .int .i64 (U 6), .int .i64 (U 7)]) ∧ Below W.heap.size W w' from HW.out)
  obtain ⟨cv0, cv1, cv2, cv3, cv4, cv5, cv6, cv7⟩ := has_vec hv
  obtain ⟨cl0, cl1, cl2, cl3, cl4, cl5, cl6, cl7⟩ := has_vec hl
  obtain ⟨cs0, cs1⟩ := has_st hs
  go_enter Try.func3, Try.ntmps3
  go_wp2_with fail
  refine (HN.out _).mono ?_
  rintro e w1 ⟨rfl, hb⟩
  clear cv0 cv1 cv2 cv3 cv4 cv5 cv6 cv7 cl0 cl1 cl2 cl3 cl4 cl5 cl6 cl7 cs0 cs1
  replace hv := hv.below hb
  replace hl := hl.below hb
  replace hs := hs.below hb
  replace hb0 := hb0.trans (hb.mono hb0.size)
  clear hb
  replace hv := hv.past (.cells #[.int .i64 T, .int .i64 n] 25)
  replace hl := hl.past (.cells #[.int .i64 T, .int .i64 n] 25)
  replace hs := hs.past (.cells #[.int .i64 T, .int .i64 n] 25)
  replace hb0 := hb0.alloc hb0.size (.cells #[.int .i64 T, .int .i64 n] 25)
  have hn := Has.fresh w1 25 #[.int .i64 T, .int .i64 n]
  obtain ⟨cv0, cv1, cv2, cv3, cv4, cv5, cv6, cv7⟩ := has_vec hv
  obtain ⟨cl0, cl1, cl2, cl3, cl4, cl5, cl6, cl7⟩ := has_vec hl
  obtain ⟨cs0, cs1⟩ := has_st hs
  obtain ⟨cn0, cn1⟩ := has_st hn
  go_wp2_with fail
  refine (HW2.out _).mono ?_
  rintro e w2 ⟨rfl, hb⟩
  clear cv0 cv1 cv2 cv3 cv4 cv5 cv6 cv7 cl0 cl1 cl2 cl3 cl4 cl5 cl6 cl7 cs0 cs1 cn0 cn1
  replace hv := hv.below hb
  replace hl := hl.below hb
  replace hs := hs.below hb
  replace hn := hn.below hb
  replace hb0 := hb0.trans (hb.mono hb0.size)
  clear hb
  have hz := Lib.hid hv.bound
  replace hv := hv.past (.cells #[.int .i64 (U 0), .int .i64 (U 1), .int .i64 (U 2), .int .i64 (U 3), .int .i64 (U 4), .int .i64 (U 5), .int .i64 (U 6), .int .i64 (U 7)] 23)
  replace hl := hl.past (.cells #[.int .i64 (U 0), .int .i64 (U 1), .int .i64 (U 2), .int .i64 (U 3), .int .i64 (U 4), .int .i64 (U 5), .int .i64 (U 6), .int .i64 (U 7)] 23)
  replace hs := hs.past (.cells #[.int .i64 (U 0), .int .i64 (U 1), .int .i64 (U 2), .int .i64 (U 3), .int .i64 (U 4), .int .i64 (U 5), .int .i64 (U 6), .int .i64 (U 7)] 23)
  replace hn := hn.past (.cells #[.int .i64 (U 0), .int .i64 (U 1), .int .i64 (U 2), .int .i64 (U 3), .int .i64 (U 4), .int .i64 (U 5), .int .i64 (U 6), .int .i64 (U 7)] 23)
  replace hb0 := hb0.alloc hb0.size (.cells #[.int .i64 (U 0), .int .i64 (U 1), .int .i64 (U 2), .int .i64 (U 3), .int .i64 (U 4), .int .i64 (U 5), .int .i64 (U 6), .int .i64 (U 7)] 23)
  have hw := Has.fresh w2 23 #[.int .i64 (U 0), .int .i64 (U 1), .int .i64 (U 2), .int .i64 (U 3), .int .i64 (U 4), .int .i64 (U 5), .int .i64 (U 6), .int .i64 (U 7)]
  obtain ⟨cv0, cv1, cv2, cv3, cv4, cv5, cv6, cv7⟩ := has_vec hv
  obtain ⟨cl0, cl1, cl2, cl3, cl4, cl5, cl6, cl7⟩ := has_vec hl
  obtain ⟨cs0, cs1⟩ := has_st hs
  obtain ⟨cn0, cn1⟩ := has_st hn
  obtain ⟨cw0, cw1, cw2, cw3, cw4, cw5, cw6, cw7⟩ := has_vec hw
  go_wp2_with fail
  refine (HI.out _).mono ?_
  rintro e w3 ⟨rfl, hb⟩
  clear cv0 cv1 cv2 cv3 cv4 cv5 cv6 cv7 cl0 cl1 cl2 cl3 cl4 cl5 cl6 cl7 cs0 cs1 cn0 cn1 cw0 cw1 cw2 cw3 cw4 cw5 cw6 cw7
  replace hv := hv.below hb
  replace hl := hl.below hb
  replace hs := hs.below hb
  replace hn := hn.below hb
  replace hw := hw.below hb
  replace hb0 := hb0.trans (hb.mono hb0.size)
  clear hb
  obtain ⟨cv0, cv1, cv2, cv3, cv4, cv5, cv6, cv7⟩ := has_vec hv
  obtain ⟨cl0, cl1, cl2, cl3, cl4, cl5, cl6, cl7⟩ := has_vec hl
  obtain ⟨cs0, cs1⟩ := has_st hs
  obtain ⟨cn0, cn1⟩ := has_st hn
  obtain ⟨cw0, cw1, cw2, cw3, cw4, cw5, cw6, cw7⟩ := has_vec hw
  go_wp2_with fail
  refine (HH1.out _).mono ?_
  rintro e w4 ⟨rfl, hb⟩
  clear cv0 cv1 cv2 cv3 cv4 cv5 cv6 cv7 cl0 cl1 cl2 cl3 cl4 cl5 cl6 cl7 cs0 cs1 cn0 cn1 cw0 cw1 cw2 cw3 cw4 cw5 cw6 cw7
  replace hv := hv.below hb
  replace hl := hl.below hb
  replace hs := hs.below hb
  replace hn := hn.below hb
  replace hw := hw.below hb
  replace hb0 := hb0.trans (hb.mono hb0.size)
  clear hb
  obtain ⟨cv0, cv1, cv2, cv3, cv4, cv5, cv6, cv7⟩ := has_vec hv
  obtain ⟨cl0, cl1, cl2, cl3, cl4, cl5, cl6, cl7⟩ := has_vec hl
  obtain ⟨cs0, cs1⟩ := has_st hs
  obtain ⟨cn0, cn1⟩ := has_st hn
  obtain ⟨cw0, cw1, cw2, cw3, cw4, cw5, cw6, cw7⟩ := has_vec hw
  go_wp2_with fail
  refine (HB1.out _).mono ?_
  rintro e w5 ⟨rfl, hb⟩
  clear cv0 cv1 cv2 cv3 cv4 cv5 cv6 cv7 cl0 cl1 cl2 cl3 cl4 cl5 cl6 cl7 cs0 cs1 cn0 cn1 cw0 cw1 cw2 cw3 cw4 cw5 cw6 cw7
  replace hv := hv.below hb
  replace hl := hl.below hb
  replace hs := hs.below hb
  replace hn := hn.below hb
  replace hw := hw.below hb
  replace hb0 := hb0.trans (hb.mono hb0.size)
  clear hb
  obtain ⟨cv0, cv1, cv2, cv3, cv4, cv5, cv6, cv7⟩ := has_vec hv
  obtain ⟨cl0, cl1, cl2, cl3, cl4, cl5, cl6, cl7⟩ := has_vec hl
  obtain ⟨cs0, cs1⟩ := has_st hs
  obtain ⟨cn0, cn1⟩ := has_st hn
  obtain ⟨cw0, cw1, cw2, cw3, cw4, cw5, cw6, cw7⟩ := has_vec hw
  go_wp2_with fail
  refine (HH3.out _).mono ?_
  rintro e w6 ⟨rfl, hb⟩
  clear cv0 cv1 cv2 cv3 cv4 cv5 cv6 cv7 cl0 cl1 cl2 cl3 cl4 cl5 cl6 cl7 cs0 cs1 cn0 cn1 cw0 cw1 cw2 cw3 cw4 cw5 cw6 cw7
  replace hv := hv.below hb
  replace hl := hl.below hb
  replace hs := hs.below hb
  replace hn := hn.below hb
  replace hw := hw.below hb
  replace hb0 := hb0.trans (hb.mono hb0.size)
  clear hb
  obtain ⟨cv0, cv1, cv2, cv3, cv4, cv5, cv6, cv7⟩ := has_vec hv
  obtain ⟨cl0, cl1, cl2, cl3, cl4, cl5, cl6, cl7⟩ := has_vec hl
  obtain ⟨cs0, cs1⟩ := has_st hs
  obtain ⟨cn0, cn1⟩ := has_st hn
  obtain ⟨cw0, cw1, cw2, cw3, cw4, cw5, cw6, cw7⟩ := has_vec hw
  go_wp2_with fail
  refine (HL.out _).mono ?_
  rintro e w7 ⟨rfl, hb⟩
  clear cv0 cv1 cv2 cv3 cv4 cv5 cv6 cv7 cl0 cl1 cl2 cl3 cl4 cl5 cl6 cl7 cs0 cs1 cn0 cn1 cw0 cw1 cw2 cw3 cw4 cw5 cw6 cw7
  replace hv := hv.below hb
  replace hl := hl.below hb
  replace hs := hs.below hb
  replace hn := hn.below hb
  replace hw := hw.below hb
  replace hb0 := hb0.trans (hb.mono hb0.size)
  clear hb
  obtain ⟨cv0, cv1, cv2, cv3, cv4, cv5, cv6, cv7⟩ := has_vec hv
  obtain ⟨cl0, cl1, cl2, cl3, cl4, cl5, cl6, cl7⟩ := has_vec hl
  obtain ⟨cs0, cs1⟩ := has_st hs
  obtain ⟨cn0, cn1⟩ := has_st hn
  obtain ⟨cw0, cw1, cw2, cw3, cw4, cw5, cw6, cw7⟩ := has_vec hw
  go_wp2_with fail
  refine (HH4.out _).mono ?_
  rintro e w8 ⟨rfl, hb⟩
  clear cv0 cv1 cv2 cv3 cv4 cv5 cv6 cv7 cl0 cl1 cl2 cl3 cl4 cl5 cl6 cl7 cs0 cs1 cn0 cn1 cw0 cw1 cw2 cw3 cw4 cw5 cw6 cw7
  replace hv := hv.below hb
  replace hl := hl.below hb
  replace hs := hs.below hb
  replace hn := hn.below hb
  replace hw := hw.below hb
  replace hb0 := hb0.trans (hb.mono hb0.size)
  clear hb
  obtain ⟨cv0, cv1, cv2, cv3, cv4, cv5, cv6, cv7⟩ := has_vec hv
  obtain ⟨cl0, cl1, cl2, cl3, cl4, cl5, cl6, cl7⟩ := has_vec hl
  obtain ⟨cs0, cs1⟩ := has_st hs
  obtain ⟨cn0, cn1⟩ := has_st hn
  obtain ⟨cw0, cw1, cw2, cw3, cw4, cw5, cw6, cw7⟩ := has_vec hw
  go_wp2_with fail
  refine (HWI.out _).mono ?_
  rintro e w9 ⟨rfl, hb⟩
  clear cv0 cv1 cv2 cv3 cv4 cv5 cv6 cv7 cl0 cl1 cl2 cl3 cl4 cl5 cl6 cl7 cs0 cs1 cn0 cn1 cw0 cw1 cw2 cw3 cw4 cw5 cw6 cw7
  replace hv := hv.below hb
  replace hl := hl.below hb
  replace hs := hs.below hb
  replace hn := hn.below hb
  replace hw := hw.below hb
  replace hb0 := hb0.trans (hb.mono hb0.size)
  clear hb
  obtain ⟨cv0, cv1, cv2, cv3, cv4, cv5, cv6, cv7⟩ := has_vec hv
  obtain ⟨cl0, cl1, cl2, cl3, cl4, cl5, cl6, cl7⟩ := has_vec hl
  obtain ⟨cs0, cs1⟩ := has_st hs
  obtain ⟨cn0, cn1⟩ := has_st hn
  obtain ⟨cw0, cw1, cw2, cw3, cw4, cw5, cw6, cw7⟩ := has_vec hw
  clear cv0 cv1 cv2 cv3 cv4 cv5 cv6 cv7 cl0 cl1 cl2 cl3 cl4 cl5 cl6 cl7 cs0 cs1 cn0 cn1 cw0 cw1 cw2 cw3 cw4 cw5 cw6 cw7
  have dn := Has.at_ hn.drew 1
  simp [stC] at dn
  have dv := has_vec_at hv.drew hn0
  have dw := has_vec_at hw.drew hn0
  have fw := hw.drew.free n
  go_wp2
  go_region
  clear dn dv dw fw
  have hw2 : Has (w9.setCell ⟨w2.heap.size, n, none⟩ (.int .i64 (v n))).drew w2.heap.size 23 (vecC v) := by
    have h := Has.drew (Has.putV (z := U) hw hn0 (v n))
    rw [HU.out] at h
    exact h
  have hv2 : Has (w9.setCell ⟨w2.heap.size, n, none⟩ (.int .i64 (v n))).drew W.heap.size 23 (vecC v) := Has.drew (Has.keep hv (p := ⟨w2.heap.size, n, none⟩) (Nat.ne_of_lt hz.out) _)
  have hb2 : Below W.heap.size W (w9.setCell ⟨w2.heap.size, n, none⟩ (.int .i64 (v n))).drew := Below.drew (hb0.setCell (p := ⟨w2.heap.size, n, none⟩) (Nat.le_of_lt hz.out) _)
  generalize (w9.setCell ⟨w2.heap.size, n, none⟩ (.int .i64 (v n))).drew = wz at *
  clear hv hl hs hn hw hb0
  obtain ⟨cw0, cw1, cw2, cw3, cw4, cw5, cw6, cw7⟩ := has_vec hw2
  obtain ⟨cv0, cv1, cv2, cv3, cv4, cv5, cv6, cv7⟩ := has_vec hv2
  go_wp2_with fail
  refine (awake_any _).mono ?_
  rintro e w99 ⟨rfl, hb⟩
  go_wp2
  go_ret
  exact ⟨rfl, hb2.trans (hb.mono hb2.size)⟩

set_option maxHeartbeats 4000000 in
set_option maxRecDepth 100000 in
theorem fresh_ok10 (v l : Nat → Int) (n : Nat) (st sw m : Int) (W : World) (hV : nextV v n = .tuple #[.agg (stC (m + 1) n), .int .i64 0]) (hm : top v 7 = m) (hm0 : 0 ≤ m) (hm1 : m < 1099511627776) (hn0 : n < 8) (hB1 : withinB l v = true) (hB2 : hasB v st sw = false) :
    Calls Try.prog 3 #[.agg (vecC v), .agg (vecC l), .int .i64 n, .agg (stC st sw)] W fun e w' => e = .returned (.bool true) ∧ Below W.heap.size W w' := by
  have HN := Lib.hid (show ∀ W : World, Calls Try.prog 5 #[.agg (vecC v), .int .i64 n] W fun e w' => e = .returned (.tuple #[.agg #[.int .i64 (m + 1), .int .i64 n], .int .i64 0]) ∧ Below W.heap.size W w' from fun W => by have h := next_any v n W; rw [hV] at h; exact h)
  have HW := Lib.hid (show ∀ W : World, Calls Try.prog 7 #[.agg (vecC v), .agg (stC (m + 1) n)] W fun e w' => e = .returned (.agg (vecC (upd v n (m + 1)))) ∧ Below W.heap.size W w' from fun W => by have h := with_any v (m + 1) n W; rw [fresh_with hm hm0 hm1 hn0] at h; exact h)
  have HI := Lib.hid (show ∀ W : World, Calls Try.prog 8 #[.agg (stC (m + 1) n)] W fun e w' => e = .returned (.bool true) ∧ Below W.heap.size W w' from fun W => by have h := is_any (m + 1) n W; rw [isB_iff.2 ⟨⟨by omega, by omega⟩, by omega, by omega⟩] at h; exact h)
  have HH1 := Lib.hid (show ∀ W : World, Calls Try.prog 9 #[.agg (vecC v), .agg (stC (m + 1) n)] W fun e w' => e = .returned (.bool false) ∧ Below W.heap.size W w' from fun W => by have h := has_any v (m + 1) n W; rw [fresh_hasnot hm hn0 fun _ _ => Int.le_refl _] at h; exact h)
  have HB1 := Lib.hid (show ∀ W : World, Calls Try.prog 10 #[.agg (vecC l), .agg (vecC v)] W fun e w' => e = .returned (.bool true) ∧ Below W.heap.size W w' from fun W => by have h := within_any l v W; rw [hB1] at h; exact h)
  have HH3 := Lib.hid (show ∀ W : World, Calls Try.prog 9 #[.agg (vecC v), .agg (stC st sw)] W fun e w' => e = .returned (.bool false) ∧ Below W.heap.size W w' from fun W => by have h := has_any v st sw W; rw [hB2] at h; exact h)
  have HH4 := Lib.hid (show ∀ W : World, Calls Try.prog 9 #[.agg (vecC (upd v n (m + 1))), .agg (stC (m + 1) n)] W fun e w' => e = .returned (.bool true) ∧ Below W.heap.size W w' from fun W => by have h := has_any (upd v n (m + 1)) (m + 1) n W; rw [fresh_has hm0 hm1 hn0] at h; exact h)
  have HWI := Lib.hid (show ∀ W : World, Calls Try.prog 10 #[.agg (vecC v), .agg (vecC (upd v n (m + 1)))] W fun e w' => e = .returned (.bool true) ∧ Below W.heap.size W w' from fun W => by have h := within_any v (upd v n (m + 1)) W; rw [fresh_within hm] at h; exact h)
  have HH2 := Lib.hid (show ∀ W : World, Calls Try.prog 9 #[.agg (vecC l), .agg (stC (m + 1) n)] W fun e w' => e = .returned (.bool false) ∧ Below W.heap.size W w' from fun W => by have h := has_any l (m + 1) n W; rw [fresh_hasnot hm hn0 (withinB_iff.1 hB1)] at h; exact h)
  have hb0 := (((Below.refl W.heap.size W).alloc (Nat.le_refl _) (.cells (vecC v) 23)).alloc (by simp) (.cells (vecC l) 23)).alloc (by simp; omega) (.cells (stC st sw) 25)
  have hv := ((Has.fresh W 23 (vecC v)).past (.cells (vecC l) 23)).past (.cells (stC st sw) 25)
  have hl := (Has.fresh (W.alloc (.cells (vecC v) 23)) 23 (vecC l)).past (.cells (stC st sw) 25)
  have hs := Has.fresh ((W.alloc (.cells (vecC v) 23)).alloc (.cells (vecC l) 23)) 25 (stC st sw)
  rw [World.size_alloc] at hl hs
  rw [World.size_alloc] at hs
  have n1 : (n : Int) < 8 := by omega
  have HM := Lib.hid hm
  clear hV hm hB1 hB2 hm0 hm1
  have qe := fun w => eql_lit v w
  have HU := Lib.hid (upd_back v n (m + 1))
  unfold stC at HN
  generalize m + 1 = T at *
  obtain ⟨U, hU⟩ : ∃ U : Nat → Int, U = upd v n T := ⟨_, rfl⟩
  rw [← hU] at HW HH4 HWI HU
  clear hU HM
  have HW2 := Lib.hid (show ∀ W : World, Calls Try.prog 7 #[.agg (vecC v), .agg (stC T n)] W fun e w' => e = .returned (.agg #[.int .i64 (U 0), .int .i64 (U 1), .int .i64 (U 2), .int .i64 (U 3), .int .i64 (U 4), .int .i64 (U 5), .int .i64 (U 6), .int .i64 (U 7)]) ∧ Below W.heap.size W w' from HW.out)
  obtain ⟨cv0, cv1, cv2, cv3, cv4, cv5, cv6, cv7⟩ := has_vec hv
  obtain ⟨cl0, cl1, cl2, cl3, cl4, cl5, cl6, cl7⟩ := has_vec hl
  obtain ⟨cs0, cs1⟩ := has_st hs
  go_enter Try.func3, Try.ntmps3
  go_wp2_with fail
  refine (HN.out _).mono ?_
  rintro e w1 ⟨rfl, hb⟩
  clear cv0 cv1 cv2 cv3 cv4 cv5 cv6 cv7 cl0 cl1 cl2 cl3 cl4 cl5 cl6 cl7 cs0 cs1
  replace hv := hv.below hb
  replace hl := hl.below hb
  replace hs := hs.below hb
  replace hb0 := hb0.trans (hb.mono hb0.size)
  clear hb
  replace hv := hv.past (.cells #[.int .i64 T, .int .i64 n] 25)
  replace hl := hl.past (.cells #[.int .i64 T, .int .i64 n] 25)
  replace hs := hs.past (.cells #[.int .i64 T, .int .i64 n] 25)
  replace hb0 := hb0.alloc hb0.size (.cells #[.int .i64 T, .int .i64 n] 25)
  have hn := Has.fresh w1 25 #[.int .i64 T, .int .i64 n]
  obtain ⟨cv0, cv1, cv2, cv3, cv4, cv5, cv6, cv7⟩ := has_vec hv
  obtain ⟨cl0, cl1, cl2, cl3, cl4, cl5, cl6, cl7⟩ := has_vec hl
  obtain ⟨cs0, cs1⟩ := has_st hs
  obtain ⟨cn0, cn1⟩ := has_st hn
  go_wp2_with fail
  refine (HW2.out _).mono ?_
  rintro e w2 ⟨rfl, hb⟩
  clear cv0 cv1 cv2 cv3 cv4 cv5 cv6 cv7 cl0 cl1 cl2 cl3 cl4 cl5 cl6 cl7 cs0 cs1 cn0 cn1
  replace hv := hv.below hb
  replace hl := hl.below hb
  replace hs := hs.below hb
  replace hn := hn.below hb
  replace hb0 := hb0.trans (hb.mono hb0.size)
  clear hb
  have hz := Lib.hid hv.bound
  replace hv := hv.past (.cells #[.int .i64 (U 0), .int .i64 (U 1), .int .i64 (U 2), .int .i64 (U 3), .int .i64 (U 4), .int .i64 (U 5), .int .i64 (U 6), .int .i64 (U 7)] 23)
  replace hl := hl.past (.cells #[.int .i64 (U 0), .int .i64 (U 1), .int .i64 (U 2), .int .i64 (U 3), .int .i64 (U 4), .int .i64 (U 5), .int .i64 (U 6), .int .i64 (U 7)] 23)
  replace hs := hs.past (.cells #[.int .i64 (U 0), .int .i64 (U 1), .int .i64 (U 2), .int .i64 (U 3), .int .i64 (U 4), .int .i64 (U 5), .int .i64 (U 6), .int .i64 (U 7)] 23)
  replace hn := hn.past (.cells #[.int .i64 (U 0), .int .i64 (U 1), .int .i64 (U 2), .int .i64 (U 3), .int .i64 (U 4), .int .i64 (U 5), .int .i64 (U 6), .int .i64 (U 7)] 23)
  replace hb0 := hb0.alloc hb0.size (.cells #[.int .i64 (U 0), .int .i64 (U 1), .int .i64 (U 2), .int .i64 (U 3), .int .i64 (U 4), .int .i64 (U 5), .int .i64 (U 6), .int .i64 (U 7)] 23)
  have hw := Has.fresh w2 23 #[.int .i64 (U 0), .int .i64 (U 1), .int .i64 (U 2), .int .i64 (U 3), .int .i64 (U 4), .int .i64 (U 5), .int .i64 (U 6), .int .i64 (U 7)]
  obtain ⟨cv0, cv1, cv2, cv3, cv4, cv5, cv6, cv7⟩ := has_vec hv
  obtain ⟨cl0, cl1, cl2, cl3, cl4, cl5, cl6, cl7⟩ := has_vec hl
  obtain ⟨cs0, cs1⟩ := has_st hs
  obtain ⟨cn0, cn1⟩ := has_st hn
  obtain ⟨cw0, cw1, cw2, cw3, cw4, cw5, cw6, cw7⟩ := has_vec hw
  go_wp2_with fail
  refine (HI.out _).mono ?_
  rintro e w3 ⟨rfl, hb⟩
  clear cv0 cv1 cv2 cv3 cv4 cv5 cv6 cv7 cl0 cl1 cl2 cl3 cl4 cl5 cl6 cl7 cs0 cs1 cn0 cn1 cw0 cw1 cw2 cw3 cw4 cw5 cw6 cw7
  replace hv := hv.below hb
  replace hl := hl.below hb
  replace hs := hs.below hb
  replace hn := hn.below hb
  replace hw := hw.below hb
  replace hb0 := hb0.trans (hb.mono hb0.size)
  clear hb
  obtain ⟨cv0, cv1, cv2, cv3, cv4, cv5, cv6, cv7⟩ := has_vec hv
  obtain ⟨cl0, cl1, cl2, cl3, cl4, cl5, cl6, cl7⟩ := has_vec hl
  obtain ⟨cs0, cs1⟩ := has_st hs
  obtain ⟨cn0, cn1⟩ := has_st hn
  obtain ⟨cw0, cw1, cw2, cw3, cw4, cw5, cw6, cw7⟩ := has_vec hw
  go_wp2_with fail
  refine (HH1.out _).mono ?_
  rintro e w4 ⟨rfl, hb⟩
  clear cv0 cv1 cv2 cv3 cv4 cv5 cv6 cv7 cl0 cl1 cl2 cl3 cl4 cl5 cl6 cl7 cs0 cs1 cn0 cn1 cw0 cw1 cw2 cw3 cw4 cw5 cw6 cw7
  replace hv := hv.below hb
  replace hl := hl.below hb
  replace hs := hs.below hb
  replace hn := hn.below hb
  replace hw := hw.below hb
  replace hb0 := hb0.trans (hb.mono hb0.size)
  clear hb
  obtain ⟨cv0, cv1, cv2, cv3, cv4, cv5, cv6, cv7⟩ := has_vec hv
  obtain ⟨cl0, cl1, cl2, cl3, cl4, cl5, cl6, cl7⟩ := has_vec hl
  obtain ⟨cs0, cs1⟩ := has_st hs
  obtain ⟨cn0, cn1⟩ := has_st hn
  obtain ⟨cw0, cw1, cw2, cw3, cw4, cw5, cw6, cw7⟩ := has_vec hw
  go_wp2_with fail
  refine (HB1.out _).mono ?_
  rintro e w5 ⟨rfl, hb⟩
  clear cv0 cv1 cv2 cv3 cv4 cv5 cv6 cv7 cl0 cl1 cl2 cl3 cl4 cl5 cl6 cl7 cs0 cs1 cn0 cn1 cw0 cw1 cw2 cw3 cw4 cw5 cw6 cw7
  replace hv := hv.below hb
  replace hl := hl.below hb
  replace hs := hs.below hb
  replace hn := hn.below hb
  replace hw := hw.below hb
  replace hb0 := hb0.trans (hb.mono hb0.size)
  clear hb
  obtain ⟨cv0, cv1, cv2, cv3, cv4, cv5, cv6, cv7⟩ := has_vec hv
  obtain ⟨cl0, cl1, cl2, cl3, cl4, cl5, cl6, cl7⟩ := has_vec hl
  obtain ⟨cs0, cs1⟩ := has_st hs
  obtain ⟨cn0, cn1⟩ := has_st hn
  obtain ⟨cw0, cw1, cw2, cw3, cw4, cw5, cw6, cw7⟩ := has_vec hw
  go_wp2_with fail
  refine (HH2.out _).mono ?_
  rintro e w6 ⟨rfl, hb⟩
  clear cv0 cv1 cv2 cv3 cv4 cv5 cv6 cv7 cl0 cl1 cl2 cl3 cl4 cl5 cl6 cl7 cs0 cs1 cn0 cn1 cw0 cw1 cw2 cw3 cw4 cw5 cw6 cw7
  replace hv := hv.below hb
  replace hl := hl.below hb
  replace hs := hs.below hb
  replace hn := hn.below hb
  replace hw := hw.below hb
  replace hb0 := hb0.trans (hb.mono hb0.size)
  clear hb
  obtain ⟨cv0, cv1, cv2, cv3, cv4, cv5, cv6, cv7⟩ := has_vec hv
  obtain ⟨cl0, cl1, cl2, cl3, cl4, cl5, cl6, cl7⟩ := has_vec hl
  obtain ⟨cs0, cs1⟩ := has_st hs
  obtain ⟨cn0, cn1⟩ := has_st hn
  obtain ⟨cw0, cw1, cw2, cw3, cw4, cw5, cw6, cw7⟩ := has_vec hw
  go_wp2_with fail
  refine (HH3.out _).mono ?_
  rintro e w7 ⟨rfl, hb⟩
  clear cv0 cv1 cv2 cv3 cv4 cv5 cv6 cv7 cl0 cl1 cl2 cl3 cl4 cl5 cl6 cl7 cs0 cs1 cn0 cn1 cw0 cw1 cw2 cw3 cw4 cw5 cw6 cw7
  replace hv := hv.below hb
  replace hl := hl.below hb
  replace hs := hs.below hb
  replace hn := hn.below hb
  replace hw := hw.below hb
  replace hb0 := hb0.trans (hb.mono hb0.size)
  clear hb
  obtain ⟨cv0, cv1, cv2, cv3, cv4, cv5, cv6, cv7⟩ := has_vec hv
  obtain ⟨cl0, cl1, cl2, cl3, cl4, cl5, cl6, cl7⟩ := has_vec hl
  obtain ⟨cs0, cs1⟩ := has_st hs
  obtain ⟨cn0, cn1⟩ := has_st hn
  obtain ⟨cw0, cw1, cw2, cw3, cw4, cw5, cw6, cw7⟩ := has_vec hw
  go_wp2_with fail
  refine (HH4.out _).mono ?_
  rintro e w8 ⟨rfl, hb⟩
  clear cv0 cv1 cv2 cv3 cv4 cv5 cv6 cv7 cl0 cl1 cl2 cl3 cl4 cl5 cl6 cl7 cs0 cs1 cn0 cn1 cw0 cw1 cw2 cw3 cw4 cw5 cw6 cw7
  replace hv := hv.below hb
  replace hl := hl.below hb
  replace hs := hs.below hb
  replace hn := hn.below hb
  replace hw := hw.below hb
  replace hb0 := hb0.trans (hb.mono hb0.size)
  clear hb
  obtain ⟨cv0, cv1, cv2, cv3, cv4, cv5, cv6, cv7⟩ := has_vec hv
  obtain ⟨cl0, cl1, cl2, cl3, cl4, cl5, cl6, cl7⟩ := has_vec hl
  obtain ⟨cs0, cs1⟩ := has_st hs
  obtain ⟨cn0, cn1⟩ := has_st hn
  obtain ⟨cw0, cw1, cw2, cw3, cw4, cw5, cw6, cw7⟩ := has_vec hw
  go_wp2_with fail
  refine (HWI.out _).mono ?_
  rintro e w9 ⟨rfl, hb⟩
  clear cv0 cv1 cv2 cv3 cv4 cv5 cv6 cv7 cl0 cl1 cl2 cl3 cl4 cl5 cl6 cl7 cs0 cs1 cn0 cn1 cw0 cw1 cw2 cw3 cw4 cw5 cw6 cw7
  replace hv := hv.below hb
  replace hl := hl.below hb
  replace hs := hs.below hb
  replace hn := hn.below hb
  replace hw := hw.below hb
  replace hb0 := hb0.trans (hb.mono hb0.size)
  clear hb
  obtain ⟨cv0, cv1, cv2, cv3, cv4, cv5, cv6, cv7⟩ := has_vec hv
  obtain ⟨cl0, cl1, cl2, cl3, cl4, cl5, cl6, cl7⟩ := has_vec hl
  obtain ⟨cs0, cs1⟩ := has_st hs
  obtain ⟨cn0, cn1⟩ := has_st hn
  obtain ⟨cw0, cw1, cw2, cw3, cw4, cw5, cw6, cw7⟩ := has_vec hw
  clear cv0 cv1 cv2 cv3 cv4 cv5 cv6 cv7 cl0 cl1 cl2 cl3 cl4 cl5 cl6 cl7 cs0 cs1 cn0 cn1 cw0 cw1 cw2 cw3 cw4 cw5 cw6 cw7
  have dn := Has.at_ hn.drew 1
  simp [stC] at dn
  have dv := has_vec_at hv.drew hn0
  have dw := has_vec_at hw.drew hn0
  have fw := hw.drew.free n
  go_wp2
  go_region
  clear dn dv dw fw
  have hw2 : Has (w9.setCell ⟨w2.heap.size, n, none⟩ (.int .i64 (v n))).drew w2.heap.size 23 (vecC v) := by
    have h := Has.drew (Has.putV (z := U) hw hn0 (v n))
    rw [HU.out] at h
    exact h
  have hv2 : Has (w9.setCell ⟨w2.heap.size, n, none⟩ (.int .i64 (v n))).drew W.heap.size 23 (vecC v) := Has.drew (Has.keep hv (p := ⟨w2.heap.size, n, none⟩) (Nat.ne_of_lt hz.out) _)
  have hb2 : Below W.heap.size W (w9.setCell ⟨w2.heap.size, n, none⟩ (.int .i64 (v n))).drew := Below.drew (hb0.setCell (p := ⟨w2.heap.size, n, none⟩) (Nat.le_of_lt hz.out) _)
  generalize (w9.setCell ⟨w2.heap.size, n, none⟩ (.int .i64 (v n))).drew = wz at *
  clear hv hl hs hn hw hb0
  obtain ⟨cw0, cw1, cw2, cw3, cw4, cw5, cw6, cw7⟩ := has_vec hw2
  obtain ⟨cv0, cv1, cv2, cv3, cv4, cv5, cv6, cv7⟩ := has_vec hv2
  go_wp2_with fail
  refine (awake_any _).mono ?_
  rintro e w99 ⟨rfl, hb⟩
  go_wp2
  go_ret
  exact ⟨rfl, hb2.trans (hb.mono hb2.size)⟩

set_option maxHeartbeats 4000000 in
set_option maxRecDepth 100000 in
theorem fresh_ok11 (v l : Nat → Int) (n : Nat) (st sw m : Int) (W : World) (hV : nextV v n = .tuple #[.agg (stC (m + 1) n), .int .i64 0]) (hm : top v 7 = m) (hm0 : 0 ≤ m) (hm1 : m < 1099511627776) (hn0 : n < 8) (hB1 : withinB l v = true) (hB2 : hasB v st sw = true) :
    Calls Try.prog 3 #[.agg (vecC v), .agg (vecC l), .int .i64 n, .agg (stC st sw)] W fun e w' => e = .returned (.bool true) ∧ Below W.heap.size W w' := by
  have HN := Lib.hid (show ∀ W : World, Calls Try.prog 5 #[.agg (vecC v), .int .i64 n] W fun e w' => e = .returned (.tuple #[.agg #[.int .i64 (m + 1), .int .i64 n], .int .i64 0]) ∧ Below W.heap.size W w' from fun W => by have h := next_any v n W; rw [hV] at h; exact h)
  have HW := Lib.hid (show ∀ W : World, Calls Try.prog 7 #[.agg (vecC v), .agg (stC (m + 1) n)] W fun e w' => e = .returned (.agg (vecC (upd v n (m + 1)))) ∧ Below W.heap.size W w' from fun W => by have h := with_any v (m + 1) n W; rw [fresh_with hm hm0 hm1 hn0] at h; exact h)
  have HI := Lib.hid (show ∀ W : World, Calls Try.prog 8 #[.agg (stC (m + 1) n)] W fun e w' => e = .returned (.bool true) ∧ Below W.heap.size W w' from fun W => by have h := is_any (m + 1) n W; rw [isB_iff.2 ⟨⟨by omega, by omega⟩, by omega, by omega⟩] at h; exact h)
  have HH1 := Lib.hid (show ∀ W : World, Calls Try.prog 9 #[.agg (vecC v), .agg (stC (m + 1) n)] W fun e w' => e = .returned (.bool false) ∧ Below W.heap.size W w' from fun W => by have h := has_any v (m + 1) n W; rw [fresh_hasnot hm hn0 fun _ _ => Int.le_refl _] at h; exact h)
  have HB1 := Lib.hid (show ∀ W : World, Calls Try.prog 10 #[.agg (vecC l), .agg (vecC v)] W fun e w' => e = .returned (.bool true) ∧ Below W.heap.size W w' from fun W => by have h := within_any l v W; rw [hB1] at h; exact h)
  have HH3 := Lib.hid (show ∀ W : World, Calls Try.prog 9 #[.agg (vecC v), .agg (stC st sw)] W fun e w' => e = .returned (.bool true) ∧ Below W.heap.size W w' from fun W => by have h := has_any v st sw W; rw [hB2] at h; exact h)
  have HH4 := Lib.hid (show ∀ W : World, Calls Try.prog 9 #[.agg (vecC (upd v n (m + 1))), .agg (stC (m + 1) n)] W fun e w' => e = .returned (.bool true) ∧ Below W.heap.size W w' from fun W => by have h := has_any (upd v n (m + 1)) (m + 1) n W; rw [fresh_has hm0 hm1 hn0] at h; exact h)
  have HWI := Lib.hid (show ∀ W : World, Calls Try.prog 10 #[.agg (vecC v), .agg (vecC (upd v n (m + 1)))] W fun e w' => e = .returned (.bool true) ∧ Below W.heap.size W w' from fun W => by have h := within_any v (upd v n (m + 1)) W; rw [fresh_within hm] at h; exact h)
  have HH2 := Lib.hid (show ∀ W : World, Calls Try.prog 9 #[.agg (vecC l), .agg (stC (m + 1) n)] W fun e w' => e = .returned (.bool false) ∧ Below W.heap.size W w' from fun W => by have h := has_any l (m + 1) n W; rw [fresh_hasnot hm hn0 (withinB_iff.1 hB1)] at h; exact h)
  have HL := Lib.hid (show ∀ W : World, Calls Try.prog 11 #[.agg (stC st sw), .agg (stC (m + 1) n)] W fun e w' => e = .returned (.bool true) ∧ Below W.heap.size W w' from fun W => by have h := less_any st sw (m + 1) n W; rw [fresh_less hm hB2] at h; exact h)
  have hb0 := (((Below.refl W.heap.size W).alloc (Nat.le_refl _) (.cells (vecC v) 23)).alloc (by simp) (.cells (vecC l) 23)).alloc (by simp; omega) (.cells (stC st sw) 25)
  have hv := ((Has.fresh W 23 (vecC v)).past (.cells (vecC l) 23)).past (.cells (stC st sw) 25)
  have hl := (Has.fresh (W.alloc (.cells (vecC v) 23)) 23 (vecC l)).past (.cells (stC st sw) 25)
  have hs := Has.fresh ((W.alloc (.cells (vecC v) 23)).alloc (.cells (vecC l) 23)) 25 (stC st sw)
  rw [World.size_alloc] at hl hs
  rw [World.size_alloc] at hs
  have n1 : (n : Int) < 8 := by omega
  have HM := Lib.hid hm
  clear hV hm hB1 hB2 hm0 hm1
  have qe := fun w => eql_lit v w
  have HU := Lib.hid (upd_back v n (m + 1))
  unfold stC at HN
  generalize m + 1 = T at *
  obtain ⟨U, hU⟩ : ∃ U : Nat → Int, U = upd v n T := ⟨_, rfl⟩
  rw [← hU] at HW HH4 HWI HU
  clear hU HM
  have HW2 := Lib.hid (show ∀ W : World, Calls Try.prog 7 #[.agg (vecC v), .agg (stC T n)] W fun e w' => e = .returned (.agg #[.int .i64 (U 0), .int .i64 (U 1), .int .i64 (U 2), .int .i64 (U 3), .int .i64 (U 4), .int .i64 (U 5), .int .i64 (U 6), .int .i64 (U 7)]) ∧ Below W.heap.size W w' from HW.out)
  obtain ⟨cv0, cv1, cv2, cv3, cv4, cv5, cv6, cv7⟩ := has_vec hv
  obtain ⟨cl0, cl1, cl2, cl3, cl4, cl5, cl6, cl7⟩ := has_vec hl
  obtain ⟨cs0, cs1⟩ := has_st hs
  go_enter Try.func3, Try.ntmps3
  go_wp2_with fail
  refine (HN.out _).mono ?_
  rintro e w1 ⟨rfl, hb⟩
  clear cv0 cv1 cv2 cv3 cv4 cv5 cv6 cv7 cl0 cl1 cl2 cl3 cl4 cl5 cl6 cl7 cs0 cs1
  replace hv := hv.below hb
  replace hl := hl.below hb
  replace hs := hs.below hb
  replace hb0 := hb0.trans (hb.mono hb0.size)
  clear hb
  replace hv := hv.past (.cells #[.int .i64 T, .int .i64 n] 25)
  replace hl := hl.past (.cells #[.int .i64 T, .int .i64 n] 25)
  replace hs := hs.past (.cells #[.int .i64 T, .int .i64 n] 25)
  replace hb0 := hb0.alloc hb0.size (.cells #[.int .i64 T, .int .i64 n] 25)
  have hn := Has.fresh w1 25 #[.int .i64 T, .int .i64 n]
  obtain ⟨cv0, cv1, cv2, cv3, cv4, cv5, cv6, cv7⟩ := has_vec hv
  obtain ⟨cl0, cl1, cl2, cl3, cl4, cl5, cl6, cl7⟩ := has_vec hl
  obtain ⟨cs0, cs1⟩ := has_st hs
  obtain ⟨cn0, cn1⟩ := has_st hn
  go_wp2_with fail
  refine (HW2.out _).mono ?_
  rintro e w2 ⟨rfl, hb⟩
  clear cv0 cv1 cv2 cv3 cv4 cv5 cv6 cv7 cl0 cl1 cl2 cl3 cl4 cl5 cl6 cl7 cs0 cs1 cn0 cn1
  replace hv := hv.below hb
  replace hl := hl.below hb
  replace hs := hs.below hb
  replace hn := hn.below hb
  replace hb0 := hb0.trans (hb.mono hb0.size)
  clear hb
  have hz := Lib.hid hv.bound
  replace hv := hv.past (.cells #[.int .i64 (U 0), .int .i64 (U 1), .int .i64 (U 2), .int .i64 (U 3), .int .i64 (U 4), .int .i64 (U 5), .int .i64 (U 6), .int .i64 (U 7)] 23)
  replace hl := hl.past (.cells #[.int .i64 (U 0), .int .i64 (U 1), .int .i64 (U 2), .int .i64 (U 3), .int .i64 (U 4), .int .i64 (U 5), .int .i64 (U 6), .int .i64 (U 7)] 23)
  replace hs := hs.past (.cells #[.int .i64 (U 0), .int .i64 (U 1), .int .i64 (U 2), .int .i64 (U 3), .int .i64 (U 4), .int .i64 (U 5), .int .i64 (U 6), .int .i64 (U 7)] 23)
  replace hn := hn.past (.cells #[.int .i64 (U 0), .int .i64 (U 1), .int .i64 (U 2), .int .i64 (U 3), .int .i64 (U 4), .int .i64 (U 5), .int .i64 (U 6), .int .i64 (U 7)] 23)
  replace hb0 := hb0.alloc hb0.size (.cells #[.int .i64 (U 0), .int .i64 (U 1), .int .i64 (U 2), .int .i64 (U 3), .int .i64 (U 4), .int .i64 (U 5), .int .i64 (U 6), .int .i64 (U 7)] 23)
  have hw := Has.fresh w2 23 #[.int .i64 (U 0), .int .i64 (U 1), .int .i64 (U 2), .int .i64 (U 3), .int .i64 (U 4), .int .i64 (U 5), .int .i64 (U 6), .int .i64 (U 7)]
  obtain ⟨cv0, cv1, cv2, cv3, cv4, cv5, cv6, cv7⟩ := has_vec hv
  obtain ⟨cl0, cl1, cl2, cl3, cl4, cl5, cl6, cl7⟩ := has_vec hl
  obtain ⟨cs0, cs1⟩ := has_st hs
  obtain ⟨cn0, cn1⟩ := has_st hn
  obtain ⟨cw0, cw1, cw2, cw3, cw4, cw5, cw6, cw7⟩ := has_vec hw
  go_wp2_with fail
  refine (HI.out _).mono ?_
  rintro e w3 ⟨rfl, hb⟩
  clear cv0 cv1 cv2 cv3 cv4 cv5 cv6 cv7 cl0 cl1 cl2 cl3 cl4 cl5 cl6 cl7 cs0 cs1 cn0 cn1 cw0 cw1 cw2 cw3 cw4 cw5 cw6 cw7
  replace hv := hv.below hb
  replace hl := hl.below hb
  replace hs := hs.below hb
  replace hn := hn.below hb
  replace hw := hw.below hb
  replace hb0 := hb0.trans (hb.mono hb0.size)
  clear hb
  obtain ⟨cv0, cv1, cv2, cv3, cv4, cv5, cv6, cv7⟩ := has_vec hv
  obtain ⟨cl0, cl1, cl2, cl3, cl4, cl5, cl6, cl7⟩ := has_vec hl
  obtain ⟨cs0, cs1⟩ := has_st hs
  obtain ⟨cn0, cn1⟩ := has_st hn
  obtain ⟨cw0, cw1, cw2, cw3, cw4, cw5, cw6, cw7⟩ := has_vec hw
  go_wp2_with fail
  refine (HH1.out _).mono ?_
  rintro e w4 ⟨rfl, hb⟩
  clear cv0 cv1 cv2 cv3 cv4 cv5 cv6 cv7 cl0 cl1 cl2 cl3 cl4 cl5 cl6 cl7 cs0 cs1 cn0 cn1 cw0 cw1 cw2 cw3 cw4 cw5 cw6 cw7
  replace hv := hv.below hb
  replace hl := hl.below hb
  replace hs := hs.below hb
  replace hn := hn.below hb
  replace hw := hw.below hb
  replace hb0 := hb0.trans (hb.mono hb0.size)
  clear hb
  obtain ⟨cv0, cv1, cv2, cv3, cv4, cv5, cv6, cv7⟩ := has_vec hv
  obtain ⟨cl0, cl1, cl2, cl3, cl4, cl5, cl6, cl7⟩ := has_vec hl
  obtain ⟨cs0, cs1⟩ := has_st hs
  obtain ⟨cn0, cn1⟩ := has_st hn
  obtain ⟨cw0, cw1, cw2, cw3, cw4, cw5, cw6, cw7⟩ := has_vec hw
  go_wp2_with fail
  refine (HB1.out _).mono ?_
  rintro e w5 ⟨rfl, hb⟩
  clear cv0 cv1 cv2 cv3 cv4 cv5 cv6 cv7 cl0 cl1 cl2 cl3 cl4 cl5 cl6 cl7 cs0 cs1 cn0 cn1 cw0 cw1 cw2 cw3 cw4 cw5 cw6 cw7
  replace hv := hv.below hb
  replace hl := hl.below hb
  replace hs := hs.below hb
  replace hn := hn.below hb
  replace hw := hw.below hb
  replace hb0 := hb0.trans (hb.mono hb0.size)
  clear hb
  obtain ⟨cv0, cv1, cv2, cv3, cv4, cv5, cv6, cv7⟩ := has_vec hv
  obtain ⟨cl0, cl1, cl2, cl3, cl4, cl5, cl6, cl7⟩ := has_vec hl
  obtain ⟨cs0, cs1⟩ := has_st hs
  obtain ⟨cn0, cn1⟩ := has_st hn
  obtain ⟨cw0, cw1, cw2, cw3, cw4, cw5, cw6, cw7⟩ := has_vec hw
  go_wp2_with fail
  refine (HH2.out _).mono ?_
  rintro e w6 ⟨rfl, hb⟩
  clear cv0 cv1 cv2 cv3 cv4 cv5 cv6 cv7 cl0 cl1 cl2 cl3 cl4 cl5 cl6 cl7 cs0 cs1 cn0 cn1 cw0 cw1 cw2 cw3 cw4 cw5 cw6 cw7
  replace hv := hv.below hb
  replace hl := hl.below hb
  replace hs := hs.below hb
  replace hn := hn.below hb
  replace hw := hw.below hb
  replace hb0 := hb0.trans (hb.mono hb0.size)
  clear hb
  obtain ⟨cv0, cv1, cv2, cv3, cv4, cv5, cv6, cv7⟩ := has_vec hv
  obtain ⟨cl0, cl1, cl2, cl3, cl4, cl5, cl6, cl7⟩ := has_vec hl
  obtain ⟨cs0, cs1⟩ := has_st hs
  obtain ⟨cn0, cn1⟩ := has_st hn
  obtain ⟨cw0, cw1, cw2, cw3, cw4, cw5, cw6, cw7⟩ := has_vec hw
  go_wp2_with fail
  refine (HH3.out _).mono ?_
  rintro e w7 ⟨rfl, hb⟩
  clear cv0 cv1 cv2 cv3 cv4 cv5 cv6 cv7 cl0 cl1 cl2 cl3 cl4 cl5 cl6 cl7 cs0 cs1 cn0 cn1 cw0 cw1 cw2 cw3 cw4 cw5 cw6 cw7
  replace hv := hv.below hb
  replace hl := hl.below hb
  replace hs := hs.below hb
  replace hn := hn.below hb
  replace hw := hw.below hb
  replace hb0 := hb0.trans (hb.mono hb0.size)
  clear hb
  obtain ⟨cv0, cv1, cv2, cv3, cv4, cv5, cv6, cv7⟩ := has_vec hv
  obtain ⟨cl0, cl1, cl2, cl3, cl4, cl5, cl6, cl7⟩ := has_vec hl
  obtain ⟨cs0, cs1⟩ := has_st hs
  obtain ⟨cn0, cn1⟩ := has_st hn
  obtain ⟨cw0, cw1, cw2, cw3, cw4, cw5, cw6, cw7⟩ := has_vec hw
  go_wp2_with fail
  refine (HL.out _).mono ?_
  rintro e w8 ⟨rfl, hb⟩
  clear cv0 cv1 cv2 cv3 cv4 cv5 cv6 cv7 cl0 cl1 cl2 cl3 cl4 cl5 cl6 cl7 cs0 cs1 cn0 cn1 cw0 cw1 cw2 cw3 cw4 cw5 cw6 cw7
  replace hv := hv.below hb
  replace hl := hl.below hb
  replace hs := hs.below hb
  replace hn := hn.below hb
  replace hw := hw.below hb
  replace hb0 := hb0.trans (hb.mono hb0.size)
  clear hb
  obtain ⟨cv0, cv1, cv2, cv3, cv4, cv5, cv6, cv7⟩ := has_vec hv
  obtain ⟨cl0, cl1, cl2, cl3, cl4, cl5, cl6, cl7⟩ := has_vec hl
  obtain ⟨cs0, cs1⟩ := has_st hs
  obtain ⟨cn0, cn1⟩ := has_st hn
  obtain ⟨cw0, cw1, cw2, cw3, cw4, cw5, cw6, cw7⟩ := has_vec hw
  go_wp2_with fail
  refine (HH4.out _).mono ?_
  rintro e w9 ⟨rfl, hb⟩
  clear cv0 cv1 cv2 cv3 cv4 cv5 cv6 cv7 cl0 cl1 cl2 cl3 cl4 cl5 cl6 cl7 cs0 cs1 cn0 cn1 cw0 cw1 cw2 cw3 cw4 cw5 cw6 cw7
  replace hv := hv.below hb
  replace hl := hl.below hb
  replace hs := hs.below hb
  replace hn := hn.below hb
  replace hw := hw.below hb
  replace hb0 := hb0.trans (hb.mono hb0.size)
  clear hb
  obtain ⟨cv0, cv1, cv2, cv3, cv4, cv5, cv6, cv7⟩ := has_vec hv
  obtain ⟨cl0, cl1, cl2, cl3, cl4, cl5, cl6, cl7⟩ := has_vec hl
  obtain ⟨cs0, cs1⟩ := has_st hs
  obtain ⟨cn0, cn1⟩ := has_st hn
  obtain ⟨cw0, cw1, cw2, cw3, cw4, cw5, cw6, cw7⟩ := has_vec hw
  go_wp2_with fail
  refine (HWI.out _).mono ?_
  rintro e w10 ⟨rfl, hb⟩
  clear cv0 cv1 cv2 cv3 cv4 cv5 cv6 cv7 cl0 cl1 cl2 cl3 cl4 cl5 cl6 cl7 cs0 cs1 cn0 cn1 cw0 cw1 cw2 cw3 cw4 cw5 cw6 cw7
  replace hv := hv.below hb
  replace hl := hl.below hb
  replace hs := hs.below hb
  replace hn := hn.below hb
  replace hw := hw.below hb
  replace hb0 := hb0.trans (hb.mono hb0.size)
  clear hb
  obtain ⟨cv0, cv1, cv2, cv3, cv4, cv5, cv6, cv7⟩ := has_vec hv
  obtain ⟨cl0, cl1, cl2, cl3, cl4, cl5, cl6, cl7⟩ := has_vec hl
  obtain ⟨cs0, cs1⟩ := has_st hs
  obtain ⟨cn0, cn1⟩ := has_st hn
  obtain ⟨cw0, cw1, cw2, cw3, cw4, cw5, cw6, cw7⟩ := has_vec hw
  clear cv0 cv1 cv2 cv3 cv4 cv5 cv6 cv7 cl0 cl1 cl2 cl3 cl4 cl5 cl6 cl7 cs0 cs1 cn0 cn1 cw0 cw1 cw2 cw3 cw4 cw5 cw6 cw7
  have dn := Has.at_ hn.drew 1
  simp [stC] at dn
  have dv := has_vec_at hv.drew hn0
  have dw := has_vec_at hw.drew hn0
  have fw := hw.drew.free n
  go_wp2
  go_region
  clear dn dv dw fw
  have hw2 : Has (w10.setCell ⟨w2.heap.size, n, none⟩ (.int .i64 (v n))).drew w2.heap.size 23 (vecC v) := by
    have h := Has.drew (Has.putV (z := U) hw hn0 (v n))
    rw [HU.out] at h
    exact h
  have hv2 : Has (w10.setCell ⟨w2.heap.size, n, none⟩ (.int .i64 (v n))).drew W.heap.size 23 (vecC v) := Has.drew (Has.keep hv (p := ⟨w2.heap.size, n, none⟩) (Nat.ne_of_lt hz.out) _)
  have hb2 : Below W.heap.size W (w10.setCell ⟨w2.heap.size, n, none⟩ (.int .i64 (v n))).drew := Below.drew (hb0.setCell (p := ⟨w2.heap.size, n, none⟩) (Nat.le_of_lt hz.out) _)
  generalize (w10.setCell ⟨w2.heap.size, n, none⟩ (.int .i64 (v n))).drew = wz at *
  clear hv hl hs hn hw hb0
  obtain ⟨cw0, cw1, cw2, cw3, cw4, cw5, cw6, cw7⟩ := has_vec hw2
  obtain ⟨cv0, cv1, cv2, cv3, cv4, cv5, cv6, cv7⟩ := has_vec hv2
  go_wp2_with fail
  refine (awake_any _).mono ?_
  rintro e w99 ⟨rfl, hb⟩
  go_wp2
  go_ret
  exact ⟨rfl, hb2.trans (hb.mono hb2.size)⟩

theorem fresh_walk (v l : Nat → Int) (who st sw : Int) (_ : ∀ i, i < 8 → (Lit.int .i64 (v i)).wf = true) (_ : ∀ i, i < 8 → (Lit.int .i64 (l i)).wf = true) (_ : (Lit.int .i64 who).wf = true) (_ : (Lit.int .i64 st).wf = true) (_ : (Lit.int .i64 sw).wf = true) (W : World) :
    Calls Try.prog 3 #[.agg (vecC v), .agg (vecC l), .int .i64 who, .agg (stC st sw)] W fun e w' => e = .returned (.bool true) ∧ Below W.heap.size W w' := by
  by_cases h : whoB who = true ∧ goodB v = true
  · obtain ⟨h1, h2⟩ := h
    by_cases hF : top v 7 = 1099511627776
    · exact fresh_err v l who st sw 75 W (next_far h1 h2 hF) (by decide)
    · have hbd := good_bounds h2
      have hw : 0 ≤ who ∧ who < 8 := by
        unfold whoB at h1
        simpa using h1
      obtain ⟨n, rfl⟩ := Int.eq_ofNat_of_zero_le hw.1
      have hV := next_ok h1 h2 hF
      cases hB1 : withinB l v <;> cases hB2 : hasB v st sw
      · exact fresh_ok00 v l n st sw _ W hV rfl hbd.1 (by omega) (by omega) hB1 hB2
      · exact fresh_ok01 v l n st sw _ W hV rfl hbd.1 (by omega) (by omega) hB1 hB2
      · exact fresh_ok10 v l n st sw _ W hV rfl hbd.1 (by omega) (by omega) hB1 hB2
      · exact fresh_ok11 v l n st sw _ W hV rfl hbd.1 (by omega) (by omega) hB1 hB2
  · exact fresh_err v l who st sw 22 W (next_bad h) (by decide)
end Go.Proofs.Ytlnlnpofdgnoeab.Vc
