/- What an eye throws where the next vector may not be; the next stamp. -/
import Derived.Test.YtlnlnpofdgnoeaaVcSee
namespace Go.Proofs.Ytlnlnpofdgnoeaa.Vc
open Go.RowKit Go.Proofs.Ytlnlnpofdgnoeaa.Oct

set_option maxRecDepth 100000 in
set_option maxHeartbeats 4000000 in
theorem see_bad (q s : Nat) (r : ByteArray) (hbad : r.size < 48 ∨ goodB (seeV r) = false) (hqs : q ≠ s) (w : World) (h : Looks w q s r) :
    Calls Try.prog 38 #[.pointer (some ⟨q, 0, none⟩)] w (Threw s w) := by
  have H := Lib.hid (Looks.past (Looks.past h (.cells (vecC nil8) 25)) (.cells (vecC nil8) 25))
  have hz := Oct.Has.fresh (w.alloc (.cells (vecC nil8) 25)) 25 (vecC nil8)
  rw [World.size_alloc] at hz
  have HZ := Lib.hid hz
  have HC := Lib.hid (((Chg.refl (· = s) w).alloc (.cells (vecC nil8) 25)).alloc (.cells (vecC nil8) 25))
  have hs1 := Oct.Has.bound h.sight
  have hq1 := Oct.Has.bound h.eye
  have HE := Lib.hid (show r.extract 0 r.size = r by simp)
  have HBAD := Lib.hid hbad
  clear h hz hbad
  go_enter Try.func38, Try.ntmps38
  go_wp2
  go_loopw [5] (fun i wr => ∃ (k : Nat) (z : Nat → Int), k ≤ 8 ∧ 6 * k ≤ r.size ∧ i = .int .i64 k ∧ Hid (Thru (seeV r) nil8 k z) ∧ Hid (Looks wr q s (r.extract (6 * k) r.size)) ∧ Hid (Oct.Has wr (w.heap.size + 1) 25 (vecC z)) ∧ Hid (Chg (· = s) w wr)) (fun i _ => 8 - (intOf i).toNat)
  case atStart => exact ⟨0, nil8, by omega, by omega, rfl, Lib.hid (Thru.zero _ _), Lib.hid (by rw [Nat.mul_zero, HE.out]; exact H.out), HZ, HC⟩
  case round =>
    obtain ⟨k, z, hk, h6, rfl, hT, hL, hZ, hC⟩ := hrel
    clear H HZ HC
    by_cases hlt : k < 8
    · have k1 : (k : Int) < 8 := by omega
      have hz6 := ext_size r (6 * k) h6
      by_cases hn : 6 * k + 6 ≤ r.size
      · have HN := Lib.hid (num6 q s (r.extract (6 * k) r.size) (by rw [hz6]; omega) hqs wr hL.out)
        have HV := Lib.hid (show ((numL ((r.extract (6 * k) r.size).data.toList.take 6) : Nat) : Int) = seeV r k by rw [ext_list]; rfl)
        have HX := Lib.hid (show (r.extract (6 * k) r.size).extract 6 (r.extract (6 * k) r.size).size = r.extract (6 * (k + 1)) r.size by rw [ext_ext _ _ _ (by omega)]; rfl)
        clear hz6
        go_wp2_with fail
        refine HN.out.mono ?_
        rintro e w2 ⟨rfl, hl, hc⟩
        rw [HX.out] at hl
        rw [HV.out]
        have hz2 := Oct.Has.over hZ.out hc (show w.heap.size + 1 ≠ s by omega)
        have cz := has_vec_at hz2 hlt
        have fz := Oct.Has.free hz2 k
        have HL2 := Lib.hid (Looks.keep hl (p := ⟨w.heap.size + 1, k, none⟩) (show q ≠ w.heap.size + 1 by omega) (show s ≠ w.heap.size + 1 by omega) (.int .i64 (seeV r k)))
        have HZ2 := Lib.hid (Has.putV hz2 hlt (seeV r k))
        have HC2 := Lib.hid ((hC.out.trans hc).setCell (p := ⟨w.heap.size + 1, k, none⟩) (.inr (by show w.heap.size ≤ w.heap.size + 1; omega)) (.int .i64 (seeV r k)))
        clear hz2 hl hc
        go_wp2
        go_roundw
        case rel => exact ⟨k + 1, upd z k (seeV r k), by omega, by omega, by go_num, Lib.hid (hT.out.step rfl), HL2, HZ2, HC2⟩
        case measure => simp [intOf]; omega
      · have HN := Lib.hid (num_short q s 6 (r.extract (6 * k) r.size) (by omega) (by omega) (by rw [hz6]; omega) wr hL.out)
        clear hz6 hn
        go_wp2_with fail
        refine HN.out.mono ?_
        rintro e w2 ⟨rfl, hl, hc⟩
        go_wp2
        show _ ∧ _
        exact ⟨rfl, rfl, _, hl, hC.out.trans hc⟩
    · obtain rfl : k = 8 := by omega
      have hg : goodB (seeV r) = false := HBAD.out.resolve_left (by omega)
      rw [hT.out.done] at hZ
      have HG := Lib.hid (show ∀ W : World, Calls Try.prog 26 #[.agg (vecC (seeV r))] W fun e w' => e = .returned (.bool false) ∧ Below W.heap.size W w' from fun W => by have h := good_any (seeV r) W; rw [hg] at h; exact h)
      obtain ⟨J, hJ⟩ : ∃ J : Nat → Int, J = seeV r := ⟨_, rfl⟩
      rw [← hJ] at hZ HG
      clear hJ hT hg HBAD
      obtain ⟨c0, c1, c2, c3, c4, c5, c6, c7⟩ := has_vec hZ.out
      go_wp2_with fail
      refine (HG.out _).mono ?_
      rintro e w2 ⟨rfl, hb⟩
      clear c0 c1 c2 c3 c4 c5 c6 c7
      have hl2 := Looks.below hL.out hb
      have hc2 := hC.out.trans (Chg.of_below hb (· = s))
      have HF := Lib.hid (fail_ok q s 201 _ w2 hl2)
      have HC2 := Lib.hid hc2
      clear hl2 hc2 hb
      go_wp2_with fail
      refine HF.out.mono ?_
      rintro e w3 ⟨rfl, hl, hc⟩
      go_wp2
      show _ ∧ _
      exact ⟨rfl, rfl, _, hl, HC2.out.trans hc⟩

/-- The time and the replica of the next bytes. -/
def seeT (r : ByteArray) : Int := (numL (r.data.toList.take 6) : Nat)
def seeW (r : ByteArray) : Int := (numL ((r.data.toList.drop 6).take 1) : Nat)
/-- May they be a stamp's? -/
def stampB (t w : Int) : Bool := isB t w || (t == 0 && w == 0)
theorem looks_put2 {w : World} {q s g : Nat} {r : ByteArray} (h : Looks w q s r) (hq : q ≠ g) (hs : s ≠ g) (a b : Int) : Looks ((w.setCell ⟨g, 0, none⟩ (.int .i64 a)).setCell ⟨g, 1, none⟩ (.int .i64 b)) q s r :=
  Looks.keep (Looks.keep h (p := ⟨g, 0, none⟩) hq hs _) (p := ⟨g, 1, none⟩) hq hs _
theorem chg_put2 {a w : World} {g : Nat} {S : Nat → Prop} (h : Chg S a w) (hg : a.heap.size ≤ g) (x y : Int) : Chg S a ((w.setCell ⟨g, 0, none⟩ (.int .i64 x)).setCell ⟨g, 1, none⟩ (.int .i64 y)) :=
  (h.setCell (p := ⟨g, 0, none⟩) (.inr hg) _).setCell (p := ⟨g, 1, none⟩) (.inr hg) _
theorem build_st (a b : Int) (w : World) : (Instr.build 23 #[(0, .int .i64 a), (1, .int .i64 b)]).run Try.prog w = .ok (.agg #[.int .i64 a, .int .i64 b]) w := run_build w _ _ _ (by kernel_rfl)
theorem build_zero (w : World) : (Instr.build 23 #[]).run Try.prog w = .ok (.agg #[.int .i64 0, .int .i64 0]) w := run_build w _ _ _ (by kernel_rfl)

set_option maxRecDepth 100000 in
set_option maxHeartbeats 4000000 in
theorem seest_ok (q s : Nat) (r : ByteArray) (hn : 7 ≤ r.size) (hg : stampB (seeT r) (seeW r) = true) (hqs : q ≠ s) (w : World) (h : Looks w q s r) :
    Calls Try.prog 37 #[.pointer (some ⟨q, 0, none⟩)] w fun e w' => e = .returned (.agg (stC (seeT r) (seeW r))) ∧ Looks w' q s (r.extract 7 r.size) ∧ Chg (· = s) w w' := by
  have hs1 := Oct.Has.bound h.sight
  have hq1 := Oct.Has.bound h.eye
  have H := Lib.hid (Looks.past h (.cells #[.int .i64 0, .int .i64 0] 23))
  have hr0 := Oct.Has.fresh w 23 #[.int .i64 0, .int .i64 0]
  have hc0 := (Chg.refl (· = s) w).alloc (.cells #[.int .i64 0, .int .i64 0] 23)
  have HN := Lib.hid (fun W => num6 q s r (by omega) hqs W)
  have HN1 := Lib.hid (fun W => num1 q s (r.extract 6 r.size) (by rw [ext_size _ _ (by omega)]; omega) hqs W)
  have HX := Lib.hid (ext_ext r 6 1 (by omega))
  have HT := Lib.hid (show ((numL (r.data.toList.take 6) : Nat) : Int) = seeT r from rfl)
  have HW := Lib.hid (show ((numL ((r.extract 6 r.size).data.toList.take 1) : Nat) : Int) = seeW r by rw [ext_list]; rfl)
  have HI := Lib.hid (fun W => is_any (seeT r) (seeW r) W)
  generalize seeT r = T at *
  generalize seeW r = U at *
  have bs := fun W => build_st T U W
  have bz := fun W => build_zero W
  clear h
  go_enter Try.func37, Try.ntmps37
  go_wp2_with fail
  refine (HN.out _ H.out).mono ?_
  rintro e w1 ⟨rfl, hl1, hc1⟩
  rw [HT.out]
  have HR1 := Lib.hid (Oct.Has.over hr0 hc1 (show w.heap.size ≠ s by omega))
  have HC1 := Lib.hid (hc0.trans hc1)
  have HL1 := Lib.hid hl1
  clear hr0 hc0 hl1 hc1
  go_wp2_with fail
  refine (HN1.out _ HL1.out).mono ?_
  rintro e w2 ⟨rfl, hl2, hc2⟩
  rw [HW.out]
  rw [HX.out] at hl2
  have HR2 := Lib.hid (Oct.Has.past (Oct.Has.over HR1.out hc2 (show w.heap.size ≠ s by omega)) (.cells #[.int .i64 T, .int .i64 U] 23))
  have HC2 := Lib.hid ((HC1.out.trans hc2).alloc (.cells #[.int .i64 T, .int .i64 U] 23))
  have HL2 := Lib.hid (Looks.past hl2 (.cells #[.int .i64 T, .int .i64 U] 23))
  have HS2 := Lib.hid (Oct.Has.fresh w2 23 #[.int .i64 T, .int .i64 U])
  clear hl2 hc2
  cases hB : isB T U with
  | true =>
    rw [hB] at HI
    clear hB hg
    go_wp2_with fail
    refine (HI.out _).mono ?_
    rintro e w3 ⟨rfl, hb⟩
    have hr3 := Oct.Has.over HR2.out (Chg.of_below hb (fun _ => False)) (fun k => k)
    have hs3 := Oct.Has.over HS2.out (Chg.of_below hb (fun _ => False)) (fun k => k)
    have hl3 := Looks.below HL2.out hb
    have hc3 := HC2.out.trans (Chg.of_below hb (· = s))
    obtain ⟨s0, s1⟩ := has_st hs3
    obtain ⟨r0, r1⟩ := has_st hr3
    have ff := fun i => Oct.Has.free hr3 i
    obtain ⟨d0, d1⟩ := cells_put2 (a := 0) (b := 0) hr3 T U
    have hw1 : s ≠ w.heap.size := by omega
    have hw2 : q ≠ w.heap.size := by omega
    have HQ := Lib.hid (looks_put2 hl3 hw2 hw1 T U)
    have HQ2 := Lib.hid (chg_put2 hc3 (g := w.heap.size) (Nat.le_refl _) T U)
    clear hr3 hs3 hl3 hc3 hb hw1 hw2 hs1 hq1
    go_wp2
    refine bodyPost_ret (v := .agg #[.int .i64 T, .int .i64 U]) (by simp [results, Try.results37, go_sem, d0, d1]) rfl ⟨rfl, HQ.out, HQ2.out⟩
  | false =>
    rw [hB] at HI
    obtain ⟨rfl, rfl⟩ : T = 0 ∧ U = 0 := by
      unfold stampB at hg
      rw [hB, Bool.false_or, Bool.and_eq_true, beq_iff_eq, beq_iff_eq] at hg
      exact hg
    have nz : ∀ W : World, (binOp .neq 23 (.agg #[.int .i64 0, .int .i64 0]) (.agg #[.int .i64 0, .int .i64 0])).run Try.prog W = .ok (.bool false) W := fun W => neq_st 0 0 0 0 W
    clear hB hg
    go_wp2_with fail
    refine (HI.out _).mono ?_
    rintro e w3 ⟨rfl, hb⟩
    have hr3 := Oct.Has.over HR2.out (Chg.of_below hb (fun _ => False)) (fun k => k)
    have hs3 := Oct.Has.over HS2.out (Chg.of_below hb (fun _ => False)) (fun k => k)
    have hl3 := Looks.below HL2.out hb
    have hc3 := HC2.out.trans (Chg.of_below hb (· = s))
    obtain ⟨s0, s1⟩ := has_st hs3
    obtain ⟨r0, r1⟩ := has_st hr3
    have ff := fun i => Oct.Has.free hr3 i
    obtain ⟨d0, d1⟩ := cells_put2 (a := 0) (b := 0) hr3 0 0
    have hw1 : s ≠ w.heap.size := by omega
    have hw2 : q ≠ w.heap.size := by omega
    have HQ := Lib.hid (looks_put2 hl3 hw2 hw1 0 0)
    have HQ2 := Lib.hid (chg_put2 hc3 (g := w.heap.size) (Nat.le_refl _) 0 0)
    clear hr3 hs3 hl3 hc3 hb hw1 hw2 hs1 hq1
    go_wp2
    refine bodyPost_ret (v := .agg #[.int .i64 0, .int .i64 0]) (by simp [results, Try.results37, go_sem, d0, d1]) rfl ⟨rfl, HQ.out, HQ2.out⟩

set_option maxRecDepth 100000 in
set_option maxHeartbeats 4000000 in
theorem seest_bad (q s : Nat) (r : ByteArray) (hbad : r.size < 7 ∨ stampB (seeT r) (seeW r) = false) (hqs : q ≠ s) (w : World) (h : Looks w q s r) :
    Calls Try.prog 37 #[.pointer (some ⟨q, 0, none⟩)] w (Threw s w) := by
  have H := Lib.hid (Looks.past h (.cells #[.int .i64 0, .int .i64 0] 23))
  have hc0 := (Chg.refl (· = s) w).alloc (.cells #[.int .i64 0, .int .i64 0] 23)
  clear h
  by_cases h6 : r.size < 6
  · have HN := Lib.hid (fun W => num_short q s 6 r (by omega) (by omega) h6 W)
    clear hbad h6
    go_enter Try.func37, Try.ntmps37
    go_wp2_with fail
    refine (HN.out _ H.out).mono ?_
    rintro e w1 ⟨rfl, hl, hc1⟩
    go_wp2
    show _ ∧ _
    exact ⟨rfl, rfl, _, hl, hc0.trans hc1⟩
  · have HN := Lib.hid (fun W => num6 q s r (by omega) hqs W)
    by_cases h7 : r.size < 7
    · have HN1 := Lib.hid (fun W => num_short q s 1 (r.extract 6 r.size) (by omega) (by omega) (by rw [ext_size _ _ (by omega)]; omega) W)
      clear hbad h6 h7
      go_enter Try.func37, Try.ntmps37
      go_wp2_with fail
      refine (HN.out _ H.out).mono ?_
      rintro e w1 ⟨rfl, hl1, hc1⟩
      have HL1 := Lib.hid hl1
      have HC1 := Lib.hid (hc0.trans hc1)
      clear hl1 hc1 hc0
      go_wp2_with fail
      refine (HN1.out _ HL1.out).mono ?_
      rintro e w2 ⟨rfl, hl, hc⟩
      go_wp2
      show _ ∧ _
      exact ⟨rfl, rfl, _, hl, HC1.out.trans hc⟩
    · have hg := hbad.resolve_left h7
      have HN1 := Lib.hid (fun W => num1 q s (r.extract 6 r.size) (by rw [ext_size _ _ (by omega)]; omega) hqs W)
      have HX := Lib.hid (ext_ext r 6 1 (by omega))
      have HT := Lib.hid (show ((numL (r.data.toList.take 6) : Nat) : Int) = seeT r from rfl)
      have HW := Lib.hid (show ((numL ((r.extract 6 r.size).data.toList.take 1) : Nat) : Int) = seeW r by rw [ext_list]; rfl)
      have HI := Lib.hid (fun W => is_any (seeT r) (seeW r) W)
      generalize seeT r = T at *
      generalize seeW r = U at *
      have bs := fun W => build_st T U W
      have bz := fun W => build_zero W
      have hB : isB T U = false := by
        unfold stampB at hg
        rw [Bool.or_eq_false_iff] at hg
        exact hg.1
      rw [hB] at HI
      have nz : ∀ W : World, (binOp .neq 23 (.agg #[.int .i64 T, .int .i64 U]) (.agg #[.int .i64 0, .int .i64 0])).run Try.prog W = .ok (.bool true) W := fun W => (neq_st T U 0 0 W).trans (by
        unfold stampB at hg
        rw [Bool.or_eq_false_iff] at hg
        rw [hg.2]
        rfl)
      clear hbad h6 h7 hB hg
      go_enter Try.func37, Try.ntmps37
      go_wp2_with fail
      refine (HN.out _ H.out).mono ?_
      rintro e w1 ⟨rfl, hl1, hc1⟩
      rw [HT.out]
      have HL1 := Lib.hid hl1
      have HC1 := Lib.hid (hc0.trans hc1)
      clear hl1 hc1 hc0
      go_wp2_with fail
      refine (HN1.out _ HL1.out).mono ?_
      rintro e w2 ⟨rfl, hl2, hc2⟩
      rw [HW.out]
      have HC2 := Lib.hid ((HC1.out.trans hc2).alloc (.cells #[.int .i64 T, .int .i64 U] 23))
      have HL2 := Lib.hid (Looks.past hl2 (.cells #[.int .i64 T, .int .i64 U] 23))
      have HS2 := Lib.hid (Oct.Has.fresh w2 23 #[.int .i64 T, .int .i64 U])
      clear hl2 hc2
      go_wp2_with fail
      refine (HI.out _).mono ?_
      rintro e w3 ⟨rfl, hb⟩
      have hs3 := Oct.Has.over HS2.out (Chg.of_below hb (fun _ => False)) (fun k => k)
      have HL3 := Lib.hid (Looks.below HL2.out hb)
      have HC3 := Lib.hid (HC2.out.trans (Chg.of_below hb (· = s)))
      obtain ⟨s0, s1⟩ := has_st hs3
      have HF := Lib.hid (fail_ok q s 201 _ w3 HL3.out)
      clear hs3 hb
      go_wp2_with fail
      refine HF.out.mono ?_
      rintro e w4 ⟨rfl, hl, hc⟩
      go_wp2
      show _ ∧ _
      exact ⟨rfl, rfl, _, hl, HC3.out.trans hc⟩
end Go.Proofs.Ytlnlnpofdgnoeaa.Vc
