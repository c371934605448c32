/- What the document's eye sees of vectors. -/
import Derived.Test.YtlnlnpofdgnoeaaVcRsee
import Derived.Test.YtlnlnpofdgnoeaaVcF
namespace Go.Proofs.Ytlnlnpofdgnoeaa.Vc
open Go.RowKit Go.Proofs.Ytlnlnpofdgnoeaa.Oct

theorem build_vec0 (w : World) : (Instr.build 25 #[]).run Try.prog w = .ok (.agg #[.int .i64 0, .int .i64 0, .int .i64 0, .int .i64 0, .int .i64 0, .int .i64 0, .int .i64 0, .int .i64 0]) w := run_build w _ _ _ (by kernel_rfl)
theorem good_nil : goodB nil8 = true := by decide
set_option maxRecDepth 100000 in
set_option maxHeartbeats 4000000 in
theorem rsee_ok (x a : Nat) (B : ByteArray) (hB : B.size ≤ 8192) (hn : a + 48 ≤ B.size) (hg : goodB (seeAt B a) = true) (w : World) (h : Rye w x B a false 0) :
    Calls Try.prog 40 #[.pointer (some ⟨x, 0, none⟩)] w fun e w' => e = .returned (.agg (vecC (seeAt B a))) ∧ Rye w' x B (a + 48) false 0 ∧ Chg (· = x) w w' := by
  have H := Lib.hid (Rye.past (Rye.past h (.cells (vecC nil8) 25)) (.cells (vecC nil8) 25))
  have HR := Lib.hid (Oct.Has.past (Oct.Has.fresh w 25 (vecC nil8)) (.cells (vecC nil8) 25))
  have hz := Oct.Has.fresh (w.alloc (.cells (vecC nil8) 25)) 25 (vecC nil8)
  rw [World.size_alloc] at hz
  have HZ := Lib.hid hz
  have HC := Lib.hid (((Chg.refl (· = x) w).alloc (.cells (vecC nil8) 25)).alloc (.cells (vecC nil8) 25))
  have hx1 := Oct.Has.bound h
  have HG := Lib.hid (show ∀ W : World, Calls Try.prog 27 #[.agg (vecC (seeAt B a))] W fun e w' => e = .returned (.bool true) ∧ Below W.heap.size W w' from fun W => by have h := rgood_any (seeAt B a) W; rw [hg] at h; exact h)
  have b0 := fun W => build_vec0 W
  clear h hz hg
  go_enter Try.func40, Try.ntmps40
  go_wp2
  go_loopw [6] (fun i wr => ∃ (k : Nat) (z : Nat → Int), k ≤ 8 ∧ i = .int .i64 k ∧ Hid (Thru (seeAt B a) nil8 k z) ∧ Hid (Rye wr x B (a + 6 * k) false 0) ∧ Hid (Oct.Has wr w.heap.size 25 (vecC nil8)) ∧ Hid (Oct.Has wr (w.heap.size + 1) 25 (vecC z)) ∧ Hid (Chg (· = x) w wr)) (fun i _ => 8 - (intOf i).toNat)
  case atStart => exact ⟨0, nil8, by omega, rfl, Lib.hid (Thru.zero _ _), H, HR, HZ, HC⟩
  case round =>
    obtain ⟨k, z, hk, rfl, hT, hL, hR, hZ, hC⟩ := hrel
    clear H HR HZ HC b0
    by_cases hlt : k < 8
    · have k1 : (k : Int) < 8 := by omega
      have HN := Lib.hid (rnum_ok x (a + 6 * k) 6 B hB (by omega) (by omega) (by omega) wr hL.out)
      have HV := Lib.hid (show ((numL ((B.data.toList.drop (a + 6 * k)).take 6) : Nat) : Int) = seeAt B a k from rfl)
      go_wp2_with fail
      refine HN.out.mono ?_
      rintro e w2 ⟨rfl, hl, hc⟩
      rw [HV.out]
      have hz2 := Oct.Has.over hZ.out hc (show w.heap.size + 1 ≠ x by omega)
      have hr2 := Oct.Has.over hR.out hc (show w.heap.size ≠ x by omega)
      have cz := has_vec_at hz2 hlt
      have fz := Oct.Has.free hz2 k
      have HL2 := Lib.hid (Rye.keep hl (p := ⟨w.heap.size + 1, k, none⟩) (show x ≠ w.heap.size + 1 by omega) (.int .i64 (seeAt B a k)))
      have HZ2 := Lib.hid (Has.putV hz2 hlt (seeAt B a k))
      have HR2 := Lib.hid (Oct.Has.keep hr2 (p := ⟨w.heap.size + 1, k, none⟩) (show w.heap.size ≠ w.heap.size + 1 by omega) (.int .i64 (seeAt B a k)))
      have HC2 := Lib.hid ((hC.out.trans hc).setCell (p := ⟨w.heap.size + 1, k, none⟩) (.inr (by show w.heap.size ≤ w.heap.size + 1; omega)) (.int .i64 (seeAt B a k)))
      clear hz2 hr2 hl hc
      go_wp2
      go_roundw
      case rel => exact ⟨k + 1, upd z k (seeAt B a k), by omega, by go_num, Lib.hid (hT.out.step rfl), HL2, HR2, HZ2, HC2⟩
      case measure => simp [intOf]; omega
    · obtain rfl : k = 8 := by omega
      rw [hT.out.done] at hZ
      obtain ⟨J, hJ⟩ : ∃ J : Nat → Int, J = seeAt B a := ⟨_, rfl⟩
      rw [← hJ] at hZ HG
      have HJ := Lib.hid hJ
      clear hJ hT
      obtain ⟨c0, c1, c2, c3, c4, c5, c6, c7⟩ := has_vec hZ.out
      go_wp2_with fail
      refine (HG.out _).mono ?_
      rintro e w2 ⟨rfl, hb⟩
      clear c0 c1 c2 c3 c4 c5 c6 c7
      have hz2 := Oct.Has.over hZ.out (Chg.of_below hb (fun _ => False)) (fun k => k)
      have hr2 := Oct.Has.over hR.out (Chg.of_below hb (fun _ => False)) (fun k => k)
      have hl2 := Rye.below hL.out hb
      have hc2 := hC.out.trans (Chg.of_below hb (· = x))
      obtain ⟨c0, c1, c2, c3, c4, c5, c6, c7⟩ := has_vec hz2
      obtain ⟨r0, r1, r2, r3, r4, r5, r6, r7⟩ := has_vec hr2
      have ff := fun i => Oct.Has.free hr2 i
      obtain ⟨d0, d1, d2, d3, d4, d5, d6, d7⟩ := cells_put8 hr2 J
      have HQ := Lib.hid (rye_put8 hl2 (g := w.heap.size) (by omega) J)
      have HQ2 := Lib.hid (chg_put8 hc2 (g := w.heap.size) (Nat.le_refl _) J)
      clear hz2 hr2 hl2 hc2 hb
      go_wp2
      refine bodyPost_ret (v := .agg (vecC J)) (by simp [results, Try.results40, go_sem, d0, d1, d2, d3, d4, d5, d6, d7, vecC]) rfl ⟨by rw [HJ.out], HQ.out, HQ2.out⟩
set_option maxRecDepth 100000 in
set_option maxHeartbeats 4000000 in
theorem rsee_done (x a : Nat) (B : ByteArray) (w : World) (h : Rye w x B a true 201) :
    Calls Try.prog 40 #[.pointer (some ⟨x, 0, none⟩)] w (VecBad x B w) := by
  have H := Lib.hid (Rye.past (Rye.past h (.cells (vecC nil8) 25)) (.cells (vecC nil8) 25))
  have HR := Lib.hid (Oct.Has.past (Oct.Has.fresh w 25 (vecC nil8)) (.cells (vecC nil8) 25))
  have hz := Oct.Has.fresh (w.alloc (.cells (vecC nil8) 25)) 25 (vecC nil8)
  rw [World.size_alloc] at hz
  have HZ := Lib.hid hz
  have HC := Lib.hid (((Chg.refl (· = x) w).alloc (.cells (vecC nil8) 25)).alloc (.cells (vecC nil8) 25))
  have hx1 := Oct.Has.bound h
  have HG := Lib.hid (show ∀ W : World, Calls Try.prog 27 #[.agg (vecC nil8)] W fun e w' => e = .returned (.bool true) ∧ Below W.heap.size W w' from fun W => by have h := rgood_any nil8 W; rw [good_nil] at h; exact h)
  have b0 := fun W => build_vec0 W
  clear h hz
  go_enter Try.func40, Try.ntmps40
  go_wp2
  go_loopw [6] (fun i wr => ∃ (k : Nat), k ≤ 8 ∧ i = .int .i64 k ∧ Hid (Rye wr x B a true 201) ∧ Hid (Oct.Has wr w.heap.size 25 (vecC nil8)) ∧ Hid (Oct.Has wr (w.heap.size + 1) 25 (vecC nil8)) ∧ Hid (Chg (· = x) w wr)) (fun i _ => 8 - (intOf i).toNat)
  case atStart => exact ⟨0, by omega, rfl, H, HR, HZ, HC⟩
  case round =>
    obtain ⟨k, hk, rfl, hL, hR, hZ, hC⟩ := hrel
    clear H HR HZ HC b0
    by_cases hlt : k < 8
    · have k1 : (k : Int) < 8 := by omega
      have HN := Lib.hid (rnum_done x a 6 B 201 wr hL.out)
      go_wp2_with fail
      refine HN.out.mono ?_
      rintro e w2 ⟨rfl, rfl⟩
      have hz2 := hZ.out
      have cz := has_vec_at hz2 hlt
      have fz := Oct.Has.free hz2 k
      have HL2 := Lib.hid (Rye.keep hL.out (p := ⟨w.heap.size + 1, k, none⟩) (show x ≠ w.heap.size + 1 by omega) (.int .i64 0))
      have hz3 := Has.putV hz2 hlt 0
      rw [show vecC (upd nil8 k 0) = vecC nil8 from vecC_ext fun i _ => by unfold upd nil8; split <;> rfl] at hz3
      have HZ2 := Lib.hid hz3
      have HR2 := Lib.hid (Oct.Has.keep hR.out (p := ⟨w.heap.size + 1, k, none⟩) (show w.heap.size ≠ w.heap.size + 1 by omega) (.int .i64 0))
      have HC2 := Lib.hid (hC.out.setCell (p := ⟨w.heap.size + 1, k, none⟩) (.inr (by show w.heap.size ≤ w.heap.size + 1; omega)) (.int .i64 0))
      clear hz2 hz3
      go_wp2
      go_roundw
      case rel => exact ⟨k + 1, by omega, by go_num, HL2, HR2, HZ2, HC2⟩
      case measure => simp [intOf]; omega
    · obtain rfl : k = 8 := by omega
      generalize nil8 = J at *
      obtain ⟨c0, c1, c2, c3, c4, c5, c6, c7⟩ := has_vec hZ.out
      go_wp2_with fail
      refine (HG.out _).mono ?_
      rintro e w2 ⟨rfl, hb⟩
      clear c0 c1 c2 c3 c4 c5 c6 c7
      have hz2 := Oct.Has.over hZ.out (Chg.of_below hb (fun _ => False)) (fun k => k)
      have hr2 := Oct.Has.over hR.out (Chg.of_below hb (fun _ => False)) (fun k => k)
      have hl2 := Rye.below hL.out hb
      have hc2 := hC.out.trans (Chg.of_below hb (· = x))
      obtain ⟨c0, c1, c2, c3, c4, c5, c6, c7⟩ := has_vec hz2
      obtain ⟨r0, r1, r2, r3, r4, r5, r6, r7⟩ := has_vec hr2
      have ff := fun i => Oct.Has.free hr2 i
      obtain ⟨d0, d1, d2, d3, d4, d5, d6, d7⟩ := cells_put8 hr2 J
      have HQ := Lib.hid (rye_put8 hl2 (g := w.heap.size) (by omega) J)
      have HQ2 := Lib.hid (chg_put8 hc2 (g := w.heap.size) (Nat.le_refl _) J)
      clear hz2 hr2 hl2 hc2 hb
      go_wp2
      refine bodyPost_ret (v := .agg (vecC J)) (by simp [results, Try.results40, go_sem, d0, d1, d2, d3, d4, d5, d6, d7, vecC]) rfl ⟨_, _, rfl, HQ.out, HQ2.out⟩
/-- The state in the midst of a looking that will not end well. -/
def Mid (x a : Nat) (B : ByteArray) (k : Nat) (z : Nat → Int) (w : World) : Prop := (a + 6 * k ≤ B.size ∧ Thru (seeAt B a) nil8 k z ∧ Rye w x B (a + 6 * k) false 0) ∨ ∃ a', Rye w x B a' true 201
set_option maxRecDepth 100000 in
set_option maxHeartbeats 8000000 in
theorem rsee_bad (x a : Nat) (B : ByteArray) (hB : B.size ≤ 8192) (ha : a ≤ B.size) (hbad : B.size < a + 48 ∨ goodB (seeAt B a) = false) (w : World) (h : Rye w x B a false 0) :
    Calls Try.prog 40 #[.pointer (some ⟨x, 0, none⟩)] w (VecBad x B w) := by
  have H := Lib.hid (show Mid x a B 0 nil8 ((w.alloc (.cells (vecC nil8) 25)).alloc (.cells (vecC nil8) 25)) from .inl ⟨ha, Thru.zero _ _, Rye.past (Rye.past h (.cells (vecC nil8) 25)) (.cells (vecC nil8) 25)⟩)
  have HR := Lib.hid (Oct.Has.past (Oct.Has.fresh w 25 (vecC nil8)) (.cells (vecC nil8) 25))
  have hz := Oct.Has.fresh (w.alloc (.cells (vecC nil8) 25)) 25 (vecC nil8)
  rw [World.size_alloc] at hz
  have HZ := Lib.hid hz
  have HC := Lib.hid (((Chg.refl (· = x) w).alloc (.cells (vecC nil8) 25)).alloc (.cells (vecC nil8) 25))
  have hx1 := Oct.Has.bound h
  have HBAD := Lib.hid hbad
  have b0 := fun W => build_vec0 W
  clear h hz hbad
  go_enter Try.func40, Try.ntmps40
  go_wp2
  go_loopw [6] (fun i wr => ∃ (k : Nat) (z : Nat → Int), k ≤ 8 ∧ i = .int .i64 k ∧ Hid (Mid x a B k z wr) ∧ Hid (Oct.Has wr w.heap.size 25 (vecC nil8)) ∧ Hid (Oct.Has wr (w.heap.size + 1) 25 (vecC z)) ∧ Hid (Chg (· = x) w wr)) (fun i _ => 8 - (intOf i).toNat)
  case atStart => exact ⟨0, nil8, by omega, rfl, H, HR, HZ, HC⟩
  case round =>
    obtain ⟨k, z, hk, rfl, hM, hR, hZ, hC⟩ := hrel
    clear H HR HZ HC b0
    by_cases hlt : k < 8
    · have k1 : (k : Int) < 8 := by omega
      have HN : Hid (Calls Try.prog 54 #[.pointer (some ⟨x, 0, none⟩), .int .i64 6] wr fun e w' => ∃ m : Int, e = .returned (.int .i64 m) ∧ Mid x a B (k + 1) (upd z k m) w' ∧ Chg (· = x) wr w') := Lib.hid (by
        rcases hM.out with ⟨h6, hT, hL⟩ | ⟨a', hL⟩
        · by_cases hn : a + 6 * k + 6 ≤ B.size
          · refine (rnum_ok x (a + 6 * k) 6 B hB (by omega) (by omega) hn wr hL).mono ?_
            rintro e w' ⟨rfl, hl, hc⟩
            exact ⟨_, rfl, .inl ⟨by omega, hT.step rfl, hl⟩, hc⟩
          · refine (rnum_short x (a + 6 * k) 6 B hB (by omega) (by omega) h6 (by omega) wr hL).mono ?_
            rintro e w' ⟨rfl, hl, hc⟩
            exact ⟨0, rfl, .inr ⟨_, hl⟩, hc⟩
        · refine (rnum_done x a' 6 B 201 wr hL).mono ?_
          rintro e w' ⟨rfl, rfl⟩
          exact ⟨0, rfl, .inr ⟨_, hL⟩, Chg.refl _ _⟩)
      go_wp2_with fail
      refine HN.out.mono ?_
      rintro e w2 ⟨m, rfl, hm, hc⟩
      have hz2 := Oct.Has.over hZ.out hc (show w.heap.size + 1 ≠ x by omega)
      have hr2 := Oct.Has.over hR.out hc (show w.heap.size ≠ x by omega)
      have cz := has_vec_at hz2 hlt
      have fz := Oct.Has.free hz2 k
      have HM2 : Hid (Mid x a B (k + 1) (upd z k m) (w2.setCell ⟨w.heap.size + 1, k, none⟩ (.int .i64 m))) := Lib.hid (by
        rcases hm with ⟨h6, hT, hL⟩ | ⟨a', hL⟩
        · exact .inl ⟨h6, hT, Rye.keep hL (p := ⟨w.heap.size + 1, k, none⟩) (show x ≠ w.heap.size + 1 by omega) _⟩
        · exact .inr ⟨a', Rye.keep hL (p := ⟨w.heap.size + 1, k, none⟩) (show x ≠ w.heap.size + 1 by omega) _⟩)
      have HZ2 := Lib.hid (Has.putV hz2 hlt m)
      have HR2 := Lib.hid (Oct.Has.keep hr2 (p := ⟨w.heap.size + 1, k, none⟩) (show w.heap.size ≠ w.heap.size + 1 by omega) (.int .i64 m))
      have HC2 := Lib.hid ((hC.out.trans hc).setCell (p := ⟨w.heap.size + 1, k, none⟩) (.inr (by show w.heap.size ≤ w.heap.size + 1; omega)) (.int .i64 m))
      clear hz2 hr2 hm hc HN
      go_wp2
      go_roundw
      case rel => exact ⟨k + 1, upd z k m, by omega, by go_num, HM2, HR2, HZ2, HC2⟩
      case measure => simp [intOf]; omega
    · obtain rfl : k = 8 := by omega
      have HG := Lib.hid (fun W => rgood_any z W)
      have hM8 : (goodB z = false ∧ ∃ a', Rye wr x B a' false 0) ∨ ∃ a', Rye wr x B a' true 201 := by
        rcases hM.out with ⟨h6, hT, hL⟩ | ⟨a', hL⟩
        · refine .inl ⟨?_, _, hL⟩
          have e : goodB z = goodB (seeAt B a) := by
            rw [Bool.eq_iff_iff, goodB_iff, goodB_iff]
            constructor
            · intro h i hi
              have := h i hi
              rw [hT i, if_pos hi] at this
              exact this
            · intro h i hi
              rw [hT i, if_pos hi]
              exact h i hi
          rw [e]
          exact HBAD.out.resolve_left (by omega)
        · exact .inr ⟨a', hL⟩
      obtain ⟨c0, c1, c2, c3, c4, c5, c6, c7⟩ := has_vec hZ.out
      cases hgz : goodB z with
      | true =>
        rw [hgz] at HG
        obtain ⟨a', hL⟩ := hM8.resolve_left (fun h => by rw [hgz] at h; exact absurd h.1 (by decide))
        clear hM8 hgz
        go_wp2_with fail
        refine (HG.out _).mono ?_
        rintro e w2 ⟨rfl, hb⟩
        clear c0 c1 c2 c3 c4 c5 c6 c7
        have hz2 := Oct.Has.over hZ.out (Chg.of_below hb (fun _ => False)) (fun k => k)
        have hr2 := Oct.Has.over hR.out (Chg.of_below hb (fun _ => False)) (fun k => k)
        have hl2 := Rye.below hL hb
        have hc2 := hC.out.trans (Chg.of_below hb (· = x))
        obtain ⟨c0, c1, c2, c3, c4, c5, c6, c7⟩ := has_vec hz2
        obtain ⟨r0, r1, r2, r3, r4, r5, r6, r7⟩ := has_vec hr2
        have ff := fun i => Oct.Has.free hr2 i
        obtain ⟨d0, d1, d2, d3, d4, d5, d6, d7⟩ := cells_put8 hr2 z
        have HQ := Lib.hid (rye_put8 hl2 (g := w.heap.size) (by omega) z)
        have HQ2 := Lib.hid (chg_put8 hc2 (g := w.heap.size) (Nat.le_refl _) z)
        clear hz2 hr2 hl2 hc2 hb hL
        go_wp2
        refine bodyPost_ret (v := .agg (vecC z)) (by simp [results, Try.results40, go_sem, d0, d1, d2, d3, d4, d5, d6, d7, vecC]) rfl ⟨_, _, rfl, HQ.out, HQ2.out⟩
      | false =>
        rw [hgz] at HG
        clear hgz
        have HF : Hid (∀ w2 : World, Below wr.heap.size wr w2 → Calls Try.prog 55 #[.pointer (some ⟨x, 0, none⟩), .int .i64 201] w2 fun e w' => e = .returned (.tuple #[]) ∧ (∃ a', Rye w' x B a' true 201) ∧ Chg (· = x) w2 w') := Lib.hid (by
          intro w2 hb
          rcases hM8 with ⟨_, a', hL⟩ | ⟨a', hL⟩
          · refine (rfail_any x B a' 201 w2 (Rye.below hL hb)).mono ?_
            rintro e w' ⟨rfl, hl, hc⟩
            exact ⟨rfl, ⟨_, hl⟩, hc⟩
          · refine (rfail_done x B a' 201 201 w2 (Rye.below hL hb)).mono ?_
            rintro e w' ⟨rfl, rfl⟩
            exact ⟨rfl, ⟨_, Rye.below hL hb⟩, Chg.refl _ _⟩)
        clear hM8
        go_wp2_with fail
        refine (HG.out _).mono ?_
        rintro e w2 ⟨rfl, hb⟩
        clear c0 c1 c2 c3 c4 c5 c6 c7
        have HZ3 := Lib.hid (Oct.Has.over hZ.out (Chg.of_below hb (fun _ => False)) (fun k => k))
        have HR3 := Lib.hid (Oct.Has.over hR.out (Chg.of_below hb (fun _ => False)) (fun k => k))
        have HC3 := Lib.hid (hC.out.trans (Chg.of_below hb (· = x)))
        have HF2 := Lib.hid (HF.out w2 hb)
        clear hb HF
        go_wp2_with fail
        refine HF2.out.mono ?_
        rintro e w3 ⟨rfl, ⟨a', hl2⟩, hc3⟩
        have hz2 := Oct.Has.over HZ3.out hc3 (show w.heap.size + 1 ≠ x by omega)
        have hr2 := Oct.Has.over HR3.out hc3 (show w.heap.size ≠ x by omega)
        have hc2 := HC3.out.trans hc3
        obtain ⟨c0, c1, c2, c3, c4, c5, c6, c7⟩ := has_vec hz2
        obtain ⟨r0, r1, r2, r3, r4, r5, r6, r7⟩ := has_vec hr2
        have ff := fun i => Oct.Has.free hr2 i
        obtain ⟨d0, d1, d2, d3, d4, d5, d6, d7⟩ := cells_put8 hr2 z
        have HQ := Lib.hid (rye_put8 hl2 (g := w.heap.size) (by omega) z)
        have HQ2 := Lib.hid (chg_put8 hc2 (g := w.heap.size) (Nat.le_refl _) z)
        clear hz2 hr2 hl2 hc2 hc3
        go_wp2
        refine bodyPost_ret (v := .agg (vecC z)) (by simp [results, Try.results40, go_sem, d0, d1, d2, d3, d4, d5, d6, d7, vecC]) rfl ⟨_, _, rfl, HQ.out, HQ2.out⟩
end Go.Proofs.Ytlnlnpofdgnoeaa.Vc
