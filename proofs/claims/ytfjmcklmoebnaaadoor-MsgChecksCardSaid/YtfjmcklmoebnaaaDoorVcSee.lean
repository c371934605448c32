/- What an eye sees of stamps and vectors: what is answered, and what is thrown. -/
import Derived.Test.YtfjmcklmoebnaaaDoorOctCatch
import Derived.Test.YtfjmcklmoebnaaaDoorVcH
namespace Go.Proofs.YtfjmcklmoebnaaaDoor.Vc
open Go.RowKit Go.Proofs.YtfjmcklmoebnaaaDoor.Oct
set_option linter.unusedVariables false

/-- The numbers of the next so many bytes. -/
def seeV (r : ByteArray) : Nat → Int := fun i => (numL ((r.data.toList.drop (6 * i)).take 6) : Nat)
theorem ext_list (r : ByteArray) (n : Nat) : (r.extract n r.size).data.toList = r.data.toList.drop n := by
  rw [ByteArray.data_extract]
  simp only [Array.toList_extract, List.extract]
  rw [List.take_of_length_le]
  rw [List.length_drop, Array.length_toList]
  exact Nat.le_refl _
theorem ext_ext (r : ByteArray) (a b : Nat) (h : a + b ≤ r.size) : (r.extract a r.size).extract b (r.extract a r.size).size = r.extract (a + b) r.size := by
  apply ByteArray.ext
  apply Array.ext'
  rw [ext_list, ext_list, ext_list, List.drop_drop]
theorem ext_size (r : ByteArray) (a : Nat) (h : a ≤ r.size) : (r.extract a r.size).size = r.size - a := by simp
theorem num6 (q s : Nat) (r : ByteArray) (hn : 6 ≤ r.size) (hqs : q ≠ s) (w : World) (h : Looks w q s r) :
    Calls Tryd.prog 68 #[.pointer (some ⟨q, 0, none⟩), .int .i64 6] w fun e w' => e = .returned (.int .i64 (numL (r.data.toList.take 6) : Nat)) ∧ Looks w' q s (r.extract 6 r.size) ∧ Chg (· = s) w w' := by
  have h1 := numL_lt (r.data.toList.take 6)
  rw [List.length_take, Nat.min_eq_left (by rw [Array.length_toList]; exact hn)] at h1
  exact num_ok q s 6 r (by omega) (by omega) hn (by omega) hqs w h
theorem num1 (q s : Nat) (r : ByteArray) (hn : 1 ≤ r.size) (hqs : q ≠ s) (w : World) (h : Looks w q s r) :
    Calls Tryd.prog 68 #[.pointer (some ⟨q, 0, none⟩), .int .i64 1] w fun e w' => e = .returned (.int .i64 (numL (r.data.toList.take 1) : Nat)) ∧ Looks w' q s (r.extract 1 r.size) ∧ Chg (· = s) w w' := by
  have h1 := numL_lt (r.data.toList.take 1)
  rw [List.length_take, Nat.min_eq_left (by rw [Array.length_toList]; exact hn)] at h1
  exact num_ok q s 1 r (by omega) (by omega) hn (by omega) hqs w h
theorem Looks.below {w w' : World} {q s : Nat} {r : ByteArray} (h : Looks w q s r) (hb : Below w.heap.size w w') : Looks w' q s r :=
  ⟨Oct.Has.over h.eye (Chg.of_below hb (fun _ => False)) (fun k => k), Oct.Has.over h.sight (Chg.of_below hb (fun _ => False)) (fun k => k)⟩
theorem Looks.past {w : World} {q s : Nat} {r : ByteArray} (h : Looks w q s r) (o : Obj) : Looks (w.alloc o) q s r := ⟨Oct.Has.past h.eye o, Oct.Has.past h.sight o⟩
theorem Looks.keep {w : World} {q s : Nat} {r : ByteArray} (h : Looks w q s r) {p : Addr} (hq : q ≠ p.block) (hs : s ≠ p.block) (u : Value) : Looks (w.setCell p u) q s r := ⟨Oct.Has.keep h.eye hq u, Oct.Has.keep h.sight hs u⟩
theorem below_over {B : Nat} {a b c : World} {S : Nat → Prop} (h : Below B a b) (hB : B ≤ b.heap.size) (k : Chg S b c) (hs : ∀ i, i < B → ¬ S i) : Below B a c := h.trans (k.below hB hs)

theorem looks_put8 {w : World} {q s g : Nat} {r : ByteArray} (h : Looks w q s r) (hq : q ≠ g) (hs : s ≠ g) (x : Nat → Int) : Looks (((((((((w).setCell ⟨g, 0, none⟩ (.int .i64 (x 0))).setCell ⟨g, 1, none⟩ (.int .i64 (x 1))).setCell ⟨g, 2, none⟩ (.int .i64 (x 2))).setCell ⟨g, 3, none⟩ (.int .i64 (x 3))).setCell ⟨g, 4, none⟩ (.int .i64 (x 4))).setCell ⟨g, 5, none⟩ (.int .i64 (x 5))).setCell ⟨g, 6, none⟩ (.int .i64 (x 6))).setCell ⟨g, 7, none⟩ (.int .i64 (x 7))) q s r :=
  (Looks.keep (Looks.keep (Looks.keep (Looks.keep (Looks.keep (Looks.keep (Looks.keep (Looks.keep h (p := ⟨g, 0, none⟩) hq hs _) (p := ⟨g, 1, none⟩) hq hs _) (p := ⟨g, 2, none⟩) hq hs _) (p := ⟨g, 3, none⟩) hq hs _) (p := ⟨g, 4, none⟩) hq hs _) (p := ⟨g, 5, none⟩) hq hs _) (p := ⟨g, 6, none⟩) hq hs _) (p := ⟨g, 7, none⟩) hq hs _)
theorem chg_put8 {a w : World} {g : Nat} {S : Nat → Prop} (h : Chg S a w) (hg : a.heap.size ≤ g) (x : Nat → Int) : Chg S a (((((((((w).setCell ⟨g, 0, none⟩ (.int .i64 (x 0))).setCell ⟨g, 1, none⟩ (.int .i64 (x 1))).setCell ⟨g, 2, none⟩ (.int .i64 (x 2))).setCell ⟨g, 3, none⟩ (.int .i64 (x 3))).setCell ⟨g, 4, none⟩ (.int .i64 (x 4))).setCell ⟨g, 5, none⟩ (.int .i64 (x 5))).setCell ⟨g, 6, none⟩ (.int .i64 (x 6))).setCell ⟨g, 7, none⟩ (.int .i64 (x 7))) :=
  (Chg.setCell (Chg.setCell (Chg.setCell (Chg.setCell (Chg.setCell (Chg.setCell (Chg.setCell (Chg.setCell h (p := ⟨g, 0, none⟩) (.inr hg) _) (p := ⟨g, 1, none⟩) (.inr hg) _) (p := ⟨g, 2, none⟩) (.inr hg) _) (p := ⟨g, 3, none⟩) (.inr hg) _) (p := ⟨g, 4, none⟩) (.inr hg) _) (p := ⟨g, 5, none⟩) (.inr hg) _) (p := ⟨g, 6, none⟩) (.inr hg) _) (p := ⟨g, 7, none⟩) (.inr hg) _)
/-- A throw of the looking's own, with the form's error. -/
def Threw (s : Nat) (w : World) (e : Ending) (w' : World) : Prop := e = .panicked (own s) ∧ ∃ r, Sight w' s r true 201 ∧ Chg (· = s) w w'

set_option maxRecDepth 100000 in
set_option maxHeartbeats 4000000 in
theorem see_ok (q s : Nat) (r : ByteArray) (hn : 48 ≤ r.size) (hg : goodB (seeV r) = true) (hqs : q ≠ s) (w : World) (h : Looks w q s r) :
    Calls Tryd.prog 69 #[.pointer (some ⟨q, 0, none⟩)] w fun e w' => e = .returned (.agg (vecC (seeV r))) ∧ Looks w' q s (r.extract 48 r.size) ∧ Chg (· = s) w w' := by
  have H := Lib.hid (Looks.past (Looks.past h (.cells (vecC nil8) 25)) (.cells (vecC nil8) 25))
  have HR := Lib.hid (Oct.Has.past (Oct.Has.fresh w 25 (vecC nil8)) (.cells (vecC nil8) 25))
  have hz := Oct.Has.fresh (w.alloc (.cells (vecC nil8) 25)) 25 (vecC nil8)
  rw [World.size_alloc] at hz
  have HZ := Lib.hid hz
  have HC := Lib.hid (((Chg.refl (· = s) w).alloc (.cells (vecC nil8) 25)).alloc (.cells (vecC nil8) 25))
  have hs1 := Oct.Has.bound h.sight
  have hq1 := Oct.Has.bound h.eye
  have HG := Lib.hid (show ∀ W : World, Calls Tryd.prog 56 #[.agg (vecC (seeV r))] W fun e w' => e = .returned (.bool true) ∧ Below W.heap.size W w' from fun W => by have h := good_any (seeV r) W; rw [hg] at h; exact h)
  have HE := Lib.hid (show r.extract 0 r.size = r by simp)
  clear h hz hg
  go_enter Tryd.func69, Tryd.ntmps69
  go_wp2
  go_loopw [5] (fun i wr => ∃ (k : Nat) (z : Nat → Int), k ≤ 8 ∧ i = .int .i64 k ∧ Hid (Thru (seeV r) nil8 k z) ∧ Hid (Looks wr q s (r.extract (6 * k) r.size)) ∧ Hid (Oct.Has wr w.heap.size 25 (vecC nil8)) ∧ Hid (Oct.Has wr (w.heap.size + 1) 25 (vecC z)) ∧ Hid (Chg (· = s) w wr)) (fun i _ => 8 - (intOf i).toNat)
  case atStart => exact ⟨0, nil8, by omega, rfl, Lib.hid (Thru.zero _ _), Lib.hid (by rw [Nat.mul_zero, HE.out]; exact H.out), HR, HZ, HC⟩
  case round =>
    obtain ⟨k, z, hk, rfl, hT, hL, hR, hZ, hC⟩ := hrel
    clear H HR HZ HC
    by_cases hlt : k < 8
    · have k1 : (k : Int) < 8 := by omega
      have HN := Lib.hid (num6 q s (r.extract (6 * k) r.size) (by rw [ext_size _ _ (by omega)]; omega) hqs wr hL.out)
      have HV := Lib.hid (show ((numL ((r.extract (6 * k) r.size).data.toList.take 6) : Nat) : Int) = seeV r k by rw [ext_list]; rfl)
      have HX := Lib.hid (show (r.extract (6 * k) r.size).extract 6 (r.extract (6 * k) r.size).size = r.extract (6 * (k + 1)) r.size by rw [ext_ext _ _ _ (by omega)]; rfl)
      go_wp2_with fail
      refine HN.out.mono ?_
      rintro e w2 ⟨rfl, hl, hc⟩
      rw [HX.out] at hl
      rw [HV.out]
      have hz2 := Oct.Has.over hZ.out hc (show w.heap.size + 1 ≠ s by omega)
      have hr2 := Oct.Has.over hR.out hc (show w.heap.size ≠ s by omega)
      have cz := has_vec_at hz2 hlt
      have fz := Oct.Has.free hz2 k
      have HL2 := Lib.hid (Looks.keep hl (p := ⟨w.heap.size + 1, k, none⟩) (show q ≠ w.heap.size + 1 by omega) (show s ≠ w.heap.size + 1 by omega) (.int .i64 (seeV r k)))
      have HZ2 := Lib.hid (Has.putV hz2 hlt (seeV r k))
      have HR2 := Lib.hid (Oct.Has.keep hr2 (p := ⟨w.heap.size + 1, k, none⟩) (show w.heap.size ≠ w.heap.size + 1 by omega) (.int .i64 (seeV r k)))
      have HC2 := Lib.hid ((hC.out.trans hc).setCell (p := ⟨w.heap.size + 1, k, none⟩) (.inr (by show w.heap.size ≤ w.heap.size + 1; omega)) (.int .i64 (seeV r k)))
      clear hz2 hr2 hl hc
      go_wp2
      go_roundw
      case rel => exact ⟨k + 1, upd z k (seeV r k), by omega, by go_num, Lib.hid (hT.out.step rfl), HL2, HR2, HZ2, HC2⟩
      case measure => simp [intOf]; omega
    · obtain rfl : k = 8 := by omega
      rw [hT.out.done] at hZ
      obtain ⟨J, hJ⟩ : ∃ J : Nat → Int, J = seeV r := ⟨_, rfl⟩
      rw [← hJ] at hZ HG
      have HJ := Lib.hid hJ
      clear hJ hT
      obtain ⟨c0, c1, c2, c3, c4, c5, c6, c7⟩ := has_vec hZ.out
      go_wp2_with fail
      refine (HG.out _).mono ?_
      rintro e w2 ⟨rfl, hb⟩
      clear c0 c1 c2 c3 c4 c5 c6 c7
      have hz2 := Oct.Has.over hZ.out (Chg.of_below hb (fun _ => False)) (fun k => k)
      have hr2 := Oct.Has.over hR.out (Chg.of_below hb (fun _ => False)) (fun k => k)
      have hl2 := Looks.below hL.out hb
      have hc2 := hC.out.trans (Chg.of_below hb (· = s))
      obtain ⟨c0, c1, c2, c3, c4, c5, c6, c7⟩ := has_vec hz2
      obtain ⟨r0, r1, r2, r3, r4, r5, r6, r7⟩ := has_vec hr2
      have ff := fun i => Oct.Has.free hr2 i
      obtain ⟨d0, d1, d2, d3, d4, d5, d6, d7⟩ := cells_put8 hr2 J
      have hw1 : s ≠ w.heap.size := by omega
      have hw2 : q ≠ w.heap.size := by omega
      have HQ := Lib.hid (looks_put8 hl2 hw2 hw1 J)
      have HQ2 := Lib.hid (chg_put8 hc2 (g := w.heap.size) (Nat.le_refl _) J)
      clear hz2 hr2 hl2 hc2 hb hw1 hw2 hs1 hq1
      go_wp2
      refine bodyPost_ret (v := .agg (vecC J)) (by simp [results, Tryd.results69, go_sem, d0, d1, d2, d3, d4, d5, d6, d7, vecC]) rfl ⟨by rw [HJ.out], HQ.out, HQ2.out⟩
end Go.Proofs.YtfjmcklmoebnaaaDoor.Vc
