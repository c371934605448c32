/- What an eye throws where the next vector may not be; the next stamp. -/
import Derived.Test.YtfjmcklmoebnaaaDoorVcSee
namespace Go.Proofs.YtfjmcklmoebnaaaDoor.Vc
open Go.RowKit Go.Proofs.YtfjmcklmoebnaaaDoor.Oct

set_option maxRecDepth 100000 in
set_option maxHeartbeats 4000000 in
theorem see_bad (q s : Nat) (r : ByteArray) (hbad : r.size < 48 ∨ goodB (seeV r) = false) (hqs : q ≠ s) (w : World) (h : Looks w q s r) :
    Calls Tryd.prog 69 #[.pointer (some ⟨q, 0, none⟩)] w (Threw s w) := by
  have H := Lib.hid (Looks.past (Looks.past h (.cells (vecC nil8) 25)) (.cells (vecC nil8) 25))
  have hz := Oct.Has.fresh (w.alloc (.cells (vecC nil8) 25)) 25 (vecC nil8)
  rw [World.size_alloc] at hz
  have HZ := Lib.hid hz
  have HC := Lib.hid (((Chg.refl (· = s) w).alloc (.cells (vecC nil8) 25)).alloc (.cells (vecC nil8) 25))
  have hs1 := Oct.Has.bound h.sight
  have hq1 := Oct.Has.bound h.eye
  have HE := Lib.hid (show r.extract 0 r.size = r by simp)
  have HBAD := Lib.hid hbad
  clear h hz hbad
  go_enter Tryd.func69, Tryd.ntmps69
  go_wp2
  go_loopw [5] (fun i wr => ∃ (k : Nat) (z : Nat → Int), k ≤ 8 ∧ 6 * k ≤ r.size ∧ i = .int .i64 k ∧ Hid (Thru (seeV r) nil8 k z) ∧ Hid (Looks wr q s (r.extract (6 * k) r.size)) ∧ Hid (Oct.Has wr (w.heap.size + 1) 25 (vecC z)) ∧ Hid (Chg (· = s) w wr)) (fun i _ => 8 - (intOf i).toNat)
  case atStart => exact ⟨0, nil8, by omega, by omega, rfl, Lib.hid (Thru.zero _ _), Lib.hid (by rw [Nat.mul_zero, HE.out]; exact H.out), HZ, HC⟩
  case round =>
    obtain ⟨k, z, hk, h6, rfl, hT, hL, hZ, hC⟩ := hrel
    clear H HZ HC
    by_cases hlt : k < 8
    · have k1 : (k : Int) < 8 := by omega
      have hz6 := ext_size r (6 * k) h6
      by_cases hn : 6 * k + 6 ≤ r.size
      · have HN := Lib.hid (num6 q s (r.extract (6 * k) r.size) (by rw [hz6]; omega) hqs wr hL.out)
        have HV := Lib.hid (show ((numL ((r.extract (6 * k) r.size).data.toList.take 6) : Nat) : Int) = seeV r k by rw [ext_list]; rfl)
        have HX := Lib.hid (show (r.extract (6 * k) r.size).extract 6 (r.extract (6 * k) r.size).size = r.extract (6 * (k + 1)) r.size by rw [ext_ext _ _ _ (by omega)]; rfl)
        clear hz6
        go_wp2_with fail
        refine HN.out.mono ?_
        rintro e w2 ⟨rfl, hl, hc⟩
        rw [HX.out] at hl
        rw [HV.out]
        have hz2 := Oct.Has.over hZ.out hc (show w.heap.size + 1 ≠ s by omega)
        have cz := has_vec_at hz2 hlt
        have fz := Oct.Has.free hz2 k
        have HL2 := Lib.hid (Looks.keep hl (p := ⟨w.heap.size + 1, k, none⟩) (show q ≠ w.heap.size + 1 by omega) (show s ≠ w.heap.size + 1 by omega) (.int .i64 (seeV r k)))
        have HZ2 := Lib.hid (Has.putV hz2 hlt (seeV r k))
        have HC2 := Lib.hid ((hC.out.trans hc).setCell (p := ⟨w.heap.size + 1, k, none⟩) (.inr (by show w.heap.size ≤ w.heap.size + 1; omega)) (.int .i64 (seeV r k)))
        clear hz2 hl hc
        go_wp2
        go_roundw
        case rel => exact ⟨k + 1, upd z k (seeV r k), by omega, by omega, by go_num, Lib.hid (hT.out.step rfl), HL2, HZ2, HC2⟩
        case measure => simp [intOf]; omega
      · have HN := Lib.hid (num_short q s 6 (r.extract (6 * k) r.size) (by omega) (by omega) (by rw [hz6]; omega) wr hL.out)
        clear hz6 hn
        go_wp2_with fail
        refine HN.out.mono ?_
        rintro e w2 ⟨rfl, hl, hc⟩
        go_wp2
        show _ ∧ _
        exact ⟨rfl, rfl, _, hl, hC.out.trans hc⟩
    · obtain rfl : k = 8 := by omega
      have hg : goodB (seeV r) = false := HBAD.out.resolve_left (by omega)
      rw [hT.out.done] at hZ
      have HG := Lib.hid (show ∀ W : World, Calls Tryd.prog 56 #[.agg (vecC (seeV r))] W fun e w' => e = .returned (.bool false) ∧ Below W.heap.size W w' from fun W => by have h := good_any (seeV r) W; rw [hg] at h; exact h)
      obtain ⟨J, hJ⟩ : ∃ J : Nat → Int, J = seeV r := ⟨_, rfl⟩
      rw [← hJ] at hZ HG
      clear hJ hT hg HBAD
      obtain ⟨c0, c1, c2, c3, c4, c5, c6, c7⟩ := has_vec hZ.out
      go_wp2_with fail
      refine (HG.out _).mono ?_
      rintro e w2 ⟨rfl, hb⟩
      clear c0 c1 c2 c3 c4 c5 c6 c7
      have hl2 := Looks.below hL.out hb
      have hc2 := hC.out.trans (Chg.of_below hb (· = s))
      have HF := Lib.hid (fail_ok q s 201 _ w2 hl2)
      have HC2 := Lib.hid hc2
      clear hl2 hc2 hb
      go_wp2_with fail
      refine HF.out.mono ?_
      rintro e w3 ⟨rfl, hl, hc⟩
      go_wp2
      show _ ∧ _
      exact ⟨rfl, rfl, _, hl, HC2.out.trans hc⟩

/-- The time and the replica of the next bytes. -/
def seeT (r : ByteArray) : Int := (numL (r.data.toList.take 6) : Nat)
def seeW (r : ByteArray) : Int := (numL ((r.data.toList.drop 6).take 1) : Nat)
/-- May they be a stamp's? -/
def stampB (t w : Int) : Bool := isB t w || (t == 0 && w == 0)
theorem looks_put2 {w : World} {q s g : Nat} {r : ByteArray} (h : Looks w q s r) (hq : q ≠ g) (hs : s ≠ g) (a b : Int) : Looks ((w.setCell ⟨g, 0, none⟩ (.int .i64 a)).setCell ⟨g, 1, none⟩ (.int .i64 b)) q s r :=
  Looks.keep (Looks.keep h (p := ⟨g, 0, none⟩) hq hs _) (p := ⟨g, 1, none⟩) hq hs _
theorem chg_put2 {a w : World} {g : Nat} {S : Nat → Prop} (h : Chg S a w) (hg : a.heap.size ≤ g) (x y : Int) : Chg S a ((w.setCell ⟨g, 0, none⟩ (.int .i64 x)).setCell ⟨g, 1, none⟩ (.int .i64 y)) :=
  (h.setCell (p := ⟨g, 0, none⟩) (.inr hg) _).setCell (p := ⟨g, 1, none⟩) (.inr hg) _


end Go.Proofs.YtfjmcklmoebnaaaDoor.Vc
