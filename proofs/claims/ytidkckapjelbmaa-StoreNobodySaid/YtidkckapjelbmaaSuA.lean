/- The package's example holds. -/
import Derived.Test.YtidkckapjelbmaaStX
namespace Go.Proofs.Ytidkckapjelbmaa.Sto
open Go.RowKit
open Oct (Has Chg)
open Rws
open Mem (IMap)

theorem a_nd2 : aS2.nodes 3 = some ⟨[2], 2, 0, 0⟩ := by rw [a_nodes2]; rfl
theorem a_nd3 : aS3.nodes 3 = some ⟨[2], 2, 0, 1⟩ := by
  show heldN aS2.nodes 3 1 3 = _
  unfold heldN
  rw [if_pos rfl, a_nd2]
  rfl
theorem a_down3 : Down aS3.nodes := by
  show Down (heldN aS2.nodes 3 1)
  rw [a_nodes2]
  exact heldN_down two_down 3 1
theorem a_low3 : Low aS3 := by
  intro z n hz
  have hz : heldN twoN 3 1 z = some n := by rw [← a_nodes2]; exact hz
  unfold heldN at hz
  split at hz
  · cases hn : twoN z with
    | none => rw [hn] at hz; cases hz
    | some m =>
      rw [hn] at hz
      injection hz with hz
      subst hz
      exact two_low a_nodes2 z m (by rw [a_nodes2]; exact hn)
  · exact two_low a_nodes2 z n (by rw [a_nodes2]; exact hz)
theorem a_low1 : Low aS1 := by
  intro z n hz
  rw [a_nodes1] at hz
  unfold oneN at hz
  split at hz
  · injection hz with hz
    subst hz
    exact ⟨by decide, by decide⟩
  · cases hz
set_option maxRecDepth 100000 in
set_option maxHeartbeats 8000000 in
theorem awake_any (w : World) :
    Calls Try.prog 6 #[] w fun e w' => e = .returned (.bool true) ∧ Below w.heap.size w w' := by
  have HN := Lib.hid (Dv.new_good 8 (by omega) (by omega) w)
  go_enter Try.func6, Try.ntmps6
  go_wp2_with fail
  refine HN.out.mono ?_
  rintro e w1 ⟨rfl, hd1, hb1, hz1⟩
  have HF := Lib.hid (format_dev (w.heap.size + 2) w.heap.size (w.heap.size + 1) (Dv.newSt 8) ⟨#[]⟩ (by decide) (by decide) w1 hd1 _ a_fmt)
  have HB1 := Lib.hid hb1
  clear hd1 hb1 hz1 HN
  go_wp2_with fail
  refine HF.out.mono ?_
  rintro e w2 ⟨hq, hc2⟩
  obtain ⟨p, F, rfl, hL⟩ : ∃ p F, e = .returned (.tuple #[.pointer (some ⟨p, 0, none⟩), .int .i64 0]) ∧ Laid w1.heap.size (bareV 1 0 ⟨#[]⟩ aZ) (w.heap.size + 2) w.heap.size (w.heap.size + 1) p F w2 := hq
  have hs1 := HB1.out.size
  have HI2 := Lib.hid (show StoIs w2 p F aS0 from hL.is)
  have HFR2 := Lib.hid (show Fresh w.heap.size p F aS0 from ⟨Nat.le_trans hs1 hL.p, Nat.le_trans hs1 hL.t, Nat.le_trans hs1 hL.k, by rw [hL.d]; omega, by rw [hL.dk]; omega, by rw [hL.dd]; omega, fun z hz => by cases hz⟩)
  have HEQ := Lib.hid (And.intro hL.d (And.intro hL.dk hL.dd))
  have HB2 := Lib.hid (below_chg HB1.out hs1 hc2 (fun k hk => by
    rcases hk with e | e | e
    · rw [e]; omega
    · rw [e]; omega
    · rw [e]; omega))
  have HFREE := Lib.hid (free_any p F aS0 w2 HI2.out)
  clear hL hc2 hs1 HB1 HF
  go_wp2_with fail
  refine HFREE.out.mono ?_
  rintro e w3 ⟨hq, hb3⟩
  obtain rfl := a_free0 hq
  have HI3 := Lib.hid (HI2.out.below hb3)
  have HB3 := Lib.hid (HB2.out.trans (hb3.mono HB2.out.size))
  have HP1 := Lib.hid (show Calls Try.prog 14 #[.pointer (some ⟨p, 0, none⟩), .slice none 0 0, .string ⟨#[97]⟩] w3 _ from put_sto p F aS0 (fun z n hz => by cases hz) none 0 0 [] tA w3 HI3.out ⟨rfl, fun h => absurd h (by omega)⟩ (fun h => absurd h (by omega)) _ a_put1)
  clear hq hb3 HFREE HI2 HB2
  go_wp2_with fail
  refine HP1.out.mono ?_
  rintro e w4 ⟨rfl, ⟨F1, hI4, e1, e2, e3, e4, e5, hg4⟩, hc4⟩
  have HB4 := Lib.hid (below_chg HB3.out HB3.out.size hc4 HFR2.out.put)
  have HI4 := Lib.hid (show StoIs w4 p F1 aS1 from hI4)
  have HFR4 := Lib.hid (show Fresh w.heap.size p F1 aS1 from ⟨HFR2.out.p, by rw [e1]; exact HFR2.out.t, by rw [e2]; exact HFR2.out.k, by rw [e3]; exact HFR2.out.d, by rw [e4]; exact HFR2.out.dk, by rw [e5]; exact HFR2.out.dd, fun z hz => by
    rcases hg4 z hz with ⟨h1, h2⟩ | h1
    · rw [h2]; exact HFR2.out.g z h1
    · exact Nat.le_trans HB3.out.size h1⟩)
  have HEQ4 := Lib.hid (show F1.d = w.heap.size + 2 ∧ F1.dk = w.heap.size ∧ F1.dd = w.heap.size + 1 from ⟨e3.trans HEQ.out.1, e4.trans HEQ.out.2.1, e5.trans HEQ.out.2.2⟩)
  clear hI4 e1 e2 e3 e4 e5 hg4 hc4 HP1 HI3 HB3 HFR2 HEQ
  have HR5 := Lib.hid (Has.fresh w4 3 #[.int .i64 2])
  have HI5 := Lib.hid (HI4.out.below ((Below.refl w4.heap.size w4).alloc (Nat.le_refl _) (.cells #[.int .i64 2] 3)))
  have HB5 := Lib.hid (HB4.out.alloc HB4.out.size (.cells #[.int .i64 2] 3))
  have HP2 := Lib.hid (show Calls Try.prog 14 #[.pointer (some ⟨p, 0, none⟩), .slice (some ⟨w4.heap.size, 0, none⟩) 1 1, .string ⟨#[98]⟩] (w4.alloc (.cells #[.int .i64 2] 3)) _ from put_sto p F1 aS1 a_low1 (some ⟨w4.heap.size, 0, none⟩) 1 1 [2] tB _ HI5.out ⟨rfl, fun _ => ⟨w4.heap.size, 0, rfl, by simp, fun i hi => by
    obtain rfl : i = 0 := by simp at hi; omega
    simp⟩⟩ (fun _ b off e => by
    injection e with e
    injection e with e
    rw [← e]
    exact put_not HI5.out HR5.out (by decide) (by decide)) _ a_put2)
  dsimp only
  go_wp2_with fail
  refine HP2.out.mono ?_
  rintro e w6 ⟨rfl, ⟨F2, hI6, e1, e2, e3, e4, e5, hg6⟩, hc6⟩
  have HB6 := Lib.hid (below_chg HB5.out HB5.out.size hc6 HFR4.out.put)
  have HI6 := Lib.hid (show StoIs w6 p F2 aS2 from hI6)
  have HFR6 := Lib.hid (show Fresh w.heap.size p F2 aS2 from ⟨HFR4.out.p, by rw [e1]; exact HFR4.out.t, by rw [e2]; exact HFR4.out.k, by rw [e3]; exact HFR4.out.d, by rw [e4]; exact HFR4.out.dk, by rw [e5]; exact HFR4.out.dd, fun z hz => by
    rcases hg6 z hz with ⟨h1, h2⟩ | h1
    · rw [h2]; exact HFR4.out.g z h1
    · exact Nat.le_trans HB5.out.size h1⟩)
  have HEQ6 := Lib.hid (show F2.d = w.heap.size + 2 ∧ F2.dk = w.heap.size ∧ F2.dd = w.heap.size + 1 from ⟨e3.trans HEQ4.out.1, e4.trans HEQ4.out.2.1, e5.trans HEQ4.out.2.2⟩)
  have HHO := Lib.hid (hold_sto p F2 aS2 3 _ a_nd2 (by decide) (by decide) w6 HI6.out)
  clear hI6 e1 e2 e3 e4 e5 hg6 hc6 HP2 HI5 HB5 HR5 HFR4 HEQ4 HI4 HB4
  dsimp only
  go_wp2_with fail
  refine HHO.out.mono ?_
  rintro e w7 ⟨rfl, hI7, hc7⟩
  have HI7 := Lib.hid (show StoIs w7 p F2 aS3 from hI7)
  have HB7 := Lib.hid (below_chg HB6.out HB6.out.size hc7 (fun k hk => by rw [hk]; exact HFR6.out.g 3 (by rw [a_nd2]; rfl)))
  have HCO := Lib.hid (show Calls Try.prog 23 #[.pointer (some ⟨p, 0, none⟩), .int .i64 3, .string ⟨#[110]⟩] w7 _ from commit_sto p F2 aS3 a_low3 a_down3 3 _ a_nd3 (by decide) tN (by decide) (by decide) (by decide) w7 HI7.out)
  clear hI7 hc7 HHO HI6 HB6
  go_wp2_with fail
  refine HCO.out.mono ?_
  rintro e w8 ⟨rfl, hI8, hc8⟩
  rw [a_commit.1]
  rw [a_commit.2] at hI8
  have HB8 := Lib.hid (below_chg HB7.out HB7.out.size hc8 HFR6.out.com)
  have HD8 := Lib.hid (show Dv.DevIs w8 (w.heap.size + 2) w.heap.size (w.heap.size + 1) aD4 by
    have h := hI8.dev
    rw [HEQ6.out.1, HEQ6.out.2.1, HEQ6.out.2.2] at h
    exact h)
  have HCR := Lib.hid (Dv.crash_any (w.heap.size + 2) w.heap.size (w.heap.size + 1) aD4 none 0 0 [] w8 (by decide) ⟨rfl, fun h => absurd h (by omega)⟩ HD8.out)
  clear hI8 hc8 HCO HI7 HB7 HFR6 HEQ6
  have hown : ∀ k, Dv.Own (w.heap.size + 2) w.heap.size (w.heap.size + 1) k → w.heap.size ≤ k := by
    rintro k (e | e | e)
    · rw [e]; omega
    · rw [e]; omega
    · rw [e]; omega
  have HOW := Lib.hid hown
  clear hown
  go_wp2_with fail
  refine HCR.out.mono ?_
  rintro e w9 ⟨rfl, hd9, hc9⟩
  have HB9 := Lib.hid (below_chg HB8.out HB8.out.size (Oct.Chg.of hc9) HOW.out)
  have HST := Lib.hid (Dv.start_any (w.heap.size + 2) w.heap.size (w.heap.size + 1) _ w9 hd9)
  clear hd9 hc9 HCR HD8 HB8
  go_wp2_with fail
  refine HST.out.mono ?_
  rintro e w10 ⟨rfl, hd10, hc10, hz10⟩
  have HB10 := Lib.hid (below_chg HB9.out HB9.out.size (Oct.Chg.of hc10) HOW.out)
  have HOP := Lib.hid (open_dev (w.heap.size + 2) w.heap.size (w.heap.size + 1) aD5 (by decide) a_bnd5.rd (fun b hb s1 h1 => by
    rw [a_new] at hb
    injection hb with hb _
    subst hb
    have h1 : loadV 64 aB 3 = (0, s1) := h1
    rw [a_load] at h1
    injection h1 with _ h1
    rw [← h1, a_nodesL]
    exact two_down) w10 hd10 _ a_open)
  clear hd10 hc10 hz10 HST HB9
  go_wp2_with fail
  refine HOP.out.mono ?_
  rintro e w11 ⟨hq, hb11⟩
  obtain ⟨q, F3, rfl, hL⟩ : ∃ p F, e = .returned (.tuple #[.pointer (some ⟨p, 0, none⟩), .int .i64 0]) ∧ Laid w10.heap.size (rootV aL) (w.heap.size + 2) w.heap.size (w.heap.size + 1) p F w11 := hq
  have HI11 := Lib.hid hL.is
  have HB11 := Lib.hid (HB10.out.trans (hb11.mono HB10.out.size))
  have HRT := Lib.hid (show Calls Try.prog 18 #[.pointer (some ⟨q, 0, none⟩)] w11 fun e w' => e = .returned (.tuple #[.int .i64 3, .string ⟨#[110]⟩, .int .i64 2]) ∧ Below w11.heap.size w11 w' from root_sto q F3 (rootV aL) w11 HI11.out)
  clear hL hb11 HOP HB10
  go_wp2_with fail
  refine HRT.out.mono ?_
  rintro e w12 ⟨rfl, hb12⟩
  have HI12 := Lib.hid (HI11.out.below hb12)
  have HB12 := Lib.hid (HB11.out.trans (hb12.mono HB11.out.size))
  have HGT := Lib.hid (get_sto q F3 (rootV aL) 2 w12 HI12.out (a_bnd5.rd 2) _ 0 a_get)
  clear hb12 HRT HI11 HB11
  go_wp2_with fail
  refine HGT.out.mono ?_
  rintro e w13 ⟨hq, hb13⟩
  obtain ⟨v, rfl, hov⟩ : ∃ v, e = .returned (.tuple #[.agg #[v, .string ⟨#[97]⟩], .int .i64 0]) ∧ OwnI w13 w12.heap.size v [] := hq
  obtain ⟨A5, c5, rfl⟩ := own_sl hov
  have HI13 := Lib.hid (HI12.out.below hb13)
  have HB13 := Lib.hid (HB12.out.trans (hb13.mono HB12.out.size))
  clear hb13 hov HGT HI12 HB12
  have HI14 := Lib.hid (HI13.out.below ((Below.refl w13.heap.size w13).alloc (Nat.le_refl _) (.cells #[.slice A5 ([] : List Int).length c5, .string ⟨#[97]⟩] 38)))
  have HB14 := Lib.hid (HB13.out.alloc HB13.out.size (.cells #[.slice A5 ([] : List Int).length c5, .string ⟨#[97]⟩] 38))
  have HFE := Lib.hid (free_any q F3 (rootV aL) _ HI14.out)
  go_wp2_with fail
  refine HFE.out.mono ?_
  rintro e w15 ⟨hq, hb15⟩
  obtain rfl := a_free hq
  have HB15 := Lib.hid (HB14.out.trans (hb15.mono HB14.out.size))
  clear hq hb15 HFE HI14 HB14 HI13 HB13
  go_wp2
  go_ret
  exact ⟨rfl, HB15.out⟩
end Go.Proofs.Ytidkckapjelbmaa.Sto
