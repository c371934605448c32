/- The library's symmetric merge over events where the left part is one: it is carried up to where it belongs. -/
import Derived.Test.YtdbmnnmcelaehaaDoorStabG
import Derived.Test.YtdbmnnmcelaehaaDoorStabH
namespace Go.Proofs.YtdbmnnmcelaehaaDoor.Stab
open Go.RowKit Go.Proofs.YtdbmnnmcelaehaaDoor.Mem
set_option linter.unusedVariables false set_option linter.unusedSimpArgs false

theorem half_row {i j n : Nat} (hij : i < j) (hj : j ≤ n) : (0 ≤ ((i : Int) + (j : Int)) / 2 ∧ ((i : Int) + (j : Int)) / 2 < (n : Int)) ∧ (((i : Int) + (j : Int)) / 2).toNat = (i + j) / 2 := ⟨⟨by omega, by omega⟩, by omega⟩
theorem up_row {k n : Nat} (h : k + 1 < n) : (0 ≤ (k : Int) + 1 ∧ (k : Int) + 1 < (n : Int)) ∧ ((k : Int) + 1).toNat = k + 1 := ⟨⟨by omega, by omega⟩, by omega⟩
theorem wrap_up {k : Nat} (h : k < 4000000000) : IntKind.i64.wrap ((k : Int) + 1) = (k : Int) + 1 := by
  have e : (k : Int) + 1 = ((k + 1 : Nat) : Int) := by omega
  rw [e]
  exact Lib.wrap_i64_small _ (by omega)
set_option maxRecDepth 100000 in
set_option maxHeartbeats 1000000 in
theorem merge_up (g c n a b : Nat) (x : Nat → Fc.EventC) (t : Nat → Nat) (z : List Value) (hn : n < 4000000000) (hab : a + 1 < b) (hbn : b ≤ n) (hs : Srt Lex (fun k => (x k, t k)) (a + 1) b) (ht : ∀ k, a + 1 ≤ k → k < b → t a < t k) (w : World) (h : RwE w g n x z) :
    Calls Tryd.prog 64 #[.slice (some ⟨g, 0, none⟩) n c, .int .i64 a, .int .i64 ((a : Int) + 1), .int .i64 b, (.func (.func 34) #[] #[])] w fun e w' => e = .returned (.tuple #[]) ∧ Chg (· = g) w w' ∧ ∃ p, Re a b p ∧ RwE w' g n (fun k => x (p k)) z ∧ Srt Lex (fun k => (x (p k), t (p k))) a b := by
  have H0 := Lib.hid h
  have HT := Lib.hid ht
  have HS := Lib.hid hs
  have HXA := Lib.hid (self_row (j := a) (n := n) (by omega))
  clear h ht hs
  go_enter Tryd.func64, Tryd.ntmps64
  go_wp2
  simp only [show (a : Int) + 1 - (a : Int) = 1 by omega, show ((1 : Int) == 1) = true from rfl]
  go_loopw [10, 11] (fun si sj wr => ∃ i j : Nat, si = .int .i64 i ∧ sj = .int .i64 j ∧ a + 1 ≤ i ∧ i ≤ j ∧ j ≤ b ∧ Hid (∀ k, a + 1 ≤ k → k < i → Lex (x k, t k) (x a, t a)) ∧ Hid (∀ k, j ≤ k → k < b → Lex (x a, t a) (x k, t k)) ∧ Hid (RwE wr g n x z) ∧ Hid (Chg (· = g) w wr)) (fun si sj _ => (intOf sj).toNat - (intOf si).toNat)
  case atStart => exact ⟨a + 1, b, by congr 1, rfl, by omega, by omega, by omega, Lib.hid (fun k k1 k2 => by omega), Lib.hid (fun k k1 k2 => by omega), H0, Lib.hid (Chg.refl _ _)⟩
  case round =>
    obtain ⟨i, j, rfl, rfl, hi, hij, hj, HLO, HHI, HR, HC⟩ := hrel
    by_cases hlt : i < j
    · obtain ⟨hm, hhm⟩ : ∃ hm, hm = (i + j) / 2 := ⟨_, rfl⟩
      have HXH := Lib.hid (half_row (n := n) hlt (by omega))
      rw [← hhm] at HXH
      have hm1 : i ≤ hm := by omega
      have hm2 : hm < j := by omega
      have eh : ((i : Int) + (j : Int)) / 2 = ((hm : Nat) : Int) := by omega
      have HEH := Lib.hid eh
      clear hhm eh
      by_cases hc : ordE (x hm) (x a) < 0
      · have HD := Lib.hid (show decide (ordE (x hm) (x a) < 0) = true from decide_eq_true hc)
        have HN := Lib.hid (show ∀ k, a + 1 ≤ k → k < hm + 1 → Lex (x k, t k) (x a, t a) from fun k k1 k2 => by
          have h0 : Lex (x hm, t hm) (x a, t a) := lex_yes hc
          by_cases e : k = hm
          · rw [e]
            exact h0
          · exact lex_trans (HS.out k hm k1 (by omega) (by omega)) h0)
        clear hc
        go_wp2_with fail
        refine wp_region_held_drew (S := fun V => V.rangeAt g (hm * 21) (Fc.eventC (x hm)).toList ∧ V.rangeAt g (a * 21) (Fc.eventC (x a)).toList) (by kernel_rfl) ⟨HR.out.range size_c (by omega), HR.out.range size_c (by omega)⟩ (fun hHeld => ?_)
        refine Vc.wpAnyH_read (i := 0) (d := some 40) (v := ?v1) (by rfl) (by rfl) (by kernel_rfl) (by kernel_rfl) (by kernel_rfl) (fun _ _ _ h => h) (by rfl) ?hy1 (by assumption) ?rest1
        case hy1 =>
          intro w hSw
          go_simp
          try with_reducible rfl
        (try simp only [Act.put, List.setIfInBounds_toArray, List.set_cons_zero, List.set_cons_succ])
        refine Vc.wpAnyH_read (i := 1) (d := some 41) (v := ?v2) (by rfl) (by rfl) (by kernel_rfl) (by kernel_rfl) (by kernel_rfl) (fun _ _ _ h => h) (by rfl) ?hy2 (by assumption) ?rest2
        case hy2 =>
          intro w hSw
          go_simp
          try with_reducible rfl
        (try simp only [Act.put, List.setIfInBounds_toArray, List.set_cons_zero, List.set_cons_succ])
        refine Vc.wpAnyH_read (i := 2) (d := some 42) (v := ?v3) (by rfl) (by rfl) (by kernel_rfl) (by kernel_rfl) (by kernel_rfl) (fun _ _ _ h => h) (by rfl) ?hy3 (by assumption) ?rest3
        case hy3 =>
          intro w hSw
          go_simp
          try with_reducible rfl
        (try simp only [Act.put, List.setIfInBounds_toArray, List.set_cons_zero, List.set_cons_succ])
        refine Vc.wpAnyH_read (i := 3) (d := some 43) (v := .pointer (some ⟨g, (hm) * 21, none⟩)) (by rfl) (by rfl) (by kernel_rfl) (by kernel_rfl) (by kernel_rfl) (fun _ _ _ h => h) (by rfl) ?hy4 (by assumption) ?rest4
        case hy4 =>
          intro w hSw
          go_simp
          all_goals first | (rw [if_pos HXH.out.1, HXH.out.2]) | (intro hh; exfalso; omega) | (intro hh; exfalso; have hh2 := hh (by omega); omega)
        (try simp only [Act.put, List.setIfInBounds_toArray, List.set_cons_zero, List.set_cons_succ])
        refine Vc.wpAnyH_read (i := 4) (d := some 44) (v := .agg (Fc.eventC (x hm))) (by rfl) (by rfl) (by kernel_rfl) (by kernel_rfl) (by kernel_rfl) (fun _ _ _ h => h) (by rfl) ?hy5 (by assumption) ?rest5
        case hy5 =>
          intro w hSw
          exact Who.exec_loadA _ rfl rfl hSw.1 Tryd.underlying31 rfl Sr.info_event
        (try simp only [Act.put, List.setIfInBounds_toArray, List.set_cons_zero, List.set_cons_succ])
        refine Vc.wpAnyH_read (i := 5) (d := some 45) (v := ?v6) (by rfl) (by rfl) (by kernel_rfl) (by kernel_rfl) (by kernel_rfl) (fun _ _ _ h => h) (by rfl) ?hy6 (by assumption) ?rest6
        case hy6 =>
          intro w hSw
          go_simp
          try with_reducible rfl
        (try simp only [Act.put, List.setIfInBounds_toArray, List.set_cons_zero, List.set_cons_succ])
        refine Vc.wpAnyH_read (i := 6) (d := some 46) (v := ?v7) (by rfl) (by rfl) (by kernel_rfl) (by kernel_rfl) (by kernel_rfl) (fun _ _ _ h => h) (by rfl) ?hy7 (by assumption) ?rest7
        case hy7 =>
          intro w hSw
          go_simp
          try with_reducible rfl
        (try simp only [Act.put, List.setIfInBounds_toArray, List.set_cons_zero, List.set_cons_succ])
        refine Vc.wpAnyH_read (i := 7) (d := some 47) (v := .pointer (some ⟨g, (a) * 21, none⟩)) (by rfl) (by rfl) (by kernel_rfl) (by kernel_rfl) (by kernel_rfl) (fun _ _ _ h => h) (by rfl) ?hy8 (by assumption) ?rest8
        case hy8 =>
          intro w hSw
          go_simp
          all_goals first | (rw [if_pos HXA.out.1, HXA.out.2]) | (intro hh; exfalso; omega) | (intro hh; exfalso; have hh2 := hh (by omega); omega)
        (try simp only [Act.put, List.setIfInBounds_toArray, List.set_cons_zero, List.set_cons_succ])
        refine Vc.wpAnyH_read (i := 8) (d := some 48) (v := .agg (Fc.eventC (x a))) (by rfl) (by rfl) (by kernel_rfl) (by kernel_rfl) (by kernel_rfl) (fun _ _ _ h => h) (by rfl) ?hy9 (by assumption) ?rest9
        case hy9 =>
          intro w hSw
          exact Who.exec_loadA _ rfl rfl hSw.2 Tryd.underlying31 rfl Sr.info_event
        (try simp only [Act.put, List.setIfInBounds_toArray, List.set_cons_zero, List.set_cons_succ])
        refine wpAnyH_ready (rs := [9]) (by kernel_rfl) (by simp) ?_
        refine AllReadyH.cons rfl (fun K hK => ?_) AllReadyH.nil
        go_simp
        go_at_call 34
        refine (order_any (x hm) (x a) _).mono ?_
        rintro q w2 ⟨rfl, hb⟩
        have HR2 := Lib.hid (HR.out.drew.below hb)
        have HC2 := Lib.hid (HC.out.drew.trans (Chg.of_below hb _))
        clear hb
        refine hK.out _ _ ⟨HR2.out.range size_c (by omega), HR2.out.range size_c (by omega)⟩ (fun hHeld => ?_)
        clear hK K
        (try simp only [Act.put, List.setIfInBounds_toArray, List.set_cons_zero, List.set_cons_succ])
        refine Vc.wpAnyH_read (i := 10) (d := some 50) (v := .bool true) (by rfl) (by rfl) (by kernel_rfl) (by kernel_rfl) (by kernel_rfl) (fun _ _ _ h => h) (by rfl) ?hy10 (by assumption) ?rest10
        case hy10 =>
          intro w hSw
          go_simp
          all_goals first | (rw [HD.out]) | (have hd := HD.out; simp only [decide_eq_true_eq, decide_eq_false_iff_not] at hd; first | exact hd | omega)
        (try simp only [Act.put, List.setIfInBounds_toArray, List.set_cons_zero, List.set_cons_succ])
        refine wpAnyH_done (by kernel_rfl) ?_ _
        go_wp2
        go_roundw
        case rel => exact ⟨hm + 1, j, by rw [HEH.out]; go_num, rfl, by omega, by omega, by omega, HN, HHI, HR2, HC2⟩
        case measure => rw [HEH.out]; simp [intOf]; omega
      · have HD := Lib.hid (show decide (ordE (x hm) (x a) < 0) = false from decide_eq_false hc)
        have HN := Lib.hid (show ∀ k, hm ≤ k → k < b → Lex (x a, t a) (x k, t k) from fun k k1 k2 => by
          have h0 : Lex (x a, t a) (x hm, t hm) := lex_no hc (HT.out hm (by omega) (by omega))
          by_cases e : k = hm
          · rw [e]
            exact h0
          · exact lex_trans h0 (HS.out hm k (by omega) (by omega) k2))
        clear hc
        go_wp2_with fail
        refine wp_region_held_drew (S := fun V => V.rangeAt g (hm * 21) (Fc.eventC (x hm)).toList ∧ V.rangeAt g (a * 21) (Fc.eventC (x a)).toList) (by kernel_rfl) ⟨HR.out.range size_c (by omega), HR.out.range size_c (by omega)⟩ (fun hHeld => ?_)
        refine Vc.wpAnyH_read (i := 0) (d := some 40) (v := ?v11) (by rfl) (by rfl) (by kernel_rfl) (by kernel_rfl) (by kernel_rfl) (fun _ _ _ h => h) (by rfl) ?hy11 (by assumption) ?rest11
        case hy11 =>
          intro w hSw
          go_simp
          try with_reducible rfl
        (try simp only [Act.put, List.setIfInBounds_toArray, List.set_cons_zero, List.set_cons_succ])
        refine Vc.wpAnyH_read (i := 1) (d := some 41) (v := ?v12) (by rfl) (by rfl) (by kernel_rfl) (by kernel_rfl) (by kernel_rfl) (fun _ _ _ h => h) (by rfl) ?hy12 (by assumption) ?rest12
        case hy12 =>
          intro w hSw
          go_simp
          try with_reducible rfl
        (try simp only [Act.put, List.setIfInBounds_toArray, List.set_cons_zero, List.set_cons_succ])
        refine Vc.wpAnyH_read (i := 2) (d := some 42) (v := ?v13) (by rfl) (by rfl) (by kernel_rfl) (by kernel_rfl) (by kernel_rfl) (fun _ _ _ h => h) (by rfl) ?hy13 (by assumption) ?rest13
        case hy13 =>
          intro w hSw
          go_simp
          try with_reducible rfl
        (try simp only [Act.put, List.setIfInBounds_toArray, List.set_cons_zero, List.set_cons_succ])
        refine Vc.wpAnyH_read (i := 3) (d := some 43) (v := .pointer (some ⟨g, (hm) * 21, none⟩)) (by rfl) (by rfl) (by kernel_rfl) (by kernel_rfl) (by kernel_rfl) (fun _ _ _ h => h) (by rfl) ?hy14 (by assumption) ?rest14
        case hy14 =>
          intro w hSw
          go_simp
          all_goals first | (rw [if_pos HXH.out.1, HXH.out.2]) | (intro hh; exfalso; omega) | (intro hh; exfalso; have hh2 := hh (by omega); omega)
        (try simp only [Act.put, List.setIfInBounds_toArray, List.set_cons_zero, List.set_cons_succ])
        refine Vc.wpAnyH_read (i := 4) (d := some 44) (v := .agg (Fc.eventC (x hm))) (by rfl) (by rfl) (by kernel_rfl) (by kernel_rfl) (by kernel_rfl) (fun _ _ _ h => h) (by rfl) ?hy15 (by assumption) ?rest15
        case hy15 =>
          intro w hSw
          exact Who.exec_loadA _ rfl rfl hSw.1 Tryd.underlying31 rfl Sr.info_event
        (try simp only [Act.put, List.setIfInBounds_toArray, List.set_cons_zero, List.set_cons_succ])
        refine Vc.wpAnyH_read (i := 5) (d := some 45) (v := ?v16) (by rfl) (by rfl) (by kernel_rfl) (by kernel_rfl) (by kernel_rfl) (fun _ _ _ h => h) (by rfl) ?hy16 (by assumption) ?rest16
        case hy16 =>
          intro w hSw
          go_simp
          try with_reducible rfl
        (try simp only [Act.put, List.setIfInBounds_toArray, List.set_cons_zero, List.set_cons_succ])
        refine Vc.wpAnyH_read (i := 6) (d := some 46) (v := ?v17) (by rfl) (by rfl) (by kernel_rfl) (by kernel_rfl) (by kernel_rfl) (fun _ _ _ h => h) (by rfl) ?hy17 (by assumption) ?rest17
        case hy17 =>
          intro w hSw
          go_simp
          try with_reducible rfl
        (try simp only [Act.put, List.setIfInBounds_toArray, List.set_cons_zero, List.set_cons_succ])
        refine Vc.wpAnyH_read (i := 7) (d := some 47) (v := .pointer (some ⟨g, (a) * 21, none⟩)) (by rfl) (by rfl) (by kernel_rfl) (by kernel_rfl) (by kernel_rfl) (fun _ _ _ h => h) (by rfl) ?hy18 (by assumption) ?rest18
        case hy18 =>
          intro w hSw
          go_simp
          all_goals first | (rw [if_pos HXA.out.1, HXA.out.2]) | (intro hh; exfalso; omega) | (intro hh; exfalso; have hh2 := hh (by omega); omega)
        (try simp only [Act.put, List.setIfInBounds_toArray, List.set_cons_zero, List.set_cons_succ])
        refine Vc.wpAnyH_read (i := 8) (d := some 48) (v := .agg (Fc.eventC (x a))) (by rfl) (by rfl) (by kernel_rfl) (by kernel_rfl) (by kernel_rfl) (fun _ _ _ h => h) (by rfl) ?hy19 (by assumption) ?rest19
        case hy19 =>
          intro w hSw
          exact Who.exec_loadA _ rfl rfl hSw.2 Tryd.underlying31 rfl Sr.info_event
        (try simp only [Act.put, List.setIfInBounds_toArray, List.set_cons_zero, List.set_cons_succ])
        refine wpAnyH_ready (rs := [9]) (by kernel_rfl) (by simp) ?_
        refine AllReadyH.cons rfl (fun K hK => ?_) AllReadyH.nil
        go_simp
        go_at_call 34
        refine (order_any (x hm) (x a) _).mono ?_
        rintro q w2 ⟨rfl, hb⟩
        have HR2 := Lib.hid (HR.out.drew.below hb)
        have HC2 := Lib.hid (HC.out.drew.trans (Chg.of_below hb _))
        clear hb
        refine hK.out _ _ ⟨HR2.out.range size_c (by omega), HR2.out.range size_c (by omega)⟩ (fun hHeld => ?_)
        clear hK K
        (try simp only [Act.put, List.setIfInBounds_toArray, List.set_cons_zero, List.set_cons_succ])
        refine Vc.wpAnyH_read (i := 10) (d := some 50) (v := .bool false) (by rfl) (by rfl) (by kernel_rfl) (by kernel_rfl) (by kernel_rfl) (fun _ _ _ h => h) (by rfl) ?hy20 (by assumption) ?rest20
        case hy20 =>
          intro w hSw
          go_simp
          all_goals first | (rw [HD.out]) | (have hd := HD.out; simp only [decide_eq_true_eq, decide_eq_false_iff_not] at hd; first | exact hd | omega)
        (try simp only [Act.put, List.setIfInBounds_toArray, List.set_cons_zero, List.set_cons_succ])
        refine wpAnyH_done (by kernel_rfl) ?_ _
        go_wp2
        go_roundw
        case rel => exact ⟨i, hm, rfl, by rw [HEH.out], by omega, by omega, by omega, HLO, HN, HR2, HC2⟩
        case measure => rw [HEH.out]; simp [intOf]; omega
    · obtain rfl : i = j := by omega
      have HEND := Lib.hid (ins_up (fun k => (x k, t k)) hi hj HS.out HLO.out HHI.out)
      go_wp2
      go_loopw [13] (fun sk wr => ∃ k : Nat, sk = .int .i64 k ∧ a ≤ k ∧ k + 1 ≤ i ∧ Hid (RwE wr g n (fun q => x (rotP a (a + 1) (k + 1) q)) z) ∧ Hid (Chg (· = g) w wr)) (fun sk _ => i - (intOf sk).toNat)
      case atStart => exact ⟨a, rfl, by omega, by omega, Lib.hid (HR.out.congr fun q _ => by rw [rot_up0]), HC⟩
      case round =>
        obtain ⟨k, rfl, hk1, hk2, HRK, HCK⟩ := hrel
        by_cases hki : k + 1 < i
        · obtain ⟨y, hy⟩ : ∃ y : Nat → Fc.EventC, y = fun q => x (rotP a (a + 1) (k + 1) q) := ⟨_, rfl⟩
          have HR3 : Hid (RwE _ g n y z) := Lib.hid (by rw [hy]; exact HRK.out.drew)
          have HNX := Lib.hid (show ∀ V, RwE V g n (fun q => y (swapP k (k + 1) q)) z → RwE V g n (fun q => x (rotP a (a + 1) (k + 1 + 1) q)) z from fun V h => h.congr fun q _ => by rw [hy]; show x _ = x _; rw [rot_up a k q hk1])
          have HR4 := Lib.hid (HR3.out.set size_c (i := k) (by omega) (y (k + 1)))
          have HR5 := Lib.hid (HNX.out _ (HR3.out.swap size_c (i := k) (j := k + 1) (by omega) (by omega)))
          have HC5 := Lib.hid (HCK.out.drew.trans (chg_swap _ g (k * 21) ((k + 1) * 21) (Fc.eventC (y (k + 1))).toList (Fc.eventC (y k)).toList))
          have HWS := Lib.hid (wrap_up (k := k) (by omega))
          have HXJ := Lib.hid (self_row (j := k) (n := n) (by omega))
          have HXK := Lib.hid (up_row (k := k) (n := n) (by omega))
          clear hy
          go_wp2_with fail
          refine wp_region_held_drew (S := fun _ => True) (by kernel_rfl) trivial (fun hHeld => ?_)
          refine Vc.wpAnyH_read (i := 0) (d := some 61) (v := ?v21) (by rfl) (by rfl) (by kernel_rfl) (by kernel_rfl) (by kernel_rfl) (fun _ _ _ h => h) (by rfl) ?hy21 (by assumption) ?rest21
          case hy21 =>
            intro w hSw
            go_simp
            try with_reducible rfl
          (try simp only [Act.put, List.setIfInBounds_toArray, List.set_cons_zero, List.set_cons_succ])
          refine Vc.wpAnyH_read (i := 1) (d := some 62) (v := ?v22) (by rfl) (by rfl) (by kernel_rfl) (by kernel_rfl) (by kernel_rfl) (fun _ _ _ h => h) (by rfl) ?hy22 (by assumption) ?rest22
          case hy22 =>
            intro w hSw
            go_simp
            try with_reducible rfl
          (try simp only [Act.put, List.setIfInBounds_toArray, List.set_cons_zero, List.set_cons_succ])
          refine Vc.wpAnyH_read (i := 2) (d := some 63) (v := ?v23) (by rfl) (by rfl) (by kernel_rfl) (by kernel_rfl) (by kernel_rfl) (fun _ _ _ h => h) (by rfl) ?hy23 (by assumption) ?rest23
          case hy23 =>
            intro w hSw
            go_simp
            try with_reducible rfl
          (try simp only [Act.put, List.setIfInBounds_toArray, List.set_cons_zero, List.set_cons_succ])
          refine Vc.wpAnyH_read (i := 3) (d := some 64) (v := ?v24) (by rfl) (by rfl) (by kernel_rfl) (by kernel_rfl) (by kernel_rfl) (fun _ _ _ h => h) (by rfl) ?hy24 (by assumption) ?rest24
          case hy24 =>
            intro w hSw
            go_simp
            try with_reducible rfl
          (try simp only [Act.put, List.setIfInBounds_toArray, List.set_cons_zero, List.set_cons_succ])
          refine Vc.wpAnyH_read (i := 4) (d := some 65) (v := .int .i64 ((k : Int) + 1)) (by rfl) (by rfl) (by kernel_rfl) (by kernel_rfl) (by kernel_rfl) (fun _ _ _ h => h) (by rfl) ?hy25 (by assumption) ?rest25
          case hy25 =>
            intro w hSw
            go_simp
            all_goals rw [HWS.out]
          (try simp only [Act.put, List.setIfInBounds_toArray, List.set_cons_zero, List.set_cons_succ])
          refine Vc.wpAnyH_read (i := 5) (d := some 66) (v := ?v26) (by rfl) (by rfl) (by kernel_rfl) (by kernel_rfl) (by kernel_rfl) (fun _ _ _ h => h) (by rfl) ?hy26 (by assumption) ?rest26
          case hy26 =>
            intro w hSw
            go_simp
            try with_reducible rfl
          (try simp only [Act.put, List.setIfInBounds_toArray, List.set_cons_zero, List.set_cons_succ])
          refine Vc.wpAnyH_read (i := 6) (d := some 67) (v := ?v27) (by rfl) (by rfl) (by kernel_rfl) (by kernel_rfl) (by kernel_rfl) (fun _ _ _ h => h) (by rfl) ?hy27 (by assumption) ?rest27
          case hy27 =>
            intro w hSw
            go_simp
            try with_reducible rfl
          (try simp only [Act.put, List.setIfInBounds_toArray, List.set_cons_zero, List.set_cons_succ])
          refine Vc.wpAnyH_read (i := 7) (d := some 68) (v := .int .i64 ((k : Int) + 1)) (by rfl) (by rfl) (by kernel_rfl) (by kernel_rfl) (by kernel_rfl) (fun _ _ _ h => h) (by rfl) ?hy28 (by assumption) ?rest28
          case hy28 =>
            intro w hSw
            go_simp
            all_goals rw [HWS.out]
          (try simp only [Act.put, List.setIfInBounds_toArray, List.set_cons_zero, List.set_cons_succ])
          refine Vc.wpAnyH_read (i := 8) (d := some 69) (v := .pointer (some ⟨g, (k + 1) * 21, none⟩)) (by rfl) (by rfl) (by kernel_rfl) (by kernel_rfl) (by kernel_rfl) (fun _ _ _ h => h) (by rfl) ?hy29 (by assumption) ?rest29
          case hy29 =>
            intro w hSw
            go_simp
            all_goals first | (rw [if_pos HXK.out.1, HXK.out.2]) | (intro hh; exfalso; omega) | (intro hh; exfalso; have hh2 := hh (by omega); omega)
          (try simp only [Act.put, List.setIfInBounds_toArray, List.set_cons_zero, List.set_cons_succ])
          refine Vc.wpAnyH_read (i := 10) (d := some 71) (v := ?v30) (by rfl) (by rfl) (by kernel_rfl) (by kernel_rfl) (by kernel_rfl) (fun _ _ _ h => h) (by rfl) ?hy30 (by assumption) ?rest30
          case hy30 =>
            intro w hSw
            go_simp
            try with_reducible rfl
          (try simp only [Act.put, List.setIfInBounds_toArray, List.set_cons_zero, List.set_cons_succ])
          refine Vc.wpAnyH_read (i := 11) (d := some 72) (v := ?v31) (by rfl) (by rfl) (by kernel_rfl) (by kernel_rfl) (by kernel_rfl) (fun _ _ _ h => h) (by rfl) ?hy31 (by assumption) ?rest31
          case hy31 =>
            intro w hSw
            go_simp
            try with_reducible rfl
          (try simp only [Act.put, List.setIfInBounds_toArray, List.set_cons_zero, List.set_cons_succ])
          refine Vc.wpAnyH_read (i := 12) (d := some 73) (v := .pointer (some ⟨g, (k) * 21, none⟩)) (by rfl) (by rfl) (by kernel_rfl) (by kernel_rfl) (by kernel_rfl) (fun _ _ _ h => h) (by rfl) ?hy32 (by assumption) ?rest32
          case hy32 =>
            intro w hSw
            go_simp
            all_goals first | (rw [if_pos HXJ.out.1, HXJ.out.2]) | (intro hh; exfalso; omega) | (intro hh; exfalso; have hh2 := hh (by omega); omega)
          (try simp only [Act.put, List.setIfInBounds_toArray, List.set_cons_zero, List.set_cons_succ])
          refine wpAnyH_ready (rs := [9, 13]) (by kernel_rfl) (by simp) ?_
          refine AllReadyH.cons rfl (fun K hK => ?_) (AllReadyH.cons rfl (fun K hK => ?_) AllReadyH.nil)
          · refine step_load 31 (.tmp 69) (by rfl) g ((k + 1) * 21) (Fc.eventC (y (k + 1))) 70 ?_
            refine And.intro ⟨by rfl, by rfl, by rfl, ⟨_, Tryd.underlying31, rfl⟩, Sr.info_event⟩ (And.intro (HR3.out.range size_c (by omega)) ?_)
            (try simp only [Act.put, List.setIfInBounds_toArray, List.set_cons_zero, List.set_cons_succ])
            refine hK.out _ _ trivial (fun hHeld => ?_)
            clear hK K
            (try simp only [Act.put, List.setIfInBounds_toArray, List.set_cons_zero, List.set_cons_succ])
            refine wpAnyH_ready (rs := [13]) (by kernel_rfl) (by simp) ?_
            refine AllReadyH.cons rfl (fun K hK => ?_) AllReadyH.nil
            refine step_load 31 (.tmp 73) (by rfl) g (k * 21) (Fc.eventC (y k)) 74 ?_
            refine And.intro ⟨by rfl, by rfl, by rfl, ⟨_, Tryd.underlying31, rfl⟩, Sr.info_event⟩ (And.intro (HR3.out.range size_c (by omega)) ?_)
            (try simp only [Act.put, List.setIfInBounds_toArray, List.set_cons_zero, List.set_cons_succ])
            refine hK.out _ _ trivial (fun hHeld => ?_)
            clear hK K
            (try simp only [Act.put, List.setIfInBounds_toArray, List.set_cons_zero, List.set_cons_succ])
            refine Vc.wpAnyH_read (i := 14) (d := some 75) (v := .pointer (some ⟨g, (k) * 21, none⟩)) (by rfl) (by rfl) (by kernel_rfl) (by kernel_rfl) (by kernel_rfl) (fun _ _ _ h => h) (by rfl) ?hy33 (by assumption) ?rest33
            case hy33 =>
              intro w hSw
              go_simp
              all_goals first | (rw [if_pos HXJ.out.1, HXJ.out.2]) | (intro hh; exfalso; omega) | (intro hh; exfalso; have hh2 := hh (by omega); omega)
            (try simp only [Act.put, List.setIfInBounds_toArray, List.set_cons_zero, List.set_cons_succ])
            refine ready_store (i := 15) (by kernel_rfl) (by rfl) 31 (.tmp 75) (.tmp 70) (by rfl) g (k * 21) (Fc.eventC (y (k + 1))) ?_
            refine And.intro ⟨by rfl, by rfl, by rfl, by rfl, Sr.info_event, (Sr.event_one _)⟩ (And.intro (HR3.out.there (by omega)) (And.intro trivial (fun hHeld => ?_)))
            (try simp only [Act.put, List.setIfInBounds_toArray, List.set_cons_zero, List.set_cons_succ])
            refine Vc.wpAnyH_read (i := 16) (d := some 76) (v := .pointer (some ⟨g, (k + 1) * 21, none⟩)) (by rfl) (by rfl) (by kernel_rfl) (by kernel_rfl) (by kernel_rfl) (fun _ _ _ h => h) (by rfl) ?hy34 (by assumption) ?rest34
            case hy34 =>
              intro w hSw
              go_simp
              all_goals first | (rw [if_pos HXK.out.1, HXK.out.2]) | (intro hh; exfalso; omega) | (intro hh; exfalso; have hh2 := hh (by omega); omega)
            (try simp only [Act.put, List.setIfInBounds_toArray, List.set_cons_zero, List.set_cons_succ])
            refine ready_store (i := 17) (by kernel_rfl) (by rfl) 31 (.tmp 76) (.tmp 74) (by rfl) g ((k + 1) * 21) (Fc.eventC (y k)) ?_
            refine And.intro ⟨by rfl, by rfl, by rfl, by rfl, Sr.info_event, (Sr.event_one _)⟩ (And.intro (HR4.out.there (by omega)) (And.intro trivial (fun hHeld => ?_)))
            (try simp only [Act.put, List.setIfInBounds_toArray, List.set_cons_zero, List.set_cons_succ])
            refine wpAnyH_done (by kernel_rfl) ?_ _
            go_wp2
            go_roundw
            case rel => exact ⟨k + 1, by go_num, by omega, by omega, HR5, HC5⟩
            case measure => simp [intOf]; omega
          · refine step_load 31 (.tmp 73) (by rfl) g (k * 21) (Fc.eventC (y k)) 74 ?_
            refine And.intro ⟨by rfl, by rfl, by rfl, ⟨_, Tryd.underlying31, rfl⟩, Sr.info_event⟩ (And.intro (HR3.out.range size_c (by omega)) ?_)
            (try simp only [Act.put, List.setIfInBounds_toArray, List.set_cons_zero, List.set_cons_succ])
            refine hK.out _ _ trivial (fun hHeld => ?_)
            clear hK K
            (try simp only [Act.put, List.setIfInBounds_toArray, List.set_cons_zero, List.set_cons_succ])
            refine wpAnyH_ready (rs := [9]) (by kernel_rfl) (by simp) ?_
            refine AllReadyH.cons rfl (fun K hK => ?_) AllReadyH.nil
            refine step_load 31 (.tmp 69) (by rfl) g ((k + 1) * 21) (Fc.eventC (y (k + 1))) 70 ?_
            refine And.intro ⟨by rfl, by rfl, by rfl, ⟨_, Tryd.underlying31, rfl⟩, Sr.info_event⟩ (And.intro (HR3.out.range size_c (by omega)) ?_)
            (try simp only [Act.put, List.setIfInBounds_toArray, List.set_cons_zero, List.set_cons_succ])
            refine hK.out _ _ trivial (fun hHeld => ?_)
            clear hK K
            (try simp only [Act.put, List.setIfInBounds_toArray, List.set_cons_zero, List.set_cons_succ])
            refine Vc.wpAnyH_read (i := 14) (d := some 75) (v := .pointer (some ⟨g, (k) * 21, none⟩)) (by rfl) (by rfl) (by kernel_rfl) (by kernel_rfl) (by kernel_rfl) (fun _ _ _ h => h) (by rfl) ?hy35 (by assumption) ?rest35
            case hy35 =>
              intro w hSw
              go_simp
              all_goals first | (rw [if_pos HXJ.out.1, HXJ.out.2]) | (intro hh; exfalso; omega) | (intro hh; exfalso; have hh2 := hh (by omega); omega)
            (try simp only [Act.put, List.setIfInBounds_toArray, List.set_cons_zero, List.set_cons_succ])
            refine ready_store (i := 15) (by kernel_rfl) (by rfl) 31 (.tmp 75) (.tmp 70) (by rfl) g (k * 21) (Fc.eventC (y (k + 1))) ?_
            refine And.intro ⟨by rfl, by rfl, by rfl, by rfl, Sr.info_event, (Sr.event_one _)⟩ (And.intro (HR3.out.there (by omega)) (And.intro trivial (fun hHeld => ?_)))
            (try simp only [Act.put, List.setIfInBounds_toArray, List.set_cons_zero, List.set_cons_succ])
            refine Vc.wpAnyH_read (i := 16) (d := some 76) (v := .pointer (some ⟨g, (k + 1) * 21, none⟩)) (by rfl) (by rfl) (by kernel_rfl) (by kernel_rfl) (by kernel_rfl) (fun _ _ _ h => h) (by rfl) ?hy36 (by assumption) ?rest36
            case hy36 =>
              intro w hSw
              go_simp
              all_goals first | (rw [if_pos HXK.out.1, HXK.out.2]) | (intro hh; exfalso; omega) | (intro hh; exfalso; have hh2 := hh (by omega); omega)
            (try simp only [Act.put, List.setIfInBounds_toArray, List.set_cons_zero, List.set_cons_succ])
            refine ready_store (i := 17) (by kernel_rfl) (by rfl) 31 (.tmp 76) (.tmp 74) (by rfl) g ((k + 1) * 21) (Fc.eventC (y k)) ?_
            refine And.intro ⟨by rfl, by rfl, by rfl, by rfl, Sr.info_event, (Sr.event_one _)⟩ (And.intro (HR4.out.there (by omega)) (And.intro trivial (fun hHeld => ?_)))
            (try simp only [Act.put, List.setIfInBounds_toArray, List.set_cons_zero, List.set_cons_succ])
            refine wpAnyH_done (by kernel_rfl) ?_ _
            go_wp2
            go_roundw
            case rel => exact ⟨k + 1, by go_num, by omega, by omega, HR5, HC5⟩
            case measure => simp [intOf]; omega
        · obtain rfl : i = k + 1 := by omega
          go_wp2
          (try simp only [Exit.inBlock, Exit.then])
          refine bodyPost_ret (results_none rfl _ _ _) rfl ?_
          refine ⟨rfl, HCK.out, _, (Re.rot (by omega) (by omega)).wide (Nat.le_refl _) hj, HRK.out, HEND.out⟩
end Go.Proofs.YtdbmnnmcelaehaaDoor.Stab
