/- The library's insertion sort over events: who is alike stands as he came. -/
import Derived.Test.YtdbmnnmcelaehaaDoorStabF
namespace Go.Proofs.YtdbmnnmcelaehaaDoor.Stab
open Go.RowKit Go.Proofs.YtdbmnnmcelaehaaDoor.Mem
set_option linter.unusedVariables false set_option linter.unusedSimpArgs false

/-- what an insertion comes to, for the first i places -/
theorem out_step {x : Nat → Fc.EventC} {t p : Nat → Nat} {a i j : Nat} (hai : a < i) (haj : a ≤ j) (hji : j ≤ i) (hp : Re a i p) (hs : Srt Lex (fun k => (x (p k), t (p k))) a i) (h1 : ∀ k, j ≤ k → k < i → Lex (x i, t i) (x (p k), t (p k))) (h2 : ∀ k, a ≤ k → k < j → Lex (x (p k), t (p k)) (x i, t i)) :
    Re a (i + 1) (fun k => p (rotP j i (i + 1) k)) ∧ Srt Lex (fun k => (x (p (rotP j i (i + 1) k)), t (p (rotP j i (i + 1) k)))) a (i + 1) := by
  have hpi : p i = i := hp.out i (by omega)
  refine ⟨(hp.wide (Nat.le_refl _) (by omega)).comp ((Re.rot hji (by omega)).wide haj (Nat.le_refl _)), ?_⟩
  exact ins_down (fun k => (x (p k), t (p k))) haj hji hs (fun k k1 k2 => by show Lex _ (x (p i), t (p i)); rw [hpi]; exact h2 k k1 k2) (fun k k1 k2 => by show Lex (x (p i), t (p i)) _; rw [hpi]; exact h1 k k1 k2)
theorem rot_at (j i : Nat) (h : j ≤ i) : rotP j i (i + 1) j = i := by
  unfold rotP
  repeat' split
  all_goals omega
theorem rot_under (j i k : Nat) (h : k < j) : rotP j i (i + 1) k = k := by
  unfold rotP
  repeat' split
  all_goals omega
theorem sub_row {j n : Nat} (h0 : 0 < j) (h : j < n) : (0 ≤ (j : Int) - 1 ∧ (j : Int) - 1 < (n : Int)) ∧ ((j : Int) - 1).toNat = j - 1 := ⟨⟨by omega, by omega⟩, by omega⟩
theorem self_row {j n : Nat} (h : j < n) : (0 ≤ (j : Int) ∧ (j : Int) < (n : Int)) ∧ (j : Int).toNat = j := ⟨⟨by omega, by omega⟩, by omega⟩
theorem wrap_sub {j : Nat} (h0 : 0 < j) (h : j < 4000000000) : IntKind.i64.wrap ((j : Int) - 1) = (j : Int) - 1 := by
  have e : (j : Int) - 1 = ((j - 1 : Nat) : Int) := by omega
  rw [e]
  exact Lib.wrap_i64_small _ (by omega)
set_option maxRecDepth 100000 in
set_option maxHeartbeats 1000000 in
theorem insertion_any (g c n a b : Nat) (x : Nat → Fc.EventC) (t : Nat → Nat) (z : List Value) (hn : n < 4000000000) (hab : a ≤ b) (hbn : b ≤ n) (ht : ∀ i j, a ≤ i → i < j → j < b → t i < t j) (w : World) (h : RwE w g n x z) :
    Calls Tryd.prog 63 #[.slice (some ⟨g, 0, none⟩) n c, .int .i64 a, .int .i64 b, (.func (.func 34) #[] #[])] w fun e w' => e = .returned (.tuple #[]) ∧ Chg (· = g) w w' ∧ ∃ p, Re a b p ∧ RwE w' g n (fun k => x (p k)) z ∧ Srt Lex (fun k => (x (p k), t (p k))) a b := by
  have H0 := Lib.hid h
  have HT := Lib.hid ht
  clear h ht
  go_enter Tryd.func63, Tryd.ntmps63
  go_wp2
  go_loopw [8] (fun si wr => ∃ i : Nat, si = .int .i64 i ∧ a < i ∧ i ≤ b + 1 ∧ Hid (∃ p, Re a (min i b) p ∧ RwE wr g n (fun k => x (p k)) z ∧ Srt Lex (fun k => (x (p k), t (p k))) a (min i b)) ∧ Hid (Chg (· = g) w wr)) (fun si _ => b + 1 - (intOf si).toNat)
  case atStart => exact ⟨a + 1, by congr 1, by omega, by omega, Lib.hid ⟨fun k => k, Re.refl _ _, H0.out, Srt.short _ (by omega)⟩, Lib.hid (Chg.refl _ _)⟩
  case round =>
    obtain ⟨i, rfl, hai, hib, HP, HC0⟩ := hrel
    obtain ⟨p, hp, hr, hs⟩ := HP.out
    clear HP
    by_cases hlt : i < b
    · rw [Nat.min_eq_left (by omega)] at hp hs
      have HRE := Lib.hid hp
      have HS := Lib.hid hs
      have HR0 := Lib.hid hr
      have OUT := Lib.hid (fun j (haj : a ≤ j) (hji : j ≤ i) h1 h2 => out_step (x := x) (t := t) hai haj hji hp hs h1 h2)
      have hpi : p i = i := hp.out i (by omega)
      have HPI := Lib.hid hpi
      have HIN := Lib.hid (show ∀ k, a ≤ k → k < i → t (p k) < t i from fun k k1 k2 => HT.out _ _ (hp.ins k k1 k2).1 (hp.ins k k1 k2).2 hlt)
      clear hp hs hr hpi
      go_wp2
      go_loopw [9] (fun sj wr => ∃ j : Nat, sj = .int .i64 j ∧ a ≤ j ∧ j ≤ i ∧ Hid (RwE wr g n (fun k => x (p (rotP j i (i + 1) k))) z) ∧ (∀ k, j ≤ k → k < i → Lex (x i, t i) (x (p k), t (p k))) ∧ Hid (Chg (· = g) w wr)) (fun sj _ => (intOf sj).toNat)
      case atStart => exact ⟨i, rfl, by omega, by omega, Lib.hid (HR0.out.congr fun k _ => by rw [rot_down0]), fun k k1 k2 => by omega, HC0⟩
      case round =>
        obtain ⟨j, rfl, haj, hji, HRJ, hm, HC⟩ := hrel
        have HM0 := Lib.hid hm
        clear hm
        have fin : (∀ k, a ≤ k → k < j → Lex (x (p k), t (p k)) (x i, t i)) → ∀ V, RwE V g n (fun k => x (p (rotP j i (i + 1) k))) z → ∃ p, Re a (min (i + 1) b) p ∧ RwE V g n (fun k => x (p k)) z ∧ Srt Lex (fun k => (x (p k), t (p k))) a (min (i + 1) b) := fun h2 V hV => by
          rw [Nat.min_eq_left (by omega)]
          obtain ⟨q1, q2⟩ := OUT.out j haj hji HM0.out h2
          exact ⟨_, q1, hV, q2⟩
        have FIN := Lib.hid fin
        clear fin
        by_cases hj : a < j
        · obtain ⟨y, hy⟩ : ∃ y : Nat → Fc.EventC, y = fun k => x (p (rotP j i (i + 1) k)) := ⟨_, rfl⟩
          have y1 : y j = x i := by rw [hy]; show x (p (rotP j i (i + 1) j)) = x i; rw [rot_at j i hji, HPI.out]
          have y2 : y (j - 1) = x (p (j - 1)) := by rw [hy]; show x (p (rotP j i (i + 1) (j - 1))) = _; rw [rot_under j i (j - 1) (by omega)]
          have HY1 := Lib.hid y1
          have HY2 := Lib.hid y2
          have HR : Hid (RwE _ g n y z) := Lib.hid (by rw [hy]; exact HRJ.out.drew)
          have HNX := Lib.hid (show ∀ V, RwE V g n (fun k => y (swapP j (j - 1) k)) z → RwE V g n (fun k => x (p (rotP (j - 1) i (i + 1) k))) z from fun V h => h.congr fun k _ => by rw [hy]; show x _ = x _; rw [rot_down j i k (by omega) (by omega)])
          have HBK := Lib.hid (show ∀ V, RwE V g n y z → RwE V g n (fun k => x (p (rotP j i (i + 1) k))) z from fun V h => by rw [hy] at h; exact h)
          have HG := Lib.hid (show decide ((a : Int) < (j : Int)) = true from decide_eq_true (by omega))
          have HWS := Lib.hid (wrap_sub (j := j) (by omega) (by omega))
          have HXJ := Lib.hid (self_row (j := j) (n := n) (by omega))
          have HXK := Lib.hid (sub_row (j := j) (n := n) (by omega) (by omega))
          clear hy y1 y2
          by_cases hc : ordE (y j) (y (j - 1)) < 0
          · have HD := Lib.hid (show decide (ordE (y j) (y (j - 1)) < 0) = true from decide_eq_true hc)
            have HM := Lib.hid (show ∀ k, j - 1 ≤ k → k < i → Lex (x i, t i) (x (p k), t (p k)) from fun k k1 k2 => by
              by_cases e : k = j - 1
              · subst e
                rw [HY1.out, HY2.out] at hc
                exact lex_yes hc
              · exact HM0.out k (by omega) k2)
            clear hc
            go_wp2_with fail
            refine wp_region_held_drew (S := fun V => V.rangeAt g (j * 21) (Fc.eventC (y j)).toList ∧ V.rangeAt g ((j - 1) * 21) (Fc.eventC (y (j - 1))).toList) (by kernel_rfl) ⟨HR.out.range size_c (by omega), HR.out.range size_c (by omega)⟩ (fun hHeld => ?_)
            refine Vc.wpAnyH_read (i := 0) (d := some 18) (v := ?v1) (by rfl) (by rfl) (by kernel_rfl) (by kernel_rfl) (by kernel_rfl) (fun _ _ _ h => h) (by rfl) ?hy1 (by assumption) ?rest1
            case hy1 =>
              intro w hSw
              go_simp
              try with_reducible rfl
            (try simp only [Act.put, List.setIfInBounds_toArray, List.set_cons_zero, List.set_cons_succ])
            refine Vc.wpAnyH_read (i := 1) (d := some 19) (v := ?v2) (by rfl) (by rfl) (by kernel_rfl) (by kernel_rfl) (by kernel_rfl) (fun _ _ _ h => h) (by rfl) ?hy2 (by assumption) ?rest2
            case hy2 =>
              intro w hSw
              go_simp
              try with_reducible rfl
            (try simp only [Act.put, List.setIfInBounds_toArray, List.set_cons_zero, List.set_cons_succ])
            refine Vc.wpAnyH_read (i := 2) (d := some 20) (v := .bool true) (by rfl) (by rfl) (by kernel_rfl) (by kernel_rfl) (by kernel_rfl) (fun _ _ _ h => h) (by rfl) ?hy3 (by assumption) ?rest3
            case hy3 =>
              intro w hSw
              go_simp
              all_goals first | (rw [HG.out]) | (have hd := HG.out; simp only [decide_eq_true_eq, decide_eq_false_iff_not] at hd; first | exact hd | omega)
            (try simp only [Act.put, List.setIfInBounds_toArray, List.set_cons_zero, List.set_cons_succ])
            refine Vc.wpAnyH_read (i := 3) (d := some 21) (v := ?v4) (by rfl) (by rfl) (by kernel_rfl) (by kernel_rfl) (by kernel_rfl) (fun _ _ _ h => h) (by rfl) ?hy4 (by assumption) ?rest4
            case hy4 =>
              intro w hSw
              go_simp
              try with_reducible rfl
            (try simp only [Act.put, List.setIfInBounds_toArray, List.set_cons_zero, List.set_cons_succ])
            refine Vc.wpAnyH_read (i := 4) (d := some 22) (v := ?v5) (by rfl) (by rfl) (by kernel_rfl) (by kernel_rfl) (by kernel_rfl) (fun _ _ _ h => h) (by rfl) ?hy5 (by assumption) ?rest5
            case hy5 =>
              intro w hSw
              go_simp
              try with_reducible rfl
            (try simp only [Act.put, List.setIfInBounds_toArray, List.set_cons_zero, List.set_cons_succ])
            refine Vc.wpAnyH_read (i := 5) (d := some 23) (v := ?v6) (by rfl) (by rfl) (by kernel_rfl) (by kernel_rfl) (by kernel_rfl) (fun _ _ _ h => h) (by rfl) ?hy6 (by assumption) ?rest6
            case hy6 =>
              intro w hSw
              go_simp
              try with_reducible rfl
            (try simp only [Act.put, List.setIfInBounds_toArray, List.set_cons_zero, List.set_cons_succ])
            refine Vc.wpAnyH_read (i := 6) (d := some 24) (v := ?v7) (by rfl) (by rfl) (by kernel_rfl) (by kernel_rfl) (by kernel_rfl) (fun _ _ _ h => h) (by rfl) ?hy7 (by assumption) ?rest7
            case hy7 =>
              intro w hSw
              go_simp
              try with_reducible rfl
            (try simp only [Act.put, List.setIfInBounds_toArray, List.set_cons_zero, List.set_cons_succ])
            refine Vc.wpAnyH_read (i := 7) (d := some 25) (v := .pointer (some ⟨g, (j) * 21, none⟩)) (by rfl) (by rfl) (by kernel_rfl) (by kernel_rfl) (by kernel_rfl) (fun _ _ _ h => h) (by rfl) ?hy8 (by assumption) ?rest8
            case hy8 =>
              intro w hSw
              go_simp
              first | (rw [if_pos HXJ.out.1, HXJ.out.2]) | (intro hh; exfalso; omega) | (intro hh; exfalso; have hh2 := hh (by omega); omega)
            (try simp only [Act.put, List.setIfInBounds_toArray, List.set_cons_zero, List.set_cons_succ])
            refine Vc.wpAnyH_read (i := 8) (d := some 26) (v := .agg (Fc.eventC (y j))) (by rfl) (by rfl) (by kernel_rfl) (by kernel_rfl) (by kernel_rfl) (fun _ _ _ h => h) (by rfl) ?hy9 (by assumption) ?rest9
            case hy9 =>
              intro w hSw
              exact Who.exec_loadA _ rfl rfl hSw.1 Tryd.underlying31 rfl Sr.info_event
            (try simp only [Act.put, List.setIfInBounds_toArray, List.set_cons_zero, List.set_cons_succ])
            refine Vc.wpAnyH_read (i := 9) (d := some 27) (v := ?v10) (by rfl) (by rfl) (by kernel_rfl) (by kernel_rfl) (by kernel_rfl) (fun _ _ _ h => h) (by rfl) ?hy10 (by assumption) ?rest10
            case hy10 =>
              intro w hSw
              go_simp
              try with_reducible rfl
            (try simp only [Act.put, List.setIfInBounds_toArray, List.set_cons_zero, List.set_cons_succ])
            refine Vc.wpAnyH_read (i := 10) (d := some 28) (v := ?v11) (by rfl) (by rfl) (by kernel_rfl) (by kernel_rfl) (by kernel_rfl) (fun _ _ _ h => h) (by rfl) ?hy11 (by assumption) ?rest11
            case hy11 =>
              intro w hSw
              go_simp
              try with_reducible rfl
            (try simp only [Act.put, List.setIfInBounds_toArray, List.set_cons_zero, List.set_cons_succ])
            refine Vc.wpAnyH_read (i := 11) (d := some 29) (v := .int .i64 ((j : Int) - 1)) (by rfl) (by rfl) (by kernel_rfl) (by kernel_rfl) (by kernel_rfl) (fun _ _ _ h => h) (by rfl) ?hy12 (by assumption) ?rest12
            case hy12 =>
              intro w hSw
              go_simp
              rw [HWS.out]
            (try simp only [Act.put, List.setIfInBounds_toArray, List.set_cons_zero, List.set_cons_succ])
            refine Vc.wpAnyH_read (i := 12) (d := some 30) (v := .pointer (some ⟨g, (j - 1) * 21, none⟩)) (by rfl) (by rfl) (by kernel_rfl) (by kernel_rfl) (by kernel_rfl) (fun _ _ _ h => h) (by rfl) ?hy13 (by assumption) ?rest13
            case hy13 =>
              intro w hSw
              go_simp
              first | (rw [if_pos HXK.out.1, HXK.out.2]) | (intro hh; exfalso; omega) | (intro hh; exfalso; have hh2 := hh (by omega); omega)
            (try simp only [Act.put, List.setIfInBounds_toArray, List.set_cons_zero, List.set_cons_succ])
            refine Vc.wpAnyH_read (i := 13) (d := some 31) (v := .agg (Fc.eventC (y (j - 1)))) (by rfl) (by rfl) (by kernel_rfl) (by kernel_rfl) (by kernel_rfl) (fun _ _ _ h => h) (by rfl) ?hy14 (by assumption) ?rest14
            case hy14 =>
              intro w hSw
              exact Who.exec_loadA _ rfl rfl hSw.2 Tryd.underlying31 rfl Sr.info_event
            (try simp only [Act.put, List.setIfInBounds_toArray, List.set_cons_zero, List.set_cons_succ])
            refine wpAnyH_ready (rs := [14]) (by kernel_rfl) (by simp) ?_
            refine AllReadyH.cons rfl (fun K hK => ?_) AllReadyH.nil
            go_simp
            go_at_call 34
            refine (order_any (y j) (y (j - 1)) _).mono ?_
            rintro q w2 ⟨rfl, hb⟩
            have HR2 := Lib.hid (HR.out.below hb)
            have HC2 := Lib.hid (HC.out.drew.trans (Chg.of_below hb _))
            clear hb
            refine hK.out _ _ ⟨HR2.out.range size_c (by omega), HR2.out.range size_c (by omega)⟩ (fun hHeld => ?_)
            clear hK K
            (try simp only [Act.put, List.setIfInBounds_toArray, List.set_cons_zero, List.set_cons_succ])
            refine Vc.wpAnyH_read (i := 15) (d := some 33) (v := .bool true) (by rfl) (by rfl) (by kernel_rfl) (by kernel_rfl) (by kernel_rfl) (fun _ _ _ h => h) (by rfl) ?hy15 (by assumption) ?rest15
            case hy15 =>
              intro w hSw
              go_simp
              all_goals first | (rw [HD.out]) | (have hd := HD.out; simp only [decide_eq_true_eq, decide_eq_false_iff_not] at hd; first | exact hd | omega)
            (try simp only [Act.put, List.setIfInBounds_toArray, List.set_cons_zero, List.set_cons_succ])
            refine Vc.wpAnyH_read (i := 16) (d := some 34) (v := ?v16) (by rfl) (by rfl) (by kernel_rfl) (by kernel_rfl) (by kernel_rfl) (fun _ _ _ h => h) (by rfl) ?hy16 (by assumption) ?rest16
            case hy16 =>
              intro w hSw
              go_simp
              try with_reducible rfl
            (try simp only [Act.put, List.setIfInBounds_toArray, List.set_cons_zero, List.set_cons_succ])
            refine wpAnyH_done (by kernel_rfl) ?_ _
            have HR3 := Lib.hid HR2.out.drew
            have HR4 := Lib.hid (HR3.out.set size_c (i := j) (by omega) (y (j - 1)))
            have HR5 := Lib.hid (HNX.out _ (HR3.out.swap size_c (i := j) (j := j - 1) (by omega) (by omega)))
            have HC5 := Lib.hid (HC2.out.drew.trans (chg_swap w2.drew g (j * 21) ((j - 1) * 21) (Fc.eventC (y (j - 1))).toList (Fc.eventC (y j)).toList))
            go_wp2_with fail
            refine wp_region_held_drew (S := fun _ => True) (by kernel_rfl) trivial (fun hHeld => ?_)
            refine Vc.wpAnyH_read (i := 0) (d := some 37) (v := ?v38) (by rfl) (by rfl) (by kernel_rfl) (by kernel_rfl) (by kernel_rfl) (fun _ _ _ h => h) (by rfl) ?hy38 (by assumption) ?rest38
            case hy38 =>
              intro w hSw
              go_simp
              try with_reducible rfl
            (try simp only [Act.put, List.setIfInBounds_toArray, List.set_cons_zero, List.set_cons_succ])
            refine Vc.wpAnyH_read (i := 1) (d := some 38) (v := ?v39) (by rfl) (by rfl) (by kernel_rfl) (by kernel_rfl) (by kernel_rfl) (fun _ _ _ h => h) (by rfl) ?hy39 (by assumption) ?rest39
            case hy39 =>
              intro w hSw
              go_simp
              try with_reducible rfl
            (try simp only [Act.put, List.setIfInBounds_toArray, List.set_cons_zero, List.set_cons_succ])
            refine Vc.wpAnyH_read (i := 2) (d := some 39) (v := ?v40) (by rfl) (by rfl) (by kernel_rfl) (by kernel_rfl) (by kernel_rfl) (fun _ _ _ h => h) (by rfl) ?hy40 (by assumption) ?rest40
            case hy40 =>
              intro w hSw
              go_simp
              try with_reducible rfl
            (try simp only [Act.put, List.setIfInBounds_toArray, List.set_cons_zero, List.set_cons_succ])
            refine Vc.wpAnyH_read (i := 3) (d := some 40) (v := ?v41) (by rfl) (by rfl) (by kernel_rfl) (by kernel_rfl) (by kernel_rfl) (fun _ _ _ h => h) (by rfl) ?hy41 (by assumption) ?rest41
            case hy41 =>
              intro w hSw
              go_simp
              try with_reducible rfl
            (try simp only [Act.put, List.setIfInBounds_toArray, List.set_cons_zero, List.set_cons_succ])
            refine Vc.wpAnyH_read (i := 4) (d := some 41) (v := .int .i64 ((j : Int) - 1)) (by rfl) (by rfl) (by kernel_rfl) (by kernel_rfl) (by kernel_rfl) (fun _ _ _ h => h) (by rfl) ?hy42 (by assumption) ?rest42
            case hy42 =>
              intro w hSw
              go_simp
              rw [HWS.out]
            (try simp only [Act.put, List.setIfInBounds_toArray, List.set_cons_zero, List.set_cons_succ])
            refine Vc.wpAnyH_read (i := 5) (d := some 42) (v := ?v43) (by rfl) (by rfl) (by kernel_rfl) (by kernel_rfl) (by kernel_rfl) (fun _ _ _ h => h) (by rfl) ?hy43 (by assumption) ?rest43
            case hy43 =>
              intro w hSw
              go_simp
              try with_reducible rfl
            (try simp only [Act.put, List.setIfInBounds_toArray, List.set_cons_zero, List.set_cons_succ])
            refine Vc.wpAnyH_read (i := 6) (d := some 43) (v := ?v44) (by rfl) (by rfl) (by kernel_rfl) (by kernel_rfl) (by kernel_rfl) (fun _ _ _ h => h) (by rfl) ?hy44 (by assumption) ?rest44
            case hy44 =>
              intro w hSw
              go_simp
              try with_reducible rfl
            (try simp only [Act.put, List.setIfInBounds_toArray, List.set_cons_zero, List.set_cons_succ])
            refine Vc.wpAnyH_read (i := 7) (d := some 44) (v := .int .i64 ((j : Int) - 1)) (by rfl) (by rfl) (by kernel_rfl) (by kernel_rfl) (by kernel_rfl) (fun _ _ _ h => h) (by rfl) ?hy45 (by assumption) ?rest45
            case hy45 =>
              intro w hSw
              go_simp
              rw [HWS.out]
            (try simp only [Act.put, List.setIfInBounds_toArray, List.set_cons_zero, List.set_cons_succ])
            refine Vc.wpAnyH_read (i := 8) (d := some 45) (v := .pointer (some ⟨g, (j - 1) * 21, none⟩)) (by rfl) (by rfl) (by kernel_rfl) (by kernel_rfl) (by kernel_rfl) (fun _ _ _ h => h) (by rfl) ?hy46 (by assumption) ?rest46
            case hy46 =>
              intro w hSw
              go_simp
              first | (rw [if_pos HXK.out.1, HXK.out.2]) | (intro hh; exfalso; omega) | (intro hh; exfalso; have hh2 := hh (by omega); omega)
            (try simp only [Act.put, List.setIfInBounds_toArray, List.set_cons_zero, List.set_cons_succ])
            refine Vc.wpAnyH_read (i := 10) (d := some 47) (v := ?v47) (by rfl) (by rfl) (by kernel_rfl) (by kernel_rfl) (by kernel_rfl) (fun _ _ _ h => h) (by rfl) ?hy47 (by assumption) ?rest47
            case hy47 =>
              intro w hSw
              go_simp
              try with_reducible rfl
            (try simp only [Act.put, List.setIfInBounds_toArray, List.set_cons_zero, List.set_cons_succ])
            refine Vc.wpAnyH_read (i := 11) (d := some 48) (v := ?v48) (by rfl) (by rfl) (by kernel_rfl) (by kernel_rfl) (by kernel_rfl) (fun _ _ _ h => h) (by rfl) ?hy48 (by assumption) ?rest48
            case hy48 =>
              intro w hSw
              go_simp
              try with_reducible rfl
            (try simp only [Act.put, List.setIfInBounds_toArray, List.set_cons_zero, List.set_cons_succ])
            refine Vc.wpAnyH_read (i := 12) (d := some 49) (v := .pointer (some ⟨g, (j) * 21, none⟩)) (by rfl) (by rfl) (by kernel_rfl) (by kernel_rfl) (by kernel_rfl) (fun _ _ _ h => h) (by rfl) ?hy49 (by assumption) ?rest49
            case hy49 =>
              intro w hSw
              go_simp
              first | (rw [if_pos HXJ.out.1, HXJ.out.2]) | (intro hh; exfalso; omega) | (intro hh; exfalso; have hh2 := hh (by omega); omega)
            (try simp only [Act.put, List.setIfInBounds_toArray, List.set_cons_zero, List.set_cons_succ])
            refine wpAnyH_ready (rs := [9, 13]) (by kernel_rfl) (by simp) ?_
            refine AllReadyH.cons rfl (fun K hK => ?_) (AllReadyH.cons rfl (fun K hK => ?_) AllReadyH.nil)
            · refine step_load 31 (.tmp 45) (by rfl) g ((j - 1) * 21) (Fc.eventC (y (j - 1))) 46 ?_
              refine And.intro ⟨by rfl, by rfl, by rfl, ⟨_, Tryd.underlying31, rfl⟩, Sr.info_event⟩ (And.intro (HR3.out.range size_c (by omega)) ?_)
              (try simp only [Act.put, List.setIfInBounds_toArray, List.set_cons_zero, List.set_cons_succ])
              refine hK.out _ _ trivial (fun hHeld => ?_)
              clear hK K
              (try simp only [Act.put, List.setIfInBounds_toArray, List.set_cons_zero, List.set_cons_succ])
              refine wpAnyH_ready (rs := [13]) (by kernel_rfl) (by simp) ?_
              refine AllReadyH.cons rfl (fun K hK => ?_) AllReadyH.nil
              refine step_load 31 (.tmp 49) (by rfl) g (j * 21) (Fc.eventC (y j)) 50 ?_
              refine And.intro ⟨by rfl, by rfl, by rfl, ⟨_, Tryd.underlying31, rfl⟩, Sr.info_event⟩ (And.intro (HR3.out.range size_c (by omega)) ?_)
              (try simp only [Act.put, List.setIfInBounds_toArray, List.set_cons_zero, List.set_cons_succ])
              refine hK.out _ _ trivial (fun hHeld => ?_)
              clear hK K
              (try simp only [Act.put, List.setIfInBounds_toArray, List.set_cons_zero, List.set_cons_succ])
              refine Vc.wpAnyH_read (i := 14) (d := some 51) (v := .pointer (some ⟨g, (j) * 21, none⟩)) (by rfl) (by rfl) (by kernel_rfl) (by kernel_rfl) (by kernel_rfl) (fun _ _ _ h => h) (by rfl) ?hy50 (by assumption) ?rest50
              case hy50 =>
                intro w hSw
                go_simp
                first | (rw [if_pos HXJ.out.1, HXJ.out.2]) | (intro hh; exfalso; omega) | (intro hh; exfalso; have hh2 := hh (by omega); omega)
              (try simp only [Act.put, List.setIfInBounds_toArray, List.set_cons_zero, List.set_cons_succ])
              refine ready_store (i := 15) (by kernel_rfl) (by rfl) 31 (.tmp 51) (.tmp 46) (by rfl) g (j * 21) (Fc.eventC (y (j - 1))) ?_
              refine And.intro ⟨by rfl, by rfl, by rfl, by rfl, Sr.info_event, (Sr.event_one _)⟩ (And.intro (HR3.out.there (by omega)) (And.intro trivial (fun hHeld => ?_)))
              (try simp only [Act.put, List.setIfInBounds_toArray, List.set_cons_zero, List.set_cons_succ])
              refine Vc.wpAnyH_read (i := 16) (d := some 52) (v := .pointer (some ⟨g, (j - 1) * 21, none⟩)) (by rfl) (by rfl) (by kernel_rfl) (by kernel_rfl) (by kernel_rfl) (fun _ _ _ h => h) (by rfl) ?hy51 (by assumption) ?rest51
              case hy51 =>
                intro w hSw
                go_simp
                first | (rw [if_pos HXK.out.1, HXK.out.2]) | (intro hh; exfalso; omega) | (intro hh; exfalso; have hh2 := hh (by omega); omega)
              (try simp only [Act.put, List.setIfInBounds_toArray, List.set_cons_zero, List.set_cons_succ])
              refine ready_store (i := 17) (by kernel_rfl) (by rfl) 31 (.tmp 52) (.tmp 50) (by rfl) g ((j - 1) * 21) (Fc.eventC (y j)) ?_
              refine And.intro ⟨by rfl, by rfl, by rfl, by rfl, Sr.info_event, (Sr.event_one _)⟩ (And.intro (HR4.out.there (by omega)) (And.intro trivial (fun hHeld => ?_)))
              (try simp only [Act.put, List.setIfInBounds_toArray, List.set_cons_zero, List.set_cons_succ])
              refine wpAnyH_done (by kernel_rfl) ?_ _
              go_wp2
              go_roundw
              case rel => exact ⟨j - 1, by congr 1; omega, by omega, by omega, HR5, HM.out, HC5⟩
              case measure => simp [intOf]; omega
            · refine step_load 31 (.tmp 49) (by rfl) g (j * 21) (Fc.eventC (y j)) 50 ?_
              refine And.intro ⟨by rfl, by rfl, by rfl, ⟨_, Tryd.underlying31, rfl⟩, Sr.info_event⟩ (And.intro (HR3.out.range size_c (by omega)) ?_)
              (try simp only [Act.put, List.setIfInBounds_toArray, List.set_cons_zero, List.set_cons_succ])
              refine hK.out _ _ trivial (fun hHeld => ?_)
              clear hK K
              (try simp only [Act.put, List.setIfInBounds_toArray, List.set_cons_zero, List.set_cons_succ])
              refine wpAnyH_ready (rs := [9]) (by kernel_rfl) (by simp) ?_
              refine AllReadyH.cons rfl (fun K hK => ?_) AllReadyH.nil
              refine step_load 31 (.tmp 45) (by rfl) g ((j - 1) * 21) (Fc.eventC (y (j - 1))) 46 ?_
              refine And.intro ⟨by rfl, by rfl, by rfl, ⟨_, Tryd.underlying31, rfl⟩, Sr.info_event⟩ (And.intro (HR3.out.range size_c (by omega)) ?_)
              (try simp only [Act.put, List.setIfInBounds_toArray, List.set_cons_zero, List.set_cons_succ])
              refine hK.out _ _ trivial (fun hHeld => ?_)
              clear hK K
              (try simp only [Act.put, List.setIfInBounds_toArray, List.set_cons_zero, List.set_cons_succ])
              refine Vc.wpAnyH_read (i := 14) (d := some 51) (v := .pointer (some ⟨g, (j) * 21, none⟩)) (by rfl) (by rfl) (by kernel_rfl) (by kernel_rfl) (by kernel_rfl) (fun _ _ _ h => h) (by rfl) ?hy52 (by assumption) ?rest52
              case hy52 =>
                intro w hSw
                go_simp
                first | (rw [if_pos HXJ.out.1, HXJ.out.2]) | (intro hh; exfalso; omega) | (intro hh; exfalso; have hh2 := hh (by omega); omega)
              (try simp only [Act.put, List.setIfInBounds_toArray, List.set_cons_zero, List.set_cons_succ])
              refine ready_store (i := 15) (by kernel_rfl) (by rfl) 31 (.tmp 51) (.tmp 46) (by rfl) g (j * 21) (Fc.eventC (y (j - 1))) ?_
              refine And.intro ⟨by rfl, by rfl, by rfl, by rfl, Sr.info_event, (Sr.event_one _)⟩ (And.intro (HR3.out.there (by omega)) (And.intro trivial (fun hHeld => ?_)))
              (try simp only [Act.put, List.setIfInBounds_toArray, List.set_cons_zero, List.set_cons_succ])
              refine Vc.wpAnyH_read (i := 16) (d := some 52) (v := .pointer (some ⟨g, (j - 1) * 21, none⟩)) (by rfl) (by rfl) (by kernel_rfl) (by kernel_rfl) (by kernel_rfl) (fun _ _ _ h => h) (by rfl) ?hy53 (by assumption) ?rest53
              case hy53 =>
                intro w hSw
                go_simp
                first | (rw [if_pos HXK.out.1, HXK.out.2]) | (intro hh; exfalso; omega) | (intro hh; exfalso; have hh2 := hh (by omega); omega)
              (try simp only [Act.put, List.setIfInBounds_toArray, List.set_cons_zero, List.set_cons_succ])
              refine ready_store (i := 17) (by kernel_rfl) (by rfl) 31 (.tmp 52) (.tmp 50) (by rfl) g ((j - 1) * 21) (Fc.eventC (y j)) ?_
              refine And.intro ⟨by rfl, by rfl, by rfl, by rfl, Sr.info_event, (Sr.event_one _)⟩ (And.intro (HR4.out.there (by omega)) (And.intro trivial (fun hHeld => ?_)))
              (try simp only [Act.put, List.setIfInBounds_toArray, List.set_cons_zero, List.set_cons_succ])
              refine wpAnyH_done (by kernel_rfl) ?_ _
              go_wp2
              go_roundw
              case rel => exact ⟨j - 1, by congr 1; omega, by omega, by omega, HR5, HM.out, HC5⟩
              case measure => simp [intOf]; omega
          · have HD := Lib.hid (show decide (ordE (y j) (y (j - 1)) < 0) = false from decide_eq_false hc)
            have HLT := Lib.hid (show ∀ k, a ≤ k → k < j → Lex (x (p k), t (p k)) (x i, t i) from fun k k1 k2 => by
              rw [HY1.out, HY2.out] at hc
              have h0 := lex_no hc (HIN.out (j - 1) (by omega) (by omega))
              by_cases e : k = j - 1
              · subst e
                exact h0
              · exact lex_trans (HS.out k (j - 1) k1 (by omega) (by omega)) h0)
            clear hc
            go_wp2_with fail
            refine wp_region_held_drew (S := fun V => V.rangeAt g (j * 21) (Fc.eventC (y j)).toList ∧ V.rangeAt g ((j - 1) * 21) (Fc.eventC (y (j - 1))).toList) (by kernel_rfl) ⟨HR.out.range size_c (by omega), HR.out.range size_c (by omega)⟩ (fun hHeld => ?_)
            refine Vc.wpAnyH_read (i := 0) (d := some 18) (v := ?v17) (by rfl) (by rfl) (by kernel_rfl) (by kernel_rfl) (by kernel_rfl) (fun _ _ _ h => h) (by rfl) ?hy17 (by assumption) ?rest17
            case hy17 =>
              intro w hSw
              go_simp
              try with_reducible rfl
            (try simp only [Act.put, List.setIfInBounds_toArray, List.set_cons_zero, List.set_cons_succ])
            refine Vc.wpAnyH_read (i := 1) (d := some 19) (v := ?v18) (by rfl) (by rfl) (by kernel_rfl) (by kernel_rfl) (by kernel_rfl) (fun _ _ _ h => h) (by rfl) ?hy18 (by assumption) ?rest18
            case hy18 =>
              intro w hSw
              go_simp
              try with_reducible rfl
            (try simp only [Act.put, List.setIfInBounds_toArray, List.set_cons_zero, List.set_cons_succ])
            refine Vc.wpAnyH_read (i := 2) (d := some 20) (v := .bool true) (by rfl) (by rfl) (by kernel_rfl) (by kernel_rfl) (by kernel_rfl) (fun _ _ _ h => h) (by rfl) ?hy19 (by assumption) ?rest19
            case hy19 =>
              intro w hSw
              go_simp
              all_goals first | (rw [HG.out]) | (have hd := HG.out; simp only [decide_eq_true_eq, decide_eq_false_iff_not] at hd; first | exact hd | omega)
            (try simp only [Act.put, List.setIfInBounds_toArray, List.set_cons_zero, List.set_cons_succ])
            refine Vc.wpAnyH_read (i := 3) (d := some 21) (v := ?v20) (by rfl) (by rfl) (by kernel_rfl) (by kernel_rfl) (by kernel_rfl) (fun _ _ _ h => h) (by rfl) ?hy20 (by assumption) ?rest20
            case hy20 =>
              intro w hSw
              go_simp
              try with_reducible rfl
            (try simp only [Act.put, List.setIfInBounds_toArray, List.set_cons_zero, List.set_cons_succ])
            refine Vc.wpAnyH_read (i := 4) (d := some 22) (v := ?v21) (by rfl) (by rfl) (by kernel_rfl) (by kernel_rfl) (by kernel_rfl) (fun _ _ _ h => h) (by rfl) ?hy21 (by assumption) ?rest21
            case hy21 =>
              intro w hSw
              go_simp
              try with_reducible rfl
            (try simp only [Act.put, List.setIfInBounds_toArray, List.set_cons_zero, List.set_cons_succ])
            refine Vc.wpAnyH_read (i := 5) (d := some 23) (v := ?v22) (by rfl) (by rfl) (by kernel_rfl) (by kernel_rfl) (by kernel_rfl) (fun _ _ _ h => h) (by rfl) ?hy22 (by assumption) ?rest22
            case hy22 =>
              intro w hSw
              go_simp
              try with_reducible rfl
            (try simp only [Act.put, List.setIfInBounds_toArray, List.set_cons_zero, List.set_cons_succ])
            refine Vc.wpAnyH_read (i := 6) (d := some 24) (v := ?v23) (by rfl) (by rfl) (by kernel_rfl) (by kernel_rfl) (by kernel_rfl) (fun _ _ _ h => h) (by rfl) ?hy23 (by assumption) ?rest23
            case hy23 =>
              intro w hSw
              go_simp
              try with_reducible rfl
            (try simp only [Act.put, List.setIfInBounds_toArray, List.set_cons_zero, List.set_cons_succ])
            refine Vc.wpAnyH_read (i := 7) (d := some 25) (v := .pointer (some ⟨g, (j) * 21, none⟩)) (by rfl) (by rfl) (by kernel_rfl) (by kernel_rfl) (by kernel_rfl) (fun _ _ _ h => h) (by rfl) ?hy24 (by assumption) ?rest24
            case hy24 =>
              intro w hSw
              go_simp
              first | (rw [if_pos HXJ.out.1, HXJ.out.2]) | (intro hh; exfalso; omega) | (intro hh; exfalso; have hh2 := hh (by omega); omega)
            (try simp only [Act.put, List.setIfInBounds_toArray, List.set_cons_zero, List.set_cons_succ])
            refine Vc.wpAnyH_read (i := 8) (d := some 26) (v := .agg (Fc.eventC (y j))) (by rfl) (by rfl) (by kernel_rfl) (by kernel_rfl) (by kernel_rfl) (fun _ _ _ h => h) (by rfl) ?hy25 (by assumption) ?rest25
            case hy25 =>
              intro w hSw
              exact Who.exec_loadA _ rfl rfl hSw.1 Tryd.underlying31 rfl Sr.info_event
            (try simp only [Act.put, List.setIfInBounds_toArray, List.set_cons_zero, List.set_cons_succ])
            refine Vc.wpAnyH_read (i := 9) (d := some 27) (v := ?v26) (by rfl) (by rfl) (by kernel_rfl) (by kernel_rfl) (by kernel_rfl) (fun _ _ _ h => h) (by rfl) ?hy26 (by assumption) ?rest26
            case hy26 =>
              intro w hSw
              go_simp
              try with_reducible rfl
            (try simp only [Act.put, List.setIfInBounds_toArray, List.set_cons_zero, List.set_cons_succ])
            refine Vc.wpAnyH_read (i := 10) (d := some 28) (v := ?v27) (by rfl) (by rfl) (by kernel_rfl) (by kernel_rfl) (by kernel_rfl) (fun _ _ _ h => h) (by rfl) ?hy27 (by assumption) ?rest27
            case hy27 =>
              intro w hSw
              go_simp
              try with_reducible rfl
            (try simp only [Act.put, List.setIfInBounds_toArray, List.set_cons_zero, List.set_cons_succ])
            refine Vc.wpAnyH_read (i := 11) (d := some 29) (v := .int .i64 ((j : Int) - 1)) (by rfl) (by rfl) (by kernel_rfl) (by kernel_rfl) (by kernel_rfl) (fun _ _ _ h => h) (by rfl) ?hy28 (by assumption) ?rest28
            case hy28 =>
              intro w hSw
              go_simp
              rw [HWS.out]
            (try simp only [Act.put, List.setIfInBounds_toArray, List.set_cons_zero, List.set_cons_succ])
            refine Vc.wpAnyH_read (i := 12) (d := some 30) (v := .pointer (some ⟨g, (j - 1) * 21, none⟩)) (by rfl) (by rfl) (by kernel_rfl) (by kernel_rfl) (by kernel_rfl) (fun _ _ _ h => h) (by rfl) ?hy29 (by assumption) ?rest29
            case hy29 =>
              intro w hSw
              go_simp
              first | (rw [if_pos HXK.out.1, HXK.out.2]) | (intro hh; exfalso; omega) | (intro hh; exfalso; have hh2 := hh (by omega); omega)
            (try simp only [Act.put, List.setIfInBounds_toArray, List.set_cons_zero, List.set_cons_succ])
            refine Vc.wpAnyH_read (i := 13) (d := some 31) (v := .agg (Fc.eventC (y (j - 1)))) (by rfl) (by rfl) (by kernel_rfl) (by kernel_rfl) (by kernel_rfl) (fun _ _ _ h => h) (by rfl) ?hy30 (by assumption) ?rest30
            case hy30 =>
              intro w hSw
              exact Who.exec_loadA _ rfl rfl hSw.2 Tryd.underlying31 rfl Sr.info_event
            (try simp only [Act.put, List.setIfInBounds_toArray, List.set_cons_zero, List.set_cons_succ])
            refine wpAnyH_ready (rs := [14]) (by kernel_rfl) (by simp) ?_
            refine AllReadyH.cons rfl (fun K hK => ?_) AllReadyH.nil
            go_simp
            go_at_call 34
            refine (order_any (y j) (y (j - 1)) _).mono ?_
            rintro q w2 ⟨rfl, hb⟩
            have HR2 := Lib.hid (HR.out.below hb)
            have HC2 := Lib.hid (HC.out.drew.trans (Chg.of_below hb _))
            clear hb
            refine hK.out _ _ ⟨HR2.out.range size_c (by omega), HR2.out.range size_c (by omega)⟩ (fun hHeld => ?_)
            clear hK K
            (try simp only [Act.put, List.setIfInBounds_toArray, List.set_cons_zero, List.set_cons_succ])
            refine Vc.wpAnyH_read (i := 15) (d := some 33) (v := .bool false) (by rfl) (by rfl) (by kernel_rfl) (by kernel_rfl) (by kernel_rfl) (fun _ _ _ h => h) (by rfl) ?hy31 (by assumption) ?rest31
            case hy31 =>
              intro w hSw
              go_simp
              all_goals first | (rw [HD.out]) | (have hd := HD.out; simp only [decide_eq_true_eq, decide_eq_false_iff_not] at hd; first | exact hd | omega)
            (try simp only [Act.put, List.setIfInBounds_toArray, List.set_cons_zero, List.set_cons_succ])
            refine Vc.wpAnyH_read (i := 16) (d := some 34) (v := ?v32) (by rfl) (by rfl) (by kernel_rfl) (by kernel_rfl) (by kernel_rfl) (fun _ _ _ h => h) (by rfl) ?hy32 (by assumption) ?rest32
            case hy32 =>
              intro w hSw
              go_simp
              try with_reducible rfl
            (try simp only [Act.put, List.setIfInBounds_toArray, List.set_cons_zero, List.set_cons_succ])
            refine wpAnyH_done (by kernel_rfl) ?_ _
            go_wp2
            go_roundw
            case rel => exact ⟨i + 1, by go_num, by omega, by omega, Lib.hid (FIN.out HLT.out _ (HBK.out _ HR2.out)), HC2⟩
            case measure => simp [intOf]; omega
        · have HG := Lib.hid (show decide ((a : Int) < (j : Int)) = false from decide_eq_false (by omega))
          have HRD := Lib.hid HRJ.out.drew
          have HCD := Lib.hid HC.out.drew
          go_wp2_with fail
          refine wp_region_held_drew (S := fun _ => True) (by kernel_rfl) trivial (fun hHeld => ?_)
          refine Vc.wpAnyH_read (i := 0) (d := some 18) (v := ?v33) (by rfl) (by rfl) (by kernel_rfl) (by kernel_rfl) (by kernel_rfl) (fun _ _ _ h => h) (by rfl) ?hy33 (by assumption) ?rest33
          case hy33 =>
            intro w hSw
            go_simp
            try with_reducible rfl
          (try simp only [Act.put, List.setIfInBounds_toArray, List.set_cons_zero, List.set_cons_succ])
          refine Vc.wpAnyH_read (i := 1) (d := some 19) (v := ?v34) (by rfl) (by rfl) (by kernel_rfl) (by kernel_rfl) (by kernel_rfl) (fun _ _ _ h => h) (by rfl) ?hy34 (by assumption) ?rest34
          case hy34 =>
            intro w hSw
            go_simp
            try with_reducible rfl
          (try simp only [Act.put, List.setIfInBounds_toArray, List.set_cons_zero, List.set_cons_succ])
          refine Vc.wpAnyH_read (i := 2) (d := some 20) (v := .bool false) (by rfl) (by rfl) (by kernel_rfl) (by kernel_rfl) (by kernel_rfl) (fun _ _ _ h => h) (by rfl) ?hy35 (by assumption) ?rest35
          case hy35 =>
            intro w hSw
            go_simp
            all_goals first | (rw [HG.out]) | (have hd := HG.out; simp only [decide_eq_true_eq, decide_eq_false_iff_not] at hd; first | exact hd | omega)
          (try simp only [Act.put, List.setIfInBounds_toArray, List.set_cons_zero, List.set_cons_succ])
          refine Vc.wpAnyH_read (i := 3) (d := some 21) (v := ?v36) (by rfl) (by rfl) (by kernel_rfl) (by kernel_rfl) (by kernel_rfl) (fun _ _ _ h => h) (by rfl) ?hy36 (by assumption) ?rest36
          case hy36 =>
            intro w hSw
            go_simp
            try with_reducible rfl
          (try simp only [Act.put, List.setIfInBounds_toArray, List.set_cons_zero, List.set_cons_succ])
          refine Vc.wpAnyH_skip (i := 4) (d := some 22) (by rfl) (by rfl) (by kernel_rfl) (by kernel_rfl) (by kernel_rfl) (fun _ _ _ h => h) (by rfl) (by assumption) ?_
          (try simp only [Act.put, List.setIfInBounds_toArray, List.set_cons_zero, List.set_cons_succ])
          refine Vc.wpAnyH_skip (i := 5) (d := some 23) (by rfl) (by rfl) (by kernel_rfl) (by kernel_rfl) (by kernel_rfl) (fun _ _ _ h => h) (by rfl) (by assumption) ?_
          (try simp only [Act.put, List.setIfInBounds_toArray, List.set_cons_zero, List.set_cons_succ])
          refine Vc.wpAnyH_skip (i := 6) (d := some 24) (by rfl) (by rfl) (by kernel_rfl) (by kernel_rfl) (by kernel_rfl) (fun _ _ _ h => h) (by rfl) (by assumption) ?_
          (try simp only [Act.put, List.setIfInBounds_toArray, List.set_cons_zero, List.set_cons_succ])
          refine Vc.wpAnyH_skip (i := 7) (d := some 25) (by rfl) (by rfl) (by kernel_rfl) (by kernel_rfl) (by kernel_rfl) (fun _ _ _ h => h) (by rfl) (by assumption) ?_
          (try simp only [Act.put, List.setIfInBounds_toArray, List.set_cons_zero, List.set_cons_succ])
          refine Vc.wpAnyH_skip (i := 8) (d := some 26) (by rfl) (by rfl) (by kernel_rfl) (by kernel_rfl) (by kernel_rfl) (fun _ _ _ h => h) (by rfl) (by assumption) ?_
          (try simp only [Act.put, List.setIfInBounds_toArray, List.set_cons_zero, List.set_cons_succ])
          refine Vc.wpAnyH_skip (i := 9) (d := some 27) (by rfl) (by rfl) (by kernel_rfl) (by kernel_rfl) (by kernel_rfl) (fun _ _ _ h => h) (by rfl) (by assumption) ?_
          (try simp only [Act.put, List.setIfInBounds_toArray, List.set_cons_zero, List.set_cons_succ])
          refine Vc.wpAnyH_skip (i := 10) (d := some 28) (by rfl) (by rfl) (by kernel_rfl) (by kernel_rfl) (by kernel_rfl) (fun _ _ _ h => h) (by rfl) (by assumption) ?_
          (try simp only [Act.put, List.setIfInBounds_toArray, List.set_cons_zero, List.set_cons_succ])
          refine Vc.wpAnyH_skip (i := 11) (d := some 29) (by rfl) (by rfl) (by kernel_rfl) (by kernel_rfl) (by kernel_rfl) (fun _ _ _ h => h) (by rfl) (by assumption) ?_
          (try simp only [Act.put, List.setIfInBounds_toArray, List.set_cons_zero, List.set_cons_succ])
          refine Vc.wpAnyH_skip (i := 12) (d := some 30) (by rfl) (by rfl) (by kernel_rfl) (by kernel_rfl) (by kernel_rfl) (fun _ _ _ h => h) (by rfl) (by assumption) ?_
          (try simp only [Act.put, List.setIfInBounds_toArray, List.set_cons_zero, List.set_cons_succ])
          refine Vc.wpAnyH_skip (i := 13) (d := some 31) (by rfl) (by rfl) (by kernel_rfl) (by kernel_rfl) (by kernel_rfl) (fun _ _ _ h => h) (by rfl) (by assumption) ?_
          (try simp only [Act.put, List.setIfInBounds_toArray, List.set_cons_zero, List.set_cons_succ])
          refine Vc.wpAnyH_skip (i := 14) (d := some 32) (by rfl) (by rfl) (by kernel_rfl) (by kernel_rfl) (by kernel_rfl) (fun _ _ _ h => h) (by rfl) (by assumption) ?_
          (try simp only [Act.put, List.setIfInBounds_toArray, List.set_cons_zero, List.set_cons_succ])
          refine Vc.wpAnyH_skip (i := 15) (d := some 33) (by rfl) (by rfl) (by kernel_rfl) (by kernel_rfl) (by kernel_rfl) (fun _ _ _ h => h) (by rfl) (by assumption) ?_
          (try simp only [Act.put, List.setIfInBounds_toArray, List.set_cons_zero, List.set_cons_succ])
          refine Vc.wpAnyH_read (i := 16) (d := some 34) (v := ?v37) (by rfl) (by rfl) (by kernel_rfl) (by kernel_rfl) (by kernel_rfl) (fun _ _ _ h => h) (by rfl) ?hy37 (by assumption) ?rest37
          case hy37 =>
            intro w hSw
            go_simp
            try with_reducible rfl
          (try simp only [Act.put, List.setIfInBounds_toArray, List.set_cons_zero, List.set_cons_succ])
          refine wpAnyH_done (by kernel_rfl) ?_ _
          go_wp2
          go_roundw
          case rel => exact ⟨i + 1, by go_num, by omega, by omega, Lib.hid (FIN.out (fun k k1 k2 => by omega) _ HRD.out), HCD⟩
          case measure => simp [intOf]; omega
    · rw [Nat.min_eq_right (by omega)] at hp hs
      have HE := Lib.hid (show ∃ p, Re a b p ∧ RwE _ g n (fun k => x (p k)) z ∧ Srt Lex (fun k => (x (p k), t (p k))) a b from ⟨p, hp, hr, hs⟩)
      clear hp hs hr
      go_wp2
      go_end0
      exact ⟨rfl, HC0.out, HE.out⟩
end Go.Proofs.YtdbmnnmcelaehaaDoor.Stab
