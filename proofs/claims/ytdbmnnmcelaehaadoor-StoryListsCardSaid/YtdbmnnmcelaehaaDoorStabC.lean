/- The library's stable sort over a type of structs: ranges exchanged, rotated. -/
import Derived.Test.YtdbmnnmcelaehaaDoorStabB
import Derived.Test.YtdbmnnmcelaehaaDoorSrE
import Derived.Lib.QuoteBits
namespace Go.Proofs.YtdbmnnmcelaehaaDoor.Stab
open Go.RowKit Go.Proofs.YtdbmnnmcelaehaaDoor.Mem
set_option linter.unusedVariables false set_option linter.unusedSimpArgs false

theorem step_load {P : Program} {ops : Array Oper} {o : Oper} {a : Act} {w : World} {K : Act → World → Prop} {Q : Exit → Act → World → Prop} {E : Prop} (ty : TypeId) (x : Operand) (ho : o.op = .load ty x) (b q : Nat) (C : Array Value) (s : Tmp)
    (h : (Region.wanted o (yielded ops a.tmps) = true ∧ o.dst = some s ∧ a.eval x = .pointer (some ⟨b, q, none⟩) ∧ (∃ d, P.underlying ty = some d ∧ d.isRow = true) ∧ (P.info? ty).map (·.size) = some C.size) ∧ w.rangeAt b q C.toList ∧ K (a.put (some s) (.agg C)) w) :
    if Region.wanted o (yielded ops a.tmps) = true then Oper.wp P o a w K Q else E := by
  obtain ⟨⟨h1, h0, h2, ⟨d, h3, h4⟩, h5⟩, h6, h7⟩ := h
  rw [if_pos h1]
  exact wp_load_mid ty x ho b q h2 C.toList d h6 h3 h4 (by simpa using h5) (by rw [h0]; simpa using h7)
theorem step_store {P : Program} {ops : Array Oper} {o : Oper} {a : Act} {w : World} {K : Act → World → Prop} {Q : Exit → Act → World → Prop} {E : Prop} (ty : TypeId) (x y : Operand) (ho : o.op = .store ty x y) (b q : Nat) (C : Array Value)
    (h : (Region.wanted o (yielded ops a.tmps) = true ∧ o.dst = none ∧ a.eval x = .pointer (some ⟨b, q, none⟩) ∧ a.eval y = .agg C ∧ (P.info? ty).map (·.size) = some C.size ∧ C.all (·.oneCell') = true) ∧ w.there b q C.size ∧ K a (w.setCells b q C.toList)) :
    if Region.wanted o (yielded ops a.tmps) = true then Oper.wp P o a w K Q else E := by
  obtain ⟨⟨h1, h0, h2, h3, h4, h5⟩, h6, h7⟩ := h
  rw [if_pos h1]
  exact wp_store_mid ty x y ho b q C h2 h3 h6 h4 h5 (by rw [h0]; exact h7)
theorem ready_store {P : Program} {ops : Array Oper} {Q : Exit → Act → World → Prop} {md : Region.Mode} {S : World → Prop} {fuel : Nat} {listed : Array Bool} {a : Act} {w : World} {i : Nat} {o : Oper} (hr : Region.ready md ops listed = [i]) (ho : ops[i]? = some o) (ty : TypeId) (x y : Operand) (hop : o.op = .store ty x y) (b q : Nat) (C : Array Value)
    (h : (Region.wanted o (yielded ops a.tmps) = true ∧ o.dst = none ∧ a.eval x = .pointer (some ⟨b, q, none⟩) ∧ a.eval y = .agg C ∧ (P.info? ty).map (·.size) = some C.size ∧ C.all (·.oneCell') = true) ∧ w.there b q C.size ∧ S (w.setCells b q C.toList) ∧ (S (w.setCells b q C.toList) → wpAnyH P md ops Q S fuel (listed.setIfInBounds i true) a (w.setCells b q C.toList))) : wpAnyH P md ops Q S (fuel + 1) listed a w :=
  wpAnyH_ready hr (by simp) (AllReadyH.cons ho (fun K hK => step_store ty x y hop b q C ⟨h.1, h.2.1, hK.out _ _ h.2.2.1 h.2.2.2⟩) AllReadyH.nil)
theorem wrap_add {i j : Nat} (h : i + j < 9223372036854775808) : IntKind.i64.wrap ((i : Int) + (j : Int)) = (i : Int) + (j : Int) := by
  rw [← Int.natCast_add]
  exact Lib.wrap_i64_small _ h
theorem in_row {i j n : Nat} (h : i + j < n) : (0 ≤ (i : Int) + (j : Int) ∧ (i : Int) + (j : Int) < (n : Int)) ∧ ((i : Int) + (j : Int)).toNat = i + j := ⟨⟨by omega, by omega⟩, by omega⟩
abbrev RwE (w : World) (g n : Nat) (x : Nat → Fc.EventC) (z : List Value) : Prop := Rw w g 31 Fc.eventC 21 n x z
theorem size_c (e : Fc.EventC) : (Fc.eventC e).size = 21 := rfl
set_option maxRecDepth 100000 in
set_option maxHeartbeats 1000000 in
theorem swapRange_any (g c n a b m : Nat) (f : Value) (x : Nat → Fc.EventC) (z : List Value) (hn : n ≤ 4000000000) (hab : a + m ≤ b) (hbn : b + m ≤ n) (w : World) (h : RwE w g n x z) :
    Calls Tryd.prog 81 #[.slice (some ⟨g, 0, none⟩) n c, .int .i64 a, .int .i64 b, .int .i64 m, f] w fun e w' => e = .returned (.tuple #[]) ∧ Chg (· = g) w w' ∧ RwE w' g n (fun k => x (swapR a b m k)) z := by
  have H0 := Lib.hid h
  have HK := Lib.hid size_c
  clear h
  go_enter Tryd.func81, Tryd.ntmps81
  go_wp2
  go_loopw [10] (fun i wr => ∃ j : Nat, j ≤ m ∧ i = .int .i64 j ∧ Hid (RwE wr g n (fun k => x (swapR a b j k)) z) ∧ Hid (Chg (· = g) w wr)) (fun i _ => m - (intOf i).toNat)
  case atStart => exact ⟨0, Nat.zero_le _, rfl, Lib.hid (H0.out.congr fun i _ => by rw [swapR_zero]), Lib.hid (Chg.refl _ _)⟩
  case round =>
    obtain ⟨j, hj, rfl, HR0, HC⟩ := hrel
    by_cases hlt : j < m
    · obtain ⟨y, hy⟩ : ∃ y : Nat → Fc.EventC, y = fun k => x (swapR a b j k) := ⟨_, rfl⟩
      have HR : Hid (RwE wr.drew g n y z) := Lib.hid (by rw [hy]; exact HR0.out.drew)
      have HR1 := Lib.hid (HR.out.set HK.out (i := a + j) (by omega) (y (b + j)))
      have HX := Lib.hid (show ∀ V, RwE V g n (fun k => y (swapP (a + j) (b + j) k)) z → RwE V g n (fun k => x (swapR a b (j + 1) k)) z from fun V h => h.congr fun i _ => by rw [hy]; show x _ = x _; rw [swapR_step a b j i (by omega)])
      have HR2 := Lib.hid (HX.out _ (HR.out.swap HK.out (i := a + j) (j := b + j) (by omega) (by omega)))
      have HC2 := Lib.hid (HC.out.drew.trans ((chg_swap wr.drew g ((a + j) * 21) ((b + j) * 21) (Fc.eventC (y (b + j))).toList (Fc.eventC (y (a + j))).toList)))
      have HWA := Lib.hid (wrap_add (i := a) (j := j) (by omega))
      have HWB := Lib.hid (wrap_add (i := b) (j := j) (by omega))
      have HXA := Lib.hid (in_row (i := a) (j := j) (n := n) (by omega))
      have HXB := Lib.hid (in_row (i := b) (j := j) (n := n) (by omega))
      clear hy HX HR0
      go_wp2_with fail
      refine wp_region_held_drew (S := fun _ => True) (by kernel_rfl) trivial (fun hHeld => ?_)
      show wpAnyH _ _ _ _ _ 24 #[false, false, false, false, false, false, false, false, false, false, false, false, false, false, false, false, false, false, false, false, false, false, false, false] _ _
      refine Vc.wpAnyH_read (i := 0) (d := some 16) (v := ?v1) (by rfl) (by rfl) (by kernel_rfl) (by kernel_rfl) (by kernel_rfl) (fun _ _ _ h => h) (by rfl) ?hy1 (by assumption) ?rest1
      case hy1 =>
        intro w hSw
        go_simp
        try with_reducible rfl
      (try simp only [Act.put, List.setIfInBounds_toArray, List.set_cons_zero, List.set_cons_succ])
      refine Vc.wpAnyH_read (i := 1) (d := some 17) (v := ?v2) (by rfl) (by rfl) (by kernel_rfl) (by kernel_rfl) (by kernel_rfl) (fun _ _ _ h => h) (by rfl) ?hy2 (by assumption) ?rest2
      case hy2 =>
        intro w hSw
        go_simp
        try with_reducible rfl
      (try simp only [Act.put, List.setIfInBounds_toArray, List.set_cons_zero, List.set_cons_succ])
      refine Vc.wpAnyH_read (i := 2) (d := some 18) (v := ?v3) (by rfl) (by rfl) (by kernel_rfl) (by kernel_rfl) (by kernel_rfl) (fun _ _ _ h => h) (by rfl) ?hy3 (by assumption) ?rest3
      case hy3 =>
        intro w hSw
        go_simp
        try with_reducible rfl
      (try simp only [Act.put, List.setIfInBounds_toArray, List.set_cons_zero, List.set_cons_succ])
      refine Vc.wpAnyH_read (i := 3) (d := some 19) (v := .int .i64 ((a : Int) + (j : Int))) (by rfl) (by rfl) (by kernel_rfl) (by kernel_rfl) (by kernel_rfl) (fun _ _ _ h => h) (by rfl) ?hy4 (by assumption) ?rest4
      case hy4 =>
        intro w hSw
        go_simp
        rw [HWA.out]
      (try simp only [Act.put, List.setIfInBounds_toArray, List.set_cons_zero, List.set_cons_succ])
      refine Vc.wpAnyH_read (i := 4) (d := some 20) (v := ?v5) (by rfl) (by rfl) (by kernel_rfl) (by kernel_rfl) (by kernel_rfl) (fun _ _ _ h => h) (by rfl) ?hy5 (by assumption) ?rest5
      case hy5 =>
        intro w hSw
        go_simp
        try with_reducible rfl
      (try simp only [Act.put, List.setIfInBounds_toArray, List.set_cons_zero, List.set_cons_succ])
      refine Vc.wpAnyH_read (i := 5) (d := some 21) (v := ?v6) (by rfl) (by rfl) (by kernel_rfl) (by kernel_rfl) (by kernel_rfl) (fun _ _ _ h => h) (by rfl) ?hy6 (by assumption) ?rest6
      case hy6 =>
        intro w hSw
        go_simp
        try with_reducible rfl
      (try simp only [Act.put, List.setIfInBounds_toArray, List.set_cons_zero, List.set_cons_succ])
      refine Vc.wpAnyH_read (i := 6) (d := some 22) (v := ?v7) (by rfl) (by rfl) (by kernel_rfl) (by kernel_rfl) (by kernel_rfl) (fun _ _ _ h => h) (by rfl) ?hy7 (by assumption) ?rest7
      case hy7 =>
        intro w hSw
        go_simp
        try with_reducible rfl
      (try simp only [Act.put, List.setIfInBounds_toArray, List.set_cons_zero, List.set_cons_succ])
      refine Vc.wpAnyH_read (i := 7) (d := some 23) (v := .int .i64 ((b : Int) + (j : Int))) (by rfl) (by rfl) (by kernel_rfl) (by kernel_rfl) (by kernel_rfl) (fun _ _ _ h => h) (by rfl) ?hy8 (by assumption) ?rest8
      case hy8 =>
        intro w hSw
        go_simp
        rw [HWB.out]
      (try simp only [Act.put, List.setIfInBounds_toArray, List.set_cons_zero, List.set_cons_succ])
      refine Vc.wpAnyH_read (i := 8) (d := some 24) (v := ?v9) (by rfl) (by rfl) (by kernel_rfl) (by kernel_rfl) (by kernel_rfl) (fun _ _ _ h => h) (by rfl) ?hy9 (by assumption) ?rest9
      case hy9 =>
        intro w hSw
        go_simp
        try with_reducible rfl
      (try simp only [Act.put, List.setIfInBounds_toArray, List.set_cons_zero, List.set_cons_succ])
      refine Vc.wpAnyH_read (i := 9) (d := some 25) (v := ?v10) (by rfl) (by rfl) (by kernel_rfl) (by kernel_rfl) (by kernel_rfl) (fun _ _ _ h => h) (by rfl) ?hy10 (by assumption) ?rest10
      case hy10 =>
        intro w hSw
        go_simp
        try with_reducible rfl
      (try simp only [Act.put, List.setIfInBounds_toArray, List.set_cons_zero, List.set_cons_succ])
      refine Vc.wpAnyH_read (i := 10) (d := some 26) (v := ?v11) (by rfl) (by rfl) (by kernel_rfl) (by kernel_rfl) (by kernel_rfl) (fun _ _ _ h => h) (by rfl) ?hy11 (by assumption) ?rest11
      case hy11 =>
        intro w hSw
        go_simp
        try with_reducible rfl
      (try simp only [Act.put, List.setIfInBounds_toArray, List.set_cons_zero, List.set_cons_succ])
      refine Vc.wpAnyH_read (i := 11) (d := some 27) (v := .int .i64 ((b : Int) + (j : Int))) (by rfl) (by rfl) (by kernel_rfl) (by kernel_rfl) (by kernel_rfl) (fun _ _ _ h => h) (by rfl) ?hy12 (by assumption) ?rest12
      case hy12 =>
        intro w hSw
        go_simp
        rw [HWB.out]
      (try simp only [Act.put, List.setIfInBounds_toArray, List.set_cons_zero, List.set_cons_succ])
      refine Vc.wpAnyH_read (i := 12) (d := some 28) (v := .pointer (some ⟨g, (b + j) * 21, none⟩)) (by rfl) (by rfl) (by kernel_rfl) (by kernel_rfl) (by kernel_rfl) (fun _ _ _ h => h) (by rfl) ?hy13 (by assumption) ?rest13
      case hy13 =>
        intro w hSw
        go_simp
        rw [if_pos HXB.out.1, HXB.out.2]
      (try simp only [Act.put, List.setIfInBounds_toArray, List.set_cons_zero, List.set_cons_succ])
      refine Vc.wpAnyH_read (i := 14) (d := some 30) (v := ?v14) (by rfl) (by rfl) (by kernel_rfl) (by kernel_rfl) (by kernel_rfl) (fun _ _ _ h => h) (by rfl) ?hy14 (by assumption) ?rest14
      case hy14 =>
        intro w hSw
        go_simp
        try with_reducible rfl
      (try simp only [Act.put, List.setIfInBounds_toArray, List.set_cons_zero, List.set_cons_succ])
      refine Vc.wpAnyH_read (i := 15) (d := some 31) (v := ?v15) (by rfl) (by rfl) (by kernel_rfl) (by kernel_rfl) (by kernel_rfl) (fun _ _ _ h => h) (by rfl) ?hy15 (by assumption) ?rest15
      case hy15 =>
        intro w hSw
        go_simp
        try with_reducible rfl
      (try simp only [Act.put, List.setIfInBounds_toArray, List.set_cons_zero, List.set_cons_succ])
      refine Vc.wpAnyH_read (i := 16) (d := some 32) (v := ?v16) (by rfl) (by rfl) (by kernel_rfl) (by kernel_rfl) (by kernel_rfl) (fun _ _ _ h => h) (by rfl) ?hy16 (by assumption) ?rest16
      case hy16 =>
        intro w hSw
        go_simp
        try with_reducible rfl
      (try simp only [Act.put, List.setIfInBounds_toArray, List.set_cons_zero, List.set_cons_succ])
      refine Vc.wpAnyH_read (i := 17) (d := some 33) (v := .int .i64 ((a : Int) + (j : Int))) (by rfl) (by rfl) (by kernel_rfl) (by kernel_rfl) (by kernel_rfl) (fun _ _ _ h => h) (by rfl) ?hy17 (by assumption) ?rest17
      case hy17 =>
        intro w hSw
        go_simp
        rw [HWA.out]
      (try simp only [Act.put, List.setIfInBounds_toArray, List.set_cons_zero, List.set_cons_succ])
      refine Vc.wpAnyH_read (i := 18) (d := some 34) (v := .pointer (some ⟨g, (a + j) * 21, none⟩)) (by rfl) (by rfl) (by kernel_rfl) (by kernel_rfl) (by kernel_rfl) (fun _ _ _ h => h) (by rfl) ?hy18 (by assumption) ?rest18
      case hy18 =>
        intro w hSw
        go_simp
        rw [if_pos HXA.out.1, HXA.out.2]
      (try simp only [Act.put, List.setIfInBounds_toArray, List.set_cons_zero, List.set_cons_succ])
      refine wpAnyH_ready (rs := [13, 19]) (by kernel_rfl) (by simp) ?_
      refine AllReadyH.cons rfl (fun K hK => ?_) (AllReadyH.cons rfl (fun K hK => ?_) AllReadyH.nil)
      · refine step_load 31 (.tmp 28) (by rfl) g ((b + j) * 21) (Fc.eventC (y (b + j))) 29 ?_
        refine And.intro ⟨by rfl, by rfl, by rfl, ⟨_, Tryd.underlying31, rfl⟩, Sr.info_event⟩ (And.intro (HR.out.range HK.out (by omega)) ?_)
        (try simp only [Act.put, List.setIfInBounds_toArray, List.set_cons_zero, List.set_cons_succ])
        refine hK.out _ _ trivial (fun hHeld => ?_)
        clear hK K
        (try simp only [Act.put, List.setIfInBounds_toArray, List.set_cons_zero, List.set_cons_succ])
        refine wpAnyH_ready (rs := [19]) (by kernel_rfl) (by simp) ?_
        refine AllReadyH.cons rfl (fun K hK => ?_) AllReadyH.nil
        refine step_load 31 (.tmp 34) (by rfl) g ((a + j) * 21) (Fc.eventC (y (a + j))) 35 ?_
        refine And.intro ⟨by rfl, by rfl, by rfl, ⟨_, Tryd.underlying31, rfl⟩, Sr.info_event⟩ (And.intro (HR.out.range HK.out (by omega)) ?_)
        (try simp only [Act.put, List.setIfInBounds_toArray, List.set_cons_zero, List.set_cons_succ])
        refine hK.out _ _ trivial (fun hHeld => ?_)
        clear hK K
        (try simp only [Act.put, List.setIfInBounds_toArray, List.set_cons_zero, List.set_cons_succ])
        refine Vc.wpAnyH_read (i := 20) (d := some 36) (v := .pointer (some ⟨g, (a + j) * 21, none⟩)) (by rfl) (by rfl) (by kernel_rfl) (by kernel_rfl) (by kernel_rfl) (fun _ _ _ h => h) (by rfl) ?hy19 (by assumption) ?rest19
        case hy19 =>
          intro w hSw
          go_simp
          rw [if_pos HXA.out.1, HXA.out.2]
        (try simp only [Act.put, List.setIfInBounds_toArray, List.set_cons_zero, List.set_cons_succ])
        refine ready_store (i := 21) (by kernel_rfl) (by rfl) 31 (.tmp 36) (.tmp 29) (by rfl) g ((a + j) * 21) (Fc.eventC (y (b + j))) ?_
        refine And.intro ⟨by rfl, by rfl, by rfl, by rfl, Sr.info_event, (Sr.event_one _)⟩ (And.intro (HR.out.there (by omega)) (And.intro trivial (fun hHeld => ?_)))
        (try simp only [Act.put, List.setIfInBounds_toArray, List.set_cons_zero, List.set_cons_succ])
        refine Vc.wpAnyH_read (i := 22) (d := some 37) (v := .pointer (some ⟨g, (b + j) * 21, none⟩)) (by rfl) (by rfl) (by kernel_rfl) (by kernel_rfl) (by kernel_rfl) (fun _ _ _ h => h) (by rfl) ?hy20 (by assumption) ?rest20
        case hy20 =>
          intro w hSw
          go_simp
          rw [if_pos HXB.out.1, HXB.out.2]
        (try simp only [Act.put, List.setIfInBounds_toArray, List.set_cons_zero, List.set_cons_succ])
        refine ready_store (i := 23) (by kernel_rfl) (by rfl) 31 (.tmp 37) (.tmp 35) (by rfl) g ((b + j) * 21) (Fc.eventC (y (a + j))) ?_
        refine And.intro ⟨by rfl, by rfl, by rfl, by rfl, Sr.info_event, (Sr.event_one _)⟩ (And.intro (HR1.out.there (by omega)) (And.intro trivial (fun hHeld => ?_)))
        (try simp only [Act.put, List.setIfInBounds_toArray, List.set_cons_zero, List.set_cons_succ])
        refine wpAnyH_done (by kernel_rfl) ?_ _
        go_wp2
        go_roundw
        case rel => exact ⟨j + 1, by omega, by go_num, HR2.out, HC2.out⟩
        case measure => simp [intOf]; omega
      · refine step_load 31 (.tmp 34) (by rfl) g ((a + j) * 21) (Fc.eventC (y (a + j))) 35 ?_
        refine And.intro ⟨by rfl, by rfl, by rfl, ⟨_, Tryd.underlying31, rfl⟩, Sr.info_event⟩ (And.intro (HR.out.range HK.out (by omega)) ?_)
        (try simp only [Act.put, List.setIfInBounds_toArray, List.set_cons_zero, List.set_cons_succ])
        refine hK.out _ _ trivial (fun hHeld => ?_)
        clear hK K
        (try simp only [Act.put, List.setIfInBounds_toArray, List.set_cons_zero, List.set_cons_succ])
        refine wpAnyH_ready (rs := [13]) (by kernel_rfl) (by simp) ?_
        refine AllReadyH.cons rfl (fun K hK => ?_) AllReadyH.nil
        refine step_load 31 (.tmp 28) (by rfl) g ((b + j) * 21) (Fc.eventC (y (b + j))) 29 ?_
        refine And.intro ⟨by rfl, by rfl, by rfl, ⟨_, Tryd.underlying31, rfl⟩, Sr.info_event⟩ (And.intro (HR.out.range HK.out (by omega)) ?_)
        (try simp only [Act.put, List.setIfInBounds_toArray, List.set_cons_zero, List.set_cons_succ])
        refine hK.out _ _ trivial (fun hHeld => ?_)
        clear hK K
        (try simp only [Act.put, List.setIfInBounds_toArray, List.set_cons_zero, List.set_cons_succ])
        refine Vc.wpAnyH_read (i := 20) (d := some 36) (v := .pointer (some ⟨g, (a + j) * 21, none⟩)) (by rfl) (by rfl) (by kernel_rfl) (by kernel_rfl) (by kernel_rfl) (fun _ _ _ h => h) (by rfl) ?hy21 (by assumption) ?rest21
        case hy21 =>
          intro w hSw
          go_simp
          rw [if_pos HXA.out.1, HXA.out.2]
        (try simp only [Act.put, List.setIfInBounds_toArray, List.set_cons_zero, List.set_cons_succ])
        refine ready_store (i := 21) (by kernel_rfl) (by rfl) 31 (.tmp 36) (.tmp 29) (by rfl) g ((a + j) * 21) (Fc.eventC (y (b + j))) ?_
        refine And.intro ⟨by rfl, by rfl, by rfl, by rfl, Sr.info_event, (Sr.event_one _)⟩ (And.intro (HR.out.there (by omega)) (And.intro trivial (fun hHeld => ?_)))
        (try simp only [Act.put, List.setIfInBounds_toArray, List.set_cons_zero, List.set_cons_succ])
        refine Vc.wpAnyH_read (i := 22) (d := some 37) (v := .pointer (some ⟨g, (b + j) * 21, none⟩)) (by rfl) (by rfl) (by kernel_rfl) (by kernel_rfl) (by kernel_rfl) (fun _ _ _ h => h) (by rfl) ?hy22 (by assumption) ?rest22
        case hy22 =>
          intro w hSw
          go_simp
          rw [if_pos HXB.out.1, HXB.out.2]
        (try simp only [Act.put, List.setIfInBounds_toArray, List.set_cons_zero, List.set_cons_succ])
        refine ready_store (i := 23) (by kernel_rfl) (by rfl) 31 (.tmp 37) (.tmp 35) (by rfl) g ((b + j) * 21) (Fc.eventC (y (a + j))) ?_
        refine And.intro ⟨by rfl, by rfl, by rfl, by rfl, Sr.info_event, (Sr.event_one _)⟩ (And.intro (HR1.out.there (by omega)) (And.intro trivial (fun hHeld => ?_)))
        (try simp only [Act.put, List.setIfInBounds_toArray, List.set_cons_zero, List.set_cons_succ])
        refine wpAnyH_done (by kernel_rfl) ?_ _
        go_wp2
        go_roundw
        case rel => exact ⟨j + 1, by omega, by go_num, HR2.out, HC2.out⟩
        case measure => simp [intOf]; omega
    · obtain rfl : j = m := by omega
      go_wp2
      go_end0
      exact ⟨rfl, HC.out, HR0.out⟩
end Go.Proofs.YtdbmnnmcelaehaaDoor.Stab
