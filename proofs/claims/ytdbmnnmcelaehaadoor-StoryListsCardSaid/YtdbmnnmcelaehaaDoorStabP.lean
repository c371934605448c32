/- Events that are alike once: the library's CompactFunc. -/
import Derived.Test.YtdbmnnmcelaehaaDoorStabO
namespace Go.Proofs.YtdbmnnmcelaehaaDoor.Stab
open Go.RowKit Go.Proofs.YtdbmnnmcelaehaaDoor.Mem
set_option linter.unusedVariables false set_option linter.unusedSimpArgs false

set_option maxRecDepth 100000 in
theorem same_any (a b : Fc.EventC) (w : World) : Calls Tryd.prog 36 #[.agg (Fc.eventC a), .agg (Fc.eventC b)] w fun e w' => e = .returned (.bool (ordE a b == 0)) ∧ Below w.heap.size w w' := by
  have HB0 := Lib.hid (((Below.refl w.heap.size w).alloc (Nat.le_refl _) (.cells (Fc.eventC a) 31)).alloc (by simp) (.cells (Fc.eventC b) 31))
  have HX0 := Lib.hid ((Has.fresh w 31 (Fc.eventC a)).past (.cells (Fc.eventC b) 31))
  have n1 : Has ((w.alloc (.cells (Fc.eventC a) 31)).alloc (.cells (Fc.eventC b) 31)) (w.heap.size + 1) 31 (Fc.eventC b) := by have q := Has.fresh (w.alloc (.cells (Fc.eventC a) 31)) 31 (Fc.eventC b); rw [World.size_alloc] at q; exact q
  have HY0 := Lib.hid n1
  have HO := Lib.hid (fun V => order_any a b V)
  clear n1
  go_enter Tryd.func36, Tryd.ntmps36
  go_wp2_with (first | ((with_reducible refine Who.wpList_loadC 31 (.tmp 2) rfl w.heap.size 0 (Fc.eventC a) ?_); refine And.intro ⟨by rfl, by rfl, ⟨_, Tryd.underlying31, rfl⟩, Sr.info_event⟩ (And.intro (Who.has_range HX0.out) ?_); (try simp only [Act.put, List.setIfInBounds_toArray, List.set_cons_zero, List.set_cons_succ])) | ((with_reducible refine Who.wpList_loadC 31 (.tmp 3) rfl (w.heap.size + 1) 0 (Fc.eventC b) ?_); refine And.intro ⟨by rfl, by rfl, ⟨_, Tryd.underlying31, rfl⟩, Sr.info_event⟩ (And.intro (Who.has_range HY0.out) ?_); (try simp only [Act.put, List.setIfInBounds_toArray, List.set_cons_zero, List.set_cons_succ])) | fail)
  refine (HO.out _).mono ?_
  rintro e w2 ⟨rfl, hb⟩
  have HB := Lib.hid (HB0.out.trans (hb.mono HB0.out.size))
  clear hb
  go_wp2
  go_ret
  exact ⟨rfl, HB.out⟩
theorem zero_len (n : Nat) : (Builtin.zeroCells (Fc.eventC Sr.zeroE) n).toList.length = n * 21 := by
  rw [Array.length_toList]
  unfold Builtin.zeroCells
  rw [Array.size_map, Array.size_range]
  rfl
theorem zero_one (n : Nat) : ∀ v ∈ (Builtin.zeroCells (Fc.eventC Sr.zeroE) n).toList, v.oneCell' = true := by
  intro v hv
  unfold Builtin.zeroCells at hv
  rw [Array.toList_map, List.mem_map] at hv
  obtain ⟨i, _, rfl⟩ := hv
  have h := Sr.event_one Sr.zeroE
  have hs : i % (Fc.eventC Sr.zeroE).size < (Fc.eventC Sr.zeroE).size := Nat.mod_lt _ (by decide)
  rw [getElem!_pos (Fc.eventC Sr.zeroE) (i % (Fc.eventC Sr.zeroE).size) hs]
  exact (Array.all_eq_true_iff_forall_mem.1 h) _ (Array.getElem_mem hs)
theorem run_clear_ev (w : World) (ty : TypeId) (b o n c : Nat) (hn : 0 < n) (hc : w.there b o (n * 21)) :
    (Builtin.clear_ #[38] ty #[.slice (some ⟨b, o, none⟩) n c]).run Tryd.prog w = .ok (.tuple #[]) (w.setCells b o (Builtin.zeroCells (Fc.eventC Sr.zeroE) n).toList) := by
  obtain ⟨m, rfl⟩ : ∃ m, n = m + 1 := ⟨n - 1, by omega⟩
  have hl := zero_len (m + 1)
  have hst := run_storeCells_cells (P := Tryd.prog) b o (Builtin.zeroCells (Fc.eventC Sr.zeroE) (m + 1)).toList 0 w (fun j hj => by have := (hc j (by rw [hl] at hj; exact hj)).1; simpa using this) (fun j hj => by have := (hc j (by rw [hl] at hj; exact hj)).2; simpa using this) (zero_one (m + 1))
  simp only [Nat.add_zero] at hst
  simp [Builtin.clear_, run_underlying Tryd.underlying38]
  change ((Sem.run Tryd.prog (storeCells ⟨b, o, none⟩ (Builtin.zeroCells (Value.agg (Fc.eventC Sr.zeroE)).cells (m + 1)).toList) w).andThen fun a w' => Result.ok (Value.tuple #[]) w') = _
  rw [show (Value.agg (Fc.eventC Sr.zeroE)).cells = Fc.eventC Sr.zeroE from rfl, hst]
  rfl
theorem srow_rw {w : World} {g n k : Nat} {r : Nat → Fc.EventC} {z : List Value} {l : List Fc.EventC} (h : RwE w g n r z) (hk : k ≤ n) (hl : l.length = k) (he : ∀ i, i < k → l[i]? = some (r i)) : Fc.SRow w 21 Fc.eventC (some ⟨g, 0, none⟩) k l := by
  refine ⟨hl, fun _ => ⟨g, 0, rfl, h.bound, fun i hi j v hv => ?_⟩⟩
  have e := he i (by omega)
  rw [List.getElem?_eq_getElem hi] at e
  have e2 := Option.some.inj e
  rw [e2] at hv
  rw [Nat.zero_add]
  exact h.range size_c (i := i) (by omega) j v (by simpa using hv)
theorem srow_set {w : World} {g n k : Nat} {r : Nat → Fc.EventC} {z : List Value} {l : List Fc.EventC} (h : RwE w g n r z) (hk : k ≤ n) (hl : l.length = k) (he : ∀ i, i < k → l[i]? = some (r i)) (vs : List Value) (hv : k * 21 + vs.length ≤ n * 21) : Fc.SRow (w.setCells g (k * 21) vs) 21 Fc.eventC (some ⟨g, 0, none⟩) k l := by
  obtain ⟨cs, h1, h2, h3, h4⟩ := h
  have hs := Who.has_setCells vs (k * 21) w cs h1
  refine ⟨hl, fun _ => ⟨g, 0, rfl, hs.bound, fun i hi j v hj => ?_⟩⟩
  have e := he i (by omega)
  rw [List.getElem?_eq_getElem hi] at e
  have e2 := Option.some.inj e
  rw [e2] at hj
  have j21 : j < 21 := by
    have := (Array.getElem?_eq_some_iff.1 hj).1
    rwa [size_c] at this
  have m := mul_in (k := 21) (show i < k by omega)
  rw [Nat.zero_add, hs.at_, Lib.lay_get? _ _ _ _ (by omega), if_neg (by omega), h3 i j (by omega) j21]
  exact hj
theorem rw_there {w : World} {g n k : Nat} {r : Nat → Fc.EventC} {z : List Value} (h : RwE w g n r z) (hk : k ≤ n) : w.there g (k * 21) ((n - k) * 21) := by
  obtain ⟨cs, h1, h2, h3, h4⟩ := h
  intro j hj
  rw [h1.at_ (k * 21 + j)]
  refine ⟨?_, h1.free (k * 21 + j)⟩
  have : k * 21 + j < cs.size := by omega
  simp [this]
theorem keeps_at {y : Nat → Fc.EventC} {k : Nat} (h : 0 < k) : keeps y k = !(ordE (y k) (y (k - 1)) == 0) := by
  obtain ⟨i, rfl⟩ : ∃ i, k = i + 1 := ⟨k - 1, by omega⟩
  rfl
theorem keeps_lt {y : Nat → Fc.EventC} {i : Nat} (h : i < 1) : keeps y i = true := by
  obtain rfl : i = 0 := by omega
  rfl
theorem dd_yes {y : Nat → Fc.EventC} {m : Nat} (h : keeps y m = true) : dd y (m + 1) = dd y m ++ [y m] := by
  show (if keeps y m then _ else _) = _
  rw [if_pos h]
theorem dd_no {y : Nat → Fc.EventC} {m : Nat} (h : ¬ keeps y m = true) : dd y (m + 1) = dd y m := by
  show (if keeps y m then _ else _) = _
  rw [if_neg h]
/-- what CompactFunc comes to -/
def CompIs (g n : Nat) (y : Nat → Fc.EventC) (w : World) (e : Ending) (w' : World) : Prop := ∃ c', e = .returned (.slice (some ⟨g, 0, none⟩) (dd y n).length c') ∧ (dd y n).length ≤ c' ∧ Chg (· = g) w w' ∧ Fc.SRow w' 21 Fc.eventC (some ⟨g, 0, none⟩) (dd y n).length (dd y n)
set_option maxRecDepth 100000 in
set_option maxHeartbeats 2000000 in
theorem compact_any (g c n : Nat) (y : Nat → Fc.EventC) (z : List Value) (hn : n < 4000000000) (hc : n ≤ c) (w : World) (h : RwE w g n y z) :
    Calls Tryd.prog 35 #[.slice (some ⟨g, 0, none⟩) n c, (.func (.func 36) #[] #[])] w (CompIs g n y w) := by
  have H0 := Lib.hid h
  clear h
  go_enter Tryd.func35, Tryd.ntmps35
  by_cases h2 : n < 2
  · have HD := Lib.hid (show (dd y n).length = n ∧ ∀ i, i < n → (dd y n)[i]? = some (y i) from dd_all y n (fun i hi => keeps_lt (by omega)))
    go_wp2
    go_ret
    exact ⟨c, by rw [HD.out.1]; rfl, by rw [HD.out.1]; exact hc, Chg.refl _ _, srow_rw H0.out (by rw [HD.out.1]; exact Nat.le_refl _) rfl (fun i hi => HD.out.2 i (by rw [HD.out.1] at hi; exact hi))⟩
  · go_wp2
    go_loopw [5] (fun sk wr => ∃ k : Nat, sk = .int .i64 k ∧ 1 ≤ k ∧ k ≤ n ∧ Hid (∀ i, i < k → keeps y i = true) ∧ Hid (RwE wr g n y z) ∧ Hid (Chg (· = g) w wr)) (fun sk _ => n - (intOf sk).toNat)
    case atStart => exact ⟨1, rfl, by omega, by omega, Lib.hid (fun i hi => keeps_lt (by omega)), H0, Lib.hid (Chg.refl _ _)⟩
    case round =>
      obtain ⟨k, rfl, hk1, hkn, HKP, HR, HC⟩ := hrel
      by_cases hlt : k < n
      · have HRG := Lib.hid (fun (V : World) (hV : RwE V g n y z) => And.intro (hV.range size_c (i := k) hlt) (hV.range size_c (i := k - 1) (by omega)))
        have HWS := Lib.hid (wrap_sub (j := k) (by omega) (by omega))
        have HXJ := Lib.hid (self_row (j := k) (n := n) hlt)
        have HXK := Lib.hid (sub_row (j := k) (n := n) (by omega) (by omega))
        by_cases hkp : keeps y k = true
        · have HN := Lib.hid (show ∀ i, i < k + 1 → keeps y i = true from fun i hi => by
            by_cases e : i = k
            · rw [e]; exact hkp
            · exact HKP.out i (by omega))
          have hq := keeps_at (y := y) (k := k) (by omega)
          rw [hkp] at hq
          have HE := Lib.hid (fun V => same_any (y k) (y (k - 1)) V)
          rw [show (ordE (y k) (y (k - 1)) == 0) = false by cases hb : (ordE (y k) (y (k - 1)) == 0) with | false => rfl | true => rw [hb] at hq; cases hq] at HE
          clear hq hkp
          go_wp2_with fail
          refine wp_region_held_drew (S := fun V => V.rangeAt g (k * 21) (Fc.eventC (y k)).toList ∧ V.rangeAt g ((k - 1) * 21) (Fc.eventC (y (k - 1))).toList) (by kernel_rfl) (HRG.out _ HR.out) (fun hHeld => ?_)
          refine Vc.wpAnyH_read (i := 0) (d := some 18) (v := ?v1) (by rfl) (by rfl) (by kernel_rfl) (by kernel_rfl) (by kernel_rfl) (fun _ _ _ h => h) (by rfl) ?hy1 (by assumption) ?rest1
          case hy1 =>
            intro w hSw
            go_simp
            try with_reducible rfl
          (try simp only [Act.put, List.setIfInBounds_toArray, List.set_cons_zero, List.set_cons_succ])
          refine Vc.wpAnyH_read (i := 1) (d := some 19) (v := ?v2) (by rfl) (by rfl) (by kernel_rfl) (by kernel_rfl) (by kernel_rfl) (fun _ _ _ h => h) (by rfl) ?hy2 (by assumption) ?rest2
          case hy2 =>
            intro w hSw
            go_simp
            try with_reducible rfl
          (try simp only [Act.put, List.setIfInBounds_toArray, List.set_cons_zero, List.set_cons_succ])
          refine Vc.wpAnyH_read (i := 2) (d := some 20) (v := ?v3) (by rfl) (by rfl) (by kernel_rfl) (by kernel_rfl) (by kernel_rfl) (fun _ _ _ h => h) (by rfl) ?hy3 (by assumption) ?rest3
          case hy3 =>
            intro w hSw
            go_simp
            try with_reducible rfl
          (try simp only [Act.put, List.setIfInBounds_toArray, List.set_cons_zero, List.set_cons_succ])
          refine Vc.wpAnyH_read (i := 3) (d := some 21) (v := .pointer (some ⟨g, (k) * 21, none⟩)) (by rfl) (by rfl) (by kernel_rfl) (by kernel_rfl) (by kernel_rfl) (fun _ _ _ h => h) (by rfl) ?hy4 (by assumption) ?rest4
          case hy4 =>
            intro w hSw
            go_simp
            all_goals first | (rw [if_pos HXJ.out.1, HXJ.out.2]) | (intro hh; exfalso; omega) | (intro hh; exfalso; have hh2 := hh (by omega); omega)
          (try simp only [Act.put, List.setIfInBounds_toArray, List.set_cons_zero, List.set_cons_succ])
          refine Vc.wpAnyH_read (i := 4) (d := some 22) (v := .agg (Fc.eventC (y k))) (by rfl) (by rfl) (by kernel_rfl) (by kernel_rfl) (by kernel_rfl) (fun _ _ _ h => h) (by rfl) ?hy5 (by assumption) ?rest5
          case hy5 =>
            intro w hSw
            exact Who.exec_loadA _ rfl rfl hSw.1 Tryd.underlying31 rfl Sr.info_event
          (try simp only [Act.put, List.setIfInBounds_toArray, List.set_cons_zero, List.set_cons_succ])
          refine Vc.wpAnyH_read (i := 5) (d := some 23) (v := ?v6) (by rfl) (by rfl) (by kernel_rfl) (by kernel_rfl) (by kernel_rfl) (fun _ _ _ h => h) (by rfl) ?hy6 (by assumption) ?rest6
          case hy6 =>
            intro w hSw
            go_simp
            try with_reducible rfl
          (try simp only [Act.put, List.setIfInBounds_toArray, List.set_cons_zero, List.set_cons_succ])
          refine Vc.wpAnyH_read (i := 6) (d := some 24) (v := ?v7) (by rfl) (by rfl) (by kernel_rfl) (by kernel_rfl) (by kernel_rfl) (fun _ _ _ h => h) (by rfl) ?hy7 (by assumption) ?rest7
          case hy7 =>
            intro w hSw
            go_simp
            try with_reducible rfl
          (try simp only [Act.put, List.setIfInBounds_toArray, List.set_cons_zero, List.set_cons_succ])
          refine Vc.wpAnyH_read (i := 7) (d := some 25) (v := .int .i64 ((k : Int) - 1)) (by rfl) (by rfl) (by kernel_rfl) (by kernel_rfl) (by kernel_rfl) (fun _ _ _ h => h) (by rfl) ?hy8 (by assumption) ?rest8
          case hy8 =>
            intro w hSw
            go_simp
            all_goals first | rw [HWS.out] | omega
          (try simp only [Act.put, List.setIfInBounds_toArray, List.set_cons_zero, List.set_cons_succ])
          refine Vc.wpAnyH_read (i := 8) (d := some 26) (v := .pointer (some ⟨g, (k - 1) * 21, none⟩)) (by rfl) (by rfl) (by kernel_rfl) (by kernel_rfl) (by kernel_rfl) (fun _ _ _ h => h) (by rfl) ?hy9 (by assumption) ?rest9
          case hy9 =>
            intro w hSw
            go_simp
            all_goals first | (rw [if_pos HXK.out.1, HXK.out.2]) | (intro hh; exfalso; omega) | (intro hh; exfalso; have hh2 := hh (by omega); omega)
          (try simp only [Act.put, List.setIfInBounds_toArray, List.set_cons_zero, List.set_cons_succ])
          refine Vc.wpAnyH_read (i := 9) (d := some 27) (v := .agg (Fc.eventC (y (k - 1)))) (by rfl) (by rfl) (by kernel_rfl) (by kernel_rfl) (by kernel_rfl) (fun _ _ _ h => h) (by rfl) ?hy10 (by assumption) ?rest10
          case hy10 =>
            intro w hSw
            exact Who.exec_loadA _ rfl rfl hSw.2 Tryd.underlying31 rfl Sr.info_event
          (try simp only [Act.put, List.setIfInBounds_toArray, List.set_cons_zero, List.set_cons_succ])
          refine wpAnyH_ready (rs := [10]) (by kernel_rfl) (by simp) ?_
          refine AllReadyH.cons rfl (fun K hK => ?_) AllReadyH.nil
          go_simp
          go_at_call 36
          refine (HE.out _).mono ?_
          rintro qq w2 ⟨rfl, hb⟩
          have HR2 := Lib.hid (HR.out.drew.below hb)
          have HC2 := Lib.hid (HC.out.drew.trans (Chg.of_below hb _))
          clear hb
          refine hK.out _ _ (HRG.out _ HR2.out) (fun hHeld => ?_)
          clear hK K
          (try simp only [Act.put, List.setIfInBounds_toArray, List.set_cons_zero, List.set_cons_succ])
          refine wpAnyH_done (by kernel_rfl) ?_ _
          go_wp2
          go_roundw
          case rel => exact ⟨k + 1, by go_num, by omega, by omega, HN, HR2, HC2⟩
          case measure => simp [intOf]; omega
        · have HA := Lib.hid (dd_all y k HKP.out)
          have HNO := Lib.hid (dd_no hkp)
          have hq := keeps_at (y := y) (k := k) (by omega)
          have HE := Lib.hid (fun V => same_any (y k) (y (k - 1)) V)
          rw [show (ordE (y k) (y (k - 1)) == 0) = true by cases hb : (ordE (y k) (y (k - 1)) == 0) with | true => rfl | false => rw [hb] at hq; exact absurd hq hkp] at HE
          clear hq hkp
          go_wp2_with fail
          refine wp_region_held_drew (S := fun V => V.rangeAt g (k * 21) (Fc.eventC (y k)).toList ∧ V.rangeAt g ((k - 1) * 21) (Fc.eventC (y (k - 1))).toList) (by kernel_rfl) (HRG.out _ HR.out) (fun hHeld => ?_)
          refine Vc.wpAnyH_read (i := 0) (d := some 18) (v := ?v11) (by rfl) (by rfl) (by kernel_rfl) (by kernel_rfl) (by kernel_rfl) (fun _ _ _ h => h) (by rfl) ?hy11 (by assumption) ?rest11
          case hy11 =>
            intro w hSw
            go_simp
            try with_reducible rfl
          (try simp only [Act.put, List.setIfInBounds_toArray, List.set_cons_zero, List.set_cons_succ])
          refine Vc.wpAnyH_read (i := 1) (d := some 19) (v := ?v12) (by rfl) (by rfl) (by kernel_rfl) (by kernel_rfl) (by kernel_rfl) (fun _ _ _ h => h) (by rfl) ?hy12 (by assumption) ?rest12
          case hy12 =>
            intro w hSw
            go_simp
            try with_reducible rfl
          (try simp only [Act.put, List.setIfInBounds_toArray, List.set_cons_zero, List.set_cons_succ])
          refine Vc.wpAnyH_read (i := 2) (d := some 20) (v := ?v13) (by rfl) (by rfl) (by kernel_rfl) (by kernel_rfl) (by kernel_rfl) (fun _ _ _ h => h) (by rfl) ?hy13 (by assumption) ?rest13
          case hy13 =>
            intro w hSw
            go_simp
            try with_reducible rfl
          (try simp only [Act.put, List.setIfInBounds_toArray, List.set_cons_zero, List.set_cons_succ])
          refine Vc.wpAnyH_read (i := 3) (d := some 21) (v := .pointer (some ⟨g, (k) * 21, none⟩)) (by rfl) (by rfl) (by kernel_rfl) (by kernel_rfl) (by kernel_rfl) (fun _ _ _ h => h) (by rfl) ?hy14 (by assumption) ?rest14
          case hy14 =>
            intro w hSw
            go_simp
            all_goals first | (rw [if_pos HXJ.out.1, HXJ.out.2]) | (intro hh; exfalso; omega) | (intro hh; exfalso; have hh2 := hh (by omega); omega)
          (try simp only [Act.put, List.setIfInBounds_toArray, List.set_cons_zero, List.set_cons_succ])
          refine Vc.wpAnyH_read (i := 4) (d := some 22) (v := .agg (Fc.eventC (y k))) (by rfl) (by rfl) (by kernel_rfl) (by kernel_rfl) (by kernel_rfl) (fun _ _ _ h => h) (by rfl) ?hy15 (by assumption) ?rest15
          case hy15 =>
            intro w hSw
            exact Who.exec_loadA _ rfl rfl hSw.1 Tryd.underlying31 rfl Sr.info_event
          (try simp only [Act.put, List.setIfInBounds_toArray, List.set_cons_zero, List.set_cons_succ])
          refine Vc.wpAnyH_read (i := 5) (d := some 23) (v := ?v16) (by rfl) (by rfl) (by kernel_rfl) (by kernel_rfl) (by kernel_rfl) (fun _ _ _ h => h) (by rfl) ?hy16 (by assumption) ?rest16
          case hy16 =>
            intro w hSw
            go_simp
            try with_reducible rfl
          (try simp only [Act.put, List.setIfInBounds_toArray, List.set_cons_zero, List.set_cons_succ])
          refine Vc.wpAnyH_read (i := 6) (d := some 24) (v := ?v17) (by rfl) (by rfl) (by kernel_rfl) (by kernel_rfl) (by kernel_rfl) (fun _ _ _ h => h) (by rfl) ?hy17 (by assumption) ?rest17
          case hy17 =>
            intro w hSw
            go_simp
            try with_reducible rfl
          (try simp only [Act.put, List.setIfInBounds_toArray, List.set_cons_zero, List.set_cons_succ])
          refine Vc.wpAnyH_read (i := 7) (d := some 25) (v := .int .i64 ((k : Int) - 1)) (by rfl) (by rfl) (by kernel_rfl) (by kernel_rfl) (by kernel_rfl) (fun _ _ _ h => h) (by rfl) ?hy18 (by assumption) ?rest18
          case hy18 =>
            intro w hSw
            go_simp
            all_goals first | rw [HWS.out] | omega
          (try simp only [Act.put, List.setIfInBounds_toArray, List.set_cons_zero, List.set_cons_succ])
          refine Vc.wpAnyH_read (i := 8) (d := some 26) (v := .pointer (some ⟨g, (k - 1) * 21, none⟩)) (by rfl) (by rfl) (by kernel_rfl) (by kernel_rfl) (by kernel_rfl) (fun _ _ _ h => h) (by rfl) ?hy19 (by assumption) ?rest19
          case hy19 =>
            intro w hSw
            go_simp
            all_goals first | (rw [if_pos HXK.out.1, HXK.out.2]) | (intro hh; exfalso; omega) | (intro hh; exfalso; have hh2 := hh (by omega); omega)
          (try simp only [Act.put, List.setIfInBounds_toArray, List.set_cons_zero, List.set_cons_succ])
          refine Vc.wpAnyH_read (i := 9) (d := some 27) (v := .agg (Fc.eventC (y (k - 1)))) (by rfl) (by rfl) (by kernel_rfl) (by kernel_rfl) (by kernel_rfl) (fun _ _ _ h => h) (by rfl) ?hy20 (by assumption) ?rest20
          case hy20 =>
            intro w hSw
            exact Who.exec_loadA _ rfl rfl hSw.2 Tryd.underlying31 rfl Sr.info_event
          (try simp only [Act.put, List.setIfInBounds_toArray, List.set_cons_zero, List.set_cons_succ])
          refine wpAnyH_ready (rs := [10]) (by kernel_rfl) (by simp) ?_
          refine AllReadyH.cons rfl (fun K hK => ?_) AllReadyH.nil
          go_simp
          go_at_call 36
          refine (HE.out _).mono ?_
          rintro qq w2 ⟨rfl, hb⟩
          have HR2 := Lib.hid (HR.out.drew.below hb)
          have HC2 := Lib.hid (HC.out.drew.trans (Chg.of_below hb _))
          clear hb
          refine hK.out _ _ (HRG.out _ HR2.out) (fun hHeld => ?_)
          clear hK K
          (try simp only [Act.put, List.setIfInBounds_toArray, List.set_cons_zero, List.set_cons_succ])
          refine wpAnyH_done (by kernel_rfl) ?_ _
          go_wp2
          go_loopw [5, 7] (fun sk sq wr => ∃ (j q : Nat) (r : Nat → Fc.EventC), sk = .int .i64 j ∧ sq = .int .i64 q ∧ 1 ≤ q ∧ q ≤ n - k ∧ j < k + q ∧ Hid ((dd y (k + q)).length = j) ∧ Hid (∀ i, i < j → (dd y (k + q))[i]? = some (r i)) ∧ Hid (∀ i, k + q ≤ i + 1 → r i = y i) ∧ Hid (RwE wr g n r z) ∧ Hid (Chg (· = g) w wr)) (fun _ sq _ => n - k - (intOf sq).toNat)
          case atStart => exact ⟨k, 1, y, rfl, rfl, by omega, by omega, by omega, Lib.hid (by rw [HNO.out]; exact HA.out.1), Lib.hid (by rw [HNO.out]; exact HA.out.2), Lib.hid (fun i _ => rfl), HR2, HC2⟩
          case round =>
            clear HR HC HR2 HC2 HRG HWS HXJ HXK HA HNO HKP HE
            obtain ⟨j, q, r, rfl, rfl, hq1, hqn, hjq, HL, HG, HT, HR, HC⟩ := hrel
            by_cases hlq : q < n - k
            · have HRG := Lib.hid (fun (V : World) (hV : RwE V g n r z) => show V.rangeAt g (k * 21 + q * 21) (Fc.eventC (r (k + q))).toList ∧ V.rangeAt g (k * 21 + (q - 1) * 21) (Fc.eventC (r (k + q - 1))).toList from by
                rw [show k * 21 + q * 21 = (k + q) * 21 by omega, show k * 21 + (q - 1) * 21 = (k + q - 1) * 21 by omega]
                exact ⟨hV.range size_c (by omega), hV.range size_c (by omega)⟩)
              have HWS := Lib.hid (wrap_sub (j := q) (by omega) (by omega))
              have HXJ := Lib.hid (self_row (j := q) (n := n - k) hlq)
              have HXK := Lib.hid (sub_row (j := q) (n := n - k) (by omega) (by omega))
              have hqq := keeps_at (y := y) (k := k + q) (by omega)
              rw [← HT.out (k + q) (by omega), ← HT.out (k + q - 1) (by omega)] at hqq
              by_cases hkp : keeps y (k + q) = true
              · have HY := Lib.hid (dd_yes hkp)
                have HE := Lib.hid (fun V => same_any (r (k + q)) (r (k + q - 1)) V)
                rw [show (ordE (r (k + q)) (r (k + q - 1)) == 0) = false by cases hb : (ordE (r (k + q)) (r (k + q - 1)) == 0) with | false => rfl | true => rw [hb] at hqq; rw [hqq] at hkp; cases hkp] at HE
                clear hqq hkp
                go_wp2_with fail
                refine wp_region_held_drew (S := fun V => V.rangeAt g (k * 21 + q * 21) (Fc.eventC (r (k + q))).toList ∧ V.rangeAt g (k * 21 + (q - 1) * 21) (Fc.eventC (r (k + q - 1))).toList) (by kernel_rfl) (HRG.out _ HR.out) (fun hHeld => ?_)
                refine Vc.wpAnyH_read (i := 0) (d := some 38) (v := ?v21) (by rfl) (by rfl) (by kernel_rfl) (by kernel_rfl) (by kernel_rfl) (fun _ _ _ h => h) (by rfl) ?hy21 (by assumption) ?rest21
                case hy21 =>
                  intro w hSw
                  go_simp
                  try with_reducible rfl
                (try simp only [Act.put, List.setIfInBounds_toArray, List.set_cons_zero, List.set_cons_succ])
                refine Vc.wpAnyH_read (i := 1) (d := some 39) (v := ?v22) (by rfl) (by rfl) (by kernel_rfl) (by kernel_rfl) (by kernel_rfl) (fun _ _ _ h => h) (by rfl) ?hy22 (by assumption) ?rest22
                case hy22 =>
                  intro w hSw
                  go_simp
                  try with_reducible rfl
                (try simp only [Act.put, List.setIfInBounds_toArray, List.set_cons_zero, List.set_cons_succ])
                refine Vc.wpAnyH_read (i := 2) (d := some 40) (v := ?v23) (by rfl) (by rfl) (by kernel_rfl) (by kernel_rfl) (by kernel_rfl) (fun _ _ _ h => h) (by rfl) ?hy23 (by assumption) ?rest23
                case hy23 =>
                  intro w hSw
                  go_simp
                  try with_reducible rfl
                (try simp only [Act.put, List.setIfInBounds_toArray, List.set_cons_zero, List.set_cons_succ])
                refine Vc.wpAnyH_read (i := 3) (d := some 41) (v := .pointer (some ⟨g, k * 21 + (q) * 21, none⟩)) (by rfl) (by rfl) (by kernel_rfl) (by kernel_rfl) (by kernel_rfl) (fun _ _ _ h => h) (by rfl) ?hy24 (by assumption) ?rest24
                case hy24 =>
                  intro w hSw
                  go_simp
                  all_goals first | (rw [if_pos HXJ.out.1, HXJ.out.2]) | (intro hh; exfalso; omega) | (intro hh; exfalso; have hh2 := hh (by omega); omega)
                (try simp only [Act.put, List.setIfInBounds_toArray, List.set_cons_zero, List.set_cons_succ])
                refine Vc.wpAnyH_read (i := 4) (d := some 42) (v := .agg (Fc.eventC (r (k + q)))) (by rfl) (by rfl) (by kernel_rfl) (by kernel_rfl) (by kernel_rfl) (fun _ _ _ h => h) (by rfl) ?hy25 (by assumption) ?rest25
                case hy25 =>
                  intro w hSw
                  exact Who.exec_loadA _ rfl rfl hSw.1 Tryd.underlying31 rfl Sr.info_event
                (try simp only [Act.put, List.setIfInBounds_toArray, List.set_cons_zero, List.set_cons_succ])
                refine Vc.wpAnyH_read (i := 5) (d := some 43) (v := ?v26) (by rfl) (by rfl) (by kernel_rfl) (by kernel_rfl) (by kernel_rfl) (fun _ _ _ h => h) (by rfl) ?hy26 (by assumption) ?rest26
                case hy26 =>
                  intro w hSw
                  go_simp
                  try with_reducible rfl
                (try simp only [Act.put, List.setIfInBounds_toArray, List.set_cons_zero, List.set_cons_succ])
                refine Vc.wpAnyH_read (i := 6) (d := some 44) (v := ?v27) (by rfl) (by rfl) (by kernel_rfl) (by kernel_rfl) (by kernel_rfl) (fun _ _ _ h => h) (by rfl) ?hy27 (by assumption) ?rest27
                case hy27 =>
                  intro w hSw
                  go_simp
                  try with_reducible rfl
                (try simp only [Act.put, List.setIfInBounds_toArray, List.set_cons_zero, List.set_cons_succ])
                refine Vc.wpAnyH_read (i := 7) (d := some 45) (v := .int .i64 ((q : Int) - 1)) (by rfl) (by rfl) (by kernel_rfl) (by kernel_rfl) (by kernel_rfl) (fun _ _ _ h => h) (by rfl) ?hy28 (by assumption) ?rest28
                case hy28 =>
                  intro w hSw
                  go_simp
                  all_goals first | rw [HWS.out] | omega
                (try simp only [Act.put, List.setIfInBounds_toArray, List.set_cons_zero, List.set_cons_succ])
                refine Vc.wpAnyH_read (i := 8) (d := some 46) (v := .pointer (some ⟨g, k * 21 + (q - 1) * 21, none⟩)) (by rfl) (by rfl) (by kernel_rfl) (by kernel_rfl) (by kernel_rfl) (fun _ _ _ h => h) (by rfl) ?hy29 (by assumption) ?rest29
                case hy29 =>
                  intro w hSw
                  go_simp
                  all_goals first | (rw [if_pos HXK.out.1, HXK.out.2]) | (intro hh; exfalso; omega) | (intro hh; exfalso; have hh2 := hh (by omega); omega)
                (try simp only [Act.put, List.setIfInBounds_toArray, List.set_cons_zero, List.set_cons_succ])
                refine Vc.wpAnyH_read (i := 9) (d := some 47) (v := .agg (Fc.eventC (r (k + q - 1)))) (by rfl) (by rfl) (by kernel_rfl) (by kernel_rfl) (by kernel_rfl) (fun _ _ _ h => h) (by rfl) ?hy30 (by assumption) ?rest30
                case hy30 =>
                  intro w hSw
                  exact Who.exec_loadA _ rfl rfl hSw.2 Tryd.underlying31 rfl Sr.info_event
                (try simp only [Act.put, List.setIfInBounds_toArray, List.set_cons_zero, List.set_cons_succ])
                refine wpAnyH_ready (rs := [10]) (by kernel_rfl) (by simp) ?_
                refine AllReadyH.cons rfl (fun K hK => ?_) AllReadyH.nil
                go_simp
                go_at_call 36
                refine (HE.out _).mono ?_
                rintro qq w2 ⟨rfl, hb⟩
                have HR2 := Lib.hid (HR.out.drew.below hb)
                have HC2 := Lib.hid (HC.out.drew.trans (Chg.of_below hb _))
                clear hb
                refine hK.out _ _ (HRG.out _ HR2.out) (fun hHeld => ?_)
                clear hK K
                (try simp only [Act.put, List.setIfInBounds_toArray, List.set_cons_zero, List.set_cons_succ])
                refine Vc.wpAnyH_read (i := 11) (d := some 49) (v := ?v31) (by rfl) (by rfl) (by kernel_rfl) (by kernel_rfl) (by kernel_rfl) (fun _ _ _ h => h) (by rfl) ?hy31 (by assumption) ?rest31
                case hy31 =>
                  intro w hSw
                  go_simp
                  try with_reducible rfl
                (try simp only [Act.put, List.setIfInBounds_toArray, List.set_cons_zero, List.set_cons_succ])
                refine wpAnyH_done (by kernel_rfl) ?_ _
                have HR3 := Lib.hid (HR2.out.set size_c (i := j) (by omega) (r (k + q)))
                have HC3 := Lib.hid (HC2.out.trans (Who.chg_setCells g (Fc.eventC (r (k + q))).toList (j * 21) _))
                have HTH := Lib.hid (HR2.out.there (i := j) (by omega))
                have hjn : j < n := by omega
                go_wp2_with (first | ((with_reducible refine Who.wpList_loadC 31 (.tmp 54) rfl g (k * 21 + q * 21) (Fc.eventC (r (k + q))) ?_); refine And.intro ⟨by rfl, by rfl, ⟨_, Tryd.underlying31, rfl⟩, Sr.info_event⟩ (And.intro ((HRG.out _ HR2.out).1) ?_); (try simp only [Act.put, List.setIfInBounds_toArray, List.set_cons_zero, List.set_cons_succ])) | ((with_reducible refine Who.wpList_storeC 31 (.tmp 56) (.tmp 55) rfl g (j * 21) (Fc.eventC (r (k + q))) ?_); refine And.intro ⟨by rfl, by rfl, by rfl, Sr.info_event, Sr.event_one _⟩ (And.intro (HTH.out) ?_); (try simp only [Act.put, List.setIfInBounds_toArray, List.set_cons_zero, List.set_cons_succ])) | fail)
                go_roundw
                case rel => exact ⟨j + 1, q + 1, fun i => if i = j then r (k + q) else r i, by go_num, by go_num, by omega, by omega, by omega, Lib.hid (by rw [← Nat.add_assoc, HY.out, List.length_append, HL.out, List.length_singleton]), Lib.hid (fun i hi => by
                  rw [← Nat.add_assoc, HY.out]
                  show _ = some (if i = j then r (k + q) else r i)
                  by_cases e : i = j
                  · rw [if_pos e, e, List.getElem?_append_right (by rw [HL.out]; exact Nat.le_refl _), HL.out, Nat.sub_self, HT.out (k + q) (by omega)]
                    rfl
                  · rw [if_neg e, List.getElem?_append_left (by rw [HL.out]; omega)]
                    exact HG.out i (by omega)), Lib.hid (fun i hi => by
                  show (if i = j then r (k + q) else r i) = y i
                  rw [if_neg (by omega)]
                  exact HT.out i (by omega)), HR3, HC3⟩
                case measure => simp [intOf]; omega
              · have HN := Lib.hid (dd_no hkp)
                have HE := Lib.hid (fun V => same_any (r (k + q)) (r (k + q - 1)) V)
                rw [show (ordE (r (k + q)) (r (k + q - 1)) == 0) = true by cases hb : (ordE (r (k + q)) (r (k + q - 1)) == 0) with | true => rfl | false => rw [hb] at hqq; exact absurd hqq hkp] at HE
                clear hqq hkp
                go_wp2_with fail
                refine wp_region_held_drew (S := fun V => V.rangeAt g (k * 21 + q * 21) (Fc.eventC (r (k + q))).toList ∧ V.rangeAt g (k * 21 + (q - 1) * 21) (Fc.eventC (r (k + q - 1))).toList) (by kernel_rfl) (HRG.out _ HR.out) (fun hHeld => ?_)
                refine Vc.wpAnyH_read (i := 0) (d := some 38) (v := ?v32) (by rfl) (by rfl) (by kernel_rfl) (by kernel_rfl) (by kernel_rfl) (fun _ _ _ h => h) (by rfl) ?hy32 (by assumption) ?rest32
                case hy32 =>
                  intro w hSw
                  go_simp
                  try with_reducible rfl
                (try simp only [Act.put, List.setIfInBounds_toArray, List.set_cons_zero, List.set_cons_succ])
                refine Vc.wpAnyH_read (i := 1) (d := some 39) (v := ?v33) (by rfl) (by rfl) (by kernel_rfl) (by kernel_rfl) (by kernel_rfl) (fun _ _ _ h => h) (by rfl) ?hy33 (by assumption) ?rest33
                case hy33 =>
                  intro w hSw
                  go_simp
                  try with_reducible rfl
                (try simp only [Act.put, List.setIfInBounds_toArray, List.set_cons_zero, List.set_cons_succ])
                refine Vc.wpAnyH_read (i := 2) (d := some 40) (v := ?v34) (by rfl) (by rfl) (by kernel_rfl) (by kernel_rfl) (by kernel_rfl) (fun _ _ _ h => h) (by rfl) ?hy34 (by assumption) ?rest34
                case hy34 =>
                  intro w hSw
                  go_simp
                  try with_reducible rfl
                (try simp only [Act.put, List.setIfInBounds_toArray, List.set_cons_zero, List.set_cons_succ])
                refine Vc.wpAnyH_read (i := 3) (d := some 41) (v := .pointer (some ⟨g, k * 21 + (q) * 21, none⟩)) (by rfl) (by rfl) (by kernel_rfl) (by kernel_rfl) (by kernel_rfl) (fun _ _ _ h => h) (by rfl) ?hy35 (by assumption) ?rest35
                case hy35 =>
                  intro w hSw
                  go_simp
                  all_goals first | (rw [if_pos HXJ.out.1, HXJ.out.2]) | (intro hh; exfalso; omega) | (intro hh; exfalso; have hh2 := hh (by omega); omega)
                (try simp only [Act.put, List.setIfInBounds_toArray, List.set_cons_zero, List.set_cons_succ])
                refine Vc.wpAnyH_read (i := 4) (d := some 42) (v := .agg (Fc.eventC (r (k + q)))) (by rfl) (by rfl) (by kernel_rfl) (by kernel_rfl) (by kernel_rfl) (fun _ _ _ h => h) (by rfl) ?hy36 (by assumption) ?rest36
                case hy36 =>
                  intro w hSw
                  exact Who.exec_loadA _ rfl rfl hSw.1 Tryd.underlying31 rfl Sr.info_event
                (try simp only [Act.put, List.setIfInBounds_toArray, List.set_cons_zero, List.set_cons_succ])
                refine Vc.wpAnyH_read (i := 5) (d := some 43) (v := ?v37) (by rfl) (by rfl) (by kernel_rfl) (by kernel_rfl) (by kernel_rfl) (fun _ _ _ h => h) (by rfl) ?hy37 (by assumption) ?rest37
                case hy37 =>
                  intro w hSw
                  go_simp
                  try with_reducible rfl
                (try simp only [Act.put, List.setIfInBounds_toArray, List.set_cons_zero, List.set_cons_succ])
                refine Vc.wpAnyH_read (i := 6) (d := some 44) (v := ?v38) (by rfl) (by rfl) (by kernel_rfl) (by kernel_rfl) (by kernel_rfl) (fun _ _ _ h => h) (by rfl) ?hy38 (by assumption) ?rest38
                case hy38 =>
                  intro w hSw
                  go_simp
                  try with_reducible rfl
                (try simp only [Act.put, List.setIfInBounds_toArray, List.set_cons_zero, List.set_cons_succ])
                refine Vc.wpAnyH_read (i := 7) (d := some 45) (v := .int .i64 ((q : Int) - 1)) (by rfl) (by rfl) (by kernel_rfl) (by kernel_rfl) (by kernel_rfl) (fun _ _ _ h => h) (by rfl) ?hy39 (by assumption) ?rest39
                case hy39 =>
                  intro w hSw
                  go_simp
                  all_goals first | rw [HWS.out] | omega
                (try simp only [Act.put, List.setIfInBounds_toArray, List.set_cons_zero, List.set_cons_succ])
                refine Vc.wpAnyH_read (i := 8) (d := some 46) (v := .pointer (some ⟨g, k * 21 + (q - 1) * 21, none⟩)) (by rfl) (by rfl) (by kernel_rfl) (by kernel_rfl) (by kernel_rfl) (fun _ _ _ h => h) (by rfl) ?hy40 (by assumption) ?rest40
                case hy40 =>
                  intro w hSw
                  go_simp
                  all_goals first | (rw [if_pos HXK.out.1, HXK.out.2]) | (intro hh; exfalso; omega) | (intro hh; exfalso; have hh2 := hh (by omega); omega)
                (try simp only [Act.put, List.setIfInBounds_toArray, List.set_cons_zero, List.set_cons_succ])
                refine Vc.wpAnyH_read (i := 9) (d := some 47) (v := .agg (Fc.eventC (r (k + q - 1)))) (by rfl) (by rfl) (by kernel_rfl) (by kernel_rfl) (by kernel_rfl) (fun _ _ _ h => h) (by rfl) ?hy41 (by assumption) ?rest41
                case hy41 =>
                  intro w hSw
                  exact Who.exec_loadA _ rfl rfl hSw.2 Tryd.underlying31 rfl Sr.info_event
                (try simp only [Act.put, List.setIfInBounds_toArray, List.set_cons_zero, List.set_cons_succ])
                refine wpAnyH_ready (rs := [10]) (by kernel_rfl) (by simp) ?_
                refine AllReadyH.cons rfl (fun K hK => ?_) AllReadyH.nil
                go_simp
                go_at_call 36
                refine (HE.out _).mono ?_
                rintro qq w2 ⟨rfl, hb⟩
                have HR2 := Lib.hid (HR.out.drew.below hb)
                have HC2 := Lib.hid (HC.out.drew.trans (Chg.of_below hb _))
                clear hb
                refine hK.out _ _ (HRG.out _ HR2.out) (fun hHeld => ?_)
                clear hK K
                (try simp only [Act.put, List.setIfInBounds_toArray, List.set_cons_zero, List.set_cons_succ])
                refine Vc.wpAnyH_read (i := 11) (d := some 49) (v := ?v42) (by rfl) (by rfl) (by kernel_rfl) (by kernel_rfl) (by kernel_rfl) (fun _ _ _ h => h) (by rfl) ?hy42 (by assumption) ?rest42
                case hy42 =>
                  intro w hSw
                  go_simp
                  try with_reducible rfl
                (try simp only [Act.put, List.setIfInBounds_toArray, List.set_cons_zero, List.set_cons_succ])
                refine wpAnyH_done (by kernel_rfl) ?_ _
                go_wp2
                go_roundw
                case rel => exact ⟨j, q + 1, r, rfl, by go_num, by omega, by omega, by omega, Lib.hid (by rw [← Nat.add_assoc, HN.out]; exact HL.out), Lib.hid (by rw [← Nat.add_assoc, HN.out]; exact HG.out), Lib.hid (fun i hi => HT.out i (by omega)), HR2, HC2⟩
                case measure => simp [intOf]; omega
            · obtain rfl : q = n - k := by omega
              have HLN : Hid ((dd y n).length = j) := Lib.hid (by have := HL.out; rwa [show k + (n - k) = n by omega] at this)
              have HGN : Hid (∀ i, i < j → (dd y n)[i]? = some (r i)) := Lib.hid (by have := HG.out; rwa [show k + (n - k) = n by omega] at this)
              have hjn : j < n := by omega
              have hcl := fun (W : World) (hW : RwE W g n r z) ty => run_clear_ev W ty g (j * 21) (n - j) (c - j) (by omega) (rw_there hW (by omega))
              have HCL := Lib.hid (hcl _ HR.out)
              have HSR := Lib.hid (srow_set HR.out (k := j) (by omega) HLN.out HGN.out (Builtin.zeroCells (Fc.eventC Sr.zeroE) (n - j)).toList (by rw [zero_len]; omega))
              have HCC := Lib.hid (HC.out.trans (Who.chg_setCells g (Builtin.zeroCells (Fc.eventC Sr.zeroE) (n - j)).toList (j * 21) _))
              have hcl := HCL.out
              go_wp2
              go_ret
              exact ⟨c, by rw [HLN.out]; rfl, by rw [HLN.out]; omega, HCC.out, by rw [HLN.out]; exact HSR.out⟩
      · have HD := Lib.hid (dd_all y n (fun i hi => HKP.out i (by omega)))
        go_wp2
        go_ret
        exact ⟨c, by rw [HD.out.1]; rfl, by rw [HD.out.1]; exact hc, HC.out, srow_rw HR.out (by rw [HD.out.1]; exact Nat.le_refl _) rfl (fun i hi => HD.out.2 i (by rw [HD.out.1] at hi; exact hi))⟩
end Go.Proofs.YtdbmnnmcelaehaaDoor.Stab
