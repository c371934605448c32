/- The library's symmetric merge over events. -/
import Derived.Test.YtdbmnnmcelaehaaDoorStabD
import Derived.Test.YtdbmnnmcelaehaaDoorStabJ
import Derived.Test.YtdbmnnmcelaehaaDoorStabK
namespace Go.Proofs.YtdbmnnmcelaehaaDoor.Stab
open Go.RowKit Go.Proofs.YtdbmnnmcelaehaaDoor.Mem
set_option linter.unusedVariables false set_option linter.unusedSimpArgs false

/-- what a merge of two parts comes to -/
def MergeIs (g c n a m b : Nat) (x : Nat → Fc.EventC) (t : Nat → Nat) (z : List Value) (w : World) : Prop :=
  Calls Tryd.prog 64 #[.slice (some ⟨g, 0, none⟩) n c, .int .i64 a, .int .i64 m, .int .i64 b, (.func (.func 34) #[] #[])] w fun e w' => e = .returned (.tuple #[]) ∧ Chg (· = g) w w' ∧ ∃ p, Re a b p ∧ RwE w' g n (fun k => x (p k)) z ∧ Srt Lex (fun k => (x (p k), t (p k))) a b
/-- all that is shorter is merged -/
def Shorter (g c n d : Nat) (z : List Value) : Prop := ∀ (a m b : Nat) (x : Nat → Fc.EventC) (t : Nat → Nat) (w : World), b - a < d → a < m → m < b → b ≤ n → Srt Lex (fun k => (x k, t k)) a m → Srt Lex (fun k => (x k, t k)) m b → (∀ i j, a ≤ i → i < m → m ≤ j → j < b → t i < t j) → RwE w g n x z → MergeIs g c n a m b x t z w
theorem back_row {q c n : Nat} (h : c < q) (hn : q ≤ n + 1 + c) (hn2 : q < n + 1 + c) : (0 ≤ (q : Int) - 1 - (c : Int) ∧ (q : Int) - 1 - (c : Int) < (n : Int)) ∧ ((q : Int) - 1 - (c : Int)).toNat = q - 1 - c := ⟨⟨by omega, by omega⟩, by omega⟩
theorem wrap_back {q c : Nat} (h : c < q) (hq : q < 9000000000) : IntKind.i64.wrap ((q : Int) - 1 - (c : Int)) = (q : Int) - 1 - (c : Int) := by
  have e : (q : Int) - 1 - (c : Int) = ((q - 1 - c : Nat) : Int) := by omega
  rw [e]
  exact Lib.wrap_i64_small _ (by omega)
set_option maxRecDepth 100000 in
set_option maxHeartbeats 4000000 in
theorem merge_gen (g c n a m b : Nat) (x : Nat → Fc.EventC) (t : Nat → Nat) (z : List Value) (hn : n < 4000000000) (ham : a + 1 < m) (hmb : m + 1 < b) (hbn : b ≤ n) (hL : Srt Lex (fun k => (x k, t k)) a m) (hR : Srt Lex (fun k => (x k, t k)) m b) (ht : ∀ i j, a ≤ i → i < m → m ≤ j → j < b → t i < t j) (IH : Shorter g c n (b - a) z) (w : World) (h : RwE w g n x z) : MergeIs g c n a m b x t z w := by
  have H0 := Lib.hid h
  have HT := Lib.hid ht
  have HL := Lib.hid hL
  have HR0 := Lib.hid hR
  have HI := Lib.hid IH
  have hq1 : ((m : Int) - (a : Int) == 1) = false := by simp; omega
  have hq2 : ((b : Int) - (m : Int) == 1) = false := by simp; omega
  obtain ⟨mid, hmid⟩ : ∃ mid, mid = (a + b) / 2 := ⟨_, rfl⟩
  have m1 : 2 * mid ≤ a + b := by omega
  have m2 : a + b < 2 * mid + 2 := by omega
  obtain ⟨SA, hSA⟩ : ∃ SA, SA = symA a m b mid := ⟨_, rfl⟩
  obtain ⟨SB, hSB⟩ : ∃ SB, SB = symB m mid := ⟨_, rfl⟩
  obtain ⟨b1, b2, b3, b4, b5, b6, b7⟩ := sym_bounds (a := a) (m := m) (b := b) (mid := mid) (by omega) (by omega) m1 m2
  rw [← hSA] at b1 b2 b6
  rw [← hSB] at b2 b3 b7
  obtain ⟨q, hq⟩ : ∃ q, q = mid + m := ⟨_, rfl⟩
  have eM : ((a : Int) + (b : Int)) / 2 = (mid : Int) := by omega
  have eQ : (mid : Int) + (m : Int) = (q : Int) := by omega
  have HLO : Hid (∀ k2, SA ≤ k2 → k2 < SB → Lex (x k2, t k2) (x (q - 1 - k2), t (q - 1 - k2)) → ∀ k, SA ≤ k → k < k2 + 1 → Lex (x k, t k) (x (q - 1 - k), t (q - 1 - k))) := Lib.hid (fun k2 h1 h2 h3 k h4 h5 => sym_low (lt := Lex) (x := fun k => (x k, t k)) (a := a) (m := m) (b := b) (p := q - 1) (s := SA) (c := k2) lex_trans hL hR b1 (by omega) (by omega) (by omega) (by omega) h3 k h4 (by omega))
  have HHI : Hid (∀ k2, SA ≤ k2 → k2 < SB → Lex (x (q - 1 - k2), t (q - 1 - k2)) (x k2, t k2) → ∀ k, k2 ≤ k → k < SB → Lex (x (q - 1 - k), t (q - 1 - k)) (x k, t k)) := Lib.hid (fun k2 h1 h2 h3 k h4 h5 => sym_high (lt := Lex) (x := fun k => (x k, t k)) (a := a) (m := m) (b := b) (p := q - 1) (r := SB) (c := k2) lex_trans hL hR (by omega) b3 (fun k hk => by omega) (by omega) (by omega) h3 k h4 h5)
  have HDN : Hid (∀ s, SA ≤ s → s ≤ SB → (∀ k, SA ≤ k → k < s → Lex (x k, t k) (x (q - 1 - k), t (q - 1 - k))) → (∀ k, s ≤ k → k < SB → Lex (x (q - 1 - k), t (q - 1 - k)) (x k, t k)) → (∀ i j, a ≤ i → i < s → q - s ≤ j → j < b → Lex (x i, t i) (x j, t j)) ∧ (∀ i j, m ≤ i → i < q - s → s ≤ j → j < m → Lex (x i, t i) (x j, t j))) := Lib.hid (fun s s1 s2 lo hi => by
    have hh := sym_done (lt := Lex) (x := fun k => (x k, t k)) (a := a) (m := m) (b := b) (mid := mid) (s := s) lex_trans (by omega) (by omega) m1 m2 hL hR (by rw [← hSA]; exact s1) (by rw [← hSB]; exact s2) (by rw [← hSA, ← hq]; exact lo) (by rw [← hSB, ← hq]; exact hi)
    rw [← hq] at hh
    exact hh)
  have HEM := Lib.hid eM
  have HEQ := Lib.hid eQ
  have HM1 := Lib.hid m1
  have HM2 := Lib.hid m2
  have HQ := Lib.hid hq
  have HSA := Lib.hid (show (mid < m → SA = mid + m - b) ∧ (¬ mid < m → SA = a) from by rw [hSA]; unfold symA; exact ⟨fun h => if_pos h, fun h => if_neg h⟩)
  have HSB := Lib.hid (show (mid < m → SB = mid) ∧ (¬ mid < m → SB = m) from by rw [hSB]; unfold symB; exact ⟨fun h => if_pos h, fun h => if_neg h⟩)
  have q1 : m ≤ q := by omega
  have q2 : q < 8000000000 := by omega

  have mb : mid < n := by omega
  clear h ht hL hR IH hmid hSA hSB hq eM eQ m1 m2
  unfold MergeIs
  go_enter Tryd.func64, Tryd.ntmps64
  with_reducible refine wp_seq_k (x := Code.seq _ _) (fun K1 hK1 => ?_)
  have HK1 := Lib.hid hK1
  clear hK1
  go_wp2
  refine HK1.out _ _ ?_
  clear HK1 K1
  with_reducible refine wp_seq_k (x := Code.seq _ _) (fun K2 hK2 => ?_)
  have HK2 := Lib.hid hK2
  clear hK2
  go_wp2
  refine HK2.out _ _ ?_
  clear HK2 K2
  clear hq1 hq2
  repeat ((fail_if_success (with_reducible refine wp_seq_k (x := Code.seq _ _) (fun K0 hK0 => ?_))); first | go_step | go_upon | (simp only [Int.not_lt, Int.not_le] at *; go_simp) | (go_values <;> (try go_simp)) | (go_ite <;> go_prune <;> (try go_simp)) | (split <;> (first | (rename_i hx; exact (hx _ rfl).elim) | go_prune)))
  with_reducible refine wp_seq_k (x := Code.seq _ _) (fun K3 hK3 => ?_)
  have HK3 : ∀ (u5 u6 u7 u8 u9 u10 u11 u12 u13 u14 u15 u16 u17 u22 u23 u24 u25 u26 u27 u28 u29 u30 u31 u32 u33 u34 u35 u36 u37 u38 u39 u40 u41 u42 u43 u44 u45 u46 u47 u48 u49 u50 u51 u52 u53 u54 u55 u56 u57 u58 u59 u60 u61 u62 u63 u64 u65 u66 u67 u68 u69 u70 u71 u72 u73 u74 u75 u76 u77 u78 u79 u80 u81 u82 u83 u84 u85 u86 u87 u88 u89 u90 u91 u92 u93 u94 u95 u96 u97 u98 u99 u100 u101 u102 u103 u104 u105 u106 u107 u108 u109 u110 u111 u112 u113 u114 u115 u116 u117 u118 u119 u120 u121 u122 u123 u124 u125 u126 u127 u128 u129 u130 u131 u132 u133 u134 u135 u136 u137 u138 u139 u140 u141 u142 u143 u144 u145 u146 u147 u148 u149 u150 u151 u152 u153 u154 u155 u156 u157 u158 u159 u160 u161 u162 u163 u164 u165 u166 u167 u168 u169 u170 u171 u172 u173 u174 u175 u176 u177 u178 u179 u180 u181 u182 u183 u184 u185 u186 u187 u188 u189 u190 u191 u192 u193 u194 u195 u196 u197 u198 u199 u200 u201 u202 u203 u204 u205 u206 u207 u208 u209 u210 u211 u212 u213 u214 u215 u216 u217 u218 u219 : Value), K3 { tmps := #[.slice (some ⟨g, 0, none⟩) n c, .int .i64 a, .int .i64 m, .int .i64 b, (.func (.func 34) #[] #[]), u5, u6, u7, u8, u9, u10, u11, u12, u13, u14, u15, u16, u17, .int .i64 mid, .int .i64 q, .int .i64 (SA : Nat), .int .i64 (SB : Nat), u22, u23, u24, u25, u26, u27, u28, u29, u30, u31, u32, u33, u34, u35, u36, u37, u38, u39, u40, u41, u42, u43, u44, u45, u46, u47, u48, u49, u50, u51, u52, u53, u54, u55, u56, u57, u58, u59, u60, u61, u62, u63, u64, u65, u66, u67, u68, u69, u70, u71, u72, u73, u74, u75, u76, u77, u78, u79, u80, u81, u82, u83, u84, u85, u86, u87, u88, u89, u90, u91, u92, u93, u94, u95, u96, u97, u98, u99, u100, u101, u102, u103, u104, u105, u106, u107, u108, u109, u110, u111, u112, u113, u114, u115, u116, u117, u118, u119, u120, u121, u122, u123, u124, u125, u126, u127, u128, u129, u130, u131, u132, u133, u134, u135, u136, u137, u138, u139, u140, u141, u142, u143, u144, u145, u146, u147, u148, u149, u150, u151, u152, u153, u154, u155, u156, u157, u158, u159, u160, u161, u162, u163, u164, u165, u166, u167, u168, u169, u170, u171, u172, u173, u174, u175, u176, u177, u178, u179, u180, u181, u182, u183, u184, u185, u186, u187, u188, u189, u190, u191, u192, u193, u194, u195, u196, u197, u198, u199, u200, u201, u202, u203, u204, u205, u206, u207, u208, u209, u210, u211, u212, u213, u214, u215, u216, u217, u218, u219], defers := [] } w := by
    intro u5 u6 u7 u8 u9 u10 u11 u12 u13 u14 u15 u16 u17 u22 u23 u24 u25 u26 u27 u28 u29 u30 u31 u32 u33 u34 u35 u36 u37 u38 u39 u40 u41 u42 u43 u44 u45 u46 u47 u48 u49 u50 u51 u52 u53 u54 u55 u56 u57 u58 u59 u60 u61 u62 u63 u64 u65 u66 u67 u68 u69 u70 u71 u72 u73 u74 u75 u76 u77 u78 u79 u80 u81 u82 u83 u84 u85 u86 u87 u88 u89 u90 u91 u92 u93 u94 u95 u96 u97 u98 u99 u100 u101 u102 u103 u104 u105 u106 u107 u108 u109 u110 u111 u112 u113 u114 u115 u116 u117 u118 u119 u120 u121 u122 u123 u124 u125 u126 u127 u128 u129 u130 u131 u132 u133 u134 u135 u136 u137 u138 u139 u140 u141 u142 u143 u144 u145 u146 u147 u148 u149 u150 u151 u152 u153 u154 u155 u156 u157 u158 u159 u160 u161 u162 u163 u164 u165 u166 u167 u168 u169 u170 u171 u172 u173 u174 u175 u176 u177 u178 u179 u180 u181 u182 u183 u184 u185 u186 u187 u188 u189 u190 u191 u192 u193 u194 u195 u196 u197 u198 u199 u200 u201 u202 u203 u204 u205 u206 u207 u208 u209 u210 u211 u212 u213 u214 u215 u216 u217 u218 u219
    refine hK3 _ _ ?_
    clear hK3 K3
    go_wp2
    go_loopw [20, 21] (fun si sj wr => ∃ i j : Nat, si = .int .i64 i ∧ sj = .int .i64 j ∧ SA ≤ i ∧ i ≤ j ∧ j ≤ SB ∧ Hid (∀ k, SA ≤ k → k < i → Lex (x k, t k) (x (q - 1 - k), t (q - 1 - k))) ∧ Hid (∀ k, j ≤ k → k < SB → Lex (x (q - 1 - k), t (q - 1 - k)) (x k, t k)) ∧ Hid (RwE wr g n x z) ∧ Hid (Chg (· = g) w wr)) (fun si sj _ => (intOf sj).toNat - (intOf si).toNat)
    case atStart => exact ⟨SA, SB, rfl, rfl, by omega, by omega, by omega, Lib.hid (fun k k1 k2 => by omega), Lib.hid (fun k k1 k2 => by omega), H0, Lib.hid (Chg.refl _ _)⟩
    case round =>
      obtain ⟨i, j, rfl, rfl, hi, hij, hj, HLW, HHW, HR, HC⟩ := hrel
      have hqm := HQ.out
      by_cases hlt : i < j
      · obtain ⟨hm, hhm⟩ : ∃ hm, hm = (i + j) / 2 := ⟨_, rfl⟩
        have hm1 : i ≤ hm := by omega
        have hm2 : hm < j := by omega
        have eh : ((i : Int) + (j : Int)) / 2 = ((hm : Nat) : Int) := by omega
        have HEH := Lib.hid eh
        have HXH := Lib.hid (self_row (j := hm) (n := n) (by omega))
        have HXP := Lib.hid (back_row (q := q) (c := hm) (n := n) (by omega) (by omega) (by omega))
        have HWS := Lib.hid (wrap_back (q := q) (c := hm) (by omega) (by omega))
        have p1 : q - 1 - hm < n := by omega
        have p2 : hm < n := by omega
        have P3 := Lib.hid (show t hm < t (q - 1 - hm) from HT.out hm (q - 1 - hm) (by omega) (by omega) (by omega) (by omega))
        clear hhm eh hqm
        by_cases hc : ordE (x (q - 1 - hm)) (x hm) < 0
        · have HD := Lib.hid (show decide (ordE (x (q - 1 - hm)) (x hm) < 0) = true from decide_eq_true hc)
          have HN := Lib.hid (HHI.out hm (by omega) (by omega) (lex_yes hc))
          clear hc
          go_wp2_with fail
          simp only [HEH.out]
          refine wp_region_held_drew (S := fun V => V.rangeAt g ((q - 1 - hm) * 21) (Fc.eventC (x (q - 1 - hm))).toList ∧ V.rangeAt g (hm * 21) (Fc.eventC (x hm)).toList) (by kernel_rfl) ⟨HR.out.range size_c (by omega), HR.out.range size_c (by omega)⟩ (fun hHeld => ?_)
          refine Vc.wpAnyH_read (i := 0) (d := some 158) (v := ?v1) (by rfl) (by rfl) (by kernel_rfl) (by kernel_rfl) (by kernel_rfl) (fun _ _ _ h => h) (by rfl) ?hy1 (by assumption) ?rest1
          case hy1 =>
            intro w hSw
            go_simp
            try with_reducible rfl
          (try simp only [Act.put, List.setIfInBounds_toArray, List.set_cons_zero, List.set_cons_succ])
          refine Vc.wpAnyH_read (i := 1) (d := some 159) (v := ?v2) (by rfl) (by rfl) (by kernel_rfl) (by kernel_rfl) (by kernel_rfl) (fun _ _ _ h => h) (by rfl) ?hy2 (by assumption) ?rest2
          case hy2 =>
            intro w hSw
            go_simp
            try with_reducible rfl
          (try simp only [Act.put, List.setIfInBounds_toArray, List.set_cons_zero, List.set_cons_succ])
          refine Vc.wpAnyH_read (i := 2) (d := some 160) (v := ?v3) (by rfl) (by rfl) (by kernel_rfl) (by kernel_rfl) (by kernel_rfl) (fun _ _ _ h => h) (by rfl) ?hy3 (by assumption) ?rest3
          case hy3 =>
            intro w hSw
            go_simp
            try with_reducible rfl
          (try simp only [Act.put, List.setIfInBounds_toArray, List.set_cons_zero, List.set_cons_succ])
          refine Vc.wpAnyH_read (i := 3) (d := some 161) (v := ?v4) (by rfl) (by rfl) (by kernel_rfl) (by kernel_rfl) (by kernel_rfl) (fun _ _ _ h => h) (by rfl) ?hy4 (by assumption) ?rest4
          case hy4 =>
            intro w hSw
            go_simp
            try with_reducible rfl
          (try simp only [Act.put, List.setIfInBounds_toArray, List.set_cons_zero, List.set_cons_succ])
          refine Vc.wpAnyH_read (i := 4) (d := some 162) (v := .int .i64 ((q : Int) - 1 - (hm : Int))) (by rfl) (by rfl) (by kernel_rfl) (by kernel_rfl) (by kernel_rfl) (fun _ _ _ h => h) (by rfl) ?hy5 (by assumption) ?rest5
          case hy5 =>
            intro w hSw
            go_simp
            all_goals first | rw [HWS.out] | omega
          (try simp only [Act.put, List.setIfInBounds_toArray, List.set_cons_zero, List.set_cons_succ])
          refine Vc.wpAnyH_read (i := 5) (d := some 163) (v := .pointer (some ⟨g, (q - 1 - hm) * 21, none⟩)) (by rfl) (by rfl) (by kernel_rfl) (by kernel_rfl) (by kernel_rfl) (fun _ _ _ h => h) (by rfl) ?hy6 (by assumption) ?rest6
          case hy6 =>
            intro w hSw
            go_simp
            all_goals first | (rw [if_pos HXP.out.1, HXP.out.2]) | (intro hh; exfalso; omega) | (intro hh; exfalso; have hh2 := hh (by omega); omega)
          (try simp only [Act.put, List.setIfInBounds_toArray, List.set_cons_zero, List.set_cons_succ])
          refine Vc.wpAnyH_read (i := 6) (d := some 164) (v := .agg (Fc.eventC (x (q - 1 - hm)))) (by rfl) (by rfl) (by kernel_rfl) (by kernel_rfl) (by kernel_rfl) (fun _ _ _ h => h) (by rfl) ?hy7 (by assumption) ?rest7
          case hy7 =>
            intro w hSw
            exact Who.exec_loadA _ rfl rfl hSw.1 Tryd.underlying31 rfl Sr.info_event
          (try simp only [Act.put, List.setIfInBounds_toArray, List.set_cons_zero, List.set_cons_succ])
          refine Vc.wpAnyH_read (i := 7) (d := some 165) (v := ?v8) (by rfl) (by rfl) (by kernel_rfl) (by kernel_rfl) (by kernel_rfl) (fun _ _ _ h => h) (by rfl) ?hy8 (by assumption) ?rest8
          case hy8 =>
            intro w hSw
            go_simp
            try with_reducible rfl
          (try simp only [Act.put, List.setIfInBounds_toArray, List.set_cons_zero, List.set_cons_succ])
          refine Vc.wpAnyH_read (i := 8) (d := some 166) (v := ?v9) (by rfl) (by rfl) (by kernel_rfl) (by kernel_rfl) (by kernel_rfl) (fun _ _ _ h => h) (by rfl) ?hy9 (by assumption) ?rest9
          case hy9 =>
            intro w hSw
            go_simp
            try with_reducible rfl
          (try simp only [Act.put, List.setIfInBounds_toArray, List.set_cons_zero, List.set_cons_succ])
          refine Vc.wpAnyH_read (i := 9) (d := some 167) (v := .pointer (some ⟨g, (hm) * 21, none⟩)) (by rfl) (by rfl) (by kernel_rfl) (by kernel_rfl) (by kernel_rfl) (fun _ _ _ h => h) (by rfl) ?hy10 (by assumption) ?rest10
          case hy10 =>
            intro w hSw
            go_simp
            all_goals first | (rw [if_pos HXH.out.1, HXH.out.2]) | (intro hh; exfalso; omega) | (intro hh; exfalso; have hh2 := hh (by omega); omega)
          (try simp only [Act.put, List.setIfInBounds_toArray, List.set_cons_zero, List.set_cons_succ])
          refine Vc.wpAnyH_read (i := 10) (d := some 168) (v := .agg (Fc.eventC (x hm))) (by rfl) (by rfl) (by kernel_rfl) (by kernel_rfl) (by kernel_rfl) (fun _ _ _ h => h) (by rfl) ?hy11 (by assumption) ?rest11
          case hy11 =>
            intro w hSw
            exact Who.exec_loadA _ rfl rfl hSw.2 Tryd.underlying31 rfl Sr.info_event
          (try simp only [Act.put, List.setIfInBounds_toArray, List.set_cons_zero, List.set_cons_succ])
          refine wpAnyH_ready (rs := [11]) (by kernel_rfl) (by simp) ?_
          refine AllReadyH.cons rfl (fun K hK => ?_) AllReadyH.nil
          go_simp
          go_at_call 34
          refine (order_any (x (q - 1 - hm)) (x hm) _).mono ?_
          rintro qq w2 ⟨rfl, hb⟩
          have HR2 := Lib.hid (HR.out.drew.below hb)
          have HC2 := Lib.hid (HC.out.drew.trans (Chg.of_below hb _))
          clear hb
          refine hK.out _ _ ⟨HR2.out.range size_c (by omega), HR2.out.range size_c (by omega)⟩ (fun hHeld => ?_)
          clear hK K
          (try simp only [Act.put, List.setIfInBounds_toArray, List.set_cons_zero, List.set_cons_succ])
          refine Vc.wpAnyH_read (i := 12) (d := some 170) (v := .bool true) (by rfl) (by rfl) (by kernel_rfl) (by kernel_rfl) (by kernel_rfl) (fun _ _ _ h => h) (by rfl) ?hy12 (by assumption) ?rest12
          case hy12 =>
            intro w hSw
            go_simp
            all_goals first | (rw [HD.out]) | (have hd := HD.out; simp only [decide_eq_true_eq, decide_eq_false_iff_not] at hd; first | exact hd | omega)
          (try simp only [Act.put, List.setIfInBounds_toArray, List.set_cons_zero, List.set_cons_succ])
          refine Vc.wpAnyH_read (i := 13) (d := some 171) (v := ?v13) (by rfl) (by rfl) (by kernel_rfl) (by kernel_rfl) (by kernel_rfl) (fun _ _ _ h => h) (by rfl) ?hy13 (by assumption) ?rest13
          case hy13 =>
            intro w hSw
            go_simp
            try with_reducible rfl
          (try simp only [Act.put, List.setIfInBounds_toArray, List.set_cons_zero, List.set_cons_succ])
          refine wpAnyH_done (by kernel_rfl) ?_ _
          go_wp2
          go_roundw
          case rel => exact ⟨i, hm, rfl, rfl, by omega, by omega, by omega, HLW, HN, HR2, HC2⟩
          case measure => simp [intOf]; omega
        · have HD := Lib.hid (show decide (ordE (x (q - 1 - hm)) (x hm) < 0) = false from decide_eq_false hc)
          have HN := Lib.hid (HLO.out hm (by omega) (by omega) (lex_no hc P3.out))
          clear hc
          go_wp2_with fail
          simp only [HEH.out]
          refine wp_region_held_drew (S := fun V => V.rangeAt g ((q - 1 - hm) * 21) (Fc.eventC (x (q - 1 - hm))).toList ∧ V.rangeAt g (hm * 21) (Fc.eventC (x hm)).toList) (by kernel_rfl) ⟨HR.out.range size_c (by omega), HR.out.range size_c (by omega)⟩ (fun hHeld => ?_)
          refine Vc.wpAnyH_read (i := 0) (d := some 158) (v := ?v14) (by rfl) (by rfl) (by kernel_rfl) (by kernel_rfl) (by kernel_rfl) (fun _ _ _ h => h) (by rfl) ?hy14 (by assumption) ?rest14
          case hy14 =>
            intro w hSw
            go_simp
            try with_reducible rfl
          (try simp only [Act.put, List.setIfInBounds_toArray, List.set_cons_zero, List.set_cons_succ])
          refine Vc.wpAnyH_read (i := 1) (d := some 159) (v := ?v15) (by rfl) (by rfl) (by kernel_rfl) (by kernel_rfl) (by kernel_rfl) (fun _ _ _ h => h) (by rfl) ?hy15 (by assumption) ?rest15
          case hy15 =>
            intro w hSw
            go_simp
            try with_reducible rfl
          (try simp only [Act.put, List.setIfInBounds_toArray, List.set_cons_zero, List.set_cons_succ])
          refine Vc.wpAnyH_read (i := 2) (d := some 160) (v := ?v16) (by rfl) (by rfl) (by kernel_rfl) (by kernel_rfl) (by kernel_rfl) (fun _ _ _ h => h) (by rfl) ?hy16 (by assumption) ?rest16
          case hy16 =>
            intro w hSw
            go_simp
            try with_reducible rfl
          (try simp only [Act.put, List.setIfInBounds_toArray, List.set_cons_zero, List.set_cons_succ])
          refine Vc.wpAnyH_read (i := 3) (d := some 161) (v := ?v17) (by rfl) (by rfl) (by kernel_rfl) (by kernel_rfl) (by kernel_rfl) (fun _ _ _ h => h) (by rfl) ?hy17 (by assumption) ?rest17
          case hy17 =>
            intro w hSw
            go_simp
            try with_reducible rfl
          (try simp only [Act.put, List.setIfInBounds_toArray, List.set_cons_zero, List.set_cons_succ])
          refine Vc.wpAnyH_read (i := 4) (d := some 162) (v := .int .i64 ((q : Int) - 1 - (hm : Int))) (by rfl) (by rfl) (by kernel_rfl) (by kernel_rfl) (by kernel_rfl) (fun _ _ _ h => h) (by rfl) ?hy18 (by assumption) ?rest18
          case hy18 =>
            intro w hSw
            go_simp
            all_goals first | rw [HWS.out] | omega
          (try simp only [Act.put, List.setIfInBounds_toArray, List.set_cons_zero, List.set_cons_succ])
          refine Vc.wpAnyH_read (i := 5) (d := some 163) (v := .pointer (some ⟨g, (q - 1 - hm) * 21, none⟩)) (by rfl) (by rfl) (by kernel_rfl) (by kernel_rfl) (by kernel_rfl) (fun _ _ _ h => h) (by rfl) ?hy19 (by assumption) ?rest19
          case hy19 =>
            intro w hSw
            go_simp
            all_goals first | (rw [if_pos HXP.out.1, HXP.out.2]) | (intro hh; exfalso; omega) | (intro hh; exfalso; have hh2 := hh (by omega); omega)
          (try simp only [Act.put, List.setIfInBounds_toArray, List.set_cons_zero, List.set_cons_succ])
          refine Vc.wpAnyH_read (i := 6) (d := some 164) (v := .agg (Fc.eventC (x (q - 1 - hm)))) (by rfl) (by rfl) (by kernel_rfl) (by kernel_rfl) (by kernel_rfl) (fun _ _ _ h => h) (by rfl) ?hy20 (by assumption) ?rest20
          case hy20 =>
            intro w hSw
            exact Who.exec_loadA _ rfl rfl hSw.1 Tryd.underlying31 rfl Sr.info_event
          (try simp only [Act.put, List.setIfInBounds_toArray, List.set_cons_zero, List.set_cons_succ])
          refine Vc.wpAnyH_read (i := 7) (d := some 165) (v := ?v21) (by rfl) (by rfl) (by kernel_rfl) (by kernel_rfl) (by kernel_rfl) (fun _ _ _ h => h) (by rfl) ?hy21 (by assumption) ?rest21
          case hy21 =>
            intro w hSw
            go_simp
            try with_reducible rfl
          (try simp only [Act.put, List.setIfInBounds_toArray, List.set_cons_zero, List.set_cons_succ])
          refine Vc.wpAnyH_read (i := 8) (d := some 166) (v := ?v22) (by rfl) (by rfl) (by kernel_rfl) (by kernel_rfl) (by kernel_rfl) (fun _ _ _ h => h) (by rfl) ?hy22 (by assumption) ?rest22
          case hy22 =>
            intro w hSw
            go_simp
            try with_reducible rfl
          (try simp only [Act.put, List.setIfInBounds_toArray, List.set_cons_zero, List.set_cons_succ])
          refine Vc.wpAnyH_read (i := 9) (d := some 167) (v := .pointer (some ⟨g, (hm) * 21, none⟩)) (by rfl) (by rfl) (by kernel_rfl) (by kernel_rfl) (by kernel_rfl) (fun _ _ _ h => h) (by rfl) ?hy23 (by assumption) ?rest23
          case hy23 =>
            intro w hSw
            go_simp
            all_goals first | (rw [if_pos HXH.out.1, HXH.out.2]) | (intro hh; exfalso; omega) | (intro hh; exfalso; have hh2 := hh (by omega); omega)
          (try simp only [Act.put, List.setIfInBounds_toArray, List.set_cons_zero, List.set_cons_succ])
          refine Vc.wpAnyH_read (i := 10) (d := some 168) (v := .agg (Fc.eventC (x hm))) (by rfl) (by rfl) (by kernel_rfl) (by kernel_rfl) (by kernel_rfl) (fun _ _ _ h => h) (by rfl) ?hy24 (by assumption) ?rest24
          case hy24 =>
            intro w hSw
            exact Who.exec_loadA _ rfl rfl hSw.2 Tryd.underlying31 rfl Sr.info_event
          (try simp only [Act.put, List.setIfInBounds_toArray, List.set_cons_zero, List.set_cons_succ])
          refine wpAnyH_ready (rs := [11]) (by kernel_rfl) (by simp) ?_
          refine AllReadyH.cons rfl (fun K hK => ?_) AllReadyH.nil
          go_simp
          go_at_call 34
          refine (order_any (x (q - 1 - hm)) (x hm) _).mono ?_
          rintro qq w2 ⟨rfl, hb⟩
          have HR2 := Lib.hid (HR.out.drew.below hb)
          have HC2 := Lib.hid (HC.out.drew.trans (Chg.of_below hb _))
          clear hb
          refine hK.out _ _ ⟨HR2.out.range size_c (by omega), HR2.out.range size_c (by omega)⟩ (fun hHeld => ?_)
          clear hK K
          (try simp only [Act.put, List.setIfInBounds_toArray, List.set_cons_zero, List.set_cons_succ])
          refine Vc.wpAnyH_read (i := 12) (d := some 170) (v := .bool false) (by rfl) (by rfl) (by kernel_rfl) (by kernel_rfl) (by kernel_rfl) (fun _ _ _ h => h) (by rfl) ?hy25 (by assumption) ?rest25
          case hy25 =>
            intro w hSw
            go_simp
            all_goals first | (rw [HD.out]) | (have hd := HD.out; simp only [decide_eq_true_eq, decide_eq_false_iff_not] at hd; first | exact hd | omega)
          (try simp only [Act.put, List.setIfInBounds_toArray, List.set_cons_zero, List.set_cons_succ])
          refine Vc.wpAnyH_read (i := 13) (d := some 171) (v := ?v26) (by rfl) (by rfl) (by kernel_rfl) (by kernel_rfl) (by kernel_rfl) (fun _ _ _ h => h) (by rfl) ?hy26 (by assumption) ?rest26
          case hy26 =>
            intro w hSw
            go_simp
            try with_reducible rfl
          (try simp only [Act.put, List.setIfInBounds_toArray, List.set_cons_zero, List.set_cons_succ])
          refine wpAnyH_done (by kernel_rfl) ?_ _
          go_wp2
          go_roundw
          case rel => exact ⟨hm + 1, j, by go_num, rfl, by omega, by omega, by omega, HN, HHW, HR2, HC2⟩
          case measure => simp [intOf]; omega
      · obtain rfl : i = j := by omega
        have hd := HDN.out i (by omega) (by omega) HLW.out HHW.out
        obtain ⟨en, hen⟩ : ∃ en, en = q - i := ⟨_, rfl⟩
        rw [← hen] at hd
        have HD1 := Lib.hid hd.1
        have HD2 := Lib.hid hd.2
        have pp : Parts a m b i mid en := ⟨by omega, by omega, by omega, by omega, by omega⟩
        have PP := Lib.hid pp
        have e1 := pp.h1
        have e2 := pp.h2
        have e3 := pp.h3
        have e4 := pp.h4
        have E5 := Lib.hid pp.h5
        have e6 : i ≤ mid := by omega
        have e7 : mid ≤ en := by omega
        have EEN := Lib.hid (show (q : Int) - (i : Int) = ((en : Nat) : Int) by omega)
        clear hd pp hen hqm HLW HHW HLO HHI HDN HSA HSB hi hj hij b1 b2 b3 b6 b7
        with_reducible refine wp_seq_k (x := Code.seq _ _) (fun K9 hK9 => ?_)
        repeat ((fail_if_success (with_reducible refine wp_seq_k (x := Code.seq _ _) (fun K0 hK0 => ?_))); first | go_step | go_upon | (simp only [Int.not_lt, Int.not_le] at *; go_simp) | (go_values <;> (try go_simp)) | (go_ite <;> go_prune <;> (try go_simp)) | (split <;> (first | (rename_i hx; exact (hx _ rfl).elim) | go_prune)))
        simp only [EEN.out]
        with_reducible refine wp_seq_k (x := Code.seq _ _) (fun K4 hK4 => ?_)
        have HK4 : ∀ (y5 y6 y7 y8 y9 y10 y11 y12 y13 y14 y15 y16 y17 y19 y21 y22 y23 y25 y26 y27 y28 y29 y30 y31 y32 y33 y34 y35 y36 y37 y38 y39 y40 y41 y42 y43 y44 y45 y46 y47 y48 y49 y50 y51 y52 y53 y54 y55 y56 y57 y58 y59 y60 y61 y62 y63 y64 y65 y66 y67 y68 y69 y70 y71 y72 y73 y74 y75 y76 y77 y78 y79 y80 y81 y82 y83 y84 y85 y86 y87 y88 y89 y90 y91 y92 y93 y94 y95 y96 y97 y98 y99 y100 y101 y102 y103 y104 y105 y106 y107 y108 y109 y110 y111 y112 y113 y114 y115 y116 y117 y118 y119 y120 y121 y122 y123 y124 y125 y126 y127 y128 y129 y130 y131 y132 y133 y134 y135 y136 y137 y138 y139 y140 y141 y142 y143 y144 y145 y146 y147 y148 y149 y150 y151 y152 y153 y154 y155 y156 y157 y158 y159 y160 y161 y162 y163 y164 y165 y166 y167 y168 y169 y170 y171 y172 y173 y174 y175 y176 y177 y178 y179 y180 y181 y182 y183 y184 y185 y186 y187 y188 y189 y190 y191 y192 y193 y194 y195 y196 y197 y198 y199 y200 y201 y202 y203 y204 y205 y206 y207 y208 y209 y210 y211 y212 y213 y214 y215 y216 y217 y218 y219 : Value) (wr : World), RwE wr g n (fun k => x (rotP i m en k)) z → Chg (· = g) w wr → K4 { tmps := #[.slice (some ⟨g, 0, none⟩) n c, .int .i64 a, .int .i64 m, .int .i64 b, (.func (.func 34) #[] #[]), y5, y6, y7, y8, y9, y10, y11, y12, y13, y14, y15, y16, y17, .int .i64 mid, y19, .int .i64 i, y21, y22, y23, .int .i64 en, y25, y26, y27, y28, y29, y30, y31, y32, y33, y34, y35, y36, y37, y38, y39, y40, y41, y42, y43, y44, y45, y46, y47, y48, y49, y50, y51, y52, y53, y54, y55, y56, y57, y58, y59, y60, y61, y62, y63, y64, y65, y66, y67, y68, y69, y70, y71, y72, y73, y74, y75, y76, y77, y78, y79, y80, y81, y82, y83, y84, y85, y86, y87, y88, y89, y90, y91, y92, y93, y94, y95, y96, y97, y98, y99, y100, y101, y102, y103, y104, y105, y106, y107, y108, y109, y110, y111, y112, y113, y114, y115, y116, y117, y118, y119, y120, y121, y122, y123, y124, y125, y126, y127, y128, y129, y130, y131, y132, y133, y134, y135, y136, y137, y138, y139, y140, y141, y142, y143, y144, y145, y146, y147, y148, y149, y150, y151, y152, y153, y154, y155, y156, y157, y158, y159, y160, y161, y162, y163, y164, y165, y166, y167, y168, y169, y170, y171, y172, y173, y174, y175, y176, y177, y178, y179, y180, y181, y182, y183, y184, y185, y186, y187, y188, y189, y190, y191, y192, y193, y194, y195, y196, y197, y198, y199, y200, y201, y202, y203, y204, y205, y206, y207, y208, y209, y210, y211, y212, y213, y214, y215, y216, y217, y218, y219], defers := [] } wr := by
          intro y5 y6 y7 y8 y9 y10 y11 y12 y13 y14 y15 y16 y17 y19 y21 y22 y23 y25 y26 y27 y28 y29 y30 y31 y32 y33 y34 y35 y36 y37 y38 y39 y40 y41 y42 y43 y44 y45 y46 y47 y48 y49 y50 y51 y52 y53 y54 y55 y56 y57 y58 y59 y60 y61 y62 y63 y64 y65 y66 y67 y68 y69 y70 y71 y72 y73 y74 y75 y76 y77 y78 y79 y80 y81 y82 y83 y84 y85 y86 y87 y88 y89 y90 y91 y92 y93 y94 y95 y96 y97 y98 y99 y100 y101 y102 y103 y104 y105 y106 y107 y108 y109 y110 y111 y112 y113 y114 y115 y116 y117 y118 y119 y120 y121 y122 y123 y124 y125 y126 y127 y128 y129 y130 y131 y132 y133 y134 y135 y136 y137 y138 y139 y140 y141 y142 y143 y144 y145 y146 y147 y148 y149 y150 y151 y152 y153 y154 y155 y156 y157 y158 y159 y160 y161 y162 y163 y164 y165 y166 y167 y168 y169 y170 y171 y172 y173 y174 y175 y176 y177 y178 y179 y180 y181 y182 y183 y184 y185 y186 y187 y188 y189 y190 y191 y192 y193 y194 y195 y196 y197 y198 y199 y200 y201 y202 y203 y204 y205 y206 y207 y208 y209 y210 y211 y212 y213 y214 y215 y216 y217 y218 y219 wr hr hch
          refine hK4 _ _ ?_
          clear hK4 K4
          have HR4 := Lib.hid hr
          have HC4 := Lib.hid hch
          clear hr hch
          with_reducible refine wp_seq_k (x := Code.seq _ _) (fun K5 hK5 => ?_)
          have HK5 : ∀ (z5 z6 z7 z8 z9 z10 z11 z12 z13 z14 z15 z16 z17 z19 z21 z22 z23 z25 z26 z27 z28 z29 z30 z31 z32 z33 z34 z35 z36 z37 z38 z39 z40 z41 z42 z43 z44 z45 z46 z47 z48 z49 z50 z51 z52 z53 z54 z55 z56 z57 z58 z59 z60 z61 z62 z63 z64 z65 z66 z67 z68 z69 z70 z71 z72 z73 z74 z75 z76 z77 z78 z79 z80 z81 z82 z83 z84 z85 z86 z87 z88 z89 z90 z91 z92 z93 z94 z95 z96 z97 z98 z99 z100 z101 z102 z103 z104 z105 z106 z107 z108 z109 z110 z111 z112 z113 z114 z115 z116 z117 z118 z119 z120 z121 z122 z123 z124 z125 z126 z127 z128 z129 z130 z131 z132 z133 z134 z135 z136 z137 z138 z139 z140 z141 z142 z143 z144 z145 z146 z147 z148 z149 z150 z151 z152 z153 z154 z155 z156 z157 z158 z159 z160 z161 z162 z163 z164 z165 z166 z167 z168 z169 z170 z171 z172 z173 z174 z175 z176 z177 z178 z179 z180 z181 z182 z183 z184 z185 z186 z187 z188 z189 z190 z191 z192 z193 z194 z195 z196 z197 z198 z199 z200 z201 z202 z203 z204 z205 z206 z207 z208 z209 z210 z211 z212 z213 z214 z215 z216 z217 z218 z219 : Value) (wr : World) (p : Nat → Nat), Re a mid p → Srt Lex (fun k => (x (rotP i m en (p k)), t (rotP i m en (p k)))) a mid → RwE wr g n (fun k => x (rotP i m en (p k))) z → Chg (· = g) w wr → K5 { tmps := #[.slice (some ⟨g, 0, none⟩) n c, .int .i64 a, .int .i64 m, .int .i64 b, (.func (.func 34) #[] #[]), z5, z6, z7, z8, z9, z10, z11, z12, z13, z14, z15, z16, z17, .int .i64 mid, z19, .int .i64 i, z21, z22, z23, .int .i64 en, z25, z26, z27, z28, z29, z30, z31, z32, z33, z34, z35, z36, z37, z38, z39, z40, z41, z42, z43, z44, z45, z46, z47, z48, z49, z50, z51, z52, z53, z54, z55, z56, z57, z58, z59, z60, z61, z62, z63, z64, z65, z66, z67, z68, z69, z70, z71, z72, z73, z74, z75, z76, z77, z78, z79, z80, z81, z82, z83, z84, z85, z86, z87, z88, z89, z90, z91, z92, z93, z94, z95, z96, z97, z98, z99, z100, z101, z102, z103, z104, z105, z106, z107, z108, z109, z110, z111, z112, z113, z114, z115, z116, z117, z118, z119, z120, z121, z122, z123, z124, z125, z126, z127, z128, z129, z130, z131, z132, z133, z134, z135, z136, z137, z138, z139, z140, z141, z142, z143, z144, z145, z146, z147, z148, z149, z150, z151, z152, z153, z154, z155, z156, z157, z158, z159, z160, z161, z162, z163, z164, z165, z166, z167, z168, z169, z170, z171, z172, z173, z174, z175, z176, z177, z178, z179, z180, z181, z182, z183, z184, z185, z186, z187, z188, z189, z190, z191, z192, z193, z194, z195, z196, z197, z198, z199, z200, z201, z202, z203, z204, z205, z206, z207, z208, z209, z210, z211, z212, z213, z214, z215, z216, z217, z218, z219], defers := [] } wr := by
            intro z5 z6 z7 z8 z9 z10 z11 z12 z13 z14 z15 z16 z17 z19 z21 z22 z23 z25 z26 z27 z28 z29 z30 z31 z32 z33 z34 z35 z36 z37 z38 z39 z40 z41 z42 z43 z44 z45 z46 z47 z48 z49 z50 z51 z52 z53 z54 z55 z56 z57 z58 z59 z60 z61 z62 z63 z64 z65 z66 z67 z68 z69 z70 z71 z72 z73 z74 z75 z76 z77 z78 z79 z80 z81 z82 z83 z84 z85 z86 z87 z88 z89 z90 z91 z92 z93 z94 z95 z96 z97 z98 z99 z100 z101 z102 z103 z104 z105 z106 z107 z108 z109 z110 z111 z112 z113 z114 z115 z116 z117 z118 z119 z120 z121 z122 z123 z124 z125 z126 z127 z128 z129 z130 z131 z132 z133 z134 z135 z136 z137 z138 z139 z140 z141 z142 z143 z144 z145 z146 z147 z148 z149 z150 z151 z152 z153 z154 z155 z156 z157 z158 z159 z160 z161 z162 z163 z164 z165 z166 z167 z168 z169 z170 z171 z172 z173 z174 z175 z176 z177 z178 z179 z180 z181 z182 z183 z184 z185 z186 z187 z188 z189 z190 z191 z192 z193 z194 z195 z196 z197 z198 z199 z200 z201 z202 z203 z204 z205 z206 z207 z208 z209 z210 z211 z212 z213 z214 z215 z216 z217 z218 z219 wr p hp sp hr hch
            refine hK5 _ _ ?_
            clear hK5 K5
            have HR5 := Lib.hid hr
            have HC5 := Lib.hid hch
            have HP := Lib.hid hp
            have HSP := Lib.hid sp
            have HEND : Hid (∀ (r : Nat → Nat) (V : World), Re mid b r → Srt Lex (fun k => (x (rotP i m en (p (r k))), t (rotP i m en (p (r k))))) mid b → RwE V g n (fun k => x (rotP i m en (p (r k)))) z → Chg (· = g) w V → Chg (· = g) w V ∧ ∃ p, Re a b p ∧ RwE V g n (fun k => x (p k)) z ∧ Srt Lex (fun k => (x (p k), t (p k))) a b) := Lib.hid (fun r V h1 h2 h3 h4 => by
              have he := parts_end (lt := Lex) (x := fun k => (x k, t k)) lex_trans PP.out (by omega) (by omega) HL.out HR0.out HD1.out HD2.out HP.out HSP.out h1 h2
              exact ⟨h4, _, he.1, h3, he.2⟩)
            clear hr hch hp sp
            by_cases g1 : mid < en
            · by_cases g2 : en < b
              · have HM := Lib.hid (fun V hV => HI.out mid en b (fun k => x (rotP i m en (p k))) (fun k => t (rotP i m en (p k))) V (by omega) g1 g2 hbn (parts_ne2 (lt := Lex) (x := fun k => (x k, t k)) PP.out HP.out HL.out) (parts_hi2 (lt := Lex) (x := fun k => (x k, t k)) PP.out e7 HP.out HR0.out) (parts_tag3 PP.out e7 HP.out HT.out) hV)
                go_wp2_with fail
                go_at_call 64
                refine (show Calls _ _ _ _ _ from HM.out _ HR5.out).mono ?_
                rintro e w5 ⟨rfl, hc, r, h1, h2, h3⟩
                have HX := Lib.hid (HEND.out r w5 h1 h3 h2 (HC5.out.trans hc))
                clear hc h1 h2 h3
                go_wp2
                go_end0
                exact ⟨rfl, HX.out⟩
              · have HX := Lib.hid (HEND.out (fun k => k) wr (Re.refl _ _) (parts_two2 (lt := Lex) (x := fun k => (x k, t k)) PP.out HP.out HL.out HR0.out (by omega)) HR5.out HC5.out)
                go_wp2
                go_end0
                exact ⟨rfl, HX.out⟩
            · have HX := Lib.hid (HEND.out (fun k => k) wr (Re.refl _ _) (parts_two2 (lt := Lex) (x := fun k => (x k, t k)) PP.out HP.out HL.out HR0.out (by omega)) HR5.out HC5.out)
              go_wp2
              go_end0
              exact ⟨rfl, HX.out⟩
          have HH5 := Lib.hid HK5
          clear HK5 hK5
          by_cases g1 : a < i
          · by_cases g2 : i < mid
            · have HM := Lib.hid (fun V hV => HI.out a i mid (fun k => x (rotP i m en k)) (fun k => t (rotP i m en k)) V (by omega) g1 g2 (by omega) (parts_lo (lt := Lex) (x := fun k => (x k, t k)) PP.out HL.out) (parts_mi (lt := Lex) (x := fun k => (x k, t k)) PP.out HR0.out) (parts_tag1 PP.out HT.out) hV)
              go_wp2_with fail
              go_at_call 64
              refine (show Calls _ _ _ _ _ from HM.out _ HR4.out).mono ?_
              rintro e w5 ⟨rfl, hc, r, h1, h2, h3⟩
              have HC5 := Lib.hid (HC4.out.trans hc)
              have HR5 := Lib.hid h2
              have HR6 := Lib.hid h1
              have HR7 := Lib.hid h3
              clear hc h1 h2 h3
              go_wp2
              exact HH5.out _ _ _ _ _ _ _ _ _ _ _ _ _ _ _ _ _ _ _ _ _ _ _ _ _ _ _ _ _ _ _ _ _ _ _ _ _ _ _ _ _ _ _ _ _ _ _ _ _ _ _ _ _ _ _ _ _ _ _ _ _ _ _ _ _ _ _ _ _ _ _ _ _ _ _ _ _ _ _ _ _ _ _ _ _ _ _ _ _ _ _ _ _ _ _ _ _ _ _ _ _ _ _ _ _ _ _ _ _ _ _ _ _ _ _ _ _ _ _ _ _ _ _ _ _ _ _ _ _ _ _ _ _ _ _ _ _ _ _ _ _ _ _ _ _ _ _ _ _ _ _ _ _ _ _ _ _ _ _ _ _ _ _ _ _ _ _ _ _ _ _ _ _ _ _ _ _ _ _ _ _ _ _ _ _ _ _ _ _ _ _ _ _ _ _ _ _ _ _ _ _ _ _ _ _ _ _ _ _ _ _ _ _ r HR6.out HR7.out HR5.out HC5.out
            · have HX := Lib.hid (parts_one (lt := Lex) (x := fun k => (x k, t k)) PP.out HL.out HR0.out (by omega))
              go_wp2
              exact HH5.out _ _ _ _ _ _ _ _ _ _ _ _ _ _ _ _ _ _ _ _ _ _ _ _ _ _ _ _ _ _ _ _ _ _ _ _ _ _ _ _ _ _ _ _ _ _ _ _ _ _ _ _ _ _ _ _ _ _ _ _ _ _ _ _ _ _ _ _ _ _ _ _ _ _ _ _ _ _ _ _ _ _ _ _ _ _ _ _ _ _ _ _ _ _ _ _ _ _ _ _ _ _ _ _ _ _ _ _ _ _ _ _ _ _ _ _ _ _ _ _ _ _ _ _ _ _ _ _ _ _ _ _ _ _ _ _ _ _ _ _ _ _ _ _ _ _ _ _ _ _ _ _ _ _ _ _ _ _ _ _ _ _ _ _ _ _ _ _ _ _ _ _ _ _ _ _ _ _ _ _ _ _ _ _ _ _ _ _ _ _ _ _ _ _ _ _ _ _ _ _ _ _ _ _ _ _ _ _ _ _ _ _ _ (fun k => k) (Re.refl _ _) HX.out HR4.out HC4.out
          · have HX := Lib.hid (parts_one (lt := Lex) (x := fun k => (x k, t k)) PP.out HL.out HR0.out (by omega))
            go_wp2
            exact HH5.out _ _ _ _ _ _ _ _ _ _ _ _ _ _ _ _ _ _ _ _ _ _ _ _ _ _ _ _ _ _ _ _ _ _ _ _ _ _ _ _ _ _ _ _ _ _ _ _ _ _ _ _ _ _ _ _ _ _ _ _ _ _ _ _ _ _ _ _ _ _ _ _ _ _ _ _ _ _ _ _ _ _ _ _ _ _ _ _ _ _ _ _ _ _ _ _ _ _ _ _ _ _ _ _ _ _ _ _ _ _ _ _ _ _ _ _ _ _ _ _ _ _ _ _ _ _ _ _ _ _ _ _ _ _ _ _ _ _ _ _ _ _ _ _ _ _ _ _ _ _ _ _ _ _ _ _ _ _ _ _ _ _ _ _ _ _ _ _ _ _ _ _ _ _ _ _ _ _ _ _ _ _ _ _ _ _ _ _ _ _ _ _ _ _ _ _ _ _ _ _ _ _ _ _ _ _ _ _ _ _ _ _ _ (fun k => k) (Re.refl _ _) HX.out HR4.out HC4.out
        have HH4 := Lib.hid HK4
        clear HK4 hK4 hK9 K9
        have HNO : Hid (¬ (i < m ∧ m < en) → RwE _ g n (fun k => x (rotP i m en k)) z) := Lib.hid (fun hn => HR.out.congr fun k _ => by rw [rot_none k e2 e3 hn])
        by_cases g1 : i < m
        · by_cases g2 : m < en
          · have HM := Lib.hid (fun V => rotate_any g c n i m en (.func (.func 34) #[] #[]) x z (by omega) g1 g2 (by omega) V)
            go_wp2_with fail
            go_at_call 73
            refine (HM.out _ HR.out).mono ?_
            rintro e w5 ⟨rfl, hc, hr⟩
            have HC5 := Lib.hid (HC.out.trans hc)
            have HR5 := Lib.hid hr
            clear hc hr
            go_wp2
            exact HH4.out _ _ _ _ _ _ _ _ _ _ _ _ _ _ _ _ _ _ _ _ _ _ _ _ _ _ _ _ _ _ _ _ _ _ _ _ _ _ _ _ _ _ _ _ _ _ _ _ _ _ _ _ _ _ _ _ _ _ _ _ _ _ _ _ _ _ _ _ _ _ _ _ _ _ _ _ _ _ _ _ _ _ _ _ _ _ _ _ _ _ _ _ _ _ _ _ _ _ _ _ _ _ _ _ _ _ _ _ _ _ _ _ _ _ _ _ _ _ _ _ _ _ _ _ _ _ _ _ _ _ _ _ _ _ _ _ _ _ _ _ _ _ _ _ _ _ _ _ _ _ _ _ _ _ _ _ _ _ _ _ _ _ _ _ _ _ _ _ _ _ _ _ _ _ _ _ _ _ _ _ _ _ _ _ _ _ _ _ _ _ _ _ _ _ _ _ _ _ _ _ _ _ _ _ _ _ _ _ _ _ _ _ _ HR5.out HC5.out
          · have HX := Lib.hid (HNO.out (by omega))
            go_wp2
            exact HH4.out _ _ _ _ _ _ _ _ _ _ _ _ _ _ _ _ _ _ _ _ _ _ _ _ _ _ _ _ _ _ _ _ _ _ _ _ _ _ _ _ _ _ _ _ _ _ _ _ _ _ _ _ _ _ _ _ _ _ _ _ _ _ _ _ _ _ _ _ _ _ _ _ _ _ _ _ _ _ _ _ _ _ _ _ _ _ _ _ _ _ _ _ _ _ _ _ _ _ _ _ _ _ _ _ _ _ _ _ _ _ _ _ _ _ _ _ _ _ _ _ _ _ _ _ _ _ _ _ _ _ _ _ _ _ _ _ _ _ _ _ _ _ _ _ _ _ _ _ _ _ _ _ _ _ _ _ _ _ _ _ _ _ _ _ _ _ _ _ _ _ _ _ _ _ _ _ _ _ _ _ _ _ _ _ _ _ _ _ _ _ _ _ _ _ _ _ _ _ _ _ _ _ _ _ _ _ _ _ _ _ _ _ _ HX.out HC.out
        · have HX := Lib.hid (HNO.out (by omega))
          go_wp2
          exact HH4.out _ _ _ _ _ _ _ _ _ _ _ _ _ _ _ _ _ _ _ _ _ _ _ _ _ _ _ _ _ _ _ _ _ _ _ _ _ _ _ _ _ _ _ _ _ _ _ _ _ _ _ _ _ _ _ _ _ _ _ _ _ _ _ _ _ _ _ _ _ _ _ _ _ _ _ _ _ _ _ _ _ _ _ _ _ _ _ _ _ _ _ _ _ _ _ _ _ _ _ _ _ _ _ _ _ _ _ _ _ _ _ _ _ _ _ _ _ _ _ _ _ _ _ _ _ _ _ _ _ _ _ _ _ _ _ _ _ _ _ _ _ _ _ _ _ _ _ _ _ _ _ _ _ _ _ _ _ _ _ _ _ _ _ _ _ _ _ _ _ _ _ _ _ _ _ _ _ _ _ _ _ _ _ _ _ _ _ _ _ _ _ _ _ _ _ _ _ _ _ _ _ _ _ _ _ _ _ _ _ _ _ _ _ HX.out HC.out
  simp only [HEM.out, HEQ.out]
  have HH3 := Lib.hid HK3
  clear HK3 hK3
  by_cases hc : mid < m
  · have eSA : (q : Int) - (b : Int) = (SA : Int) := by have := HSA.out.1 hc; have := HQ.out; have := HM2.out; omega
    have eSB : SB = mid := HSB.out.1 hc
    have ES := Lib.hid eSA
    clear eSA
    subst eSB
    go_wp2
    rw [ES.out]
    exact HH3.out _ _ _ _ _ _ _ _ _ _ _ _ _ _ _ _ _ _ _ _ _ _ _ _ _ _ _ _ _ _ _ _ _ _ _ _ _ _ _ _ _ _ _ _ _ _ _ _ _ _ _ _ _ _ _ _ _ _ _ _ _ _ _ _ _ _ _ _ _ _ _ _ _ _ _ _ _ _ _ _ _ _ _ _ _ _ _ _ _ _ _ _ _ _ _ _ _ _ _ _ _ _ _ _ _ _ _ _ _ _ _ _ _ _ _ _ _ _ _ _ _ _ _ _ _ _ _ _ _ _ _ _ _ _ _ _ _ _ _ _ _ _ _ _ _ _ _ _ _ _ _ _ _ _ _ _ _ _ _ _ _ _ _ _ _ _ _ _ _ _ _ _ _ _ _ _ _ _ _ _ _ _ _ _ _ _ _ _ _ _ _ _ _ _ _ _ _ _ _ _ _ _ _ _ _ _ _ _ _ _ _
  · have eSA : SA = a := HSA.out.2 hc
    have eSB : SB = m := HSB.out.2 hc
    subst eSA
    subst eSB
    go_wp2
    exact HH3.out _ _ _ _ _ _ _ _ _ _ _ _ _ _ _ _ _ _ _ _ _ _ _ _ _ _ _ _ _ _ _ _ _ _ _ _ _ _ _ _ _ _ _ _ _ _ _ _ _ _ _ _ _ _ _ _ _ _ _ _ _ _ _ _ _ _ _ _ _ _ _ _ _ _ _ _ _ _ _ _ _ _ _ _ _ _ _ _ _ _ _ _ _ _ _ _ _ _ _ _ _ _ _ _ _ _ _ _ _ _ _ _ _ _ _ _ _ _ _ _ _ _ _ _ _ _ _ _ _ _ _ _ _ _ _ _ _ _ _ _ _ _ _ _ _ _ _ _ _ _ _ _ _ _ _ _ _ _ _ _ _ _ _ _ _ _ _ _ _ _ _ _ _ _ _ _ _ _ _ _ _ _ _ _ _ _ _ _ _ _ _ _ _ _ _ _ _ _ _ _ _ _ _ _ _ _ _ _ _ _ _
/-- whatever two parts, each sorted, stand side by side -/
theorem merge_any (g c n : Nat) (z : List Value) (hn : n < 4000000000) : ∀ d, Shorter g c n d z
  | 0, _, _, _, _, _, _, h, _, _, _, _, _, _, _ => absurd h (Nat.not_lt_zero _)
  | d + 1, a, m, b, x, t, w, h, ham, hmb, hbn, hL, hR, ht, hw => by
    by_cases c1 : m = a + 1
    · subst c1
      have e : ((a + 1 : Nat) : Int) = (a : Int) + 1 := by omega
      unfold MergeIs
      rw [e]
      exact merge_up g c n a b x t z hn (by omega) hbn hR (fun k k1 k2 => ht a k (Nat.le_refl _) (by omega) k1 k2) w hw
    · by_cases c2 : b = m + 1
      · subst c2
        have e : ((m + 1 : Nat) : Int) = (m : Int) + 1 := by omega
        unfold MergeIs
        rw [e]
        exact merge_down g c n a m x t z hn (by omega) hbn hL (fun k k1 k2 => ht k m k1 k2 (Nat.le_refl _) (by omega)) w hw
      · exact merge_gen g c n a m b x t z hn (by omega) (by omega) hbn hL hR ht (fun a' m' b' x' t' w' h' => merge_any g c n z hn d a' m' b' x' t' w' (by omega)) w hw
end Go.Proofs.YtdbmnnmcelaehaaDoor.Stab
