/- Join: Prune of any state. -/
import Derived.Test.YtblogecapegbmaaGreatJkG
namespace Go.Proofs.YtblogecapegbmaaGreat.Jn
open Go.RowKit Go.Proofs.YtblogecapegbmaaGreat.Mem
open Go.Proofs.YtblogecapegbmaaGreat.Vc (joinV meetV vecC stC)
set_option linter.unusedVariables false set_option linter.unusedSimpArgs false

theorem st_seen {w : World} {g : Nat} {t : TypeId} {s : Fc.StateC} (h : Has w g t (Fc.stateC s)) : w.rangeAt g 0 (vecC s.seen).toList := range_of h fun j hj => by
  match j, (show j < 8 from hj) with
  | 0, _ | 1, _ | 2, _ | 3, _ | 4, _ | 5, _ | 6, _ | 7, _ => rfl
/-- What Prune's loop keeps. -/
def PnI (W1 wr : World) (s : Fc.StateC) (known : Nat → Int) (root : Fc.LinkP → Bool) (g mb bb sb j : Nat) : Prop :=
  ∃ ss m, PrI W1 wr s known g mb bb sb (befJ s.links s.n2) ss m ∧ Work root s.links ss [] m ∧ ∀ i (h : i < s.links.length), i < j → root s.links[i] = true → ss[i]? = some true
theorem PnI.low {W1 wr w2 : World} {s : Fc.StateC} {known : Nat → Int} {root : Fc.LinkP → Bool} {g mb bb sb j : Nat} (h : PnI W1 wr s known root g mb bb sb j) (hb : Below wr.heap.size wr w2) : PnI W1 w2 s known root g mb bb sb j := by
  obtain ⟨ss, m, h1, h2, h3⟩ := h
  exact ⟨ss, m, h1.low hb, h2, h3⟩
theorem PnI.hp {W1 wr : World} {s : Fc.StateC} {known : Nat → Int} {root : Fc.LinkP → Bool} {g mb bb sb j : Nat} (h : PnI W1 wr s known root g mb bb sb j) : Has wr g 100 (prA s known mb bb sb) := by
  obtain ⟨ss, m, h1, _⟩ := h
  exact h1.hp
theorem PnI.below {W1 wr : World} {s : Fc.StateC} {known : Nat → Int} {root : Fc.LinkP → Bool} {g mb bb sb j : Nat} (h : PnI W1 wr s known root g mb bb sb j) : Below W1.heap.size W1 wr := by
  obtain ⟨ss, m, h1, _⟩ := h
  exact h1.below
theorem PnI.skip {W1 wr : World} {s : Fc.StateC} {known : Nat → Int} {root : Fc.LinkP → Bool} {g mb bb sb j : Nat} (h : PnI W1 wr s known root g mb bb sb j) (hj : j < s.links.length) (hr : root s.links[j] = false) : PnI W1 wr s known root g mb bb sb (j + 1) := by
  obtain ⟨ss, m, h1, h2, h3⟩ := h
  refine ⟨ss, m, h1, h2, fun i h hi hri => ?_⟩
  rcases Nat.lt_succ_iff_lt_or_eq.1 hi with hi | rfl
  · exact h3 i h hi hri
  · rw [hr] at hri; cases hri
set_option maxRecDepth 100000 in
set_option maxHeartbeats 8000000 in
theorem pruneA (s : Fc.StateC) (stable : Nat → Int) (w : World) (hs : StateIn w s) (hl : LimS 4800 s) : Calls Tryz.prog 23 #[.agg (Fc.stateC s), .agg (vecC stable)] w fun e w' => ∃ t, e = .returned (.agg (Fc.stateC t)) ∧ t.p = pruneP s.p stable ∧ StateOwn w.heap.size w' t ∧ Below w.heap.size w w' := by
  have HSI := Lib.hid hs
  have HLIM := Lib.hid hl
  have HLN := Lib.hid (show s.links.length = s.n2 from hs.links.row.len)
  have h2 := (Has.fresh w 27 (Fc.stateC s)).past (.cells (vecC stable) 23)
  have h3 := Has.fresh (w.alloc (.cells (Fc.stateC s) 27)) 23 (vecC stable)
  have h4 := Has.fresh ((w.alloc (.cells (Fc.stateC s) 27)).alloc (.cells (vecC stable) 23)) 27 zeroS
  rw [World.size_alloc] at h3 h4
  rw [World.size_alloc] at h4
  have HB0 := Lib.hid ((((Below.refl w.heap.size w).alloc (Nat.le_refl _) (.cells (Fc.stateC s) 27)).alloc (by simp) (.cells (vecC stable) 23)).alloc (by simp; omega) (.cells zeroS 27))
  obtain ⟨g2, hg2⟩ : ∃ g2, g2 = w.heap.size := ⟨_, rfl⟩
  obtain ⟨g3, hg3⟩ : ∃ g3, g3 = w.heap.size + 1 := ⟨_, rfl⟩
  obtain ⟨g4, hg4⟩ : ∃ g4, g4 = w.heap.size + 1 + 1 := ⟨_, rfl⟩
  rw [← hg2] at h2
  rw [← hg3] at h3
  rw [← hg4] at h4
  have HX0 := Lib.hid (h2.past (.cells zeroS 27))
  have HY0 := Lib.hid (h3.past (.cells zeroS 27))
  have HZ0 := Lib.hid h4
  have HG2 := Lib.hid hg2
  have HG3 := Lib.hid hg3
  have HG4 := Lib.hid hg4
  have HL4 := Lib.hid (show w.heap.size ≤ g4 by omega)
  obtain ⟨known, hkn⟩ : ∃ k, k = meetV s.seen stable := ⟨_, rfl⟩
  have HKN := Lib.hid hkn
  have HMT := Lib.hid (fun V => (show Calls Tryz.prog 59 #[.agg (vecC s.seen), .agg (vecC stable)] V fun e w' => e = .returned (.agg (vecC known)) ∧ Below V.heap.size V w' from by rw [hkn]; exact Vc.meet_any s.seen stable V))
  clear h2 h3 h4 hg2 hg3 hg4 hs hl hkn
  go_enter Tryz.func23, Tryz.ntmps23
  go_wp2_with (first | ((with_reducible refine Who.wpList_alloc 27 4 rfl rfl rfl (zeroS) allocS ?_); (try simp only [Act.put, List.setIfInBounds_toArray, List.set_cons_zero, List.set_cons_succ]); (try simp only [World.size_alloc])) | fail)
  rw [← HG4.out, ← HG3.out, ← HG2.out]
  refine wp_region_held_drew (S := fun V => Has V g2 27 (Fc.stateC s) ∧ Has V g3 23 (vecC stable)) (by kernel_rfl) ⟨HX0.out.drew, HY0.out.drew⟩ (fun hHeld => ?_)
  have HI_0 := Lib.hid HB0.out.drew
  have HX_0 := Lib.hid HX0.out.drew
  have HY_0 := Lib.hid HY0.out.drew
  have HZ_0 := Lib.hid HZ0.out.drew
  refine Vc.wpAnyH_read (i := 0) (d := some 9) (v := .agg (Fc.stateC s)) (by rfl) (by rfl) (by kernel_rfl) (by kernel_rfl) (by kernel_rfl) (fun _ _ _ h => h) (by rfl) ?hy9001 (by assumption) ?rest9001
  case hy9001 =>
    intro w hSw
    exact Who.exec_loadA _ rfl rfl (Who.has_range hSw.1) Tryz.underlying27 rfl info_state
  try simp only [Act.put, List.setIfInBounds_toArray, List.set_cons_zero, List.set_cons_succ]
  refine Vc.wpAnyH_read (i := 1) (d := some 10) (v := ?v9002) (by rfl) (by rfl) (by kernel_rfl) (by kernel_rfl) (by kernel_rfl) (fun _ _ _ h => h) (by rfl) ?hy9002 (by assumption) ?rest9002
  case hy9002 =>
    intro w hSw
    try dsimp only at hSw
    go_simp
    try with_reducible rfl
  try simp only [Act.put, List.setIfInBounds_toArray, List.set_cons_zero, List.set_cons_succ]
  refine Vc.wpAnyH_read (i := 2) (d := some 11) (v := .agg (vecC s.seen)) (by rfl) (by rfl) (by kernel_rfl) (by kernel_rfl) (by kernel_rfl) (fun _ _ _ h => h) (by rfl) ?hy9003 (by assumption) ?rest9003
  case hy9003 =>
    intro w hSw
    exact Who.exec_loadA _ rfl rfl (st_seen hSw.1) Tryz.underlying23 rfl info_vec
  try simp only [Act.put, List.setIfInBounds_toArray, List.set_cons_zero, List.set_cons_succ]
  refine Vc.wpAnyH_read (i := 3) (d := some 12) (v := .agg (vecC stable)) (by rfl) (by rfl) (by kernel_rfl) (by kernel_rfl) (by kernel_rfl) (fun _ _ _ h => h) (by rfl) ?hy9004 (by assumption) ?rest9004
  case hy9004 =>
    intro w hSw
    exact Who.exec_loadA _ rfl rfl (Who.has_range hSw.2) Tryz.underlying23 rfl info_vec
  try simp only [Act.put, List.setIfInBounds_toArray, List.set_cons_zero, List.set_cons_succ]
  refine wpAnyH_ready (rs := [4]) (by kernel_rfl) (by simp) ?_
  refine AllReadyH.cons rfl (fun K hK => ?_) AllReadyH.nil
  go_simp
  go_at_call 59
  refine (HMT.out _).mono ?_
  rintro e W1 ⟨rfl, hb⟩
  have HI_1 := Lib.hid (HI_0.out.trans (hb.mono HI_0.out.size))
  have HX_1 := Lib.hid (HX_0.out.below hb)
  have HY_1 := Lib.hid (HY_0.out.below hb)
  have HZ_1 := Lib.hid (HZ_0.out.below hb)
  clear hb HMT
  refine hK.out _ _ ⟨HX_1.out, HY_1.out⟩ (fun hHeld => ?_)
  clear hK K
  try simp only [Act.put, List.setIfInBounds_toArray, List.set_cons_zero, List.set_cons_succ]
  refine wpAnyH_ready (rs := [5]) (by kernel_rfl) (by simp) ?_
  refine AllReadyH.cons rfl (fun K hK => ?_) AllReadyH.nil
  go_simp
  go_at_call 58
  refine (laid_any s known W1 (HSI.out.below HI_1.out) (Nat.le_trans HLIM.out.n2 (by decide))).mono ?_
  rintro e W2 ⟨g, mb, bb, sb, m, rfl, hL, hm⟩
  have HX_2 := Lib.hid (HX_1.out.below hL.below)
  have HY_2 := Lib.hid (HY_1.out.below hL.below)
  have HZ_2 := Lib.hid (HZ_1.out.below hL.below)
  have HLD := Lib.hid (And.intro hL hm)
  clear hL hm
  refine hK.out _ _ ⟨HX_2.out, HY_2.out⟩ (fun hHeld => ?_)
  clear hK K
  try simp only [Act.put, List.setIfInBounds_toArray, List.set_cons_zero, List.set_cons_succ]
  refine Vc.wpAnyH_read (i := 6) (d := some 5) (v := ?v9005) (by rfl) (by rfl) (by kernel_rfl) (by kernel_rfl) (by kernel_rfl) (fun _ _ _ h => h) (by rfl) ?hy9005 (by assumption) ?rest9005
  case hy9005 =>
    intro w hSw
    try dsimp only at hSw
    go_simp
    try with_reducible rfl
  try simp only [Act.put, List.setIfInBounds_toArray, List.set_cons_zero, List.set_cons_succ]
  refine wpAnyH_done (by kernel_rfl) ?_ _
  clear HX_0 HY_0 HZ_0 HI_0 HX_1 HY_1 HX0 HY0 HZ0 HB0 HX_2 HY_2
  have c9 : W2.cell? ⟨g, 9, none⟩ = some (.slice s.A2 s.n2 s.c2) := HLD.out.1.hp.at_ 9
  go_wp2_with fail
  refine (containsA s known g mb bb sb _ _ m W1 W2 HLD.out.1 (Nat.le_trans HLIM.out.n2 (by decide))).mono ?_
  rintro e W3 ⟨rfl, hb⟩
  clear c9
  obtain ⟨all, hall⟩ : ∃ a, s.links.any (movedB known) = a := ⟨_, rfl⟩
  have HALL := Lib.hid hall
  rw [hall]
  have HI_3 := Lib.hid (show PnI W1 W3 s known (rootB known all) g mb bb sb 0 from ⟨_, _, HLD.out.1.low hb, Work.start HLN.out HLD.out.2, fun i h hi => by omega⟩)
  have c9 : W3.cell? ⟨g, 9, none⟩ = some (.slice s.A2 s.n2 s.c2) := (HLD.out.1.low hb).hp.at_ 9
  clear hb HZ_2 HLD hall
  go_wp2
  clear c9
  go_loopw [29] (fun i wr => ∃ j : Nat, i = .int .i64 j ∧ j ≤ s.n2 ∧ Hid (PnI W1 wr s known (rootB known all) g mb bb sb j)) (fun i _ => s.n2 - (intOf i).toNat)
  case atStart => exact ⟨0, rfl, Nat.zero_le _, HI_3⟩
  case round =>
    clear HI_3
    obtain ⟨j, rfl, hj, HI⟩ := hrel
    by_cases hlt : j < s.n2
    · obtain ⟨bk, off, hA, hbl, hxj, mr⟩ := ((HSI.out.below HI_1.out).links.row.below HI.out.below).range (i := j) hlt
      have hxj : j < s.links.length := hxj
      obtain ⟨y, hy⟩ : ∃ y, s.links[j] = y := ⟨_, rfl⟩
      have hA : s.A2 = _ := hA
      have mr : wr.rangeAt bk (off + j * 25) (Fc.linkC (s.links[j])).toList := mr
      rw [hy] at mr
      have MR := Lib.hid mr
      have HJL := Lib.hid (show j < s.links.length from hxj)
      have HYJ := Lib.hid (show s.links[j]'hxj = y from hy)
      have hjb : j ≤ 4800 := Nat.le_trans hj HLIM.out.n2
      have HN := Lib.hid (Has.fresh wr 51 zeroL)
      have HBA := Lib.hid ((Below.refl wr.heap.size wr).alloc (Nat.le_refl _) (.cells zeroL 51))
      obtain ⟨za, hza⟩ : ∃ z, Vc.withinB y.al y.de = z := ⟨_, rfl⟩
      obtain ⟨zs, hzs⟩ : ∃ z, settledB known y = z := ⟨_, rfl⟩
      have HZA := Lib.hid (fun V => (show Calls Tryz.prog 33 #[.agg (Fc.linkC y)] V fun e W' => e = .returned (.bool (!za)) ∧ Below V.heap.size V W' from by rw [← hza]; exact alive_any y V))
      have HZS := Lib.hid (fun V (hV : Has V g 100 (prA s known mb bb sb)) => (show Calls Tryz.prog 62 #[.pointer (some ⟨g, 0, none⟩), .agg (Fc.linkC y)] V fun e W' => e = .returned (.bool zs) ∧ Below V.heap.size V W' from by rw [← hzs]; exact settledA s known g mb bb sb y V hV))
      have HRT := Lib.hid (show rootB known all y = (all || (!za || !zs)) from by rw [← hza, ← hzs]; rfl)
      rw [hA]
      clear mr hy hA hbl hza hzs
      have hwr : IntKind.i64.wrap ((j : Int) + 1) = (j : Int) + 1 := by rw [IntKind.wrap_i64] <;> omega
      cases all with
      | true =>
        go_wp2_with (first | ((with_reducible refine Who.wpList_loadC 51 (.tmp 32) rfl (bk) (off + j * 25) (Fc.linkC y) ?_); refine And.intro ⟨by rfl, by rfl, ⟨_, Tryz.underlying51, rfl⟩, info_link⟩ (And.intro (MR.out) ?_); (try simp only [Act.put, List.setIfInBounds_toArray, List.set_cons_zero, List.set_cons_succ])) | ((with_reducible refine Who.wpList_alloc 51 8 rfl rfl rfl (zeroL) allocL ?_); (try simp only [Act.put, List.setIfInBounds_toArray, List.set_cons_zero, List.set_cons_succ]); (try simp only [World.size_alloc])) | ((with_reducible refine wpList_storeG 51 (.tmp 8) (.tmp 33) rfl (wr.heap.size) (zeroL) (Fc.linkC y) ?_); refine And.intro ⟨rfl, by rfl, by rfl, info_link, own1 y, rfl, HN.out⟩ ?_; intro W6 HX6 HC6; (try simp only [Act.put, List.setIfInBounds_toArray, List.set_cons_zero, List.set_cons_succ]); have HI6 := Lib.hid (HI.out.low (below_step HBA.out HC6.out (Nat.le_refl _))); (try simp only [Act.put, List.setIfInBounds_toArray, List.set_cons_zero, List.set_cons_succ])) | fail)
        obtain ⟨ss, mm, q1, q2, q3⟩ := HI6.out
        have HKC := Lib.hid (keepA s known _ g mb bb sb j ss mm W1 _ q1 q2 HLIM.out.n2 HJL.out (.root (by rw [HYJ.out, HRT.out]; rfl)))
        have HQ3 := Lib.hid q3
        clear HI6 q1 q2 q3 HX6 HC6 HBA HN HI MR HZA HZS
        refine HKC.out.mono ?_
        rintro e W9 ⟨rfl, ss', m', r1, r2, r3, r4⟩
        have HI9 := Lib.hid (show PnI W1 W9 s known _ g mb bb sb (j + 1) from ⟨ss', m', r1, r2, fun i h hi hr => by
          rcases Nat.lt_succ_iff_lt_or_eq.1 hi with hi | rfl
          · exact r3 i (HQ3.out i h hi hr)
          · exact r4⟩)
        clear HKC r1 r2 r3 r4 HQ3
        go_wp2
        go_roundw
        case rel => exact ⟨j + 1, by go_num, by omega, HI9⟩
        case measure => simp [intOf]; omega
      | false =>
        go_wp2_with (first | ((with_reducible refine Who.wpList_loadC 51 (.tmp 32) rfl (bk) (off + j * 25) (Fc.linkC y) ?_); refine And.intro ⟨by rfl, by rfl, ⟨_, Tryz.underlying51, rfl⟩, info_link⟩ (And.intro (MR.out) ?_); (try simp only [Act.put, List.setIfInBounds_toArray, List.set_cons_zero, List.set_cons_succ])) | ((with_reducible refine Who.wpList_alloc 51 8 rfl rfl rfl (zeroL) allocL ?_); (try simp only [Act.put, List.setIfInBounds_toArray, List.set_cons_zero, List.set_cons_succ]); (try simp only [World.size_alloc])) | ((with_reducible refine wpList_storeG 51 (.tmp 8) (.tmp 33) rfl (wr.heap.size) (zeroL) (Fc.linkC y) ?_); refine And.intro ⟨rfl, by rfl, by rfl, info_link, own1 y, rfl, HN.out⟩ ?_; intro W6 HX6 HC6; (try simp only [Act.put, List.setIfInBounds_toArray, List.set_cons_zero, List.set_cons_succ]); have HI6 := Lib.hid (HI.out.low (below_step HBA.out HC6.out (Nat.le_refl _))); (try simp only [Act.put, List.setIfInBounds_toArray, List.set_cons_zero, List.set_cons_succ])) | ((with_reducible refine Who.wpList_loadC 51 (.tmp 8) rfl (wr.heap.size) 0 (Fc.linkC y) ?_); refine And.intro ⟨by rfl, by rfl, ⟨_, Tryz.underlying51, rfl⟩, info_link⟩ (And.intro (Who.has_range HX6.out) ?_); (try simp only [Act.put, List.setIfInBounds_toArray, List.set_cons_zero, List.set_cons_succ])) | fail)
        obtain ⟨gy, hgy⟩ : ∃ gy, gy = wr.heap.size := ⟨_, rfl⟩
        rw [← hgy] at HX6
        rw [← hgy]
        clear HC6 HBA HN HI MR hgy
        refine (HZA.out _).mono ?_
        rintro e W7 ⟨rfl, hb⟩
        have HI7 := Lib.hid (HI6.out.low hb)
        have HX7 := Lib.hid (HX6.out.below hb)
        clear hb HI6 HX6 HZA
        cases za with
        | false =>
          obtain ⟨ss, mm, q1, q2, q3⟩ := HI7.out
          have HKC := Lib.hid (keepA s known _ g mb bb sb j ss mm W1 _ q1 q2 HLIM.out.n2 HJL.out (.root (by rw [HYJ.out, HRT.out]; rfl)))
          have HQ3 := Lib.hid q3
          clear HI7 q1 q2 q3 HX7 HZS
          go_wp2_with fail
          refine HKC.out.mono ?_
          rintro e W9 ⟨rfl, ss', m', r1, r2, r3, r4⟩
          have HI9 := Lib.hid (show PnI W1 W9 s known _ g mb bb sb (j + 1) from ⟨ss', m', r1, r2, fun i h hi hr => by
            rcases Nat.lt_succ_iff_lt_or_eq.1 hi with hi | rfl
            · exact r3 i (HQ3.out i h hi hr)
            · exact r4⟩)
          clear HKC r1 r2 r3 r4 HQ3
          go_wp2
          go_roundw
          case rel => exact ⟨j + 1, by go_num, by omega, HI9⟩
          case measure => simp [intOf]; omega
        | true =>
          go_wp2_with (first | ((with_reducible refine Who.wpList_loadC 51 (.tmp 8) rfl (gy) 0 (Fc.linkC y) ?_); refine And.intro ⟨by rfl, by rfl, ⟨_, Tryz.underlying51, rfl⟩, info_link⟩ (And.intro (Who.has_range HX7.out) ?_); (try simp only [Act.put, List.setIfInBounds_toArray, List.set_cons_zero, List.set_cons_succ])) | fail)
          refine (HZS.out _ HI7.out.hp).mono ?_
          rintro e W8 ⟨rfl, hb⟩
          have HI8 := Lib.hid (HI7.out.low hb)
          clear hb HI7 HX7 HZS
          cases zs with
          | false =>
            obtain ⟨ss, mm, q1, q2, q3⟩ := HI8.out
            have HKC := Lib.hid (keepA s known _ g mb bb sb j ss mm W1 _ q1 q2 HLIM.out.n2 HJL.out (.root (by rw [HYJ.out, HRT.out]; rfl)))
            have HQ3 := Lib.hid q3
            clear HI8 q1 q2 q3 
            go_wp2_with fail
            refine HKC.out.mono ?_
            rintro e W9 ⟨rfl, ss', m', r1, r2, r3, r4⟩
            have HI9 := Lib.hid (show PnI W1 W9 s known _ g mb bb sb (j + 1) from ⟨ss', m', r1, r2, fun i h hi hr => by
              rcases Nat.lt_succ_iff_lt_or_eq.1 hi with hi | rfl
              · exact r3 i (HQ3.out i h hi hr)
              · exact r4⟩)
            clear HKC r1 r2 r3 r4 HQ3
            go_wp2
            go_roundw
            case rel => exact ⟨j + 1, by go_num, by omega, HI9⟩
            case measure => simp [intOf]; omega
          | true =>
            have HI9 := Lib.hid (HI8.out.skip HJL.out (by rw [HYJ.out, HRT.out]; rfl))
            clear HI8
            go_wp2
            go_roundw
            case rel => exact ⟨j + 1, by go_num, by omega, HI9⟩
            case measure => simp [intOf]; omega
    · obtain rfl : s.n2 = j := by omega
      obtain ⟨ss, mm, q1, q2, q3⟩ := HI.out
      have HSS := Lib.hid (Work.all q2 (fun i h => q3 i h (by rw [← HLN.out]; exact h)))
      have HQ := Lib.hid q1
      clear q1 q2 q3 HI
      go_wp2_with fail
      refine (leftA s known g mb bb sb _ ss mm _ W1 _ HQ.out HSS.out HLIM.out).mono ?_
      rintro e W8 ⟨t, rfl, t1, t2, t3, t4, hb⟩
      have HZ8 := Lib.hid ((HZ_1.out.below HQ.out.below).below hb)
      have HB8 := Lib.hid ((HI_1.out.trans (HQ.out.below.mono HI_1.out.size)).trans (hb.mono (Nat.le_trans HI_1.out.size HQ.out.below.size)))
      have HO8 := Lib.hid (show StateOwn w.heap.size W8 t from ⟨t4.nodes.mono (Nat.le_trans HI_1.out.size HQ.out.below.size), t4.links.mono (Nat.le_trans HI_1.out.size HQ.out.below.size), fun z hz => ⟨(t4.each z hz).ps.mono (Nat.le_trans HI_1.out.size HQ.out.below.size), (t4.each z hz).xs.mono (Nat.le_trans HI_1.out.size HQ.out.below.size)⟩⟩)
      have HP8 := Lib.hid (show t.p = pruneP s.p stable from by
        have e1 : t.p = ⟨t.seen, t.nodes.map Fc.NodeC.p, t.links⟩ := rfl
        rw [e1, t1, t3, t2, ← HALL.out, HKN.out]
        rfl)
      clear hb t1 t2 t3 t4 HQ HSS
      go_wp2_with (first | ((with_reducible refine wpList_storeG 27 (.tmp 4) (.tmp 51) rfl (g4) (zeroS) (Fc.stateC t) ?_); refine And.intro ⟨rfl, by rfl, by rfl, info_state, state_one _, rfl, HZ8.out⟩ ?_; intro W9 HX9 HC9; (try simp only [Act.put, List.setIfInBounds_toArray, List.set_cons_zero, List.set_cons_succ])) | fail)
      have HB9 := Lib.hid (below_step HB8.out HC9.out HL4.out)
      have HO9 := Lib.hid (show StateOwn w.heap.size W9 t from ⟨own_has HO8.out.nodes HZ8.out HC9.out (by decide), own_has HO8.out.links HZ8.out HC9.out (by decide), fun z hz => ⟨own_has (HO8.out.each z hz).ps HZ8.out HC9.out (by decide), own_has (HO8.out.each z hz).xs HZ8.out HC9.out (by decide)⟩⟩)
      refine bodyPost_ret (v := .agg (Fc.stateC t)) (Who.results_cell (p := 4) (t := 27) rfl _ _ g4 0 (Fc.stateC t) _ (by rfl) (Who.has_range HX9.out) Tryz.underlying27 rfl info_state) rfl ?_
      exact ⟨t, rfl, HP8.out, HO9.out, HB9.out⟩
end Go.Proofs.YtblogecapegbmaaGreat.Jn
