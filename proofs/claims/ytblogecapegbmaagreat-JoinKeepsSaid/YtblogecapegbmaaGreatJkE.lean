/- Join: whether a link was moved, whether all that was done to it is known; whether any was moved. -/
import Derived.Test.YtblogecapegbmaaGreatJkD
import Derived.Test.YtblogecapegbmaaGreatJnP
namespace Go.Proofs.YtblogecapegbmaaGreat.Jn
open Go.RowKit Go.Proofs.YtblogecapegbmaaGreat.Mem
open Go.Proofs.YtblogecapegbmaaGreat.Vc (joinV meetV vecC stC)
set_option linter.unusedVariables false set_option linter.unusedSimpArgs false

theorem prA_known {w : World} {g : Nat} {t : TypeId} {s : Fc.StateC} {known : Nat → Int} {mb bb sb : Nat} (h : Has w g t (prA s known mb bb sb)) : w.rangeAt g 10 (vecC known).toList := range_of h fun j hj => by
  match j, (show j < 8 from hj) with
  | 0, _ | 1, _ | 2, _ | 3, _ | 4, _ | 5, _ | 6, _ | 7, _ => rfl
theorem prA_seen {w : World} {g : Nat} {t : TypeId} {s : Fc.StateC} {known : Nat → Int} {mb bb sb : Nat} (h : Has w g t (prA s known mb bb sb)) : w.rangeAt g 0 (vecC s.seen).toList := range_of h fun j hj => by
  match j, (show j < 8 from hj) with
  | 0, _ | 1, _ | 2, _ | 3, _ | 4, _ | 5, _ | 6, _ | 7, _ => rfl
set_option maxRecDepth 100000 in
set_option maxHeartbeats 4000000 in
theorem movedA (s : Fc.StateC) (known : Nat → Int) (g mb bb sb : Nat) (l : Fc.LinkP) (W : World) (hp : Has W g 100 (prA s known mb bb sb)) : Calls Tryz.prog 61 #[.pointer (some ⟨g, 0, none⟩), .agg (Fc.linkC l)] W fun e W' => e = .returned (.bool (movedB known l)) ∧ Below W.heap.size W W' := by
  have HB0 := Lib.hid ((Below.refl W.heap.size W).alloc (Nat.le_refl _) (.cells (Fc.linkC l) 51))
  have HX0 := Lib.hid (Has.fresh W 51 (Fc.linkC l))
  have HP0 := Lib.hid (hp.past (.cells (Fc.linkC l) 51))
  clear hp
  obtain ⟨za, hza⟩ : ∃ za, (!decide (l.at_ = l.id)) = za := ⟨_, rfl⟩
  obtain ⟨zb, hzb⟩ : ∃ zb, Vc.hasB known l.at_.1 l.at_.2 = zb := ⟨_, rfl⟩
  have HQ := Lib.hid hza
  have HH := Lib.hid (fun V => (show Calls Tryz.prog 69 #[.agg (vecC known), .agg #[.int .i64 l.at_.1, .int .i64 l.at_.2]] V fun e w' => e = .returned (.bool zb) ∧ Below V.heap.size V w' from by rw [← hzb]; exact Vc.has_any known l.at_.1 l.at_.2 V))
  unfold movedB
  rw [hza, hzb]
  clear hza hzb
  go_enter Tryz.func61, Tryz.ntmps61
  go_wp2_with fail
  cases za with
  | false =>
    refine wp_region_held_drew (S := fun V => Has V W.heap.size 51 (Fc.linkC l) ∧ Has V g 100 (prA s known mb bb sb)) (by kernel_rfl) ⟨HX0.out.drew, HP0.out.drew⟩ (fun hHeld => ?_)
    have HI0 := Lib.hid HB0.out.drew
    refine Vc.wpAnyH_read (i := 0) (d := some 5) (v := ?v1001) (by rfl) (by rfl) (by kernel_rfl) (by kernel_rfl) (by kernel_rfl) (fun _ _ _ h => h) (by rfl) ?hy1001 (by assumption) ?rest1001
    case hy1001 =>
      intro w hSw
      try dsimp only at hSw
      go_simp
      try with_reducible rfl
    try simp only [Act.put, List.setIfInBounds_toArray, List.set_cons_zero, List.set_cons_succ]
    refine Vc.wpAnyH_read (i := 1) (d := some 6) (v := .agg #[.int .i64 l.at_.1, .int .i64 l.at_.2]) (by rfl) (by rfl) (by kernel_rfl) (by kernel_rfl) (by kernel_rfl) (fun _ _ _ h => h) (by rfl) ?hy1002 (by assumption) ?rest1002
    case hy1002 =>
      intro w hSw
      exact Who.exec_loadA _ rfl rfl (link_at hSw.1) Tryz.underlying37 rfl info_st
    try simp only [Act.put, List.setIfInBounds_toArray, List.set_cons_zero, List.set_cons_succ]
    refine Vc.wpAnyH_read (i := 2) (d := some 7) (v := ?v1003) (by rfl) (by rfl) (by kernel_rfl) (by kernel_rfl) (by kernel_rfl) (fun _ _ _ h => h) (by rfl) ?hy1003 (by assumption) ?rest1003
    case hy1003 =>
      intro w hSw
      try dsimp only at hSw
      go_simp
      try with_reducible rfl
    try simp only [Act.put, List.setIfInBounds_toArray, List.set_cons_zero, List.set_cons_succ]
    refine Vc.wpAnyH_read (i := 3) (d := some 8) (v := .agg #[.int .i64 l.id.1, .int .i64 l.id.2]) (by rfl) (by rfl) (by kernel_rfl) (by kernel_rfl) (by kernel_rfl) (fun _ _ _ h => h) (by rfl) ?hy1004 (by assumption) ?rest1004
    case hy1004 =>
      intro w hSw
      exact Who.exec_loadA _ rfl rfl (link_id hSw.1) Tryz.underlying37 rfl info_st
    try simp only [Act.put, List.setIfInBounds_toArray, List.set_cons_zero, List.set_cons_succ]
    refine Vc.wpAnyH_read (i := 4) (d := some 9) (v := .bool false) (by rfl) (by rfl) (by kernel_rfl) (by kernel_rfl) (by kernel_rfl) (fun _ _ _ h => h) (by rfl) ?hy1005 (by assumption) ?rest1005
    case hy1005 =>
      intro w hSw
      have e : l.at_ = l.id := (by have q := HQ.out; simpa using q); have e1 := congrArg Prod.fst e; have e2 := congrArg Prod.snd e; go_simp; try simp [e1, e2]
    try simp only [Act.put, List.setIfInBounds_toArray, List.set_cons_zero, List.set_cons_succ]
    refine Vc.wpAnyH_read (i := 5) (d := some 10) (v := ?v1006) (by rfl) (by rfl) (by kernel_rfl) (by kernel_rfl) (by kernel_rfl) (fun _ _ _ h => h) (by rfl) ?hy1006 (by assumption) ?rest1006
    case hy1006 =>
      intro w hSw
      try dsimp only at hSw
      go_simp
      try with_reducible rfl
    try simp only [Act.put, List.setIfInBounds_toArray, List.set_cons_zero, List.set_cons_succ]
    refine Vc.wpAnyH_skip (i := 6) (d := some 11) (by rfl) (by rfl) (by kernel_rfl) (by kernel_rfl) (by kernel_rfl) (fun _ _ _ h => h) (by rfl) (by assumption) ?_
    try simp only [Act.put, List.setIfInBounds_toArray, List.set_cons_zero, List.set_cons_succ]
    refine Vc.wpAnyH_skip (i := 7) (d := some 12) (by rfl) (by rfl) (by kernel_rfl) (by kernel_rfl) (by kernel_rfl) (fun _ _ _ h => h) (by rfl) (by assumption) ?_
    try simp only [Act.put, List.setIfInBounds_toArray, List.set_cons_zero, List.set_cons_succ]
    refine Vc.wpAnyH_skip (i := 8) (d := some 13) (by rfl) (by rfl) (by kernel_rfl) (by kernel_rfl) (by kernel_rfl) (fun _ _ _ h => h) (by rfl) (by assumption) ?_
    try simp only [Act.put, List.setIfInBounds_toArray, List.set_cons_zero, List.set_cons_succ]
    refine Vc.wpAnyH_skip (i := 9) (d := some 14) (by rfl) (by rfl) (by kernel_rfl) (by kernel_rfl) (by kernel_rfl) (fun _ _ _ h => h) (by rfl) (by assumption) ?_
    try simp only [Act.put, List.setIfInBounds_toArray, List.set_cons_zero, List.set_cons_succ]
    refine Vc.wpAnyH_skip (i := 10) (d := some 15) (by rfl) (by rfl) (by kernel_rfl) (by kernel_rfl) (by kernel_rfl) (fun _ _ _ h => h) (by rfl) (by assumption) ?_
    try simp only [Act.put, List.setIfInBounds_toArray, List.set_cons_zero, List.set_cons_succ]
    refine Vc.wpAnyH_skip (i := 11) (d := some 16) (by rfl) (by rfl) (by kernel_rfl) (by kernel_rfl) (by kernel_rfl) (fun _ _ _ h => h) (by rfl) (by assumption) ?_
    try simp only [Act.put, List.setIfInBounds_toArray, List.set_cons_zero, List.set_cons_succ]
    refine Vc.wpAnyH_skip (i := 12) (d := some 17) (by rfl) (by rfl) (by kernel_rfl) (by kernel_rfl) (by kernel_rfl) (fun _ _ _ h => h) (by rfl) (by assumption) ?_
    try simp only [Act.put, List.setIfInBounds_toArray, List.set_cons_zero, List.set_cons_succ]
    refine Vc.wpAnyH_skip (i := 13) (d := some 18) (by rfl) (by rfl) (by kernel_rfl) (by kernel_rfl) (by kernel_rfl) (fun _ _ _ h => h) (by rfl) (by assumption) ?_
    try simp only [Act.put, List.setIfInBounds_toArray, List.set_cons_zero, List.set_cons_succ]
    refine Vc.wpAnyH_read (i := 14) (d := some 19) (v := ?v1015) (by rfl) (by rfl) (by kernel_rfl) (by kernel_rfl) (by kernel_rfl) (fun _ _ _ h => h) (by rfl) ?hy1015 (by assumption) ?rest1015
    case hy1015 =>
      intro w hSw
      try dsimp only at hSw
      go_simp
      try with_reducible rfl
    try simp only [Act.put, List.setIfInBounds_toArray, List.set_cons_zero, List.set_cons_succ]
    refine Vc.wpAnyH_read (i := 15) (d := some 4) (v := ?v1016) (by rfl) (by rfl) (by kernel_rfl) (by kernel_rfl) (by kernel_rfl) (fun _ _ _ h => h) (by rfl) ?hy1016 (by assumption) ?rest1016
    case hy1016 =>
      intro w hSw
      try dsimp only at hSw
      go_simp
      try with_reducible rfl
    try simp only [Act.put, List.setIfInBounds_toArray, List.set_cons_zero, List.set_cons_succ]
    refine wpAnyH_done (by kernel_rfl) ?_ _
    go_wp2
    go_ret
    exact ⟨by first | rfl | simp, HI0.out⟩
  | true =>
    refine wp_region_held_drew (S := fun V => Has V W.heap.size 51 (Fc.linkC l) ∧ Has V g 100 (prA s known mb bb sb)) (by kernel_rfl) ⟨HX0.out.drew, HP0.out.drew⟩ (fun hHeld => ?_)
    have HI0 := Lib.hid HB0.out.drew
    refine Vc.wpAnyH_read (i := 0) (d := some 5) (v := ?v2001) (by rfl) (by rfl) (by kernel_rfl) (by kernel_rfl) (by kernel_rfl) (fun _ _ _ h => h) (by rfl) ?hy2001 (by assumption) ?rest2001
    case hy2001 =>
      intro w hSw
      try dsimp only at hSw
      go_simp
      try with_reducible rfl
    try simp only [Act.put, List.setIfInBounds_toArray, List.set_cons_zero, List.set_cons_succ]
    refine Vc.wpAnyH_read (i := 1) (d := some 6) (v := .agg #[.int .i64 l.at_.1, .int .i64 l.at_.2]) (by rfl) (by rfl) (by kernel_rfl) (by kernel_rfl) (by kernel_rfl) (fun _ _ _ h => h) (by rfl) ?hy2002 (by assumption) ?rest2002
    case hy2002 =>
      intro w hSw
      exact Who.exec_loadA _ rfl rfl (link_at hSw.1) Tryz.underlying37 rfl info_st
    try simp only [Act.put, List.setIfInBounds_toArray, List.set_cons_zero, List.set_cons_succ]
    refine Vc.wpAnyH_read (i := 2) (d := some 7) (v := ?v2003) (by rfl) (by rfl) (by kernel_rfl) (by kernel_rfl) (by kernel_rfl) (fun _ _ _ h => h) (by rfl) ?hy2003 (by assumption) ?rest2003
    case hy2003 =>
      intro w hSw
      try dsimp only at hSw
      go_simp
      try with_reducible rfl
    try simp only [Act.put, List.setIfInBounds_toArray, List.set_cons_zero, List.set_cons_succ]
    refine Vc.wpAnyH_read (i := 3) (d := some 8) (v := .agg #[.int .i64 l.id.1, .int .i64 l.id.2]) (by rfl) (by rfl) (by kernel_rfl) (by kernel_rfl) (by kernel_rfl) (fun _ _ _ h => h) (by rfl) ?hy2004 (by assumption) ?rest2004
    case hy2004 =>
      intro w hSw
      exact Who.exec_loadA _ rfl rfl (link_id hSw.1) Tryz.underlying37 rfl info_st
    try simp only [Act.put, List.setIfInBounds_toArray, List.set_cons_zero, List.set_cons_succ]
    refine Vc.wpAnyH_read (i := 4) (d := some 9) (v := .bool true) (by rfl) (by rfl) (by kernel_rfl) (by kernel_rfl) (by kernel_rfl) (fun _ _ _ h => h) (by rfl) ?hy2005 (by assumption) ?rest2005
    case hy2005 =>
      intro w hSw
      have e : ¬ l.at_ = l.id := (by have q := HQ.out; simpa using q); go_simp; try (exact fun h1 h2 => e (Prod.ext h1 h2))
    try simp only [Act.put, List.setIfInBounds_toArray, List.set_cons_zero, List.set_cons_succ]
    refine Vc.wpAnyH_read (i := 5) (d := some 10) (v := ?v2006) (by rfl) (by rfl) (by kernel_rfl) (by kernel_rfl) (by kernel_rfl) (fun _ _ _ h => h) (by rfl) ?hy2006 (by assumption) ?rest2006
    case hy2006 =>
      intro w hSw
      try dsimp only at hSw
      go_simp
      try with_reducible rfl
    try simp only [Act.put, List.setIfInBounds_toArray, List.set_cons_zero, List.set_cons_succ]
    refine Vc.wpAnyH_read (i := 6) (d := some 11) (v := ?v2007) (by rfl) (by rfl) (by kernel_rfl) (by kernel_rfl) (by kernel_rfl) (fun _ _ _ h => h) (by rfl) ?hy2007 (by assumption) ?rest2007
    case hy2007 =>
      intro w hSw
      try dsimp only at hSw
      go_simp
      try with_reducible rfl
    try simp only [Act.put, List.setIfInBounds_toArray, List.set_cons_zero, List.set_cons_succ]
    refine Vc.wpAnyH_read (i := 7) (d := some 12) (v := ?v2008) (by rfl) (by rfl) (by kernel_rfl) (by kernel_rfl) (by kernel_rfl) (fun _ _ _ h => h) (by rfl) ?hy2008 (by assumption) ?rest2008
    case hy2008 =>
      intro w hSw
      try dsimp only at hSw
      go_simp
      try with_reducible rfl
    try simp only [Act.put, List.setIfInBounds_toArray, List.set_cons_zero, List.set_cons_succ]
    refine Vc.wpAnyH_read (i := 8) (d := some 13) (v := ?v2009) (by rfl) (by rfl) (by kernel_rfl) (by kernel_rfl) (by kernel_rfl) (fun _ _ _ h => h) (by rfl) ?hy2009 (by assumption) ?rest2009
    case hy2009 =>
      intro w hSw
      try dsimp only at hSw
      go_simp
      try with_reducible rfl
    try simp only [Act.put, List.setIfInBounds_toArray, List.set_cons_zero, List.set_cons_succ]
    refine Vc.wpAnyH_read (i := 9) (d := some 14) (v := .agg (vecC known)) (by rfl) (by rfl) (by kernel_rfl) (by kernel_rfl) (by kernel_rfl) (fun _ _ _ h => h) (by rfl) ?hy2010 (by assumption) ?rest2010
    case hy2010 =>
      intro w hSw
      exact Who.exec_loadA _ rfl rfl (prA_known hSw.2) Tryz.underlying23 rfl info_vec
    try simp only [Act.put, List.setIfInBounds_toArray, List.set_cons_zero, List.set_cons_succ]
    refine Vc.wpAnyH_read (i := 10) (d := some 15) (v := ?v2011) (by rfl) (by rfl) (by kernel_rfl) (by kernel_rfl) (by kernel_rfl) (fun _ _ _ h => h) (by rfl) ?hy2011 (by assumption) ?rest2011
    case hy2011 =>
      intro w hSw
      try dsimp only at hSw
      go_simp
      try with_reducible rfl
    try simp only [Act.put, List.setIfInBounds_toArray, List.set_cons_zero, List.set_cons_succ]
    refine Vc.wpAnyH_read (i := 11) (d := some 16) (v := .agg #[.int .i64 l.at_.1, .int .i64 l.at_.2]) (by rfl) (by rfl) (by kernel_rfl) (by kernel_rfl) (by kernel_rfl) (fun _ _ _ h => h) (by rfl) ?hy2012 (by assumption) ?rest2012
    case hy2012 =>
      intro w hSw
      exact Who.exec_loadA _ rfl rfl (link_at hSw.1) Tryz.underlying37 rfl info_st
    try simp only [Act.put, List.setIfInBounds_toArray, List.set_cons_zero, List.set_cons_succ]
    refine wpAnyH_ready (rs := [12]) (by kernel_rfl) (by simp) ?_
    refine AllReadyH.cons rfl (fun K hK => ?_) AllReadyH.nil
    go_simp
    go_at_call 69
    with_reducible refine (HH.out _).mono ?_
    rintro e W1 ⟨rfl, hb⟩
    have HX1 := Lib.hid (hHeld.1.below hb)
    have HP1 := Lib.hid (hHeld.2.below hb)
    have HI1 := Lib.hid (HI0.out.trans (hb.mono HI0.out.size))
    clear hb
    refine hK.out _ _ ⟨HX1.out, HP1.out⟩ (fun hHeld => ?_)
    clear hK K
    try simp only [Act.put, List.setIfInBounds_toArray, List.set_cons_zero, List.set_cons_succ]
    refine Vc.wpAnyH_read (i := 13) (d := some 18) (v := ?v2013) (by rfl) (by rfl) (by kernel_rfl) (by kernel_rfl) (by kernel_rfl) (fun _ _ _ h => h) (by rfl) ?hy2013 (by assumption) ?rest2013
    case hy2013 =>
      intro w hSw
      try dsimp only at hSw
      go_simp
      try with_reducible rfl
    try simp only [Act.put, List.setIfInBounds_toArray, List.set_cons_zero, List.set_cons_succ]
    refine Vc.wpAnyH_read (i := 14) (d := some 19) (v := ?v2014) (by rfl) (by rfl) (by kernel_rfl) (by kernel_rfl) (by kernel_rfl) (fun _ _ _ h => h) (by rfl) ?hy2014 (by assumption) ?rest2014
    case hy2014 =>
      intro w hSw
      try dsimp only at hSw
      go_simp
      try with_reducible rfl
    try simp only [Act.put, List.setIfInBounds_toArray, List.set_cons_zero, List.set_cons_succ]
    refine Vc.wpAnyH_read (i := 15) (d := some 4) (v := ?v2015) (by rfl) (by rfl) (by kernel_rfl) (by kernel_rfl) (by kernel_rfl) (fun _ _ _ h => h) (by rfl) ?hy2015 (by assumption) ?rest2015
    case hy2015 =>
      intro w hSw
      try dsimp only at hSw
      go_simp
      try with_reducible rfl
    try simp only [Act.put, List.setIfInBounds_toArray, List.set_cons_zero, List.set_cons_succ]
    refine wpAnyH_done (by kernel_rfl) ?_ _
    go_wp2
    go_ret
    exact ⟨by first | rfl | simp, HI1.out⟩
set_option maxRecDepth 100000 in
set_option maxHeartbeats 4000000 in
theorem settledA (s : Fc.StateC) (known : Nat → Int) (g mb bb sb : Nat) (l : Fc.LinkP) (W : World) (hp : Has W g 100 (prA s known mb bb sb)) : Calls Tryz.prog 62 #[.pointer (some ⟨g, 0, none⟩), .agg (Fc.linkC l)] W fun e W' => e = .returned (.bool (settledB known l)) ∧ Below W.heap.size W W' := by
  have HB0 := Lib.hid ((Below.refl W.heap.size W).alloc (Nat.le_refl _) (.cells (Fc.linkC l) 51))
  have HX0 := Lib.hid (Has.fresh W 51 (Fc.linkC l))
  have HP0 := Lib.hid (hp.past (.cells (Fc.linkC l) 51))
  clear hp
  obtain ⟨za, hza⟩ : ∃ za, Vc.withinB l.al known = za := ⟨_, rfl⟩
  obtain ⟨zb, hzb⟩ : ∃ zb, Vc.withinB l.de known = zb := ⟨_, rfl⟩
  obtain ⟨zc, hzc⟩ : ∃ zc, Vc.hasB known l.at_.1 l.at_.2 = zc := ⟨_, rfl⟩
  have HQ := Lib.hid (fun V => (show Calls Tryz.prog 71 #[.agg (vecC l.al), .agg (vecC known)] V fun e w' => e = .returned (.bool za) ∧ Below V.heap.size V w' from by rw [← hza]; exact Vc.within_any l.al known V))
  have HR := Lib.hid (fun V => (show Calls Tryz.prog 71 #[.agg (vecC l.de), .agg (vecC known)] V fun e w' => e = .returned (.bool zb) ∧ Below V.heap.size V w' from by rw [← hzb]; exact Vc.within_any l.de known V))
  have HH := Lib.hid (fun V => (show Calls Tryz.prog 69 #[.agg (vecC known), .agg #[.int .i64 l.at_.1, .int .i64 l.at_.2]] V fun e w' => e = .returned (.bool zc) ∧ Below V.heap.size V w' from by rw [← hzc]; exact Vc.has_any known l.at_.1 l.at_.2 V))
  unfold settledB
  rw [hza, hzb, hzc]
  clear hza hzb hzc
  go_enter Tryz.func62, Tryz.ntmps62
  go_wp2_with fail
  cases za with
  | false =>
    refine wp_region_held_drew (S := fun V => Has V W.heap.size 51 (Fc.linkC l) ∧ Has V g 100 (prA s known mb bb sb)) (by kernel_rfl) ⟨HX0.out.drew, HP0.out.drew⟩ (fun hHeld => ?_)
    have HI0 := Lib.hid HB0.out.drew
    refine Vc.wpAnyH_read (i := 0) (d := some 5) (v := ?v3001) (by rfl) (by rfl) (by kernel_rfl) (by kernel_rfl) (by kernel_rfl) (fun _ _ _ h => h) (by rfl) ?hy3001 (by assumption) ?rest3001
    case hy3001 =>
      intro w hSw
      try dsimp only at hSw
      go_simp
      try with_reducible rfl
    try simp only [Act.put, List.setIfInBounds_toArray, List.set_cons_zero, List.set_cons_succ]
    refine Vc.wpAnyH_read (i := 1) (d := some 6) (v := .agg (vecC l.al)) (by rfl) (by rfl) (by kernel_rfl) (by kernel_rfl) (by kernel_rfl) (fun _ _ _ h => h) (by rfl) ?hy3002 (by assumption) ?rest3002
    case hy3002 =>
      intro w hSw
      exact Who.exec_loadA _ rfl rfl (link_al hSw.1) Tryz.underlying23 rfl info_vec
    try simp only [Act.put, List.setIfInBounds_toArray, List.set_cons_zero, List.set_cons_succ]
    refine Vc.wpAnyH_read (i := 2) (d := some 7) (v := ?v3003) (by rfl) (by rfl) (by kernel_rfl) (by kernel_rfl) (by kernel_rfl) (fun _ _ _ h => h) (by rfl) ?hy3003 (by assumption) ?rest3003
    case hy3003 =>
      intro w hSw
      try dsimp only at hSw
      go_simp
      try with_reducible rfl
    try simp only [Act.put, List.setIfInBounds_toArray, List.set_cons_zero, List.set_cons_succ]
    refine Vc.wpAnyH_read (i := 3) (d := some 8) (v := ?v3004) (by rfl) (by rfl) (by kernel_rfl) (by kernel_rfl) (by kernel_rfl) (fun _ _ _ h => h) (by rfl) ?hy3004 (by assumption) ?rest3004
    case hy3004 =>
      intro w hSw
      try dsimp only at hSw
      go_simp
      try with_reducible rfl
    try simp only [Act.put, List.setIfInBounds_toArray, List.set_cons_zero, List.set_cons_succ]
    refine Vc.wpAnyH_read (i := 4) (d := some 9) (v := ?v3005) (by rfl) (by rfl) (by kernel_rfl) (by kernel_rfl) (by kernel_rfl) (fun _ _ _ h => h) (by rfl) ?hy3005 (by assumption) ?rest3005
    case hy3005 =>
      intro w hSw
      try dsimp only at hSw
      go_simp
      try with_reducible rfl
    try simp only [Act.put, List.setIfInBounds_toArray, List.set_cons_zero, List.set_cons_succ]
    refine Vc.wpAnyH_read (i := 5) (d := some 10) (v := .agg (vecC known)) (by rfl) (by rfl) (by kernel_rfl) (by kernel_rfl) (by kernel_rfl) (fun _ _ _ h => h) (by rfl) ?hy3006 (by assumption) ?rest3006
    case hy3006 =>
      intro w hSw
      exact Who.exec_loadA _ rfl rfl (prA_known hSw.2) Tryz.underlying23 rfl info_vec
    try simp only [Act.put, List.setIfInBounds_toArray, List.set_cons_zero, List.set_cons_succ]
    refine wpAnyH_ready (rs := [6]) (by kernel_rfl) (by simp) ?_
    refine AllReadyH.cons rfl (fun K hK => ?_) AllReadyH.nil
    go_simp
    go_at_call 71
    with_reducible refine (HQ.out _).mono ?_
    rintro e W1 ⟨rfl, hb⟩
    have HX1 := Lib.hid (hHeld.1.below hb)
    have HP1 := Lib.hid (hHeld.2.below hb)
    have HI1 := Lib.hid (HI0.out.trans (hb.mono HI0.out.size))
    clear hb
    refine hK.out _ _ ⟨HX1.out, HP1.out⟩ (fun hHeld => ?_)
    clear hK K
    try simp only [Act.put, List.setIfInBounds_toArray, List.set_cons_zero, List.set_cons_succ]
    refine Vc.wpAnyH_read (i := 7) (d := some 12) (v := ?v3007) (by rfl) (by rfl) (by kernel_rfl) (by kernel_rfl) (by kernel_rfl) (fun _ _ _ h => h) (by rfl) ?hy3007 (by assumption) ?rest3007
    case hy3007 =>
      intro w hSw
      try dsimp only at hSw
      go_simp
      try with_reducible rfl
    try simp only [Act.put, List.setIfInBounds_toArray, List.set_cons_zero, List.set_cons_succ]
    refine Vc.wpAnyH_skip (i := 8) (d := some 13) (by rfl) (by rfl) (by kernel_rfl) (by kernel_rfl) (by kernel_rfl) (fun _ _ _ h => h) (by rfl) (by assumption) ?_
    try simp only [Act.put, List.setIfInBounds_toArray, List.set_cons_zero, List.set_cons_succ]
    refine Vc.wpAnyH_skip (i := 9) (d := some 14) (by rfl) (by rfl) (by kernel_rfl) (by kernel_rfl) (by kernel_rfl) (fun _ _ _ h => h) (by rfl) (by assumption) ?_
    try simp only [Act.put, List.setIfInBounds_toArray, List.set_cons_zero, List.set_cons_succ]
    refine Vc.wpAnyH_skip (i := 10) (d := some 15) (by rfl) (by rfl) (by kernel_rfl) (by kernel_rfl) (by kernel_rfl) (fun _ _ _ h => h) (by rfl) (by assumption) ?_
    try simp only [Act.put, List.setIfInBounds_toArray, List.set_cons_zero, List.set_cons_succ]
    refine Vc.wpAnyH_skip (i := 11) (d := some 16) (by rfl) (by rfl) (by kernel_rfl) (by kernel_rfl) (by kernel_rfl) (fun _ _ _ h => h) (by rfl) (by assumption) ?_
    try simp only [Act.put, List.setIfInBounds_toArray, List.set_cons_zero, List.set_cons_succ]
    refine Vc.wpAnyH_skip (i := 12) (d := some 17) (by rfl) (by rfl) (by kernel_rfl) (by kernel_rfl) (by kernel_rfl) (fun _ _ _ h => h) (by rfl) (by assumption) ?_
    try simp only [Act.put, List.setIfInBounds_toArray, List.set_cons_zero, List.set_cons_succ]
    refine Vc.wpAnyH_skip (i := 13) (d := some 18) (by rfl) (by rfl) (by kernel_rfl) (by kernel_rfl) (by kernel_rfl) (fun _ _ _ h => h) (by rfl) (by assumption) ?_
    try simp only [Act.put, List.setIfInBounds_toArray, List.set_cons_zero, List.set_cons_succ]
    refine Vc.wpAnyH_skip (i := 14) (d := some 19) (by rfl) (by rfl) (by kernel_rfl) (by kernel_rfl) (by kernel_rfl) (fun _ _ _ h => h) (by rfl) (by assumption) ?_
    try simp only [Act.put, List.setIfInBounds_toArray, List.set_cons_zero, List.set_cons_succ]
    refine Vc.wpAnyH_read (i := 15) (d := some 20) (v := ?v3015) (by rfl) (by rfl) (by kernel_rfl) (by kernel_rfl) (by kernel_rfl) (fun _ _ _ h => h) (by rfl) ?hy3015 (by assumption) ?rest3015
    case hy3015 =>
      intro w hSw
      try dsimp only at hSw
      go_simp
      try with_reducible rfl
    try simp only [Act.put, List.setIfInBounds_toArray, List.set_cons_zero, List.set_cons_succ]
    refine Vc.wpAnyH_read (i := 16) (d := some 21) (v := ?v3016) (by rfl) (by rfl) (by kernel_rfl) (by kernel_rfl) (by kernel_rfl) (fun _ _ _ h => h) (by rfl) ?hy3016 (by assumption) ?rest3016
    case hy3016 =>
      intro w hSw
      try dsimp only at hSw
      go_simp
      try with_reducible rfl
    try simp only [Act.put, List.setIfInBounds_toArray, List.set_cons_zero, List.set_cons_succ]
    refine Vc.wpAnyH_skip (i := 17) (d := some 22) (by rfl) (by rfl) (by kernel_rfl) (by kernel_rfl) (by kernel_rfl) (fun _ _ _ h => h) (by rfl) (by assumption) ?_
    try simp only [Act.put, List.setIfInBounds_toArray, List.set_cons_zero, List.set_cons_succ]
    refine Vc.wpAnyH_skip (i := 18) (d := some 23) (by rfl) (by rfl) (by kernel_rfl) (by kernel_rfl) (by kernel_rfl) (fun _ _ _ h => h) (by rfl) (by assumption) ?_
    try simp only [Act.put, List.setIfInBounds_toArray, List.set_cons_zero, List.set_cons_succ]
    refine Vc.wpAnyH_skip (i := 19) (d := some 24) (by rfl) (by rfl) (by kernel_rfl) (by kernel_rfl) (by kernel_rfl) (fun _ _ _ h => h) (by rfl) (by assumption) ?_
    try simp only [Act.put, List.setIfInBounds_toArray, List.set_cons_zero, List.set_cons_succ]
    refine Vc.wpAnyH_skip (i := 20) (d := some 25) (by rfl) (by rfl) (by kernel_rfl) (by kernel_rfl) (by kernel_rfl) (fun _ _ _ h => h) (by rfl) (by assumption) ?_
    try simp only [Act.put, List.setIfInBounds_toArray, List.set_cons_zero, List.set_cons_succ]
    refine Vc.wpAnyH_skip (i := 21) (d := some 26) (by rfl) (by rfl) (by kernel_rfl) (by kernel_rfl) (by kernel_rfl) (fun _ _ _ h => h) (by rfl) (by assumption) ?_
    try simp only [Act.put, List.setIfInBounds_toArray, List.set_cons_zero, List.set_cons_succ]
    refine Vc.wpAnyH_skip (i := 22) (d := some 27) (by rfl) (by rfl) (by kernel_rfl) (by kernel_rfl) (by kernel_rfl) (fun _ _ _ h => h) (by rfl) (by assumption) ?_
    try simp only [Act.put, List.setIfInBounds_toArray, List.set_cons_zero, List.set_cons_succ]
    refine Vc.wpAnyH_skip (i := 23) (d := some 28) (by rfl) (by rfl) (by kernel_rfl) (by kernel_rfl) (by kernel_rfl) (fun _ _ _ h => h) (by rfl) (by assumption) ?_
    try simp only [Act.put, List.setIfInBounds_toArray, List.set_cons_zero, List.set_cons_succ]
    refine Vc.wpAnyH_read (i := 24) (d := some 29) (v := ?v3024) (by rfl) (by rfl) (by kernel_rfl) (by kernel_rfl) (by kernel_rfl) (fun _ _ _ h => h) (by rfl) ?hy3024 (by assumption) ?rest3024
    case hy3024 =>
      intro w hSw
      try dsimp only at hSw
      go_simp
      try with_reducible rfl
    try simp only [Act.put, List.setIfInBounds_toArray, List.set_cons_zero, List.set_cons_succ]
    refine Vc.wpAnyH_read (i := 25) (d := some 4) (v := ?v3025) (by rfl) (by rfl) (by kernel_rfl) (by kernel_rfl) (by kernel_rfl) (fun _ _ _ h => h) (by rfl) ?hy3025 (by assumption) ?rest3025
    case hy3025 =>
      intro w hSw
      try dsimp only at hSw
      go_simp
      try with_reducible rfl
    try simp only [Act.put, List.setIfInBounds_toArray, List.set_cons_zero, List.set_cons_succ]
    refine wpAnyH_done (by kernel_rfl) ?_ _
    go_wp2
    go_ret
    exact ⟨by first | rfl | simp, HI1.out⟩
  | true =>
    cases zb with
    | false =>
      refine wp_region_held_drew (S := fun V => Has V W.heap.size 51 (Fc.linkC l) ∧ Has V g 100 (prA s known mb bb sb)) (by kernel_rfl) ⟨HX0.out.drew, HP0.out.drew⟩ (fun hHeld => ?_)
      have HI0 := Lib.hid HB0.out.drew
      refine Vc.wpAnyH_read (i := 0) (d := some 5) (v := ?v4001) (by rfl) (by rfl) (by kernel_rfl) (by kernel_rfl) (by kernel_rfl) (fun _ _ _ h => h) (by rfl) ?hy4001 (by assumption) ?rest4001
      case hy4001 =>
        intro w hSw
        try dsimp only at hSw
        go_simp
        try with_reducible rfl
      try simp only [Act.put, List.setIfInBounds_toArray, List.set_cons_zero, List.set_cons_succ]
      refine Vc.wpAnyH_read (i := 1) (d := some 6) (v := .agg (vecC l.al)) (by rfl) (by rfl) (by kernel_rfl) (by kernel_rfl) (by kernel_rfl) (fun _ _ _ h => h) (by rfl) ?hy4002 (by assumption) ?rest4002
      case hy4002 =>
        intro w hSw
        exact Who.exec_loadA _ rfl rfl (link_al hSw.1) Tryz.underlying23 rfl info_vec
      try simp only [Act.put, List.setIfInBounds_toArray, List.set_cons_zero, List.set_cons_succ]
      refine Vc.wpAnyH_read (i := 2) (d := some 7) (v := ?v4003) (by rfl) (by rfl) (by kernel_rfl) (by kernel_rfl) (by kernel_rfl) (fun _ _ _ h => h) (by rfl) ?hy4003 (by assumption) ?rest4003
      case hy4003 =>
        intro w hSw
        try dsimp only at hSw
        go_simp
        try with_reducible rfl
      try simp only [Act.put, List.setIfInBounds_toArray, List.set_cons_zero, List.set_cons_succ]
      refine Vc.wpAnyH_read (i := 3) (d := some 8) (v := ?v4004) (by rfl) (by rfl) (by kernel_rfl) (by kernel_rfl) (by kernel_rfl) (fun _ _ _ h => h) (by rfl) ?hy4004 (by assumption) ?rest4004
      case hy4004 =>
        intro w hSw
        try dsimp only at hSw
        go_simp
        try with_reducible rfl
      try simp only [Act.put, List.setIfInBounds_toArray, List.set_cons_zero, List.set_cons_succ]
      refine Vc.wpAnyH_read (i := 4) (d := some 9) (v := ?v4005) (by rfl) (by rfl) (by kernel_rfl) (by kernel_rfl) (by kernel_rfl) (fun _ _ _ h => h) (by rfl) ?hy4005 (by assumption) ?rest4005
      case hy4005 =>
        intro w hSw
        try dsimp only at hSw
        go_simp
        try with_reducible rfl
      try simp only [Act.put, List.setIfInBounds_toArray, List.set_cons_zero, List.set_cons_succ]
      refine Vc.wpAnyH_read (i := 5) (d := some 10) (v := .agg (vecC known)) (by rfl) (by rfl) (by kernel_rfl) (by kernel_rfl) (by kernel_rfl) (fun _ _ _ h => h) (by rfl) ?hy4006 (by assumption) ?rest4006
      case hy4006 =>
        intro w hSw
        exact Who.exec_loadA _ rfl rfl (prA_known hSw.2) Tryz.underlying23 rfl info_vec
      try simp only [Act.put, List.setIfInBounds_toArray, List.set_cons_zero, List.set_cons_succ]
      refine wpAnyH_ready (rs := [6]) (by kernel_rfl) (by simp) ?_
      refine AllReadyH.cons rfl (fun K hK => ?_) AllReadyH.nil
      go_simp
      go_at_call 71
      with_reducible refine (HQ.out _).mono ?_
      rintro e W1 ⟨rfl, hb⟩
      have HX1 := Lib.hid (hHeld.1.below hb)
      have HP1 := Lib.hid (hHeld.2.below hb)
      have HI1 := Lib.hid (HI0.out.trans (hb.mono HI0.out.size))
      clear hb
      refine hK.out _ _ ⟨HX1.out, HP1.out⟩ (fun hHeld => ?_)
      clear hK K
      try simp only [Act.put, List.setIfInBounds_toArray, List.set_cons_zero, List.set_cons_succ]
      refine Vc.wpAnyH_read (i := 7) (d := some 12) (v := ?v4007) (by rfl) (by rfl) (by kernel_rfl) (by kernel_rfl) (by kernel_rfl) (fun _ _ _ h => h) (by rfl) ?hy4007 (by assumption) ?rest4007
      case hy4007 =>
        intro w hSw
        try dsimp only at hSw
        go_simp
        try with_reducible rfl
      try simp only [Act.put, List.setIfInBounds_toArray, List.set_cons_zero, List.set_cons_succ]
      refine Vc.wpAnyH_read (i := 8) (d := some 13) (v := ?v4008) (by rfl) (by rfl) (by kernel_rfl) (by kernel_rfl) (by kernel_rfl) (fun _ _ _ h => h) (by rfl) ?hy4008 (by assumption) ?rest4008
      case hy4008 =>
        intro w hSw
        try dsimp only at hSw
        go_simp
        try with_reducible rfl
      try simp only [Act.put, List.setIfInBounds_toArray, List.set_cons_zero, List.set_cons_succ]
      refine Vc.wpAnyH_read (i := 9) (d := some 14) (v := .agg (vecC l.de)) (by rfl) (by rfl) (by kernel_rfl) (by kernel_rfl) (by kernel_rfl) (fun _ _ _ h => h) (by rfl) ?hy4009 (by assumption) ?rest4009
      case hy4009 =>
        intro w hSw
        exact Who.exec_loadA _ rfl rfl (link_de hSw.1) Tryz.underlying23 rfl info_vec
      try simp only [Act.put, List.setIfInBounds_toArray, List.set_cons_zero, List.set_cons_succ]
      refine Vc.wpAnyH_read (i := 10) (d := some 15) (v := ?v4010) (by rfl) (by rfl) (by kernel_rfl) (by kernel_rfl) (by kernel_rfl) (fun _ _ _ h => h) (by rfl) ?hy4010 (by assumption) ?rest4010
      case hy4010 =>
        intro w hSw
        try dsimp only at hSw
        go_simp
        try with_reducible rfl
      try simp only [Act.put, List.setIfInBounds_toArray, List.set_cons_zero, List.set_cons_succ]
      refine Vc.wpAnyH_read (i := 11) (d := some 16) (v := ?v4011) (by rfl) (by rfl) (by kernel_rfl) (by kernel_rfl) (by kernel_rfl) (fun _ _ _ h => h) (by rfl) ?hy4011 (by assumption) ?rest4011
      case hy4011 =>
        intro w hSw
        try dsimp only at hSw
        go_simp
        try with_reducible rfl
      try simp only [Act.put, List.setIfInBounds_toArray, List.set_cons_zero, List.set_cons_succ]
      refine Vc.wpAnyH_read (i := 12) (d := some 17) (v := ?v4012) (by rfl) (by rfl) (by kernel_rfl) (by kernel_rfl) (by kernel_rfl) (fun _ _ _ h => h) (by rfl) ?hy4012 (by assumption) ?rest4012
      case hy4012 =>
        intro w hSw
        try dsimp only at hSw
        go_simp
        try with_reducible rfl
      try simp only [Act.put, List.setIfInBounds_toArray, List.set_cons_zero, List.set_cons_succ]
      refine Vc.wpAnyH_read (i := 13) (d := some 18) (v := .agg (vecC known)) (by rfl) (by rfl) (by kernel_rfl) (by kernel_rfl) (by kernel_rfl) (fun _ _ _ h => h) (by rfl) ?hy4013 (by assumption) ?rest4013
      case hy4013 =>
        intro w hSw
        exact Who.exec_loadA _ rfl rfl (prA_known hSw.2) Tryz.underlying23 rfl info_vec
      try simp only [Act.put, List.setIfInBounds_toArray, List.set_cons_zero, List.set_cons_succ]
      refine wpAnyH_ready (rs := [14]) (by kernel_rfl) (by simp) ?_
      refine AllReadyH.cons rfl (fun K hK => ?_) AllReadyH.nil
      go_simp
      go_at_call 71
      with_reducible refine (HR.out _).mono ?_
      rintro e W2 ⟨rfl, hb⟩
      have HX2 := Lib.hid (hHeld.1.below hb)
      have HP2 := Lib.hid (hHeld.2.below hb)
      have HI2 := Lib.hid (HI1.out.trans (hb.mono HI1.out.size))
      clear hb
      refine hK.out _ _ ⟨HX2.out, HP2.out⟩ (fun hHeld => ?_)
      clear hK K
      try simp only [Act.put, List.setIfInBounds_toArray, List.set_cons_zero, List.set_cons_succ]
      refine Vc.wpAnyH_read (i := 15) (d := some 20) (v := ?v4014) (by rfl) (by rfl) (by kernel_rfl) (by kernel_rfl) (by kernel_rfl) (fun _ _ _ h => h) (by rfl) ?hy4014 (by assumption) ?rest4014
      case hy4014 =>
        intro w hSw
        try dsimp only at hSw
        go_simp
        try with_reducible rfl
      try simp only [Act.put, List.setIfInBounds_toArray, List.set_cons_zero, List.set_cons_succ]
      refine Vc.wpAnyH_read (i := 16) (d := some 21) (v := ?v4015) (by rfl) (by rfl) (by kernel_rfl) (by kernel_rfl) (by kernel_rfl) (fun _ _ _ h => h) (by rfl) ?hy4015 (by assumption) ?rest4015
      case hy4015 =>
        intro w hSw
        try dsimp only at hSw
        go_simp
        try with_reducible rfl
      try simp only [Act.put, List.setIfInBounds_toArray, List.set_cons_zero, List.set_cons_succ]
      refine Vc.wpAnyH_skip (i := 17) (d := some 22) (by rfl) (by rfl) (by kernel_rfl) (by kernel_rfl) (by kernel_rfl) (fun _ _ _ h => h) (by rfl) (by assumption) ?_
      try simp only [Act.put, List.setIfInBounds_toArray, List.set_cons_zero, List.set_cons_succ]
      refine Vc.wpAnyH_skip (i := 18) (d := some 23) (by rfl) (by rfl) (by kernel_rfl) (by kernel_rfl) (by kernel_rfl) (fun _ _ _ h => h) (by rfl) (by assumption) ?_
      try simp only [Act.put, List.setIfInBounds_toArray, List.set_cons_zero, List.set_cons_succ]
      refine Vc.wpAnyH_skip (i := 19) (d := some 24) (by rfl) (by rfl) (by kernel_rfl) (by kernel_rfl) (by kernel_rfl) (fun _ _ _ h => h) (by rfl) (by assumption) ?_
      try simp only [Act.put, List.setIfInBounds_toArray, List.set_cons_zero, List.set_cons_succ]
      refine Vc.wpAnyH_skip (i := 20) (d := some 25) (by rfl) (by rfl) (by kernel_rfl) (by kernel_rfl) (by kernel_rfl) (fun _ _ _ h => h) (by rfl) (by assumption) ?_
      try simp only [Act.put, List.setIfInBounds_toArray, List.set_cons_zero, List.set_cons_succ]
      refine Vc.wpAnyH_skip (i := 21) (d := some 26) (by rfl) (by rfl) (by kernel_rfl) (by kernel_rfl) (by kernel_rfl) (fun _ _ _ h => h) (by rfl) (by assumption) ?_
      try simp only [Act.put, List.setIfInBounds_toArray, List.set_cons_zero, List.set_cons_succ]
      refine Vc.wpAnyH_skip (i := 22) (d := some 27) (by rfl) (by rfl) (by kernel_rfl) (by kernel_rfl) (by kernel_rfl) (fun _ _ _ h => h) (by rfl) (by assumption) ?_
      try simp only [Act.put, List.setIfInBounds_toArray, List.set_cons_zero, List.set_cons_succ]
      refine Vc.wpAnyH_skip (i := 23) (d := some 28) (by rfl) (by rfl) (by kernel_rfl) (by kernel_rfl) (by kernel_rfl) (fun _ _ _ h => h) (by rfl) (by assumption) ?_
      try simp only [Act.put, List.setIfInBounds_toArray, List.set_cons_zero, List.set_cons_succ]
      refine Vc.wpAnyH_read (i := 24) (d := some 29) (v := ?v4023) (by rfl) (by rfl) (by kernel_rfl) (by kernel_rfl) (by kernel_rfl) (fun _ _ _ h => h) (by rfl) ?hy4023 (by assumption) ?rest4023
      case hy4023 =>
        intro w hSw
        try dsimp only at hSw
        go_simp
        try with_reducible rfl
      try simp only [Act.put, List.setIfInBounds_toArray, List.set_cons_zero, List.set_cons_succ]
      refine Vc.wpAnyH_read (i := 25) (d := some 4) (v := ?v4024) (by rfl) (by rfl) (by kernel_rfl) (by kernel_rfl) (by kernel_rfl) (fun _ _ _ h => h) (by rfl) ?hy4024 (by assumption) ?rest4024
      case hy4024 =>
        intro w hSw
        try dsimp only at hSw
        go_simp
        try with_reducible rfl
      try simp only [Act.put, List.setIfInBounds_toArray, List.set_cons_zero, List.set_cons_succ]
      refine wpAnyH_done (by kernel_rfl) ?_ _
      go_wp2
      go_ret
      exact ⟨by first | rfl | simp, HI2.out⟩
    | true =>
      refine wp_region_held_drew (S := fun V => Has V W.heap.size 51 (Fc.linkC l) ∧ Has V g 100 (prA s known mb bb sb)) (by kernel_rfl) ⟨HX0.out.drew, HP0.out.drew⟩ (fun hHeld => ?_)
      have HI0 := Lib.hid HB0.out.drew
      refine Vc.wpAnyH_read (i := 0) (d := some 5) (v := ?v5001) (by rfl) (by rfl) (by kernel_rfl) (by kernel_rfl) (by kernel_rfl) (fun _ _ _ h => h) (by rfl) ?hy5001 (by assumption) ?rest5001
      case hy5001 =>
        intro w hSw
        try dsimp only at hSw
        go_simp
        try with_reducible rfl
      try simp only [Act.put, List.setIfInBounds_toArray, List.set_cons_zero, List.set_cons_succ]
      refine Vc.wpAnyH_read (i := 1) (d := some 6) (v := .agg (vecC l.al)) (by rfl) (by rfl) (by kernel_rfl) (by kernel_rfl) (by kernel_rfl) (fun _ _ _ h => h) (by rfl) ?hy5002 (by assumption) ?rest5002
      case hy5002 =>
        intro w hSw
        exact Who.exec_loadA _ rfl rfl (link_al hSw.1) Tryz.underlying23 rfl info_vec
      try simp only [Act.put, List.setIfInBounds_toArray, List.set_cons_zero, List.set_cons_succ]
      refine Vc.wpAnyH_read (i := 2) (d := some 7) (v := ?v5003) (by rfl) (by rfl) (by kernel_rfl) (by kernel_rfl) (by kernel_rfl) (fun _ _ _ h => h) (by rfl) ?hy5003 (by assumption) ?rest5003
      case hy5003 =>
        intro w hSw
        try dsimp only at hSw
        go_simp
        try with_reducible rfl
      try simp only [Act.put, List.setIfInBounds_toArray, List.set_cons_zero, List.set_cons_succ]
      refine Vc.wpAnyH_read (i := 3) (d := some 8) (v := ?v5004) (by rfl) (by rfl) (by kernel_rfl) (by kernel_rfl) (by kernel_rfl) (fun _ _ _ h => h) (by rfl) ?hy5004 (by assumption) ?rest5004
      case hy5004 =>
        intro w hSw
        try dsimp only at hSw
        go_simp
        try with_reducible rfl
      try simp only [Act.put, List.setIfInBounds_toArray, List.set_cons_zero, List.set_cons_succ]
      refine Vc.wpAnyH_read (i := 4) (d := some 9) (v := ?v5005) (by rfl) (by rfl) (by kernel_rfl) (by kernel_rfl) (by kernel_rfl) (fun _ _ _ h => h) (by rfl) ?hy5005 (by assumption) ?rest5005
      case hy5005 =>
        intro w hSw
        try dsimp only at hSw
        go_simp
        try with_reducible rfl
      try simp only [Act.put, List.setIfInBounds_toArray, List.set_cons_zero, List.set_cons_succ]
      refine Vc.wpAnyH_read (i := 5) (d := some 10) (v := .agg (vecC known)) (by rfl) (by rfl) (by kernel_rfl) (by kernel_rfl) (by kernel_rfl) (fun _ _ _ h => h) (by rfl) ?hy5006 (by assumption) ?rest5006
      case hy5006 =>
        intro w hSw
        exact Who.exec_loadA _ rfl rfl (prA_known hSw.2) Tryz.underlying23 rfl info_vec
      try simp only [Act.put, List.setIfInBounds_toArray, List.set_cons_zero, List.set_cons_succ]
      refine wpAnyH_ready (rs := [6]) (by kernel_rfl) (by simp) ?_
      refine AllReadyH.cons rfl (fun K hK => ?_) AllReadyH.nil
      go_simp
      go_at_call 71
      with_reducible refine (HQ.out _).mono ?_
      rintro e W1 ⟨rfl, hb⟩
      have HX1 := Lib.hid (hHeld.1.below hb)
      have HP1 := Lib.hid (hHeld.2.below hb)
      have HI1 := Lib.hid (HI0.out.trans (hb.mono HI0.out.size))
      clear hb
      refine hK.out _ _ ⟨HX1.out, HP1.out⟩ (fun hHeld => ?_)
      clear hK K
      try simp only [Act.put, List.setIfInBounds_toArray, List.set_cons_zero, List.set_cons_succ]
      refine Vc.wpAnyH_read (i := 7) (d := some 12) (v := ?v5007) (by rfl) (by rfl) (by kernel_rfl) (by kernel_rfl) (by kernel_rfl) (fun _ _ _ h => h) (by rfl) ?hy5007 (by assumption) ?rest5007
      case hy5007 =>
        intro w hSw
        try dsimp only at hSw
        go_simp
        try with_reducible rfl
      try simp only [Act.put, List.setIfInBounds_toArray, List.set_cons_zero, List.set_cons_succ]
      refine Vc.wpAnyH_read (i := 8) (d := some 13) (v := ?v5008) (by rfl) (by rfl) (by kernel_rfl) (by kernel_rfl) (by kernel_rfl) (fun _ _ _ h => h) (by rfl) ?hy5008 (by assumption) ?rest5008
      case hy5008 =>
        intro w hSw
        try dsimp only at hSw
        go_simp
        try with_reducible rfl
      try simp only [Act.put, List.setIfInBounds_toArray, List.set_cons_zero, List.set_cons_succ]
      refine Vc.wpAnyH_read (i := 9) (d := some 14) (v := .agg (vecC l.de)) (by rfl) (by rfl) (by kernel_rfl) (by kernel_rfl) (by kernel_rfl) (fun _ _ _ h => h) (by rfl) ?hy5009 (by assumption) ?rest5009
      case hy5009 =>
        intro w hSw
        exact Who.exec_loadA _ rfl rfl (link_de hSw.1) Tryz.underlying23 rfl info_vec
      try simp only [Act.put, List.setIfInBounds_toArray, List.set_cons_zero, List.set_cons_succ]
      refine Vc.wpAnyH_read (i := 10) (d := some 15) (v := ?v5010) (by rfl) (by rfl) (by kernel_rfl) (by kernel_rfl) (by kernel_rfl) (fun _ _ _ h => h) (by rfl) ?hy5010 (by assumption) ?rest5010
      case hy5010 =>
        intro w hSw
        try dsimp only at hSw
        go_simp
        try with_reducible rfl
      try simp only [Act.put, List.setIfInBounds_toArray, List.set_cons_zero, List.set_cons_succ]
      refine Vc.wpAnyH_read (i := 11) (d := some 16) (v := ?v5011) (by rfl) (by rfl) (by kernel_rfl) (by kernel_rfl) (by kernel_rfl) (fun _ _ _ h => h) (by rfl) ?hy5011 (by assumption) ?rest5011
      case hy5011 =>
        intro w hSw
        try dsimp only at hSw
        go_simp
        try with_reducible rfl
      try simp only [Act.put, List.setIfInBounds_toArray, List.set_cons_zero, List.set_cons_succ]
      refine Vc.wpAnyH_read (i := 12) (d := some 17) (v := ?v5012) (by rfl) (by rfl) (by kernel_rfl) (by kernel_rfl) (by kernel_rfl) (fun _ _ _ h => h) (by rfl) ?hy5012 (by assumption) ?rest5012
      case hy5012 =>
        intro w hSw
        try dsimp only at hSw
        go_simp
        try with_reducible rfl
      try simp only [Act.put, List.setIfInBounds_toArray, List.set_cons_zero, List.set_cons_succ]
      refine Vc.wpAnyH_read (i := 13) (d := some 18) (v := .agg (vecC known)) (by rfl) (by rfl) (by kernel_rfl) (by kernel_rfl) (by kernel_rfl) (fun _ _ _ h => h) (by rfl) ?hy5013 (by assumption) ?rest5013
      case hy5013 =>
        intro w hSw
        exact Who.exec_loadA _ rfl rfl (prA_known hSw.2) Tryz.underlying23 rfl info_vec
      try simp only [Act.put, List.setIfInBounds_toArray, List.set_cons_zero, List.set_cons_succ]
      refine wpAnyH_ready (rs := [14]) (by kernel_rfl) (by simp) ?_
      refine AllReadyH.cons rfl (fun K hK => ?_) AllReadyH.nil
      go_simp
      go_at_call 71
      with_reducible refine (HR.out _).mono ?_
      rintro e W2 ⟨rfl, hb⟩
      have HX2 := Lib.hid (hHeld.1.below hb)
      have HP2 := Lib.hid (hHeld.2.below hb)
      have HI2 := Lib.hid (HI1.out.trans (hb.mono HI1.out.size))
      clear hb
      refine hK.out _ _ ⟨HX2.out, HP2.out⟩ (fun hHeld => ?_)
      clear hK K
      try simp only [Act.put, List.setIfInBounds_toArray, List.set_cons_zero, List.set_cons_succ]
      refine Vc.wpAnyH_read (i := 15) (d := some 20) (v := ?v5014) (by rfl) (by rfl) (by kernel_rfl) (by kernel_rfl) (by kernel_rfl) (fun _ _ _ h => h) (by rfl) ?hy5014 (by assumption) ?rest5014
      case hy5014 =>
        intro w hSw
        try dsimp only at hSw
        go_simp
        try with_reducible rfl
      try simp only [Act.put, List.setIfInBounds_toArray, List.set_cons_zero, List.set_cons_succ]
      refine Vc.wpAnyH_read (i := 16) (d := some 21) (v := ?v5015) (by rfl) (by rfl) (by kernel_rfl) (by kernel_rfl) (by kernel_rfl) (fun _ _ _ h => h) (by rfl) ?hy5015 (by assumption) ?rest5015
      case hy5015 =>
        intro w hSw
        try dsimp only at hSw
        go_simp
        try with_reducible rfl
      try simp only [Act.put, List.setIfInBounds_toArray, List.set_cons_zero, List.set_cons_succ]
      refine Vc.wpAnyH_read (i := 17) (d := some 22) (v := ?v5016) (by rfl) (by rfl) (by kernel_rfl) (by kernel_rfl) (by kernel_rfl) (fun _ _ _ h => h) (by rfl) ?hy5016 (by assumption) ?rest5016
      case hy5016 =>
        intro w hSw
        try dsimp only at hSw
        go_simp
        try with_reducible rfl
      try simp only [Act.put, List.setIfInBounds_toArray, List.set_cons_zero, List.set_cons_succ]
      refine Vc.wpAnyH_read (i := 18) (d := some 23) (v := ?v5017) (by rfl) (by rfl) (by kernel_rfl) (by kernel_rfl) (by kernel_rfl) (fun _ _ _ h => h) (by rfl) ?hy5017 (by assumption) ?rest5017
      case hy5017 =>
        intro w hSw
        try dsimp only at hSw
        go_simp
        try with_reducible rfl
      try simp only [Act.put, List.setIfInBounds_toArray, List.set_cons_zero, List.set_cons_succ]
      refine Vc.wpAnyH_read (i := 19) (d := some 24) (v := ?v5018) (by rfl) (by rfl) (by kernel_rfl) (by kernel_rfl) (by kernel_rfl) (fun _ _ _ h => h) (by rfl) ?hy5018 (by assumption) ?rest5018
      case hy5018 =>
        intro w hSw
        try dsimp only at hSw
        go_simp
        try with_reducible rfl
      try simp only [Act.put, List.setIfInBounds_toArray, List.set_cons_zero, List.set_cons_succ]
      refine Vc.wpAnyH_read (i := 20) (d := some 25) (v := .agg (vecC known)) (by rfl) (by rfl) (by kernel_rfl) (by kernel_rfl) (by kernel_rfl) (fun _ _ _ h => h) (by rfl) ?hy5019 (by assumption) ?rest5019
      case hy5019 =>
        intro w hSw
        exact Who.exec_loadA _ rfl rfl (prA_known hSw.2) Tryz.underlying23 rfl info_vec
      try simp only [Act.put, List.setIfInBounds_toArray, List.set_cons_zero, List.set_cons_succ]
      refine Vc.wpAnyH_read (i := 21) (d := some 26) (v := ?v5020) (by rfl) (by rfl) (by kernel_rfl) (by kernel_rfl) (by kernel_rfl) (fun _ _ _ h => h) (by rfl) ?hy5020 (by assumption) ?rest5020
      case hy5020 =>
        intro w hSw
        try dsimp only at hSw
        go_simp
        try with_reducible rfl
      try simp only [Act.put, List.setIfInBounds_toArray, List.set_cons_zero, List.set_cons_succ]
      refine Vc.wpAnyH_read (i := 22) (d := some 27) (v := .agg #[.int .i64 l.at_.1, .int .i64 l.at_.2]) (by rfl) (by rfl) (by kernel_rfl) (by kernel_rfl) (by kernel_rfl) (fun _ _ _ h => h) (by rfl) ?hy5021 (by assumption) ?rest5021
      case hy5021 =>
        intro w hSw
        exact Who.exec_loadA _ rfl rfl (link_at hSw.1) Tryz.underlying37 rfl info_st
      try simp only [Act.put, List.setIfInBounds_toArray, List.set_cons_zero, List.set_cons_succ]
      refine wpAnyH_ready (rs := [23]) (by kernel_rfl) (by simp) ?_
      refine AllReadyH.cons rfl (fun K hK => ?_) AllReadyH.nil
      go_simp
      go_at_call 69
      with_reducible refine (HH.out _).mono ?_
      rintro e W3 ⟨rfl, hb⟩
      have HX3 := Lib.hid (hHeld.1.below hb)
      have HP3 := Lib.hid (hHeld.2.below hb)
      have HI3 := Lib.hid (HI2.out.trans (hb.mono HI2.out.size))
      clear hb
      refine hK.out _ _ ⟨HX3.out, HP3.out⟩ (fun hHeld => ?_)
      clear hK K
      try simp only [Act.put, List.setIfInBounds_toArray, List.set_cons_zero, List.set_cons_succ]
      refine Vc.wpAnyH_read (i := 24) (d := some 29) (v := ?v5022) (by rfl) (by rfl) (by kernel_rfl) (by kernel_rfl) (by kernel_rfl) (fun _ _ _ h => h) (by rfl) ?hy5022 (by assumption) ?rest5022
      case hy5022 =>
        intro w hSw
        try dsimp only at hSw
        go_simp
        try with_reducible rfl
      try simp only [Act.put, List.setIfInBounds_toArray, List.set_cons_zero, List.set_cons_succ]
      refine Vc.wpAnyH_read (i := 25) (d := some 4) (v := ?v5023) (by rfl) (by rfl) (by kernel_rfl) (by kernel_rfl) (by kernel_rfl) (fun _ _ _ h => h) (by rfl) ?hy5023 (by assumption) ?rest5023
      case hy5023 =>
        intro w hSw
        try dsimp only at hSw
        go_simp
        try with_reducible rfl
      try simp only [Act.put, List.setIfInBounds_toArray, List.set_cons_zero, List.set_cons_succ]
      refine wpAnyH_done (by kernel_rfl) ?_ _
      go_wp2
      go_ret
      exact ⟨by first | rfl | simp, HI3.out⟩
set_option maxRecDepth 100000 in
set_option maxHeartbeats 4000000 in
theorem indexA (s : Fc.StateC) (known : Nat → Int) (g mb bb sb : Nat) (bs : List Nat) (ss : List Bool) (m : Int × Int → Option Value) (w W : World) (hI : PrI w W s known g mb bb sb bs ss m) (hn : s.n2 ≤ 1000000) : Calls Tryz.prog 102 #[.slice s.A2 s.n2 s.c2, .func (.func 61) #[.pointer (some ⟨g, 0, none⟩)] #[]] W fun e W' => (∃ i : Int, e = .returned (.int .i64 i) ∧ decide (0 ≤ i) = s.links.any (movedB known)) ∧ Below W.heap.size W W' := by
  have HI0 := Lib.hid hI
  have HN := Lib.hid hn
  have HLN := Lib.hid (show s.links.length = s.n2 from hI.si.links.row.len)
  have hcf := fun args V => enters (P := Tryz.prog) (f := 61) Tryz.func61 (by rfl) (by rfl) args V
  clear hI hn
  go_enter Tryz.func102, Tryz.ntmps102
  go_wp2
  go_loopw [8] (fun i wr => ∃ j : Nat, i = .int .i64 j ∧ j ≤ s.n2 ∧ Hid (Below W.heap.size W wr) ∧ Hid ((s.links.take j).any (movedB known) = false)) (fun i _ => s.n2 - (intOf i).toNat)
  case atStart => exact ⟨0, rfl, Nat.zero_le _, Lib.hid (Below.refl _ _), Lib.hid rfl⟩
  case round =>
    obtain ⟨j, rfl, hj, HB, HA⟩ := hrel
    by_cases hlt : j < s.n2
    · have HI := Lib.hid (HI0.out.low HB.out)
      obtain ⟨bk, off, hA, hbl, hxj, mr⟩ := (HI.out.si.links.row.below HI.out.below).range (i := j) hlt
      have hxj : j < s.links.length := hxj
      obtain ⟨y, hy⟩ : ∃ y, s.links[j] = y := ⟨_, rfl⟩
      have hA : s.A2 = _ := hA
      have mr : wr.rangeAt bk (off + j * 25) (Fc.linkC (s.links[j])).toList := mr
      rw [hy] at mr
      have MR := Lib.hid mr
      obtain ⟨z, hz⟩ : ∃ z, movedB known y = z := ⟨_, rfl⟩
      have HZ := Lib.hid (show Calls Tryz.prog 61 #[.pointer (some ⟨g, 0, none⟩), .agg (Fc.linkC y)] wr fun e W' => e = .returned (.bool z) ∧ Below wr.heap.size wr W' from by rw [← hz]; exact movedA s known g mb bb sb y wr HI.out.hp)
      have HNX := Lib.hid (show (s.links.take (j + 1)).any (movedB known) = z from by rw [List.take_succ_eq_append_getElem hxj, List.any_append, HA.out, hy]; simp [hz])
      have HXJ := Lib.hid (show y ∈ s.links from by rw [← hy]; exact List.getElem_mem hxj)
      have HZZ := Lib.hid hz
      have hjb : j ≤ 1000000 := Nat.le_trans hj HN.out
      rw [hA]
      clear mr hy hA hbl hxj hz
      go_wp2_with (first | ((with_reducible refine Who.wpList_loadC 51 (.tmp 14) rfl (bk) (off + j * 25) (Fc.linkC y) ?_); refine And.intro ⟨by rfl, by rfl, ⟨_, Tryz.underlying51, rfl⟩, info_link⟩ (And.intro (MR.out) ?_); (try simp only [Act.put, List.setIfInBounds_toArray, List.set_cons_zero, List.set_cons_succ])) | fail)
      refine HZ.out.mono ?_
      rintro e w2 ⟨rfl, hb⟩
      have HB2 := Lib.hid (HB.out.trans (hb.mono HB.out.size))
      clear hb HZ
      cases z with
      | true =>
        go_wp2
        go_ret
        exact ⟨⟨j, rfl, by rw [show s.links.any (movedB known) = true from List.any_eq_true.2 ⟨y, HXJ.out, HZZ.out⟩]; simp⟩, HB2.out⟩
      | false =>
        go_wp2
        go_roundw
        case rel => exact ⟨j + 1, by go_num, by omega, HB2, Lib.hid HNX.out⟩
        case measure => simp [intOf]; omega
    · obtain rfl : s.n2 = j := by omega
      go_wp2
      go_ret
      exact ⟨⟨-1, rfl, by have q := HA.out; rw [← HLN.out, List.take_length] at q; rw [q]; rfl⟩, HB.out⟩
set_option maxRecDepth 100000 in
theorem containsA (s : Fc.StateC) (known : Nat → Int) (g mb bb sb : Nat) (bs : List Nat) (ss : List Bool) (m : Int × Int → Option Value) (w W : World) (hI : PrI w W s known g mb bb sb bs ss m) (hn : s.n2 ≤ 1000000) : Calls Tryz.prog 60 #[.slice s.A2 s.n2 s.c2, .func (.func 61) #[.pointer (some ⟨g, 0, none⟩)] #[]] W fun e W' => e = .returned (.bool (s.links.any (movedB known))) ∧ Below W.heap.size W W' := by
  have HI := Lib.hid (indexA s known g mb bb sb bs ss m w W hI hn)
  clear hI
  go_enter Tryz.func60, Tryz.ntmps60
  go_wp2_with fail
  refine HI.out.mono ?_
  rintro e w2 ⟨⟨i, rfl, hi⟩, hb⟩
  have HB := Lib.hid hb
  have HD := Lib.hid hi
  clear hb hi
  go_wp2
  go_ret
  exact ⟨by rw [← HD.out]; rfl, HB.out⟩
end Go.Proofs.YtblogecapegbmaaGreat.Jn
