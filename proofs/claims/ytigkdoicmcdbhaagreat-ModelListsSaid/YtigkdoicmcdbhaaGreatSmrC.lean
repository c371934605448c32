/- Same of a state, and of an event, and itself; lists of events that are the same. -/
import Derived.Test.YtigkdoicmcdbhaaGreatSmrB
namespace Go.Proofs.YtigkdoicmcdbhaaGreat.Smr
open Go.RowKit Go.Proofs.YtigkdoicmcdbhaaGreat.Mem
open Go.Proofs.YtigkdoicmcdbhaaGreat.Fc (PieceP XattrP LinkP NodeC pieceC xattrC linkC nodeC stateC StateC EventC)
open Go.Proofs.YtigkdoicmcdbhaaGreat.Vc (vecC stC)
set_option linter.unusedVariables false set_option linter.unusedSimpArgs false

theorem rseen {s : StateC} : ∀ j v, (vecC s.seen : Array Value).toList[j]? = some v → (stateC s)[0 + j]? = some v := fun j v hv => by
  match j, hv with
  | 0, hv => exact hv
  | 1, hv => exact hv
  | 2, hv => exact hv
  | 3, hv => exact hv
  | 4, hv => exact hv
  | 5, hv => exact hv
  | 6, hv => exact hv
  | 7, hv => exact hv
  | j + 8, hv => simp [vecC] at hv
theorem rat2 {ev : EventC} : ∀ j v, (#[.int .i64 ev.at_.1, .int .i64 ev.at_.2] : Array Value).toList[j]? = some v → (Fc.eventC ev)[0 + j]? = some v := fun j v hv => by
  match j, hv with
  | 0, hv => exact hv
  | 1, hv => exact hv
  | j + 2, hv => simp [vecC] at hv
theorem rknew {ev : EventC} : ∀ j v, (vecC ev.knew : Array Value).toList[j]? = some v → (Fc.eventC ev)[3 + j]? = some v := fun j v hv => by
  match j, hv with
  | 0, hv => exact hv
  | 1, hv => exact hv
  | 2, hv => exact hv
  | 3, hv => exact hv
  | 4, hv => exact hv
  | 5, hv => exact hv
  | 6, hv => exact hv
  | 7, hv => exact hv
  | j + 8, hv => simp [vecC] at hv
set_option maxRecDepth 100000 in
set_option maxHeartbeats 4000000 in
theorem same_self (s : StateC) (w : World) (h : Fc.StateFit w s) : Calls Tryz.prog 33 #[.agg (stateC s), .agg (stateC s)] w fun e w' => e = .returned (.bool true) ∧ Below w.heap.size w w' := by
  have HB := Lib.hid (Bx2.start w 32 (stateC s))
  have HNS := Lib.hid h.nodes
  have HLS := Lib.hid h.links
  have HF := Lib.hid h.each
  have m1 := h.m1
  have m2 := h.m2
  have HA := Lib.hid HB.out.h1
  have HA2 := Lib.hid HB.out.h2
  have k8 : ((w.alloc (.cells (stateC s) 32)).alloc (.cells (stateC s) 32)).cell? ⟨w.heap.size, 8, none⟩ = some (.slice s.A1 s.n1 s.c1) := HA.out.at_ 8
  have l8 : ((w.alloc (.cells (stateC s) 32)).alloc (.cells (stateC s) 32)).cell? ⟨w.heap.size + 1, 8, none⟩ = some (.slice s.A1 s.n1 s.c1) := HA2.out.at_ 8
  have k9 : ((w.alloc (.cells (stateC s) 32)).alloc (.cells (stateC s) 32)).cell? ⟨w.heap.size, 9, none⟩ = some (.slice s.A2 s.n2 s.c2) := HA.out.at_ 9
  have l9 : ((w.alloc (.cells (stateC s) 32)).alloc (.cells (stateC s) 32)).cell? ⟨w.heap.size + 1, 9, none⟩ = some (.slice s.A2 s.n2 s.c2) := HA2.out.at_ 9
  have e1 := fun W => nref_vec s.seen W
  clear h
  go_enter Tryz.func33, Tryz.ntmps33
  go_wp2_with (first | ((with_reducible refine Who.wpList_loadC 24 (.tmp 7) rfl (w.heap.size) 0 (vecC s.seen) ?_); refine And.intro ⟨by rfl, by rfl, ⟨_, Tryz.underlying24, rfl⟩, Sr.info_vec⟩ (And.intro (rangeOf HA.out 0 _ rseen) ?_); (try simp only [Act.put, List.setIfInBounds_toArray, List.set_cons_zero, List.set_cons_succ])) | ((with_reducible refine Who.wpList_loadC 24 (.tmp 9) rfl (w.heap.size + 1) 0 (vecC s.seen) ?_); refine And.intro ⟨by rfl, by rfl, ⟨_, Tryz.underlying24, rfl⟩, Sr.info_vec⟩ (And.intro (rangeOf HA2.out 0 _ rseen) ?_); (try simp only [Act.put, List.setIfInBounds_toArray, List.set_cons_zero, List.set_cons_succ])) | fail)
  clear k8 k9 l8 l9 e1
  go_loopw [33] (fun i wr => ∃ j : Nat, i = .int .i64 j ∧ j ≤ s.n1 ∧ Hid (Bx2 32 (stateC s) w wr)) (fun i _ => s.n1 - (intOf i).toNat)
  case atStart => exact ⟨0, rfl, Nat.zero_le _, HB⟩
  case round =>
    clear HB
    obtain ⟨j, rfl, hj, HB⟩ := hrel
    by_cases hlt : j < s.n1
    · obtain ⟨b, off, hA, hbl, hx, mr⟩ := HNS.out.range (i := j) hlt
      have HSS := Lib.hid (fun (V : World) (hV : Bx2 32 (stateC s) w V) => show (V.cell? ⟨w.heap.size, 8, none⟩ = some (.slice (some ⟨b, off, none⟩) s.n1 s.c1) ∧ V.cell? ⟨w.heap.size + 1, 8, none⟩ = some (.slice (some ⟨b, off, none⟩) s.n1 s.c1)) ∧ V.rangeAt b (off + j * 13) (nodeC s.nodes[j]).toList from by
      refine ⟨⟨(hV.h1.at_ 8).trans ?_, (hV.h2.at_ 8).trans ?_⟩, Fc.row_range_below mr hV.below hbl⟩
      · show some (Value.slice s.A1 s.n1 s.c1) = _
        rw [hA]
      · show some (Value.slice s.A1 s.n1 s.c1) = _
        rw [hA])
      have HE := Lib.hid (fun (V : World) (hV : Bx2 32 (stateC s) w V) => samenode_self s.nodes[j] V ((HF.out _ (List.getElem_mem hx)).below hV.below))
      generalize s.nodes[j] = y at *
      have HXJ := Lib.hid (Smr.self_row (j := j) (n := s.n1) hlt)
      clear hA mr hx
      go_wp2_with fail
      refine wp_region_held_drew (S := fun V => (V.cell? ⟨w.heap.size, 8, none⟩ = some (.slice (some ⟨b, off, none⟩) s.n1 s.c1) ∧ V.cell? ⟨w.heap.size + 1, 8, none⟩ = some (.slice (some ⟨b, off, none⟩) s.n1 s.c1)) ∧ V.rangeAt b (off + j * 13) (nodeC y).toList) (by kernel_rfl) (HSS.out _ HB.out.drew) (fun hHeld => ?_)
      refine Vc.wpAnyH_read (i := 0) (d := some 36) (v := ?v23) (by rfl) (by rfl) (by kernel_rfl) (by kernel_rfl) (by kernel_rfl) (fun _ _ _ h => h) (by rfl) ?hy23 (by assumption) ?rest23
      case hy23 =>
        intro w hSw
        obtain ⟨⟨s0, s1⟩, s2⟩ := hSw
        go_simp
        try with_reducible rfl
      (try simp only [Act.put, List.setIfInBounds_toArray, List.set_cons_zero, List.set_cons_succ])
      refine Vc.wpAnyH_read (i := 1) (d := some 37) (v := .slice (some ⟨b, off, none⟩) s.n1 s.c1) (by rfl) (by rfl) (by kernel_rfl) (by kernel_rfl) (by kernel_rfl) (fun _ _ _ h => h) (by rfl) ?hy24 (by assumption) ?rest24
      case hy24 =>
        intro w hSw
        obtain ⟨⟨s0, s1⟩, s2⟩ := hSw
        go_simp
        try with_reducible rfl
      (try simp only [Act.put, List.setIfInBounds_toArray, List.set_cons_zero, List.set_cons_succ])
      refine Vc.wpAnyH_read (i := 2) (d := some 38) (v := ?v25) (by rfl) (by rfl) (by kernel_rfl) (by kernel_rfl) (by kernel_rfl) (fun _ _ _ h => h) (by rfl) ?hy25 (by assumption) ?rest25
      case hy25 =>
        intro w hSw
        go_simp
        try with_reducible rfl
      (try simp only [Act.put, List.setIfInBounds_toArray, List.set_cons_zero, List.set_cons_succ])
      refine Vc.wpAnyH_read (i := 3) (d := some 39) (v := .pointer (some ⟨b, off + j * 13, none⟩)) (by rfl) (by rfl) (by kernel_rfl) (by kernel_rfl) (by kernel_rfl) (fun _ _ _ h => h) (by rfl) ?hy26 (by assumption) ?rest26
      case hy26 =>
        intro w hSw
        go_simp
        all_goals first | (rw [if_pos HXJ.out.1, HXJ.out.2]) | (intro hh; exfalso; omega) | (intro hh; exfalso; have hh2 := hh (by omega); omega)
      (try simp only [Act.put, List.setIfInBounds_toArray, List.set_cons_zero, List.set_cons_succ])
      refine Vc.wpAnyH_read (i := 4) (d := some 40) (v := .agg (nodeC y)) (by rfl) (by rfl) (by kernel_rfl) (by kernel_rfl) (by kernel_rfl) (fun _ _ _ h => h) (by rfl) ?hy27 (by assumption) ?rest27
      case hy27 =>
        intro w hSw
        exact Who.exec_loadA _ rfl rfl hSw.2 Tryz.underlying60 rfl Sr.info_inode
      (try simp only [Act.put, List.setIfInBounds_toArray, List.set_cons_zero, List.set_cons_succ])
      refine Vc.wpAnyH_read (i := 5) (d := some 41) (v := ?v28) (by rfl) (by rfl) (by kernel_rfl) (by kernel_rfl) (by kernel_rfl) (fun _ _ _ h => h) (by rfl) ?hy28 (by assumption) ?rest28
      case hy28 =>
        intro w hSw
        obtain ⟨⟨s0, s1⟩, s2⟩ := hSw
        go_simp
        try with_reducible rfl
      (try simp only [Act.put, List.setIfInBounds_toArray, List.set_cons_zero, List.set_cons_succ])
      refine Vc.wpAnyH_read (i := 6) (d := some 42) (v := .slice (some ⟨b, off, none⟩) s.n1 s.c1) (by rfl) (by rfl) (by kernel_rfl) (by kernel_rfl) (by kernel_rfl) (fun _ _ _ h => h) (by rfl) ?hy29 (by assumption) ?rest29
      case hy29 =>
        intro w hSw
        obtain ⟨⟨s0, s1⟩, s2⟩ := hSw
        go_simp
        try with_reducible rfl
      (try simp only [Act.put, List.setIfInBounds_toArray, List.set_cons_zero, List.set_cons_succ])
      refine Vc.wpAnyH_read (i := 7) (d := some 43) (v := ?v30) (by rfl) (by rfl) (by kernel_rfl) (by kernel_rfl) (by kernel_rfl) (fun _ _ _ h => h) (by rfl) ?hy30 (by assumption) ?rest30
      case hy30 =>
        intro w hSw
        go_simp
        try with_reducible rfl
      (try simp only [Act.put, List.setIfInBounds_toArray, List.set_cons_zero, List.set_cons_succ])
      refine Vc.wpAnyH_read (i := 8) (d := some 44) (v := .pointer (some ⟨b, off + j * 13, none⟩)) (by rfl) (by rfl) (by kernel_rfl) (by kernel_rfl) (by kernel_rfl) (fun _ _ _ h => h) (by rfl) ?hy31 (by assumption) ?rest31
      case hy31 =>
        intro w hSw
        go_simp
        all_goals first | (rw [if_pos HXJ.out.1, HXJ.out.2]) | (intro hh; exfalso; omega) | (intro hh; exfalso; have hh2 := hh (by omega); omega)
      (try simp only [Act.put, List.setIfInBounds_toArray, List.set_cons_zero, List.set_cons_succ])
      refine Vc.wpAnyH_read (i := 9) (d := some 45) (v := .agg (nodeC y)) (by rfl) (by rfl) (by kernel_rfl) (by kernel_rfl) (by kernel_rfl) (fun _ _ _ h => h) (by rfl) ?hy32 (by assumption) ?rest32
      case hy32 =>
        intro w hSw
        exact Who.exec_loadA _ rfl rfl hSw.2 Tryz.underlying60 rfl Sr.info_inode
      (try simp only [Act.put, List.setIfInBounds_toArray, List.set_cons_zero, List.set_cons_succ])
      refine wpAnyH_ready (rs := [10]) (by kernel_rfl) (by simp) ?_
      refine AllReadyH.cons rfl (fun K hK => ?_) AllReadyH.nil
      go_simp
      go_at_call 49
      refine (HE.out _ HB.out.drew).mono ?_
      rintro qq w2 ⟨rfl, hb⟩
      have HB2 := Lib.hid (HB.out.drew.low hb)
      clear hb
      refine hK.out _ _ (HSS.out _ HB2.out) (fun hHeld => ?_)
      clear hK K
      (try simp only [Act.put, List.setIfInBounds_toArray, List.set_cons_zero, List.set_cons_succ])
      refine Vc.wpAnyH_read (i := 11) (d := some 47) (v := .bool false) (by rfl) (by rfl) (by kernel_rfl) (by kernel_rfl) (by kernel_rfl) (fun _ _ _ h => h) (by rfl) ?hy33 (by assumption) ?rest33
      case hy33 =>
        intro w hSw
        go_simp
        try with_reducible rfl
      (try simp only [Act.put, List.setIfInBounds_toArray, List.set_cons_zero, List.set_cons_succ])
      refine wpAnyH_done (by kernel_rfl) ?_ _
      go_wp2
      go_roundw
      case rel => exact ⟨j + 1, by go_num, by omega, HB2⟩
      case measure => simp [intOf]; omega
    · have c11 := HB.out.h1.at_ 9
      have HQ := Lib.hid c11
      have q12 : (_ : World).cell? ⟨w.heap.size, 9, none⟩ = some (.slice s.A2 s.n2 s.c2) := HQ.out
      clear c11
      go_wp2
      go_loopw [52] (fun i wr => ∃ j : Nat, i = .int .i64 j ∧ j ≤ s.n2 ∧ Hid (Bx2 32 (stateC s) w wr)) (fun i _ => s.n2 - (intOf i).toNat)
      case atStart => exact ⟨0, rfl, Nat.zero_le _, HB⟩
      case round =>
        clear HB
        obtain ⟨j, rfl, hj, HB⟩ := hrel
        by_cases hlt : j < s.n2
        · obtain ⟨b, off, hA, hbl, hx, mr⟩ := HLS.out.range (i := j) hlt
          have HSS := Lib.hid (fun (V : World) (hV : Bx2 32 (stateC s) w V) => show (V.cell? ⟨w.heap.size, 9, none⟩ = some (.slice (some ⟨b, off, none⟩) s.n2 s.c2) ∧ V.cell? ⟨w.heap.size + 1, 9, none⟩ = some (.slice (some ⟨b, off, none⟩) s.n2 s.c2)) ∧ V.rangeAt b (off + j * 25) (linkC s.links[j]).toList from by
          refine ⟨⟨(hV.h1.at_ 9).trans ?_, (hV.h2.at_ 9).trans ?_⟩, Fc.row_range_below mr hV.below hbl⟩
          · show some (Value.slice s.A2 s.n2 s.c2) = _
            rw [hA]
          · show some (Value.slice s.A2 s.n2 s.c2) = _
            rw [hA])
          generalize s.links[j] = y at *
          have HXJ := Lib.hid (Smr.self_row (j := j) (n := s.n2) hlt)
          have HNR := Lib.hid (fun W => nref_link y W)
          clear hA mr hx
          go_wp2_with fail
          refine wp_region_held_drew (S := fun V => (V.cell? ⟨w.heap.size, 9, none⟩ = some (.slice (some ⟨b, off, none⟩) s.n2 s.c2) ∧ V.cell? ⟨w.heap.size + 1, 9, none⟩ = some (.slice (some ⟨b, off, none⟩) s.n2 s.c2)) ∧ V.rangeAt b (off + j * 25) (linkC y).toList) (by kernel_rfl) (HSS.out _ HB.out.drew) (fun hHeld => ?_)
          refine Vc.wpAnyH_read (i := 0) (d := some 55) (v := ?v34) (by rfl) (by rfl) (by kernel_rfl) (by kernel_rfl) (by kernel_rfl) (fun _ _ _ h => h) (by rfl) ?hy34 (by assumption) ?rest34
          case hy34 =>
            intro w hSw
            obtain ⟨⟨s0, s1⟩, s2⟩ := hSw
            go_simp
            try with_reducible rfl
          (try simp only [Act.put, List.setIfInBounds_toArray, List.set_cons_zero, List.set_cons_succ])
          refine Vc.wpAnyH_read (i := 1) (d := some 56) (v := .slice (some ⟨b, off, none⟩) s.n2 s.c2) (by rfl) (by rfl) (by kernel_rfl) (by kernel_rfl) (by kernel_rfl) (fun _ _ _ h => h) (by rfl) ?hy35 (by assumption) ?rest35
          case hy35 =>
            intro w hSw
            obtain ⟨⟨s0, s1⟩, s2⟩ := hSw
            go_simp
            try with_reducible rfl
          (try simp only [Act.put, List.setIfInBounds_toArray, List.set_cons_zero, List.set_cons_succ])
          refine Vc.wpAnyH_read (i := 2) (d := some 57) (v := ?v36) (by rfl) (by rfl) (by kernel_rfl) (by kernel_rfl) (by kernel_rfl) (fun _ _ _ h => h) (by rfl) ?hy36 (by assumption) ?rest36
          case hy36 =>
            intro w hSw
            go_simp
            try with_reducible rfl
          (try simp only [Act.put, List.setIfInBounds_toArray, List.set_cons_zero, List.set_cons_succ])
          refine Vc.wpAnyH_read (i := 3) (d := some 58) (v := .pointer (some ⟨b, off + j * 25, none⟩)) (by rfl) (by rfl) (by kernel_rfl) (by kernel_rfl) (by kernel_rfl) (fun _ _ _ h => h) (by rfl) ?hy37 (by assumption) ?rest37
          case hy37 =>
            intro w hSw
            go_simp
            all_goals first | (rw [if_pos HXJ.out.1, HXJ.out.2]) | (intro hh; exfalso; omega) | (intro hh; exfalso; have hh2 := hh (by omega); omega)
          (try simp only [Act.put, List.setIfInBounds_toArray, List.set_cons_zero, List.set_cons_succ])
          refine Vc.wpAnyH_read (i := 4) (d := some 59) (v := .agg (linkC y)) (by rfl) (by rfl) (by kernel_rfl) (by kernel_rfl) (by kernel_rfl) (fun _ _ _ h => h) (by rfl) ?hy38 (by assumption) ?rest38
          case hy38 =>
            intro w hSw
            exact Who.exec_loadA _ rfl rfl hSw.2 Tryz.underlying63 rfl Sr.info_link
          (try simp only [Act.put, List.setIfInBounds_toArray, List.set_cons_zero, List.set_cons_succ])
          refine Vc.wpAnyH_read (i := 5) (d := some 60) (v := ?v39) (by rfl) (by rfl) (by kernel_rfl) (by kernel_rfl) (by kernel_rfl) (fun _ _ _ h => h) (by rfl) ?hy39 (by assumption) ?rest39
          case hy39 =>
            intro w hSw
            obtain ⟨⟨s0, s1⟩, s2⟩ := hSw
            go_simp
            try with_reducible rfl
          (try simp only [Act.put, List.setIfInBounds_toArray, List.set_cons_zero, List.set_cons_succ])
          refine Vc.wpAnyH_read (i := 6) (d := some 61) (v := .slice (some ⟨b, off, none⟩) s.n2 s.c2) (by rfl) (by rfl) (by kernel_rfl) (by kernel_rfl) (by kernel_rfl) (fun _ _ _ h => h) (by rfl) ?hy40 (by assumption) ?rest40
          case hy40 =>
            intro w hSw
            obtain ⟨⟨s0, s1⟩, s2⟩ := hSw
            go_simp
            try with_reducible rfl
          (try simp only [Act.put, List.setIfInBounds_toArray, List.set_cons_zero, List.set_cons_succ])
          refine Vc.wpAnyH_read (i := 7) (d := some 62) (v := ?v41) (by rfl) (by rfl) (by kernel_rfl) (by kernel_rfl) (by kernel_rfl) (fun _ _ _ h => h) (by rfl) ?hy41 (by assumption) ?rest41
          case hy41 =>
            intro w hSw
            go_simp
            try with_reducible rfl
          (try simp only [Act.put, List.setIfInBounds_toArray, List.set_cons_zero, List.set_cons_succ])
          refine Vc.wpAnyH_read (i := 8) (d := some 63) (v := .pointer (some ⟨b, off + j * 25, none⟩)) (by rfl) (by rfl) (by kernel_rfl) (by kernel_rfl) (by kernel_rfl) (fun _ _ _ h => h) (by rfl) ?hy42 (by assumption) ?rest42
          case hy42 =>
            intro w hSw
            go_simp
            all_goals first | (rw [if_pos HXJ.out.1, HXJ.out.2]) | (intro hh; exfalso; omega) | (intro hh; exfalso; have hh2 := hh (by omega); omega)
          (try simp only [Act.put, List.setIfInBounds_toArray, List.set_cons_zero, List.set_cons_succ])
          refine Vc.wpAnyH_read (i := 9) (d := some 64) (v := .agg (linkC y)) (by rfl) (by rfl) (by kernel_rfl) (by kernel_rfl) (by kernel_rfl) (fun _ _ _ h => h) (by rfl) ?hy43 (by assumption) ?rest43
          case hy43 =>
            intro w hSw
            exact Who.exec_loadA _ rfl rfl hSw.2 Tryz.underlying63 rfl Sr.info_link
          (try simp only [Act.put, List.setIfInBounds_toArray, List.set_cons_zero, List.set_cons_succ])
          refine Vc.wpAnyH_read (i := 10) (d := some 65) (v := .bool false) (by rfl) (by rfl) (by kernel_rfl) (by kernel_rfl) (by kernel_rfl) (fun _ _ _ h => h) (by rfl) ?hy44 (by assumption) ?rest44
          case hy44 =>
            intro w hSw
            have hnr := HNR.out
            go_simp
            try with_reducible rfl
          (try simp only [Act.put, List.setIfInBounds_toArray, List.set_cons_zero, List.set_cons_succ])
          refine wpAnyH_done (by kernel_rfl) ?_ _
          go_wp2
          go_roundw
          case rel => exact ⟨j + 1, by go_num, by omega, Lib.hid HB.out.drew⟩
          case measure => simp [intOf]; omega
        · go_wp2
          go_ret
          exact ⟨rfl, HB.out.below⟩
set_option maxRecDepth 100000 in
set_option maxHeartbeats 4000000 in
theorem event_self (ev : EventC) (w : World) (h : Fc.StateFit w ev.d) : Calls Tryz.prog 13 #[.agg (Fc.eventC ev), .agg (Fc.eventC ev)] w fun e w' => e = .returned (.bool true) ∧ Below w.heap.size w w' := by
  have HB := Lib.hid (Bx2.start w 34 (Fc.eventC ev))
  have HE := Lib.hid (same_self ev.d _ (h.below HB.out.below))
  have HA := Lib.hid HB.out.h1
  have HA2 := Lib.hid HB.out.h2
  have k2 : ((w.alloc (.cells (Fc.eventC ev) 34)).alloc (.cells (Fc.eventC ev) 34)).cell? ⟨w.heap.size, 2, none⟩ = some (.int .i64 ev.vol) := HA.out.at_ 2
  have l2 : ((w.alloc (.cells (Fc.eventC ev) 34)).alloc (.cells (Fc.eventC ev) 34)).cell? ⟨w.heap.size + 1, 2, none⟩ = some (.int .i64 ev.vol) := HA2.out.at_ 2
  have e1 := fun W => eref_st ev.at_.1 ev.at_.2 W
  have e2 := fun W => eref_vec ev.knew W
  clear h
  go_enter Tryz.func13, Tryz.ntmps13
  go_wp2_with (first | ((with_reducible refine Who.wpList_loadC 26 (.tmp 5) rfl (w.heap.size) 0 (#[.int .i64 ev.at_.1, .int .i64 ev.at_.2]) ?_); refine And.intro ⟨by rfl, by rfl, ⟨_, Tryz.underlying26, rfl⟩, Sr.info_st⟩ (And.intro (rangeOf HA.out 0 _ rat2) ?_); (try simp only [Act.put, List.setIfInBounds_toArray, List.set_cons_zero, List.set_cons_succ])) | ((with_reducible refine Who.wpList_loadC 26 (.tmp 7) rfl (w.heap.size + 1) 0 (#[.int .i64 ev.at_.1, .int .i64 ev.at_.2]) ?_); refine And.intro ⟨by rfl, by rfl, ⟨_, Tryz.underlying26, rfl⟩, Sr.info_st⟩ (And.intro (rangeOf HA2.out 0 _ rat2) ?_); (try simp only [Act.put, List.setIfInBounds_toArray, List.set_cons_zero, List.set_cons_succ])) | ((with_reducible refine Who.wpList_loadC 24 (.tmp 18) rfl (w.heap.size) 3 (vecC ev.knew) ?_); refine And.intro ⟨by rfl, by rfl, ⟨_, Tryz.underlying24, rfl⟩, Sr.info_vec⟩ (And.intro (rangeOf HA.out 3 _ rknew) ?_); (try simp only [Act.put, List.setIfInBounds_toArray, List.set_cons_zero, List.set_cons_succ])) | ((with_reducible refine Who.wpList_loadC 24 (.tmp 20) rfl (w.heap.size + 1) 3 (vecC ev.knew) ?_); refine And.intro ⟨by rfl, by rfl, ⟨_, Tryz.underlying24, rfl⟩, Sr.info_vec⟩ (And.intro (rangeOf HA2.out 3 _ rknew) ?_); (try simp only [Act.put, List.setIfInBounds_toArray, List.set_cons_zero, List.set_cons_succ])) | ((with_reducible refine Who.wpList_loadC 32 (.tmp 25) rfl (w.heap.size) 11 (stateC ev.d) ?_); refine And.intro ⟨by rfl, by rfl, ⟨_, Tryz.underlying32, rfl⟩, Sr.info_state⟩ (And.intro (Sr.state_range HA.out) ?_); (try simp only [Act.put, List.setIfInBounds_toArray, List.set_cons_zero, List.set_cons_succ])) | ((with_reducible refine Who.wpList_loadC 32 (.tmp 27) rfl (w.heap.size + 1) 11 (stateC ev.d) ?_); refine And.intro ⟨by rfl, by rfl, ⟨_, Tryz.underlying32, rfl⟩, Sr.info_state⟩ (And.intro (Sr.state_range HA2.out) ?_); (try simp only [Act.put, List.setIfInBounds_toArray, List.set_cons_zero, List.set_cons_succ])) | fail)
  refine HE.out.mono ?_
  rintro e w2 ⟨rfl, hb⟩
  have HB2 := Lib.hid (HB.out.below.trans (hb.mono HB.out.below.size))
  clear hb
  go_wp2
  go_ret
  exact ⟨rfl, HB2.out⟩
set_option maxRecDepth 100000 in
set_option maxHeartbeats 4000000 in
theorem sames_self (A A2 : Option Addr) (n c c2 : Nat) (es : List EventC) (hn : n ≤ 9223372036854775807) (w : World) (h1 : Fc.SRow w 21 Fc.eventC A n es) (h2 : Fc.SRow w 21 Fc.eventC A2 n es) (hf : ∀ e ∈ es, Fc.StateFit w e.d) : Calls Tryz.prog 8 #[.slice A n c, .slice A2 n c2] w fun e w' => e = .returned (.bool true) ∧ Below w.heap.size w w' := by
  have HR := Lib.hid h1
  have HR2 := Lib.hid h2
  have HF := Lib.hid hf
  clear h1 h2 hf
  go_enter Tryz.func8, Tryz.ntmps8
  go_wp2
  go_loopw [13] (fun i wr => ∃ j : Nat, i = .int .i64 j ∧ j ≤ n ∧ Hid (Below w.heap.size w wr)) (fun i _ => n - (intOf i).toNat)
  case atStart => exact ⟨0, rfl, Nat.zero_le _, Lib.hid (Below.refl _ _)⟩
  case round =>
    obtain ⟨j, rfl, hj, HB⟩ := hrel
    by_cases hlt : j < n
    · obtain ⟨b, off, rfl, hbl, hx, mr⟩ := HR.out.range (i := j) hlt
      obtain ⟨b2, off2, rfl, hbl2, hx2, mr2⟩ := HR2.out.range (i := j) hlt
      have HSS := Lib.hid (fun (V : World) (hV : Below w.heap.size w V) => show V.rangeAt b (off + j * 21) (Fc.eventC es[j]).toList ∧ V.rangeAt b2 (off2 + j * 21) (Fc.eventC es[j]).toList from ⟨Fc.row_range_below mr hV hbl, Fc.row_range_below mr2 hV hbl2⟩)
      have HE := Lib.hid (fun (V : World) (hV : Below w.heap.size w V) => event_self es[j] V ((HF.out _ (List.getElem_mem hx)).below hV))
      generalize es[j] = y at *
      have HXJ := Lib.hid (self_row (j := j) (n := n) hlt)
      clear mr mr2 hx hx2
      go_wp2_with fail
      refine wp_region_held_drew (S := fun V => V.rangeAt b (off + j * 21) (Fc.eventC y).toList ∧ V.rangeAt b2 (off2 + j * 21) (Fc.eventC y).toList) (by kernel_rfl) (HSS.out _ HB.out.drew) (fun hHeld => ?_)
      refine Vc.wpAnyH_read (i := 0) (d := some 16) (v := ?v45) (by rfl) (by rfl) (by kernel_rfl) (by kernel_rfl) (by kernel_rfl) (fun _ _ _ h => h) (by rfl) ?hy45 (by assumption) ?rest45
      case hy45 =>
        intro w hSw
        go_simp
        try with_reducible rfl
      (try simp only [Act.put, List.setIfInBounds_toArray, List.set_cons_zero, List.set_cons_succ])
      refine Vc.wpAnyH_read (i := 1) (d := some 17) (v := ?v46) (by rfl) (by rfl) (by kernel_rfl) (by kernel_rfl) (by kernel_rfl) (fun _ _ _ h => h) (by rfl) ?hy46 (by assumption) ?rest46
      case hy46 =>
        intro w hSw
        go_simp
        try with_reducible rfl
      (try simp only [Act.put, List.setIfInBounds_toArray, List.set_cons_zero, List.set_cons_succ])
      refine Vc.wpAnyH_read (i := 2) (d := some 18) (v := .pointer (some ⟨b, off + j * 21, none⟩)) (by rfl) (by rfl) (by kernel_rfl) (by kernel_rfl) (by kernel_rfl) (fun _ _ _ h => h) (by rfl) ?hy47 (by assumption) ?rest47
      case hy47 =>
        intro w hSw
        go_simp
        all_goals first | (rw [if_pos HXJ.out.1, HXJ.out.2]) | (intro hh; exfalso; omega) | (intro hh; exfalso; have hh2 := hh (by omega); omega)
      (try simp only [Act.put, List.setIfInBounds_toArray, List.set_cons_zero, List.set_cons_succ])
      refine Vc.wpAnyH_read (i := 3) (d := some 19) (v := .agg (Fc.eventC y)) (by rfl) (by rfl) (by kernel_rfl) (by kernel_rfl) (by kernel_rfl) (fun _ _ _ h => h) (by rfl) ?hy48 (by assumption) ?rest48
      case hy48 =>
        intro w hSw
        exact Who.exec_loadA _ rfl rfl hSw.1 Tryz.underlying34 rfl Sr.info_event
      (try simp only [Act.put, List.setIfInBounds_toArray, List.set_cons_zero, List.set_cons_succ])
      refine Vc.wpAnyH_read (i := 4) (d := some 20) (v := ?v49) (by rfl) (by rfl) (by kernel_rfl) (by kernel_rfl) (by kernel_rfl) (fun _ _ _ h => h) (by rfl) ?hy49 (by assumption) ?rest49
      case hy49 =>
        intro w hSw
        go_simp
        try with_reducible rfl
      (try simp only [Act.put, List.setIfInBounds_toArray, List.set_cons_zero, List.set_cons_succ])
      refine Vc.wpAnyH_read (i := 5) (d := some 21) (v := ?v50) (by rfl) (by rfl) (by kernel_rfl) (by kernel_rfl) (by kernel_rfl) (fun _ _ _ h => h) (by rfl) ?hy50 (by assumption) ?rest50
      case hy50 =>
        intro w hSw
        go_simp
        try with_reducible rfl
      (try simp only [Act.put, List.setIfInBounds_toArray, List.set_cons_zero, List.set_cons_succ])
      refine Vc.wpAnyH_read (i := 6) (d := some 22) (v := .pointer (some ⟨b2, off2 + j * 21, none⟩)) (by rfl) (by rfl) (by kernel_rfl) (by kernel_rfl) (by kernel_rfl) (fun _ _ _ h => h) (by rfl) ?hy51 (by assumption) ?rest51
      case hy51 =>
        intro w hSw
        go_simp
        all_goals first | (rw [if_pos HXJ.out.1, HXJ.out.2]) | (intro hh; exfalso; omega) | (intro hh; exfalso; have hh2 := hh (by omega); omega)
      (try simp only [Act.put, List.setIfInBounds_toArray, List.set_cons_zero, List.set_cons_succ])
      refine Vc.wpAnyH_read (i := 7) (d := some 23) (v := .agg (Fc.eventC y)) (by rfl) (by rfl) (by kernel_rfl) (by kernel_rfl) (by kernel_rfl) (fun _ _ _ h => h) (by rfl) ?hy52 (by assumption) ?rest52
      case hy52 =>
        intro w hSw
        exact Who.exec_loadA _ rfl rfl hSw.2 Tryz.underlying34 rfl Sr.info_event
      (try simp only [Act.put, List.setIfInBounds_toArray, List.set_cons_zero, List.set_cons_succ])
      refine wpAnyH_ready (rs := [8]) (by kernel_rfl) (by simp) ?_
      refine AllReadyH.cons rfl (fun K hK => ?_) AllReadyH.nil
      go_simp
      go_at_call 13
      refine (HE.out _ HB.out.drew).mono ?_
      rintro qq w2 ⟨rfl, hb⟩
      have HB2 := Lib.hid (HB.out.drew.trans (hb.mono HB.out.drew.size))
      clear hb
      refine hK.out _ _ (HSS.out _ HB2.out) (fun hHeld => ?_)
      clear hK K
      (try simp only [Act.put, List.setIfInBounds_toArray, List.set_cons_zero, List.set_cons_succ])
      refine Vc.wpAnyH_read (i := 9) (d := some 25) (v := .bool false) (by rfl) (by rfl) (by kernel_rfl) (by kernel_rfl) (by kernel_rfl) (fun _ _ _ h => h) (by rfl) ?hy53 (by assumption) ?rest53
      case hy53 =>
        intro w hSw
        go_simp
        try with_reducible rfl
      (try simp only [Act.put, List.setIfInBounds_toArray, List.set_cons_zero, List.set_cons_succ])
      refine wpAnyH_done (by kernel_rfl) ?_ _
      go_wp2
      go_roundw
      case rel => exact ⟨j + 1, by go_num, by omega, HB2⟩
      case measure => simp [intOf]; omega
    · go_wp2
      go_ret
      exact ⟨rfl, HB.out⟩
end Go.Proofs.YtigkdoicmcdbhaaGreat.Smr
