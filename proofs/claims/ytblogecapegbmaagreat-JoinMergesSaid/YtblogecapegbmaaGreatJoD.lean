/- The document's Same, of the same state in two places. -/
import Derived.Test.YtblogecapegbmaaGreatJoC
import Derived.Test.YtblogecapegbmaaGreatJnRow
namespace Go.Proofs.YtblogecapegbmaaGreat.Jn
open Go.RowKit Go.Proofs.YtblogecapegbmaaGreat.Mem
open Go.Proofs.YtblogecapegbmaaGreat.Fc (PieceP XattrP LinkP NodeC pieceC xattrC linkC nodeC stateC StateC)
open Go.Proofs.YtblogecapegbmaaGreat.Vc (vecC stC)
set_option linter.unusedVariables false set_option linter.unusedSimpArgs false

theorem rseen {s : StateC} : ∀ j v, (vecC s.seen : Array Value).toList[j]? = some v → (stateC s)[0 + j]? = some v := fun j v hv => by
 match j, hv with
 | 0, hv => exact hv
 | 1, hv => exact hv
 | 2, hv => exact hv
 | 3, hv => exact hv
 | 4, hv => exact hv
 | 5, hv => exact hv
 | 6, hv => exact hv
 | 7, hv => exact hv
 | j + 8, hv => simp [vecC] at hv
/-- The same state, its rows elsewhere. -/
def stY (s : StateC) (B1 B2 : Option Addr) (d1 d2 : Nat) (ns : List NodeC) : StateC := ⟨s.seen, B1, s.n1, d1, B2, s.n2, d2, ns, s.links⟩
theorem node_yes (y z : NodeC) (w : World) (hy : Fc.NodeRow w y) (hz : Fc.NodeRow w z) (e : z.p = y.p) : Calls Tryz.prog 45 #[.agg (nodeC y), .agg (nodeC z)] w fun e w' => e = .returned (.bool true) ∧ Below w.heap.size w w' := by
 have h1 : z.n1 = y.n1 := by have a := hy.ps.len; have b := hz.ps.len; rw [e] at b; omega
 have h2 : z.n2 = y.n2 := by have a := hy.xs.len; have b := hz.xs.len; rw [e] at b; omega
 have ez : atY y z.A1 z.A2 z.c1 z.c2 = z := by
  obtain ⟨p, A1, n1, c1, A2, n2, c2⟩ := z
  simp only at e h1 h2
  unfold atY
  rw [← e, ← h1, ← h2]
 have h := samenode_yes y z.A1 z.A2 z.c1 z.c2 w hy.ps hy.xs (by have q := hz.ps; rw [h1, e] at q; exact q) (by have q := hz.xs; rw [h2, e] at q; exact q) hy.m1 hy.m2
 rw [ez] at h
 exact h
theorem map_at {l k : List NodeC} (h : k.map NodeC.p = l.map NodeC.p) {j : Nat} (h1 : j < l.length) (h2 : j < k.length) : (k[j]).p = (l[j]).p := by
 have := congrArg (fun q => q[j]?) h
 simpa [h1, h2] using this
set_option maxRecDepth 100000 in
set_option maxHeartbeats 4000000 in
theorem samestate_yes (s : StateC) (B1 B2 : Option Addr) (d1 d2 : Nat) (ns : List NodeC) (w : World) (h : Fc.StateRow w s) (hn2 : Fc.SRow w 13 nodeC B1 s.n1 ns) (hl2 : Fc.SRow w 25 linkC B2 s.n2 s.links) (he2 : ∀ x ∈ ns, Fc.NodeRow w x) (hns : ns.map NodeC.p = s.nodes.map NodeC.p) : Calls Tryz.prog 15 #[.agg (stateC s), .agg (stateC (stY s B1 B2 d1 d2 ns))] w fun e w' => e = .returned (.bool true) ∧ Below w.heap.size w w' := by
 have HB := Lib.hid (Bx2.start w 27 (stateC s) (stateC (stY s B1 B2 d1 d2 ns)))
 have HNS := Lib.hid h.nodes
 have HLS := Lib.hid h.links
 have HNS2 := Lib.hid hn2
 have HLS2 := Lib.hid hl2
 have HF2 := Lib.hid he2
 have HMP := Lib.hid hns
 have HF := Lib.hid h.each
 have m1 := h.m1
 have m2 := h.m2
 have HA := Lib.hid HB.out.h1
 have HA2 := Lib.hid HB.out.h2
 have k8 : ((w.alloc (.cells (stateC s) 27)).alloc (.cells (stateC (stY s B1 B2 d1 d2 ns)) 27)).cell? ⟨w.heap.size, 8, none⟩ = some (.slice s.A1 s.n1 s.c1) := HA.out.at_ 8
 have l8 : ((w.alloc (.cells (stateC s) 27)).alloc (.cells (stateC (stY s B1 B2 d1 d2 ns)) 27)).cell? ⟨w.heap.size + 1, 8, none⟩ = some (.slice B1 s.n1 d1) := HA2.out.at_ 8
 have k9 : ((w.alloc (.cells (stateC s) 27)).alloc (.cells (stateC (stY s B1 B2 d1 d2 ns)) 27)).cell? ⟨w.heap.size, 9, none⟩ = some (.slice s.A2 s.n2 s.c2) := HA.out.at_ 9
 have l9 : ((w.alloc (.cells (stateC s) 27)).alloc (.cells (stateC (stY s B1 B2 d1 d2 ns)) 27)).cell? ⟨w.heap.size + 1, 9, none⟩ = some (.slice B2 s.n2 d2) := HA2.out.at_ 9
 have e1 := fun W => nref_vec s.seen W
 clear h hn2 hl2 he2 hns
 go_enter Tryz.func15, Tryz.ntmps15
 go_wp2_with (first | ((with_reducible refine Who.wpList_loadC 23 (.tmp 7) rfl (w.heap.size) 0 (vecC s.seen) ?_); refine And.intro ⟨by rfl, by rfl, ⟨_, Tryz.underlying23, rfl⟩, info_vec⟩ (And.intro (rangeOf HA.out 0 _ rseen) ?_); (try simp only [Act.put, List.setIfInBounds_toArray, List.set_cons_zero, List.set_cons_succ])) | ((with_reducible refine Who.wpList_loadC 23 (.tmp 9) rfl (w.heap.size + 1) 0 (vecC s.seen) ?_); refine And.intro ⟨by rfl, by rfl, ⟨_, Tryz.underlying23, rfl⟩, info_vec⟩ (And.intro (rangeOf HA2.out 0 _ (rseen (s := stY s B1 B2 d1 d2 ns))) ?_); (try simp only [Act.put, List.setIfInBounds_toArray, List.set_cons_zero, List.set_cons_succ])) | fail)
 clear k8 k9 l8 l9 e1
 go_loopw [33] (fun i wr => ∃ j : Nat, i = .int .i64 j ∧ j ≤ s.n1 ∧ Hid (Bx2 27 (stateC s) (stateC (stY s B1 B2 d1 d2 ns)) w wr)) (fun i _ => s.n1 - (intOf i).toNat)
 case atStart => exact ⟨0, rfl, Nat.zero_le _, HB⟩
 case round =>
  clear HB
  obtain ⟨j, rfl, hj, HB⟩ := hrel
  by_cases hlt : j < s.n1
  ·obtain ⟨b, off, hA, hbl, hx, mr⟩ := HNS.out.range (i := j) hlt
   obtain ⟨b', off', hA', hbl', hx', mr0⟩ := HNS2.out.range (i := j) hlt
   have mr' : w.rangeAt b' (off' + j * 13) (nodeC ns[j]).toList := mr0
   clear mr0
   have HPP := Lib.hid (map_at HMP.out hx hx')
   have HSS := Lib.hid (fun (V : World) (hV : Bx2 27 (stateC s) (stateC (stY s B1 B2 d1 d2 ns)) w V) => show (V.cell? ⟨w.heap.size, 8, none⟩ = some (.slice (some ⟨b, off, none⟩) s.n1 s.c1) ∧ V.cell? ⟨w.heap.size + 1, 8, none⟩ = some (.slice (some ⟨b', off', none⟩) s.n1 d1)) ∧ V.rangeAt b (off + j * 13) (nodeC s.nodes[j]).toList ∧ V.rangeAt b' (off' + j * 13) (nodeC ns[j]).toList from by
   refine ⟨⟨(hV.h1.at_ 8).trans ?_, (hV.h2.at_ 8).trans ?_⟩, Fc.row_range_below mr hV.below hbl, Fc.row_range_below mr' hV.below hbl'⟩
   ·show some (Value.slice s.A1 s.n1 s.c1) = _
    rw [hA]
   ·show some (Value.slice B1 s.n1 d1) = _
    rw [hA'])
   have HE := Lib.hid (fun (V : World) (hV : Bx2 27 (stateC s) (stateC (stY s B1 B2 d1 d2 ns)) w V) => node_yes s.nodes[j] ns[j] V ((HF.out _ (List.getElem_mem hx)).below hV.below) ((HF2.out _ (List.getElem_mem hx')).below hV.below) HPP.out)
   generalize s.nodes[j] = y at *
   generalize ns[j] = z at *
   have HXJ := Lib.hid (self_row' (j := j) (n := s.n1) hlt)
   clear hA mr hx hA' mr' hx'
   go_wp2_with fail
   refine wp_region_held_drew (S := fun V => (V.cell? ⟨w.heap.size, 8, none⟩ = some (.slice (some ⟨b, off, none⟩) s.n1 s.c1) ∧ V.cell? ⟨w.heap.size + 1, 8, none⟩ = some (.slice (some ⟨b', off', none⟩) s.n1 d1)) ∧ V.rangeAt b (off + j * 13) (nodeC y).toList ∧ V.rangeAt b' (off' + j * 13) (nodeC z).toList) (by kernel_rfl) (HSS.out _ HB.out.drew) (fun hHeld => ?_)
   refine Vc.wpAnyH_rd (i := 0) (d := some 36) (v := ?v23) ?hy23 ?rest23
   case hy23 =>
    intro w hSw
    obtain ⟨⟨s0, s1⟩, s2⟩ := hSw
    go_simp
    try with_reducible rfl
   (try simp only [Act.put, List.setIfInBounds_toArray, List.set_cons_zero, List.set_cons_succ])
   refine Vc.wpAnyH_rd (i := 1) (d := some 37) (v := .slice (some ⟨b, off, none⟩) s.n1 s.c1) ?hy24 ?rest24
   case hy24 =>
    intro w hSw
    obtain ⟨⟨s0, s1⟩, s2⟩ := hSw
    go_simp
    try with_reducible rfl
   (try simp only [Act.put, List.setIfInBounds_toArray, List.set_cons_zero, List.set_cons_succ])
   refine Vc.wpAnyH_rd (i := 2) (d := some 38) (v := ?v25) ?hy25 ?rest25
   case hy25 =>
    intro w hSw
    go_simp
    try with_reducible rfl
   (try simp only [Act.put, List.setIfInBounds_toArray, List.set_cons_zero, List.set_cons_succ])
   refine Vc.wpAnyH_rd (i := 3) (d := some 39) (v := .pointer (some ⟨b, off + j * 13, none⟩)) ?hy26 ?rest26
   case hy26 =>
    intro w hSw
    go_simp
    all_goals first | (rw [if_pos HXJ.out.1, HXJ.out.2]) | (intro hh; exfalso; omega) | (intro hh; exfalso; have hh2 := hh (by omega); omega)
   (try simp only [Act.put, List.setIfInBounds_toArray, List.set_cons_zero, List.set_cons_succ])
   refine Vc.wpAnyH_rd (i := 4) (d := some 40) (v := .agg (nodeC y)) ?hy27 ?rest27
   case hy27 =>
    intro w hSw
    exact Who.exec_loadA _ rfl rfl hSw.2.1 Tryz.underlying46 rfl infoN
   (try simp only [Act.put, List.setIfInBounds_toArray, List.set_cons_zero, List.set_cons_succ])
   refine Vc.wpAnyH_rd (i := 5) (d := some 41) (v := ?v28) ?hy28 ?rest28
   case hy28 =>
    intro w hSw
    obtain ⟨⟨s0, s1⟩, s2⟩ := hSw
    go_simp
    try with_reducible rfl
   (try simp only [Act.put, List.setIfInBounds_toArray, List.set_cons_zero, List.set_cons_succ])
   refine Vc.wpAnyH_rd (i := 6) (d := some 42) (v := .slice (some ⟨b', off', none⟩) s.n1 d1) ?hy29 ?rest29
   case hy29 =>
    intro w hSw
    obtain ⟨⟨s0, s1⟩, s2⟩ := hSw
    go_simp
    try with_reducible rfl
   (try simp only [Act.put, List.setIfInBounds_toArray, List.set_cons_zero, List.set_cons_succ])
   refine Vc.wpAnyH_rd (i := 7) (d := some 43) (v := ?v30) ?hy30 ?rest30
   case hy30 =>
    intro w hSw
    go_simp
    try with_reducible rfl
   (try simp only [Act.put, List.setIfInBounds_toArray, List.set_cons_zero, List.set_cons_succ])
   refine Vc.wpAnyH_rd (i := 8) (d := some 44) (v := .pointer (some ⟨b', off' + j * 13, none⟩)) ?hy31 ?rest31
   case hy31 =>
    intro w hSw
    go_simp
    all_goals first | (rw [if_pos HXJ.out.1, HXJ.out.2]) | (intro hh; exfalso; omega) | (intro hh; exfalso; have hh2 := hh (by omega); omega)
   (try simp only [Act.put, List.setIfInBounds_toArray, List.set_cons_zero, List.set_cons_succ])
   refine Vc.wpAnyH_rd (i := 9) (d := some 45) (v := .agg (nodeC z)) ?hy32 ?rest32
   case hy32 =>
    intro w hSw
    exact Who.exec_loadA _ rfl rfl hSw.2.2 Tryz.underlying46 rfl infoN
   (try simp only [Act.put, List.setIfInBounds_toArray, List.set_cons_zero, List.set_cons_succ])
   refine wpAnyH_ready (rs := [10]) (by kernel_rfl) (by simp) ?_
   refine AllReadyH.cons rfl (fun K hK => ?_) AllReadyH.nil
   go_simp
   go_at_call 45
   refine (HE.out _ HB.out.drew).mono ?_
   rintro qq w2 ⟨rfl, hb⟩
   have HB2 := Lib.hid (HB.out.drew.low hb)
   clear hb
   refine hK.out _ _ (HSS.out _ HB2.out) (fun hHeld => ?_)
   clear hK K
   (try simp only [Act.put, List.setIfInBounds_toArray, List.set_cons_zero, List.set_cons_succ])
   refine Vc.wpAnyH_rd (i := 11) (d := some 47) (v := .bool false) ?hy33 ?rest33
   case hy33 =>
    intro w hSw
    go_simp
    try with_reducible rfl
   (try simp only [Act.put, List.setIfInBounds_toArray, List.set_cons_zero, List.set_cons_succ])
   refine wpAnyH_done (by kernel_rfl) ?_ _
   go_wp2
   go_roundw
   case rel => exact ⟨j + 1, by go_num, by omega, HB2⟩
   case measure => simp [intOf]; omega
  ·have c11 := HB.out.h1.at_ 9
   have HQ := Lib.hid c11
   have q12 : (_ : World).cell? ⟨w.heap.size, 9, none⟩ = some (.slice s.A2 s.n2 s.c2) := HQ.out
   clear c11
   go_wp2
   go_loopw [52] (fun i wr => ∃ j : Nat, i = .int .i64 j ∧ j ≤ s.n2 ∧ Hid (Bx2 27 (stateC s) (stateC (stY s B1 B2 d1 d2 ns)) w wr)) (fun i _ => s.n2 - (intOf i).toNat)
   case atStart => exact ⟨0, rfl, Nat.zero_le _, HB⟩
   case round =>
    clear HB
    obtain ⟨j, rfl, hj, HB⟩ := hrel
    by_cases hlt : j < s.n2
    ·obtain ⟨b, off, hA, hbl, hx, mr⟩ := HLS.out.range (i := j) hlt
     obtain ⟨b', off', hA', hbl', hx', mr0⟩ := HLS2.out.range (i := j) hlt
     have mr' : w.rangeAt b' (off' + j * 25) (linkC s.links[j]).toList := mr0
     clear mr0
     have HSS := Lib.hid (fun (V : World) (hV : Bx2 27 (stateC s) (stateC (stY s B1 B2 d1 d2 ns)) w V) => show (V.cell? ⟨w.heap.size, 9, none⟩ = some (.slice (some ⟨b, off, none⟩) s.n2 s.c2) ∧ V.cell? ⟨w.heap.size + 1, 9, none⟩ = some (.slice (some ⟨b', off', none⟩) s.n2 d2)) ∧ V.rangeAt b (off + j * 25) (linkC s.links[j]).toList ∧ V.rangeAt b' (off' + j * 25) (linkC s.links[j]).toList from by
     refine ⟨⟨(hV.h1.at_ 9).trans ?_, (hV.h2.at_ 9).trans ?_⟩, Fc.row_range_below mr hV.below hbl, Fc.row_range_below mr' hV.below hbl'⟩
     ·show some (Value.slice s.A2 s.n2 s.c2) = _
      rw [hA]
     ·show some (Value.slice B2 s.n2 d2) = _
      rw [hA'])
     generalize s.links[j] = y at *
     have HXJ := Lib.hid (self_row' (j := j) (n := s.n2) hlt)
     have HNR := Lib.hid (fun W => nref_link y W)
     clear hA mr hx hA' mr' hx'
     go_wp2_with fail
     refine wp_region_held_drew (S := fun V => (V.cell? ⟨w.heap.size, 9, none⟩ = some (.slice (some ⟨b, off, none⟩) s.n2 s.c2) ∧ V.cell? ⟨w.heap.size + 1, 9, none⟩ = some (.slice (some ⟨b', off', none⟩) s.n2 d2)) ∧ V.rangeAt b (off + j * 25) (linkC y).toList ∧ V.rangeAt b' (off' + j * 25) (linkC y).toList) (by kernel_rfl) (HSS.out _ HB.out.drew) (fun hHeld => ?_)
     refine Vc.wpAnyH_rd (i := 0) (d := some 55) (v := ?v34) ?hy34 ?rest34
     case hy34 =>
      intro w hSw
      obtain ⟨⟨s0, s1⟩, s2⟩ := hSw
      go_simp
      try with_reducible rfl
     (try simp only [Act.put, List.setIfInBounds_toArray, List.set_cons_zero, List.set_cons_succ])
     refine Vc.wpAnyH_rd (i := 1) (d := some 56) (v := .slice (some ⟨b, off, none⟩) s.n2 s.c2) ?hy35 ?rest35
     case hy35 =>
      intro w hSw
      obtain ⟨⟨s0, s1⟩, s2⟩ := hSw
      go_simp
      try with_reducible rfl
     (try simp only [Act.put, List.setIfInBounds_toArray, List.set_cons_zero, List.set_cons_succ])
     refine Vc.wpAnyH_rd (i := 2) (d := some 57) (v := ?v36) ?hy36 ?rest36
     case hy36 =>
      intro w hSw
      go_simp
      try with_reducible rfl
     (try simp only [Act.put, List.setIfInBounds_toArray, List.set_cons_zero, List.set_cons_succ])
     refine Vc.wpAnyH_rd (i := 3) (d := some 58) (v := .pointer (some ⟨b, off + j * 25, none⟩)) ?hy37 ?rest37
     case hy37 =>
      intro w hSw
      go_simp
      all_goals first | (rw [if_pos HXJ.out.1, HXJ.out.2]) | (intro hh; exfalso; omega) | (intro hh; exfalso; have hh2 := hh (by omega); omega)
     (try simp only [Act.put, List.setIfInBounds_toArray, List.set_cons_zero, List.set_cons_succ])
     refine Vc.wpAnyH_rd (i := 4) (d := some 59) (v := .agg (linkC y)) ?hy38 ?rest38
     case hy38 =>
      intro w hSw
      exact Who.exec_loadA _ rfl rfl hSw.2.1 Tryz.underlying51 rfl infoL
     (try simp only [Act.put, List.setIfInBounds_toArray, List.set_cons_zero, List.set_cons_succ])
     refine Vc.wpAnyH_rd (i := 5) (d := some 60) (v := ?v39) ?hy39 ?rest39
     case hy39 =>
      intro w hSw
      obtain ⟨⟨s0, s1⟩, s2⟩ := hSw
      go_simp
      try with_reducible rfl
     (try simp only [Act.put, List.setIfInBounds_toArray, List.set_cons_zero, List.set_cons_succ])
     refine Vc.wpAnyH_rd (i := 6) (d := some 61) (v := .slice (some ⟨b', off', none⟩) s.n2 d2) ?hy40 ?rest40
     case hy40 =>
      intro w hSw
      obtain ⟨⟨s0, s1⟩, s2⟩ := hSw
      go_simp
      try with_reducible rfl
     (try simp only [Act.put, List.setIfInBounds_toArray, List.set_cons_zero, List.set_cons_succ])
     refine Vc.wpAnyH_rd (i := 7) (d := some 62) (v := ?v41) ?hy41 ?rest41
     case hy41 =>
      intro w hSw
      go_simp
      try with_reducible rfl
     (try simp only [Act.put, List.setIfInBounds_toArray, List.set_cons_zero, List.set_cons_succ])
     refine Vc.wpAnyH_rd (i := 8) (d := some 63) (v := .pointer (some ⟨b', off' + j * 25, none⟩)) ?hy42 ?rest42
     case hy42 =>
      intro w hSw
      go_simp
      all_goals first | (rw [if_pos HXJ.out.1, HXJ.out.2]) | (intro hh; exfalso; omega) | (intro hh; exfalso; have hh2 := hh (by omega); omega)
     (try simp only [Act.put, List.setIfInBounds_toArray, List.set_cons_zero, List.set_cons_succ])
     refine Vc.wpAnyH_rd (i := 9) (d := some 64) (v := .agg (linkC y)) ?hy43 ?rest43
     case hy43 =>
      intro w hSw
      exact Who.exec_loadA _ rfl rfl hSw.2.2 Tryz.underlying51 rfl infoL
     (try simp only [Act.put, List.setIfInBounds_toArray, List.set_cons_zero, List.set_cons_succ])
     refine Vc.wpAnyH_rd (i := 10) (d := some 65) (v := .bool false) ?hy44 ?rest44
     case hy44 =>
      intro w hSw
      have hnr := HNR.out
      go_simp
      try with_reducible rfl
     (try simp only [Act.put, List.setIfInBounds_toArray, List.set_cons_zero, List.set_cons_succ])
     refine wpAnyH_done (by kernel_rfl) ?_ _
     go_wp2
     go_roundw
     case rel => exact ⟨j + 1, by go_num, by omega, Lib.hid HB.out.drew⟩
     case measure => simp [intOf]; omega
    ·go_wp2
     go_ret
     exact ⟨rfl, HB.out.below⟩
/-- Two states that are the same, wherever their rows lie. -/
theorem rsame_yes (s t : StateC) (w : World) (hs : Fc.StateRow w s) (ht : Fc.StateRow w t) (e : t.p = s.p) : Calls Tryz.prog 15 #[.agg (stateC s), .agg (stateC t)] w fun e w' => e = .returned (.bool true) ∧ Below w.heap.size w w' := by
 simp only [StateC.p, Fc.StateP.mk.injEq] at e
 obtain ⟨e1, e2, e3⟩ := e
 have h1 : t.n1 = s.n1 := by have a := hs.nodes.len; have b := ht.nodes.len; have c := congrArg List.length e2; rw [List.length_map, List.length_map] at c; omega
 have h2 : t.n2 = s.n2 := by have a := hs.links.len; have b := ht.links.len; rw [e3] at b; omega
 have et : stY s t.A1 t.A2 t.c1 t.c2 t.nodes = t := by
  obtain ⟨seen, A1, n1, c1, A2, n2, c2, nodes, links⟩ := t
  simp only at e1 e3 h1 h2
  unfold stY
  rw [← e1, ← e3, ← h1, ← h2]
 have h := samestate_yes s t.A1 t.A2 t.c1 t.c2 t.nodes w hs (by have q := ht.nodes; rw [h1] at q; exact q) (by have q := ht.links; rw [h2, e3] at q; exact q) ht.each e2
 rw [et] at h
 exact h
end Go.Proofs.YtblogecapegbmaaGreat.Jn
