/- The document's SameNode, of the same inode in two places. -/
import Derived.Test.YtblogecapegbmaaGreatJoB
import Derived.Test.YtblogecapegbmaaGreatReg
namespace Go.Proofs.YtblogecapegbmaaGreat.Jn
open Go.RowKit Go.Proofs.YtblogecapegbmaaGreat.Mem
open Go.Proofs.YtblogecapegbmaaGreat.Fc (PieceP XattrP LinkP NodeC pieceC xattrC linkC nodeC stateC)
open Go.Proofs.YtblogecapegbmaaGreat.Vc (vecC stC)
set_option linter.unusedVariables false set_option linter.unusedSimpArgs false

structure Bx2 (t : TypeId) (cs ds : Array Value) (w wr : World) : Prop where
 below : Below w.heap.size w wr
 h1 : Has wr w.heap.size t cs
 h2 : Has wr (w.heap.size + 1) t ds
theorem Bx2.start (w : World) (t : TypeId) (cs ds : Array Value) : Bx2 t cs ds w ((w.alloc (.cells cs t)).alloc (.cells ds t)) := by
 refine ⟨((Below.refl w.heap.size w).alloc (Nat.le_refl _) _).alloc (by simp) _, (Has.fresh w t cs).past _, ?_⟩
 have q := Has.fresh (w.alloc (.cells cs t)) t ds
 rw [World.size_alloc] at q
 exact q
theorem Bx2.low {t : TypeId} {cs ds : Array Value} {w wr w2 : World} (h : Bx2 t cs ds w wr) (hb : Below wr.heap.size wr w2) : Bx2 t cs ds w w2 := ⟨h.below.trans (hb.mono h.below.size), h.h1.below hb, h.h2.below hb⟩
theorem Bx2.drew {t : TypeId} {cs ds : Array Value} {w wr : World} (h : Bx2 t cs ds w wr) : Bx2 t cs ds w wr.drew := ⟨h.below.drew, h.h1, h.h2⟩
/-- The same inode, its rows elsewhere. -/
def atY (x : NodeC) (B1 B2 : Option Addr) (d1 d2 : Nat) : NodeC := ⟨x.p, B1, x.n1, d1, B2, x.n2, d2⟩
theorem self_row' {j n : Nat} (h : j < n) : (0 ≤ (j : Int) ∧ (j : Int) < (n : Int)) ∧ (j : Int).toNat = j := ⟨⟨by omega, by omega⟩, by omega⟩
theorem rangeOf {w : World} {g : Nat} {t : TypeId} {cs : Array Value} (h : Has w g t cs) (o : Nat) (C : Array Value) (hC : ∀ j v, C.toList[j]? = some v → cs[o + j]? = some v) : w.rangeAt g o C.toList := fun j v hv => (h.at_ (o + j)).trans (hC j v hv)
theorem rid {x : NodeC} : ∀ j v, (#[.int .i64 x.p.id.1, .int .i64 x.p.id.2] : Array Value).toList[j]? = some v → (nodeC x)[0 + j]? = some v := fun j v hv => by
 match j, hv with
 | 0, hv => exact hv
 | 1, hv => exact hv
 | j + 2, hv => simp at hv
theorem rat {x : NodeC} : ∀ j v, (#[.int .i64 x.p.aat.1, .int .i64 x.p.aat.2, .int .i64 x.p.mode, .int .u64 x.p.time] : Array Value).toList[j]? = some v → (nodeC x)[4 + j]? = some v := fun j v hv => by
 match j, hv with
 | 0, hv => exact hv
 | 1, hv => exact hv
 | 2, hv => exact hv
 | 3, hv => exact hv
 | j + 4, hv => simp at hv
theorem rsz {x : NodeC} : ∀ j v, (#[.int .i64 x.p.sat.1, .int .i64 x.p.sat.2, .int .i64 x.p.n] : Array Value).toList[j]? = some v → (nodeC x)[8 + j]? = some v := fun j v hv => by
 match j, hv with
 | 0, hv => exact hv
 | 1, hv => exact hv
 | 2, hv => exact hv
 | j + 3, hv => simp at hv
theorem info_attr : (Tryz.prog.info? 40).map (·.size) = some 4 := by kernel_rfl
theorem info_size : (Tryz.prog.info? 42).map (·.size) = some 3 := by kernel_rfl
theorem info_piece : (Tryz.prog.info? 74).map (·.size) = some 4 := by kernel_rfl
theorem info_xattr : (Tryz.prog.info? 77).map (·.size) = some 5 := by kernel_rfl
set_option maxRecDepth 100000 in
set_option maxHeartbeats 4000000 in
theorem samenode_yes (x : NodeC) (B1 B2 : Option Addr) (d1 d2 : Nat) (w : World) (hp1 : Fc.SRow w 4 pieceC x.A1 x.n1 x.p.ps) (hx1 : Fc.SRow w 5 xattrC x.A2 x.n2 x.p.xs) (hp2 : Fc.SRow w 4 pieceC B1 x.n1 x.p.ps) (hx2 : Fc.SRow w 5 xattrC B2 x.n2 x.p.xs) (m1 : x.n1 ≤ 9223372036854775807) (m2 : x.n2 ≤ 9223372036854775807) : Calls Tryz.prog 45 #[.agg (nodeC x), .agg (nodeC (atY x B1 B2 d1 d2))] w fun e w' => e = .returned (.bool true) ∧ Below w.heap.size w w' := by
 have HB := Lib.hid (Bx2.start w 46 (nodeC x) (nodeC (atY x B1 B2 d1 d2)))
 have HPS := Lib.hid hp1
 have HXS := Lib.hid hx1
 have HPS2 := Lib.hid hp2
 have HXS2 := Lib.hid hx2
 have HA := Lib.hid HB.out.h1
 have HA2 := Lib.hid HB.out.h2
 have k2 : ((w.alloc (.cells (nodeC x) 46)).alloc (.cells (nodeC (atY x B1 B2 d1 d2)) 46)).cell? ⟨w.heap.size, 2, none⟩ = some (.int .i64 x.p.kind) := HA.out.at_ 2
 have l2 : ((w.alloc (.cells (nodeC x) 46)).alloc (.cells (nodeC (atY x B1 B2 d1 d2)) 46)).cell? ⟨w.heap.size + 1, 2, none⟩ = some (.int .i64 x.p.kind) := HA2.out.at_ 2
 have k3 : ((w.alloc (.cells (nodeC x) 46)).alloc (.cells (nodeC (atY x B1 B2 d1 d2)) 46)).cell? ⟨w.heap.size, 3, none⟩ = some (.string x.p.text) := HA.out.at_ 3
 have l3 : ((w.alloc (.cells (nodeC x) 46)).alloc (.cells (nodeC (atY x B1 B2 d1 d2)) 46)).cell? ⟨w.heap.size + 1, 3, none⟩ = some (.string x.p.text) := HA2.out.at_ 3
 have k11 : ((w.alloc (.cells (nodeC x) 46)).alloc (.cells (nodeC (atY x B1 B2 d1 d2)) 46)).cell? ⟨w.heap.size, 11, none⟩ = some (.slice x.A1 x.n1 x.c1) := HA.out.at_ 11
 have l11 : ((w.alloc (.cells (nodeC x) 46)).alloc (.cells (nodeC (atY x B1 B2 d1 d2)) 46)).cell? ⟨w.heap.size + 1, 11, none⟩ = some (.slice B1 x.n1 d1) := HA2.out.at_ 11
 have k12 : ((w.alloc (.cells (nodeC x) 46)).alloc (.cells (nodeC (atY x B1 B2 d1 d2)) 46)).cell? ⟨w.heap.size, 12, none⟩ = some (.slice x.A2 x.n2 x.c2) := HA.out.at_ 12
 have l12 : ((w.alloc (.cells (nodeC x) 46)).alloc (.cells (nodeC (atY x B1 B2 d1 d2)) 46)).cell? ⟨w.heap.size + 1, 12, none⟩ = some (.slice B2 x.n2 d2) := HA2.out.at_ 12
 have e1 := fun W => nref_st x.p.id.1 x.p.id.2 W
 have e4 := fun W => nref_attr x.p.aat.1 x.p.aat.2 x.p.mode x.p.time W
 have e5 := fun W => nref_size x.p.sat.1 x.p.sat.2 x.p.n W
 clear hp1 hx1 hp2 hx2
 go_enter Tryz.func45, Tryz.ntmps45
 go_wp2_with (first | ((with_reducible refine Who.wpList_loadC 37 (.tmp 7) rfl (w.heap.size) 0 (#[.int .i64 x.p.id.1, .int .i64 x.p.id.2]) ?_); refine And.intro ⟨by rfl, by rfl, ⟨_, Tryz.underlying37, rfl⟩, info_st⟩ (And.intro (rangeOf HA.out 0 _ rid) ?_); (try simp only [Act.put, List.setIfInBounds_toArray, List.set_cons_zero, List.set_cons_succ])) | ((with_reducible refine Who.wpList_loadC 37 (.tmp 9) rfl (w.heap.size + 1) 0 (#[.int .i64 x.p.id.1, .int .i64 x.p.id.2]) ?_); refine And.intro ⟨by rfl, by rfl, ⟨_, Tryz.underlying37, rfl⟩, info_st⟩ (And.intro (rangeOf HA2.out 0 _ (rid (x := atY x B1 B2 d1 d2))) ?_); (try simp only [Act.put, List.setIfInBounds_toArray, List.set_cons_zero, List.set_cons_succ])) | ((with_reducible refine Who.wpList_loadC 40 (.tmp 27) rfl (w.heap.size) 4 (#[.int .i64 x.p.aat.1, .int .i64 x.p.aat.2, .int .i64 x.p.mode, .int .u64 x.p.time]) ?_); refine And.intro ⟨by rfl, by rfl, ⟨_, Tryz.underlying40, rfl⟩, info_attr⟩ (And.intro (rangeOf HA.out 4 _ rat) ?_); (try simp only [Act.put, List.setIfInBounds_toArray, List.set_cons_zero, List.set_cons_succ])) | ((with_reducible refine Who.wpList_loadC 40 (.tmp 29) rfl (w.heap.size + 1) 4 (#[.int .i64 x.p.aat.1, .int .i64 x.p.aat.2, .int .i64 x.p.mode, .int .u64 x.p.time]) ?_); refine And.intro ⟨by rfl, by rfl, ⟨_, Tryz.underlying40, rfl⟩, info_attr⟩ (And.intro (rangeOf HA2.out 4 _ (rat (x := atY x B1 B2 d1 d2))) ?_); (try simp only [Act.put, List.setIfInBounds_toArray, List.set_cons_zero, List.set_cons_succ])) | ((with_reducible refine Who.wpList_loadC 42 (.tmp 34) rfl (w.heap.size) 8 (#[.int .i64 x.p.sat.1, .int .i64 x.p.sat.2, .int .i64 x.p.n]) ?_); refine And.intro ⟨by rfl, by rfl, ⟨_, Tryz.underlying42, rfl⟩, info_size⟩ (And.intro (rangeOf HA.out 8 _ rsz) ?_); (try simp only [Act.put, List.setIfInBounds_toArray, List.set_cons_zero, List.set_cons_succ])) | ((with_reducible refine Who.wpList_loadC 42 (.tmp 36) rfl (w.heap.size + 1) 8 (#[.int .i64 x.p.sat.1, .int .i64 x.p.sat.2, .int .i64 x.p.n]) ?_); refine And.intro ⟨by rfl, by rfl, ⟨_, Tryz.underlying42, rfl⟩, info_size⟩ (And.intro (rangeOf HA2.out 8 _ (rsz (x := atY x B1 B2 d1 d2))) ?_); (try simp only [Act.put, List.setIfInBounds_toArray, List.set_cons_zero, List.set_cons_succ])) | fail)
 clear k2 k3 k11 k12 l2 l3 l11 l12 e1 e4 e5
 go_loopw [61] (fun i wr => ∃ j : Nat, i = .int .i64 j ∧ j ≤ x.n1 ∧ Hid (Bx2 46 (nodeC x) (nodeC (atY x B1 B2 d1 d2)) w wr)) (fun i _ => x.n1 - (intOf i).toNat)
 case atStart => exact ⟨0, rfl, Nat.zero_le _, HB⟩
 case round =>
  clear HB
  obtain ⟨j, rfl, hj, HB⟩ := hrel
  by_cases hlt : j < x.n1
  ·obtain ⟨b, off, hA, hbl, hx, mr⟩ := HPS.out.range (i := j) hlt
   obtain ⟨b', off', hA', hbl', hx', mr0⟩ := HPS2.out.range (i := j) hlt
   have mr' : w.rangeAt b' (off' + j * 4) (pieceC x.p.ps[j]).toList := mr0
   clear mr0
   have HSS := Lib.hid (fun (V : World) (hV : Bx2 46 (nodeC x) (nodeC (atY x B1 B2 d1 d2)) w V) => show (V.cell? ⟨w.heap.size, 11, none⟩ = some (.slice (some ⟨b, off, none⟩) x.n1 x.c1) ∧ V.cell? ⟨w.heap.size + 1, 11, none⟩ = some (.slice (some ⟨b', off', none⟩) x.n1 d1)) ∧ V.rangeAt b (off + j * 4) (pieceC x.p.ps[j]).toList ∧ V.rangeAt b' (off' + j * 4) (pieceC x.p.ps[j]).toList from by
   refine ⟨⟨(hV.h1.at_ 11).trans ?_, (hV.h2.at_ 11).trans ?_⟩, Fc.row_range_below mr hV.below hbl, Fc.row_range_below mr' hV.below hbl'⟩
   ·show some (Value.slice x.A1 x.n1 x.c1) = _
    rw [hA]
   ·show some (Value.slice B1 x.n1 d1) = _
    rw [hA'])
   generalize x.p.ps[j] = y at *
   have HXJ := Lib.hid (self_row' (j := j) (n := x.n1) hlt)
   have HNR := Lib.hid (fun W => nref_piece y W)
   clear hA mr hx hA' mr' hx'
   go_wp2_with fail
   refine wp_region_held_drew (S := fun V => (V.cell? ⟨w.heap.size, 11, none⟩ = some (.slice (some ⟨b, off, none⟩) x.n1 x.c1) ∧ V.cell? ⟨w.heap.size + 1, 11, none⟩ = some (.slice (some ⟨b', off', none⟩) x.n1 d1)) ∧ V.rangeAt b (off + j * 4) (pieceC y).toList ∧ V.rangeAt b' (off' + j * 4) (pieceC y).toList) (by kernel_rfl) (HSS.out _ HB.out.drew) (fun hHeld => ?_)
   refine Vc.wpAnyH_rd (i := 0) (d := some 64) (v := ?v1) ?hy1 ?rest1
   case hy1 =>
    intro w hSw
    obtain ⟨⟨s0, s1⟩, s2⟩ := hSw
    go_simp
    try with_reducible rfl
   (try simp only [Act.put, List.setIfInBounds_toArray, List.set_cons_zero, List.set_cons_succ])
   refine Vc.wpAnyH_rd (i := 1) (d := some 65) (v := .slice (some ⟨b, off, none⟩) x.n1 x.c1) ?hy2 ?rest2
   case hy2 =>
    intro w hSw
    obtain ⟨⟨s0, s1⟩, s2⟩ := hSw
    go_simp
    try with_reducible rfl
   (try simp only [Act.put, List.setIfInBounds_toArray, List.set_cons_zero, List.set_cons_succ])
   refine Vc.wpAnyH_rd (i := 2) (d := some 66) (v := ?v3) ?hy3 ?rest3
   case hy3 =>
    intro w hSw
    go_simp
    try with_reducible rfl
   (try simp only [Act.put, List.setIfInBounds_toArray, List.set_cons_zero, List.set_cons_succ])
   refine Vc.wpAnyH_rd (i := 3) (d := some 67) (v := .pointer (some ⟨b, off + j * 4, none⟩)) ?hy4 ?rest4
   case hy4 =>
    intro w hSw
    go_simp
    all_goals first | (rw [if_pos HXJ.out.1, HXJ.out.2]) | (intro hh; exfalso; omega) | (intro hh; exfalso; have hh2 := hh (by omega); omega)
   (try simp only [Act.put, List.setIfInBounds_toArray, List.set_cons_zero, List.set_cons_succ])
   refine Vc.wpAnyH_rd (i := 4) (d := some 68) (v := .agg (pieceC y)) ?hy5 ?rest5
   case hy5 =>
    intro w hSw
    exact Who.exec_loadA _ rfl rfl hSw.2.1 Tryz.underlying74 rfl info_piece
   (try simp only [Act.put, List.setIfInBounds_toArray, List.set_cons_zero, List.set_cons_succ])
   refine Vc.wpAnyH_rd (i := 5) (d := some 69) (v := ?v6) ?hy6 ?rest6
   case hy6 =>
    intro w hSw
    obtain ⟨⟨s0, s1⟩, s2⟩ := hSw
    go_simp
    try with_reducible rfl
   (try simp only [Act.put, List.setIfInBounds_toArray, List.set_cons_zero, List.set_cons_succ])
   refine Vc.wpAnyH_rd (i := 6) (d := some 70) (v := .slice (some ⟨b', off', none⟩) x.n1 d1) ?hy7 ?rest7
   case hy7 =>
    intro w hSw
    obtain ⟨⟨s0, s1⟩, s2⟩ := hSw
    go_simp
    try with_reducible rfl
   (try simp only [Act.put, List.setIfInBounds_toArray, List.set_cons_zero, List.set_cons_succ])
   refine Vc.wpAnyH_rd (i := 7) (d := some 71) (v := ?v8) ?hy8 ?rest8
   case hy8 =>
    intro w hSw
    go_simp
    try with_reducible rfl
   (try simp only [Act.put, List.setIfInBounds_toArray, List.set_cons_zero, List.set_cons_succ])
   refine Vc.wpAnyH_rd (i := 8) (d := some 72) (v := .pointer (some ⟨b', off' + j * 4, none⟩)) ?hy9 ?rest9
   case hy9 =>
    intro w hSw
    go_simp
    all_goals first | (rw [if_pos HXJ.out.1, HXJ.out.2]) | (intro hh; exfalso; omega) | (intro hh; exfalso; have hh2 := hh (by omega); omega)
   (try simp only [Act.put, List.setIfInBounds_toArray, List.set_cons_zero, List.set_cons_succ])
   refine Vc.wpAnyH_rd (i := 9) (d := some 73) (v := .agg (pieceC y)) ?hy10 ?rest10
   case hy10 =>
    intro w hSw
    exact Who.exec_loadA _ rfl rfl hSw.2.2 Tryz.underlying74 rfl info_piece
   (try simp only [Act.put, List.setIfInBounds_toArray, List.set_cons_zero, List.set_cons_succ])
   refine Vc.wpAnyH_rd (i := 10) (d := some 74) (v := .bool false) ?hy11 ?rest11
   case hy11 =>
    intro w hSw
    have hnr := HNR.out
    go_simp
    try with_reducible rfl
   (try simp only [Act.put, List.setIfInBounds_toArray, List.set_cons_zero, List.set_cons_succ])
   refine wpAnyH_done (by kernel_rfl) ?_ _
   go_wp2
   go_roundw
   case rel => exact ⟨j + 1, by go_num, by omega, Lib.hid HB.out.drew⟩
   case measure => simp [intOf]; omega
  ·have c11 := HB.out.h1.at_ 12
   have HQ := Lib.hid c11
   have q12 : (_ : World).cell? ⟨w.heap.size, 12, none⟩ = some (.slice x.A2 x.n2 x.c2) := HQ.out
   clear c11
   go_wp2
   go_loopw [79] (fun i wr => ∃ j : Nat, i = .int .i64 j ∧ j ≤ x.n2 ∧ Hid (Bx2 46 (nodeC x) (nodeC (atY x B1 B2 d1 d2)) w wr)) (fun i _ => x.n2 - (intOf i).toNat)
   case atStart => exact ⟨0, rfl, Nat.zero_le _, HB⟩
   case round =>
    clear HB
    obtain ⟨j, rfl, hj, HB⟩ := hrel
    by_cases hlt : j < x.n2
    ·obtain ⟨b, off, hA, hbl, hx, mr⟩ := HXS.out.range (i := j) hlt
     obtain ⟨b', off', hA', hbl', hx', mr0⟩ := HXS2.out.range (i := j) hlt
     have mr' : w.rangeAt b' (off' + j * 5) (xattrC x.p.xs[j]).toList := mr0
     clear mr0
     have HSS := Lib.hid (fun (V : World) (hV : Bx2 46 (nodeC x) (nodeC (atY x B1 B2 d1 d2)) w V) => show (V.cell? ⟨w.heap.size, 12, none⟩ = some (.slice (some ⟨b, off, none⟩) x.n2 x.c2) ∧ V.cell? ⟨w.heap.size + 1, 12, none⟩ = some (.slice (some ⟨b', off', none⟩) x.n2 d2)) ∧ V.rangeAt b (off + j * 5) (xattrC x.p.xs[j]).toList ∧ V.rangeAt b' (off' + j * 5) (xattrC x.p.xs[j]).toList from by
     refine ⟨⟨(hV.h1.at_ 12).trans ?_, (hV.h2.at_ 12).trans ?_⟩, Fc.row_range_below mr hV.below hbl, Fc.row_range_below mr' hV.below hbl'⟩
     ·show some (Value.slice x.A2 x.n2 x.c2) = _
      rw [hA]
     ·show some (Value.slice B2 x.n2 d2) = _
      rw [hA'])
     generalize x.p.xs[j] = y at *
     have HXJ := Lib.hid (self_row' (j := j) (n := x.n2) hlt)
     have HNR := Lib.hid (fun W => nref_xattr y W)
     clear hA mr hx hA' mr' hx'
     go_wp2_with fail
     refine wp_region_held_drew (S := fun V => (V.cell? ⟨w.heap.size, 12, none⟩ = some (.slice (some ⟨b, off, none⟩) x.n2 x.c2) ∧ V.cell? ⟨w.heap.size + 1, 12, none⟩ = some (.slice (some ⟨b', off', none⟩) x.n2 d2)) ∧ V.rangeAt b (off + j * 5) (xattrC y).toList ∧ V.rangeAt b' (off' + j * 5) (xattrC y).toList) (by kernel_rfl) (HSS.out _ HB.out.drew) (fun hHeld => ?_)
     refine Vc.wpAnyH_rd (i := 0) (d := some 82) (v := ?v12) ?hy12 ?rest12
     case hy12 =>
      intro w hSw
      obtain ⟨⟨s0, s1⟩, s2⟩ := hSw
      go_simp
      try with_reducible rfl
     (try simp only [Act.put, List.setIfInBounds_toArray, List.set_cons_zero, List.set_cons_succ])
     refine Vc.wpAnyH_rd (i := 1) (d := some 83) (v := .slice (some ⟨b, off, none⟩) x.n2 x.c2) ?hy13 ?rest13
     case hy13 =>
      intro w hSw
      obtain ⟨⟨s0, s1⟩, s2⟩ := hSw
      go_simp
      try with_reducible rfl
     (try simp only [Act.put, List.setIfInBounds_toArray, List.set_cons_zero, List.set_cons_succ])
     refine Vc.wpAnyH_rd (i := 2) (d := some 84) (v := ?v14) ?hy14 ?rest14
     case hy14 =>
      intro w hSw
      go_simp
      try with_reducible rfl
     (try simp only [Act.put, List.setIfInBounds_toArray, List.set_cons_zero, List.set_cons_succ])
     refine Vc.wpAnyH_rd (i := 3) (d := some 85) (v := .pointer (some ⟨b, off + j * 5, none⟩)) ?hy15 ?rest15
     case hy15 =>
      intro w hSw
      go_simp
      all_goals first | (rw [if_pos HXJ.out.1, HXJ.out.2]) | (intro hh; exfalso; omega) | (intro hh; exfalso; have hh2 := hh (by omega); omega)
     (try simp only [Act.put, List.setIfInBounds_toArray, List.set_cons_zero, List.set_cons_succ])
     refine Vc.wpAnyH_rd (i := 4) (d := some 86) (v := .agg (xattrC y)) ?hy16 ?rest16
     case hy16 =>
      intro w hSw
      exact Who.exec_loadA _ rfl rfl hSw.2.1 Tryz.underlying77 rfl info_xattr
     (try simp only [Act.put, List.setIfInBounds_toArray, List.set_cons_zero, List.set_cons_succ])
     refine Vc.wpAnyH_rd (i := 5) (d := some 87) (v := ?v17) ?hy17 ?rest17
     case hy17 =>
      intro w hSw
      obtain ⟨⟨s0, s1⟩, s2⟩ := hSw
      go_simp
      try with_reducible rfl
     (try simp only [Act.put, List.setIfInBounds_toArray, List.set_cons_zero, List.set_cons_succ])
     refine Vc.wpAnyH_rd (i := 6) (d := some 88) (v := .slice (some ⟨b', off', none⟩) x.n2 d2) ?hy18 ?rest18
     case hy18 =>
      intro w hSw
      obtain ⟨⟨s0, s1⟩, s2⟩ := hSw
      go_simp
      try with_reducible rfl
     (try simp only [Act.put, List.setIfInBounds_toArray, List.set_cons_zero, List.set_cons_succ])
     refine Vc.wpAnyH_rd (i := 7) (d := some 89) (v := ?v19) ?hy19 ?rest19
     case hy19 =>
      intro w hSw
      go_simp
      try with_reducible rfl
     (try simp only [Act.put, List.setIfInBounds_toArray, List.set_cons_zero, List.set_cons_succ])
     refine Vc.wpAnyH_rd (i := 8) (d := some 90) (v := .pointer (some ⟨b', off' + j * 5, none⟩)) ?hy20 ?rest20
     case hy20 =>
      intro w hSw
      go_simp
      all_goals first | (rw [if_pos HXJ.out.1, HXJ.out.2]) | (intro hh; exfalso; omega) | (intro hh; exfalso; have hh2 := hh (by omega); omega)
     (try simp only [Act.put, List.setIfInBounds_toArray, List.set_cons_zero, List.set_cons_succ])
     refine Vc.wpAnyH_rd (i := 9) (d := some 91) (v := .agg (xattrC y)) ?hy21 ?rest21
     case hy21 =>
      intro w hSw
      exact Who.exec_loadA _ rfl rfl hSw.2.2 Tryz.underlying77 rfl info_xattr
     (try simp only [Act.put, List.setIfInBounds_toArray, List.set_cons_zero, List.set_cons_succ])
     refine Vc.wpAnyH_rd (i := 10) (d := some 92) (v := .bool false) ?hy22 ?rest22
     case hy22 =>
      intro w hSw
      have hnr := HNR.out
      go_simp
      try with_reducible rfl
     (try simp only [Act.put, List.setIfInBounds_toArray, List.set_cons_zero, List.set_cons_succ])
     refine wpAnyH_done (by kernel_rfl) ?_ _
     go_wp2
     go_roundw
     case rel => exact ⟨j + 1, by go_num, by omega, Lib.hid HB.out.drew⟩
     case measure => simp [intOf]; omega
    ·go_wp2
     go_ret
     exact ⟨rfl, HB.out.below⟩
end Go.Proofs.YtblogecapegbmaaGreat.Jn
