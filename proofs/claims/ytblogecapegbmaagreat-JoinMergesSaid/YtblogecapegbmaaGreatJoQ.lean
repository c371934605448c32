import Derived.Test.YtblogecapegbmaaGreatJoL

/- Join: the document's noNode and noLink: has a state pruned one. -/
namespace Go.Proofs.YtblogecapegbmaaGreat.Jn
open Go.RowKit Go.Proofs.YtblogecapegbmaaGreat.Mem
open Go.Proofs.YtblogecapegbmaaGreat.Vc (vecC)
set_option linter.unusedVariables false set_option linter.unusedSimpArgs false set_option linter.unusedSectionVars false

def prunedN (s : Fc.StateP) (i : St) : Bool := !(s.nodes.any fun n => decide (n.id = i)) && Vc.hasB s.seen i.1 i.2
def prunedL (s : Fc.StateP) (i : St) : Bool := !(s.links.any fun n => decide (n.id = i)) && Vc.hasB s.seen i.1 i.2
/-- Two volumes' states as one, without what one of them has pruned. -/
def mergeP (a b : Fc.StateP) : Fc.StateP := ⟨(joinP a b).seen, (joinP a b).nodes.filter fun n => !prunedN a n.id && !prunedN b n.id, (joinP a b).links.filter fun n => !prunedL a n.id && !prunedL b n.id⟩
theorem take_moreA {α : Type} {P : α → Prop} {l : List α} {j : Nat} {z : α} (h : ∀ y ∈ l.take j, P y) (hj : j < l.length) (hz : l[j] = z) (hp : P z) : ∀ y ∈ l.take (j + 1), P y := fun y hy => by
 rw [List.take_succ_eq_append_getElem hj, hz] at hy
 rcases List.mem_append.1 hy with hy | hy
 ·exact h y hy
 ·rw [List.mem_singleton.1 hy]; exact hp
/-- A state's box and an Id's. -/
structure BxS (w wr : World) (s : Fc.StateC) (i : St) : Prop where
 below : Below w.heap.size w wr
 hs : Has wr w.heap.size 27 (Fc.stateC s)
 hi : Has wr (w.heap.size + 1) 37 #[.int .i64 i.1, .int .i64 i.2]
theorem BxS.low {w wr w2 : World} {s : Fc.StateC} {i : St} (h : BxS w wr s i) (hb : Below wr.heap.size wr w2) : BxS w w2 s i := ⟨h.below.trans (hb.mono h.below.size), h.hs.below hb, h.hi.below hb⟩
theorem BxS.start (w : World) (s : Fc.StateC) (i : St) : BxS w ((w.alloc (.cells (Fc.stateC s) 27)).alloc (.cells #[.int .i64 i.1, .int .i64 i.2] 37)) s i := by
 have h := Has.fresh (w.alloc (.cells (Fc.stateC s) 27)) 37 #[.int .i64 i.1, .int .i64 i.2]
 rw [World.size_alloc] at h
 exact ⟨((Below.refl w.heap.size w).alloc (Nat.le_refl _) _).alloc (by simp) _, (Has.fresh w 27 (Fc.stateC s)).past _, h⟩
set_option maxRecDepth 100000 in
set_option maxHeartbeats 4000000 in
theorem noN_any (s : Fc.StateC) (i : St) (w : World) (hr : Fc.SRow w 13 Fc.nodeC s.A1 s.n1 s.nodes) (hm : s.n1 ≤ 9223372036854775807) :
  Calls Tryz.prog 53 #[.agg (Fc.stateC s), .agg #[.int .i64 i.1, .int .i64 i.2]] w fun e w' => e = .returned (.bool (prunedN s.p i)) ∧ Below w.heap.size w w' := by
 have HR := Lib.hid hr
 have HLN := Lib.hid (show s.n1 = s.nodes.length from hr.len.symm)
 have H0 := Lib.hid (BxS.start w s i)
 have HNO := Lib.hid (show (∀ y ∈ s.nodes, y.p.id ≠ i) → prunedN s.p i = Vc.hasB s.seen i.1 i.2 from fun h => by
  have e : (s.nodes.map Fc.NodeC.p).any (fun n => decide (n.id = i)) = false := by
   rw [List.any_eq_false]
   intro y hy
   obtain ⟨z, hz, rfl⟩ := List.mem_map.1 hy
   simpa using h z hz
  show (!(s.nodes.map Fc.NodeC.p).any (fun n => decide (n.id = i)) && Vc.hasB s.seen i.1 i.2) = _
  rw [e]
  rfl)
 have HYES := Lib.hid (show ∀ y ∈ s.nodes, y.p.id = i → prunedN s.p i = false from fun y hy e => by
  have k : (s.nodes.map Fc.NodeC.p).any (fun n => decide (n.id = i)) = true := by
   rw [List.any_eq_true]
   exact ⟨y.p, List.mem_map_of_mem hy, by simpa using e⟩
  show (!(s.nodes.map Fc.NodeC.p).any (fun n => decide (n.id = i)) && Vc.hasB s.seen i.1 i.2) = _
  rw [k]
  rfl)
 obtain ⟨R, hR⟩ : ∃ R, prunedN s.p i = R := ⟨_, rfl⟩
 rw [hR]
 have HRR := Lib.hid hR
 clear hr hR
 have c8 : ((w.alloc (.cells (Fc.stateC s) 27)).alloc (.cells #[.int .i64 i.1, .int .i64 i.2] 37)).cell? ⟨w.heap.size, 8, none⟩ = some (.slice s.A1 s.n1 s.c1) := H0.out.hs.at_ 8
 go_enter Tryz.func53, Tryz.ntmps53
 go_wp2
 go_loopw [10] (fun q wr => ∃ j : Nat, q = .int .i64 j ∧ j ≤ s.n1 ∧ Hid (BxS w wr s i) ∧ Hid (∀ y ∈ s.nodes.take j, y.p.id ≠ i)) (fun q _ => s.n1 - (intOf q).toNat)
 case atStart => exact ⟨0, rfl, Nat.zero_le _, H0, Lib.hid (fun y hy => by simp at hy)⟩
 case round =>
  clear H0 c8
  obtain ⟨j, rfl, hj, HI, HN⟩ := hrel
  by_cases hlt : j < s.n1
  ·obtain ⟨bk, off, hA, hbl, hxj, mr⟩ := (HR.out.below HI.out.below).range (i := j) hlt
   obtain ⟨y, hy⟩ : ∃ y, s.nodes[j] = y := ⟨_, rfl⟩
   have HM := Lib.hid (show y ∈ s.nodes from hy ▸ List.getElem_mem hxj)
   have HN2 := Lib.hid (fun h => take_moreA (P := fun y => y.p.id ≠ i) HN.out hxj hy h)
   rw [hy] at mr
   have MR := Lib.hid mr
   have HY1 := Lib.hid (Has.fresh wr 46 (Fc.nodeC y))
   have HI1 := Lib.hid (HI.out.low ((Below.refl wr.heap.size wr).alloc (Nat.le_refl _) (.cells (Fc.nodeC y) 46)))
   rw [hA]
   clear mr hy hA hbl hxj HI HN
   by_cases q1 : y.p.id = i
   ·have HE := Lib.hid (HYES.out y HM.out q1)
    have heq : ∀ w : World, (Op.equalIn 10000 37 (.agg #[.int .i64 y.p.id.1, .int .i64 y.p.id.2]) (.agg #[.int .i64 i.1, .int .i64 i.2])).run Tryz.prog w = .ok true w := fun w => by have h := Vc.eqs y.p.id.1 y.p.id.2 i.1 i.2 w; rw [show (y.p.id.1 == i.1 && y.p.id.2 == i.2) = true by simp [q1]] at h; exact h
    clear q1
    go_wp2_with (first | ((with_reducible refine Who.wpList_loadC 46 (.tmp 12) rfl (bk) (off + j * 13) (Fc.nodeC y) ?_); refine And.intro ⟨by rfl, by rfl, ⟨_, Tryz.underlying46, rfl⟩, infoN⟩ (And.intro (MR.out) ?_)) | ((with_reducible refine Who.wpList_newC 46 6 (.tmp 13) rfl rfl rfl (zeroN) (Fc.nodeC y) ?_); refine And.intro ⟨rfl, rfl, rfl, allocN, by rfl, by rfl, infoN, rfl, oneN y⟩ ?_; (try simp only [World.size_alloc])) | ((with_reducible refine Who.wpList_loadC 37 (.tmp 14) rfl (wr.heap.size) 0 (#[.int .i64 y.p.id.1, .int .i64 y.p.id.2]) ?_); refine And.intro ⟨by rfl, by rfl, ⟨_, Tryz.underlying37, rfl⟩, info_st⟩ (And.intro (nodeIds_rng HY1.out) ?_)) | ((with_reducible refine Who.wpList_loadC 37 (.tmp 3) rfl (w.heap.size + 1) 0 (#[.int .i64 i.1, .int .i64 i.2]) ?_); refine And.intro ⟨by rfl, by rfl, ⟨_, Tryz.underlying37, rfl⟩, info_st⟩ (And.intro (Who.has_range HI1.out.hi) ?_)) | fail)
    go_ret
    exact ⟨by rw [← HRR.out, HE.out]; rfl, HI1.out.below⟩
   ·have HN3 := Lib.hid (HN2.out q1)
    have heq : ∀ w : World, (Op.equalIn 10000 37 (.agg #[.int .i64 y.p.id.1, .int .i64 y.p.id.2]) (.agg #[.int .i64 i.1, .int .i64 i.2])).run Tryz.prog w = .ok false w := fun w => by have h := Vc.eqs y.p.id.1 y.p.id.2 i.1 i.2 w; rw [show (y.p.id.1 == i.1 && y.p.id.2 == i.2) = false by (cases hq : (y.p.id.1 == i.1 && y.p.id.2 == i.2) with | false => rfl | true => simp at hq; exact absurd (Prod.ext hq.1 hq.2) q1)] at h; exact h
    clear q1
    go_wp2_with (first | ((with_reducible refine Who.wpList_loadC 46 (.tmp 12) rfl (bk) (off + j * 13) (Fc.nodeC y) ?_); refine And.intro ⟨by rfl, by rfl, ⟨_, Tryz.underlying46, rfl⟩, infoN⟩ (And.intro (MR.out) ?_)) | ((with_reducible refine Who.wpList_newC 46 6 (.tmp 13) rfl rfl rfl (zeroN) (Fc.nodeC y) ?_); refine And.intro ⟨rfl, rfl, rfl, allocN, by rfl, by rfl, infoN, rfl, oneN y⟩ ?_; (try simp only [World.size_alloc])) | ((with_reducible refine Who.wpList_loadC 37 (.tmp 14) rfl (wr.heap.size) 0 (#[.int .i64 y.p.id.1, .int .i64 y.p.id.2]) ?_); refine And.intro ⟨by rfl, by rfl, ⟨_, Tryz.underlying37, rfl⟩, info_st⟩ (And.intro (nodeIds_rng HY1.out) ?_)) | ((with_reducible refine Who.wpList_loadC 37 (.tmp 3) rfl (w.heap.size + 1) 0 (#[.int .i64 i.1, .int .i64 i.2]) ?_); refine And.intro ⟨by rfl, by rfl, ⟨_, Tryz.underlying37, rfl⟩, info_st⟩ (And.intro (Who.has_range HI1.out.hi) ?_)) | fail)
    go_roundw
    case rel => exact ⟨j + 1, by go_num, by omega, HI1, HN3⟩
    case measure => simp [intOf]; omega
  ·have hjn : j = s.n1 := by omega
   have HE := Lib.hid (HNO.out (fun y hy => HN.out y (by rw [hjn, HLN.out, List.take_length]; exact hy)))
   clear HN hjn
   go_wp2_with (first | ((with_reducible refine Who.wpList_loadC 23 (.tmp 19) rfl (w.heap.size) 0 (vecC s.seen) ?_); refine And.intro ⟨by rfl, by rfl, ⟨_, Tryz.underlying23, rfl⟩, info_vec⟩ (And.intro (state_seen HI.out.hs) ?_)) | ((with_reducible refine Who.wpList_loadC 37 (.tmp 3) rfl (w.heap.size + 1) 0 (#[.int .i64 i.1, .int .i64 i.2]) ?_); refine And.intro ⟨by rfl, by rfl, ⟨_, Tryz.underlying37, rfl⟩, info_st⟩ (And.intro (Who.has_range HI.out.hi) ?_)) | fail)
   refine (Vc.rhas_any s.seen i.1 i.2 _).mono ?_
   rintro e w2 ⟨rfl, hb⟩
   have HB := Lib.hid (HI.out.low hb).below
   clear hb
   go_wp2
   go_ret
   exact ⟨by rw [← HRR.out, HE.out]; rfl, HB.out⟩
set_option maxRecDepth 100000 in
set_option maxHeartbeats 4000000 in
theorem noL_any (s : Fc.StateC) (i : St) (w : World) (hr : Fc.SRow w 25 Fc.linkC s.A2 s.n2 s.links) (hm : s.n2 ≤ 9223372036854775807) :
  Calls Tryz.prog 54 #[.agg (Fc.stateC s), .agg #[.int .i64 i.1, .int .i64 i.2]] w fun e w' => e = .returned (.bool (prunedL s.p i)) ∧ Below w.heap.size w w' := by
 have HR := Lib.hid hr
 have HLN := Lib.hid (show s.n2 = s.links.length from hr.len.symm)
 have H0 := Lib.hid (BxS.start w s i)
 have HNO := Lib.hid (show (∀ y ∈ s.links, y.id ≠ i) → prunedL s.p i = Vc.hasB s.seen i.1 i.2 from fun h => by
  have e : s.links.any (fun n => decide (n.id = i)) = false := by
   rw [List.any_eq_false]
   intro y hy
   have hz := hy
   simpa using h y hz
  show (!s.links.any (fun n => decide (n.id = i)) && Vc.hasB s.seen i.1 i.2) = _
  rw [e]
  rfl)
 have HYES := Lib.hid (show ∀ y ∈ s.links, y.id = i → prunedL s.p i = false from fun y hy e => by
  have k : s.links.any (fun n => decide (n.id = i)) = true := by
   rw [List.any_eq_true]
   exact ⟨y, hy, by simpa using e⟩
  show (!s.links.any (fun n => decide (n.id = i)) && Vc.hasB s.seen i.1 i.2) = _
  rw [k]
  rfl)
 obtain ⟨R, hR⟩ : ∃ R, prunedL s.p i = R := ⟨_, rfl⟩
 rw [hR]
 have HRR := Lib.hid hR
 clear hr hR
 have c8 : ((w.alloc (.cells (Fc.stateC s) 27)).alloc (.cells #[.int .i64 i.1, .int .i64 i.2] 37)).cell? ⟨w.heap.size, 9, none⟩ = some (.slice s.A2 s.n2 s.c2) := H0.out.hs.at_ 9
 go_enter Tryz.func54, Tryz.ntmps54
 go_wp2
 go_loopw [10] (fun q wr => ∃ j : Nat, q = .int .i64 j ∧ j ≤ s.n2 ∧ Hid (BxS w wr s i) ∧ Hid (∀ y ∈ s.links.take j, y.id ≠ i)) (fun q _ => s.n2 - (intOf q).toNat)
 case atStart => exact ⟨0, rfl, Nat.zero_le _, H0, Lib.hid (fun y hy => by simp at hy)⟩
 case round =>
  clear H0 c8
  obtain ⟨j, rfl, hj, HI, HN⟩ := hrel
  by_cases hlt : j < s.n2
  ·obtain ⟨bk, off, hA, hbl, hxj, mr⟩ := (HR.out.below HI.out.below).range (i := j) hlt
   obtain ⟨y, hy⟩ : ∃ y, s.links[j] = y := ⟨_, rfl⟩
   have HM := Lib.hid (show y ∈ s.links from hy ▸ List.getElem_mem hxj)
   have HN2 := Lib.hid (fun h => take_moreA (P := fun y => y.id ≠ i) HN.out hxj hy h)
   rw [hy] at mr
   have MR := Lib.hid mr
   have HY1 := Lib.hid (Has.fresh wr 51 (Fc.linkC y))
   have HI1 := Lib.hid (HI.out.low ((Below.refl wr.heap.size wr).alloc (Nat.le_refl _) (.cells (Fc.linkC y) 51)))
   rw [hA]
   clear mr hy hA hbl hxj HI HN
   by_cases q1 : y.id = i
   ·have HE := Lib.hid (HYES.out y HM.out q1)
    have heq : ∀ w : World, (Op.equalIn 10000 37 (.agg #[.int .i64 y.id.1, .int .i64 y.id.2]) (.agg #[.int .i64 i.1, .int .i64 i.2])).run Tryz.prog w = .ok true w := fun w => by have h := Vc.eqs y.id.1 y.id.2 i.1 i.2 w; rw [show (y.id.1 == i.1 && y.id.2 == i.2) = true by simp [q1]] at h; exact h
    clear q1
    go_wp2_with (first | ((with_reducible refine Who.wpList_loadC 51 (.tmp 12) rfl (bk) (off + j * 25) (Fc.linkC y) ?_); refine And.intro ⟨by rfl, by rfl, ⟨_, Tryz.underlying51, rfl⟩, info_link⟩ (And.intro (MR.out) ?_)) | ((with_reducible refine Who.wpList_newC 51 6 (.tmp 13) rfl rfl rfl (zeroL) (Fc.linkC y) ?_); refine And.intro ⟨rfl, rfl, rfl, allocL, by rfl, by rfl, info_link, rfl, own1 y⟩ ?_; (try simp only [World.size_alloc])) | ((with_reducible refine Who.wpList_loadC 37 (.tmp 14) rfl (wr.heap.size) 0 (#[.int .i64 y.id.1, .int .i64 y.id.2]) ?_); refine And.intro ⟨by rfl, by rfl, ⟨_, Tryz.underlying37, rfl⟩, info_st⟩ (And.intro (link_id HY1.out) ?_)) | ((with_reducible refine Who.wpList_loadC 37 (.tmp 3) rfl (w.heap.size + 1) 0 (#[.int .i64 i.1, .int .i64 i.2]) ?_); refine And.intro ⟨by rfl, by rfl, ⟨_, Tryz.underlying37, rfl⟩, info_st⟩ (And.intro (Who.has_range HI1.out.hi) ?_)) | fail)
    go_ret
    exact ⟨by rw [← HRR.out, HE.out]; rfl, HI1.out.below⟩
   ·have HN3 := Lib.hid (HN2.out q1)
    have heq : ∀ w : World, (Op.equalIn 10000 37 (.agg #[.int .i64 y.id.1, .int .i64 y.id.2]) (.agg #[.int .i64 i.1, .int .i64 i.2])).run Tryz.prog w = .ok false w := fun w => by have h := Vc.eqs y.id.1 y.id.2 i.1 i.2 w; rw [show (y.id.1 == i.1 && y.id.2 == i.2) = false by (cases hq : (y.id.1 == i.1 && y.id.2 == i.2) with | false => rfl | true => simp at hq; exact absurd (Prod.ext hq.1 hq.2) q1)] at h; exact h
    clear q1
    go_wp2_with (first | ((with_reducible refine Who.wpList_loadC 51 (.tmp 12) rfl (bk) (off + j * 25) (Fc.linkC y) ?_); refine And.intro ⟨by rfl, by rfl, ⟨_, Tryz.underlying51, rfl⟩, info_link⟩ (And.intro (MR.out) ?_)) | ((with_reducible refine Who.wpList_newC 51 6 (.tmp 13) rfl rfl rfl (zeroL) (Fc.linkC y) ?_); refine And.intro ⟨rfl, rfl, rfl, allocL, by rfl, by rfl, info_link, rfl, own1 y⟩ ?_; (try simp only [World.size_alloc])) | ((with_reducible refine Who.wpList_loadC 37 (.tmp 14) rfl (wr.heap.size) 0 (#[.int .i64 y.id.1, .int .i64 y.id.2]) ?_); refine And.intro ⟨by rfl, by rfl, ⟨_, Tryz.underlying37, rfl⟩, info_st⟩ (And.intro (link_id HY1.out) ?_)) | ((with_reducible refine Who.wpList_loadC 37 (.tmp 3) rfl (w.heap.size + 1) 0 (#[.int .i64 i.1, .int .i64 i.2]) ?_); refine And.intro ⟨by rfl, by rfl, ⟨_, Tryz.underlying37, rfl⟩, info_st⟩ (And.intro (Who.has_range HI1.out.hi) ?_)) | fail)
    go_roundw
    case rel => exact ⟨j + 1, by go_num, by omega, HI1, HN3⟩
    case measure => simp [intOf]; omega
  ·have hjn : j = s.n2 := by omega
   have HE := Lib.hid (HNO.out (fun y hy => HN.out y (by rw [hjn, HLN.out, List.take_length]; exact hy)))
   clear HN hjn
   go_wp2_with (first | ((with_reducible refine Who.wpList_loadC 23 (.tmp 19) rfl (w.heap.size) 0 (vecC s.seen) ?_); refine And.intro ⟨by rfl, by rfl, ⟨_, Tryz.underlying23, rfl⟩, info_vec⟩ (And.intro (state_seen HI.out.hs) ?_)) | ((with_reducible refine Who.wpList_loadC 37 (.tmp 3) rfl (w.heap.size + 1) 0 (#[.int .i64 i.1, .int .i64 i.2]) ?_); refine And.intro ⟨by rfl, by rfl, ⟨_, Tryz.underlying37, rfl⟩, info_st⟩ (And.intro (Who.has_range HI.out.hi) ?_)) | fail)
   refine (Vc.rhas_any s.seen i.1 i.2 _).mono ?_
   rintro e w2 ⟨rfl, hb⟩
   have HB := Lib.hid (HI.out.low hb).below
   clear hb
   go_wp2
   go_ret
   exact ⟨by rw [← HRR.out, HE.out]; rfl, HB.out⟩
end Go.Proofs.YtblogecapegbmaaGreat.Jn
/- Join: the document's Merge. -/
namespace Go.Proofs.YtblogecapegbmaaGreat.Jn
open Go.RowKit Go.Proofs.YtblogecapegbmaaGreat.Mem
open Go.Proofs.YtblogecapegbmaaGreat.Vc (joinV vecC)
set_option linter.unusedVariables false set_option linter.unusedSimpArgs false set_option linter.unusedSectionVars false

def keepN (a b : Fc.StateP) (y : Fc.NodeC) : Bool := !prunedN a y.p.id && !prunedN b y.p.id
def keepL (a b : Fc.StateP) (y : Fc.LinkP) : Bool := !prunedL a y.id && !prunedL b y.id
theorem filt_yes {α : Type} {P : α → Bool} {l k : List α} {j : Nat} {y : α} (h : k = (l.take j).filter P) (hj : j < l.length) (hy : l[j] = y) (hp : P y = true) : k ++ [y] = (l.take (j + 1)).filter P := by
 rw [List.take_succ_eq_append_getElem hj, hy, List.filter_append, ← h]
 simp [hp]
theorem filt_no {α : Type} {P : α → Bool} {l k : List α} {j : Nat} {y : α} (h : k = (l.take j).filter P) (hj : j < l.length) (hy : l[j] = y) (hp : P y = false) : k = (l.take (j + 1)).filter P := by
 rw [List.take_succ_eq_append_getElem hj, hy, List.filter_append, ← h]
 simp [hp]
/-- What both loops keep: the state as it was made, and what is left of it. -/
structure MgI (ws wr : World) (s t : Fc.StateC) : Prop where
 bs : Below ws.heap.size ws wr
 h5 : Has wr ws.heap.size 27 (Fc.stateC s)
 h6 : Has wr (ws.heap.size + 1) 27 (Fc.stateC t)
 on : OwnK wr ws.heap.size 46 13 Fc.nodeC (.slice t.A1 t.n1 t.c1) t.nodes
 ol : OwnK wr ws.heap.size 51 25 Fc.linkC (.slice t.A2 t.n2 t.c2) t.links
section
variable {ws wr w2 w3 : World} {s t d : Fc.StateC}
theorem MgI.low (h : MgI ws wr s t) (hb : Below wr.heap.size wr w2) : MgI ws w2 s t := ⟨h.bs.trans (hb.mono h.bs.size), h.h5.below hb, h.h6.below hb, h.on.below hb, h.ol.below hb⟩
theorem MgI.appN (h : MgI ws wr s t) {v : Value} {y : Fc.NodeC} (g : GrewK ws.heap.size wr w2 46 13 Fc.nodeC (.slice t.A1 t.n1 t.c1) v t.nodes [y]) : Below ws.heap.size ws w2 ∧ Has w2 ws.heap.size 27 (Fc.stateC s) ∧ Has w2 (ws.heap.size + 1) 27 (Fc.stateC t) ∧ OwnK w2 ws.heap.size 51 25 Fc.linkC (.slice t.A2 t.n2 t.c2) t.links :=
 ⟨h.bs.trans g.below, has_other h.h5 h.on g.chg (by decide), has_other h.h6 h.on g.chg (by decide), own_other h.ol h.on g.chg (by decide)⟩
theorem MgI.appL (h : MgI ws wr s t) {v : Value} {y : Fc.LinkP} (g : GrewK ws.heap.size wr w2 51 25 Fc.linkC (.slice t.A2 t.n2 t.c2) v t.links [y]) : Below ws.heap.size ws w2 ∧ Has w2 ws.heap.size 27 (Fc.stateC s) ∧ Has w2 (ws.heap.size + 1) 27 (Fc.stateC t) ∧ OwnK w2 ws.heap.size 46 13 Fc.nodeC (.slice t.A1 t.n1 t.c1) t.nodes :=
 ⟨h.bs.trans g.below, has_other h.h5 h.ol g.chg (by decide), has_other h.h6 h.ol g.chg (by decide), own_other h.on h.ol g.chg (by decide)⟩
theorem MgI.put (h2 : Below ws.heap.size ws w2) (h5 : Has w2 ws.heap.size 27 (Fc.stateC s)) (h6 : Has w2 (ws.heap.size + 1) 27 (Fc.stateC t)) (on : OwnK w2 ws.heap.size 46 13 Fc.nodeC (.slice d.A1 d.n1 d.c1) d.nodes) (ol : OwnK w2 ws.heap.size 51 25 Fc.linkC (.slice d.A2 d.n2 d.c2) d.links) (hx : Has w3 (ws.heap.size + 1) 27 (Fc.stateC d)) (hc : Chg (· = (ws.heap.size + 1)) w2 w3) : MgI ws w3 s d :=
 ⟨below_step h2 hc (by omega), h5.over hc (by omega), hx, own_has on h6 hc (by decide), own_has ol h6 hc (by decide)⟩
theorem MgI.start (ws : World) (s : Fc.StateC) (v : Nat → Int) : MgI ws ((ws.alloc (.cells (Fc.stateC s) 27)).alloc (.cells (Fc.stateC (sd v r0 r0)) 27)) s (sd v r0 r0) := by
 have h := Has.fresh (ws.alloc (.cells (Fc.stateC s) 27)) 27 (Fc.stateC (sd v r0 r0))
 rw [World.size_alloc] at h
 exact ⟨((Below.refl ws.heap.size ws).alloc (Nat.le_refl _) _).alloc (by simp) _, (Has.fresh ws 27 (Fc.stateC s)).past _, h, OwnK.nil _ _ _ _ _, OwnK.nil _ _ _ _ _⟩
end
set_option maxRecDepth 100000 in
set_option maxHeartbeats 1500000 in
theorem rmerge_any (a b : Fc.StateC) (w : World) (ha : StateIn w a) (hb : StateIn w b) (sa : SumOk (a.nodes.map Fc.NodeC.p)) (sb : SumOk (b.nodes.map Fc.NodeC.p)) (ta : ∀ y ∈ a.links, y.name.size ≤ maxLen) (tb : ∀ y ∈ b.links, y.name.size ≤ maxLen) (la : a.n1 ≤ 400000 ∧ a.n2 ≤ 400000) (lb : b.n1 ≤ 400000 ∧ b.n2 ≤ 400000) :
  Calls Tryz.prog 18 #[.agg (Fc.stateC a), .agg (Fc.stateC b)] w fun e w' => ∃ s, e = .returned (.agg (Fc.stateC s)) ∧ s.p = mergeP a.p b.p ∧ StateOwn 0 w' s ∧ Below w.heap.size w w' := by
 have HIA := Lib.hid (show ∀ V, Below w.heap.size w V → StateIn V a from fun V h => ha.below h)
 have HIB := Lib.hid (show ∀ V, Below w.heap.size w V → StateIn V b from fun V h => hb.below h)
 have HLA := Lib.hid la
 have HLB := Lib.hid lb
 have HSZ := Lib.hid (show (a.nodes.map Fc.NodeC.p).length + (b.nodes.map Fc.NodeC.p).length ≤ 800000 ∧ a.links.length + b.links.length ≤ 800000 from by
  have e1 : a.nodes.length = a.n1 := ha.nodes.row.len
  have e2 : b.nodes.length = b.n1 := hb.nodes.row.len
  have e3 : a.links.length = a.n2 := ha.links.row.len
  have e4 : b.links.length = b.n2 := hb.links.row.len
  rw [List.length_map, List.length_map]
  omega)
 have H0 := Lib.hid (TwoI.start w 27 (Fc.stateC a) (Fc.stateC b) zeroS)
 have HST := Lib.hid (fun V (h : Below w.heap.size w V) => rstates_any a b V (ha.below h) (hb.below h) sa sb ta tb la lb)
 clear ha hb sa sb ta tb la lb
 go_enter Tryz.func18, Tryz.ntmps18
 go_wp2_with (first | ((with_reducible refine Who.wpList_alloc 27 4 rfl rfl rfl (zeroS) allocS ?_); (try simp only [World.size_alloc])) | ((with_reducible refine Who.wpList_loadC 27 (.tmp 2) rfl (w.heap.size) 0 (Fc.stateC a) ?_); refine And.intro ⟨by rfl, by rfl, ⟨_, Tryz.underlying27, rfl⟩, info_state⟩ (And.intro (Who.has_range H0.out.ha) ?_)) | ((with_reducible refine Who.wpList_loadC 27 (.tmp 3) rfl (w.heap.size + 1) 0 (Fc.stateC b) ?_); refine And.intro ⟨by rfl, by rfl, ⟨_, Tryz.underlying27, rfl⟩, info_state⟩ (And.intro (Who.has_range H0.out.hb) ?_)) | fail)
 refine (HST.out _ H0.out.below).mono ?_
 rintro e ws ⟨s, rfl, hp, ho, hb⟩
 have H1 := Lib.hid (H0.out.low hb)
 have HP := Lib.hid hp
 have HO := Lib.hid ho
 have HI0 := Lib.hid (MgI.start ws s s.seen)
 have HSN := Lib.hid (show s.n1 = s.nodes.length ∧ s.n2 = s.links.length from ⟨own_len ho.nodes, own_len ho.links⟩)
 have HSL := Lib.hid (show s.nodes.length ≤ 800000 ∧ s.links.length ≤ 800000 from by
  simp only [Fc.StateC.p, joinP, Fc.StateP.mk.injEq] at hp
  have e1 : (s.nodes.map Fc.NodeC.p).length ≤ ((a.nodes.map Fc.NodeC.p) ++ (b.nodes.map Fc.NodeC.p)).length := by rw [hp.2.1]; exact mrg_len _
  have e2 : s.links.length ≤ (a.links ++ b.links).length := by rw [hp.2.2]; exact mrg_len _
  rw [List.length_append] at e1 e2
  rw [List.length_map] at e1
  have := HSZ.out
  omega)
 have hs1 : s.n1 ≤ 800000 := by have := HSN.out; have := HSL.out; omega
 have hs2 : s.n2 ≤ 800000 := by have := HSN.out; have := HSL.out; omega
 have hv5 := Has.fresh ws 27 (Fc.stateC s)
 have HV5 := Lib.hid hv5
 have c8 : ((ws.alloc (.cells (Fc.stateC s) 27)).alloc (.cells (Fc.stateC (sd s.seen r0 r0)) 27)).cell? ⟨ws.heap.size, 8, none⟩ = some (.slice s.A1 s.n1 s.c1) := HI0.out.h5.at_ 8
 clear hp ho hb H0 HST hv5
 go_wp2_with (first | ((with_reducible refine Who.wpList_newC 27 5 (.tmp 13) rfl rfl rfl (zeroS) (Fc.stateC s) ?_); refine And.intro ⟨rfl, rfl, rfl, allocS, by rfl, by rfl, info_state, rfl, state_one _⟩ ?_; (try simp only [World.size_alloc])) | ((with_reducible refine Who.wpList_loadC 23 (.tmp 14) rfl (ws.heap.size) 0 (vecC s.seen) ?_); refine And.intro ⟨by rfl, by rfl, ⟨_, Tryz.underlying23, rfl⟩, info_vec⟩ (And.intro (state_seen HV5.out) ?_)) | ((with_reducible refine wpList_buildS (.tmp 15) s.seen rfl ?_); refine And.intro ⟨rfl, by rfl⟩ ?_) | ((with_reducible refine Who.wpList_newC 27 6 (.tmp 16) rfl rfl rfl (zeroS) (Fc.stateC (sd s.seen r0 r0)) ?_); refine And.intro ⟨rfl, rfl, rfl, allocS, by rfl, by rfl, info_state, rfl, state_one _⟩ ?_; (try simp only [World.size_alloc])) | fail)
 clear c8 HV5
 go_loopw [20] (fun i wr => ∃ j : Nat, i = .int .i64 j ∧ j ≤ s.n1 ∧ ∃ r : RowP Fc.NodeC, Hid (r.l = (s.nodes.take j).filter (keepN a.p b.p)) ∧ Hid (MgI ws wr s (sd s.seen r r0))) (fun i _ => s.n1 - (intOf i).toNat)
 case atStart => exact ⟨0, rfl, Nat.zero_le _, r0, Lib.hid rfl, HI0⟩
 case round =>
  clear HI0
  obtain ⟨j, rfl, hj, r, HR, HN⟩ := hrel
  by_cases hlt : j < s.n1
  ·obtain ⟨bk, off, hA, hbl, hxj, mr⟩ := ((HO.out.in_.nodes.row).below HN.out.bs).range (i := j) hlt
   replace hxj : j < s.nodes.length := hxj
   obtain ⟨y, hy⟩ : ∃ y, s.nodes[j] = y := ⟨_, rfl⟩
   have HYES := Lib.hid (fun h => filt_yes HR.out hxj hy h)
   have HNO := Lib.hid (fun h => filt_no HR.out hxj hy h)
   replace mr : wr.rangeAt bk (off + j * 13) (Fc.nodeC y).toList := by rw [← hy]; exact mr
   have MR := Lib.hid mr
   have hbn := (Below.refl wr.heap.size wr).alloc (Nat.le_refl _) (.cells (Fc.nodeC y) 46)
   have HN1 := Lib.hid (HN.out.low hbn)
   have HY1 := Lib.hid (Has.fresh wr 46 (Fc.nodeC y))
   have HT1 := Lib.hid (H1.out.low HN1.out.bs)
   have HRL := Lib.hid (show r.l.length ≤ 800000 from by rw [HR.out]; refine Nat.le_trans (List.length_filter_le _ _) ?_; have := HSL.out; rw [List.length_take]; omega)
   replace hA : s.A1 = some ⟨bk, off, none⟩ := hA
   rw [hA]
   clear mr hA hbl hxj hy hbn HN HR
   go_wp2_with (first | ((with_reducible refine Who.wpList_loadC 46 (.tmp 22) rfl (bk) (off + j * 13) (Fc.nodeC y) ?_); refine And.intro ⟨by rfl, by rfl, ⟨_, Tryz.underlying46, rfl⟩, infoN⟩ (And.intro (MR.out) ?_)) | ((with_reducible refine Who.wpList_newC 46 8 (.tmp 23) rfl rfl rfl (zeroN) (Fc.nodeC y) ?_); refine And.intro ⟨rfl, rfl, rfl, allocN, by rfl, by rfl, infoN, rfl, oneN y⟩ ?_; (try simp only [World.size_alloc])) | ((with_reducible refine Who.wpList_loadC 27 (.tmp 2) rfl (w.heap.size) 0 (Fc.stateC a) ?_); refine And.intro ⟨by rfl, by rfl, ⟨_, Tryz.underlying27, rfl⟩, info_state⟩ (And.intro (Who.has_range HT1.out.ha) ?_)) | ((with_reducible refine Who.wpList_loadC 37 (.tmp 25) rfl (wr.heap.size) 0 (#[.int .i64 y.p.id.1, .int .i64 y.p.id.2]) ?_); refine And.intro ⟨by rfl, by rfl, ⟨_, Tryz.underlying37, rfl⟩, info_st⟩ (And.intro (nodeIds_rng HY1.out) ?_)) | fail)
   refine (noN_any a y.p.id _ (HIA.out _ HT1.out.below).nodes.row (Nat.le_trans HLA.out.1 (by decide))).mono ?_
   rintro e w5 ⟨rfl, hb⟩
   have HN2 := Lib.hid (HN1.out.low hb)
   have HY2 := Lib.hid (HY1.out.below hb)
   have HT2 := Lib.hid (HT1.out.low hb)
   clear hb HN1 HY1 HT1
   cases pa : prunedN a.p y.p.id with
   | true =>
    have HF := Lib.hid (HNO.out (show keepN a.p b.p y = false from by unfold keepN; rw [pa]; simp))
    clear HYES HNO
    go_wp2
    go_roundw
    case rel => exact ⟨j + 1, by go_num, by omega, r, HF, HN2⟩
    case measure => simp [intOf]; omega
   | false =>
    go_wp2_with (first | ((with_reducible refine Who.wpList_loadC 27 (.tmp 3) rfl (w.heap.size + 1) 0 (Fc.stateC b) ?_); refine And.intro ⟨by rfl, by rfl, ⟨_, Tryz.underlying27, rfl⟩, info_state⟩ (And.intro (Who.has_range HT2.out.hb) ?_)) | ((with_reducible refine Who.wpList_loadC 37 (.tmp 31) rfl (wr.heap.size) 0 (#[.int .i64 y.p.id.1, .int .i64 y.p.id.2]) ?_); refine And.intro ⟨by rfl, by rfl, ⟨_, Tryz.underlying37, rfl⟩, info_st⟩ (And.intro (nodeIds_rng HY2.out) ?_)) | fail)
    refine (noN_any b y.p.id _ (HIB.out _ HT2.out.below).nodes.row (Nat.le_trans HLB.out.1 (by decide))).mono ?_
    rintro e w6 ⟨rfl, hb⟩
    have HN3 := Lib.hid (HN2.out.low hb)
    have HY3 := Lib.hid (HY2.out.below hb)
    clear hb HN2 HY2 HT2
    cases pb : prunedN b.p y.p.id with
    | true =>
     have HF := Lib.hid (HNO.out (show keepN a.p b.p y = false from by unfold keepN; rw [pa, pb]; simp))
     clear HYES HNO
     go_wp2
     go_roundw
     case rel => exact ⟨j + 1, by go_num, by omega, r, HF, HN3⟩
     case measure => simp [intOf]; omega
    | false =>
     have HF := Lib.hid (HYES.out (show keepN a.p b.p y = true from by unfold keepN; rw [pa, pb]; rfl))
     clear HYES HNO pa pb
     have cc : w6.cell? ⟨(ws.heap.size + 1), 8, none⟩ = some (.slice r.A r.n r.c) := HN3.out.h6.at_ 8
     go_wp2_with (first | ((with_reducible refine Who.wpList_loadC 46 (.tmp 8) rfl (wr.heap.size) 0 (Fc.nodeC y) ?_); refine And.intro ⟨by rfl, by rfl, ⟨_, Tryz.underlying46, rfl⟩, infoN⟩ (And.intro (Who.has_range HY3.out) ?_)) | ((with_reducible refine wpl_build1 kdN (.tmp 38) rfl (y) ?_); refine And.intro ⟨rfl, by rfl⟩ ?_) | (at_builtin; (with_reducible refine wpl_one (B := ws.heap.size) (u := .slice r.A r.n r.c) (es := r.l) (e := y) kdN (.tmp 37) (.tmp 39) rfl rfl ?_); refine And.intro ⟨⟨by rfl, ⟨_, by rfl, by simp⟩⟩, HN3.out.on, HN3.out.bs.size, by have := HRL.out; omega⟩ ?_) | fail)
     intro u7 w7 g7
     obtain ⟨k1, k2, k3, k4⟩ := HN3.out.appN g7
     have HO7 := Lib.hid g7.row
     have HK := Lib.hid (And.intro k1 (And.intro k2 (And.intro k3 k4)))
     clear k1 k2 k3 k4 g7 cc HN3 HY3
     obtain ⟨A6, c6, hv6, _⟩ := HO7.out.any
     subst hv6
     obtain ⟨l7, hl7⟩ : ∃ l7, l7 = r.l ++ [y] := ⟨_, rfl⟩
     rw [← hl7] at HO7 HF
     rw [← hl7]
     clear hl7
     go_wp2_with (first | ((with_reducible refine wpList_cell (T := 27) 24 (.tmp 41) (.tmp 40) rfl (ws.heap.size + 1) 8 (Fc.stateC (sd s.seen r r0)) (Fc.stateC (sd s.seen ⟨A6, l7.length, c6, l7⟩ r0)) (.slice A6 l7.length c6) ?_); refine And.intro ⟨rfl, rfl, by rfl, by rfl, info_sn, rfl, of_decide_eq_true rfl, by kernel_rfl, HK.out.2.2.1⟩ ?_; intro W31 HX31 HC31) | fail)
     have HN8 := Lib.hid (show MgI ws W31 s (sd s.seen ⟨A6, l7.length, c6, l7⟩ r0) from MgI.put HK.out.1 HK.out.2.1 HK.out.2.2.1 HO7.out HK.out.2.2.2 HX31.out HC31.out)
     go_wp2
     go_roundw
     case rel => exact ⟨j + 1, by go_num, by omega, ⟨A6, l7.length, c6, l7⟩, HF, HN8⟩
     case measure => simp [intOf]; omega
  ·have hjn : j = s.n1 := by omega
   have E1 := Lib.hid (show r.l = s.nodes.filter (keepN a.p b.p) from by rw [HR.out, hjn, HSN.out.1, List.take_length])
   clear HR hjn
   obtain ⟨v1, hwo⟩ : ∃ wo : World, wo = wr := ⟨_, rfl⟩
   subst hwo
   obtain ⟨rp, hro⟩ : ∃ ro : RowP Fc.NodeC, ro = r := ⟨_, rfl⟩
   subst hro
   have N1 := HN
   clear HN
   have c9 : v1.cell? ⟨ws.heap.size, 9, none⟩ = some (.slice s.A2 s.n2 s.c2) := N1.out.h5.at_ 9
   go_wp2
   clear c9
   go_loopw [46] (fun i wr => ∃ j : Nat, i = .int .i64 j ∧ j ≤ s.n2 ∧ ∃ r : RowP Fc.LinkP, Hid (r.l = (s.links.take j).filter (keepL a.p b.p)) ∧ Hid (MgI ws wr s (sd s.seen rp r))) (fun i _ => s.n2 - (intOf i).toNat)
   case atStart => exact ⟨0, rfl, Nat.zero_le _, r0, Lib.hid rfl, N1⟩
   case round =>
    clear N1
    obtain ⟨j, rfl, hj, r, HR, HN⟩ := hrel
    by_cases hlt : j < s.n2
    ·obtain ⟨bk, off, hA, hbl, hxj, mr⟩ := ((HO.out.in_.links.row).below HN.out.bs).range (i := j) hlt
     replace hxj : j < s.links.length := hxj
     obtain ⟨y, hy⟩ : ∃ y, s.links[j] = y := ⟨_, rfl⟩
     have HYES := Lib.hid (fun h => filt_yes HR.out hxj hy h)
     have HNO := Lib.hid (fun h => filt_no HR.out hxj hy h)
     replace mr : wr.rangeAt bk (off + j * 25) (Fc.linkC y).toList := by rw [← hy]; exact mr
     have MR := Lib.hid mr
     have hbn := (Below.refl wr.heap.size wr).alloc (Nat.le_refl _) (.cells (Fc.linkC y) 51)
     have HN1 := Lib.hid (HN.out.low hbn)
     have HY1 := Lib.hid (Has.fresh wr 51 (Fc.linkC y))
     have HT1 := Lib.hid (H1.out.low HN1.out.bs)
     have HRL := Lib.hid (show r.l.length ≤ 800000 from by rw [HR.out]; refine Nat.le_trans (List.length_filter_le _ _) ?_; have := HSL.out; rw [List.length_take]; omega)
     replace hA : s.A2 = some ⟨bk, off, none⟩ := hA
     rw [hA]
     clear mr hA hbl hxj hy hbn HN HR
     go_wp2_with (first | ((with_reducible refine Who.wpList_loadC 51 (.tmp 48) rfl (bk) (off + j * 25) (Fc.linkC y) ?_); refine And.intro ⟨by rfl, by rfl, ⟨_, Tryz.underlying51, rfl⟩, info_link⟩ (And.intro (MR.out) ?_)) | ((with_reducible refine Who.wpList_newC 51 10 (.tmp 49) rfl rfl rfl (zeroL) (Fc.linkC y) ?_); refine And.intro ⟨rfl, rfl, rfl, allocL, by rfl, by rfl, info_link, rfl, own1 y⟩ ?_; (try simp only [World.size_alloc])) | ((with_reducible refine Who.wpList_loadC 27 (.tmp 2) rfl (w.heap.size) 0 (Fc.stateC a) ?_); refine And.intro ⟨by rfl, by rfl, ⟨_, Tryz.underlying27, rfl⟩, info_state⟩ (And.intro (Who.has_range HT1.out.ha) ?_)) | ((with_reducible refine Who.wpList_loadC 37 (.tmp 51) rfl (wr.heap.size) 0 (#[.int .i64 y.id.1, .int .i64 y.id.2]) ?_); refine And.intro ⟨by rfl, by rfl, ⟨_, Tryz.underlying37, rfl⟩, info_st⟩ (And.intro (link_id HY1.out) ?_)) | fail)
     refine (noL_any a y.id _ (HIA.out _ HT1.out.below).links.row (Nat.le_trans HLA.out.2 (by decide))).mono ?_
     rintro e w5 ⟨rfl, hb⟩
     have HN2 := Lib.hid (HN1.out.low hb)
     have HY2 := Lib.hid (HY1.out.below hb)
     have HT2 := Lib.hid (HT1.out.low hb)
     clear hb HN1 HY1 HT1
     cases pa : prunedL a.p y.id with
     | true =>
      have HF := Lib.hid (HNO.out (show keepL a.p b.p y = false from by unfold keepL; rw [pa]; simp))
      clear HYES HNO
      go_wp2
      go_roundw
      case rel => exact ⟨j + 1, by go_num, by omega, r, HF, HN2⟩
      case measure => simp [intOf]; omega
     | false =>
      go_wp2_with (first | ((with_reducible refine Who.wpList_loadC 27 (.tmp 3) rfl (w.heap.size + 1) 0 (Fc.stateC b) ?_); refine And.intro ⟨by rfl, by rfl, ⟨_, Tryz.underlying27, rfl⟩, info_state⟩ (And.intro (Who.has_range HT2.out.hb) ?_)) | ((with_reducible refine Who.wpList_loadC 37 (.tmp 57) rfl (wr.heap.size) 0 (#[.int .i64 y.id.1, .int .i64 y.id.2]) ?_); refine And.intro ⟨by rfl, by rfl, ⟨_, Tryz.underlying37, rfl⟩, info_st⟩ (And.intro (link_id HY2.out) ?_)) | fail)
      refine (noL_any b y.id _ (HIB.out _ HT2.out.below).links.row (Nat.le_trans HLB.out.2 (by decide))).mono ?_
      rintro e w6 ⟨rfl, hb⟩
      have HN3 := Lib.hid (HN2.out.low hb)
      have HY3 := Lib.hid (HY2.out.below hb)
      clear hb HN2 HY2 HT2
      cases pb : prunedL b.p y.id with
      | true =>
       have HF := Lib.hid (HNO.out (show keepL a.p b.p y = false from by unfold keepL; rw [pa, pb]; simp))
       clear HYES HNO
       go_wp2
       go_roundw
       case rel => exact ⟨j + 1, by go_num, by omega, r, HF, HN3⟩
       case measure => simp [intOf]; omega
      | false =>
       have HF := Lib.hid (HYES.out (show keepL a.p b.p y = true from by unfold keepL; rw [pa, pb]; rfl))
       clear HYES HNO pa pb
       have cc : w6.cell? ⟨(ws.heap.size + 1), 9, none⟩ = some (.slice r.A r.n r.c) := HN3.out.h6.at_ 9
       go_wp2_with (first | ((with_reducible refine Who.wpList_loadC 51 (.tmp 10) rfl (wr.heap.size) 0 (Fc.linkC y) ?_); refine And.intro ⟨by rfl, by rfl, ⟨_, Tryz.underlying51, rfl⟩, info_link⟩ (And.intro (Who.has_range HY3.out) ?_)) | ((with_reducible refine wpl_build1 kdL (.tmp 64) rfl (y) ?_); refine And.intro ⟨rfl, by rfl⟩ ?_) | (at_builtin; (with_reducible refine wpl_one (B := ws.heap.size) (u := .slice r.A r.n r.c) (es := r.l) (e := y) kdL (.tmp 63) (.tmp 65) rfl rfl ?_); refine And.intro ⟨⟨by rfl, ⟨_, by rfl, by simp⟩⟩, HN3.out.ol, HN3.out.bs.size, by have := HRL.out; omega⟩ ?_) | fail)
       intro u7 w7 g7
       obtain ⟨k1, k2, k3, k4⟩ := HN3.out.appL g7
       have HO7 := Lib.hid g7.row
       have HK := Lib.hid (And.intro k1 (And.intro k2 (And.intro k3 k4)))
       clear k1 k2 k3 k4 g7 cc HN3 HY3
       obtain ⟨A6, c6, hv6, _⟩ := HO7.out.any
       subst hv6
       obtain ⟨l7, hl7⟩ : ∃ l7, l7 = r.l ++ [y] := ⟨_, rfl⟩
       rw [← hl7] at HO7 HF
       rw [← hl7]
       clear hl7
       go_wp2_with (first | ((with_reducible refine wpList_cell (T := 27) 25 (.tmp 67) (.tmp 66) rfl (ws.heap.size + 1) 9 (Fc.stateC (sd s.seen rp r)) (Fc.stateC (sd s.seen rp ⟨A6, l7.length, c6, l7⟩)) (.slice A6 l7.length c6) ?_); refine And.intro ⟨rfl, rfl, by rfl, by rfl, info_sl, rfl, of_decide_eq_true rfl, by kernel_rfl, HK.out.2.2.1⟩ ?_; intro W32 HX32 HC32) | fail)
       have HN8 := Lib.hid (show MgI ws W32 s (sd s.seen rp ⟨A6, l7.length, c6, l7⟩) from MgI.put HK.out.1 HK.out.2.1 HK.out.2.2.1 HK.out.2.2.2 HO7.out HX32.out HC32.out)
       go_wp2
       go_roundw
       case rel => exact ⟨j + 1, by go_num, by omega, ⟨A6, l7.length, c6, l7⟩, HF, HN8⟩
       case measure => simp [intOf]; omega
    ·have hjn : j = s.n2 := by omega
     have E2 := Lib.hid (show r.l = s.links.filter (keepL a.p b.p) from by rw [HR.out, hjn, HSN.out.2, List.take_length])
     clear HR hjn
     obtain ⟨v2, hwo⟩ : ∃ wo : World, wo = wr := ⟨_, rfl⟩
     subst hwo
     obtain ⟨rx, hro⟩ : ∃ ro : RowP Fc.LinkP, ro = r := ⟨_, rfl⟩
     subst hro
     have N2 := HN
     clear HN
     have HTF := Lib.hid (H1.out.low N2.out.bs)
     go_wp2_with (first | ((with_reducible refine Who.wpList_loadC 27 (.tmp 6) rfl ((ws.heap.size + 1)) 0 (Fc.stateC (sd s.seen rp rx)) ?_); refine And.intro ⟨by rfl, by rfl, ⟨_, Tryz.underlying27, rfl⟩, info_state⟩ (And.intro (Who.has_range N2.out.h6) ?_)) | ((with_reducible refine wpList_storeG 27 (.tmp 4) (.tmp 69) rfl (w.heap.size + 1 + 1) (zeroS) (Fc.stateC (sd s.seen rp rx)) ?_); refine And.intro ⟨rfl, by rfl, by rfl, info_state, state_one _, rfl, HTF.out.hz⟩ ?_; intro W33 HX33 HC33) | fail)
     have HBF := Lib.hid (HTF.out.fin HC33.out)
     refine bodyPost_ret (v := .agg (Fc.stateC (sd s.seen rp rx))) (Who.results_cell (p := 4) (t := 27) rfl _ _ (w.heap.size + 1 + 1) 0 (Fc.stateC (sd s.seen rp rx)) _ (by rfl) (Who.has_range HX33.out) Tryz.underlying27 rfl info_state) rfl ?_
     refine ⟨sd s.seen rp rx, rfl, ?_, ⟨own_has (N2.out.on.mono (Nat.zero_le _)) HTF.out.hz HC33.out (by decide), own_has (N2.out.ol.mono (Nat.zero_le _)) HTF.out.hz HC33.out (by decide), fun z hz => ?_⟩, HBF.out⟩
     ·show (⟨s.seen, rp.l.map Fc.NodeC.p, rx.l⟩ : Fc.StateP) = mergeP a.p b.p
      have hp := HP.out
      unfold mergeP
      rw [← hp, E1.out, E2.out]
      congr 1
      ·show (s.nodes.filter (keepN a.p b.p)).map Fc.NodeC.p = (s.nodes.map Fc.NodeC.p).filter _
       rw [List.filter_map]
       rfl
     ·replace hz : z ∈ s.nodes.filter (keepN a.p b.p) := by rw [← E1.out]; exact hz
      exact ((HO.out.each z (List.mem_filter.1 hz).1).below N2.out.bs).past HTF.out.hz HC33.out
end Go.Proofs.YtblogecapegbmaaGreat.Jn
