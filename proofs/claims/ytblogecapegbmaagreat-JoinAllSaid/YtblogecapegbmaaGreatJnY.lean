/- Join: the document's Node. -/
import Derived.Test.YtblogecapegbmaaGreatJnM
namespace Go.Proofs.YtblogecapegbmaaGreat.Jn
open Go.RowKit Go.Proofs.YtblogecapegbmaaGreat.Mem
set_option linter.unusedVariables false set_option linter.unusedSimpArgs false

/-- The first inode of an Id. -/
def firstN (l : List Fc.NodeC) (id : Int × Int) : Option Fc.NodeC := l.find? (fun y => decide (y.p.id = id))
theorem first_here {l : List Fc.NodeC} {id : Int × Int} {k : Nat} (hk : k < l.length) (h : ∀ y ∈ l.take k, y.p.id ≠ id) (e : (l[k]).p.id = id) : firstN l id = some l[k] := by
  unfold firstN
  rw [List.find?_eq_some_iff_getElem]
  exact ⟨by simpa using e, k, hk, rfl, fun j hj => by simpa using h _ (List.mem_take_iff_getElem.2 ⟨j, by omega, rfl⟩)⟩
theorem first_none {l : List Fc.NodeC} {id : Int × Int} (h : ∀ y ∈ l, y.p.id ≠ id) : firstN l id = none := by
  unfold firstN
  rw [List.find?_eq_none]
  intro x hx
  simpa using h x hx
theorem take_more {P : Fc.NodeC → Prop} {l : List Fc.NodeC} {j : Nat} (h : ∀ y ∈ l.take j, P y) (hj : j < l.length) (hp : P l[j]) : ∀ y ∈ l.take (j + 1), P y := fun y hy => by
  rw [List.take_succ_eq_append_getElem hj] at hy
  rcases List.mem_append.1 hy with hy | hy
  · exact h y hy
  · rw [List.mem_singleton.1 hy]; exact hp
theorem build_zeroN (w : World) : (Instr.build 46 #[]).run Tryz.prog w = .ok (.agg zeroN) w := run_build w _ _ _ (by kernel_rfl)
theorem zeroN_one : zeroN.all (·.oneCell') = true := by simp [zeroN, Value.oneCell']
set_option maxRecDepth 100000 in
set_option maxHeartbeats 4000000 in
theorem rnode_any (s : Fc.StateC) (i : Int × Int) (w : World) (hr : Fc.SRow w 13 Fc.nodeC s.A1 s.n1 s.nodes) (hm : s.n1 ≤ 9223372036854775807) : Calls Tryz.prog 21 #[.agg (Fc.stateC s), .agg #[.int .i64 i.1, .int .i64 i.2]] w fun e w' => ((∃ x, firstN s.nodes i = some x ∧ e = .returned (.tuple #[.agg (Fc.nodeC x), .bool true])) ∨ (firstN s.nodes i = none ∧ e = .returned (.tuple #[.agg zeroN, .bool false]))) ∧ Below w.heap.size w w' := by
  have HR := Lib.hid hr
  have HLN := Lib.hid hr.len
  have HB0 := Lib.hid ((((Below.refl w.heap.size w).alloc (Nat.le_refl _) (.cells (Fc.stateC s) 27)).alloc (by simp) (.cells #[.int .i64 i.1, .int .i64 i.2] 37)).alloc (by simp; omega) (.cells zeroN 46))
  have h3 := (Has.fresh (w.alloc (.cells (Fc.stateC s) 27)) 37 #[.int .i64 i.1, .int .i64 i.2]).past (.cells zeroN 46)
  have h4 := Has.fresh ((w.alloc (.cells (Fc.stateC s) 27)).alloc (.cells #[.int .i64 i.1, .int .i64 i.2] 37)) 46 zeroN
  rw [World.size_alloc] at h3
  rw [World.size_alloc, World.size_alloc] at h4
  have HA0 := Lib.hid h3
  have HZ0 := Lib.hid h4
  have c8 : (((w.alloc (.cells (Fc.stateC s) 27)).alloc (.cells #[.int .i64 i.1, .int .i64 i.2] 37)).alloc (.cells zeroN 46)).cell? ⟨w.heap.size, 8, none⟩ = some (.slice s.A1 s.n1 s.c1) := (((Has.fresh w 27 (Fc.stateC s)).past (.cells #[.int .i64 i.1, .int .i64 i.2] 37)).past (.cells zeroN 46)).at_ 8
  have hbz := build_zeroN
  clear hr h3 h4
  go_enter Tryz.func21, Tryz.ntmps21
  go_wp2_with (first | ((with_reducible refine Who.wpList_alloc 46 4 rfl rfl rfl (zeroN) allocN ?_); (try simp only [Act.put, List.setIfInBounds_toArray, List.set_cons_zero, List.set_cons_succ]); (try simp only [World.size_alloc])) | fail)
  clear c8
  go_loopw [11] (fun q wr => ∃ k : Nat, q = .int .i64 k ∧ k ≤ s.n1 ∧ Hid (Below w.heap.size w wr) ∧ Hid (Has wr (w.heap.size + 1) 37 #[.int .i64 i.1, .int .i64 i.2]) ∧ Hid (Has wr (w.heap.size + 1 + 1) 46 zeroN) ∧ Hid (∀ y ∈ s.nodes.take k, y.p.id ≠ i)) (fun q _ => s.n1 - (intOf q).toNat)
  case atStart => exact ⟨0, rfl, Nat.zero_le _, HB0, HA0, HZ0, Lib.hid (fun y hy => by simp at hy)⟩
  case round =>
    clear HB0 HA0 HZ0
    obtain ⟨k, rfl, hk, HB, HA, HZ, HN⟩ := hrel
    by_cases hlt : k < s.n1
    · obtain ⟨b, off, hA, hbl, hx, mr⟩ := (HR.out.below HB.out).range (i := k) hlt
      have HF := Lib.hid (fun e => first_here hx HN.out e)
      have HY := Lib.hid (fun (e : (s.nodes[k]).p.id ≠ i) => take_more (P := fun y => y.p.id ≠ i) HN.out hx e)
      generalize s.nodes[k] = x at *
      have MR := Lib.hid mr
      have HG := Lib.hid (Has.fresh wr 46 (Fc.nodeC x))
      have hbn := (Below.refl wr.heap.size wr).alloc (Nat.le_refl _) (.cells (Fc.nodeC x) 46)
      have HB1 := Lib.hid (HB.out.trans (hbn.mono HB.out.size))
      have HA1 := Lib.hid (HA.out.below hbn)
      have HZ1 := Lib.hid (HZ.out.below hbn)
      rw [hA]
      clear mr hA hbl hx HN hbn HB HA HZ
      by_cases q1 : x.p.id.1 = i.1
      · by_cases q2 : x.p.id.2 = i.2
        · have HFE := Lib.hid (HF.out (Prod.ext q1 q2))
          have heq : ∀ w : World, (Op.equalIn 10000 37 (.agg #[.int .i64 x.p.id.1, .int .i64 x.p.id.2]) (.agg #[.int .i64 i.1, .int .i64 i.2])).run Tryz.prog w = .ok true w := fun w => by have h := Vc.eqs x.p.id.1 x.p.id.2 i.1 i.2 w; rw [show (x.p.id.1 == i.1 && x.p.id.2 == i.2) = true by simp [q1, q2]] at h; exact h
          clear q1 q2
          go_wp2_with (first | ((with_reducible refine Who.wpList_loadC 46 (.tmp 13) rfl (b) (off + k * 13) (Fc.nodeC x) ?_); refine And.intro ⟨by rfl, by rfl, ⟨_, Tryz.underlying46, rfl⟩, infoN⟩ (And.intro (MR.out) ?_); (try simp only [Act.put, List.setIfInBounds_toArray, List.set_cons_zero, List.set_cons_succ])) | ((with_reducible refine Who.wpList_newC 46 7 (.tmp 14) rfl rfl rfl (zeroN) (Fc.nodeC x) ?_); refine And.intro ⟨rfl, rfl, rfl, allocN, by rfl, by rfl, infoN, rfl, oneN x⟩ ?_; (try simp only [Act.put, List.setIfInBounds_toArray, List.set_cons_zero, List.set_cons_succ]); (try simp only [World.size_alloc])) | ((with_reducible refine Who.wpList_loadC 37 (.tmp 15) rfl (wr.heap.size) 0 (#[.int .i64 x.p.id.1, .int .i64 x.p.id.2]) ?_); refine And.intro ⟨by rfl, by rfl, ⟨_, Tryz.underlying37, rfl⟩, info_st⟩ (And.intro (nodeIds_rng HG.out) ?_); (try simp only [Act.put, List.setIfInBounds_toArray, List.set_cons_zero, List.set_cons_succ])) | ((with_reducible refine Who.wpList_loadC 37 (.tmp 3) rfl (w.heap.size + 1) 0 (#[.int .i64 i.1, .int .i64 i.2]) ?_); refine And.intro ⟨by rfl, by rfl, ⟨_, Tryz.underlying37, rfl⟩, info_st⟩ (And.intro (Who.has_range HA1.out) ?_); (try simp only [Act.put, List.setIfInBounds_toArray, List.set_cons_zero, List.set_cons_succ])) | ((with_reducible refine Who.wpList_loadC 46 (.tmp 7) rfl (wr.heap.size) 0 (Fc.nodeC x) ?_); refine And.intro ⟨by rfl, by rfl, ⟨_, Tryz.underlying46, rfl⟩, infoN⟩ (And.intro (Who.has_range HG.out) ?_); (try simp only [Act.put, List.setIfInBounds_toArray, List.set_cons_zero, List.set_cons_succ])) | ((with_reducible refine wpList_storeG 46 (.tmp 4) (.tmp 19) rfl (w.heap.size + 1 + 1) (zeroN) (Fc.nodeC x) ?_); refine And.intro ⟨rfl, by rfl, by rfl, infoN, oneN x, rfl, HZ1.out⟩ ?_; intro W9 HX9 HC9; (try simp only [Act.put, List.setIfInBounds_toArray, List.set_cons_zero, List.set_cons_succ])) | fail)
          have HB9 := Lib.hid (below_step HB1.out HC9.out (by omega))
          refine bodyPost_ret (v := .tuple #[.agg (Fc.nodeC x), .bool true]) (Who.results_cell_tmp (p := 4) (u := 5) (t := 46) rfl _ _ (w.heap.size + 1 + 1) 0 (Fc.nodeC x) _ (by rfl) (Who.has_range HX9.out) Tryz.underlying46 rfl infoN) rfl ?_
          exact ⟨.inl ⟨x, HFE.out, rfl⟩, HB9.out⟩
        · have HYN := Lib.hid (HY.out (fun e => q2 (congrArg Prod.snd e)))
          have heq : ∀ w : World, (Op.equalIn 10000 37 (.agg #[.int .i64 x.p.id.1, .int .i64 x.p.id.2]) (.agg #[.int .i64 i.1, .int .i64 i.2])).run Tryz.prog w = .ok false w := fun w => by have h := Vc.eqs x.p.id.1 x.p.id.2 i.1 i.2 w; rw [show (x.p.id.1 == i.1 && x.p.id.2 == i.2) = false by simp [q2]] at h; exact h
          clear q1 q2
          go_wp2_with (first | ((with_reducible refine Who.wpList_loadC 46 (.tmp 13) rfl (b) (off + k * 13) (Fc.nodeC x) ?_); refine And.intro ⟨by rfl, by rfl, ⟨_, Tryz.underlying46, rfl⟩, infoN⟩ (And.intro (MR.out) ?_); (try simp only [Act.put, List.setIfInBounds_toArray, List.set_cons_zero, List.set_cons_succ])) | ((with_reducible refine Who.wpList_newC 46 7 (.tmp 14) rfl rfl rfl (zeroN) (Fc.nodeC x) ?_); refine And.intro ⟨rfl, rfl, rfl, allocN, by rfl, by rfl, infoN, rfl, oneN x⟩ ?_; (try simp only [Act.put, List.setIfInBounds_toArray, List.set_cons_zero, List.set_cons_succ]); (try simp only [World.size_alloc])) | ((with_reducible refine Who.wpList_loadC 37 (.tmp 15) rfl (wr.heap.size) 0 (#[.int .i64 x.p.id.1, .int .i64 x.p.id.2]) ?_); refine And.intro ⟨by rfl, by rfl, ⟨_, Tryz.underlying37, rfl⟩, info_st⟩ (And.intro (nodeIds_rng HG.out) ?_); (try simp only [Act.put, List.setIfInBounds_toArray, List.set_cons_zero, List.set_cons_succ])) | ((with_reducible refine Who.wpList_loadC 37 (.tmp 3) rfl (w.heap.size + 1) 0 (#[.int .i64 i.1, .int .i64 i.2]) ?_); refine And.intro ⟨by rfl, by rfl, ⟨_, Tryz.underlying37, rfl⟩, info_st⟩ (And.intro (Who.has_range HA1.out) ?_); (try simp only [Act.put, List.setIfInBounds_toArray, List.set_cons_zero, List.set_cons_succ])) | fail)
          go_roundw
          case rel => exact ⟨k + 1, by go_num, by omega, HB1, HA1, HZ1, HYN⟩
          case measure => simp [intOf]; omega
      · have HYN := Lib.hid (HY.out (fun e => q1 (congrArg Prod.fst e)))
        have heq : ∀ w : World, (Op.equalIn 10000 37 (.agg #[.int .i64 x.p.id.1, .int .i64 x.p.id.2]) (.agg #[.int .i64 i.1, .int .i64 i.2])).run Tryz.prog w = .ok false w := fun w => by have h := Vc.eqs x.p.id.1 x.p.id.2 i.1 i.2 w; rw [show (x.p.id.1 == i.1 && x.p.id.2 == i.2) = false by simp [q1]] at h; exact h
        clear q1
        go_wp2_with (first | ((with_reducible refine Who.wpList_loadC 46 (.tmp 13) rfl (b) (off + k * 13) (Fc.nodeC x) ?_); refine And.intro ⟨by rfl, by rfl, ⟨_, Tryz.underlying46, rfl⟩, infoN⟩ (And.intro (MR.out) ?_); (try simp only [Act.put, List.setIfInBounds_toArray, List.set_cons_zero, List.set_cons_succ])) | ((with_reducible refine Who.wpList_newC 46 7 (.tmp 14) rfl rfl rfl (zeroN) (Fc.nodeC x) ?_); refine And.intro ⟨rfl, rfl, rfl, allocN, by rfl, by rfl, infoN, rfl, oneN x⟩ ?_; (try simp only [Act.put, List.setIfInBounds_toArray, List.set_cons_zero, List.set_cons_succ]); (try simp only [World.size_alloc])) | ((with_reducible refine Who.wpList_loadC 37 (.tmp 15) rfl (wr.heap.size) 0 (#[.int .i64 x.p.id.1, .int .i64 x.p.id.2]) ?_); refine And.intro ⟨by rfl, by rfl, ⟨_, Tryz.underlying37, rfl⟩, info_st⟩ (And.intro (nodeIds_rng HG.out) ?_); (try simp only [Act.put, List.setIfInBounds_toArray, List.set_cons_zero, List.set_cons_succ])) | ((with_reducible refine Who.wpList_loadC 37 (.tmp 3) rfl (w.heap.size + 1) 0 (#[.int .i64 i.1, .int .i64 i.2]) ?_); refine And.intro ⟨by rfl, by rfl, ⟨_, Tryz.underlying37, rfl⟩, info_st⟩ (And.intro (Who.has_range HA1.out) ?_); (try simp only [Act.put, List.setIfInBounds_toArray, List.set_cons_zero, List.set_cons_succ])) | fail)
        go_roundw
        case rel => exact ⟨k + 1, by go_num, by omega, HB1, HA1, HZ1, HYN⟩
        case measure => simp [intOf]; omega
    · have HNN := Lib.hid (first_none (l := s.nodes) (id := i) (fun y hy => HN.out y (by rw [List.take_of_length_le (by rw [HLN.out]; omega)]; exact hy)))
      go_wp2_with (first | ((with_reducible refine wpList_storeG 46 (.tmp 4) (.tmp 21) rfl (w.heap.size + 1 + 1) (zeroN) (zeroN) ?_); refine And.intro ⟨rfl, by rfl, by rfl, infoN, zeroN_one, rfl, HZ.out⟩ ?_; intro W9 HX9 HC9; (try simp only [Act.put, List.setIfInBounds_toArray, List.set_cons_zero, List.set_cons_succ])) | fail)
      have HB9 := Lib.hid (below_step HB.out HC9.out (by omega))
      refine bodyPost_ret (v := .tuple #[.agg zeroN, .bool false]) (Who.results_cell_tmp (p := 4) (u := 5) (t := 46) rfl _ _ (w.heap.size + 1 + 1) 0 (zeroN) _ (by rfl) (Who.has_range HX9.out) Tryz.underlying46 rfl infoN) rfl ?_
      exact ⟨.inr ⟨HNN.out, rfl⟩, HB9.out⟩
end Go.Proofs.YtblogecapegbmaaGreat.Jn
