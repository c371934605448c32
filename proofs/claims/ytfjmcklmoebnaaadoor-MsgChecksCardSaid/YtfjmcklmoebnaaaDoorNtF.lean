import Derived.Test.YtfjmcklmoebnaaaDoorNtE

/- Whether a message may be: the document's answer. -/
namespace Go.Proofs.YtfjmcklmoebnaaaDoor.Nt
open Go.RowKit Go.Proofs.YtfjmcklmoebnaaaDoor.Mem Go.Proofs.YtfjmcklmoebnaaaDoor.Vc
set_option linter.unusedVariables false set_option linter.unusedSimpArgs false

section
variable {w : World} {g : Nat} {t : TypeId} {x : MsgP}
theorem has_base0 (h : Has w g t (msgC x)) : Has ((w.setCell ⟨g, 4, none⟩ (.int .i64 0)).setCell ⟨g, 5, none⟩ (.int .i64 0)) g t (msgC { x with base := (0, 0) }) := has_base h (0, 0)
theorem has_mark0 (h : Has w g t (msgC x)) : Has ((w.setCell ⟨g, 6, none⟩ (.int .i64 0)).setCell ⟨g, 7, none⟩ (.int .i64 0)) g t (msgC { x with mark := (0, 0) }) := has_mark h (0, 0)
theorem has_ix0 (h : Has w g t (msgC x)) : Has (w.setCell ⟨g, 8, none⟩ (.int .i64 0)) g t (msgC { x with ix := 0 }) := has_ix h 0
theorem has_tot0 (h : Has w g t (msgC x)) : Has (w.setCell ⟨g, 9, none⟩ (.int .i64 0)) g t (msgC { x with tot := 0 }) := has_tot h 0
theorem has_data0 (h : Has w g t (msgC x)) : Has (w.setCell ⟨g, 18, none⟩ (.string ⟨#[]⟩)) g t (msgC { x with data := ⟨#[]⟩ }) := has_data h ⟨#[]⟩
end
set_option maxRecDepth 100000 in
set_option maxHeartbeats 2000000 in
theorem rnone_told (k : Int × Int) (w : World) : Calls Tryd.prog 26 #[.agg #[.int .i64 k.1, .int .i64 k.2]] w fun e w' => Told (NoneP k) e ∧ Below w.heap.size w w' := by
  obtain ⟨a, b⟩ := k
  dsimp only
  have HB := Lib.hid (((Below.refl w.heap.size w).alloc (Nat.le_refl _) (.cells #[.int .i64 a, .int .i64 b] 23)))
  have HA0 := Lib.hid (show Has (w.alloc (.cells #[.int .i64 a, .int .i64 b] 23)) w.heap.size 23 #[.int .i64 a, .int .i64 b] from by have h := Has.fresh w 23 #[.int .i64 a, .int .i64 b]; (try simp only [World.size_alloc] at h); exact h)
  go_enter Tryd.func26, Tryd.ntmps26
  by_cases q0 : a = 0
  · have K0 := Lib.hid q0
    clear q0
    have e0 : (a == 0) = true := beq_iff_eq.2 K0.out
    by_cases q1 : b = 0
    · have K1 := Lib.hid q1
      clear q1
      have e1 : (b == 0) = true := beq_iff_eq.2 K1.out
      go_wp2
      go_ret
      exact ⟨told_yes ⟨K0.out, K1.out⟩, HB.out⟩
    · have K1 := Lib.hid q1
      clear q1
      have e1 : (b == 0) = false := beq_eq_false_iff_ne.2 K1.out
      go_wp2
      go_ret
      exact ⟨told_no fun h => K1.out h.2, HB.out⟩
  · have K0 := Lib.hid q0
    clear q0
    have e0 : (a == 0) = false := beq_eq_false_iff_ne.2 K0.out
    go_wp2
    go_ret
    exact ⟨told_no fun h => K0.out h.1, HB.out⟩
set_option maxRecDepth 100000 in
set_option maxHeartbeats 2000000 in
theorem rmark_told (k : Int × Int) (w : World) : Calls Tryd.prog 25 #[.agg #[.int .i64 k.1, .int .i64 k.2]] w fun e w' => Told (MarkOk k) e ∧ Below w.heap.size w w' := by
  have H1 := Lib.hid (fun W => rnone_told k W)
  have HB := Lib.hid (((Below.refl w.heap.size w).alloc (Nat.le_refl _) (.cells #[.int .i64 k.1, .int .i64 k.2] 23)))
  have HA0 := Lib.hid (show Has (w.alloc (.cells #[.int .i64 k.1, .int .i64 k.2] 23)) w.heap.size 23 #[.int .i64 k.1, .int .i64 k.2] from by have h := Has.fresh w 23 #[.int .i64 k.1, .int .i64 k.2]; (try simp only [World.size_alloc] at h); exact h)
  go_enter Tryd.func25, Tryd.ntmps25
  go_wp2_with fail
  refine (H1.out _).mono ?_
  rintro e w0 ⟨⟨b0, rfl, p0⟩, hb⟩
  replace HB := Lib.hid (HB.out.trans (hb.mono HB.out.size))
  replace HA0 := Lib.hid (HA0.out.below hb)
  have hr0 := fun j => HA0.out.at_ j
  clear hb
  cases b0 with
  | true =>
    have K0 := Lib.hid (p0.1 rfl)
    clear p0
    go_wp2
    go_ret
    exact ⟨told_yes (.inl K0.out), HB.out⟩
  | false =>
    have K0 := Lib.hid (told_not p0)
    clear p0
    by_cases q1 : 1 ≤ k.1
    · have K1 := Lib.hid q1
      by_cases q2 : k.1 ≤ 1099511627776
      · have K2 := Lib.hid q2
        by_cases q3 : 1 ≤ k.2
        · have K3 := Lib.hid q3
          by_cases q4 : k.2 ≤ 1099511627776
          · have K4 := Lib.hid q4
            go_wp2
            go_ret
            exact ⟨told_yes (.inr ⟨⟨K1.out, K2.out⟩, K3.out, K4.out⟩), HB.out⟩
          · have K4 := Lib.hid q4
            have e4 : decide (k.2 ≤ 1099511627776) = false := decide_eq_false K4.out
            go_wp2
            go_ret
            exact ⟨told_no (P := MarkOk k) fun h => Or.elim h K0.out fun h => by have h1 := K4.out; have h2 := h.2.2; omega, HB.out⟩
        · have K3 := Lib.hid q3
          go_wp2
          go_ret
          exact ⟨told_no (P := MarkOk k) fun h => Or.elim h K0.out fun h => by have h1 := K3.out; have h2 := h.2.1; omega, HB.out⟩
      · have K2 := Lib.hid q2
        go_wp2
        go_ret
        exact ⟨told_no (P := MarkOk k) fun h => Or.elim h K0.out fun h => by have h1 := K2.out; have h2 := h.1.2; omega, HB.out⟩
    · have K1 := Lib.hid q1
      go_wp2
      go_ret
      exact ⟨told_no (P := MarkOk k) fun h => Or.elim h K0.out fun h => by have h1 := K1.out; have h2 := h.1.1; omega, HB.out⟩
set_option maxRecDepth 100000 in
set_option maxHeartbeats 4000000 in
theorem rbare_k1 (m : MsgP) (q1 : m.kind = 1) (w : World) : Calls Tryd.prog 12 #[.agg (msgC m)] w fun e w' => e = .returned (.agg (msgC (bareM m))) ∧ Below w.heap.size w w' := by
  have HE := Lib.hid (show bareM m = { m with tot := 0, data := ⟨#[]⟩ } from by unfold bareM; simp [q1])
  have e1 : (m.kind != 1) = false := by simp [q1]
  have e2 : (m.kind != 2) = true := by simp [q1]
  have e4 : (m.kind != 4) = true := by simp [q1]
  clear q1
  have HB := Lib.hid ((((Below.refl w.heap.size w).alloc (Nat.le_refl _) (.cells (msgC m) 27)).alloc (by simp) (.cells (msgC msg0) 27)).alloc (by simp <;> omega) (.cells (msgC m) 27))
  have HA0 := Lib.hid (show Has (((w.alloc (.cells (msgC m) 27)).alloc (.cells (msgC msg0) 27)).alloc (.cells (msgC m) 27)) w.heap.size 27 (msgC m) from ((Has.fresh w 27 (msgC m)).past _).past _)
  have HR := Lib.hid (show Has (((w.alloc (.cells (msgC m) 27)).alloc (.cells (msgC msg0) 27)).alloc (.cells (msgC m) 27)) (w.heap.size + 1) 27 (msgC msg0) from by have h := Has.fresh (w.alloc (.cells (msgC m) 27)) 27 (msgC msg0); rw [World.size_alloc] at h; exact h.past _)
  have HT := Lib.hid (show Has (((w.alloc (.cells (msgC m) 27)).alloc (.cells (msgC msg0) 27)).alloc (.cells (msgC m) 27)) (w.heap.size + 1 + 1) 27 (msgC m) from by have h := Has.fresh ((w.alloc (.cells (msgC m) 27)).alloc (.cells (msgC msg0) 27)) 27 (msgC m); simp only [World.size_alloc] at h; exact h)
  have c0 : (msgC m)[0]? = some (.int .i64 m.kind) := rfl
  have hal := alloc_msg
  have h00 := Lib.hid (Has.fresh w 27 (msgC m))
  go_enter Tryd.func12, Tryd.ntmps12
  go_wp2_with (first | ((with_reducible refine Who.wpList_alloc 27 2 rfl rfl rfl (msgC msg0) hal ?_); try simp only [Act.put, List.setIfInBounds_toArray, List.set_cons_zero, List.set_cons_succ]; (try simp only [World.size_alloc])) | ((with_reducible refine Who.wpList_loadC 27 (.tmp 1) rfl w.heap.size 0 (msgC m) ?_); refine And.intro ⟨by rfl, by rfl, ⟨_, Tryd.underlying27, rfl⟩, info_size _⟩ (And.intro (Who.has_range (h00.out.past _)) ?_); try simp only [Act.put, List.setIfInBounds_toArray, List.set_cons_zero, List.set_cons_succ]) | ((with_reducible refine Who.wpList_newC 27 3 (.tmp 4) rfl rfl rfl (msgC msg0) (msgC m) ?_); refine And.intro ⟨rfl, rfl, rfl, hal, by rfl, by rfl, info_size m, rfl, msgC_one m⟩ ?_; try simp only [Act.put, List.setIfInBounds_toArray, List.set_cons_zero, List.set_cons_succ]; (try simp only [World.size_alloc]); obtain ⟨w1, hw1⟩ : ∃ w1, w1 = (((w.alloc (.cells (msgC m) 27)).alloc (.cells (msgC msg0) 27)).alloc (.cells (msgC m) 27)) := ⟨_, rfl⟩; rw [← hw1] at HT HR HA0 HB ⊢; clear hw1; have hs0 := HA0.out.bound; have hs1 := HR.out.bound; have hs2 := HT.out.bound; have hr0 := fun j => HA0.out.at_ j; have d9 : w1.cell? ⟨w.heap.size + 1 + 1, 9, none⟩ = some (.int .i64 m.tot) := HT.out.at_ 9; have f9 := HT.out.free 9; have d18 : w1.cell? ⟨w.heap.size + 1 + 1, 18, none⟩ = some (.string m.data) := HT.out.at_ 18; have f18 := HT.out.free 18) | ((with_reducible refine Who.wpList_loadC 27 (.tmp 3) rfl (w.heap.size + 1 + 1) 0 (msgC (bareM m)) ?_); refine And.intro ⟨by rfl, by rfl, ⟨_, Tryd.underlying27, rfl⟩, info_size _⟩ (And.intro (Who.has_range (t := 27) (by rw [HE.out]; have h := (has_data0 (has_tot0 HT.out)); exact h)) ?_); try simp only [Act.put, List.setIfInBounds_toArray, List.set_cons_zero, List.set_cons_succ]) | ((with_reducible refine Who.wpList_storeC 27 (.tmp 2) (.tmp 36) rfl (w.heap.size + 1) 0 (msgC (bareM m)) ?_); refine And.intro ⟨rfl, by rfl, by rfl, info_size _, msgC_one _⟩ (And.intro (Who.has_there (t := 27) (cs := msgC msg0) (by have h := ((HR.out).keep (p := ⟨w.heap.size + 1 + 1, 9, none⟩) (by show w.heap.size + 1 ≠ w.heap.size + 1 + 1; omega) (.int .i64 0)).keep (p := ⟨w.heap.size + 1 + 1, 18, none⟩) (by show w.heap.size + 1 ≠ w.heap.size + 1 + 1; omega) (.string ⟨#[]⟩); exact h) rfl) ?_); try simp only [Act.put, List.setIfInBounds_toArray, List.set_cons_zero, List.set_cons_succ]))
  refine bodyPost_ret (v := .agg (msgC (bareM m))) (Who.results_cell Tryd.results12 _ _ (w.heap.size + 1) 0 (msgC (bareM m)) _ (by rfl) (Who.has_range (Who.has_over (((HR.out).keep (p := ⟨w.heap.size + 1 + 1, 9, none⟩) (by show w.heap.size + 1 ≠ w.heap.size + 1 + 1; omega) (.int .i64 0)).keep (p := ⟨w.heap.size + 1 + 1, 18, none⟩) (by show w.heap.size + 1 ≠ w.heap.size + 1 + 1; omega) (.string ⟨#[]⟩)) rfl)) Tryd.underlying27 rfl (info_size _)) rfl ⟨rfl, Who.below_setCells (((HB.out).setCell (p := ⟨w.heap.size + 1 + 1, 9, none⟩) (by show w.heap.size ≤ w.heap.size + 1 + 1; omega) (.int .i64 0)).setCell (p := ⟨w.heap.size + 1 + 1, 18, none⟩) (by show w.heap.size ≤ w.heap.size + 1 + 1; omega) (.string ⟨#[]⟩)) (by omega) 0 _⟩
set_option maxRecDepth 100000 in
set_option maxHeartbeats 4000000 in
theorem rbare_k2 (m : MsgP) (q2 : m.kind = 2) (w : World) : Calls Tryd.prog 12 #[.agg (msgC m)] w fun e w' => e = .returned (.agg (msgC (bareM m))) ∧ Below w.heap.size w w' := by
  have HE := Lib.hid (show bareM m = m from by cases m; simp_all [bareM])
  have e1 : (m.kind != 1) = true := by simp [q2]
  have e2 : (m.kind != 2) = false := by simp [q2]
  have e4 : (m.kind != 4) = true := by simp [q2]
  clear q2
  have HB := Lib.hid ((((Below.refl w.heap.size w).alloc (Nat.le_refl _) (.cells (msgC m) 27)).alloc (by simp) (.cells (msgC msg0) 27)).alloc (by simp <;> omega) (.cells (msgC m) 27))
  have HA0 := Lib.hid (show Has (((w.alloc (.cells (msgC m) 27)).alloc (.cells (msgC msg0) 27)).alloc (.cells (msgC m) 27)) w.heap.size 27 (msgC m) from ((Has.fresh w 27 (msgC m)).past _).past _)
  have HR := Lib.hid (show Has (((w.alloc (.cells (msgC m) 27)).alloc (.cells (msgC msg0) 27)).alloc (.cells (msgC m) 27)) (w.heap.size + 1) 27 (msgC msg0) from by have h := Has.fresh (w.alloc (.cells (msgC m) 27)) 27 (msgC msg0); rw [World.size_alloc] at h; exact h.past _)
  have HT := Lib.hid (show Has (((w.alloc (.cells (msgC m) 27)).alloc (.cells (msgC msg0) 27)).alloc (.cells (msgC m) 27)) (w.heap.size + 1 + 1) 27 (msgC m) from by have h := Has.fresh ((w.alloc (.cells (msgC m) 27)).alloc (.cells (msgC msg0) 27)) 27 (msgC m); simp only [World.size_alloc] at h; exact h)
  have c0 : (msgC m)[0]? = some (.int .i64 m.kind) := rfl
  have hal := alloc_msg
  have h00 := Lib.hid (Has.fresh w 27 (msgC m))
  go_enter Tryd.func12, Tryd.ntmps12
  go_wp2_with (first | ((with_reducible refine Who.wpList_alloc 27 2 rfl rfl rfl (msgC msg0) hal ?_); try simp only [Act.put, List.setIfInBounds_toArray, List.set_cons_zero, List.set_cons_succ]; (try simp only [World.size_alloc])) | ((with_reducible refine Who.wpList_loadC 27 (.tmp 1) rfl w.heap.size 0 (msgC m) ?_); refine And.intro ⟨by rfl, by rfl, ⟨_, Tryd.underlying27, rfl⟩, info_size _⟩ (And.intro (Who.has_range (h00.out.past _)) ?_); try simp only [Act.put, List.setIfInBounds_toArray, List.set_cons_zero, List.set_cons_succ]) | ((with_reducible refine Who.wpList_newC 27 3 (.tmp 4) rfl rfl rfl (msgC msg0) (msgC m) ?_); refine And.intro ⟨rfl, rfl, rfl, hal, by rfl, by rfl, info_size m, rfl, msgC_one m⟩ ?_; try simp only [Act.put, List.setIfInBounds_toArray, List.set_cons_zero, List.set_cons_succ]; (try simp only [World.size_alloc]); obtain ⟨w1, hw1⟩ : ∃ w1, w1 = (((w.alloc (.cells (msgC m) 27)).alloc (.cells (msgC msg0) 27)).alloc (.cells (msgC m) 27)) := ⟨_, rfl⟩; rw [← hw1] at HT HR HA0 HB ⊢; clear hw1; have hs0 := HA0.out.bound; have hs1 := HR.out.bound; have hs2 := HT.out.bound; have hr0 := fun j => HA0.out.at_ j) | ((with_reducible refine Who.wpList_loadC 27 (.tmp 3) rfl (w.heap.size + 1 + 1) 0 (msgC (bareM m)) ?_); refine And.intro ⟨by rfl, by rfl, ⟨_, Tryd.underlying27, rfl⟩, info_size _⟩ (And.intro (Who.has_range (t := 27) (by rw [HE.out]; have h := HT.out; exact h)) ?_); try simp only [Act.put, List.setIfInBounds_toArray, List.set_cons_zero, List.set_cons_succ]) | ((with_reducible refine Who.wpList_storeC 27 (.tmp 2) (.tmp 36) rfl (w.heap.size + 1) 0 (msgC (bareM m)) ?_); refine And.intro ⟨rfl, by rfl, by rfl, info_size _, msgC_one _⟩ (And.intro (Who.has_there (t := 27) (cs := msgC msg0) (by have h := HR.out; exact h) rfl) ?_); try simp only [Act.put, List.setIfInBounds_toArray, List.set_cons_zero, List.set_cons_succ]))
  refine bodyPost_ret (v := .agg (msgC (bareM m))) (Who.results_cell Tryd.results12 _ _ (w.heap.size + 1) 0 (msgC (bareM m)) _ (by rfl) (Who.has_range (Who.has_over (HR.out) rfl)) Tryd.underlying27 rfl (info_size _)) rfl ⟨rfl, Who.below_setCells (HB.out) (by omega) 0 _⟩
set_option maxRecDepth 100000 in
set_option maxHeartbeats 4000000 in
theorem rbare_k4 (m : MsgP) (q4 : m.kind = 4) (w : World) : Calls Tryd.prog 12 #[.agg (msgC m)] w fun e w' => e = .returned (.agg (msgC (bareM m))) ∧ Below w.heap.size w w' := by
  have HE := Lib.hid (show bareM m = { m with base := (0, 0), ix := 0, tot := 0, data := ⟨#[]⟩ } from by unfold bareM; simp [q4])
  have e1 : (m.kind != 1) = true := by simp [q4]
  have e2 : (m.kind != 2) = true := by simp [q4]
  have e4 : (m.kind != 4) = false := by simp [q4]
  clear q4
  have HB := Lib.hid ((((Below.refl w.heap.size w).alloc (Nat.le_refl _) (.cells (msgC m) 27)).alloc (by simp) (.cells (msgC msg0) 27)).alloc (by simp <;> omega) (.cells (msgC m) 27))
  have HA0 := Lib.hid (show Has (((w.alloc (.cells (msgC m) 27)).alloc (.cells (msgC msg0) 27)).alloc (.cells (msgC m) 27)) w.heap.size 27 (msgC m) from ((Has.fresh w 27 (msgC m)).past _).past _)
  have HR := Lib.hid (show Has (((w.alloc (.cells (msgC m) 27)).alloc (.cells (msgC msg0) 27)).alloc (.cells (msgC m) 27)) (w.heap.size + 1) 27 (msgC msg0) from by have h := Has.fresh (w.alloc (.cells (msgC m) 27)) 27 (msgC msg0); rw [World.size_alloc] at h; exact h.past _)
  have HT := Lib.hid (show Has (((w.alloc (.cells (msgC m) 27)).alloc (.cells (msgC msg0) 27)).alloc (.cells (msgC m) 27)) (w.heap.size + 1 + 1) 27 (msgC m) from by have h := Has.fresh ((w.alloc (.cells (msgC m) 27)).alloc (.cells (msgC msg0) 27)) 27 (msgC m); simp only [World.size_alloc] at h; exact h)
  have c0 : (msgC m)[0]? = some (.int .i64 m.kind) := rfl
  have hal := alloc_msg
  have h00 := Lib.hid (Has.fresh w 27 (msgC m))
  go_enter Tryd.func12, Tryd.ntmps12
  go_wp2_with (first | ((with_reducible refine Who.wpList_alloc 27 2 rfl rfl rfl (msgC msg0) hal ?_); try simp only [Act.put, List.setIfInBounds_toArray, List.set_cons_zero, List.set_cons_succ]; (try simp only [World.size_alloc])) | ((with_reducible refine Who.wpList_loadC 27 (.tmp 1) rfl w.heap.size 0 (msgC m) ?_); refine And.intro ⟨by rfl, by rfl, ⟨_, Tryd.underlying27, rfl⟩, info_size _⟩ (And.intro (Who.has_range (h00.out.past _)) ?_); try simp only [Act.put, List.setIfInBounds_toArray, List.set_cons_zero, List.set_cons_succ]) | ((with_reducible refine Who.wpList_newC 27 3 (.tmp 4) rfl rfl rfl (msgC msg0) (msgC m) ?_); refine And.intro ⟨rfl, rfl, rfl, hal, by rfl, by rfl, info_size m, rfl, msgC_one m⟩ ?_; try simp only [Act.put, List.setIfInBounds_toArray, List.set_cons_zero, List.set_cons_succ]; (try simp only [World.size_alloc]); obtain ⟨w1, hw1⟩ : ∃ w1, w1 = (((w.alloc (.cells (msgC m) 27)).alloc (.cells (msgC msg0) 27)).alloc (.cells (msgC m) 27)) := ⟨_, rfl⟩; rw [← hw1] at HT HR HA0 HB ⊢; clear hw1; have hs0 := HA0.out.bound; have hs1 := HR.out.bound; have hs2 := HT.out.bound; have hr0 := fun j => HA0.out.at_ j; have d4 : w1.cell? ⟨w.heap.size + 1 + 1, 4, none⟩ = some (.int .i64 m.base.1) := HT.out.at_ 4; have f4 := HT.out.free 4; have d5 : w1.cell? ⟨w.heap.size + 1 + 1, 5, none⟩ = some (.int .i64 m.base.2) := HT.out.at_ 5; have f5 := HT.out.free 5; have d8 : w1.cell? ⟨w.heap.size + 1 + 1, 8, none⟩ = some (.int .i64 m.ix) := HT.out.at_ 8; have f8 := HT.out.free 8; have d9 : w1.cell? ⟨w.heap.size + 1 + 1, 9, none⟩ = some (.int .i64 m.tot) := HT.out.at_ 9; have f9 := HT.out.free 9; have d18 : w1.cell? ⟨w.heap.size + 1 + 1, 18, none⟩ = some (.string m.data) := HT.out.at_ 18; have f18 := HT.out.free 18) | ((with_reducible refine Who.wpList_loadC 27 (.tmp 3) rfl (w.heap.size + 1 + 1) 0 (msgC (bareM m)) ?_); refine And.intro ⟨by rfl, by rfl, ⟨_, Tryd.underlying27, rfl⟩, info_size _⟩ (And.intro (Who.has_range (t := 27) (by rw [HE.out]; have h := (has_data0 (has_tot0 (has_ix0 (has_base0 HT.out)))); exact h)) ?_); try simp only [Act.put, List.setIfInBounds_toArray, List.set_cons_zero, List.set_cons_succ]) | ((with_reducible refine Who.wpList_storeC 27 (.tmp 2) (.tmp 36) rfl (w.heap.size + 1) 0 (msgC (bareM m)) ?_); refine And.intro ⟨rfl, by rfl, by rfl, info_size _, msgC_one _⟩ (And.intro (Who.has_there (t := 27) (cs := msgC msg0) (by have h := (((((HR.out).keep (p := ⟨w.heap.size + 1 + 1, 4, none⟩) (by show w.heap.size + 1 ≠ w.heap.size + 1 + 1; omega) (.int .i64 0)).keep (p := ⟨w.heap.size + 1 + 1, 5, none⟩) (by show w.heap.size + 1 ≠ w.heap.size + 1 + 1; omega) (.int .i64 0)).keep (p := ⟨w.heap.size + 1 + 1, 8, none⟩) (by show w.heap.size + 1 ≠ w.heap.size + 1 + 1; omega) (.int .i64 0)).keep (p := ⟨w.heap.size + 1 + 1, 9, none⟩) (by show w.heap.size + 1 ≠ w.heap.size + 1 + 1; omega) (.int .i64 0)).keep (p := ⟨w.heap.size + 1 + 1, 18, none⟩) (by show w.heap.size + 1 ≠ w.heap.size + 1 + 1; omega) (.string ⟨#[]⟩); exact h) rfl) ?_); try simp only [Act.put, List.setIfInBounds_toArray, List.set_cons_zero, List.set_cons_succ]))
  refine bodyPost_ret (v := .agg (msgC (bareM m))) (Who.results_cell Tryd.results12 _ _ (w.heap.size + 1) 0 (msgC (bareM m)) _ (by rfl) (Who.has_range (Who.has_over ((((((HR.out).keep (p := ⟨w.heap.size + 1 + 1, 4, none⟩) (by show w.heap.size + 1 ≠ w.heap.size + 1 + 1; omega) (.int .i64 0)).keep (p := ⟨w.heap.size + 1 + 1, 5, none⟩) (by show w.heap.size + 1 ≠ w.heap.size + 1 + 1; omega) (.int .i64 0)).keep (p := ⟨w.heap.size + 1 + 1, 8, none⟩) (by show w.heap.size + 1 ≠ w.heap.size + 1 + 1; omega) (.int .i64 0)).keep (p := ⟨w.heap.size + 1 + 1, 9, none⟩) (by show w.heap.size + 1 ≠ w.heap.size + 1 + 1; omega) (.int .i64 0)).keep (p := ⟨w.heap.size + 1 + 1, 18, none⟩) (by show w.heap.size + 1 ≠ w.heap.size + 1 + 1; omega) (.string ⟨#[]⟩)) rfl)) Tryd.underlying27 rfl (info_size _)) rfl ⟨rfl, Who.below_setCells ((((((HB.out).setCell (p := ⟨w.heap.size + 1 + 1, 4, none⟩) (by show w.heap.size ≤ w.heap.size + 1 + 1; omega) (.int .i64 0)).setCell (p := ⟨w.heap.size + 1 + 1, 5, none⟩) (by show w.heap.size ≤ w.heap.size + 1 + 1; omega) (.int .i64 0)).setCell (p := ⟨w.heap.size + 1 + 1, 8, none⟩) (by show w.heap.size ≤ w.heap.size + 1 + 1; omega) (.int .i64 0)).setCell (p := ⟨w.heap.size + 1 + 1, 9, none⟩) (by show w.heap.size ≤ w.heap.size + 1 + 1; omega) (.int .i64 0)).setCell (p := ⟨w.heap.size + 1 + 1, 18, none⟩) (by show w.heap.size ≤ w.heap.size + 1 + 1; omega) (.string ⟨#[]⟩)) (by omega) 0 _⟩
set_option maxRecDepth 100000 in
set_option maxHeartbeats 4000000 in
theorem rbare_k0 (m : MsgP) (q1 : ¬ m.kind = 1) (q2 : ¬ m.kind = 2) (q4 : ¬ m.kind = 4) (w : World) : Calls Tryd.prog 12 #[.agg (msgC m)] w fun e w' => e = .returned (.agg (msgC (bareM m))) ∧ Below w.heap.size w w' := by
  have HE := Lib.hid (show bareM m = { m with base := (0, 0), ix := 0, mark := (0, 0), tot := 0, data := ⟨#[]⟩ } from by unfold bareM; simp [q1, q2, q4])
  have e1 : (m.kind != 1) = true := by simp [q1, q2, q4]
  have e2 : (m.kind != 2) = true := by simp [q1, q2, q4]
  have e4 : (m.kind != 4) = true := by simp [q1, q2, q4]
  clear q1 q2 q4
  have HB := Lib.hid ((((Below.refl w.heap.size w).alloc (Nat.le_refl _) (.cells (msgC m) 27)).alloc (by simp) (.cells (msgC msg0) 27)).alloc (by simp <;> omega) (.cells (msgC m) 27))
  have HA0 := Lib.hid (show Has (((w.alloc (.cells (msgC m) 27)).alloc (.cells (msgC msg0) 27)).alloc (.cells (msgC m) 27)) w.heap.size 27 (msgC m) from ((Has.fresh w 27 (msgC m)).past _).past _)
  have HR := Lib.hid (show Has (((w.alloc (.cells (msgC m) 27)).alloc (.cells (msgC msg0) 27)).alloc (.cells (msgC m) 27)) (w.heap.size + 1) 27 (msgC msg0) from by have h := Has.fresh (w.alloc (.cells (msgC m) 27)) 27 (msgC msg0); rw [World.size_alloc] at h; exact h.past _)
  have HT := Lib.hid (show Has (((w.alloc (.cells (msgC m) 27)).alloc (.cells (msgC msg0) 27)).alloc (.cells (msgC m) 27)) (w.heap.size + 1 + 1) 27 (msgC m) from by have h := Has.fresh ((w.alloc (.cells (msgC m) 27)).alloc (.cells (msgC msg0) 27)) 27 (msgC m); simp only [World.size_alloc] at h; exact h)
  have c0 : (msgC m)[0]? = some (.int .i64 m.kind) := rfl
  have hal := alloc_msg
  have h00 := Lib.hid (Has.fresh w 27 (msgC m))
  go_enter Tryd.func12, Tryd.ntmps12
  go_wp2_with (first | ((with_reducible refine Who.wpList_alloc 27 2 rfl rfl rfl (msgC msg0) hal ?_); try simp only [Act.put, List.setIfInBounds_toArray, List.set_cons_zero, List.set_cons_succ]; (try simp only [World.size_alloc])) | ((with_reducible refine Who.wpList_loadC 27 (.tmp 1) rfl w.heap.size 0 (msgC m) ?_); refine And.intro ⟨by rfl, by rfl, ⟨_, Tryd.underlying27, rfl⟩, info_size _⟩ (And.intro (Who.has_range (h00.out.past _)) ?_); try simp only [Act.put, List.setIfInBounds_toArray, List.set_cons_zero, List.set_cons_succ]) | ((with_reducible refine Who.wpList_newC 27 3 (.tmp 4) rfl rfl rfl (msgC msg0) (msgC m) ?_); refine And.intro ⟨rfl, rfl, rfl, hal, by rfl, by rfl, info_size m, rfl, msgC_one m⟩ ?_; try simp only [Act.put, List.setIfInBounds_toArray, List.set_cons_zero, List.set_cons_succ]; (try simp only [World.size_alloc]); obtain ⟨w1, hw1⟩ : ∃ w1, w1 = (((w.alloc (.cells (msgC m) 27)).alloc (.cells (msgC msg0) 27)).alloc (.cells (msgC m) 27)) := ⟨_, rfl⟩; rw [← hw1] at HT HR HA0 HB ⊢; clear hw1; have hs0 := HA0.out.bound; have hs1 := HR.out.bound; have hs2 := HT.out.bound; have hr0 := fun j => HA0.out.at_ j; have d4 : w1.cell? ⟨w.heap.size + 1 + 1, 4, none⟩ = some (.int .i64 m.base.1) := HT.out.at_ 4; have f4 := HT.out.free 4; have d5 : w1.cell? ⟨w.heap.size + 1 + 1, 5, none⟩ = some (.int .i64 m.base.2) := HT.out.at_ 5; have f5 := HT.out.free 5; have d8 : w1.cell? ⟨w.heap.size + 1 + 1, 8, none⟩ = some (.int .i64 m.ix) := HT.out.at_ 8; have f8 := HT.out.free 8; have d6 : w1.cell? ⟨w.heap.size + 1 + 1, 6, none⟩ = some (.int .i64 m.mark.1) := HT.out.at_ 6; have f6 := HT.out.free 6; have d7 : w1.cell? ⟨w.heap.size + 1 + 1, 7, none⟩ = some (.int .i64 m.mark.2) := HT.out.at_ 7; have f7 := HT.out.free 7; have d9 : w1.cell? ⟨w.heap.size + 1 + 1, 9, none⟩ = some (.int .i64 m.tot) := HT.out.at_ 9; have f9 := HT.out.free 9; have d18 : w1.cell? ⟨w.heap.size + 1 + 1, 18, none⟩ = some (.string m.data) := HT.out.at_ 18; have f18 := HT.out.free 18) | ((with_reducible refine Who.wpList_loadC 27 (.tmp 3) rfl (w.heap.size + 1 + 1) 0 (msgC (bareM m)) ?_); refine And.intro ⟨by rfl, by rfl, ⟨_, Tryd.underlying27, rfl⟩, info_size _⟩ (And.intro (Who.has_range (t := 27) (by rw [HE.out]; have h := (has_data0 (has_tot0 (has_mark0 (has_ix0 (has_base0 HT.out))))); exact h)) ?_); try simp only [Act.put, List.setIfInBounds_toArray, List.set_cons_zero, List.set_cons_succ]) | ((with_reducible refine Who.wpList_storeC 27 (.tmp 2) (.tmp 36) rfl (w.heap.size + 1) 0 (msgC (bareM m)) ?_); refine And.intro ⟨rfl, by rfl, by rfl, info_size _, msgC_one _⟩ (And.intro (Who.has_there (t := 27) (cs := msgC msg0) (by have h := (((((((HR.out).keep (p := ⟨w.heap.size + 1 + 1, 4, none⟩) (by show w.heap.size + 1 ≠ w.heap.size + 1 + 1; omega) (.int .i64 0)).keep (p := ⟨w.heap.size + 1 + 1, 5, none⟩) (by show w.heap.size + 1 ≠ w.heap.size + 1 + 1; omega) (.int .i64 0)).keep (p := ⟨w.heap.size + 1 + 1, 8, none⟩) (by show w.heap.size + 1 ≠ w.heap.size + 1 + 1; omega) (.int .i64 0)).keep (p := ⟨w.heap.size + 1 + 1, 6, none⟩) (by show w.heap.size + 1 ≠ w.heap.size + 1 + 1; omega) (.int .i64 0)).keep (p := ⟨w.heap.size + 1 + 1, 7, none⟩) (by show w.heap.size + 1 ≠ w.heap.size + 1 + 1; omega) (.int .i64 0)).keep (p := ⟨w.heap.size + 1 + 1, 9, none⟩) (by show w.heap.size + 1 ≠ w.heap.size + 1 + 1; omega) (.int .i64 0)).keep (p := ⟨w.heap.size + 1 + 1, 18, none⟩) (by show w.heap.size + 1 ≠ w.heap.size + 1 + 1; omega) (.string ⟨#[]⟩); exact h) rfl) ?_); try simp only [Act.put, List.setIfInBounds_toArray, List.set_cons_zero, List.set_cons_succ]))
  refine bodyPost_ret (v := .agg (msgC (bareM m))) (Who.results_cell Tryd.results12 _ _ (w.heap.size + 1) 0 (msgC (bareM m)) _ (by rfl) (Who.has_range (Who.has_over ((((((((HR.out).keep (p := ⟨w.heap.size + 1 + 1, 4, none⟩) (by show w.heap.size + 1 ≠ w.heap.size + 1 + 1; omega) (.int .i64 0)).keep (p := ⟨w.heap.size + 1 + 1, 5, none⟩) (by show w.heap.size + 1 ≠ w.heap.size + 1 + 1; omega) (.int .i64 0)).keep (p := ⟨w.heap.size + 1 + 1, 8, none⟩) (by show w.heap.size + 1 ≠ w.heap.size + 1 + 1; omega) (.int .i64 0)).keep (p := ⟨w.heap.size + 1 + 1, 6, none⟩) (by show w.heap.size + 1 ≠ w.heap.size + 1 + 1; omega) (.int .i64 0)).keep (p := ⟨w.heap.size + 1 + 1, 7, none⟩) (by show w.heap.size + 1 ≠ w.heap.size + 1 + 1; omega) (.int .i64 0)).keep (p := ⟨w.heap.size + 1 + 1, 9, none⟩) (by show w.heap.size + 1 ≠ w.heap.size + 1 + 1; omega) (.int .i64 0)).keep (p := ⟨w.heap.size + 1 + 1, 18, none⟩) (by show w.heap.size + 1 ≠ w.heap.size + 1 + 1; omega) (.string ⟨#[]⟩)) rfl)) Tryd.underlying27 rfl (info_size _)) rfl ⟨rfl, Who.below_setCells ((((((((HB.out).setCell (p := ⟨w.heap.size + 1 + 1, 4, none⟩) (by show w.heap.size ≤ w.heap.size + 1 + 1; omega) (.int .i64 0)).setCell (p := ⟨w.heap.size + 1 + 1, 5, none⟩) (by show w.heap.size ≤ w.heap.size + 1 + 1; omega) (.int .i64 0)).setCell (p := ⟨w.heap.size + 1 + 1, 8, none⟩) (by show w.heap.size ≤ w.heap.size + 1 + 1; omega) (.int .i64 0)).setCell (p := ⟨w.heap.size + 1 + 1, 6, none⟩) (by show w.heap.size ≤ w.heap.size + 1 + 1; omega) (.int .i64 0)).setCell (p := ⟨w.heap.size + 1 + 1, 7, none⟩) (by show w.heap.size ≤ w.heap.size + 1 + 1; omega) (.int .i64 0)).setCell (p := ⟨w.heap.size + 1 + 1, 9, none⟩) (by show w.heap.size ≤ w.heap.size + 1 + 1; omega) (.int .i64 0)).setCell (p := ⟨w.heap.size + 1 + 1, 18, none⟩) (by show w.heap.size ≤ w.heap.size + 1 + 1; omega) (.string ⟨#[]⟩)) (by omega) 0 _⟩
theorem rbare_any (m : MsgP) (w : World) : Calls Tryd.prog 12 #[.agg (msgC m)] w fun e w' => e = .returned (.agg (msgC (bareM m))) ∧ Below w.heap.size w w' := by
  by_cases q1 : m.kind = 1
  · exact rbare_k1 m q1 w
  by_cases q2 : m.kind = 2
  · exact rbare_k2 m q2 w
  by_cases q4 : m.kind = 4
  · exact rbare_k4 m q4 w
  exact rbare_k0 m q1 q2 q4 w
end Go.Proofs.YtfjmcklmoebnaaaDoor.Nt
/- Whether a message may be: the document's answer, the whole. -/
namespace Go.Proofs.YtfjmcklmoebnaaaDoor.Nt
open Go.RowKit Go.Proofs.YtfjmcklmoebnaaaDoor.Mem Go.Proofs.YtfjmcklmoebnaaaDoor.Vc
set_option linter.unusedVariables false set_option linter.unusedSimpArgs false

theorem rgood_told (x : Nat → Int) (W : World) : Calls Tryd.prog 24 #[.agg (vecC x)] W fun e W' => Told (goodB x = true) e ∧ Below W.heap.size W W' :=
  (rgood_any x W).mono fun e W' h => ⟨told_bool h.1, h.2⟩
theorem seen_range {w : World} {g : Nat} {t : TypeId} {m : MsgP} (h : Has w g t (msgC m)) : w.rangeAt g 10 (vecC m.seen).toList := fun j v hv => by
  match j, hv with
  | 0, hv => exact (h.at_ 10).trans hv
  | 1, hv => exact (h.at_ 11).trans hv
  | 2, hv => exact (h.at_ 12).trans hv
  | 3, hv => exact (h.at_ 13).trans hv
  | 4, hv => exact (h.at_ 14).trans hv
  | 5, hv => exact (h.at_ 15).trans hv
  | 6, hv => exact (h.at_ 16).trans hv
  | 7, hv => exact (h.at_ 17).trans hv
  | j + 8, hv => simp [vecC] at hv
theorem info_vec : (Tryd.prog.info? 25).map (·.size) = some 8 := by kernel_rfl
set_option maxRecDepth 100000 in
set_option maxHeartbeats 8000000 in
theorem rcheck_true (m : MsgP) (hz : sameM m (bareM m) = true) (w : World) : Calls Tryd.prog 10 #[.agg (msgC m)] w fun e w' => e = .returned (.int .i64 (errM m)) ∧ Below w.heap.size w w' := by
  have H1 := Lib.hid (fun W => rgood_told m.seen W)
  have H2 := Lib.hid (fun W => rmark_told m.base W)
  have H3 := Lib.hid (fun W => rmark_told m.mark W)
  have H4 := Lib.hid (fun W => rbare_any m W)
  have HN := Lib.hid (fun W => rnone_told m.mark W)
  have hq := neq_msg m (bareM m)
  rw [hz] at hq
  simp only [Bool.not_true, Bool.not_false] at hq
  have HZ := Lib.hid hz
  have HBx := Lib.hid ((Below.refl w.heap.size w).alloc (Nat.le_refl _) (.cells (msgC m) 27))
  have HB0 := Lib.hid ((Below.refl w.heap.size w).alloc (Nat.le_refl _) (.cells (msgC m) 27)).drew
  have HA0 := Lib.hid (Has.fresh w 27 (msgC m))
  clear hz
  have c0 : (msgC m)[0]? = some (.int .i64 m.kind) := rfl
  have c1 : (msgC m)[1]? = some (.int .i64 m.fr) := rfl
  have c2 : (msgC m)[2]? = some (.int .i64 m.to) := rfl
  have c3 : (msgC m)[3]? = some (.int .i64 m.vol) := rfl
  have c6 : (msgC m)[6]? = some (.int .i64 m.mark.1) := rfl
  have c7 : (msgC m)[7]? = some (.int .i64 m.mark.2) := rfl
  have c8 : (msgC m)[8]? = some (.int .i64 m.ix) := rfl
  have c9 : (msgC m)[9]? = some (.int .i64 m.tot) := rfl
  have c18 : (msgC m)[18]? = some (.string m.data) := rfl
  go_enter Tryd.func10, Tryd.ntmps10
  by_cases x0 : m.kind < 1
  · have X := Lib.hid x0
    go_wp2
    go_ret
    exact ⟨by rw [err_no (fun h => by have h1 := X.out; have h2 := h.1.1.1; omega)]; rfl, HBx.out⟩
  have X0 := Lib.hid x0
  by_cases x1 : 4 < m.kind
  · have X := Lib.hid x1
    go_wp2
    go_ret
    exact ⟨by rw [err_no (fun h => by have h1 := X.out; have h2 := h.1.1.2; omega)]; rfl, HBx.out⟩
  have X1 := Lib.hid x1
  by_cases x2 : m.fr < 0
  · have X := Lib.hid x2
    go_wp2
    go_ret
    exact ⟨by rw [err_no (fun h => by have h1 := X.out; have h2 := h.1.2.1.1; omega)]; rfl, HBx.out⟩
  have X2 := Lib.hid x2
  by_cases x3 : 7 < m.fr
  · have X := Lib.hid x3
    go_wp2
    go_ret
    exact ⟨by rw [err_no (fun h => by have h1 := X.out; have h2 := h.1.2.1.2; omega)]; rfl, HBx.out⟩
  have X3 := Lib.hid x3
  by_cases x4 : m.to < 0
  · have X := Lib.hid x4
    go_wp2
    go_ret
    exact ⟨by rw [err_no (fun h => by have h1 := X.out; have h2 := h.1.2.2.1.1; omega)]; rfl, HBx.out⟩
  have X4 := Lib.hid x4
  by_cases x5 : 7 < m.to
  · have X := Lib.hid x5
    go_wp2
    go_ret
    exact ⟨by rw [err_no (fun h => by have h1 := X.out; have h2 := h.1.2.2.1.2; omega)]; rfl, HBx.out⟩
  have X5 := Lib.hid x5
  by_cases x6 : m.fr = m.to
  · have X := Lib.hid x6
    have e9 : (m.fr == m.to) = true := beq_iff_eq.2 x6
    clear x6
    go_wp2
    go_ret
    exact ⟨by rw [err_no (fun h => by have h1 := X.out; have h2 := h.1.2.2.2.1; omega)]; rfl, HBx.out⟩
  have e9 : (m.fr == m.to) = false := beq_eq_false_iff_ne.2 x6
  have X6 := Lib.hid x6
  clear x6
  by_cases x7 : m.vol < 0
  · have X := Lib.hid x7
    go_wp2
    go_ret
    exact ⟨by rw [err_no (fun h => by have h1 := X.out; have h2 := h.1.2.2.2.2.1.1; omega)]; rfl, HBx.out⟩
  have X7 := Lib.hid x7
  by_cases x8 : 2 < m.vol
  · have X := Lib.hid x8
    go_wp2
    go_ret
    exact ⟨by rw [err_no (fun h => by have h1 := X.out; have h2 := h.1.2.2.2.2.1.2; omega)]; rfl, HBx.out⟩
  have X8 := Lib.hid x8
  have KH := Lib.hid (show goodB m.seen = true → HeadOk m from fun hg => ⟨⟨by have := X0.out; omega, by have := X1.out; omega⟩, ⟨by have := X2.out; omega, by have := X3.out; omega⟩, ⟨by have := X4.out; omega, by have := X5.out; omega⟩, X6.out, ⟨by have := X7.out; omega, by have := X8.out; omega⟩, hg⟩)
  go_wp2
  clear e9 x0 x1 x2 x3 x4 x5 x7 x8 HBx
  refine wp_region_held_drew (S := fun w' => Has w' w.heap.size 27 (msgC m)) (by kernel_rfl) HA0.out (fun hHeld => ?_)
  refine Vc.wpAnyH_read (i := 0) (d := some 48) (v := ?v1) (by rfl) (by rfl) (by kernel_rfl) (by kernel_rfl) (by kernel_rfl) (fun _ _ _ h => h) (by rfl) ?hy1 (by assumption) ?rest1
  case hy1 =>
    intro w hSw
    try dsimp only at hSw
    go_simp
    try with_reducible rfl
  try simp only [Act.put, List.setIfInBounds_toArray, List.set_cons_zero, List.set_cons_succ]
  refine Vc.wpAnyH_read (i := 1) (d := some 49) (v := (.agg (vecC m.seen))) (by rfl) (by rfl) (by kernel_rfl) (by kernel_rfl) (by kernel_rfl) (fun _ _ _ h => h) (by rfl) ?hy2 (by assumption) ?rest2
  case hy2 =>
    intro w hSw
    exact Who.exec_loadA _ rfl rfl (seen_range hSw) Tryd.underlying25 rfl info_vec
  try simp only [Act.put, List.setIfInBounds_toArray, List.set_cons_zero, List.set_cons_succ]
  refine wpAnyH_ready (rs := [2]) (by kernel_rfl) (by simp) ?_
  refine AllReadyH.cons rfl (fun K hK => ?_) AllReadyH.nil
  go_simp
  with_reducible refine (H1.out _).mono ?_
  rintro e w1 ⟨⟨b1, rfl, p1⟩, hb⟩
  have HA1 := Lib.hid ((show Has _ w.heap.size 27 (msgC m) from hHeld).below hb)
  have HB1 := Lib.hid (HB0.out.trans (hb.mono HB0.out.size))
  clear hb
  refine hK.out _ _ HA1.out (fun hHeld => ?_)
  clear hK K
  try simp only [Act.put, List.setIfInBounds_toArray, List.set_cons_zero, List.set_cons_succ]
  cases b1 with
  | true =>
    have K1 := Lib.hid (p1.1 rfl)
    clear p1
    refine Vc.wpAnyH_read (i := 3) (d := some 51) (v := ?v3) (by rfl) (by rfl) (by kernel_rfl) (by kernel_rfl) (by kernel_rfl) (fun _ _ _ h => h) (by rfl) ?hy3 (by assumption) ?rest3
    case hy3 =>
      intro w hSw
      try dsimp only at hSw
      go_simp
      try with_reducible rfl
    try simp only [Act.put, List.setIfInBounds_toArray, List.set_cons_zero, List.set_cons_succ]
    refine Vc.wpAnyH_read (i := 4) (d := some 52) (v := ?v4) (by rfl) (by rfl) (by kernel_rfl) (by kernel_rfl) (by kernel_rfl) (fun _ _ _ h => h) (by rfl) ?hy4 (by assumption) ?rest4
    case hy4 =>
      intro w hSw
      try dsimp only at hSw
      go_simp
      try with_reducible rfl
    try simp only [Act.put, List.setIfInBounds_toArray, List.set_cons_zero, List.set_cons_succ]
    refine Vc.wpAnyH_read (i := 5) (d := some 53) (v := ?v5) (by rfl) (by rfl) (by kernel_rfl) (by kernel_rfl) (by kernel_rfl) (fun _ _ _ h => h) (by rfl) ?hy5 (by assumption) ?rest5
    case hy5 =>
      intro w hSw
      try dsimp only at hSw
      go_simp
      try with_reducible rfl
    try simp only [Act.put, List.setIfInBounds_toArray, List.set_cons_zero, List.set_cons_succ]
    refine Vc.wpAnyH_read (i := 6) (d := some 54) (v := (.agg #[.int .i64 m.base.1, .int .i64 m.base.2])) (by rfl) (by rfl) (by kernel_rfl) (by kernel_rfl) (by kernel_rfl) (fun _ _ _ h => h) (by rfl) ?hy6 (by assumption) ?rest6
    case hy6 =>
      intro w hSw
      exact Who.exec_loadA _ rfl rfl (base_range hSw) Tryd.underlying23 rfl info_mark
    try simp only [Act.put, List.setIfInBounds_toArray, List.set_cons_zero, List.set_cons_succ]
    refine wpAnyH_ready (rs := [7]) (by kernel_rfl) (by simp) ?_
    refine AllReadyH.cons rfl (fun K hK => ?_) AllReadyH.nil
    go_simp
    with_reducible refine (H2.out _).mono ?_
    rintro e w2 ⟨⟨b2, rfl, p2⟩, hb⟩
    have HA2 := Lib.hid ((show Has _ w.heap.size 27 (msgC m) from hHeld).below hb)
    have HB2 := Lib.hid (HB1.out.trans (hb.mono HB1.out.size))
    clear hb
    refine hK.out _ _ HA2.out (fun hHeld => ?_)
    clear hK K
    try simp only [Act.put, List.setIfInBounds_toArray, List.set_cons_zero, List.set_cons_succ]
    cases b2 with
    | true =>
      have K2 := Lib.hid (p2.1 rfl)
      clear p2
      refine Vc.wpAnyH_read (i := 8) (d := some 56) (v := ?v7) (by rfl) (by rfl) (by kernel_rfl) (by kernel_rfl) (by kernel_rfl) (fun _ _ _ h => h) (by rfl) ?hy7 (by assumption) ?rest7
      case hy7 =>
        intro w hSw
        try dsimp only at hSw
        go_simp
        try with_reducible rfl
      try simp only [Act.put, List.setIfInBounds_toArray, List.set_cons_zero, List.set_cons_succ]
      refine Vc.wpAnyH_read (i := 9) (d := some 57) (v := ?v8) (by rfl) (by rfl) (by kernel_rfl) (by kernel_rfl) (by kernel_rfl) (fun _ _ _ h => h) (by rfl) ?hy8 (by assumption) ?rest8
      case hy8 =>
        intro w hSw
        try dsimp only at hSw
        go_simp
        try with_reducible rfl
      try simp only [Act.put, List.setIfInBounds_toArray, List.set_cons_zero, List.set_cons_succ]
      refine Vc.wpAnyH_read (i := 10) (d := some 58) (v := ?v9) (by rfl) (by rfl) (by kernel_rfl) (by kernel_rfl) (by kernel_rfl) (fun _ _ _ h => h) (by rfl) ?hy9 (by assumption) ?rest9
      case hy9 =>
        intro w hSw
        try dsimp only at hSw
        go_simp
        try with_reducible rfl
      try simp only [Act.put, List.setIfInBounds_toArray, List.set_cons_zero, List.set_cons_succ]
      refine Vc.wpAnyH_read (i := 11) (d := some 59) (v := ?v10) (by rfl) (by rfl) (by kernel_rfl) (by kernel_rfl) (by kernel_rfl) (fun _ _ _ h => h) (by rfl) ?hy10 (by assumption) ?rest10
      case hy10 =>
        intro w hSw
        try dsimp only at hSw
        go_simp
        try with_reducible rfl
      try simp only [Act.put, List.setIfInBounds_toArray, List.set_cons_zero, List.set_cons_succ]
      refine Vc.wpAnyH_read (i := 12) (d := some 60) (v := (.agg #[.int .i64 m.mark.1, .int .i64 m.mark.2])) (by rfl) (by rfl) (by kernel_rfl) (by kernel_rfl) (by kernel_rfl) (fun _ _ _ h => h) (by rfl) ?hy11 (by assumption) ?rest11
      case hy11 =>
        intro w hSw
        exact Who.exec_loadA _ rfl rfl (mark_range hSw) Tryd.underlying23 rfl info_mark
      try simp only [Act.put, List.setIfInBounds_toArray, List.set_cons_zero, List.set_cons_succ]
      refine wpAnyH_ready (rs := [13]) (by kernel_rfl) (by simp) ?_
      refine AllReadyH.cons rfl (fun K hK => ?_) AllReadyH.nil
      go_simp
      with_reducible refine (H3.out _).mono ?_
      rintro e w3 ⟨⟨b3, rfl, p3⟩, hb⟩
      have HA3 := Lib.hid ((show Has _ w.heap.size 27 (msgC m) from hHeld).below hb)
      have HB3 := Lib.hid (HB2.out.trans (hb.mono HB2.out.size))
      clear hb
      refine hK.out _ _ HA3.out (fun hHeld => ?_)
      clear hK K
      try simp only [Act.put, List.setIfInBounds_toArray, List.set_cons_zero, List.set_cons_succ]
      cases b3 with
      | true =>
        have K3 := Lib.hid (p3.1 rfl)
        clear p3
        refine Vc.wpAnyH_read (i := 14) (d := some 62) (v := ?v12) (by rfl) (by rfl) (by kernel_rfl) (by kernel_rfl) (by kernel_rfl) (fun _ _ _ h => h) (by rfl) ?hy12 (by assumption) ?rest12
        case hy12 =>
          intro w hSw
          try dsimp only at hSw
          go_simp
          try with_reducible rfl
        try simp only [Act.put, List.setIfInBounds_toArray, List.set_cons_zero, List.set_cons_succ]
        refine Vc.wpAnyH_read (i := 15) (d := some 63) (v := ?v13) (by rfl) (by rfl) (by kernel_rfl) (by kernel_rfl) (by kernel_rfl) (fun _ _ _ h => h) (by rfl) ?hy13 (by assumption) ?rest13
        case hy13 =>
          intro w hSw
          try dsimp only at hSw
          go_simp
          try with_reducible rfl
        try simp only [Act.put, List.setIfInBounds_toArray, List.set_cons_zero, List.set_cons_succ]
        refine Vc.wpAnyH_read (i := 16) (d := some 64) (v := ?v14) (by rfl) (by rfl) (by kernel_rfl) (by kernel_rfl) (by kernel_rfl) (fun _ _ _ h => h) (by rfl) ?hy14 (by assumption) ?rest14
        case hy14 =>
          intro w hSw
          try dsimp only at hSw
          go_simp
          try with_reducible rfl
        try simp only [Act.put, List.setIfInBounds_toArray, List.set_cons_zero, List.set_cons_succ]
        refine Vc.wpAnyH_read (i := 17) (d := some 65) (v := (.agg (msgC m))) (by rfl) (by rfl) (by kernel_rfl) (by kernel_rfl) (by kernel_rfl) (fun _ _ _ h => h) (by rfl) ?hy15 (by assumption) ?rest15
        case hy15 =>
          intro w hSw
          exact Who.exec_loadA _ rfl rfl (Who.has_range hSw) Tryd.underlying27 rfl (info_size m)
        try simp only [Act.put, List.setIfInBounds_toArray, List.set_cons_zero, List.set_cons_succ]
        refine Vc.wpAnyH_read (i := 18) (d := some 66) (v := (.agg (msgC m))) (by rfl) (by rfl) (by kernel_rfl) (by kernel_rfl) (by kernel_rfl) (fun _ _ _ h => h) (by rfl) ?hy16 (by assumption) ?rest16
        case hy16 =>
          intro w hSw
          exact Who.exec_loadA _ rfl rfl (Who.has_range hSw) Tryd.underlying27 rfl (info_size m)
        try simp only [Act.put, List.setIfInBounds_toArray, List.set_cons_zero, List.set_cons_succ]
        refine wpAnyH_ready (rs := [19]) (by kernel_rfl) (by simp) ?_
        refine AllReadyH.cons rfl (fun K hK => ?_) AllReadyH.nil
        go_simp
        with_reducible refine (H4.out _).mono ?_
        rintro e w4 ⟨rfl, hb⟩
        have HA4 := Lib.hid ((show Has _ w.heap.size 27 (msgC m) from hHeld).below hb)
        have HB4 := Lib.hid (HB3.out.trans (hb.mono HB3.out.size))
        clear hb
        refine hK.out _ _ HA4.out (fun hHeld => ?_)
        clear hK K
        try simp only [Act.put, List.setIfInBounds_toArray, List.set_cons_zero, List.set_cons_succ]
        refine Vc.wpAnyH_read (i := 20) (d := some 68) (v := (.bool false)) (by rfl) (by rfl) (by kernel_rfl) (by kernel_rfl) (by kernel_rfl) (fun _ _ _ h => h) (by rfl) ?hy17 (by assumption) ?rest17
        case hy17 =>
          intro w hSw
          (go_simp; (try rw [hq]); (try rfl))
        try simp only [Act.put, List.setIfInBounds_toArray, List.set_cons_zero, List.set_cons_succ]
        refine Vc.wpAnyH_read (i := 21) (d := some 69) (v := ?v18) (by rfl) (by rfl) (by kernel_rfl) (by kernel_rfl) (by kernel_rfl) (fun _ _ _ h => h) (by rfl) ?hy18 (by assumption) ?rest18
        case hy18 =>
          intro w hSw
          try dsimp only at hSw
          go_simp
          try with_reducible rfl
        try simp only [Act.put, List.setIfInBounds_toArray, List.set_cons_zero, List.set_cons_succ]
        refine wpAnyH_done (by kernel_rfl) ?_ _
        have KH1 := Lib.hid (show HeadOk m from KH.out K1.out)
        clear K1
        replace HA0 := HA4
        have HB := HB4
        have hr0 := fun j => HA0.out.at_ j
        have KH2 := K2
        have KH3 := K3
        clear K2 K3
        have hs0 := HA0.out.bound
        clear hHeld
        by_cases q1 : m.kind = 1
        · have KD := Lib.hid q1
          have e1 : (m.kind == 1) = true := by simp [q1]
          have e2 : (m.kind == 2) = false := by simp [q1]
          have e4 : (m.kind == 4) = false := by simp [q1]
          clear q1
          by_cases q0 : m.ix < 0
          · have K0 := Lib.hid q0
            go_wp2
            go_ret
            exact ⟨(by rw [err_no fun h => by have h1 := K0.out; have h2 := ((kind_1 KD.out).1 h.2.2.2.2).1.1; omega]; rfl), HB.out⟩
          · have K0 := Lib.hid q0
            by_cases q1 : 4095 < m.ix
            · have K1 := Lib.hid q1
              go_wp2
              go_ret
              exact ⟨(by rw [err_no fun h => by have h1 := K1.out; have h2 := ((kind_1 KD.out).1 h.2.2.2.2).1.2; omega]; rfl), HB.out⟩
            · have K1 := Lib.hid q1
              go_wp2_with fail
              refine (HN.out _).mono ?_
              rintro e w2 ⟨⟨b2, rfl, p2⟩, hb⟩
              replace HB := Lib.hid (HB.out.trans (hb.mono HB.out.size))
              replace HA0 := Lib.hid (HA0.out.below hb)
              clear hr0
              have hr0 := fun j => HA0.out.at_ j
              clear hb
              cases b2 with
              | true =>
                have K2 := Lib.hid (p2.1 rfl)
                clear p2
                by_cases q3 : 0 < m.ix
                · have K3 := Lib.hid q3
                  go_wp2
                  go_ret
                  exact ⟨(by rw [err_no fun h => by have h1 := K3.out; have h2 := ((kind_1 KD.out).1 h.2.2.2.2).2; rcases h2 with h2 | h2; exact h2 K2.out; omega]; rfl), HB.out⟩
                · have K3 := Lib.hid q3
                  go_wp2
                  go_ret
                  exact ⟨(by rw [err_yes ⟨KH1.out, KH2.out, KH3.out, HZ.out, (kind_1 KD.out).2 ⟨⟨by have := K0.out; omega, by have := K1.out; omega⟩, .inr (by have h1 := K0.out; have h2 := K3.out; omega)⟩⟩]; rfl), HB.out⟩
              | false =>
                have K2 := Lib.hid (told_not p2)
                clear p2
                go_wp2
                go_ret
                exact ⟨(by rw [err_yes ⟨KH1.out, KH2.out, KH3.out, HZ.out, (kind_1 KD.out).2 ⟨⟨by have := K0.out; omega, by have := K1.out; omega⟩, .inl K2.out⟩⟩]; rfl), HB.out⟩
        · have e1 : (m.kind == 1) = false := beq_eq_false_iff_ne.2 q1
          have N1 := Lib.hid q1
          clear q1
          by_cases q2 : m.kind = 2
          · have KD := Lib.hid q2
            have e2 : (m.kind == 2) = true := by simp [q2]
            have e4 : (m.kind == 4) = false := by simp [q2]
            clear q2
            go_wp2_with fail
            refine (HN.out _).mono ?_
            rintro e w0 ⟨⟨b0, rfl, p0⟩, hb⟩
            replace HB := Lib.hid (HB.out.trans (hb.mono HB.out.size))
            replace HA0 := Lib.hid (HA0.out.below hb)
            clear hr0
            have hr0 := fun j => HA0.out.at_ j
            clear hb
            cases b0 with
            | true =>
              have K0 := Lib.hid (p0.1 rfl)
              clear p0
              go_wp2
              go_ret
              exact ⟨(by rw [err_no fun h => ((kind_2 KD.out).1 h.2.2.2.2).1 K0.out]; rfl), HB.out⟩
            | false =>
              have K0 := Lib.hid (told_not p0)
              clear p0
              by_cases q1 : m.tot < 1
              · have K1 := Lib.hid q1
                go_wp2
                go_ret
                exact ⟨(by rw [err_no fun h => by have h1 := K1.out; have h2 := ((kind_2 KD.out).1 h.2.2.2.2).2.1.1; omega]; rfl), HB.out⟩
              · have K1 := Lib.hid q1
                by_cases q2 : 4096 < m.tot
                · have K2 := Lib.hid q2
                  go_wp2
                  go_ret
                  exact ⟨(by rw [err_no fun h => by have h1 := K2.out; have h2 := ((kind_2 KD.out).1 h.2.2.2.2).2.1.2; omega]; rfl), HB.out⟩
                · have K2 := Lib.hid q2
                  by_cases q3 : m.ix < 0
                  · have K3 := Lib.hid q3
                    go_wp2
                    go_ret
                    exact ⟨(by rw [err_no fun h => by have h1 := K3.out; have h2 := ((kind_2 KD.out).1 h.2.2.2.2).2.2.1.1; omega]; rfl), HB.out⟩
                  · have K3 := Lib.hid q3
                    by_cases q4 : m.tot ≤ m.ix
                    · have K4 := Lib.hid q4
                      go_wp2
                      go_ret
                      exact ⟨(by rw [err_no fun h => by have h1 := K4.out; have h2 := ((kind_2 KD.out).1 h.2.2.2.2).2.2.1.2; omega]; rfl), HB.out⟩
                    · have K4 := Lib.hid q4
                      by_cases q5 : (m.data.size : Int) < 1
                      · have K5 := Lib.hid q5
                        go_wp2
                        go_ret
                        exact ⟨(by rw [err_no fun h => by have h1 := K5.out; have h2 := ((kind_2 KD.out).1 h.2.2.2.2).2.2.2.1; omega]; rfl), HB.out⟩
                      · have K5 := Lib.hid q5
                        by_cases q6 : 512 < (m.data.size : Int)
                        · have K6 := Lib.hid q6
                          go_wp2
                          go_ret
                          exact ⟨(by rw [err_no fun h => by have h1 := K6.out; have h2 := ((kind_2 KD.out).1 h.2.2.2.2).2.2.2.2; omega]; rfl), HB.out⟩
                        · have K6 := Lib.hid q6
                          go_wp2
                          go_ret
                          exact ⟨(by rw [err_yes ⟨KH1.out, KH2.out, KH3.out, HZ.out, (kind_2 KD.out).2 ⟨K0.out, ⟨by have := K1.out; omega, by have := K2.out; omega⟩, ⟨by have := K3.out; omega, by have := K4.out; omega⟩, by have := K5.out; omega, by have := K6.out; omega⟩⟩]; rfl), HB.out⟩
          · have e2 : (m.kind == 2) = false := beq_eq_false_iff_ne.2 q2
            have N2 := Lib.hid q2
            clear q2
            by_cases q4 : m.kind = 4
            · have KD := Lib.hid q4
              have e4 : (m.kind == 4) = true := by simp [q4]
              clear q4
              go_wp2_with fail
              refine (HN.out _).mono ?_
              rintro e w0 ⟨⟨b0, rfl, p0⟩, hb⟩
              replace HB := Lib.hid (HB.out.trans (hb.mono HB.out.size))
              replace HA0 := Lib.hid (HA0.out.below hb)
              clear hr0
              have hr0 := fun j => HA0.out.at_ j
              clear hb
              cases b0 with
              | true =>
                have K0 := Lib.hid (p0.1 rfl)
                clear p0
                go_wp2
                go_ret
                exact ⟨(by rw [err_no fun h => ((kind_4 KD.out).1 h.2.2.2.2) K0.out]; rfl), HB.out⟩
              | false =>
                have K0 := Lib.hid (told_not p0)
                clear p0
                go_wp2
                go_ret
                exact ⟨(by rw [err_yes ⟨KH1.out, KH2.out, KH3.out, HZ.out, (kind_4 KD.out).2 K0.out⟩]; rfl), HB.out⟩
            · have e4 : (m.kind == 4) = false := beq_eq_false_iff_ne.2 q4
              have N4 := Lib.hid q4
              clear q4
              go_wp2
              go_ret
              exact ⟨(by rw [err_yes ⟨KH1.out, KH2.out, KH3.out, HZ.out, kind_0 N1.out N2.out N4.out⟩]; rfl), HB.out⟩
      | false =>
        have K3 := Lib.hid (told_not p3)
        clear p3
        refine Vc.wpAnyH_read (i := 14) (d := some 62) (v := ?v19) (by rfl) (by rfl) (by kernel_rfl) (by kernel_rfl) (by kernel_rfl) (fun _ _ _ h => h) (by rfl) ?hy19 (by assumption) ?rest19
        case hy19 =>
          intro w hSw
          try dsimp only at hSw
          go_simp
          try with_reducible rfl
        try simp only [Act.put, List.setIfInBounds_toArray, List.set_cons_zero, List.set_cons_succ]
        refine Vc.wpAnyH_read (i := 15) (d := some 63) (v := ?v20) (by rfl) (by rfl) (by kernel_rfl) (by kernel_rfl) (by kernel_rfl) (fun _ _ _ h => h) (by rfl) ?hy20 (by assumption) ?rest20
        case hy20 =>
          intro w hSw
          try dsimp only at hSw
          go_simp
          try with_reducible rfl
        try simp only [Act.put, List.setIfInBounds_toArray, List.set_cons_zero, List.set_cons_succ]
        refine Vc.wpAnyH_read (i := 16) (d := some 64) (v := ?v21) (by rfl) (by rfl) (by kernel_rfl) (by kernel_rfl) (by kernel_rfl) (fun _ _ _ h => h) (by rfl) ?hy21 (by assumption) ?rest21
        case hy21 =>
          intro w hSw
          try dsimp only at hSw
          go_simp
          try with_reducible rfl
        try simp only [Act.put, List.setIfInBounds_toArray, List.set_cons_zero, List.set_cons_succ]
        refine Vc.wpAnyH_skip (i := 17) (d := some 65) (by rfl) (by rfl) (by kernel_rfl) (by kernel_rfl) (by kernel_rfl) (fun _ _ _ h => h) (by rfl) (by assumption) ?_
        try simp only [Act.put, List.setIfInBounds_toArray, List.set_cons_zero, List.set_cons_succ]
        refine Vc.wpAnyH_skip (i := 18) (d := some 66) (by rfl) (by rfl) (by kernel_rfl) (by kernel_rfl) (by kernel_rfl) (fun _ _ _ h => h) (by rfl) (by assumption) ?_
        try simp only [Act.put, List.setIfInBounds_toArray, List.set_cons_zero, List.set_cons_succ]
        refine Vc.wpAnyH_skip (i := 19) (d := some 67) (by rfl) (by rfl) (by kernel_rfl) (by kernel_rfl) (by kernel_rfl) (fun _ _ _ h => h) (by rfl) (by assumption) ?_
        try simp only [Act.put, List.setIfInBounds_toArray, List.set_cons_zero, List.set_cons_succ]
        refine Vc.wpAnyH_skip (i := 20) (d := some 68) (by rfl) (by rfl) (by kernel_rfl) (by kernel_rfl) (by kernel_rfl) (fun _ _ _ h => h) (by rfl) (by assumption) ?_
        try simp only [Act.put, List.setIfInBounds_toArray, List.set_cons_zero, List.set_cons_succ]
        refine Vc.wpAnyH_read (i := 21) (d := some 69) (v := ?v26) (by rfl) (by rfl) (by kernel_rfl) (by kernel_rfl) (by kernel_rfl) (fun _ _ _ h => h) (by rfl) ?hy26 (by assumption) ?rest26
        case hy26 =>
          intro w hSw
          try dsimp only at hSw
          go_simp
          try with_reducible rfl
        try simp only [Act.put, List.setIfInBounds_toArray, List.set_cons_zero, List.set_cons_succ]
        refine wpAnyH_done (by kernel_rfl) ?_ _
        go_wp2
        go_ret
        exact ⟨by rw [err_no (fun h => K3.out h.2.2.1)]; rfl, HB3.out⟩
    | false =>
      have K2 := Lib.hid (told_not p2)
      clear p2
      refine Vc.wpAnyH_read (i := 8) (d := some 56) (v := ?v27) (by rfl) (by rfl) (by kernel_rfl) (by kernel_rfl) (by kernel_rfl) (fun _ _ _ h => h) (by rfl) ?hy27 (by assumption) ?rest27
      case hy27 =>
        intro w hSw
        try dsimp only at hSw
        go_simp
        try with_reducible rfl
      try simp only [Act.put, List.setIfInBounds_toArray, List.set_cons_zero, List.set_cons_succ]
      refine Vc.wpAnyH_read (i := 9) (d := some 57) (v := ?v28) (by rfl) (by rfl) (by kernel_rfl) (by kernel_rfl) (by kernel_rfl) (fun _ _ _ h => h) (by rfl) ?hy28 (by assumption) ?rest28
      case hy28 =>
        intro w hSw
        try dsimp only at hSw
        go_simp
        try with_reducible rfl
      try simp only [Act.put, List.setIfInBounds_toArray, List.set_cons_zero, List.set_cons_succ]
      refine Vc.wpAnyH_read (i := 10) (d := some 58) (v := ?v29) (by rfl) (by rfl) (by kernel_rfl) (by kernel_rfl) (by kernel_rfl) (fun _ _ _ h => h) (by rfl) ?hy29 (by assumption) ?rest29
      case hy29 =>
        intro w hSw
        try dsimp only at hSw
        go_simp
        try with_reducible rfl
      try simp only [Act.put, List.setIfInBounds_toArray, List.set_cons_zero, List.set_cons_succ]
      refine Vc.wpAnyH_skip (i := 11) (d := some 59) (by rfl) (by rfl) (by kernel_rfl) (by kernel_rfl) (by kernel_rfl) (fun _ _ _ h => h) (by rfl) (by assumption) ?_
      try simp only [Act.put, List.setIfInBounds_toArray, List.set_cons_zero, List.set_cons_succ]
      refine Vc.wpAnyH_skip (i := 12) (d := some 60) (by rfl) (by rfl) (by kernel_rfl) (by kernel_rfl) (by kernel_rfl) (fun _ _ _ h => h) (by rfl) (by assumption) ?_
      try simp only [Act.put, List.setIfInBounds_toArray, List.set_cons_zero, List.set_cons_succ]
      refine Vc.wpAnyH_skip (i := 13) (d := some 61) (by rfl) (by rfl) (by kernel_rfl) (by kernel_rfl) (by kernel_rfl) (fun _ _ _ h => h) (by rfl) (by assumption) ?_
      try simp only [Act.put, List.setIfInBounds_toArray, List.set_cons_zero, List.set_cons_succ]
      refine Vc.wpAnyH_skip (i := 14) (d := some 62) (by rfl) (by rfl) (by kernel_rfl) (by kernel_rfl) (by kernel_rfl) (fun _ _ _ h => h) (by rfl) (by assumption) ?_
      try simp only [Act.put, List.setIfInBounds_toArray, List.set_cons_zero, List.set_cons_succ]
      refine Vc.wpAnyH_read (i := 15) (d := some 63) (v := ?v34) (by rfl) (by rfl) (by kernel_rfl) (by kernel_rfl) (by kernel_rfl) (fun _ _ _ h => h) (by rfl) ?hy34 (by assumption) ?rest34
      case hy34 =>
        intro w hSw
        try dsimp only at hSw
        go_simp
        try with_reducible rfl
      try simp only [Act.put, List.setIfInBounds_toArray, List.set_cons_zero, List.set_cons_succ]
      refine Vc.wpAnyH_read (i := 16) (d := some 64) (v := ?v35) (by rfl) (by rfl) (by kernel_rfl) (by kernel_rfl) (by kernel_rfl) (fun _ _ _ h => h) (by rfl) ?hy35 (by assumption) ?rest35
      case hy35 =>
        intro w hSw
        try dsimp only at hSw
        go_simp
        try with_reducible rfl
      try simp only [Act.put, List.setIfInBounds_toArray, List.set_cons_zero, List.set_cons_succ]
      refine Vc.wpAnyH_skip (i := 17) (d := some 65) (by rfl) (by rfl) (by kernel_rfl) (by kernel_rfl) (by kernel_rfl) (fun _ _ _ h => h) (by rfl) (by assumption) ?_
      try simp only [Act.put, List.setIfInBounds_toArray, List.set_cons_zero, List.set_cons_succ]
      refine Vc.wpAnyH_skip (i := 18) (d := some 66) (by rfl) (by rfl) (by kernel_rfl) (by kernel_rfl) (by kernel_rfl) (fun _ _ _ h => h) (by rfl) (by assumption) ?_
      try simp only [Act.put, List.setIfInBounds_toArray, List.set_cons_zero, List.set_cons_succ]
      refine Vc.wpAnyH_skip (i := 19) (d := some 67) (by rfl) (by rfl) (by kernel_rfl) (by kernel_rfl) (by kernel_rfl) (fun _ _ _ h => h) (by rfl) (by assumption) ?_
      try simp only [Act.put, List.setIfInBounds_toArray, List.set_cons_zero, List.set_cons_succ]
      refine Vc.wpAnyH_skip (i := 20) (d := some 68) (by rfl) (by rfl) (by kernel_rfl) (by kernel_rfl) (by kernel_rfl) (fun _ _ _ h => h) (by rfl) (by assumption) ?_
      try simp only [Act.put, List.setIfInBounds_toArray, List.set_cons_zero, List.set_cons_succ]
      refine Vc.wpAnyH_read (i := 21) (d := some 69) (v := ?v40) (by rfl) (by rfl) (by kernel_rfl) (by kernel_rfl) (by kernel_rfl) (fun _ _ _ h => h) (by rfl) ?hy40 (by assumption) ?rest40
      case hy40 =>
        intro w hSw
        try dsimp only at hSw
        go_simp
        try with_reducible rfl
      try simp only [Act.put, List.setIfInBounds_toArray, List.set_cons_zero, List.set_cons_succ]
      refine wpAnyH_done (by kernel_rfl) ?_ _
      go_wp2
      go_ret
      exact ⟨by rw [err_no (fun h => K2.out h.2.1)]; rfl, HB2.out⟩
  | false =>
    have K1 := Lib.hid (told_not p1)
    clear p1
    refine Vc.wpAnyH_read (i := 3) (d := some 51) (v := ?v41) (by rfl) (by rfl) (by kernel_rfl) (by kernel_rfl) (by kernel_rfl) (fun _ _ _ h => h) (by rfl) ?hy41 (by assumption) ?rest41
    case hy41 =>
      intro w hSw
      try dsimp only at hSw
      go_simp
      try with_reducible rfl
    try simp only [Act.put, List.setIfInBounds_toArray, List.set_cons_zero, List.set_cons_succ]
    refine Vc.wpAnyH_read (i := 4) (d := some 52) (v := ?v42) (by rfl) (by rfl) (by kernel_rfl) (by kernel_rfl) (by kernel_rfl) (fun _ _ _ h => h) (by rfl) ?hy42 (by assumption) ?rest42
    case hy42 =>
      intro w hSw
      try dsimp only at hSw
      go_simp
      try with_reducible rfl
    try simp only [Act.put, List.setIfInBounds_toArray, List.set_cons_zero, List.set_cons_succ]
    refine Vc.wpAnyH_skip (i := 5) (d := some 53) (by rfl) (by rfl) (by kernel_rfl) (by kernel_rfl) (by kernel_rfl) (fun _ _ _ h => h) (by rfl) (by assumption) ?_
    try simp only [Act.put, List.setIfInBounds_toArray, List.set_cons_zero, List.set_cons_succ]
    refine Vc.wpAnyH_skip (i := 6) (d := some 54) (by rfl) (by rfl) (by kernel_rfl) (by kernel_rfl) (by kernel_rfl) (fun _ _ _ h => h) (by rfl) (by assumption) ?_
    try simp only [Act.put, List.setIfInBounds_toArray, List.set_cons_zero, List.set_cons_succ]
    refine Vc.wpAnyH_skip (i := 7) (d := some 55) (by rfl) (by rfl) (by kernel_rfl) (by kernel_rfl) (by kernel_rfl) (fun _ _ _ h => h) (by rfl) (by assumption) ?_
    try simp only [Act.put, List.setIfInBounds_toArray, List.set_cons_zero, List.set_cons_succ]
    refine Vc.wpAnyH_skip (i := 8) (d := some 56) (by rfl) (by rfl) (by kernel_rfl) (by kernel_rfl) (by kernel_rfl) (fun _ _ _ h => h) (by rfl) (by assumption) ?_
    try simp only [Act.put, List.setIfInBounds_toArray, List.set_cons_zero, List.set_cons_succ]
    refine Vc.wpAnyH_read (i := 9) (d := some 57) (v := ?v47) (by rfl) (by rfl) (by kernel_rfl) (by kernel_rfl) (by kernel_rfl) (fun _ _ _ h => h) (by rfl) ?hy47 (by assumption) ?rest47
    case hy47 =>
      intro w hSw
      try dsimp only at hSw
      go_simp
      try with_reducible rfl
    try simp only [Act.put, List.setIfInBounds_toArray, List.set_cons_zero, List.set_cons_succ]
    refine Vc.wpAnyH_read (i := 10) (d := some 58) (v := ?v48) (by rfl) (by rfl) (by kernel_rfl) (by kernel_rfl) (by kernel_rfl) (fun _ _ _ h => h) (by rfl) ?hy48 (by assumption) ?rest48
    case hy48 =>
      intro w hSw
      try dsimp only at hSw
      go_simp
      try with_reducible rfl
    try simp only [Act.put, List.setIfInBounds_toArray, List.set_cons_zero, List.set_cons_succ]
    refine Vc.wpAnyH_skip (i := 11) (d := some 59) (by rfl) (by rfl) (by kernel_rfl) (by kernel_rfl) (by kernel_rfl) (fun _ _ _ h => h) (by rfl) (by assumption) ?_
    try simp only [Act.put, List.setIfInBounds_toArray, List.set_cons_zero, List.set_cons_succ]
    refine Vc.wpAnyH_skip (i := 12) (d := some 60) (by rfl) (by rfl) (by kernel_rfl) (by kernel_rfl) (by kernel_rfl) (fun _ _ _ h => h) (by rfl) (by assumption) ?_
    try simp only [Act.put, List.setIfInBounds_toArray, List.set_cons_zero, List.set_cons_succ]
    refine Vc.wpAnyH_skip (i := 13) (d := some 61) (by rfl) (by rfl) (by kernel_rfl) (by kernel_rfl) (by kernel_rfl) (fun _ _ _ h => h) (by rfl) (by assumption) ?_
    try simp only [Act.put, List.setIfInBounds_toArray, List.set_cons_zero, List.set_cons_succ]
    refine Vc.wpAnyH_skip (i := 14) (d := some 62) (by rfl) (by rfl) (by kernel_rfl) (by kernel_rfl) (by kernel_rfl) (fun _ _ _ h => h) (by rfl) (by assumption) ?_
    try simp only [Act.put, List.setIfInBounds_toArray, List.set_cons_zero, List.set_cons_succ]
    refine Vc.wpAnyH_read (i := 15) (d := some 63) (v := ?v53) (by rfl) (by rfl) (by kernel_rfl) (by kernel_rfl) (by kernel_rfl) (fun _ _ _ h => h) (by rfl) ?hy53 (by assumption) ?rest53
    case hy53 =>
      intro w hSw
      try dsimp only at hSw
      go_simp
      try with_reducible rfl
    try simp only [Act.put, List.setIfInBounds_toArray, List.set_cons_zero, List.set_cons_succ]
    refine Vc.wpAnyH_read (i := 16) (d := some 64) (v := ?v54) (by rfl) (by rfl) (by kernel_rfl) (by kernel_rfl) (by kernel_rfl) (fun _ _ _ h => h) (by rfl) ?hy54 (by assumption) ?rest54
    case hy54 =>
      intro w hSw
      try dsimp only at hSw
      go_simp
      try with_reducible rfl
    try simp only [Act.put, List.setIfInBounds_toArray, List.set_cons_zero, List.set_cons_succ]
    refine Vc.wpAnyH_skip (i := 17) (d := some 65) (by rfl) (by rfl) (by kernel_rfl) (by kernel_rfl) (by kernel_rfl) (fun _ _ _ h => h) (by rfl) (by assumption) ?_
    try simp only [Act.put, List.setIfInBounds_toArray, List.set_cons_zero, List.set_cons_succ]
    refine Vc.wpAnyH_skip (i := 18) (d := some 66) (by rfl) (by rfl) (by kernel_rfl) (by kernel_rfl) (by kernel_rfl) (fun _ _ _ h => h) (by rfl) (by assumption) ?_
    try simp only [Act.put, List.setIfInBounds_toArray, List.set_cons_zero, List.set_cons_succ]
    refine Vc.wpAnyH_skip (i := 19) (d := some 67) (by rfl) (by rfl) (by kernel_rfl) (by kernel_rfl) (by kernel_rfl) (fun _ _ _ h => h) (by rfl) (by assumption) ?_
    try simp only [Act.put, List.setIfInBounds_toArray, List.set_cons_zero, List.set_cons_succ]
    refine Vc.wpAnyH_skip (i := 20) (d := some 68) (by rfl) (by rfl) (by kernel_rfl) (by kernel_rfl) (by kernel_rfl) (fun _ _ _ h => h) (by rfl) (by assumption) ?_
    try simp only [Act.put, List.setIfInBounds_toArray, List.set_cons_zero, List.set_cons_succ]
    refine Vc.wpAnyH_read (i := 21) (d := some 69) (v := ?v59) (by rfl) (by rfl) (by kernel_rfl) (by kernel_rfl) (by kernel_rfl) (fun _ _ _ h => h) (by rfl) ?hy59 (by assumption) ?rest59
    case hy59 =>
      intro w hSw
      try dsimp only at hSw
      go_simp
      try with_reducible rfl
    try simp only [Act.put, List.setIfInBounds_toArray, List.set_cons_zero, List.set_cons_succ]
    refine wpAnyH_done (by kernel_rfl) ?_ _
    go_wp2
    go_ret
    exact ⟨by rw [err_no (fun h => K1.out h.1.2.2.2.2.2)]; rfl, HB1.out⟩
set_option maxRecDepth 100000 in
set_option maxHeartbeats 8000000 in
theorem rcheck_false (m : MsgP) (hz : sameM m (bareM m) = false) (w : World) : Calls Tryd.prog 10 #[.agg (msgC m)] w fun e w' => e = .returned (.int .i64 (errM m)) ∧ Below w.heap.size w w' := by
  have H1 := Lib.hid (fun W => rgood_told m.seen W)
  have H2 := Lib.hid (fun W => rmark_told m.base W)
  have H3 := Lib.hid (fun W => rmark_told m.mark W)
  have H4 := Lib.hid (fun W => rbare_any m W)
  have HN := Lib.hid (fun W => rnone_told m.mark W)
  have hq := neq_msg m (bareM m)
  rw [hz] at hq
  simp only [Bool.not_true, Bool.not_false] at hq
  have HZ := Lib.hid hz
  have HBx := Lib.hid ((Below.refl w.heap.size w).alloc (Nat.le_refl _) (.cells (msgC m) 27))
  have HB0 := Lib.hid ((Below.refl w.heap.size w).alloc (Nat.le_refl _) (.cells (msgC m) 27)).drew
  have HA0 := Lib.hid (Has.fresh w 27 (msgC m))
  clear hz
  have c0 : (msgC m)[0]? = some (.int .i64 m.kind) := rfl
  have c1 : (msgC m)[1]? = some (.int .i64 m.fr) := rfl
  have c2 : (msgC m)[2]? = some (.int .i64 m.to) := rfl
  have c3 : (msgC m)[3]? = some (.int .i64 m.vol) := rfl
  have c6 : (msgC m)[6]? = some (.int .i64 m.mark.1) := rfl
  have c7 : (msgC m)[7]? = some (.int .i64 m.mark.2) := rfl
  have c8 : (msgC m)[8]? = some (.int .i64 m.ix) := rfl
  have c9 : (msgC m)[9]? = some (.int .i64 m.tot) := rfl
  have c18 : (msgC m)[18]? = some (.string m.data) := rfl
  go_enter Tryd.func10, Tryd.ntmps10
  by_cases x0 : m.kind < 1
  · have X := Lib.hid x0
    go_wp2
    go_ret
    exact ⟨by rw [err_no (fun h => by have h1 := X.out; have h2 := h.1.1.1; omega)]; rfl, HBx.out⟩
  have X0 := Lib.hid x0
  by_cases x1 : 4 < m.kind
  · have X := Lib.hid x1
    go_wp2
    go_ret
    exact ⟨by rw [err_no (fun h => by have h1 := X.out; have h2 := h.1.1.2; omega)]; rfl, HBx.out⟩
  have X1 := Lib.hid x1
  by_cases x2 : m.fr < 0
  · have X := Lib.hid x2
    go_wp2
    go_ret
    exact ⟨by rw [err_no (fun h => by have h1 := X.out; have h2 := h.1.2.1.1; omega)]; rfl, HBx.out⟩
  have X2 := Lib.hid x2
  by_cases x3 : 7 < m.fr
  · have X := Lib.hid x3
    go_wp2
    go_ret
    exact ⟨by rw [err_no (fun h => by have h1 := X.out; have h2 := h.1.2.1.2; omega)]; rfl, HBx.out⟩
  have X3 := Lib.hid x3
  by_cases x4 : m.to < 0
  · have X := Lib.hid x4
    go_wp2
    go_ret
    exact ⟨by rw [err_no (fun h => by have h1 := X.out; have h2 := h.1.2.2.1.1; omega)]; rfl, HBx.out⟩
  have X4 := Lib.hid x4
  by_cases x5 : 7 < m.to
  · have X := Lib.hid x5
    go_wp2
    go_ret
    exact ⟨by rw [err_no (fun h => by have h1 := X.out; have h2 := h.1.2.2.1.2; omega)]; rfl, HBx.out⟩
  have X5 := Lib.hid x5
  by_cases x6 : m.fr = m.to
  · have X := Lib.hid x6
    have e9 : (m.fr == m.to) = true := beq_iff_eq.2 x6
    clear x6
    go_wp2
    go_ret
    exact ⟨by rw [err_no (fun h => by have h1 := X.out; have h2 := h.1.2.2.2.1; omega)]; rfl, HBx.out⟩
  have e9 : (m.fr == m.to) = false := beq_eq_false_iff_ne.2 x6
  have X6 := Lib.hid x6
  clear x6
  by_cases x7 : m.vol < 0
  · have X := Lib.hid x7
    go_wp2
    go_ret
    exact ⟨by rw [err_no (fun h => by have h1 := X.out; have h2 := h.1.2.2.2.2.1.1; omega)]; rfl, HBx.out⟩
  have X7 := Lib.hid x7
  by_cases x8 : 2 < m.vol
  · have X := Lib.hid x8
    go_wp2
    go_ret
    exact ⟨by rw [err_no (fun h => by have h1 := X.out; have h2 := h.1.2.2.2.2.1.2; omega)]; rfl, HBx.out⟩
  have X8 := Lib.hid x8
  have KH := Lib.hid (show goodB m.seen = true → HeadOk m from fun hg => ⟨⟨by have := X0.out; omega, by have := X1.out; omega⟩, ⟨by have := X2.out; omega, by have := X3.out; omega⟩, ⟨by have := X4.out; omega, by have := X5.out; omega⟩, X6.out, ⟨by have := X7.out; omega, by have := X8.out; omega⟩, hg⟩)
  go_wp2
  clear e9 x0 x1 x2 x3 x4 x5 x7 x8 HBx
  refine wp_region_held_drew (S := fun w' => Has w' w.heap.size 27 (msgC m)) (by kernel_rfl) HA0.out (fun hHeld => ?_)
  refine Vc.wpAnyH_read (i := 0) (d := some 48) (v := ?v60) (by rfl) (by rfl) (by kernel_rfl) (by kernel_rfl) (by kernel_rfl) (fun _ _ _ h => h) (by rfl) ?hy60 (by assumption) ?rest60
  case hy60 =>
    intro w hSw
    try dsimp only at hSw
    go_simp
    try with_reducible rfl
  try simp only [Act.put, List.setIfInBounds_toArray, List.set_cons_zero, List.set_cons_succ]
  refine Vc.wpAnyH_read (i := 1) (d := some 49) (v := (.agg (vecC m.seen))) (by rfl) (by rfl) (by kernel_rfl) (by kernel_rfl) (by kernel_rfl) (fun _ _ _ h => h) (by rfl) ?hy61 (by assumption) ?rest61
  case hy61 =>
    intro w hSw
    exact Who.exec_loadA _ rfl rfl (seen_range hSw) Tryd.underlying25 rfl info_vec
  try simp only [Act.put, List.setIfInBounds_toArray, List.set_cons_zero, List.set_cons_succ]
  refine wpAnyH_ready (rs := [2]) (by kernel_rfl) (by simp) ?_
  refine AllReadyH.cons rfl (fun K hK => ?_) AllReadyH.nil
  go_simp
  with_reducible refine (H1.out _).mono ?_
  rintro e w1 ⟨⟨b1, rfl, p1⟩, hb⟩
  have HA1 := Lib.hid ((show Has _ w.heap.size 27 (msgC m) from hHeld).below hb)
  have HB1 := Lib.hid (HB0.out.trans (hb.mono HB0.out.size))
  clear hb
  refine hK.out _ _ HA1.out (fun hHeld => ?_)
  clear hK K
  try simp only [Act.put, List.setIfInBounds_toArray, List.set_cons_zero, List.set_cons_succ]
  cases b1 with
  | true =>
    have K1 := Lib.hid (p1.1 rfl)
    clear p1
    refine Vc.wpAnyH_read (i := 3) (d := some 51) (v := ?v62) (by rfl) (by rfl) (by kernel_rfl) (by kernel_rfl) (by kernel_rfl) (fun _ _ _ h => h) (by rfl) ?hy62 (by assumption) ?rest62
    case hy62 =>
      intro w hSw
      try dsimp only at hSw
      go_simp
      try with_reducible rfl
    try simp only [Act.put, List.setIfInBounds_toArray, List.set_cons_zero, List.set_cons_succ]
    refine Vc.wpAnyH_read (i := 4) (d := some 52) (v := ?v63) (by rfl) (by rfl) (by kernel_rfl) (by kernel_rfl) (by kernel_rfl) (fun _ _ _ h => h) (by rfl) ?hy63 (by assumption) ?rest63
    case hy63 =>
      intro w hSw
      try dsimp only at hSw
      go_simp
      try with_reducible rfl
    try simp only [Act.put, List.setIfInBounds_toArray, List.set_cons_zero, List.set_cons_succ]
    refine Vc.wpAnyH_read (i := 5) (d := some 53) (v := ?v64) (by rfl) (by rfl) (by kernel_rfl) (by kernel_rfl) (by kernel_rfl) (fun _ _ _ h => h) (by rfl) ?hy64 (by assumption) ?rest64
    case hy64 =>
      intro w hSw
      try dsimp only at hSw
      go_simp
      try with_reducible rfl
    try simp only [Act.put, List.setIfInBounds_toArray, List.set_cons_zero, List.set_cons_succ]
    refine Vc.wpAnyH_read (i := 6) (d := some 54) (v := (.agg #[.int .i64 m.base.1, .int .i64 m.base.2])) (by rfl) (by rfl) (by kernel_rfl) (by kernel_rfl) (by kernel_rfl) (fun _ _ _ h => h) (by rfl) ?hy65 (by assumption) ?rest65
    case hy65 =>
      intro w hSw
      exact Who.exec_loadA _ rfl rfl (base_range hSw) Tryd.underlying23 rfl info_mark
    try simp only [Act.put, List.setIfInBounds_toArray, List.set_cons_zero, List.set_cons_succ]
    refine wpAnyH_ready (rs := [7]) (by kernel_rfl) (by simp) ?_
    refine AllReadyH.cons rfl (fun K hK => ?_) AllReadyH.nil
    go_simp
    with_reducible refine (H2.out _).mono ?_
    rintro e w2 ⟨⟨b2, rfl, p2⟩, hb⟩
    have HA2 := Lib.hid ((show Has _ w.heap.size 27 (msgC m) from hHeld).below hb)
    have HB2 := Lib.hid (HB1.out.trans (hb.mono HB1.out.size))
    clear hb
    refine hK.out _ _ HA2.out (fun hHeld => ?_)
    clear hK K
    try simp only [Act.put, List.setIfInBounds_toArray, List.set_cons_zero, List.set_cons_succ]
    cases b2 with
    | true =>
      have K2 := Lib.hid (p2.1 rfl)
      clear p2
      refine Vc.wpAnyH_read (i := 8) (d := some 56) (v := ?v66) (by rfl) (by rfl) (by kernel_rfl) (by kernel_rfl) (by kernel_rfl) (fun _ _ _ h => h) (by rfl) ?hy66 (by assumption) ?rest66
      case hy66 =>
        intro w hSw
        try dsimp only at hSw
        go_simp
        try with_reducible rfl
      try simp only [Act.put, List.setIfInBounds_toArray, List.set_cons_zero, List.set_cons_succ]
      refine Vc.wpAnyH_read (i := 9) (d := some 57) (v := ?v67) (by rfl) (by rfl) (by kernel_rfl) (by kernel_rfl) (by kernel_rfl) (fun _ _ _ h => h) (by rfl) ?hy67 (by assumption) ?rest67
      case hy67 =>
        intro w hSw
        try dsimp only at hSw
        go_simp
        try with_reducible rfl
      try simp only [Act.put, List.setIfInBounds_toArray, List.set_cons_zero, List.set_cons_succ]
      refine Vc.wpAnyH_read (i := 10) (d := some 58) (v := ?v68) (by rfl) (by rfl) (by kernel_rfl) (by kernel_rfl) (by kernel_rfl) (fun _ _ _ h => h) (by rfl) ?hy68 (by assumption) ?rest68
      case hy68 =>
        intro w hSw
        try dsimp only at hSw
        go_simp
        try with_reducible rfl
      try simp only [Act.put, List.setIfInBounds_toArray, List.set_cons_zero, List.set_cons_succ]
      refine Vc.wpAnyH_read (i := 11) (d := some 59) (v := ?v69) (by rfl) (by rfl) (by kernel_rfl) (by kernel_rfl) (by kernel_rfl) (fun _ _ _ h => h) (by rfl) ?hy69 (by assumption) ?rest69
      case hy69 =>
        intro w hSw
        try dsimp only at hSw
        go_simp
        try with_reducible rfl
      try simp only [Act.put, List.setIfInBounds_toArray, List.set_cons_zero, List.set_cons_succ]
      refine Vc.wpAnyH_read (i := 12) (d := some 60) (v := (.agg #[.int .i64 m.mark.1, .int .i64 m.mark.2])) (by rfl) (by rfl) (by kernel_rfl) (by kernel_rfl) (by kernel_rfl) (fun _ _ _ h => h) (by rfl) ?hy70 (by assumption) ?rest70
      case hy70 =>
        intro w hSw
        exact Who.exec_loadA _ rfl rfl (mark_range hSw) Tryd.underlying23 rfl info_mark
      try simp only [Act.put, List.setIfInBounds_toArray, List.set_cons_zero, List.set_cons_succ]
      refine wpAnyH_ready (rs := [13]) (by kernel_rfl) (by simp) ?_
      refine AllReadyH.cons rfl (fun K hK => ?_) AllReadyH.nil
      go_simp
      with_reducible refine (H3.out _).mono ?_
      rintro e w3 ⟨⟨b3, rfl, p3⟩, hb⟩
      have HA3 := Lib.hid ((show Has _ w.heap.size 27 (msgC m) from hHeld).below hb)
      have HB3 := Lib.hid (HB2.out.trans (hb.mono HB2.out.size))
      clear hb
      refine hK.out _ _ HA3.out (fun hHeld => ?_)
      clear hK K
      try simp only [Act.put, List.setIfInBounds_toArray, List.set_cons_zero, List.set_cons_succ]
      cases b3 with
      | true =>
        have K3 := Lib.hid (p3.1 rfl)
        clear p3
        refine Vc.wpAnyH_read (i := 14) (d := some 62) (v := ?v71) (by rfl) (by rfl) (by kernel_rfl) (by kernel_rfl) (by kernel_rfl) (fun _ _ _ h => h) (by rfl) ?hy71 (by assumption) ?rest71
        case hy71 =>
          intro w hSw
          try dsimp only at hSw
          go_simp
          try with_reducible rfl
        try simp only [Act.put, List.setIfInBounds_toArray, List.set_cons_zero, List.set_cons_succ]
        refine Vc.wpAnyH_read (i := 15) (d := some 63) (v := ?v72) (by rfl) (by rfl) (by kernel_rfl) (by kernel_rfl) (by kernel_rfl) (fun _ _ _ h => h) (by rfl) ?hy72 (by assumption) ?rest72
        case hy72 =>
          intro w hSw
          try dsimp only at hSw
          go_simp
          try with_reducible rfl
        try simp only [Act.put, List.setIfInBounds_toArray, List.set_cons_zero, List.set_cons_succ]
        refine Vc.wpAnyH_read (i := 16) (d := some 64) (v := ?v73) (by rfl) (by rfl) (by kernel_rfl) (by kernel_rfl) (by kernel_rfl) (fun _ _ _ h => h) (by rfl) ?hy73 (by assumption) ?rest73
        case hy73 =>
          intro w hSw
          try dsimp only at hSw
          go_simp
          try with_reducible rfl
        try simp only [Act.put, List.setIfInBounds_toArray, List.set_cons_zero, List.set_cons_succ]
        refine Vc.wpAnyH_read (i := 17) (d := some 65) (v := (.agg (msgC m))) (by rfl) (by rfl) (by kernel_rfl) (by kernel_rfl) (by kernel_rfl) (fun _ _ _ h => h) (by rfl) ?hy74 (by assumption) ?rest74
        case hy74 =>
          intro w hSw
          exact Who.exec_loadA _ rfl rfl (Who.has_range hSw) Tryd.underlying27 rfl (info_size m)
        try simp only [Act.put, List.setIfInBounds_toArray, List.set_cons_zero, List.set_cons_succ]
        refine Vc.wpAnyH_read (i := 18) (d := some 66) (v := (.agg (msgC m))) (by rfl) (by rfl) (by kernel_rfl) (by kernel_rfl) (by kernel_rfl) (fun _ _ _ h => h) (by rfl) ?hy75 (by assumption) ?rest75
        case hy75 =>
          intro w hSw
          exact Who.exec_loadA _ rfl rfl (Who.has_range hSw) Tryd.underlying27 rfl (info_size m)
        try simp only [Act.put, List.setIfInBounds_toArray, List.set_cons_zero, List.set_cons_succ]
        refine wpAnyH_ready (rs := [19]) (by kernel_rfl) (by simp) ?_
        refine AllReadyH.cons rfl (fun K hK => ?_) AllReadyH.nil
        go_simp
        with_reducible refine (H4.out _).mono ?_
        rintro e w4 ⟨rfl, hb⟩
        have HA4 := Lib.hid ((show Has _ w.heap.size 27 (msgC m) from hHeld).below hb)
        have HB4 := Lib.hid (HB3.out.trans (hb.mono HB3.out.size))
        clear hb
        refine hK.out _ _ HA4.out (fun hHeld => ?_)
        clear hK K
        try simp only [Act.put, List.setIfInBounds_toArray, List.set_cons_zero, List.set_cons_succ]
        refine Vc.wpAnyH_read (i := 20) (d := some 68) (v := (.bool true)) (by rfl) (by rfl) (by kernel_rfl) (by kernel_rfl) (by kernel_rfl) (fun _ _ _ h => h) (by rfl) ?hy76 (by assumption) ?rest76
        case hy76 =>
          intro w hSw
          (go_simp; (try rw [hq]); (try rfl))
        try simp only [Act.put, List.setIfInBounds_toArray, List.set_cons_zero, List.set_cons_succ]
        refine Vc.wpAnyH_read (i := 21) (d := some 69) (v := ?v77) (by rfl) (by rfl) (by kernel_rfl) (by kernel_rfl) (by kernel_rfl) (fun _ _ _ h => h) (by rfl) ?hy77 (by assumption) ?rest77
        case hy77 =>
          intro w hSw
          try dsimp only at hSw
          go_simp
          try with_reducible rfl
        try simp only [Act.put, List.setIfInBounds_toArray, List.set_cons_zero, List.set_cons_succ]
        refine wpAnyH_done (by kernel_rfl) ?_ _
        go_wp2
        go_ret
        exact ⟨by rw [err_no (fun h => by have := h.2.2.2.1; rw [HZ.out] at this; cases this)]; rfl, HB4.out⟩
      | false =>
        have K3 := Lib.hid (told_not p3)
        clear p3
        refine Vc.wpAnyH_read (i := 14) (d := some 62) (v := ?v78) (by rfl) (by rfl) (by kernel_rfl) (by kernel_rfl) (by kernel_rfl) (fun _ _ _ h => h) (by rfl) ?hy78 (by assumption) ?rest78
        case hy78 =>
          intro w hSw
          try dsimp only at hSw
          go_simp
          try with_reducible rfl
        try simp only [Act.put, List.setIfInBounds_toArray, List.set_cons_zero, List.set_cons_succ]
        refine Vc.wpAnyH_read (i := 15) (d := some 63) (v := ?v79) (by rfl) (by rfl) (by kernel_rfl) (by kernel_rfl) (by kernel_rfl) (fun _ _ _ h => h) (by rfl) ?hy79 (by assumption) ?rest79
        case hy79 =>
          intro w hSw
          try dsimp only at hSw
          go_simp
          try with_reducible rfl
        try simp only [Act.put, List.setIfInBounds_toArray, List.set_cons_zero, List.set_cons_succ]
        refine Vc.wpAnyH_read (i := 16) (d := some 64) (v := ?v80) (by rfl) (by rfl) (by kernel_rfl) (by kernel_rfl) (by kernel_rfl) (fun _ _ _ h => h) (by rfl) ?hy80 (by assumption) ?rest80
        case hy80 =>
          intro w hSw
          try dsimp only at hSw
          go_simp
          try with_reducible rfl
        try simp only [Act.put, List.setIfInBounds_toArray, List.set_cons_zero, List.set_cons_succ]
        refine Vc.wpAnyH_skip (i := 17) (d := some 65) (by rfl) (by rfl) (by kernel_rfl) (by kernel_rfl) (by kernel_rfl) (fun _ _ _ h => h) (by rfl) (by assumption) ?_
        try simp only [Act.put, List.setIfInBounds_toArray, List.set_cons_zero, List.set_cons_succ]
        refine Vc.wpAnyH_skip (i := 18) (d := some 66) (by rfl) (by rfl) (by kernel_rfl) (by kernel_rfl) (by kernel_rfl) (fun _ _ _ h => h) (by rfl) (by assumption) ?_
        try simp only [Act.put, List.setIfInBounds_toArray, List.set_cons_zero, List.set_cons_succ]
        refine Vc.wpAnyH_skip (i := 19) (d := some 67) (by rfl) (by rfl) (by kernel_rfl) (by kernel_rfl) (by kernel_rfl) (fun _ _ _ h => h) (by rfl) (by assumption) ?_
        try simp only [Act.put, List.setIfInBounds_toArray, List.set_cons_zero, List.set_cons_succ]
        refine Vc.wpAnyH_skip (i := 20) (d := some 68) (by rfl) (by rfl) (by kernel_rfl) (by kernel_rfl) (by kernel_rfl) (fun _ _ _ h => h) (by rfl) (by assumption) ?_
        try simp only [Act.put, List.setIfInBounds_toArray, List.set_cons_zero, List.set_cons_succ]
        refine Vc.wpAnyH_read (i := 21) (d := some 69) (v := ?v85) (by rfl) (by rfl) (by kernel_rfl) (by kernel_rfl) (by kernel_rfl) (fun _ _ _ h => h) (by rfl) ?hy85 (by assumption) ?rest85
        case hy85 =>
          intro w hSw
          try dsimp only at hSw
          go_simp
          try with_reducible rfl
        try simp only [Act.put, List.setIfInBounds_toArray, List.set_cons_zero, List.set_cons_succ]
        refine wpAnyH_done (by kernel_rfl) ?_ _
        go_wp2
        go_ret
        exact ⟨by rw [err_no (fun h => K3.out h.2.2.1)]; rfl, HB3.out⟩
    | false =>
      have K2 := Lib.hid (told_not p2)
      clear p2
      refine Vc.wpAnyH_read (i := 8) (d := some 56) (v := ?v86) (by rfl) (by rfl) (by kernel_rfl) (by kernel_rfl) (by kernel_rfl) (fun _ _ _ h => h) (by rfl) ?hy86 (by assumption) ?rest86
      case hy86 =>
        intro w hSw
        try dsimp only at hSw
        go_simp
        try with_reducible rfl
      try simp only [Act.put, List.setIfInBounds_toArray, List.set_cons_zero, List.set_cons_succ]
      refine Vc.wpAnyH_read (i := 9) (d := some 57) (v := ?v87) (by rfl) (by rfl) (by kernel_rfl) (by kernel_rfl) (by kernel_rfl) (fun _ _ _ h => h) (by rfl) ?hy87 (by assumption) ?rest87
      case hy87 =>
        intro w hSw
        try dsimp only at hSw
        go_simp
        try with_reducible rfl
      try simp only [Act.put, List.setIfInBounds_toArray, List.set_cons_zero, List.set_cons_succ]
      refine Vc.wpAnyH_read (i := 10) (d := some 58) (v := ?v88) (by rfl) (by rfl) (by kernel_rfl) (by kernel_rfl) (by kernel_rfl) (fun _ _ _ h => h) (by rfl) ?hy88 (by assumption) ?rest88
      case hy88 =>
        intro w hSw
        try dsimp only at hSw
        go_simp
        try with_reducible rfl
      try simp only [Act.put, List.setIfInBounds_toArray, List.set_cons_zero, List.set_cons_succ]
      refine Vc.wpAnyH_skip (i := 11) (d := some 59) (by rfl) (by rfl) (by kernel_rfl) (by kernel_rfl) (by kernel_rfl) (fun _ _ _ h => h) (by rfl) (by assumption) ?_
      try simp only [Act.put, List.setIfInBounds_toArray, List.set_cons_zero, List.set_cons_succ]
      refine Vc.wpAnyH_skip (i := 12) (d := some 60) (by rfl) (by rfl) (by kernel_rfl) (by kernel_rfl) (by kernel_rfl) (fun _ _ _ h => h) (by rfl) (by assumption) ?_
      try simp only [Act.put, List.setIfInBounds_toArray, List.set_cons_zero, List.set_cons_succ]
      refine Vc.wpAnyH_skip (i := 13) (d := some 61) (by rfl) (by rfl) (by kernel_rfl) (by kernel_rfl) (by kernel_rfl) (fun _ _ _ h => h) (by rfl) (by assumption) ?_
      try simp only [Act.put, List.setIfInBounds_toArray, List.set_cons_zero, List.set_cons_succ]
      refine Vc.wpAnyH_skip (i := 14) (d := some 62) (by rfl) (by rfl) (by kernel_rfl) (by kernel_rfl) (by kernel_rfl) (fun _ _ _ h => h) (by rfl) (by assumption) ?_
      try simp only [Act.put, List.setIfInBounds_toArray, List.set_cons_zero, List.set_cons_succ]
      refine Vc.wpAnyH_read (i := 15) (d := some 63) (v := ?v93) (by rfl) (by rfl) (by kernel_rfl) (by kernel_rfl) (by kernel_rfl) (fun _ _ _ h => h) (by rfl) ?hy93 (by assumption) ?rest93
      case hy93 =>
        intro w hSw
        try dsimp only at hSw
        go_simp
        try with_reducible rfl
      try simp only [Act.put, List.setIfInBounds_toArray, List.set_cons_zero, List.set_cons_succ]
      refine Vc.wpAnyH_read (i := 16) (d := some 64) (v := ?v94) (by rfl) (by rfl) (by kernel_rfl) (by kernel_rfl) (by kernel_rfl) (fun _ _ _ h => h) (by rfl) ?hy94 (by assumption) ?rest94
      case hy94 =>
        intro w hSw
        try dsimp only at hSw
        go_simp
        try with_reducible rfl
      try simp only [Act.put, List.setIfInBounds_toArray, List.set_cons_zero, List.set_cons_succ]
      refine Vc.wpAnyH_skip (i := 17) (d := some 65) (by rfl) (by rfl) (by kernel_rfl) (by kernel_rfl) (by kernel_rfl) (fun _ _ _ h => h) (by rfl) (by assumption) ?_
      try simp only [Act.put, List.setIfInBounds_toArray, List.set_cons_zero, List.set_cons_succ]
      refine Vc.wpAnyH_skip (i := 18) (d := some 66) (by rfl) (by rfl) (by kernel_rfl) (by kernel_rfl) (by kernel_rfl) (fun _ _ _ h => h) (by rfl) (by assumption) ?_
      try simp only [Act.put, List.setIfInBounds_toArray, List.set_cons_zero, List.set_cons_succ]
      refine Vc.wpAnyH_skip (i := 19) (d := some 67) (by rfl) (by rfl) (by kernel_rfl) (by kernel_rfl) (by kernel_rfl) (fun _ _ _ h => h) (by rfl) (by assumption) ?_
      try simp only [Act.put, List.setIfInBounds_toArray, List.set_cons_zero, List.set_cons_succ]
      refine Vc.wpAnyH_skip (i := 20) (d := some 68) (by rfl) (by rfl) (by kernel_rfl) (by kernel_rfl) (by kernel_rfl) (fun _ _ _ h => h) (by rfl) (by assumption) ?_
      try simp only [Act.put, List.setIfInBounds_toArray, List.set_cons_zero, List.set_cons_succ]
      refine Vc.wpAnyH_read (i := 21) (d := some 69) (v := ?v99) (by rfl) (by rfl) (by kernel_rfl) (by kernel_rfl) (by kernel_rfl) (fun _ _ _ h => h) (by rfl) ?hy99 (by assumption) ?rest99
      case hy99 =>
        intro w hSw
        try dsimp only at hSw
        go_simp
        try with_reducible rfl
      try simp only [Act.put, List.setIfInBounds_toArray, List.set_cons_zero, List.set_cons_succ]
      refine wpAnyH_done (by kernel_rfl) ?_ _
      go_wp2
      go_ret
      exact ⟨by rw [err_no (fun h => K2.out h.2.1)]; rfl, HB2.out⟩
  | false =>
    have K1 := Lib.hid (told_not p1)
    clear p1
    refine Vc.wpAnyH_read (i := 3) (d := some 51) (v := ?v100) (by rfl) (by rfl) (by kernel_rfl) (by kernel_rfl) (by kernel_rfl) (fun _ _ _ h => h) (by rfl) ?hy100 (by assumption) ?rest100
    case hy100 =>
      intro w hSw
      try dsimp only at hSw
      go_simp
      try with_reducible rfl
    try simp only [Act.put, List.setIfInBounds_toArray, List.set_cons_zero, List.set_cons_succ]
    refine Vc.wpAnyH_read (i := 4) (d := some 52) (v := ?v101) (by rfl) (by rfl) (by kernel_rfl) (by kernel_rfl) (by kernel_rfl) (fun _ _ _ h => h) (by rfl) ?hy101 (by assumption) ?rest101
    case hy101 =>
      intro w hSw
      try dsimp only at hSw
      go_simp
      try with_reducible rfl
    try simp only [Act.put, List.setIfInBounds_toArray, List.set_cons_zero, List.set_cons_succ]
    refine Vc.wpAnyH_skip (i := 5) (d := some 53) (by rfl) (by rfl) (by kernel_rfl) (by kernel_rfl) (by kernel_rfl) (fun _ _ _ h => h) (by rfl) (by assumption) ?_
    try simp only [Act.put, List.setIfInBounds_toArray, List.set_cons_zero, List.set_cons_succ]
    refine Vc.wpAnyH_skip (i := 6) (d := some 54) (by rfl) (by rfl) (by kernel_rfl) (by kernel_rfl) (by kernel_rfl) (fun _ _ _ h => h) (by rfl) (by assumption) ?_
    try simp only [Act.put, List.setIfInBounds_toArray, List.set_cons_zero, List.set_cons_succ]
    refine Vc.wpAnyH_skip (i := 7) (d := some 55) (by rfl) (by rfl) (by kernel_rfl) (by kernel_rfl) (by kernel_rfl) (fun _ _ _ h => h) (by rfl) (by assumption) ?_
    try simp only [Act.put, List.setIfInBounds_toArray, List.set_cons_zero, List.set_cons_succ]
    refine Vc.wpAnyH_skip (i := 8) (d := some 56) (by rfl) (by rfl) (by kernel_rfl) (by kernel_rfl) (by kernel_rfl) (fun _ _ _ h => h) (by rfl) (by assumption) ?_
    try simp only [Act.put, List.setIfInBounds_toArray, List.set_cons_zero, List.set_cons_succ]
    refine Vc.wpAnyH_read (i := 9) (d := some 57) (v := ?v106) (by rfl) (by rfl) (by kernel_rfl) (by kernel_rfl) (by kernel_rfl) (fun _ _ _ h => h) (by rfl) ?hy106 (by assumption) ?rest106
    case hy106 =>
      intro w hSw
      try dsimp only at hSw
      go_simp
      try with_reducible rfl
    try simp only [Act.put, List.setIfInBounds_toArray, List.set_cons_zero, List.set_cons_succ]
    refine Vc.wpAnyH_read (i := 10) (d := some 58) (v := ?v107) (by rfl) (by rfl) (by kernel_rfl) (by kernel_rfl) (by kernel_rfl) (fun _ _ _ h => h) (by rfl) ?hy107 (by assumption) ?rest107
    case hy107 =>
      intro w hSw
      try dsimp only at hSw
      go_simp
      try with_reducible rfl
    try simp only [Act.put, List.setIfInBounds_toArray, List.set_cons_zero, List.set_cons_succ]
    refine Vc.wpAnyH_skip (i := 11) (d := some 59) (by rfl) (by rfl) (by kernel_rfl) (by kernel_rfl) (by kernel_rfl) (fun _ _ _ h => h) (by rfl) (by assumption) ?_
    try simp only [Act.put, List.setIfInBounds_toArray, List.set_cons_zero, List.set_cons_succ]
    refine Vc.wpAnyH_skip (i := 12) (d := some 60) (by rfl) (by rfl) (by kernel_rfl) (by kernel_rfl) (by kernel_rfl) (fun _ _ _ h => h) (by rfl) (by assumption) ?_
    try simp only [Act.put, List.setIfInBounds_toArray, List.set_cons_zero, List.set_cons_succ]
    refine Vc.wpAnyH_skip (i := 13) (d := some 61) (by rfl) (by rfl) (by kernel_rfl) (by kernel_rfl) (by kernel_rfl) (fun _ _ _ h => h) (by rfl) (by assumption) ?_
    try simp only [Act.put, List.setIfInBounds_toArray, List.set_cons_zero, List.set_cons_succ]
    refine Vc.wpAnyH_skip (i := 14) (d := some 62) (by rfl) (by rfl) (by kernel_rfl) (by kernel_rfl) (by kernel_rfl) (fun _ _ _ h => h) (by rfl) (by assumption) ?_
    try simp only [Act.put, List.setIfInBounds_toArray, List.set_cons_zero, List.set_cons_succ]
    refine Vc.wpAnyH_read (i := 15) (d := some 63) (v := ?v112) (by rfl) (by rfl) (by kernel_rfl) (by kernel_rfl) (by kernel_rfl) (fun _ _ _ h => h) (by rfl) ?hy112 (by assumption) ?rest112
    case hy112 =>
      intro w hSw
      try dsimp only at hSw
      go_simp
      try with_reducible rfl
    try simp only [Act.put, List.setIfInBounds_toArray, List.set_cons_zero, List.set_cons_succ]
    refine Vc.wpAnyH_read (i := 16) (d := some 64) (v := ?v113) (by rfl) (by rfl) (by kernel_rfl) (by kernel_rfl) (by kernel_rfl) (fun _ _ _ h => h) (by rfl) ?hy113 (by assumption) ?rest113
    case hy113 =>
      intro w hSw
      try dsimp only at hSw
      go_simp
      try with_reducible rfl
    try simp only [Act.put, List.setIfInBounds_toArray, List.set_cons_zero, List.set_cons_succ]
    refine Vc.wpAnyH_skip (i := 17) (d := some 65) (by rfl) (by rfl) (by kernel_rfl) (by kernel_rfl) (by kernel_rfl) (fun _ _ _ h => h) (by rfl) (by assumption) ?_
    try simp only [Act.put, List.setIfInBounds_toArray, List.set_cons_zero, List.set_cons_succ]
    refine Vc.wpAnyH_skip (i := 18) (d := some 66) (by rfl) (by rfl) (by kernel_rfl) (by kernel_rfl) (by kernel_rfl) (fun _ _ _ h => h) (by rfl) (by assumption) ?_
    try simp only [Act.put, List.setIfInBounds_toArray, List.set_cons_zero, List.set_cons_succ]
    refine Vc.wpAnyH_skip (i := 19) (d := some 67) (by rfl) (by rfl) (by kernel_rfl) (by kernel_rfl) (by kernel_rfl) (fun _ _ _ h => h) (by rfl) (by assumption) ?_
    try simp only [Act.put, List.setIfInBounds_toArray, List.set_cons_zero, List.set_cons_succ]
    refine Vc.wpAnyH_skip (i := 20) (d := some 68) (by rfl) (by rfl) (by kernel_rfl) (by kernel_rfl) (by kernel_rfl) (fun _ _ _ h => h) (by rfl) (by assumption) ?_
    try simp only [Act.put, List.setIfInBounds_toArray, List.set_cons_zero, List.set_cons_succ]
    refine Vc.wpAnyH_read (i := 21) (d := some 69) (v := ?v118) (by rfl) (by rfl) (by kernel_rfl) (by kernel_rfl) (by kernel_rfl) (fun _ _ _ h => h) (by rfl) ?hy118 (by assumption) ?rest118
    case hy118 =>
      intro w hSw
      try dsimp only at hSw
      go_simp
      try with_reducible rfl
    try simp only [Act.put, List.setIfInBounds_toArray, List.set_cons_zero, List.set_cons_succ]
    refine wpAnyH_done (by kernel_rfl) ?_ _
    go_wp2
    go_ret
    exact ⟨by rw [err_no (fun h => K1.out h.1.2.2.2.2.2)]; rfl, HB1.out⟩
theorem rcheck_any (m : MsgP) (w : World) : Calls Tryd.prog 10 #[.agg (msgC m)] w fun e w' => e = .returned (.int .i64 (errM m)) ∧ Below w.heap.size w w' := by
  cases hz : sameM m (bareM m) with
  | true => exact rcheck_true m hz w
  | false => exact rcheck_false m hz w
end Go.Proofs.YtfjmcklmoebnaaaDoor.Nt
