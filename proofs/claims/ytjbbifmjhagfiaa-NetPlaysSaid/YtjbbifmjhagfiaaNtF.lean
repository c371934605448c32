/- Whether a message may be: the document's answer. -/
import Derived.Test.YtjbbifmjhagfiaaNtE
namespace Go.Proofs.Ytjbbifmjhagfiaa.Nt
open Go.RowKit Go.Proofs.Ytjbbifmjhagfiaa.Mem Go.Proofs.Ytjbbifmjhagfiaa.Vc
set_option linter.unusedVariables false

section
variable {w : World} {g : Nat} {t : TypeId} {x : MsgP}
theorem has_base0 (h : Has w g t (msgC x)) : Has ((w.setCell ⟨g, 4, none⟩ (.int .i64 0)).setCell ⟨g, 5, none⟩ (.int .i64 0)) g t (msgC { x with base := (0, 0) }) := has_base h (0, 0)
theorem has_mark0 (h : Has w g t (msgC x)) : Has ((w.setCell ⟨g, 6, none⟩ (.int .i64 0)).setCell ⟨g, 7, none⟩ (.int .i64 0)) g t (msgC { x with mark := (0, 0) }) := has_mark h (0, 0)
theorem has_ix0 (h : Has w g t (msgC x)) : Has (w.setCell ⟨g, 8, none⟩ (.int .i64 0)) g t (msgC { x with ix := 0 }) := has_ix h 0
theorem has_tot0 (h : Has w g t (msgC x)) : Has (w.setCell ⟨g, 9, none⟩ (.int .i64 0)) g t (msgC { x with tot := 0 }) := has_tot h 0
theorem has_data0 (h : Has w g t (msgC x)) : Has (w.setCell ⟨g, 18, none⟩ (.string ⟨#[]⟩)) g t (msgC { x with data := ⟨#[]⟩ }) := has_data h ⟨#[]⟩
end
set_option maxRecDepth 100000 in
set_option maxHeartbeats 2000000 in
theorem rnone_told (k : Int × Int) (w : World) : Calls Try.prog 90 #[.agg #[.int .i64 k.1, .int .i64 k.2]] w fun e w' => Told (NoneP k) e ∧ Below w.heap.size w w' := by
  obtain ⟨a, b⟩ := k
  dsimp only
  have HB := Lib.hid (((Below.refl w.heap.size w).alloc (Nat.le_refl _) (.cells #[.int .i64 a, .int .i64 b] 32)))
  have HA0 := Lib.hid (show Has (w.alloc (.cells #[.int .i64 a, .int .i64 b] 32)) w.heap.size 32 #[.int .i64 a, .int .i64 b] from by have h := Has.fresh w 32 #[.int .i64 a, .int .i64 b]; (try simp only [World.size_alloc] at h); exact h)
  go_enter Try.func90, Try.ntmps90
  by_cases q0 : a = 0
  · have K0 := Lib.hid q0
    clear q0
    have e0 : (a == 0) = true := beq_iff_eq.2 K0.out
    by_cases q1 : b = 0
    · have K1 := Lib.hid q1
      clear q1
      have e1 : (b == 0) = true := beq_iff_eq.2 K1.out
      go_wp2
      go_ret
      exact ⟨told_yes ⟨K0.out, K1.out⟩, HB.out⟩
    · have K1 := Lib.hid q1
      clear q1
      have e1 : (b == 0) = false := beq_eq_false_iff_ne.2 K1.out
      go_wp2
      go_ret
      exact ⟨told_no fun h => K1.out h.2, HB.out⟩
  · have K0 := Lib.hid q0
    clear q0
    have e0 : (a == 0) = false := beq_eq_false_iff_ne.2 K0.out
    go_wp2
    go_ret
    exact ⟨told_no fun h => K0.out h.1, HB.out⟩
set_option maxRecDepth 100000 in
set_option maxHeartbeats 2000000 in
theorem rmark_told (k : Int × Int) (w : World) : Calls Try.prog 88 #[.agg #[.int .i64 k.1, .int .i64 k.2]] w fun e w' => Told (MarkOk k) e ∧ Below w.heap.size w w' := by
  have H1 := Lib.hid (fun W => rnone_told k W)
  have HB := Lib.hid (((Below.refl w.heap.size w).alloc (Nat.le_refl _) (.cells #[.int .i64 k.1, .int .i64 k.2] 32)))
  have HA0 := Lib.hid (show Has (w.alloc (.cells #[.int .i64 k.1, .int .i64 k.2] 32)) w.heap.size 32 #[.int .i64 k.1, .int .i64 k.2] from by have h := Has.fresh w 32 #[.int .i64 k.1, .int .i64 k.2]; (try simp only [World.size_alloc] at h); exact h)
  go_enter Try.func88, Try.ntmps88
  go_wp2_with fail
  refine (H1.out _).mono ?_
  rintro e w0 ⟨⟨b0, rfl, p0⟩, hb⟩
  replace HB := Lib.hid (HB.out.trans (hb.mono HB.out.size))
  replace HA0 := Lib.hid (HA0.out.below hb)
  have hr0 := fun j => HA0.out.at_ j
  clear hb
  cases b0 with
  | true =>
    have K0 := Lib.hid (p0.1 rfl)
    clear p0
    go_wp2
    go_ret
    exact ⟨told_yes (.inl K0.out), HB.out⟩
  | false =>
    have K0 := Lib.hid (told_not p0)
    clear p0
    by_cases q1 : 1 ≤ k.1
    · have K1 := Lib.hid q1
      by_cases q2 : k.1 ≤ 1099511627776
      · have K2 := Lib.hid q2
        by_cases q3 : 1 ≤ k.2
        · have K3 := Lib.hid q3
          by_cases q4 : k.2 ≤ 1099511627776
          · have K4 := Lib.hid q4
            go_wp2
            go_ret
            exact ⟨told_yes (.inr ⟨⟨K1.out, K2.out⟩, K3.out, K4.out⟩), HB.out⟩
          · have K4 := Lib.hid q4
            have e4 : decide (k.2 ≤ 1099511627776) = false := decide_eq_false K4.out
            go_wp2
            go_ret
            exact ⟨told_no (P := MarkOk k) fun h => Or.elim h K0.out fun h => by have h1 := K4.out; have h2 := h.2.2; omega, HB.out⟩
        · have K3 := Lib.hid q3
          go_wp2
          go_ret
          exact ⟨told_no (P := MarkOk k) fun h => Or.elim h K0.out fun h => by have h1 := K3.out; have h2 := h.2.1; omega, HB.out⟩
      · have K2 := Lib.hid q2
        go_wp2
        go_ret
        exact ⟨told_no (P := MarkOk k) fun h => Or.elim h K0.out fun h => by have h1 := K2.out; have h2 := h.1.2; omega, HB.out⟩
    · have K1 := Lib.hid q1
      go_wp2
      go_ret
      exact ⟨told_no (P := MarkOk k) fun h => Or.elim h K0.out fun h => by have h1 := K1.out; have h2 := h.1.1; omega, HB.out⟩
set_option maxRecDepth 100000 in
set_option maxHeartbeats 4000000 in
theorem rbare_k1 (m : MsgP) (q1 : m.kind = 1) (w : World) : Calls Try.prog 89 #[.agg (msgC m)] w fun e w' => e = .returned (.agg (msgC (bareM m))) ∧ Below w.heap.size w w' := by
  have HE := Lib.hid (show bareM m = { m with tot := 0, data := ⟨#[]⟩ } from by unfold bareM; simp [q1])
  have e1 : (m.kind != 1) = false := by simp [q1]
  have e2 : (m.kind != 2) = true := by simp [q1]
  have e4 : (m.kind != 4) = true := by simp [q1]
  clear q1
  have HB := Lib.hid ((((Below.refl w.heap.size w).alloc (Nat.le_refl _) (.cells (msgC m) 36)).alloc (by simp) (.cells (msgC msg0) 36)).alloc (by simp <;> omega) (.cells (msgC m) 36))
  have HA0 := Lib.hid (show Has (((w.alloc (.cells (msgC m) 36)).alloc (.cells (msgC msg0) 36)).alloc (.cells (msgC m) 36)) w.heap.size 36 (msgC m) from ((Has.fresh w 36 (msgC m)).past _).past _)
  have HR := Lib.hid (show Has (((w.alloc (.cells (msgC m) 36)).alloc (.cells (msgC msg0) 36)).alloc (.cells (msgC m) 36)) (w.heap.size + 1) 36 (msgC msg0) from by have h := Has.fresh (w.alloc (.cells (msgC m) 36)) 36 (msgC msg0); rw [World.size_alloc] at h; exact h.past _)
  have HT := Lib.hid (show Has (((w.alloc (.cells (msgC m) 36)).alloc (.cells (msgC msg0) 36)).alloc (.cells (msgC m) 36)) (w.heap.size + 1 + 1) 36 (msgC m) from by have h := Has.fresh ((w.alloc (.cells (msgC m) 36)).alloc (.cells (msgC msg0) 36)) 36 (msgC m); simp only [World.size_alloc] at h; exact h)
  have c0 : (msgC m)[0]? = some (.int .i64 m.kind) := rfl
  have hal := alloc_msg
  have h00 := Lib.hid (Has.fresh w 36 (msgC m))
  go_enter Try.func89, Try.ntmps89
  go_wp2_with (first | ((with_reducible refine Who.wpList_alloc 36 2 rfl rfl rfl (msgC msg0) hal ?_); try simp only [Act.put, List.setIfInBounds_toArray, List.set_cons_zero, List.set_cons_succ]; (try simp only [World.size_alloc])) | ((with_reducible refine Who.wpList_loadC 36 (.tmp 1) rfl w.heap.size 0 (msgC m) ?_); refine And.intro ⟨by rfl, by rfl, ⟨_, Try.underlying36, rfl⟩, info_size _⟩ (And.intro (Who.has_range (h00.out.past _)) ?_); try simp only [Act.put, List.setIfInBounds_toArray, List.set_cons_zero, List.set_cons_succ]) | ((with_reducible refine Who.wpList_newC 36 3 (.tmp 4) rfl rfl rfl (msgC msg0) (msgC m) ?_); refine And.intro ⟨rfl, rfl, rfl, hal, by rfl, by rfl, info_size m, rfl, msgC_one m⟩ ?_; try simp only [Act.put, List.setIfInBounds_toArray, List.set_cons_zero, List.set_cons_succ]; (try simp only [World.size_alloc]); obtain ⟨w1, hw1⟩ : ∃ w1, w1 = (((w.alloc (.cells (msgC m) 36)).alloc (.cells (msgC msg0) 36)).alloc (.cells (msgC m) 36)) := ⟨_, rfl⟩; rw [← hw1] at HT HR HA0 HB ⊢; clear hw1; have hs0 := HA0.out.bound; have hs1 := HR.out.bound; have hs2 := HT.out.bound; have hr0 := fun j => HA0.out.at_ j; have d9 : w1.cell? ⟨w.heap.size + 1 + 1, 9, none⟩ = some (.int .i64 m.tot) := HT.out.at_ 9; have f9 := HT.out.free 9; have d18 : w1.cell? ⟨w.heap.size + 1 + 1, 18, none⟩ = some (.string m.data) := HT.out.at_ 18; have f18 := HT.out.free 18) | ((with_reducible refine Who.wpList_loadC 36 (.tmp 3) rfl (w.heap.size + 1 + 1) 0 (msgC (bareM m)) ?_); refine And.intro ⟨by rfl, by rfl, ⟨_, Try.underlying36, rfl⟩, info_size _⟩ (And.intro (Who.has_range (t := 36) (by rw [HE.out]; have h := (has_data0 (has_tot0 HT.out)); exact h)) ?_); try simp only [Act.put, List.setIfInBounds_toArray, List.set_cons_zero, List.set_cons_succ]) | ((with_reducible refine Who.wpList_storeC 36 (.tmp 2) (.tmp 36) rfl (w.heap.size + 1) 0 (msgC (bareM m)) ?_); refine And.intro ⟨rfl, by rfl, by rfl, info_size _, msgC_one _⟩ (And.intro (Who.has_there (t := 36) (cs := msgC msg0) (by have h := ((HR.out).keep (p := ⟨w.heap.size + 1 + 1, 9, none⟩) (by show w.heap.size + 1 ≠ w.heap.size + 1 + 1; omega) (.int .i64 0)).keep (p := ⟨w.heap.size + 1 + 1, 18, none⟩) (by show w.heap.size + 1 ≠ w.heap.size + 1 + 1; omega) (.string ⟨#[]⟩); exact h) rfl) ?_); try simp only [Act.put, List.setIfInBounds_toArray, List.set_cons_zero, List.set_cons_succ]))
  refine bodyPost_ret (v := .agg (msgC (bareM m))) (Who.results_cell Try.results89 _ _ (w.heap.size + 1) 0 (msgC (bareM m)) _ (by rfl) (Who.has_range (Who.has_over (((HR.out).keep (p := ⟨w.heap.size + 1 + 1, 9, none⟩) (by show w.heap.size + 1 ≠ w.heap.size + 1 + 1; omega) (.int .i64 0)).keep (p := ⟨w.heap.size + 1 + 1, 18, none⟩) (by show w.heap.size + 1 ≠ w.heap.size + 1 + 1; omega) (.string ⟨#[]⟩)) rfl)) Try.underlying36 rfl (info_size _)) rfl ⟨rfl, Who.below_setCells (((HB.out).setCell (p := ⟨w.heap.size + 1 + 1, 9, none⟩) (by show w.heap.size ≤ w.heap.size + 1 + 1; omega) (.int .i64 0)).setCell (p := ⟨w.heap.size + 1 + 1, 18, none⟩) (by show w.heap.size ≤ w.heap.size + 1 + 1; omega) (.string ⟨#[]⟩)) (by omega) 0 _⟩
set_option maxRecDepth 100000 in
set_option maxHeartbeats 4000000 in
theorem rbare_k2 (m : MsgP) (q2 : m.kind = 2) (w : World) : Calls Try.prog 89 #[.agg (msgC m)] w fun e w' => e = .returned (.agg (msgC (bareM m))) ∧ Below w.heap.size w w' := by
  have HE := Lib.hid (show bareM m = m from by cases m; simp_all [bareM])
  have e1 : (m.kind != 1) = true := by simp [q2]
  have e2 : (m.kind != 2) = false := by simp [q2]
  have e4 : (m.kind != 4) = true := by simp [q2]
  clear q2
  have HB := Lib.hid ((((Below.refl w.heap.size w).alloc (Nat.le_refl _) (.cells (msgC m) 36)).alloc (by simp) (.cells (msgC msg0) 36)).alloc (by simp <;> omega) (.cells (msgC m) 36))
  have HA0 := Lib.hid (show Has (((w.alloc (.cells (msgC m) 36)).alloc (.cells (msgC msg0) 36)).alloc (.cells (msgC m) 36)) w.heap.size 36 (msgC m) from ((Has.fresh w 36 (msgC m)).past _).past _)
  have HR := Lib.hid (show Has (((w.alloc (.cells (msgC m) 36)).alloc (.cells (msgC msg0) 36)).alloc (.cells (msgC m) 36)) (w.heap.size + 1) 36 (msgC msg0) from by have h := Has.fresh (w.alloc (.cells (msgC m) 36)) 36 (msgC msg0); rw [World.size_alloc] at h; exact h.past _)
  have HT := Lib.hid (show Has (((w.alloc (.cells (msgC m) 36)).alloc (.cells (msgC msg0) 36)).alloc (.cells (msgC m) 36)) (w.heap.size + 1 + 1) 36 (msgC m) from by have h := Has.fresh ((w.alloc (.cells (msgC m) 36)).alloc (.cells (msgC msg0) 36)) 36 (msgC m); simp only [World.size_alloc] at h; exact h)
  have c0 : (msgC m)[0]? = some (.int .i64 m.kind) := rfl
  have hal := alloc_msg
  have h00 := Lib.hid (Has.fresh w 36 (msgC m))
  go_enter Try.func89, Try.ntmps89
  go_wp2_with (first | ((with_reducible refine Who.wpList_alloc 36 2 rfl rfl rfl (msgC msg0) hal ?_); try simp only [Act.put, List.setIfInBounds_toArray, List.set_cons_zero, List.set_cons_succ]; (try simp only [World.size_alloc])) | ((with_reducible refine Who.wpList_loadC 36 (.tmp 1) rfl w.heap.size 0 (msgC m) ?_); refine And.intro ⟨by rfl, by rfl, ⟨_, Try.underlying36, rfl⟩, info_size _⟩ (And.intro (Who.has_range (h00.out.past _)) ?_); try simp only [Act.put, List.setIfInBounds_toArray, List.set_cons_zero, List.set_cons_succ]) | ((with_reducible refine Who.wpList_newC 36 3 (.tmp 4) rfl rfl rfl (msgC msg0) (msgC m) ?_); refine And.intro ⟨rfl, rfl, rfl, hal, by rfl, by rfl, info_size m, rfl, msgC_one m⟩ ?_; try simp only [Act.put, List.setIfInBounds_toArray, List.set_cons_zero, List.set_cons_succ]; (try simp only [World.size_alloc]); obtain ⟨w1, hw1⟩ : ∃ w1, w1 = (((w.alloc (.cells (msgC m) 36)).alloc (.cells (msgC msg0) 36)).alloc (.cells (msgC m) 36)) := ⟨_, rfl⟩; rw [← hw1] at HT HR HA0 HB ⊢; clear hw1; have hs0 := HA0.out.bound; have hs1 := HR.out.bound; have hs2 := HT.out.bound; have hr0 := fun j => HA0.out.at_ j) | ((with_reducible refine Who.wpList_loadC 36 (.tmp 3) rfl (w.heap.size + 1 + 1) 0 (msgC (bareM m)) ?_); refine And.intro ⟨by rfl, by rfl, ⟨_, Try.underlying36, rfl⟩, info_size _⟩ (And.intro (Who.has_range (t := 36) (by rw [HE.out]; have h := HT.out; exact h)) ?_); try simp only [Act.put, List.setIfInBounds_toArray, List.set_cons_zero, List.set_cons_succ]) | ((with_reducible refine Who.wpList_storeC 36 (.tmp 2) (.tmp 36) rfl (w.heap.size + 1) 0 (msgC (bareM m)) ?_); refine And.intro ⟨rfl, by rfl, by rfl, info_size _, msgC_one _⟩ (And.intro (Who.has_there (t := 36) (cs := msgC msg0) (by have h := HR.out; exact h) rfl) ?_); try simp only [Act.put, List.setIfInBounds_toArray, List.set_cons_zero, List.set_cons_succ]))
  refine bodyPost_ret (v := .agg (msgC (bareM m))) (Who.results_cell Try.results89 _ _ (w.heap.size + 1) 0 (msgC (bareM m)) _ (by rfl) (Who.has_range (Who.has_over (HR.out) rfl)) Try.underlying36 rfl (info_size _)) rfl ⟨rfl, Who.below_setCells (HB.out) (by omega) 0 _⟩
set_option maxRecDepth 100000 in
set_option maxHeartbeats 4000000 in
theorem rbare_k4 (m : MsgP) (q4 : m.kind = 4) (w : World) : Calls Try.prog 89 #[.agg (msgC m)] w fun e w' => e = .returned (.agg (msgC (bareM m))) ∧ Below w.heap.size w w' := by
  have HE := Lib.hid (show bareM m = { m with base := (0, 0), ix := 0, tot := 0, data := ⟨#[]⟩ } from by unfold bareM; simp [q4])
  have e1 : (m.kind != 1) = true := by simp [q4]
  have e2 : (m.kind != 2) = true := by simp [q4]
  have e4 : (m.kind != 4) = false := by simp [q4]
  clear q4
  have HB := Lib.hid ((((Below.refl w.heap.size w).alloc (Nat.le_refl _) (.cells (msgC m) 36)).alloc (by simp) (.cells (msgC msg0) 36)).alloc (by simp <;> omega) (.cells (msgC m) 36))
  have HA0 := Lib.hid (show Has (((w.alloc (.cells (msgC m) 36)).alloc (.cells (msgC msg0) 36)).alloc (.cells (msgC m) 36)) w.heap.size 36 (msgC m) from ((Has.fresh w 36 (msgC m)).past _).past _)
  have HR := Lib.hid (show Has (((w.alloc (.cells (msgC m) 36)).alloc (.cells (msgC msg0) 36)).alloc (.cells (msgC m) 36)) (w.heap.size + 1) 36 (msgC msg0) from by have h := Has.fresh (w.alloc (.cells (msgC m) 36)) 36 (msgC msg0); rw [World.size_alloc] at h; exact h.past _)
  have HT := Lib.hid (show Has (((w.alloc (.cells (msgC m) 36)).alloc (.cells (msgC msg0) 36)).alloc (.cells (msgC m) 36)) (w.heap.size + 1 + 1) 36 (msgC m) from by have h := Has.fresh ((w.alloc (.cells (msgC m) 36)).alloc (.cells (msgC msg0) 36)) 36 (msgC m); simp only [World.size_alloc] at h; exact h)
  have c0 : (msgC m)[0]? = some (.int .i64 m.kind) := rfl
  have hal := alloc_msg
  have h00 := Lib.hid (Has.fresh w 36 (msgC m))
  go_enter Try.func89, Try.ntmps89
  go_wp2_with (first | ((with_reducible refine Who.wpList_alloc 36 2 rfl rfl rfl (msgC msg0) hal ?_); try simp only [Act.put, List.setIfInBounds_toArray, List.set_cons_zero, List.set_cons_succ]; (try simp only [World.size_alloc])) | ((with_reducible refine Who.wpList_loadC 36 (.tmp 1) rfl w.heap.size 0 (msgC m) ?_); refine And.intro ⟨by rfl, by rfl, ⟨_, Try.underlying36, rfl⟩, info_size _⟩ (And.intro (Who.has_range (h00.out.past _)) ?_); try simp only [Act.put, List.setIfInBounds_toArray, List.set_cons_zero, List.set_cons_succ]) | ((with_reducible refine Who.wpList_newC 36 3 (.tmp 4) rfl rfl rfl (msgC msg0) (msgC m) ?_); refine And.intro ⟨rfl, rfl, rfl, hal, by rfl, by rfl, info_size m, rfl, msgC_one m⟩ ?_; try simp only [Act.put, List.setIfInBounds_toArray, List.set_cons_zero, List.set_cons_succ]; (try simp only [World.size_alloc]); obtain ⟨w1, hw1⟩ : ∃ w1, w1 = (((w.alloc (.cells (msgC m) 36)).alloc (.cells (msgC msg0) 36)).alloc (.cells (msgC m) 36)) := ⟨_, rfl⟩; rw [← hw1] at HT HR HA0 HB ⊢; clear hw1; have hs0 := HA0.out.bound; have hs1 := HR.out.bound; have hs2 := HT.out.bound; have hr0 := fun j => HA0.out.at_ j; have d4 : w1.cell? ⟨w.heap.size + 1 + 1, 4, none⟩ = some (.int .i64 m.base.1) := HT.out.at_ 4; have f4 := HT.out.free 4; have d5 : w1.cell? ⟨w.heap.size + 1 + 1, 5, none⟩ = some (.int .i64 m.base.2) := HT.out.at_ 5; have f5 := HT.out.free 5; have d8 : w1.cell? ⟨w.heap.size + 1 + 1, 8, none⟩ = some (.int .i64 m.ix) := HT.out.at_ 8; have f8 := HT.out.free 8; have d9 : w1.cell? ⟨w.heap.size + 1 + 1, 9, none⟩ = some (.int .i64 m.tot) := HT.out.at_ 9; have f9 := HT.out.free 9; have d18 : w1.cell? ⟨w.heap.size + 1 + 1, 18, none⟩ = some (.string m.data) := HT.out.at_ 18; have f18 := HT.out.free 18) | ((with_reducible refine Who.wpList_loadC 36 (.tmp 3) rfl (w.heap.size + 1 + 1) 0 (msgC (bareM m)) ?_); refine And.intro ⟨by rfl, by rfl, ⟨_, Try.underlying36, rfl⟩, info_size _⟩ (And.intro (Who.has_range (t := 36) (by rw [HE.out]; have h := (has_data0 (has_tot0 (has_ix0 (has_base0 HT.out)))); exact h)) ?_); try simp only [Act.put, List.setIfInBounds_toArray, List.set_cons_zero, List.set_cons_succ]) | ((with_reducible refine Who.wpList_storeC 36 (.tmp 2) (.tmp 36) rfl (w.heap.size + 1) 0 (msgC (bareM m)) ?_); refine And.intro ⟨rfl, by rfl, by rfl, info_size _, msgC_one _⟩ (And.intro (Who.has_there (t := 36) (cs := msgC msg0) (by have h := (((((HR.out).keep (p := ⟨w.heap.size + 1 + 1, 4, none⟩) (by show w.heap.size + 1 ≠ w.heap.size + 1 + 1; omega) (.int .i64 0)).keep (p := ⟨w.heap.size + 1 + 1, 5, none⟩) (by show w.heap.size + 1 ≠ w.heap.size + 1 + 1; omega) (.int .i64 0)).keep (p := ⟨w.heap.size + 1 + 1, 8, none⟩) (by show w.heap.size + 1 ≠ w.heap.size + 1 + 1; omega) (.int .i64 0)).keep (p := ⟨w.heap.size + 1 + 1, 9, none⟩) (by show w.heap.size + 1 ≠ w.heap.size + 1 + 1; omega) (.int .i64 0)).keep (p := ⟨w.heap.size + 1 + 1, 18, none⟩) (by show w.heap.size + 1 ≠ w.heap.size + 1 + 1; omega) (.string ⟨#[]⟩); exact h) rfl) ?_); try simp only [Act.put, List.setIfInBounds_toArray, List.set_cons_zero, List.set_cons_succ]))
  refine bodyPost_ret (v := .agg (msgC (bareM m))) (Who.results_cell Try.results89 _ _ (w.heap.size + 1) 0 (msgC (bareM m)) _ (by rfl) (Who.has_range (Who.has_over ((((((HR.out).keep (p := ⟨w.heap.size + 1 + 1, 4, none⟩) (by show w.heap.size + 1 ≠ w.heap.size + 1 + 1; omega) (.int .i64 0)).keep (p := ⟨w.heap.size + 1 + 1, 5, none⟩) (by show w.heap.size + 1 ≠ w.heap.size + 1 + 1; omega) (.int .i64 0)).keep (p := ⟨w.heap.size + 1 + 1, 8, none⟩) (by show w.heap.size + 1 ≠ w.heap.size + 1 + 1; omega) (.int .i64 0)).keep (p := ⟨w.heap.size + 1 + 1, 9, none⟩) (by show w.heap.size + 1 ≠ w.heap.size + 1 + 1; omega) (.int .i64 0)).keep (p := ⟨w.heap.size + 1 + 1, 18, none⟩) (by show w.heap.size + 1 ≠ w.heap.size + 1 + 1; omega) (.string ⟨#[]⟩)) rfl)) Try.underlying36 rfl (info_size _)) rfl ⟨rfl, Who.below_setCells ((((((HB.out).setCell (p := ⟨w.heap.size + 1 + 1, 4, none⟩) (by show w.heap.size ≤ w.heap.size + 1 + 1; omega) (.int .i64 0)).setCell (p := ⟨w.heap.size + 1 + 1, 5, none⟩) (by show w.heap.size ≤ w.heap.size + 1 + 1; omega) (.int .i64 0)).setCell (p := ⟨w.heap.size + 1 + 1, 8, none⟩) (by show w.heap.size ≤ w.heap.size + 1 + 1; omega) (.int .i64 0)).setCell (p := ⟨w.heap.size + 1 + 1, 9, none⟩) (by show w.heap.size ≤ w.heap.size + 1 + 1; omega) (.int .i64 0)).setCell (p := ⟨w.heap.size + 1 + 1, 18, none⟩) (by show w.heap.size ≤ w.heap.size + 1 + 1; omega) (.string ⟨#[]⟩)) (by omega) 0 _⟩
set_option maxRecDepth 100000 in
set_option maxHeartbeats 4000000 in
theorem rbare_k0 (m : MsgP) (q1 : ¬ m.kind = 1) (q2 : ¬ m.kind = 2) (q4 : ¬ m.kind = 4) (w : World) : Calls Try.prog 89 #[.agg (msgC m)] w fun e w' => e = .returned (.agg (msgC (bareM m))) ∧ Below w.heap.size w w' := by
  have HE := Lib.hid (show bareM m = { m with base := (0, 0), ix := 0, mark := (0, 0), tot := 0, data := ⟨#[]⟩ } from by unfold bareM; simp [q1, q2, q4])
  have e1 : (m.kind != 1) = true := by simp [q1, q2, q4]
  have e2 : (m.kind != 2) = true := by simp [q1, q2, q4]
  have e4 : (m.kind != 4) = true := by simp [q1, q2, q4]
  clear q1 q2 q4
  have HB := Lib.hid ((((Below.refl w.heap.size w).alloc (Nat.le_refl _) (.cells (msgC m) 36)).alloc (by simp) (.cells (msgC msg0) 36)).alloc (by simp <;> omega) (.cells (msgC m) 36))
  have HA0 := Lib.hid (show Has (((w.alloc (.cells (msgC m) 36)).alloc (.cells (msgC msg0) 36)).alloc (.cells (msgC m) 36)) w.heap.size 36 (msgC m) from ((Has.fresh w 36 (msgC m)).past _).past _)
  have HR := Lib.hid (show Has (((w.alloc (.cells (msgC m) 36)).alloc (.cells (msgC msg0) 36)).alloc (.cells (msgC m) 36)) (w.heap.size + 1) 36 (msgC msg0) from by have h := Has.fresh (w.alloc (.cells (msgC m) 36)) 36 (msgC msg0); rw [World.size_alloc] at h; exact h.past _)
  have HT := Lib.hid (show Has (((w.alloc (.cells (msgC m) 36)).alloc (.cells (msgC msg0) 36)).alloc (.cells (msgC m) 36)) (w.heap.size + 1 + 1) 36 (msgC m) from by have h := Has.fresh ((w.alloc (.cells (msgC m) 36)).alloc (.cells (msgC msg0) 36)) 36 (msgC m); simp only [World.size_alloc] at h; exact h)
  have c0 : (msgC m)[0]? = some (.int .i64 m.kind) := rfl
  have hal := alloc_msg
  have h00 := Lib.hid (Has.fresh w 36 (msgC m))
  go_enter Try.func89, Try.ntmps89
  go_wp2_with (first | ((with_reducible refine Who.wpList_alloc 36 2 rfl rfl rfl (msgC msg0) hal ?_); try simp only [Act.put, List.setIfInBounds_toArray, List.set_cons_zero, List.set_cons_succ]; (try simp only [World.size_alloc])) | ((with_reducible refine Who.wpList_loadC 36 (.tmp 1) rfl w.heap.size 0 (msgC m) ?_); refine And.intro ⟨by rfl, by rfl, ⟨_, Try.underlying36, rfl⟩, info_size _⟩ (And.intro (Who.has_range (h00.out.past _)) ?_); try simp only [Act.put, List.setIfInBounds_toArray, List.set_cons_zero, List.set_cons_succ]) | ((with_reducible refine Who.wpList_newC 36 3 (.tmp 4) rfl rfl rfl (msgC msg0) (msgC m) ?_); refine And.intro ⟨rfl, rfl, rfl, hal, by rfl, by rfl, info_size m, rfl, msgC_one m⟩ ?_; try simp only [Act.put, List.setIfInBounds_toArray, List.set_cons_zero, List.set_cons_succ]; (try simp only [World.size_alloc]); obtain ⟨w1, hw1⟩ : ∃ w1, w1 = (((w.alloc (.cells (msgC m) 36)).alloc (.cells (msgC msg0) 36)).alloc (.cells (msgC m) 36)) := ⟨_, rfl⟩; rw [← hw1] at HT HR HA0 HB ⊢; clear hw1; have hs0 := HA0.out.bound; have hs1 := HR.out.bound; have hs2 := HT.out.bound; have hr0 := fun j => HA0.out.at_ j; have d4 : w1.cell? ⟨w.heap.size + 1 + 1, 4, none⟩ = some (.int .i64 m.base.1) := HT.out.at_ 4; have f4 := HT.out.free 4; have d5 : w1.cell? ⟨w.heap.size + 1 + 1, 5, none⟩ = some (.int .i64 m.base.2) := HT.out.at_ 5; have f5 := HT.out.free 5; have d8 : w1.cell? ⟨w.heap.size + 1 + 1, 8, none⟩ = some (.int .i64 m.ix) := HT.out.at_ 8; have f8 := HT.out.free 8; have d6 : w1.cell? ⟨w.heap.size + 1 + 1, 6, none⟩ = some (.int .i64 m.mark.1) := HT.out.at_ 6; have f6 := HT.out.free 6; have d7 : w1.cell? ⟨w.heap.size + 1 + 1, 7, none⟩ = some (.int .i64 m.mark.2) := HT.out.at_ 7; have f7 := HT.out.free 7; have d9 : w1.cell? ⟨w.heap.size + 1 + 1, 9, none⟩ = some (.int .i64 m.tot) := HT.out.at_ 9; have f9 := HT.out.free 9; have d18 : w1.cell? ⟨w.heap.size + 1 + 1, 18, none⟩ = some (.string m.data) := HT.out.at_ 18; have f18 := HT.out.free 18) | ((with_reducible refine Who.wpList_loadC 36 (.tmp 3) rfl (w.heap.size + 1 + 1) 0 (msgC (bareM m)) ?_); refine And.intro ⟨by rfl, by rfl, ⟨_, Try.underlying36, rfl⟩, info_size _⟩ (And.intro (Who.has_range (t := 36) (by rw [HE.out]; have h := (has_data0 (has_tot0 (has_mark0 (has_ix0 (has_base0 HT.out))))); exact h)) ?_); try simp only [Act.put, List.setIfInBounds_toArray, List.set_cons_zero, List.set_cons_succ]) | ((with_reducible refine Who.wpList_storeC 36 (.tmp 2) (.tmp 36) rfl (w.heap.size + 1) 0 (msgC (bareM m)) ?_); refine And.intro ⟨rfl, by rfl, by rfl, info_size _, msgC_one _⟩ (And.intro (Who.has_there (t := 36) (cs := msgC msg0) (by have h := (((((((HR.out).keep (p := ⟨w.heap.size + 1 + 1, 4, none⟩) (by show w.heap.size + 1 ≠ w.heap.size + 1 + 1; omega) (.int .i64 0)).keep (p := ⟨w.heap.size + 1 + 1, 5, none⟩) (by show w.heap.size + 1 ≠ w.heap.size + 1 + 1; omega) (.int .i64 0)).keep (p := ⟨w.heap.size + 1 + 1, 8, none⟩) (by show w.heap.size + 1 ≠ w.heap.size + 1 + 1; omega) (.int .i64 0)).keep (p := ⟨w.heap.size + 1 + 1, 6, none⟩) (by show w.heap.size + 1 ≠ w.heap.size + 1 + 1; omega) (.int .i64 0)).keep (p := ⟨w.heap.size + 1 + 1, 7, none⟩) (by show w.heap.size + 1 ≠ w.heap.size + 1 + 1; omega) (.int .i64 0)).keep (p := ⟨w.heap.size + 1 + 1, 9, none⟩) (by show w.heap.size + 1 ≠ w.heap.size + 1 + 1; omega) (.int .i64 0)).keep (p := ⟨w.heap.size + 1 + 1, 18, none⟩) (by show w.heap.size + 1 ≠ w.heap.size + 1 + 1; omega) (.string ⟨#[]⟩); exact h) rfl) ?_); try simp only [Act.put, List.setIfInBounds_toArray, List.set_cons_zero, List.set_cons_succ]))
  refine bodyPost_ret (v := .agg (msgC (bareM m))) (Who.results_cell Try.results89 _ _ (w.heap.size + 1) 0 (msgC (bareM m)) _ (by rfl) (Who.has_range (Who.has_over ((((((((HR.out).keep (p := ⟨w.heap.size + 1 + 1, 4, none⟩) (by show w.heap.size + 1 ≠ w.heap.size + 1 + 1; omega) (.int .i64 0)).keep (p := ⟨w.heap.size + 1 + 1, 5, none⟩) (by show w.heap.size + 1 ≠ w.heap.size + 1 + 1; omega) (.int .i64 0)).keep (p := ⟨w.heap.size + 1 + 1, 8, none⟩) (by show w.heap.size + 1 ≠ w.heap.size + 1 + 1; omega) (.int .i64 0)).keep (p := ⟨w.heap.size + 1 + 1, 6, none⟩) (by show w.heap.size + 1 ≠ w.heap.size + 1 + 1; omega) (.int .i64 0)).keep (p := ⟨w.heap.size + 1 + 1, 7, none⟩) (by show w.heap.size + 1 ≠ w.heap.size + 1 + 1; omega) (.int .i64 0)).keep (p := ⟨w.heap.size + 1 + 1, 9, none⟩) (by show w.heap.size + 1 ≠ w.heap.size + 1 + 1; omega) (.int .i64 0)).keep (p := ⟨w.heap.size + 1 + 1, 18, none⟩) (by show w.heap.size + 1 ≠ w.heap.size + 1 + 1; omega) (.string ⟨#[]⟩)) rfl)) Try.underlying36 rfl (info_size _)) rfl ⟨rfl, Who.below_setCells ((((((((HB.out).setCell (p := ⟨w.heap.size + 1 + 1, 4, none⟩) (by show w.heap.size ≤ w.heap.size + 1 + 1; omega) (.int .i64 0)).setCell (p := ⟨w.heap.size + 1 + 1, 5, none⟩) (by show w.heap.size ≤ w.heap.size + 1 + 1; omega) (.int .i64 0)).setCell (p := ⟨w.heap.size + 1 + 1, 8, none⟩) (by show w.heap.size ≤ w.heap.size + 1 + 1; omega) (.int .i64 0)).setCell (p := ⟨w.heap.size + 1 + 1, 6, none⟩) (by show w.heap.size ≤ w.heap.size + 1 + 1; omega) (.int .i64 0)).setCell (p := ⟨w.heap.size + 1 + 1, 7, none⟩) (by show w.heap.size ≤ w.heap.size + 1 + 1; omega) (.int .i64 0)).setCell (p := ⟨w.heap.size + 1 + 1, 9, none⟩) (by show w.heap.size ≤ w.heap.size + 1 + 1; omega) (.int .i64 0)).setCell (p := ⟨w.heap.size + 1 + 1, 18, none⟩) (by show w.heap.size ≤ w.heap.size + 1 + 1; omega) (.string ⟨#[]⟩)) (by omega) 0 _⟩
theorem rbare_any (m : MsgP) (w : World) : Calls Try.prog 89 #[.agg (msgC m)] w fun e w' => e = .returned (.agg (msgC (bareM m))) ∧ Below w.heap.size w w' := by
  by_cases q1 : m.kind = 1
  · exact rbare_k1 m q1 w
  by_cases q2 : m.kind = 2
  · exact rbare_k2 m q2 w
  by_cases q4 : m.kind = 4
  · exact rbare_k4 m q4 w
  exact rbare_k0 m q1 q2 q4 w
end Go.Proofs.Ytjbbifmjhagfiaa.Nt
