/- What the law does to a store that none made. -/
import Derived.Test.YtidkckapjelbmaaSuC
namespace Go.Proofs.Ytidkckapjelbmaa.Sto
open Go.RowKit
open Oct (Has Chg)
open Rws
open Dv (DoV)

def opM (x : Int) : Int := wrap64 ((IntKind.u64.wrap x).tmod 13)
set_option maxRecDepth 100000 in
theorem op_any (op i : Int) (s v : Value) (w : World) :
    Calls Try.prog 10 #[.agg #[.int .i64 op, .int .i64 i, v, s]] w fun e w' => e = .returned (.int .i64 (opM op)) ∧ Below w.heap.size w w' := by
  go_enter Try.func10, Try.ntmps10
  go_wp2
  go_ret
  exact ⟨rfl, (Below.refl _ w).alloc (Nat.le_refl _) _⟩
set_option maxRecDepth 100000 in
set_option maxHeartbeats 4000000 in
theorem does_no (a : Option Addr) (op i : Int) (s : ByteArray) (A : Option Addr) (n c : Nat) (w : World) (h : Nob w a) (h10 : ¬ 10 < opM op) (h8 : opM op ≠ 8) :
    Calls Try.prog 11 #[.pointer a, .pointer none, .agg #[.int .i64 op, .int .i64 i, .slice A n c, .string s]] w fun e w' =>
      e = .returned (.tuple #[.int .i64 0, .agg #[.slice none 0 0, .string ⟨#[]⟩], .int .i64 200]) ∧ Below w.heap.size w w' := by
  have hr0 := (Has.fresh w 35 #[.int .i64 op, .int .i64 i, .slice A n c, .string s]).past (.cells #[.slice none 0 0, .string ⟨#[]⟩] 38)
  have hr1 := Has.fresh (w.alloc (.cells #[.int .i64 op, .int .i64 i, .slice A n c, .string s] 35)) 38 #[.slice none 0 0, .string ⟨#[]⟩]
  rw [World.size_alloc] at hr1
  have hB : Below w.heap.size w ((w.alloc (.cells #[.int .i64 op, .int .i64 i, .slice A n c, .string s] 35)).alloc (.cells #[.slice none 0 0, .string ⟨#[]⟩] 38)) := ((Below.refl _ w).alloc (Nat.le_refl _) _).alloc (by simp) _
  have HO := Lib.hid (op_any op i (.string s) (.slice A n c) ((w.alloc (.cells #[.int .i64 op, .int .i64 i, .slice A n c, .string s] 35)).alloc (.cells #[.slice none 0 0, .string ⟨#[]⟩] 38)))
  have HR0 := Lib.hid hr0
  have HR1 := Lib.hid hr1
  have HB := Lib.hid hB
  have HN := Lib.hid (h.below hB)
  clear h hr0 hr1 hB
  have g8 : (opM op == 8) = false := beq_eq_false_iff_ne.2 h8
  have g11 : (opM op == 11) = false := beq_eq_false_iff_ne.2 (by omega)
  generalize opM op = m at *
  clear h8 h10
  have tail : ∀ w3, Below ((w.alloc (.cells #[.int .i64 op, .int .i64 i, .slice A n c, .string s] 35)).alloc (.cells #[.slice none 0 0, .string ⟨#[]⟩] 38)).heap.size ((w.alloc (.cells #[.int .i64 op, .int .i64 i, .slice A n c, .string s] 35)).alloc (.cells #[.slice none 0 0, .string ⟨#[]⟩] 38)) w3 → Nob w3 a ∧ Has w3 w.heap.size 35 #[.int .i64 op, .int .i64 i, .slice A n c, .string s] ∧ Has w3 (w.heap.size + 1) 38 #[.slice none 0 0, .string ⟨#[]⟩] ∧ Below w.heap.size w w3 := fun w3 hb => ⟨HN.out.below hb, has_blw HR0.out hb, has_blw HR1.out hb, HB.out.trans (hb.mono (by simp; omega))⟩
  have HT := Lib.hid tail
  clear tail
  by_cases k5 : m = 5
  · subst k5
    go_enter Try.func11, Try.ntmps11
    go_wp2_with fail
    refine HO.out.mono ?_
    rintro e w3 ⟨rfl, hb3⟩
    obtain ⟨hn3, hd3, hk3, hw3⟩ := HT.out w3 hb3
    have HN3 := Lib.hid hn3
    have HK3 := Lib.hid hk3
    have HW3 := Lib.hid hw3
    have d0 := Has.at_ hd3 0
    have d1 := Has.at_ hd3 1
    have d2 := Has.at_ hd3 2
    have d3 := Has.at_ hd3 3
    have j0 := Has.at_ hk3 0
    have j1 := Has.at_ hk3 1
    have f0 := Has.free hk3 0
    have f1 := Has.free hk3 1
    simp at d0 d1 d2 d3 j0 j1
    have h22 := Has.put (Has.put hk3 0 (.slice none 0 0)) 1 (.string ⟨#[]⟩)
    have j2 := Has.at_ h22 0
    have j3 := Has.at_ h22 1
    simp at j2 j3
    have HB4 := Lib.hid (below_cells hw3 (show w.heap.size ≤ w.heap.size + 1 by omega) (.slice none 0 0) (.string ⟨#[]⟩))
    clear hb3 hn3 hd3 hk3 hw3 h22 HO HT
    go_wp2_with fail
    refine (hold_no a i _ HN3.out).mono ?_
    rintro e w4 ⟨rfl, rfl⟩
    go_wp2
    exact bodyPost_ret (v := .tuple #[.int .i64 0, .agg #[.slice none 0 0, .string ⟨#[]⟩], .int .i64 200]) (by simp [results, Try.results11, go_sem, j2, j3]) rfl ⟨rfl, HB4.out⟩
  · have t5 : (m == 5) = false := beq_eq_false_iff_ne.2 k5
    by_cases k6 : m = 6
    · subst k6
      go_enter Try.func11, Try.ntmps11
      go_wp2_with fail
      refine HO.out.mono ?_
      rintro e w3 ⟨rfl, hb3⟩
      obtain ⟨hn3, hd3, hk3, hw3⟩ := HT.out w3 hb3
      have HN3 := Lib.hid hn3
      have HK3 := Lib.hid hk3
      have HW3 := Lib.hid hw3
      have d0 := Has.at_ hd3 0
      have d1 := Has.at_ hd3 1
      have d2 := Has.at_ hd3 2
      have d3 := Has.at_ hd3 3
      have j0 := Has.at_ hk3 0
      have j1 := Has.at_ hk3 1
      have f0 := Has.free hk3 0
      have f1 := Has.free hk3 1
      simp at d0 d1 d2 d3 j0 j1
      have h22 := Has.put (Has.put hk3 0 (.slice none 0 0)) 1 (.string ⟨#[]⟩)
      have j2 := Has.at_ h22 0
      have j3 := Has.at_ h22 1
      simp at j2 j3
      have HB4 := Lib.hid (below_cells hw3 (show w.heap.size ≤ w.heap.size + 1 by omega) (.slice none 0 0) (.string ⟨#[]⟩))
      clear hb3 hn3 hd3 hk3 hw3 h22 HO HT
      go_wp2_with fail
      refine (hold_no a i _ HN3.out).mono ?_
      rintro e w4 ⟨rfl, rfl⟩
      go_wp2
      exact bodyPost_ret (v := .tuple #[.int .i64 0, .agg #[.slice none 0 0, .string ⟨#[]⟩], .int .i64 200]) (by simp [results, Try.results11, go_sem, j2, j3]) rfl ⟨rfl, HB4.out⟩
    · have t6 : (m == 6) = false := beq_eq_false_iff_ne.2 k6
      by_cases k7 : m = 7
      · subst k7
        go_enter Try.func11, Try.ntmps11
        go_wp2_with fail
        refine HO.out.mono ?_
        rintro e w3 ⟨rfl, hb3⟩
        obtain ⟨hn3, hd3, hk3, hw3⟩ := HT.out w3 hb3
        have HN3 := Lib.hid hn3
        have HK3 := Lib.hid hk3
        have HW3 := Lib.hid hw3
        have d0 := Has.at_ hd3 0
        have d1 := Has.at_ hd3 1
        have d2 := Has.at_ hd3 2
        have d3 := Has.at_ hd3 3
        have j0 := Has.at_ hk3 0
        have j1 := Has.at_ hk3 1
        have f0 := Has.free hk3 0
        have f1 := Has.free hk3 1
        simp at d0 d1 d2 d3 j0 j1
        have h22 := Has.put (Has.put hk3 0 (.slice none 0 0)) 1 (.string ⟨#[]⟩)
        have j2 := Has.at_ h22 0
        have j3 := Has.at_ h22 1
        simp at j2 j3
        have HB4 := Lib.hid (below_cells hw3 (show w.heap.size ≤ w.heap.size + 1 by omega) (.slice none 0 0) (.string ⟨#[]⟩))
        clear hb3 hn3 hd3 hk3 hw3 h22 HO HT
        go_wp2_with fail
        refine (drop_no a i _ HN3.out).mono ?_
        rintro e w4 ⟨rfl, rfl⟩
        go_wp2
        exact bodyPost_ret (v := .tuple #[.int .i64 0, .agg #[.slice none 0 0, .string ⟨#[]⟩], .int .i64 200]) (by simp [results, Try.results11, go_sem, j2, j3]) rfl ⟨rfl, HB4.out⟩
      · have t7 : (m == 7) = false := beq_eq_false_iff_ne.2 k7
        by_cases k9 : m = 9
        · subst k9
          go_enter Try.func11, Try.ntmps11
          go_wp2_with fail
          refine HO.out.mono ?_
          rintro e w3 ⟨rfl, hb3⟩
          obtain ⟨hn3, hd3, hk3, hw3⟩ := HT.out w3 hb3
          have HN3 := Lib.hid hn3
          have HK3 := Lib.hid hk3
          have HW3 := Lib.hid hw3
          have d0 := Has.at_ hd3 0
          have d1 := Has.at_ hd3 1
          have d2 := Has.at_ hd3 2
          have d3 := Has.at_ hd3 3
          have j0 := Has.at_ hk3 0
          have j1 := Has.at_ hk3 1
          have f0 := Has.free hk3 0
          have f1 := Has.free hk3 1
          simp at d0 d1 d2 d3 j0 j1
          have h22 := Has.put (Has.put hk3 0 (.slice none 0 0)) 1 (.string ⟨#[]⟩)
          have j2 := Has.at_ h22 0
          have j3 := Has.at_ h22 1
          simp at j2 j3
          have HB4 := Lib.hid (below_cells hw3 (show w.heap.size ≤ w.heap.size + 1 by omega) (.slice none 0 0) (.string ⟨#[]⟩))
          clear hb3 hn3 hd3 hk3 hw3 h22 HO HT
          go_wp2_with fail
          refine (commit_no a i s _ HN3.out).mono ?_
          rintro e w4 ⟨rfl, rfl⟩
          go_wp2
          exact bodyPost_ret (v := .tuple #[.int .i64 0, .agg #[.slice none 0 0, .string ⟨#[]⟩], .int .i64 200]) (by simp [results, Try.results11, go_sem, j2, j3]) rfl ⟨rfl, HB4.out⟩
        · have t9 : (m == 9) = false := beq_eq_false_iff_ne.2 k9
          by_cases k10 : m = 10
          · subst k10
            go_enter Try.func11, Try.ntmps11
            go_wp2_with fail
            refine HO.out.mono ?_
            rintro e w3 ⟨rfl, hb3⟩
            obtain ⟨hn3, hd3, hk3, hw3⟩ := HT.out w3 hb3
            have HN3 := Lib.hid hn3
            have HK3 := Lib.hid hk3
            have HW3 := Lib.hid hw3
            have d0 := Has.at_ hd3 0
            have d1 := Has.at_ hd3 1
            have d2 := Has.at_ hd3 2
            have d3 := Has.at_ hd3 3
            have j0 := Has.at_ hk3 0
            have j1 := Has.at_ hk3 1
            have f0 := Has.free hk3 0
            have f1 := Has.free hk3 1
            simp at d0 d1 d2 d3 j0 j1
            have h22 := Has.put (Has.put hk3 0 (.slice none 0 0)) 1 (.string ⟨#[]⟩)
            have j2 := Has.at_ h22 0
            have j3 := Has.at_ h22 1
            simp at j2 j3
            have HB4 := Lib.hid (below_cells hw3 (show w.heap.size ≤ w.heap.size + 1 by omega) (.slice none 0 0) (.string ⟨#[]⟩))
            clear hb3 hn3 hd3 hk3 hw3 h22 HO HT
            go_wp2_with fail
            refine (get_no a i _ HN3.out).mono ?_
            rintro e w4 ⟨rfl, hb4⟩
            have hk5 : Has (w4.alloc (.cells #[.slice none 0 0, .string ⟨#[]⟩] 38)).drew (w.heap.size + 1) 38 #[.slice none 0 0, .string ⟨#[]⟩] := (has_blw HK3.out hb4).past _
            have hf5 : Has (w4.alloc (.cells #[.slice none 0 0, .string ⟨#[]⟩] 38)).drew w4.heap.size 38 #[.slice none 0 0, .string ⟨#[]⟩] := Has.fresh w4 _ _
            clear j0 j1 j2 j3 f0 f1
            have j0 := Has.at_ hk5 0
            have j1 := Has.at_ hk5 1
            have q0 := Has.at_ hf5 0
            have q1 := Has.at_ hf5 1
            have f0 := Has.free (show Has (w4.alloc (.cells #[.slice none 0 0, .string ⟨#[]⟩] 38)) (w.heap.size + 1) 38 _ from hk5) 0
            have f1 := Has.free (show Has (w4.alloc (.cells #[.slice none 0 0, .string ⟨#[]⟩] 38)) (w.heap.size + 1) 38 _ from hk5) 1
            simp at j0 j1 q0 q1
            have h22 := Has.put (Has.put (show Has (w4.alloc (.cells #[.slice none 0 0, .string ⟨#[]⟩] 38)) (w.heap.size + 1) 38 #[.slice none 0 0, .string ⟨#[]⟩] from hk5) 0 (.slice none 0 0)) 1 (.string ⟨#[]⟩)
            have j2 := Has.at_ h22 0
            have j3 := Has.at_ h22 1
            simp at j2 j3
            have hw4 := HW3.out.trans (hb4.mono HW3.out.size)
            have HB6 := Lib.hid ((below_cells (hw4.alloc hw4.size (.cells #[.slice none 0 0, .string ⟨#[]⟩] 38)) (show w.heap.size ≤ w.heap.size + 1 by omega) (.slice none 0 0) (.string ⟨#[]⟩)).drew)
            clear hk5 hf5 h22 hw4 hb4 HB4
            go_wp2_with fail
            go_region
            go_wp2
            exact bodyPost_ret (v := .tuple #[.int .i64 0, .agg #[.slice none 0 0, .string ⟨#[]⟩], .int .i64 200]) (by simp [results, Try.results11, go_sem, j2, j3]) rfl ⟨rfl, HB6.out⟩
          · have t10 : (m == 10) = false := beq_eq_false_iff_ne.2 k10
            go_enter Try.func11, Try.ntmps11
            go_wp2_with fail
            refine HO.out.mono ?_
            rintro e w3 ⟨rfl, hb3⟩
            obtain ⟨hn3, hd3, hk3, hw3⟩ := HT.out w3 hb3
            have HN3 := Lib.hid hn3
            have HK3 := Lib.hid hk3
            have HW3 := Lib.hid hw3
            have d0 := Has.at_ hd3 0
            have d1 := Has.at_ hd3 1
            have d2 := Has.at_ hd3 2
            have d3 := Has.at_ hd3 3
            have j0 := Has.at_ hk3 0
            have j1 := Has.at_ hk3 1
            have f0 := Has.free hk3 0
            have f1 := Has.free hk3 1
            simp at d0 d1 d2 d3 j0 j1
            have h22 := Has.put (Has.put hk3 0 (.slice none 0 0)) 1 (.string ⟨#[]⟩)
            have j2 := Has.at_ h22 0
            have j3 := Has.at_ h22 1
            simp at j2 j3
            have HB4 := Lib.hid (below_cells hw3 (show w.heap.size ≤ w.heap.size + 1 by omega) (.slice none 0 0) (.string ⟨#[]⟩))
            clear hb3 hn3 hd3 hk3 hw3 h22 HO HT
            go_wp2_with fail
            refine (put_no a A n c s _ HN3.out).mono ?_
            rintro e w4 ⟨rfl, rfl⟩
            go_wp2
            exact bodyPost_ret (v := .tuple #[.int .i64 0, .agg #[.slice none 0 0, .string ⟨#[]⟩], .int .i64 200]) (by simp [results, Try.results11, go_sem, j2, j3]) rfl ⟨rfl, HB4.out⟩
end Go.Proofs.Ytidkckapjelbmaa.Sto
