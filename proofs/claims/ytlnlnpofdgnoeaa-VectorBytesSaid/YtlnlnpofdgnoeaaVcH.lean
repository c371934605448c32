/- Vectors: the next event; the example. -/
import Derived.Test.YtlnlnpofdgnoeaaVcG
namespace Go.Proofs.Ytlnlnpofdgnoeaa.Vc
open Go.RowKit Go.Proofs.Ytlnlnpofdgnoeaa.Mem

def nextV (x : Nat → Int) (who : Int) : Value :=
  if whoB who = true ∧ goodB x = true then
    (if top x 7 = 1099511627776 then .tuple #[.agg (stC 0 0), .int .i64 75] else .tuple #[.agg (stC (top x 7 + 1) who), .int .i64 0])
  else .tuple #[.agg (stC 0 0), .int .i64 22]
theorem next_bad {x : Nat → Int} {who : Int} (h : ¬ (whoB who = true ∧ goodB x = true)) : nextV x who = .tuple #[.agg (stC 0 0), .int .i64 22] := if_neg h
theorem next_far {x : Nat → Int} {who : Int} (h1 : whoB who = true) (h2 : goodB x = true) (h : top x 7 = 1099511627776) : nextV x who = .tuple #[.agg (stC 0 0), .int .i64 75] := by
  unfold nextV
  rw [if_pos ⟨h1, h2⟩, if_pos h]
theorem next_ok {x : Nat → Int} {who : Int} (h1 : whoB who = true) (h2 : goodB x = true) (h : ¬ top x 7 = 1099511627776) : nextV x who = .tuple #[.agg (stC (top x 7 + 1) who), .int .i64 0] := by
  unfold nextV
  rw [if_pos ⟨h1, h2⟩, if_neg h]
theorem good_bounds {x : Nat → Int} (h : goodB x = true) : 0 ≤ top x 7 ∧ top x 7 ≤ 1099511627776 := by
  have h1 := good_low.1 h
  have h2 := ((low_iff x 0 7).1 h1.1) 0 (by omega)
  have h3 := ((top_iff x (top x 7) 7).1 (Int.le_refl _)) 0 (by omega)
  omega

section
variable {w : World} {g : Nat} {t : TypeId}
theorem cells_put2 {a b : Int} (h : Has w g t (stC a b)) (c d : Int) : (w.setCell ⟨g, 0, none⟩ (.int .i64 c)).cell? ⟨g, 0, none⟩ = some (.int .i64 c) ∧ ((w.setCell ⟨g, 0, none⟩ (.int .i64 c)).setCell ⟨g, 1, none⟩ (.int .i64 d)).cell? ⟨g, 1, none⟩ = some (.int .i64 d) :=
  ⟨Has.at_ (h.put 0 (.int .i64 c)) 0, Has.at_ (Has.put (h.put 0 (.int .i64 c)) 1 (.int .i64 d)) 1⟩
theorem below_put2 {B : Nat} {u : World} (h : Below B u w) (hg : B ≤ g) (c d : Int) : Below B u ((w.setCell ⟨g, 0, none⟩ (.int .i64 c)).setCell ⟨g, 1, none⟩ (.int .i64 d)) :=
  (h.setCell (p := ⟨g, 0, none⟩) hg _).setCell (p := ⟨g, 1, none⟩) hg _
end

set_option maxHeartbeats 1000000 in
theorem next_any (x : Nat → Int) (who : Int) (W : World) : Calls Try.prog 28 #[.agg (vecC x), .int .i64 who] W fun e W' => e = .returned (nextV x who) ∧ Below W.heap.size W W' := by
  have hb0 := ((Below.refl W.heap.size W).alloc (Nat.le_refl _) (.cells (vecC x) 25)).alloc (by simp) (.cells (stC 0 0) 23)
  have hx0 := (Has.fresh W 25 (vecC x)).past (.cells (stC 0 0) 23)
  have hr0 := Has.fresh (W.alloc (.cells (vecC x) 25)) 23 (stC 0 0)
  rw [World.size_alloc] at hr0
  have hw := fun W => isWho_any who W
  have hg := fun W => good_any x W
  cases hW : whoB who with
  | false =>
    have HV := Lib.hid (next_bad (x := x) (who := who) (by rw [hW]; simp))
    rw [hW] at hw
    have HWh := Lib.hid hw
    clear hg hw hW
    have HQ := Lib.hid hb0
    unfold stC at *
    clear hx0 hr0 hb0
    go_enter Try.func28, Try.ntmps28
    go_wp2_with fail
    refine (HWh.out _).mono ?_
    rintro e w1 ⟨rfl, rfl⟩
    go_wp2
    refine bodyPost_ret (v := .tuple #[.agg #[.int .i64 0, .int .i64 0], .int .i64 22]) (by simp [results, Try.results28, go_sem]) rfl ⟨by rw [HV.out], HQ.out⟩
  | true =>
    rw [hW] at hw
    have HWh := Lib.hid hw
    clear hw
    cases hG : goodB x with
    | false =>
      have HV := Lib.hid (next_bad (x := x) (who := who) (by rw [hG]; simp))
      rw [hG] at hg
      have HG := Lib.hid hg
      clear hg hG hW
      unfold stC at *
      obtain ⟨c0, c1, c2, c3, c4, c5, c6, c7⟩ := has_vec hx0
      go_enter Try.func28, Try.ntmps28
      go_wp2_with fail
      refine (HWh.out _).mono ?_
      rintro e w1 ⟨rfl, rfl⟩
      go_wp2_with fail
      refine (HG.out _).mono ?_
      rintro e w1 ⟨rfl, hb⟩
      have hr1 := hr0.below hb
      have hb1 := hb0.trans (hb.mono hb0.size)
      obtain ⟨r0, r1⟩ := has_st hr1
      have ff := fun i => hr1.free i
      obtain ⟨d0, d1⟩ := cells_put2 hr1 0 0
      have HQ := Lib.hid (below_put2 hb1 (g := W.heap.size + 1) (by omega) 0 0)
      clear hx0 hr0 hb0 hb hr1 hb1
      go_wp2
      refine bodyPost_ret (v := .tuple #[.agg #[.int .i64 0, .int .i64 0], .int .i64 22]) (by simp [results, Try.results28, go_sem, d0, d1]) rfl ⟨by rw [HV.out], HQ.out⟩
    | true =>
      have hbd := good_bounds hG
      rw [hG] at hg
      have HG := Lib.hid hg
      clear hg
      by_cases hF : top x 7 = 1099511627776
      · have HV := Lib.hid (next_far hW hG hF)
        have hM := fun g w h => max_any x g 25 w h
        rw [hF] at hM
        have HM := Lib.hid hM
        clear hM hG hW hbd hF
        unfold stC at *
        obtain ⟨c0, c1, c2, c3, c4, c5, c6, c7⟩ := has_vec hx0
        go_enter Try.func28, Try.ntmps28
        go_wp2_with fail
        refine (HWh.out _).mono ?_
        rintro e w1 ⟨rfl, rfl⟩
        go_wp2_with fail
        refine (HG.out _).mono ?_
        rintro e w1 ⟨rfl, hb⟩
        have hx1 := hx0.below hb
        have hr1 := hr0.below hb
        have hb1 := hb0.trans (hb.mono hb0.size)
        go_wp2_with fail
        refine (HM.out _ _ hx1).mono ?_
        rintro e w1 ⟨rfl, rfl⟩
        obtain ⟨r0, r1⟩ := has_st hr1
        have ff := fun i => hr1.free i
        obtain ⟨d0, d1⟩ := cells_put2 hr1 0 0
        have HQ := Lib.hid (below_put2 hb1 (g := W.heap.size + 1) (by omega) 0 0)
        clear hx0 hr0 hb0 hb hr1 hb1 hx1
        go_wp2
        refine bodyPost_ret (v := .tuple #[.agg #[.int .i64 0, .int .i64 0], .int .i64 75]) (by simp [results, Try.results28, go_sem, d0, d1]) rfl ⟨by rw [HV.out], HQ.out⟩
      · have HV := Lib.hid (next_ok hW hG hF)
        have hM := fun g w h => max_any x g 25 w h
        generalize top x 7 = m at *
        have HM := Lib.hid hM
        have hF2 : (m == 1099511627776) = false := beq_eq_false_iff_ne.2 hF
        have m0 := hbd.1
        have m1 := hbd.2
        clear hM hG hW hbd hF
        unfold stC at *
        obtain ⟨c0, c1, c2, c3, c4, c5, c6, c7⟩ := has_vec hx0
        go_enter Try.func28, Try.ntmps28
        go_wp2_with fail
        refine (HWh.out _).mono ?_
        rintro e w1 ⟨rfl, rfl⟩
        go_wp2_with fail
        refine (HG.out _).mono ?_
        rintro e w1 ⟨rfl, hb⟩
        have hx1 := hx0.below hb
        have hr1 := hr0.below hb
        have hb1 := hb0.trans (hb.mono hb0.size)
        go_wp2_with fail
        refine (HM.out _ _ hx1).mono ?_
        rintro e w1 ⟨rfl, rfl⟩
        obtain ⟨r0, r1⟩ := has_st hr1
        have ff := fun i => hr1.free i
        obtain ⟨d0, d1⟩ := cells_put2 hr1 (m + 1) who
        have HQ := Lib.hid (below_put2 hb1 (g := W.heap.size + 1) (by omega) (m + 1) who)
        clear hx0 hr0 hb0 hb hr1 hb1 hx1
        go_wp2
        refine bodyPost_ret (v := .tuple #[.agg #[.int .i64 (m + 1), .int .i64 who], .int .i64 0]) (by simp [results, Try.results28, go_sem, d0, d1]) rfl ⟨by rw [HV.out], HQ.out⟩
end Go.Proofs.Ytlnlnpofdgnoeaa.Vc
