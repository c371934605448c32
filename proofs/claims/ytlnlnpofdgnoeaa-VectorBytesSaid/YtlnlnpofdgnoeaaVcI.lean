/- Vectors: the next event by the document; the example. -/
import Derived.Test.YtlnlnpofdgnoeaaVcH
namespace Go.Proofs.Ytlnlnpofdgnoeaa.Vc
open Go.RowKit Go.Proofs.Ytlnlnpofdgnoeaa.Mem

/-- The greatest of the first so many, and of 0. -/
def tot (x : Nat → Int) : Nat → Int
  | 0 => 0
  | k + 1 => if tot x k < x k then x k else tot x k
theorem tot_top {x : Nat → Int} (h : ∀ i, i < 8 → 0 ≤ x i) : ∀ k, k < 8 → tot x (k + 1) = top x k
  | 0, hk => by
    have := h 0 hk
    show (if (0 : Int) < x 0 then x 0 else 0) = x 0
    split <;> omega
  | k + 1, hk => by
    have ih := tot_top h k (by omega)
    rw [tot, ih]
    rfl
theorem tot_good {x : Nat → Int} (h : goodB x = true) : tot x 8 = top x 7 := tot_top (fun i hi => (goodB_iff.1 h i hi).1) 7 (by decide)
theorem bad_who {w : Int} (h : ¬ (0 ≤ w ∧ w ≤ 7)) : whoB w = false := by
  unfold whoB
  by_cases h1 : 0 ≤ w
  · have : ¬ w < 8 := by omega
    simp [this]
  · simp [h1]
theorem good_who {w : Int} (h : 0 ≤ w) (h2 : w ≤ 7) : whoB w = true := by
  unfold whoB
  have : w < 8 := by omega
  simp [h, this]

set_option maxHeartbeats 2000000 in
theorem rnext_any (x : Nat → Int) (who : Int) (W : World) : Calls Try.prog 29 #[.agg (vecC x), .int .i64 who] W fun e W' => e = .returned (nextV x who) ∧ Below W.heap.size W W' := by
  have hb0 := ((Below.refl W.heap.size W).alloc (Nat.le_refl _) (.cells (vecC x) 25)).alloc (by simp) (.cells (stC 0 0) 23)
  have hx0 := (Has.fresh W 25 (vecC x)).past (.cells (stC 0 0) 23)
  have hr0 := Has.fresh (W.alloc (.cells (vecC x) 25)) 23 (stC 0 0)
  rw [World.size_alloc] at hr0
  have hg := fun W => rgood_any x W
  by_cases h1 : 0 ≤ who
  · by_cases h2 : who ≤ 7
    · cases hG : goodB x with
      | false =>
        have HV := Lib.hid (next_bad (x := x) (who := who) (by rw [hG]; simp))
        rw [hG] at hg
        have HG := Lib.hid hg
        clear hg hG
        unfold stC at *
        obtain ⟨c0, c1, c2, c3, c4, c5, c6, c7⟩ := has_vec hx0
        go_enter Try.func29, Try.ntmps29
        go_wp2_with fail
        refine (HG.out _).mono ?_
        rintro e w1 ⟨rfl, hb⟩
        have hr1 := hr0.below hb
        have hb1 := hb0.trans (hb.mono hb0.size)
        obtain ⟨r0, r1⟩ := has_st hr1
        have ff := fun i => hr1.free i
        obtain ⟨d0, d1⟩ := cells_put2 hr1 0 0
        have HQ := Lib.hid (below_put2 hb1 (g := W.heap.size + 1) (by omega) 0 0)
        clear hx0 hr0 hb0 hb hr1 hb1
        go_wp2
        refine bodyPost_ret (v := .tuple #[.agg #[.int .i64 0, .int .i64 0], .int .i64 22]) (by simp [results, Try.results29, go_sem, d0, d1]) rfl ⟨by rw [HV.out], HQ.out⟩
      | true =>
        have hbd := good_bounds hG
        have htt := tot_good hG
        rw [hG] at hg
        have HG := Lib.hid hg
        have HX := Lib.hid hx0
        have HR := Lib.hid hr0
        have HB0 := Lib.hid hb0
        have HBD := Lib.hid hbd
        have HTT := Lib.hid htt
        have HGD := Lib.hid hG
        clear hg hbd htt hb0 hr0 hG
        unfold stC at *
        obtain ⟨c0, c1, c2, c3, c4, c5, c6, c7⟩ := has_vec hx0
        clear hx0
        go_enter Try.func29, Try.ntmps29
        go_wp2_with fail
        refine (HG.out _).mono ?_
        rintro e w1 ⟨rfl, hb⟩
        have HX1 := Lib.hid (HX.out.below hb)
        have HR1 := Lib.hid (HR.out.below hb)
        have HB1 := Lib.hid (HB0.out.trans (hb.mono HB0.out.size))
        clear HX HR HB0 hb c0 c1 c2 c3 c4 c5 c6 c7 HG
        go_wp2
        go_loop [6, 20] (fun n i => ∃ k : Nat, k ≤ 8 ∧ i = .int .i64 k ∧ n = .int .i64 (tot x k)) (fun _ i => 8 - (intOf i).toNat)
        case atStart => exact ⟨0, by omega, rfl, rfl⟩
        case round =>
          obtain ⟨k, hk, rfl, rfl⟩ := hrel
          by_cases hlt : k < 8
          · have k1 : (k : Int) < 8 := by omega
            have cx := has_vec_at HX1.out hlt
            go_wp2
            go_round
            case rel => exact ⟨k + 1, by omega, by go_num, rfl⟩
            case measure => simp [intOf]; omega
          · obtain rfl : k = 8 := by omega
            rw [HTT.out]
            by_cases hF : top x 7 = 1099511627776
            · have HV := Lib.hid (next_far (good_who h1 h2) HGD.out hF)
              rw [hF]
              clear hF
              have hr1 := HR1.out
              have hb1 := HB1.out
              obtain ⟨r0, r1⟩ := has_st hr1
              have ff := fun i => hr1.free i
              obtain ⟨d0, d1⟩ := cells_put2 hr1 0 0
              have HQ := Lib.hid (below_put2 hb1 (g := W.heap.size + 1) (by omega) 0 0)
              clear hr1 hb1
              go_wp2
              refine bodyPost_ret (v := .tuple #[.agg #[.int .i64 0, .int .i64 0], .int .i64 75]) (by simp [results, Try.results29, go_sem, d0, d1]) rfl ⟨by rw [HV.out]; rfl, HQ.out⟩
            · have HV := Lib.hid (next_ok (good_who h1 h2) HGD.out hF)
              obtain ⟨m0, m1⟩ := HBD.out
              clear HBD HTT HGD
              generalize top x 7 = m at *
              have hF2 : (m == 1099511627776) = false := beq_eq_false_iff_ne.2 hF
              clear hF
              have hr1 := HR1.out
              have hb1 := HB1.out
              obtain ⟨r0, r1⟩ := has_st hr1
              have ff := fun i => hr1.free i
              obtain ⟨d0, d1⟩ := cells_put2 hr1 (m + 1) who
              have HQ := Lib.hid (below_put2 hb1 (g := W.heap.size + 1) (by omega) (m + 1) who)
              clear hr1 hb1
              go_wp2
              refine bodyPost_ret (v := .tuple #[.agg #[.int .i64 (m + 1), .int .i64 who], .int .i64 0]) (by simp [results, Try.results29, go_sem, d0, d1]) rfl ⟨by rw [HV.out]; rfl, HQ.out⟩
    · have HV := Lib.hid (next_bad (x := x) (who := who) (by rw [bad_who (by omega)]; simp))
      have HQ := Lib.hid hb0
      unfold stC at *
      clear hx0 hr0 hb0 hg
      go_enter Try.func29, Try.ntmps29
      go_wp2
      refine bodyPost_ret (v := .tuple #[.agg #[.int .i64 0, .int .i64 0], .int .i64 22]) (by simp [results, Try.results29, go_sem]) rfl ⟨by rw [HV.out], HQ.out⟩
  · have HV := Lib.hid (next_bad (x := x) (who := who) (by rw [bad_who (by omega)]; simp))
    have HQ := Lib.hid hb0
    unfold stC at *
    clear hx0 hr0 hb0 hg
    go_enter Try.func29, Try.ntmps29
    go_wp2
    refine bodyPost_ret (v := .tuple #[.agg #[.int .i64 0, .int .i64 0], .int .i64 22]) (by simp [results, Try.results29, go_sem]) rfl ⟨by rw [HV.out], HQ.out⟩
end Go.Proofs.Ytlnlnpofdgnoeaa.Vc
