/- Whether what a message has of its kind's own may stand together. -/
import Derived.Test.YtjbbifmjhagfiaaNtB
import Derived.Test.YtjbbifmjhagfiaaWho
namespace Go.Proofs.Ytjbbifmjhagfiaa.Nt
open Go.RowKit Go.Proofs.Ytjbbifmjhagfiaa.Mem Go.Proofs.Ytjbbifmjhagfiaa.Vc
set_option linter.unusedVariables false

set_option maxRecDepth 100000 in
set_option maxHeartbeats 2000000 in
theorem mayKind_told (m : MsgP) (w : World) : Calls Try.prog 86 #[.agg (msgC m)] w fun e w' => Told (KindOk m) e ∧ Below w.heap.size w w' := by
  have H1 := Lib.hid (fun W => within_told m.ix 0 4095 W)
  have H2 := Lib.hid (fun W => marked_told m W)
  have H3 := Lib.hid (fun W => within_told m.tot 1 4096 W)
  have H4 := Lib.hid (fun W => within_told m.ix 0 (m.tot - 1) W)
  have H5 := Lib.hid (fun W => within_told (m.data.size : Int) 1 512 W)
  have HB := Lib.hid (((Below.refl w.heap.size w).alloc (Nat.le_refl _) (.cells (msgC m) 36)))
  have HA0 := Lib.hid (show Has (w.alloc (.cells (msgC m) 36)) w.heap.size 36 (msgC m) from by have h := Has.fresh w 36 (msgC m); (try simp only [World.size_alloc] at h); exact h)
  go_enter Try.func86, Try.ntmps86
  have c0 : (msgC m)[0]? = some (.int .i64 m.kind) := rfl
  have c8 : (msgC m)[8]? = some (.int .i64 m.ix) := rfl
  have c9 : (msgC m)[9]? = some (.int .i64 m.tot) := rfl
  have c18 : (msgC m)[18]? = some (.string m.data) := rfl
  by_cases q1 : m.kind = 1
  · have KD := Lib.hid q1
    have e1 : (m.kind == 1) = true := beq_iff_eq.2 q1
    rw [q1] at c0
    clear q1
    go_wp2_with (refine Who.wpList_loadA (by rfl) 36 (.tmp 1) rfl _ 0 (msgC m) _ (Who.has_range HA0.out) (by rfl) Try.underlying36 rfl (info_size m) ?_; try simp only [Act.put, List.setIfInBounds_toArray, List.set_cons_zero, List.set_cons_succ])
    refine (H1.out _).mono ?_
    rintro e w0 ⟨⟨b0, rfl, p0⟩, hb⟩
    replace HB := Lib.hid (HB.out.trans (hb.mono HB.out.size))
    replace HA0 := Lib.hid (HA0.out.below hb)
    have hr0 := fun j => HA0.out.at_ j
    clear hb
    cases b0 with
    | true =>
      have K0 := Lib.hid (p0.1 rfl)
      clear p0
      go_wp2_with (refine Who.wpList_loadA (by rfl) 36 (.tmp 1) rfl _ 0 (msgC m) _ (Who.has_range HA0.out) (by rfl) Try.underlying36 rfl (info_size m) ?_; try simp only [Act.put, List.setIfInBounds_toArray, List.set_cons_zero, List.set_cons_succ])
      refine (H2.out _).mono ?_
      rintro e w1 ⟨⟨b1, rfl, p1⟩, hb⟩
      replace HB := Lib.hid (HB.out.trans (hb.mono HB.out.size))
      replace HA0 := Lib.hid (HA0.out.below hb)
      clear hr0
      have hr0 := fun j => HA0.out.at_ j
      clear hb
      cases b1 with
      | true =>
        have K1 := Lib.hid (p1.1 rfl)
        clear p1
        go_wp2_with (refine Who.wpList_loadA (by rfl) 36 (.tmp 1) rfl _ 0 (msgC m) _ (Who.has_range HA0.out) (by rfl) Try.underlying36 rfl (info_size m) ?_; try simp only [Act.put, List.setIfInBounds_toArray, List.set_cons_zero, List.set_cons_succ])
        go_ret
        exact ⟨told_yes ((kind_1 KD.out).2 ⟨K0.out, .inl K1.out⟩), HB.out⟩
      | false =>
        have K1 := Lib.hid (told_not p1)
        clear p1
        by_cases q2 : m.ix = 0
        · have K2 := Lib.hid q2
          go_wp2_with (refine Who.wpList_loadA (by rfl) 36 (.tmp 1) rfl _ 0 (msgC m) _ (Who.has_range HA0.out) (by rfl) Try.underlying36 rfl (info_size m) ?_; try simp only [Act.put, List.setIfInBounds_toArray, List.set_cons_zero, List.set_cons_succ])
          go_ret
          exact ⟨told_yes ((kind_1 KD.out).2 ⟨K0.out, .inr K2.out⟩), HB.out⟩
        · have K2 := Lib.hid q2
          have e1 : (m.ix == 0) = false := beq_eq_false_iff_ne.2 K2.out
          go_wp2_with (refine Who.wpList_loadA (by rfl) 36 (.tmp 1) rfl _ 0 (msgC m) _ (Who.has_range HA0.out) (by rfl) Try.underlying36 rfl (info_size m) ?_; try simp only [Act.put, List.setIfInBounds_toArray, List.set_cons_zero, List.set_cons_succ])
          go_ret
          exact ⟨told_no fun h => ((kind_1 KD.out).1 h).2.elim K1.out K2.out, HB.out⟩
    | false =>
      have K0 := Lib.hid (told_not p0)
      clear p0
      go_wp2_with (refine Who.wpList_loadA (by rfl) 36 (.tmp 1) rfl _ 0 (msgC m) _ (Who.has_range HA0.out) (by rfl) Try.underlying36 rfl (info_size m) ?_; try simp only [Act.put, List.setIfInBounds_toArray, List.set_cons_zero, List.set_cons_succ])
      go_ret
      exact ⟨told_no fun h => K0.out ((kind_1 KD.out).1 h).1, HB.out⟩
  · have e1 : (m.kind == 1) = false := beq_eq_false_iff_ne.2 q1
    have N1 := Lib.hid q1
    clear q1
    by_cases q2 : m.kind = 2
    · have KD := Lib.hid q2
      have e2 : (m.kind == 2) = true := beq_iff_eq.2 q2
      rw [q2] at c0
      clear q2
      go_wp2_with (refine Who.wpList_loadA (by rfl) 36 (.tmp 1) rfl _ 0 (msgC m) _ (Who.has_range HA0.out) (by rfl) Try.underlying36 rfl (info_size m) ?_; try simp only [Act.put, List.setIfInBounds_toArray, List.set_cons_zero, List.set_cons_succ])
      refine (H2.out _).mono ?_
      rintro e w0 ⟨⟨b0, rfl, p0⟩, hb⟩
      replace HB := Lib.hid (HB.out.trans (hb.mono HB.out.size))
      replace HA0 := Lib.hid (HA0.out.below hb)
      have hr0 := fun j => HA0.out.at_ j
      clear hb
      cases b0 with
      | true =>
        have K0 := Lib.hid (p0.1 rfl)
        clear p0
        go_wp2_with (refine Who.wpList_loadA (by rfl) 36 (.tmp 1) rfl _ 0 (msgC m) _ (Who.has_range HA0.out) (by rfl) Try.underlying36 rfl (info_size m) ?_; try simp only [Act.put, List.setIfInBounds_toArray, List.set_cons_zero, List.set_cons_succ])
        refine (H3.out _).mono ?_
        rintro e w1 ⟨⟨b1, rfl, p1⟩, hb⟩
        replace HB := Lib.hid (HB.out.trans (hb.mono HB.out.size))
        replace HA0 := Lib.hid (HA0.out.below hb)
        clear hr0
        have hr0 := fun j => HA0.out.at_ j
        clear hb
        cases b1 with
        | true =>
          have K1 := Lib.hid (p1.1 rfl)
          clear p1
          have b1 := K1.out.1
          have b2 := K1.out.2
          go_wp2_with (refine Who.wpList_loadA (by rfl) 36 (.tmp 1) rfl _ 0 (msgC m) _ (Who.has_range HA0.out) (by rfl) Try.underlying36 rfl (info_size m) ?_; try simp only [Act.put, List.setIfInBounds_toArray, List.set_cons_zero, List.set_cons_succ])
          refine (H4.out _).mono ?_
          rintro e w2 ⟨⟨b2, rfl, p2⟩, hb⟩
          replace HB := Lib.hid (HB.out.trans (hb.mono HB.out.size))
          replace HA0 := Lib.hid (HA0.out.below hb)
          clear hr0
          have hr0 := fun j => HA0.out.at_ j
          clear hb
          cases b2 with
          | true =>
            have K2 := Lib.hid (p2.1 rfl)
            clear p2
            go_wp2_with (refine Who.wpList_loadA (by rfl) 36 (.tmp 1) rfl _ 0 (msgC m) _ (Who.has_range HA0.out) (by rfl) Try.underlying36 rfl (info_size m) ?_; try simp only [Act.put, List.setIfInBounds_toArray, List.set_cons_zero, List.set_cons_succ])
            refine (H5.out _).mono ?_
            rintro e w3 ⟨⟨b3, rfl, p3⟩, hb⟩
            replace HB := Lib.hid (HB.out.trans (hb.mono HB.out.size))
            replace HA0 := Lib.hid (HA0.out.below hb)
            clear hr0
            have hr0 := fun j => HA0.out.at_ j
            clear hb
            cases b3 with
            | true =>
              have K3 := Lib.hid (p3.1 rfl)
              clear p3
              go_wp2_with (refine Who.wpList_loadA (by rfl) 36 (.tmp 1) rfl _ 0 (msgC m) _ (Who.has_range HA0.out) (by rfl) Try.underlying36 rfl (info_size m) ?_; try simp only [Act.put, List.setIfInBounds_toArray, List.set_cons_zero, List.set_cons_succ])
              go_ret
              exact ⟨told_yes ((kind_2 KD.out).2 ⟨K0.out, K1.out, K2.out, K3.out⟩), HB.out⟩
            | false =>
              have K3 := Lib.hid (told_not p3)
              clear p3
              go_wp2_with (refine Who.wpList_loadA (by rfl) 36 (.tmp 1) rfl _ 0 (msgC m) _ (Who.has_range HA0.out) (by rfl) Try.underlying36 rfl (info_size m) ?_; try simp only [Act.put, List.setIfInBounds_toArray, List.set_cons_zero, List.set_cons_succ])
              go_ret
              exact ⟨told_no fun h => K3.out ((kind_2 KD.out).1 h).2.2.2, HB.out⟩
          | false =>
            have K2 := Lib.hid (told_not p2)
            clear p2
            go_wp2_with (refine Who.wpList_loadA (by rfl) 36 (.tmp 1) rfl _ 0 (msgC m) _ (Who.has_range HA0.out) (by rfl) Try.underlying36 rfl (info_size m) ?_; try simp only [Act.put, List.setIfInBounds_toArray, List.set_cons_zero, List.set_cons_succ])
            go_ret
            exact ⟨told_no fun h => K2.out ((kind_2 KD.out).1 h).2.2.1, HB.out⟩
        | false =>
          have K1 := Lib.hid (told_not p1)
          clear p1
          go_wp2_with (refine Who.wpList_loadA (by rfl) 36 (.tmp 1) rfl _ 0 (msgC m) _ (Who.has_range HA0.out) (by rfl) Try.underlying36 rfl (info_size m) ?_; try simp only [Act.put, List.setIfInBounds_toArray, List.set_cons_zero, List.set_cons_succ])
          go_ret
          exact ⟨told_no fun h => K1.out ((kind_2 KD.out).1 h).2.1, HB.out⟩
      | false =>
        have K0 := Lib.hid (told_not p0)
        clear p0
        go_wp2_with (refine Who.wpList_loadA (by rfl) 36 (.tmp 1) rfl _ 0 (msgC m) _ (Who.has_range HA0.out) (by rfl) Try.underlying36 rfl (info_size m) ?_; try simp only [Act.put, List.setIfInBounds_toArray, List.set_cons_zero, List.set_cons_succ])
        go_ret
        exact ⟨told_no fun h => K0.out ((kind_2 KD.out).1 h).1, HB.out⟩
    · have e2 : (m.kind == 2) = false := beq_eq_false_iff_ne.2 q2
      have N2 := Lib.hid q2
      clear q2
      by_cases q4 : m.kind = 4
      · have KD := Lib.hid q4
        have e4 : (m.kind == 4) = true := beq_iff_eq.2 q4
        rw [q4] at c0
        clear q4
        go_wp2_with (refine Who.wpList_loadA (by rfl) 36 (.tmp 1) rfl _ 0 (msgC m) _ (Who.has_range HA0.out) (by rfl) Try.underlying36 rfl (info_size m) ?_; try simp only [Act.put, List.setIfInBounds_toArray, List.set_cons_zero, List.set_cons_succ])
        refine (H2.out _).mono ?_
        rintro e w0 ⟨⟨b0, rfl, p0⟩, hb⟩
        replace HB := Lib.hid (HB.out.trans (hb.mono HB.out.size))
        replace HA0 := Lib.hid (HA0.out.below hb)
        have hr0 := fun j => HA0.out.at_ j
        clear hb
        cases b0 with
        | true =>
          have K0 := Lib.hid (p0.1 rfl)
          clear p0
          go_wp2_with (refine Who.wpList_loadA (by rfl) 36 (.tmp 1) rfl _ 0 (msgC m) _ (Who.has_range HA0.out) (by rfl) Try.underlying36 rfl (info_size m) ?_; try simp only [Act.put, List.setIfInBounds_toArray, List.set_cons_zero, List.set_cons_succ])
          go_ret
          exact ⟨told_yes ((kind_4 KD.out).2 K0.out), HB.out⟩
        | false =>
          have K0 := Lib.hid (told_not p0)
          clear p0
          go_wp2_with (refine Who.wpList_loadA (by rfl) 36 (.tmp 1) rfl _ 0 (msgC m) _ (Who.has_range HA0.out) (by rfl) Try.underlying36 rfl (info_size m) ?_; try simp only [Act.put, List.setIfInBounds_toArray, List.set_cons_zero, List.set_cons_succ])
          go_ret
          exact ⟨told_no fun h => K0.out ((kind_4 KD.out).1 h), HB.out⟩
      · have e4 : (m.kind == 4) = false := beq_eq_false_iff_ne.2 q4
        have N4 := Lib.hid q4
        clear q4
        go_wp2
        go_ret
        exact ⟨told_yes (kind_0 N1.out N2.out N4.out), HB.out⟩
end Go.Proofs.Ytjbbifmjhagfiaa.Nt
