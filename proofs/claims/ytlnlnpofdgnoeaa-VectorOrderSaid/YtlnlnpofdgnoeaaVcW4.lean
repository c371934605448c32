/- VectorOrder, walked. -/
import Derived.Test.YtlnlnpofdgnoeaaVcCmp
import Derived.Test.YtlnlnpofdgnoeaaVcJ
import Derived.Test.YtlnlnpofdgnoeaaVcOpen
namespace Go.Proofs.Ytlnlnpofdgnoeaa.Vc
open Go.RowKit Go.Proofs.Ytlnlnpofdgnoeaa.Mem

theorem less_self (a b : Int) : lessB a b a b = false := by
  rw [Bool.eq_false_iff]
  intro h
  rcases lessB_iff.1 h with h | h <;> omega
theorem less_turn {a b c d : Int} (h : lessB a b c d = true) : lessB c d a b = false := by
  rw [Bool.eq_false_iff]
  intro k
  have h1 := lessB_iff.1 h
  have h2 := lessB_iff.1 k
  omega
theorem less_none {a b c d : Int} (h : lessB a b c d = false) (k : lessB c d a b = false) : a = c ∧ b = d := by
  have h1 := mt lessB_iff.2 (by rw [h]; simp)
  have h2 := mt lessB_iff.2 (by rw [k]; simp)
  omega
theorem less_trans {a b c d e f : Int} (h : lessB a b c d = true) (k : lessB c d e f = true) : lessB a b e f = true := by
  have h1 := lessB_iff.1 h
  have h2 := lessB_iff.1 k
  exact lessB_iff.2 (by omega)
def inB (t w : Int) : Bool := decide (0 ≤ t) && decide (t ≤ 1099511627776) && decide (0 ≤ w) && decide (w < 256)
theorem inB_iff {t w : Int} : inB t w = true ↔ (0 ≤ t ∧ t ≤ 1099511627776) ∧ 0 ≤ w ∧ w < 256 := by
  unfold inB
  simp [and_assoc]
theorem in_any (t w : Int) (W : World) : Calls Try.prog 42 #[.agg (stC t w)] W fun e W' => e = .returned (.bool (inB t w)) ∧ Below W.heap.size W W' := by
  have hb0 := Lib.hid ((Below.refl W.heap.size W).alloc (Nat.le_refl _) (.cells #[.int .i64 t, .int .i64 w] 23))
  unfold stC
  by_cases h1 : 0 ≤ t
  · by_cases h2 : t ≤ 1099511627776
    · by_cases h3 : 0 ≤ w
      · by_cases h4 : w < 256
        · have HB := Lib.hid (show inB t w = true by simp [inB, h1, h2, h3, h4])
          go_enter Try.func42, Try.ntmps42
          go_wp2
          go_ret
          exact ⟨by rw [HB.out]; rfl, hb0.out⟩
        · have HB := Lib.hid (show inB t w = false by simp [inB, h4])
          go_enter Try.func42, Try.ntmps42
          go_wp2
          go_ret
          exact ⟨by rw [HB.out]; rfl, hb0.out⟩
      · have HB := Lib.hid (show inB t w = false by simp [inB, h3])
        go_enter Try.func42, Try.ntmps42
        go_wp2
        go_ret
        exact ⟨by rw [HB.out]; rfl, hb0.out⟩
    · have HB := Lib.hid (show inB t w = false by simp [inB, h2])
      go_enter Try.func42, Try.ntmps42
      go_wp2
      go_ret
      exact ⟨by rw [HB.out]; rfl, hb0.out⟩
  · have HB := Lib.hid (show inB t w = false by simp [inB, h1])
    go_enter Try.func42, Try.ntmps42
    go_wp2
    go_ret
    exact ⟨by rw [HB.out]; rfl, hb0.out⟩
theorem order_cmp {a0 a1 b0 b1 : Int} (h : inB a0 a1 = true) (k : inB b0 b1 = true) : decide (Lib.compareBytes (stB a0 a1) (stB b0 b1) < 0) = lessB a0 a1 b0 b1 := by
  obtain ⟨⟨h1, h2⟩, h3, h4⟩ := inB_iff.1 h
  obtain ⟨⟨k1, k2⟩, k3, k4⟩ := inB_iff.1 k
  obtain ⟨a, rfl⟩ := Int.eq_ofNat_of_zero_le h1
  obtain ⟨b, rfl⟩ := Int.eq_ofNat_of_zero_le h3
  obtain ⟨c, rfl⟩ := Int.eq_ofNat_of_zero_le k1
  obtain ⟨d, rfl⟩ := Int.eq_ofNat_of_zero_le k3
  exact stB_cmp a b c d (by omega) (by omega) (by omega) (by omega)

set_option maxHeartbeats 8000000 in
set_option maxRecDepth 100000 in
theorem order_yy (a0 a1 b0 b1 c0 c1 : Int) (iA iB : Bool) (W : World) (hia : inB a0 a1 = iA) (hib : inB b0 b1 = iB) (haa : lessB a0 a1 a0 a1 = false) (hab : lessB a0 a1 b0 b1 = true) (hba : lessB b0 b1 a0 a1 = false) (hbc : lessB b0 b1 c0 c1 = true) (hac : lessB a0 a1 c0 c1 = true) :
    Calls Try.prog 7 #[.agg (stC a0 a1), .agg (stC b0 b1), .agg (stC c0 c1)] W fun e w' => e = .returned (.bool true) ∧ Below W.heap.size W w' := by
  have HAA := Lib.hid (show ∀ W : World, Calls Try.prog 11 #[.agg #[.int .i64 a0, .int .i64 a1], .agg #[.int .i64 a0, .int .i64 a1]] W fun e w' => e = .returned (.bool false) ∧ Below W.heap.size W w' from fun W => by have h := less_any a0 a1 a0 a1 W; rw [haa] at h; exact h)
  have HAB := Lib.hid (show ∀ W : World, Calls Try.prog 11 #[.agg #[.int .i64 a0, .int .i64 a1], .agg #[.int .i64 b0, .int .i64 b1]] W fun e w' => e = .returned (.bool true) ∧ Below W.heap.size W w' from fun W => by have h := less_any a0 a1 b0 b1 W; rw [hab] at h; exact h)
  have HBA := Lib.hid (show ∀ W : World, Calls Try.prog 11 #[.agg #[.int .i64 b0, .int .i64 b1], .agg #[.int .i64 a0, .int .i64 a1]] W fun e w' => e = .returned (.bool false) ∧ Below W.heap.size W w' from fun W => by have h := less_any b0 b1 a0 a1 W; rw [hba] at h; exact h)
  have HBC := Lib.hid (show ∀ W : World, Calls Try.prog 11 #[.agg #[.int .i64 b0, .int .i64 b1], .agg #[.int .i64 c0, .int .i64 c1]] W fun e w' => e = .returned (.bool true) ∧ Below W.heap.size W w' from fun W => by have h := less_any b0 b1 c0 c1 W; rw [hbc] at h; exact h)
  have HAC := Lib.hid (show ∀ W : World, Calls Try.prog 11 #[.agg #[.int .i64 a0, .int .i64 a1], .agg #[.int .i64 c0, .int .i64 c1]] W fun e w' => e = .returned (.bool true) ∧ Below W.heap.size W w' from fun W => by have h := less_any a0 a1 c0 c1 W; rw [hac] at h; exact h)
  have HL := Lib.hid (show ∀ W : World, Calls Try.prog 11 #[.agg #[.int .i64 a0, .int .i64 a1], .agg #[.int .i64 b0, .int .i64 b1]] W fun e w' => e = .returned (.bool true) ∧ Below W.heap.size W w' from HAB.out)
  have HIA := Lib.hid (show ∀ W : World, Calls Try.prog 42 #[.agg #[.int .i64 a0, .int .i64 a1]] W fun e w' => e = .returned (.bool iA) ∧ Below W.heap.size W w' from fun W => by have h := in_any a0 a1 W; rw [hia] at h; exact h)
  have HIB := Lib.hid (show ∀ W : World, Calls Try.prog 42 #[.agg #[.int .i64 b0, .int .i64 b1]] W fun e w' => e = .returned (.bool iB) ∧ Below W.heap.size W w' from fun W => by have h := in_any b0 b1 W; rw [hib] at h; exact h)
  have HPA := Lib.hid (fun W => show Calls Try.prog 33 #[.slice none 0 0, .agg #[.int .i64 a0, .int .i64 a1]] W fun e w' => ∃ v, e = .returned v ∧ Oct.Owns w' W.heap.size v (stB a0 a1) ∧ Below W.heap.size W w' from putStamp_any none 0 0 a0 a1 [] (by omega) W (row_nil W) (fun _ => ⟨rfl, rfl⟩))
  have HPB := Lib.hid (fun W => show Calls Try.prog 33 #[.slice none 0 0, .agg #[.int .i64 b0, .int .i64 b1]] W fun e w' => ∃ v, e = .returned v ∧ Oct.Owns w' W.heap.size v (stB b0 b1) ∧ Below W.heap.size W w' from putStamp_any none 0 0 b0 b1 [] (by omega) W (row_nil W) (fun _ => ⟨rfl, rfl⟩))
  have HC := Lib.hid (show iA = true → iB = true → decide (Lib.compareBytes (stB a0 a1) (stB b0 b1) < 0) = true from fun h1 h2 => by rw [← hab]; exact order_cmp (hia.trans h1) (hib.trans h2))
  have hb0 := (((Below.refl W.heap.size W).alloc (Nat.le_refl _) (.cells #[.int .i64 a0, .int .i64 a1] 23)).alloc (by simp) (.cells #[.int .i64 b0, .int .i64 b1] 23)).alloc (by simp; omega) (.cells #[.int .i64 c0, .int .i64 c1] 23)
  have ha := ((Has.fresh W 23 #[.int .i64 a0, .int .i64 a1]).past (.cells #[.int .i64 b0, .int .i64 b1] 23)).past (.cells #[.int .i64 c0, .int .i64 c1] 23)
  have hbb := (Has.fresh (W.alloc (.cells #[.int .i64 a0, .int .i64 a1] 23)) 23 #[.int .i64 b0, .int .i64 b1]).past (.cells #[.int .i64 c0, .int .i64 c1] 23)
  have hc := Has.fresh ((W.alloc (.cells #[.int .i64 a0, .int .i64 a1] 23)).alloc (.cells #[.int .i64 b0, .int .i64 b1] 23)) 23 #[.int .i64 c0, .int .i64 c1]
  rw [World.size_alloc] at hbb hc
  rw [World.size_alloc] at hc
  clear haa hab hba hbc hac hia hib
  unfold stC
  go_enter Try.func7, Try.ntmps7
  obtain ⟨ca0, ca1⟩ := has_st ha
  obtain ⟨cb0, cb1⟩ := has_st hbb
  obtain ⟨cc0, cc1⟩ := has_st hc
  go_wp2_with fail
  refine (HAA.out _).mono ?_
  rintro e v1 ⟨rfl, hb⟩
  clear ca0 ca1 cb0 cb1 cc0 cc1
  replace ha := ha.below hb
  replace hbb := hbb.below hb
  replace hc := hc.below hb
  replace hb0 := hb0.trans (hb.mono hb0.size)
  clear hb
  obtain ⟨ca0, ca1⟩ := has_st ha
  obtain ⟨cb0, cb1⟩ := has_st hbb
  obtain ⟨cc0, cc1⟩ := has_st hc
  go_wp2_with fail
  refine (HAB.out _).mono ?_
  rintro e v2 ⟨rfl, hb⟩
  clear ca0 ca1 cb0 cb1 cc0 cc1
  replace ha := ha.below hb
  replace hbb := hbb.below hb
  replace hc := hc.below hb
  replace hb0 := hb0.trans (hb.mono hb0.size)
  clear hb
  obtain ⟨ca0, ca1⟩ := has_st ha
  obtain ⟨cb0, cb1⟩ := has_st hbb
  obtain ⟨cc0, cc1⟩ := has_st hc
  go_wp2_with fail
  refine (HBA.out _).mono ?_
  rintro e v3 ⟨rfl, hb⟩
  clear ca0 ca1 cb0 cb1 cc0 cc1
  replace ha := ha.below hb
  replace hbb := hbb.below hb
  replace hc := hc.below hb
  replace hb0 := hb0.trans (hb.mono hb0.size)
  clear hb
  obtain ⟨ca0, ca1⟩ := has_st ha
  obtain ⟨cb0, cb1⟩ := has_st hbb
  obtain ⟨cc0, cc1⟩ := has_st hc
  go_wp2_with fail
  refine (HAB.out _).mono ?_
  rintro e v4 ⟨rfl, hb⟩
  clear ca0 ca1 cb0 cb1 cc0 cc1
  replace ha := ha.below hb
  replace hbb := hbb.below hb
  replace hc := hc.below hb
  replace hb0 := hb0.trans (hb.mono hb0.size)
  clear hb
  obtain ⟨ca0, ca1⟩ := has_st ha
  obtain ⟨cb0, cb1⟩ := has_st hbb
  obtain ⟨cc0, cc1⟩ := has_st hc
  go_wp2_with fail
  refine (HAB.out _).mono ?_
  rintro e v5 ⟨rfl, hb⟩
  clear ca0 ca1 cb0 cb1 cc0 cc1
  replace ha := ha.below hb
  replace hbb := hbb.below hb
  replace hc := hc.below hb
  replace hb0 := hb0.trans (hb.mono hb0.size)
  clear hb
  obtain ⟨ca0, ca1⟩ := has_st ha
  obtain ⟨cb0, cb1⟩ := has_st hbb
  obtain ⟨cc0, cc1⟩ := has_st hc
  go_wp2_with fail
  refine (HBC.out _).mono ?_
  rintro e v6 ⟨rfl, hb⟩
  clear ca0 ca1 cb0 cb1 cc0 cc1
  replace ha := ha.below hb
  replace hbb := hbb.below hb
  replace hc := hc.below hb
  replace hb0 := hb0.trans (hb.mono hb0.size)
  clear hb
  obtain ⟨ca0, ca1⟩ := has_st ha
  obtain ⟨cb0, cb1⟩ := has_st hbb
  obtain ⟨cc0, cc1⟩ := has_st hc
  go_wp2_with fail
  refine (HAC.out _).mono ?_
  rintro e v7 ⟨rfl, hb⟩
  clear ca0 ca1 cb0 cb1 cc0 cc1
  replace ha := ha.below hb
  replace hbb := hbb.below hb
  replace hc := hc.below hb
  replace hb0 := hb0.trans (hb.mono hb0.size)
  clear hb
  obtain ⟨ca0, ca1⟩ := has_st ha
  obtain ⟨cb0, cb1⟩ := has_st hbb
  obtain ⟨cc0, cc1⟩ := has_st hc
  cases iA with
  | false =>
    obtain ⟨ca0, ca1⟩ := has_st ha
    obtain ⟨cb0, cb1⟩ := has_st hbb
    obtain ⟨cc0, cc1⟩ := has_st hc
    go_wp2_with fail
    refine (HIA.out _).mono ?_
    rintro e v8 ⟨rfl, hb⟩
    clear ca0 ca1 cb0 cb1 cc0 cc1
    replace ha := ha.below hb
    replace hbb := hbb.below hb
    replace hc := hc.below hb
    replace hb0 := hb0.trans (hb.mono hb0.size)
    clear hb
    go_wp2_with fail
    refine (awake_any _).mono ?_
    rintro e w9 ⟨rfl, hb⟩
    go_wp2
    go_ret
    exact ⟨rfl, hb0.trans (hb.mono hb0.size)⟩
  | true =>
    obtain ⟨ca0, ca1⟩ := has_st ha
    obtain ⟨cb0, cb1⟩ := has_st hbb
    obtain ⟨cc0, cc1⟩ := has_st hc
    go_wp2_with fail
    refine (HIA.out _).mono ?_
    rintro e v9 ⟨rfl, hb⟩
    clear ca0 ca1 cb0 cb1 cc0 cc1
    replace ha := ha.below hb
    replace hbb := hbb.below hb
    replace hc := hc.below hb
    replace hb0 := hb0.trans (hb.mono hb0.size)
    clear hb
    cases iB with
    | false =>
      obtain ⟨ca0, ca1⟩ := has_st ha
      obtain ⟨cb0, cb1⟩ := has_st hbb
      obtain ⟨cc0, cc1⟩ := has_st hc
      go_wp2_with fail
      refine (HIB.out _).mono ?_
      rintro e v10 ⟨rfl, hb⟩
      clear ca0 ca1 cb0 cb1 cc0 cc1
      replace ha := ha.below hb
      replace hbb := hbb.below hb
      replace hc := hc.below hb
      replace hb0 := hb0.trans (hb.mono hb0.size)
      clear hb
      go_wp2_with fail
      refine (awake_any _).mono ?_
      rintro e w9 ⟨rfl, hb⟩
      go_wp2
      go_ret
      exact ⟨rfl, hb0.trans (hb.mono hb0.size)⟩
    | true =>
      obtain ⟨ca0, ca1⟩ := has_st ha
      obtain ⟨cb0, cb1⟩ := has_st hbb
      obtain ⟨cc0, cc1⟩ := has_st hc
      go_wp2_with fail
      refine (HIB.out _).mono ?_
      rintro e v11 ⟨rfl, hb⟩
      clear ca0 ca1 cb0 cb1 cc0 cc1
      replace ha := ha.below hb
      replace hbb := hbb.below hb
      replace hc := hc.below hb
      replace hb0 := hb0.trans (hb.mono hb0.size)
      clear hb
      have qC := HC.out (by first | exact rfl | trivial) (by first | exact rfl | trivial)
      go_wp2_with fail
      replace ha := ha.drew
      replace hbb := hbb.drew
      replace hc := hc.drew
      replace hb0 := hb0.drew
      refine wp_region_held_drew (S := (fun w' => (w'.cell? ⟨W.heap.size, 0, none⟩ = some (.int .i64 a0) ∧ w'.cell? ⟨W.heap.size, 1, none⟩ = some (.int .i64 a1)) ∧ w'.cell? ⟨W.heap.size + 1, 0, none⟩ = some (.int .i64 b0) ∧ w'.cell? ⟨W.heap.size + 1, 1, none⟩ = some (.int .i64 b1))) (by kernel_rfl) ⟨has_st ha, has_st hbb⟩ (fun hHeld => ?_)
      refine wpAnyH_read (i := 0) (d := some 65) (v := ?v2) (by rfl) (by rfl) (by kernel_rfl) (by kernel_rfl) (by kernel_rfl) (fun _ _ _ h => h) (by rfl) ?hy2 (by assumption) ?rest2
      case hy2 =>
        intro w hSw
        try dsimp only at hSw
        go_simp
        try with_reducible rfl
      try simp only [Act.put, List.setIfInBounds_toArray, List.set_cons_zero, List.set_cons_succ]
      refine wpAnyH_read (i := 2) (d := some 67) (v := ?v3) (by rfl) (by rfl) (by kernel_rfl) (by kernel_rfl) (by kernel_rfl) (fun _ _ _ h => h) (by rfl) ?hy3 (by assumption) ?rest3
      case hy3 =>
        intro w hSw
        try dsimp only at hSw
        go_simp
        try with_reducible rfl
      try simp only [Act.put, List.setIfInBounds_toArray, List.set_cons_zero, List.set_cons_succ]
      refine wpAnyH_read (i := 6) (d := some 71) (v := ?v4) (by rfl) (by rfl) (by kernel_rfl) (by kernel_rfl) (by kernel_rfl) (fun _ _ _ h => h) (by rfl) ?hy4 (by assumption) ?rest4
      case hy4 =>
        intro w hSw
        try dsimp only at hSw
        go_simp
        try with_reducible rfl
      try simp only [Act.put, List.setIfInBounds_toArray, List.set_cons_zero, List.set_cons_succ]
      refine wpAnyH_read (i := 7) (d := some 72) (v := ?v5) (by rfl) (by rfl) (by kernel_rfl) (by kernel_rfl) (by kernel_rfl) (fun _ _ _ h => h) (by rfl) ?hy5 (by assumption) ?rest5
      case hy5 =>
        intro w hSw
        try dsimp only at hSw
        go_simp
        try with_reducible rfl
      try simp only [Act.put, List.setIfInBounds_toArray, List.set_cons_zero, List.set_cons_succ]
      refine wpAnyH_ready (rs := [1]) (by kernel_rfl) (by simp) ?_
      refine AllReadyH.cons rfl (fun K hK => ?_) AllReadyH.nil
      go_simp
      go_at_call 33
      refine (HPA.out _).mono ?_
      rintro e w7 ⟨v, rfl, ho, hb⟩
      obtain ⟨A1, k1, rfl, r1, _⟩ := owns_lens ho
      rw [stB_len] at r1 ⊢
      clear ho
      replace ha := ha.below hb
      replace hbb := hbb.below hb
      replace hc := hc.below hb
      replace hb0 := hb0.trans (hb.mono hb0.size)
      clear hb
      refine hK.out _ _ ⟨has_st ha, has_st hbb⟩ (fun hHeld => ?_)
      clear hK K
      try simp only [Act.put, List.setIfInBounds_toArray, List.set_cons_zero, List.set_cons_succ]
      refine wpAnyH_ready (rs := [3]) (by kernel_rfl) (by simp) ?_
      refine AllReadyH.cons rfl (fun K hK => ?_) AllReadyH.nil
      go_simp
      go_at_call 33
      refine (HPB.out _).mono ?_
      rintro e w7 ⟨v, rfl, ho, hb⟩
      obtain ⟨A2, k2, rfl, r2, _⟩ := owns_lens ho
      rw [stB_len] at r2 ⊢
      clear ho
      replace r1 := r1.below hb
      replace ha := ha.below hb
      replace hbb := hbb.below hb
      replace hc := hc.below hb
      replace hb0 := hb0.trans (hb.mono hb0.size)
      clear hb
      refine hK.out _ _ ⟨has_st ha, has_st hbb⟩ (fun hHeld => ?_)
      clear hK K
      try simp only [Act.put, List.setIfInBounds_toArray, List.set_cons_zero, List.set_cons_succ]
      refine wpAnyH_ready (rs := [4]) (by kernel_rfl) (by simp) ?_
      refine AllReadyH.cons rfl (fun K hK => ?_) AllReadyH.nil
      go_simp
      go_at_call 43
      refine (compare_any _ A1 A2 7 7 k1 k2 _ _ r1 r2).mono ?_
      rintro e w7 ⟨rfl, rfl⟩
      skip
      refine hK.out _ _ ⟨has_st ha, has_st hbb⟩ (fun hHeld => ?_)
      clear hK K
      try simp only [Act.put, List.setIfInBounds_toArray, List.set_cons_zero, List.set_cons_succ]
      refine wpAnyH_read (i := 5) (d := some 70) (v := ?v9) (by rfl) (by rfl) (by kernel_rfl) (by kernel_rfl) (by kernel_rfl) (fun _ _ _ h => h) (by rfl) ?hy9 (by assumption) ?rest9
      case hy9 =>
        intro w hSw
        try dsimp only at hSw
        go_simp
        try with_reducible rfl
      try simp only [Act.put, List.setIfInBounds_toArray, List.set_cons_zero, List.set_cons_succ]
      refine wpAnyH_ready (rs := [8]) (by kernel_rfl) (by simp) ?_
      refine AllReadyH.cons rfl (fun K hK => ?_) AllReadyH.nil
      go_simp
      go_at_call 11
      refine (HL.out _).mono ?_
      rintro e w7 ⟨rfl, hb⟩
      replace ha := ha.below hb
      replace hbb := hbb.below hb
      replace hc := hc.below hb
      replace hb0 := hb0.trans (hb.mono hb0.size)
      clear hb
      refine hK.out _ _ ⟨has_st ha, has_st hbb⟩ (fun hHeld => ?_)
      clear hK K
      try simp only [Act.put, List.setIfInBounds_toArray, List.set_cons_zero, List.set_cons_succ]
      refine wpAnyH_read (i := 9) (d := some 74) (v := ?v11) (by rfl) (by rfl) (by kernel_rfl) (by kernel_rfl) (by kernel_rfl) (fun _ _ _ h => h) (by rfl) ?hy11 (by assumption) ?rest11
      case hy11 =>
        intro w hSw
        try dsimp only at hSw
        go_simp
        try with_reducible rfl
      try simp only [Act.put, List.setIfInBounds_toArray, List.set_cons_zero, List.set_cons_succ]
      refine wpAnyH_read (i := 10) (d := some 75) (v := ?v12) (by rfl) (by rfl) (by kernel_rfl) (by kernel_rfl) (by kernel_rfl) (fun _ _ _ h => h) (by rfl) ?hy12 (by assumption) ?rest12
      case hy12 =>
        intro w hSw
        try dsimp only at hSw
        go_simp
        try with_reducible rfl
      try simp only [Act.put, List.setIfInBounds_toArray, List.set_cons_zero, List.set_cons_succ]
      refine wpAnyH_ready (rs := [11]) (by kernel_rfl) (by simp) ?_
      refine AllReadyH.cons rfl (fun K hK => ?_) AllReadyH.nil
      go_simp
      go_at_call 19
      refine (awake_any _).mono ?_
      rintro e w7 ⟨rfl, hb⟩
      replace ha := ha.below hb
      replace hbb := hbb.below hb
      replace hc := hc.below hb
      replace hb0 := hb0.trans (hb.mono hb0.size)
      clear hb
      refine hK.out _ _ ⟨has_st ha, has_st hbb⟩ (fun hHeld => ?_)
      clear hK K
      try simp only [Act.put, List.setIfInBounds_toArray, List.set_cons_zero, List.set_cons_succ]
      refine wpAnyH_read (i := 12) (d := some 77) (v := ?v14) (by rfl) (by rfl) (by kernel_rfl) (by kernel_rfl) (by kernel_rfl) (fun _ _ _ h => h) (by rfl) ?hy14 (by assumption) ?rest14
      case hy14 =>
        intro w hSw
        try dsimp only at hSw
        go_simp
        try with_reducible rfl
      try simp only [Act.put, List.setIfInBounds_toArray, List.set_cons_zero, List.set_cons_succ]
      refine wpAnyH_read (i := 13) (d := some 6) (v := ?v15) (by rfl) (by rfl) (by kernel_rfl) (by kernel_rfl) (by kernel_rfl) (fun _ _ _ h => h) (by rfl) ?hy15 (by assumption) ?rest15
      case hy15 =>
        intro w hSw
        try dsimp only at hSw
        go_simp
        try with_reducible rfl
      try simp only [Act.put, List.setIfInBounds_toArray, List.set_cons_zero, List.set_cons_succ]
      refine wpAnyH_done (by kernel_rfl) ?_ _
      go_wp2
      go_ret
      exact ⟨rfl, hb0⟩

set_option maxHeartbeats 8000000 in
set_option maxRecDepth 100000 in
theorem order_yn (a0 a1 b0 b1 c0 c1 : Int) (iA iB : Bool) (W : World) (hia : inB a0 a1 = iA) (hib : inB b0 b1 = iB) (haa : lessB a0 a1 a0 a1 = false) (hab : lessB a0 a1 b0 b1 = true) (hba : lessB b0 b1 a0 a1 = false) (hbc : lessB b0 b1 c0 c1 = false) :
    Calls Try.prog 7 #[.agg (stC a0 a1), .agg (stC b0 b1), .agg (stC c0 c1)] W fun e w' => e = .returned (.bool true) ∧ Below W.heap.size W w' := by
  have HAA := Lib.hid (show ∀ W : World, Calls Try.prog 11 #[.agg #[.int .i64 a0, .int .i64 a1], .agg #[.int .i64 a0, .int .i64 a1]] W fun e w' => e = .returned (.bool false) ∧ Below W.heap.size W w' from fun W => by have h := less_any a0 a1 a0 a1 W; rw [haa] at h; exact h)
  have HAB := Lib.hid (show ∀ W : World, Calls Try.prog 11 #[.agg #[.int .i64 a0, .int .i64 a1], .agg #[.int .i64 b0, .int .i64 b1]] W fun e w' => e = .returned (.bool true) ∧ Below W.heap.size W w' from fun W => by have h := less_any a0 a1 b0 b1 W; rw [hab] at h; exact h)
  have HBA := Lib.hid (show ∀ W : World, Calls Try.prog 11 #[.agg #[.int .i64 b0, .int .i64 b1], .agg #[.int .i64 a0, .int .i64 a1]] W fun e w' => e = .returned (.bool false) ∧ Below W.heap.size W w' from fun W => by have h := less_any b0 b1 a0 a1 W; rw [hba] at h; exact h)
  have HBC := Lib.hid (show ∀ W : World, Calls Try.prog 11 #[.agg #[.int .i64 b0, .int .i64 b1], .agg #[.int .i64 c0, .int .i64 c1]] W fun e w' => e = .returned (.bool false) ∧ Below W.heap.size W w' from fun W => by have h := less_any b0 b1 c0 c1 W; rw [hbc] at h; exact h)
  have HL := Lib.hid (show ∀ W : World, Calls Try.prog 11 #[.agg #[.int .i64 a0, .int .i64 a1], .agg #[.int .i64 b0, .int .i64 b1]] W fun e w' => e = .returned (.bool true) ∧ Below W.heap.size W w' from HAB.out)
  have HIA := Lib.hid (show ∀ W : World, Calls Try.prog 42 #[.agg #[.int .i64 a0, .int .i64 a1]] W fun e w' => e = .returned (.bool iA) ∧ Below W.heap.size W w' from fun W => by have h := in_any a0 a1 W; rw [hia] at h; exact h)
  have HIB := Lib.hid (show ∀ W : World, Calls Try.prog 42 #[.agg #[.int .i64 b0, .int .i64 b1]] W fun e w' => e = .returned (.bool iB) ∧ Below W.heap.size W w' from fun W => by have h := in_any b0 b1 W; rw [hib] at h; exact h)
  have HPA := Lib.hid (fun W => show Calls Try.prog 33 #[.slice none 0 0, .agg #[.int .i64 a0, .int .i64 a1]] W fun e w' => ∃ v, e = .returned v ∧ Oct.Owns w' W.heap.size v (stB a0 a1) ∧ Below W.heap.size W w' from putStamp_any none 0 0 a0 a1 [] (by omega) W (row_nil W) (fun _ => ⟨rfl, rfl⟩))
  have HPB := Lib.hid (fun W => show Calls Try.prog 33 #[.slice none 0 0, .agg #[.int .i64 b0, .int .i64 b1]] W fun e w' => ∃ v, e = .returned v ∧ Oct.Owns w' W.heap.size v (stB b0 b1) ∧ Below W.heap.size W w' from putStamp_any none 0 0 b0 b1 [] (by omega) W (row_nil W) (fun _ => ⟨rfl, rfl⟩))
  have HC := Lib.hid (show iA = true → iB = true → decide (Lib.compareBytes (stB a0 a1) (stB b0 b1) < 0) = true from fun h1 h2 => by rw [← hab]; exact order_cmp (hia.trans h1) (hib.trans h2))
  have hb0 := (((Below.refl W.heap.size W).alloc (Nat.le_refl _) (.cells #[.int .i64 a0, .int .i64 a1] 23)).alloc (by simp) (.cells #[.int .i64 b0, .int .i64 b1] 23)).alloc (by simp; omega) (.cells #[.int .i64 c0, .int .i64 c1] 23)
  have ha := ((Has.fresh W 23 #[.int .i64 a0, .int .i64 a1]).past (.cells #[.int .i64 b0, .int .i64 b1] 23)).past (.cells #[.int .i64 c0, .int .i64 c1] 23)
  have hbb := (Has.fresh (W.alloc (.cells #[.int .i64 a0, .int .i64 a1] 23)) 23 #[.int .i64 b0, .int .i64 b1]).past (.cells #[.int .i64 c0, .int .i64 c1] 23)
  have hc := Has.fresh ((W.alloc (.cells #[.int .i64 a0, .int .i64 a1] 23)).alloc (.cells #[.int .i64 b0, .int .i64 b1] 23)) 23 #[.int .i64 c0, .int .i64 c1]
  rw [World.size_alloc] at hbb hc
  rw [World.size_alloc] at hc
  clear haa hab hba hbc hia hib
  unfold stC
  go_enter Try.func7, Try.ntmps7
  obtain ⟨ca0, ca1⟩ := has_st ha
  obtain ⟨cb0, cb1⟩ := has_st hbb
  obtain ⟨cc0, cc1⟩ := has_st hc
  go_wp2_with fail
  refine (HAA.out _).mono ?_
  rintro e v12 ⟨rfl, hb⟩
  clear ca0 ca1 cb0 cb1 cc0 cc1
  replace ha := ha.below hb
  replace hbb := hbb.below hb
  replace hc := hc.below hb
  replace hb0 := hb0.trans (hb.mono hb0.size)
  clear hb
  obtain ⟨ca0, ca1⟩ := has_st ha
  obtain ⟨cb0, cb1⟩ := has_st hbb
  obtain ⟨cc0, cc1⟩ := has_st hc
  go_wp2_with fail
  refine (HAB.out _).mono ?_
  rintro e v13 ⟨rfl, hb⟩
  clear ca0 ca1 cb0 cb1 cc0 cc1
  replace ha := ha.below hb
  replace hbb := hbb.below hb
  replace hc := hc.below hb
  replace hb0 := hb0.trans (hb.mono hb0.size)
  clear hb
  obtain ⟨ca0, ca1⟩ := has_st ha
  obtain ⟨cb0, cb1⟩ := has_st hbb
  obtain ⟨cc0, cc1⟩ := has_st hc
  go_wp2_with fail
  refine (HBA.out _).mono ?_
  rintro e v14 ⟨rfl, hb⟩
  clear ca0 ca1 cb0 cb1 cc0 cc1
  replace ha := ha.below hb
  replace hbb := hbb.below hb
  replace hc := hc.below hb
  replace hb0 := hb0.trans (hb.mono hb0.size)
  clear hb
  obtain ⟨ca0, ca1⟩ := has_st ha
  obtain ⟨cb0, cb1⟩ := has_st hbb
  obtain ⟨cc0, cc1⟩ := has_st hc
  go_wp2_with fail
  refine (HAB.out _).mono ?_
  rintro e v15 ⟨rfl, hb⟩
  clear ca0 ca1 cb0 cb1 cc0 cc1
  replace ha := ha.below hb
  replace hbb := hbb.below hb
  replace hc := hc.below hb
  replace hb0 := hb0.trans (hb.mono hb0.size)
  clear hb
  obtain ⟨ca0, ca1⟩ := has_st ha
  obtain ⟨cb0, cb1⟩ := has_st hbb
  obtain ⟨cc0, cc1⟩ := has_st hc
  go_wp2_with fail
  refine (HAB.out _).mono ?_
  rintro e v16 ⟨rfl, hb⟩
  clear ca0 ca1 cb0 cb1 cc0 cc1
  replace ha := ha.below hb
  replace hbb := hbb.below hb
  replace hc := hc.below hb
  replace hb0 := hb0.trans (hb.mono hb0.size)
  clear hb
  obtain ⟨ca0, ca1⟩ := has_st ha
  obtain ⟨cb0, cb1⟩ := has_st hbb
  obtain ⟨cc0, cc1⟩ := has_st hc
  go_wp2_with fail
  refine (HBC.out _).mono ?_
  rintro e v17 ⟨rfl, hb⟩
  clear ca0 ca1 cb0 cb1 cc0 cc1
  replace ha := ha.below hb
  replace hbb := hbb.below hb
  replace hc := hc.below hb
  replace hb0 := hb0.trans (hb.mono hb0.size)
  clear hb
  obtain ⟨ca0, ca1⟩ := has_st ha
  obtain ⟨cb0, cb1⟩ := has_st hbb
  obtain ⟨cc0, cc1⟩ := has_st hc
  cases iA with
  | false =>
    obtain ⟨ca0, ca1⟩ := has_st ha
    obtain ⟨cb0, cb1⟩ := has_st hbb
    obtain ⟨cc0, cc1⟩ := has_st hc
    go_wp2_with fail
    refine (HIA.out _).mono ?_
    rintro e v18 ⟨rfl, hb⟩
    clear ca0 ca1 cb0 cb1 cc0 cc1
    replace ha := ha.below hb
    replace hbb := hbb.below hb
    replace hc := hc.below hb
    replace hb0 := hb0.trans (hb.mono hb0.size)
    clear hb
    go_wp2_with fail
    refine (awake_any _).mono ?_
    rintro e w9 ⟨rfl, hb⟩
    go_wp2
    go_ret
    exact ⟨rfl, hb0.trans (hb.mono hb0.size)⟩
  | true =>
    obtain ⟨ca0, ca1⟩ := has_st ha
    obtain ⟨cb0, cb1⟩ := has_st hbb
    obtain ⟨cc0, cc1⟩ := has_st hc
    go_wp2_with fail
    refine (HIA.out _).mono ?_
    rintro e v19 ⟨rfl, hb⟩
    clear ca0 ca1 cb0 cb1 cc0 cc1
    replace ha := ha.below hb
    replace hbb := hbb.below hb
    replace hc := hc.below hb
    replace hb0 := hb0.trans (hb.mono hb0.size)
    clear hb
    cases iB with
    | false =>
      obtain ⟨ca0, ca1⟩ := has_st ha
      obtain ⟨cb0, cb1⟩ := has_st hbb
      obtain ⟨cc0, cc1⟩ := has_st hc
      go_wp2_with fail
      refine (HIB.out _).mono ?_
      rintro e v20 ⟨rfl, hb⟩
      clear ca0 ca1 cb0 cb1 cc0 cc1
      replace ha := ha.below hb
      replace hbb := hbb.below hb
      replace hc := hc.below hb
      replace hb0 := hb0.trans (hb.mono hb0.size)
      clear hb
      go_wp2_with fail
      refine (awake_any _).mono ?_
      rintro e w9 ⟨rfl, hb⟩
      go_wp2
      go_ret
      exact ⟨rfl, hb0.trans (hb.mono hb0.size)⟩
    | true =>
      obtain ⟨ca0, ca1⟩ := has_st ha
      obtain ⟨cb0, cb1⟩ := has_st hbb
      obtain ⟨cc0, cc1⟩ := has_st hc
      go_wp2_with fail
      refine (HIB.out _).mono ?_
      rintro e v21 ⟨rfl, hb⟩
      clear ca0 ca1 cb0 cb1 cc0 cc1
      replace ha := ha.below hb
      replace hbb := hbb.below hb
      replace hc := hc.below hb
      replace hb0 := hb0.trans (hb.mono hb0.size)
      clear hb
      have qC := HC.out (by first | exact rfl | trivial) (by first | exact rfl | trivial)
      go_wp2_with fail
      replace ha := ha.drew
      replace hbb := hbb.drew
      replace hc := hc.drew
      replace hb0 := hb0.drew
      refine wp_region_held_drew (S := (fun w' => (w'.cell? ⟨W.heap.size, 0, none⟩ = some (.int .i64 a0) ∧ w'.cell? ⟨W.heap.size, 1, none⟩ = some (.int .i64 a1)) ∧ w'.cell? ⟨W.heap.size + 1, 0, none⟩ = some (.int .i64 b0) ∧ w'.cell? ⟨W.heap.size + 1, 1, none⟩ = some (.int .i64 b1))) (by kernel_rfl) ⟨has_st ha, has_st hbb⟩ (fun hHeld => ?_)
      refine wpAnyH_read (i := 0) (d := some 65) (v := ?v18) (by rfl) (by rfl) (by kernel_rfl) (by kernel_rfl) (by kernel_rfl) (fun _ _ _ h => h) (by rfl) ?hy18 (by assumption) ?rest18
      case hy18 =>
        intro w hSw
        try dsimp only at hSw
        go_simp
        try with_reducible rfl
      try simp only [Act.put, List.setIfInBounds_toArray, List.set_cons_zero, List.set_cons_succ]
      refine wpAnyH_read (i := 2) (d := some 67) (v := ?v19) (by rfl) (by rfl) (by kernel_rfl) (by kernel_rfl) (by kernel_rfl) (fun _ _ _ h => h) (by rfl) ?hy19 (by assumption) ?rest19
      case hy19 =>
        intro w hSw
        try dsimp only at hSw
        go_simp
        try with_reducible rfl
      try simp only [Act.put, List.setIfInBounds_toArray, List.set_cons_zero, List.set_cons_succ]
      refine wpAnyH_read (i := 6) (d := some 71) (v := ?v20) (by rfl) (by rfl) (by kernel_rfl) (by kernel_rfl) (by kernel_rfl) (fun _ _ _ h => h) (by rfl) ?hy20 (by assumption) ?rest20
      case hy20 =>
        intro w hSw
        try dsimp only at hSw
        go_simp
        try with_reducible rfl
      try simp only [Act.put, List.setIfInBounds_toArray, List.set_cons_zero, List.set_cons_succ]
      refine wpAnyH_read (i := 7) (d := some 72) (v := ?v21) (by rfl) (by rfl) (by kernel_rfl) (by kernel_rfl) (by kernel_rfl) (fun _ _ _ h => h) (by rfl) ?hy21 (by assumption) ?rest21
      case hy21 =>
        intro w hSw
        try dsimp only at hSw
        go_simp
        try with_reducible rfl
      try simp only [Act.put, List.setIfInBounds_toArray, List.set_cons_zero, List.set_cons_succ]
      refine wpAnyH_ready (rs := [1]) (by kernel_rfl) (by simp) ?_
      refine AllReadyH.cons rfl (fun K hK => ?_) AllReadyH.nil
      go_simp
      go_at_call 33
      refine (HPA.out _).mono ?_
      rintro e w7 ⟨v, rfl, ho, hb⟩
      obtain ⟨A1, k1, rfl, r1, _⟩ := owns_lens ho
      rw [stB_len] at r1 ⊢
      clear ho
      replace ha := ha.below hb
      replace hbb := hbb.below hb
      replace hc := hc.below hb
      replace hb0 := hb0.trans (hb.mono hb0.size)
      clear hb
      refine hK.out _ _ ⟨has_st ha, has_st hbb⟩ (fun hHeld => ?_)
      clear hK K
      try simp only [Act.put, List.setIfInBounds_toArray, List.set_cons_zero, List.set_cons_succ]
      refine wpAnyH_ready (rs := [3]) (by kernel_rfl) (by simp) ?_
      refine AllReadyH.cons rfl (fun K hK => ?_) AllReadyH.nil
      go_simp
      go_at_call 33
      refine (HPB.out _).mono ?_
      rintro e w7 ⟨v, rfl, ho, hb⟩
      obtain ⟨A2, k2, rfl, r2, _⟩ := owns_lens ho
      rw [stB_len] at r2 ⊢
      clear ho
      replace r1 := r1.below hb
      replace ha := ha.below hb
      replace hbb := hbb.below hb
      replace hc := hc.below hb
      replace hb0 := hb0.trans (hb.mono hb0.size)
      clear hb
      refine hK.out _ _ ⟨has_st ha, has_st hbb⟩ (fun hHeld => ?_)
      clear hK K
      try simp only [Act.put, List.setIfInBounds_toArray, List.set_cons_zero, List.set_cons_succ]
      refine wpAnyH_ready (rs := [4]) (by kernel_rfl) (by simp) ?_
      refine AllReadyH.cons rfl (fun K hK => ?_) AllReadyH.nil
      go_simp
      go_at_call 43
      refine (compare_any _ A1 A2 7 7 k1 k2 _ _ r1 r2).mono ?_
      rintro e w7 ⟨rfl, rfl⟩
      skip
      refine hK.out _ _ ⟨has_st ha, has_st hbb⟩ (fun hHeld => ?_)
      clear hK K
      try simp only [Act.put, List.setIfInBounds_toArray, List.set_cons_zero, List.set_cons_succ]
      refine wpAnyH_read (i := 5) (d := some 70) (v := ?v25) (by rfl) (by rfl) (by kernel_rfl) (by kernel_rfl) (by kernel_rfl) (fun _ _ _ h => h) (by rfl) ?hy25 (by assumption) ?rest25
      case hy25 =>
        intro w hSw
        try dsimp only at hSw
        go_simp
        try with_reducible rfl
      try simp only [Act.put, List.setIfInBounds_toArray, List.set_cons_zero, List.set_cons_succ]
      refine wpAnyH_ready (rs := [8]) (by kernel_rfl) (by simp) ?_
      refine AllReadyH.cons rfl (fun K hK => ?_) AllReadyH.nil
      go_simp
      go_at_call 11
      refine (HL.out _).mono ?_
      rintro e w7 ⟨rfl, hb⟩
      replace ha := ha.below hb
      replace hbb := hbb.below hb
      replace hc := hc.below hb
      replace hb0 := hb0.trans (hb.mono hb0.size)
      clear hb
      refine hK.out _ _ ⟨has_st ha, has_st hbb⟩ (fun hHeld => ?_)
      clear hK K
      try simp only [Act.put, List.setIfInBounds_toArray, List.set_cons_zero, List.set_cons_succ]
      refine wpAnyH_read (i := 9) (d := some 74) (v := ?v27) (by rfl) (by rfl) (by kernel_rfl) (by kernel_rfl) (by kernel_rfl) (fun _ _ _ h => h) (by rfl) ?hy27 (by assumption) ?rest27
      case hy27 =>
        intro w hSw
        try dsimp only at hSw
        go_simp
        try with_reducible rfl
      try simp only [Act.put, List.setIfInBounds_toArray, List.set_cons_zero, List.set_cons_succ]
      refine wpAnyH_read (i := 10) (d := some 75) (v := ?v28) (by rfl) (by rfl) (by kernel_rfl) (by kernel_rfl) (by kernel_rfl) (fun _ _ _ h => h) (by rfl) ?hy28 (by assumption) ?rest28
      case hy28 =>
        intro w hSw
        try dsimp only at hSw
        go_simp
        try with_reducible rfl
      try simp only [Act.put, List.setIfInBounds_toArray, List.set_cons_zero, List.set_cons_succ]
      refine wpAnyH_ready (rs := [11]) (by kernel_rfl) (by simp) ?_
      refine AllReadyH.cons rfl (fun K hK => ?_) AllReadyH.nil
      go_simp
      go_at_call 19
      refine (awake_any _).mono ?_
      rintro e w7 ⟨rfl, hb⟩
      replace ha := ha.below hb
      replace hbb := hbb.below hb
      replace hc := hc.below hb
      replace hb0 := hb0.trans (hb.mono hb0.size)
      clear hb
      refine hK.out _ _ ⟨has_st ha, has_st hbb⟩ (fun hHeld => ?_)
      clear hK K
      try simp only [Act.put, List.setIfInBounds_toArray, List.set_cons_zero, List.set_cons_succ]
      refine wpAnyH_read (i := 12) (d := some 77) (v := ?v30) (by rfl) (by rfl) (by kernel_rfl) (by kernel_rfl) (by kernel_rfl) (fun _ _ _ h => h) (by rfl) ?hy30 (by assumption) ?rest30
      case hy30 =>
        intro w hSw
        try dsimp only at hSw
        go_simp
        try with_reducible rfl
      try simp only [Act.put, List.setIfInBounds_toArray, List.set_cons_zero, List.set_cons_succ]
      refine wpAnyH_read (i := 13) (d := some 6) (v := ?v31) (by rfl) (by rfl) (by kernel_rfl) (by kernel_rfl) (by kernel_rfl) (fun _ _ _ h => h) (by rfl) ?hy31 (by assumption) ?rest31
      case hy31 =>
        intro w hSw
        try dsimp only at hSw
        go_simp
        try with_reducible rfl
      try simp only [Act.put, List.setIfInBounds_toArray, List.set_cons_zero, List.set_cons_succ]
      refine wpAnyH_done (by kernel_rfl) ?_ _
      go_wp2
      go_ret
      exact ⟨rfl, hb0⟩

set_option maxHeartbeats 8000000 in
set_option maxRecDepth 100000 in
theorem order_nn (a0 a1 b0 b1 c0 c1 : Int) (iA iB : Bool) (W : World) (hia : inB a0 a1 = iA) (hib : inB b0 b1 = iB) (haa : lessB a0 a1 a0 a1 = false) (hab : lessB a0 a1 b0 b1 = false) (hba : lessB b0 b1 a0 a1 = true) :
    Calls Try.prog 7 #[.agg (stC a0 a1), .agg (stC b0 b1), .agg (stC c0 c1)] W fun e w' => e = .returned (.bool true) ∧ Below W.heap.size W w' := by
  have HAA := Lib.hid (show ∀ W : World, Calls Try.prog 11 #[.agg #[.int .i64 a0, .int .i64 a1], .agg #[.int .i64 a0, .int .i64 a1]] W fun e w' => e = .returned (.bool false) ∧ Below W.heap.size W w' from fun W => by have h := less_any a0 a1 a0 a1 W; rw [haa] at h; exact h)
  have HAB := Lib.hid (show ∀ W : World, Calls Try.prog 11 #[.agg #[.int .i64 a0, .int .i64 a1], .agg #[.int .i64 b0, .int .i64 b1]] W fun e w' => e = .returned (.bool false) ∧ Below W.heap.size W w' from fun W => by have h := less_any a0 a1 b0 b1 W; rw [hab] at h; exact h)
  have HBA := Lib.hid (show ∀ W : World, Calls Try.prog 11 #[.agg #[.int .i64 b0, .int .i64 b1], .agg #[.int .i64 a0, .int .i64 a1]] W fun e w' => e = .returned (.bool true) ∧ Below W.heap.size W w' from fun W => by have h := less_any b0 b1 a0 a1 W; rw [hba] at h; exact h)
  have HL := Lib.hid (show ∀ W : World, Calls Try.prog 11 #[.agg #[.int .i64 a0, .int .i64 a1], .agg #[.int .i64 b0, .int .i64 b1]] W fun e w' => e = .returned (.bool false) ∧ Below W.heap.size W w' from HAB.out)
  have HIA := Lib.hid (show ∀ W : World, Calls Try.prog 42 #[.agg #[.int .i64 a0, .int .i64 a1]] W fun e w' => e = .returned (.bool iA) ∧ Below W.heap.size W w' from fun W => by have h := in_any a0 a1 W; rw [hia] at h; exact h)
  have HIB := Lib.hid (show ∀ W : World, Calls Try.prog 42 #[.agg #[.int .i64 b0, .int .i64 b1]] W fun e w' => e = .returned (.bool iB) ∧ Below W.heap.size W w' from fun W => by have h := in_any b0 b1 W; rw [hib] at h; exact h)
  have HPA := Lib.hid (fun W => show Calls Try.prog 33 #[.slice none 0 0, .agg #[.int .i64 a0, .int .i64 a1]] W fun e w' => ∃ v, e = .returned v ∧ Oct.Owns w' W.heap.size v (stB a0 a1) ∧ Below W.heap.size W w' from putStamp_any none 0 0 a0 a1 [] (by omega) W (row_nil W) (fun _ => ⟨rfl, rfl⟩))
  have HPB := Lib.hid (fun W => show Calls Try.prog 33 #[.slice none 0 0, .agg #[.int .i64 b0, .int .i64 b1]] W fun e w' => ∃ v, e = .returned v ∧ Oct.Owns w' W.heap.size v (stB b0 b1) ∧ Below W.heap.size W w' from putStamp_any none 0 0 b0 b1 [] (by omega) W (row_nil W) (fun _ => ⟨rfl, rfl⟩))
  have HC := Lib.hid (show iA = true → iB = true → decide (Lib.compareBytes (stB a0 a1) (stB b0 b1) < 0) = false from fun h1 h2 => by rw [← hab]; exact order_cmp (hia.trans h1) (hib.trans h2))
  have hb0 := (((Below.refl W.heap.size W).alloc (Nat.le_refl _) (.cells #[.int .i64 a0, .int .i64 a1] 23)).alloc (by simp) (.cells #[.int .i64 b0, .int .i64 b1] 23)).alloc (by simp; omega) (.cells #[.int .i64 c0, .int .i64 c1] 23)
  have ha := ((Has.fresh W 23 #[.int .i64 a0, .int .i64 a1]).past (.cells #[.int .i64 b0, .int .i64 b1] 23)).past (.cells #[.int .i64 c0, .int .i64 c1] 23)
  have hbb := (Has.fresh (W.alloc (.cells #[.int .i64 a0, .int .i64 a1] 23)) 23 #[.int .i64 b0, .int .i64 b1]).past (.cells #[.int .i64 c0, .int .i64 c1] 23)
  have hc := Has.fresh ((W.alloc (.cells #[.int .i64 a0, .int .i64 a1] 23)).alloc (.cells #[.int .i64 b0, .int .i64 b1] 23)) 23 #[.int .i64 c0, .int .i64 c1]
  rw [World.size_alloc] at hbb hc
  rw [World.size_alloc] at hc
  clear haa hab hba hia hib
  unfold stC
  go_enter Try.func7, Try.ntmps7
  obtain ⟨ca0, ca1⟩ := has_st ha
  obtain ⟨cb0, cb1⟩ := has_st hbb
  obtain ⟨cc0, cc1⟩ := has_st hc
  go_wp2_with fail
  refine (HAA.out _).mono ?_
  rintro e v22 ⟨rfl, hb⟩
  clear ca0 ca1 cb0 cb1 cc0 cc1
  replace ha := ha.below hb
  replace hbb := hbb.below hb
  replace hc := hc.below hb
  replace hb0 := hb0.trans (hb.mono hb0.size)
  clear hb
  obtain ⟨ca0, ca1⟩ := has_st ha
  obtain ⟨cb0, cb1⟩ := has_st hbb
  obtain ⟨cc0, cc1⟩ := has_st hc
  go_wp2_with fail
  refine (HAB.out _).mono ?_
  rintro e v23 ⟨rfl, hb⟩
  clear ca0 ca1 cb0 cb1 cc0 cc1
  replace ha := ha.below hb
  replace hbb := hbb.below hb
  replace hc := hc.below hb
  replace hb0 := hb0.trans (hb.mono hb0.size)
  clear hb
  obtain ⟨ca0, ca1⟩ := has_st ha
  obtain ⟨cb0, cb1⟩ := has_st hbb
  obtain ⟨cc0, cc1⟩ := has_st hc
  go_wp2_with fail
  refine (HAB.out _).mono ?_
  rintro e v24 ⟨rfl, hb⟩
  clear ca0 ca1 cb0 cb1 cc0 cc1
  replace ha := ha.below hb
  replace hbb := hbb.below hb
  replace hc := hc.below hb
  replace hb0 := hb0.trans (hb.mono hb0.size)
  clear hb
  obtain ⟨ca0, ca1⟩ := has_st ha
  obtain ⟨cb0, cb1⟩ := has_st hbb
  obtain ⟨cc0, cc1⟩ := has_st hc
  go_wp2_with fail
  refine (HBA.out _).mono ?_
  rintro e v25 ⟨rfl, hb⟩
  clear ca0 ca1 cb0 cb1 cc0 cc1
  replace ha := ha.below hb
  replace hbb := hbb.below hb
  replace hc := hc.below hb
  replace hb0 := hb0.trans (hb.mono hb0.size)
  clear hb
  obtain ⟨ca0, ca1⟩ := has_st ha
  obtain ⟨cb0, cb1⟩ := has_st hbb
  obtain ⟨cc0, cc1⟩ := has_st hc
  go_wp2_with fail
  refine (HAB.out _).mono ?_
  rintro e v26 ⟨rfl, hb⟩
  clear ca0 ca1 cb0 cb1 cc0 cc1
  replace ha := ha.below hb
  replace hbb := hbb.below hb
  replace hc := hc.below hb
  replace hb0 := hb0.trans (hb.mono hb0.size)
  clear hb
  obtain ⟨ca0, ca1⟩ := has_st ha
  obtain ⟨cb0, cb1⟩ := has_st hbb
  obtain ⟨cc0, cc1⟩ := has_st hc
  cases iA with
  | false =>
    obtain ⟨ca0, ca1⟩ := has_st ha
    obtain ⟨cb0, cb1⟩ := has_st hbb
    obtain ⟨cc0, cc1⟩ := has_st hc
    go_wp2_with fail
    refine (HIA.out _).mono ?_
    rintro e v27 ⟨rfl, hb⟩
    clear ca0 ca1 cb0 cb1 cc0 cc1
    replace ha := ha.below hb
    replace hbb := hbb.below hb
    replace hc := hc.below hb
    replace hb0 := hb0.trans (hb.mono hb0.size)
    clear hb
    go_wp2_with fail
    refine (awake_any _).mono ?_
    rintro e w9 ⟨rfl, hb⟩
    go_wp2
    go_ret
    exact ⟨rfl, hb0.trans (hb.mono hb0.size)⟩
  | true =>
    obtain ⟨ca0, ca1⟩ := has_st ha
    obtain ⟨cb0, cb1⟩ := has_st hbb
    obtain ⟨cc0, cc1⟩ := has_st hc
    go_wp2_with fail
    refine (HIA.out _).mono ?_
    rintro e v28 ⟨rfl, hb⟩
    clear ca0 ca1 cb0 cb1 cc0 cc1
    replace ha := ha.below hb
    replace hbb := hbb.below hb
    replace hc := hc.below hb
    replace hb0 := hb0.trans (hb.mono hb0.size)
    clear hb
    cases iB with
    | false =>
      obtain ⟨ca0, ca1⟩ := has_st ha
      obtain ⟨cb0, cb1⟩ := has_st hbb
      obtain ⟨cc0, cc1⟩ := has_st hc
      go_wp2_with fail
      refine (HIB.out _).mono ?_
      rintro e v29 ⟨rfl, hb⟩
      clear ca0 ca1 cb0 cb1 cc0 cc1
      replace ha := ha.below hb
      replace hbb := hbb.below hb
      replace hc := hc.below hb
      replace hb0 := hb0.trans (hb.mono hb0.size)
      clear hb
      go_wp2_with fail
      refine (awake_any _).mono ?_
      rintro e w9 ⟨rfl, hb⟩
      go_wp2
      go_ret
      exact ⟨rfl, hb0.trans (hb.mono hb0.size)⟩
    | true =>
      obtain ⟨ca0, ca1⟩ := has_st ha
      obtain ⟨cb0, cb1⟩ := has_st hbb
      obtain ⟨cc0, cc1⟩ := has_st hc
      go_wp2_with fail
      refine (HIB.out _).mono ?_
      rintro e v30 ⟨rfl, hb⟩
      clear ca0 ca1 cb0 cb1 cc0 cc1
      replace ha := ha.below hb
      replace hbb := hbb.below hb
      replace hc := hc.below hb
      replace hb0 := hb0.trans (hb.mono hb0.size)
      clear hb
      have qC := HC.out (by first | exact rfl | trivial) (by first | exact rfl | trivial)
      go_wp2_with fail
      replace ha := ha.drew
      replace hbb := hbb.drew
      replace hc := hc.drew
      replace hb0 := hb0.drew
      refine wp_region_held_drew (S := (fun w' => (w'.cell? ⟨W.heap.size, 0, none⟩ = some (.int .i64 a0) ∧ w'.cell? ⟨W.heap.size, 1, none⟩ = some (.int .i64 a1)) ∧ w'.cell? ⟨W.heap.size + 1, 0, none⟩ = some (.int .i64 b0) ∧ w'.cell? ⟨W.heap.size + 1, 1, none⟩ = some (.int .i64 b1))) (by kernel_rfl) ⟨has_st ha, has_st hbb⟩ (fun hHeld => ?_)
      refine wpAnyH_read (i := 0) (d := some 65) (v := ?v34) (by rfl) (by rfl) (by kernel_rfl) (by kernel_rfl) (by kernel_rfl) (fun _ _ _ h => h) (by rfl) ?hy34 (by assumption) ?rest34
      case hy34 =>
        intro w hSw
        try dsimp only at hSw
        go_simp
        try with_reducible rfl
      try simp only [Act.put, List.setIfInBounds_toArray, List.set_cons_zero, List.set_cons_succ]
      refine wpAnyH_read (i := 2) (d := some 67) (v := ?v35) (by rfl) (by rfl) (by kernel_rfl) (by kernel_rfl) (by kernel_rfl) (fun _ _ _ h => h) (by rfl) ?hy35 (by assumption) ?rest35
      case hy35 =>
        intro w hSw
        try dsimp only at hSw
        go_simp
        try with_reducible rfl
      try simp only [Act.put, List.setIfInBounds_toArray, List.set_cons_zero, List.set_cons_succ]
      refine wpAnyH_read (i := 6) (d := some 71) (v := ?v36) (by rfl) (by rfl) (by kernel_rfl) (by kernel_rfl) (by kernel_rfl) (fun _ _ _ h => h) (by rfl) ?hy36 (by assumption) ?rest36
      case hy36 =>
        intro w hSw
        try dsimp only at hSw
        go_simp
        try with_reducible rfl
      try simp only [Act.put, List.setIfInBounds_toArray, List.set_cons_zero, List.set_cons_succ]
      refine wpAnyH_read (i := 7) (d := some 72) (v := ?v37) (by rfl) (by rfl) (by kernel_rfl) (by kernel_rfl) (by kernel_rfl) (fun _ _ _ h => h) (by rfl) ?hy37 (by assumption) ?rest37
      case hy37 =>
        intro w hSw
        try dsimp only at hSw
        go_simp
        try with_reducible rfl
      try simp only [Act.put, List.setIfInBounds_toArray, List.set_cons_zero, List.set_cons_succ]
      refine wpAnyH_ready (rs := [1]) (by kernel_rfl) (by simp) ?_
      refine AllReadyH.cons rfl (fun K hK => ?_) AllReadyH.nil
      go_simp
      go_at_call 33
      refine (HPA.out _).mono ?_
      rintro e w7 ⟨v, rfl, ho, hb⟩
      obtain ⟨A1, k1, rfl, r1, _⟩ := owns_lens ho
      rw [stB_len] at r1 ⊢
      clear ho
      replace ha := ha.below hb
      replace hbb := hbb.below hb
      replace hc := hc.below hb
      replace hb0 := hb0.trans (hb.mono hb0.size)
      clear hb
      refine hK.out _ _ ⟨has_st ha, has_st hbb⟩ (fun hHeld => ?_)
      clear hK K
      try simp only [Act.put, List.setIfInBounds_toArray, List.set_cons_zero, List.set_cons_succ]
      refine wpAnyH_ready (rs := [3]) (by kernel_rfl) (by simp) ?_
      refine AllReadyH.cons rfl (fun K hK => ?_) AllReadyH.nil
      go_simp
      go_at_call 33
      refine (HPB.out _).mono ?_
      rintro e w7 ⟨v, rfl, ho, hb⟩
      obtain ⟨A2, k2, rfl, r2, _⟩ := owns_lens ho
      rw [stB_len] at r2 ⊢
      clear ho
      replace r1 := r1.below hb
      replace ha := ha.below hb
      replace hbb := hbb.below hb
      replace hc := hc.below hb
      replace hb0 := hb0.trans (hb.mono hb0.size)
      clear hb
      refine hK.out _ _ ⟨has_st ha, has_st hbb⟩ (fun hHeld => ?_)
      clear hK K
      try simp only [Act.put, List.setIfInBounds_toArray, List.set_cons_zero, List.set_cons_succ]
      refine wpAnyH_ready (rs := [4]) (by kernel_rfl) (by simp) ?_
      refine AllReadyH.cons rfl (fun K hK => ?_) AllReadyH.nil
      go_simp
      go_at_call 43
      refine (compare_any _ A1 A2 7 7 k1 k2 _ _ r1 r2).mono ?_
      rintro e w7 ⟨rfl, rfl⟩
      skip
      refine hK.out _ _ ⟨has_st ha, has_st hbb⟩ (fun hHeld => ?_)
      clear hK K
      try simp only [Act.put, List.setIfInBounds_toArray, List.set_cons_zero, List.set_cons_succ]
      refine wpAnyH_read (i := 5) (d := some 70) (v := ?v41) (by rfl) (by rfl) (by kernel_rfl) (by kernel_rfl) (by kernel_rfl) (fun _ _ _ h => h) (by rfl) ?hy41 (by assumption) ?rest41
      case hy41 =>
        intro w hSw
        try dsimp only at hSw
        go_simp
        try with_reducible rfl
      try simp only [Act.put, List.setIfInBounds_toArray, List.set_cons_zero, List.set_cons_succ]
      refine wpAnyH_ready (rs := [8]) (by kernel_rfl) (by simp) ?_
      refine AllReadyH.cons rfl (fun K hK => ?_) AllReadyH.nil
      go_simp
      go_at_call 11
      refine (HL.out _).mono ?_
      rintro e w7 ⟨rfl, hb⟩
      replace ha := ha.below hb
      replace hbb := hbb.below hb
      replace hc := hc.below hb
      replace hb0 := hb0.trans (hb.mono hb0.size)
      clear hb
      refine hK.out _ _ ⟨has_st ha, has_st hbb⟩ (fun hHeld => ?_)
      clear hK K
      try simp only [Act.put, List.setIfInBounds_toArray, List.set_cons_zero, List.set_cons_succ]
      refine wpAnyH_read (i := 9) (d := some 74) (v := ?v43) (by rfl) (by rfl) (by kernel_rfl) (by kernel_rfl) (by kernel_rfl) (fun _ _ _ h => h) (by rfl) ?hy43 (by assumption) ?rest43
      case hy43 =>
        intro w hSw
        try dsimp only at hSw
        go_simp
        try with_reducible rfl
      try simp only [Act.put, List.setIfInBounds_toArray, List.set_cons_zero, List.set_cons_succ]
      refine wpAnyH_read (i := 10) (d := some 75) (v := ?v44) (by rfl) (by rfl) (by kernel_rfl) (by kernel_rfl) (by kernel_rfl) (fun _ _ _ h => h) (by rfl) ?hy44 (by assumption) ?rest44
      case hy44 =>
        intro w hSw
        try dsimp only at hSw
        go_simp
        try with_reducible rfl
      try simp only [Act.put, List.setIfInBounds_toArray, List.set_cons_zero, List.set_cons_succ]
      refine wpAnyH_ready (rs := [11]) (by kernel_rfl) (by simp) ?_
      refine AllReadyH.cons rfl (fun K hK => ?_) AllReadyH.nil
      go_simp
      go_at_call 19
      refine (awake_any _).mono ?_
      rintro e w7 ⟨rfl, hb⟩
      replace ha := ha.below hb
      replace hbb := hbb.below hb
      replace hc := hc.below hb
      replace hb0 := hb0.trans (hb.mono hb0.size)
      clear hb
      refine hK.out _ _ ⟨has_st ha, has_st hbb⟩ (fun hHeld => ?_)
      clear hK K
      try simp only [Act.put, List.setIfInBounds_toArray, List.set_cons_zero, List.set_cons_succ]
      refine wpAnyH_read (i := 12) (d := some 77) (v := ?v46) (by rfl) (by rfl) (by kernel_rfl) (by kernel_rfl) (by kernel_rfl) (fun _ _ _ h => h) (by rfl) ?hy46 (by assumption) ?rest46
      case hy46 =>
        intro w hSw
        try dsimp only at hSw
        go_simp
        try with_reducible rfl
      try simp only [Act.put, List.setIfInBounds_toArray, List.set_cons_zero, List.set_cons_succ]
      refine wpAnyH_read (i := 13) (d := some 6) (v := ?v47) (by rfl) (by rfl) (by kernel_rfl) (by kernel_rfl) (by kernel_rfl) (fun _ _ _ h => h) (by rfl) ?hy47 (by assumption) ?rest47
      case hy47 =>
        intro w hSw
        try dsimp only at hSw
        go_simp
        try with_reducible rfl
      try simp only [Act.put, List.setIfInBounds_toArray, List.set_cons_zero, List.set_cons_succ]
      refine wpAnyH_done (by kernel_rfl) ?_ _
      go_wp2
      go_ret
      exact ⟨rfl, hb0⟩

set_option maxHeartbeats 8000000 in
set_option maxRecDepth 100000 in
theorem order_eq (a0 a1 b0 b1 c0 c1 : Int) (iA iB : Bool) (W : World) (hia : inB a0 a1 = iA) (hib : inB b0 b1 = iB) (e0 : a0 = b0) (e1 : a1 = b1) (haa : lessB a0 a1 a0 a1 = false) (hab : lessB a0 a1 b0 b1 = false) (hba : lessB b0 b1 a0 a1 = false) :
    Calls Try.prog 7 #[.agg (stC a0 a1), .agg (stC b0 b1), .agg (stC c0 c1)] W fun e w' => e = .returned (.bool true) ∧ Below W.heap.size W w' := by
  have HAA := Lib.hid (show ∀ W : World, Calls Try.prog 11 #[.agg #[.int .i64 a0, .int .i64 a1], .agg #[.int .i64 a0, .int .i64 a1]] W fun e w' => e = .returned (.bool false) ∧ Below W.heap.size W w' from fun W => by have h := less_any a0 a1 a0 a1 W; rw [haa] at h; exact h)
  have HAB := Lib.hid (show ∀ W : World, Calls Try.prog 11 #[.agg #[.int .i64 a0, .int .i64 a1], .agg #[.int .i64 b0, .int .i64 b1]] W fun e w' => e = .returned (.bool false) ∧ Below W.heap.size W w' from fun W => by have h := less_any a0 a1 b0 b1 W; rw [hab] at h; exact h)
  have HBA := Lib.hid (show ∀ W : World, Calls Try.prog 11 #[.agg #[.int .i64 b0, .int .i64 b1], .agg #[.int .i64 a0, .int .i64 a1]] W fun e w' => e = .returned (.bool false) ∧ Below W.heap.size W w' from fun W => by have h := less_any b0 b1 a0 a1 W; rw [hba] at h; exact h)
  have HL := Lib.hid (show ∀ W : World, Calls Try.prog 11 #[.agg #[.int .i64 a0, .int .i64 a1], .agg #[.int .i64 b0, .int .i64 b1]] W fun e w' => e = .returned (.bool false) ∧ Below W.heap.size W w' from HAB.out)
  have HIA := Lib.hid (show ∀ W : World, Calls Try.prog 42 #[.agg #[.int .i64 a0, .int .i64 a1]] W fun e w' => e = .returned (.bool iA) ∧ Below W.heap.size W w' from fun W => by have h := in_any a0 a1 W; rw [hia] at h; exact h)
  have HIB := Lib.hid (show ∀ W : World, Calls Try.prog 42 #[.agg #[.int .i64 b0, .int .i64 b1]] W fun e w' => e = .returned (.bool iB) ∧ Below W.heap.size W w' from fun W => by have h := in_any b0 b1 W; rw [hib] at h; exact h)
  have HPA := Lib.hid (fun W => show Calls Try.prog 33 #[.slice none 0 0, .agg #[.int .i64 a0, .int .i64 a1]] W fun e w' => ∃ v, e = .returned v ∧ Oct.Owns w' W.heap.size v (stB a0 a1) ∧ Below W.heap.size W w' from putStamp_any none 0 0 a0 a1 [] (by omega) W (row_nil W) (fun _ => ⟨rfl, rfl⟩))
  have HPB := Lib.hid (fun W => show Calls Try.prog 33 #[.slice none 0 0, .agg #[.int .i64 b0, .int .i64 b1]] W fun e w' => ∃ v, e = .returned v ∧ Oct.Owns w' W.heap.size v (stB b0 b1) ∧ Below W.heap.size W w' from putStamp_any none 0 0 b0 b1 [] (by omega) W (row_nil W) (fun _ => ⟨rfl, rfl⟩))
  have HC := Lib.hid (show iA = true → iB = true → decide (Lib.compareBytes (stB a0 a1) (stB b0 b1) < 0) = false from fun h1 h2 => by rw [← hab]; exact order_cmp (hia.trans h1) (hib.trans h2))
  have hb0 := (((Below.refl W.heap.size W).alloc (Nat.le_refl _) (.cells #[.int .i64 a0, .int .i64 a1] 23)).alloc (by simp) (.cells #[.int .i64 b0, .int .i64 b1] 23)).alloc (by simp; omega) (.cells #[.int .i64 c0, .int .i64 c1] 23)
  have ha := ((Has.fresh W 23 #[.int .i64 a0, .int .i64 a1]).past (.cells #[.int .i64 b0, .int .i64 b1] 23)).past (.cells #[.int .i64 c0, .int .i64 c1] 23)
  have hbb := (Has.fresh (W.alloc (.cells #[.int .i64 a0, .int .i64 a1] 23)) 23 #[.int .i64 b0, .int .i64 b1]).past (.cells #[.int .i64 c0, .int .i64 c1] 23)
  have hc := Has.fresh ((W.alloc (.cells #[.int .i64 a0, .int .i64 a1] 23)).alloc (.cells #[.int .i64 b0, .int .i64 b1] 23)) 23 #[.int .i64 c0, .int .i64 c1]
  rw [World.size_alloc] at hbb hc
  rw [World.size_alloc] at hc
  clear haa hab hba hia hib
  unfold stC
  have nq : ∀ w : World, (binOp .neq 23 (.agg #[.int .i64 a0, .int .i64 a1]) (.agg #[.int .i64 b0, .int .i64 b1])).run Try.prog w = .ok (.bool false) w := fun w => (neq_st a0 a1 b0 b1 w).trans (by rw [e0, e1]; simp)
  clear e0 e1
  go_enter Try.func7, Try.ntmps7
  obtain ⟨ca0, ca1⟩ := has_st ha
  obtain ⟨cb0, cb1⟩ := has_st hbb
  obtain ⟨cc0, cc1⟩ := has_st hc
  go_wp2_with fail
  refine (HAA.out _).mono ?_
  rintro e v31 ⟨rfl, hb⟩
  clear ca0 ca1 cb0 cb1 cc0 cc1
  replace ha := ha.below hb
  replace hbb := hbb.below hb
  replace hc := hc.below hb
  replace hb0 := hb0.trans (hb.mono hb0.size)
  clear hb
  obtain ⟨ca0, ca1⟩ := has_st ha
  obtain ⟨cb0, cb1⟩ := has_st hbb
  obtain ⟨cc0, cc1⟩ := has_st hc
  go_wp2_with fail
  refine (HAB.out _).mono ?_
  rintro e v32 ⟨rfl, hb⟩
  clear ca0 ca1 cb0 cb1 cc0 cc1
  replace ha := ha.below hb
  replace hbb := hbb.below hb
  replace hc := hc.below hb
  replace hb0 := hb0.trans (hb.mono hb0.size)
  clear hb
  obtain ⟨ca0, ca1⟩ := has_st ha
  obtain ⟨cb0, cb1⟩ := has_st hbb
  obtain ⟨cc0, cc1⟩ := has_st hc
  go_wp2_with fail
  refine (HAB.out _).mono ?_
  rintro e v33 ⟨rfl, hb⟩
  clear ca0 ca1 cb0 cb1 cc0 cc1
  replace ha := ha.below hb
  replace hbb := hbb.below hb
  replace hc := hc.below hb
  replace hb0 := hb0.trans (hb.mono hb0.size)
  clear hb
  obtain ⟨ca0, ca1⟩ := has_st ha
  obtain ⟨cb0, cb1⟩ := has_st hbb
  obtain ⟨cc0, cc1⟩ := has_st hc
  go_wp2_with fail
  refine (HBA.out _).mono ?_
  rintro e v34 ⟨rfl, hb⟩
  clear ca0 ca1 cb0 cb1 cc0 cc1
  replace ha := ha.below hb
  replace hbb := hbb.below hb
  replace hc := hc.below hb
  replace hb0 := hb0.trans (hb.mono hb0.size)
  clear hb
  obtain ⟨ca0, ca1⟩ := has_st ha
  obtain ⟨cb0, cb1⟩ := has_st hbb
  obtain ⟨cc0, cc1⟩ := has_st hc
  go_wp2_with fail
  refine (HAB.out _).mono ?_
  rintro e v35 ⟨rfl, hb⟩
  clear ca0 ca1 cb0 cb1 cc0 cc1
  replace ha := ha.below hb
  replace hbb := hbb.below hb
  replace hc := hc.below hb
  replace hb0 := hb0.trans (hb.mono hb0.size)
  clear hb
  obtain ⟨ca0, ca1⟩ := has_st ha
  obtain ⟨cb0, cb1⟩ := has_st hbb
  obtain ⟨cc0, cc1⟩ := has_st hc
  cases iA with
  | false =>
    obtain ⟨ca0, ca1⟩ := has_st ha
    obtain ⟨cb0, cb1⟩ := has_st hbb
    obtain ⟨cc0, cc1⟩ := has_st hc
    go_wp2_with fail
    refine (HIA.out _).mono ?_
    rintro e v36 ⟨rfl, hb⟩
    clear ca0 ca1 cb0 cb1 cc0 cc1
    replace ha := ha.below hb
    replace hbb := hbb.below hb
    replace hc := hc.below hb
    replace hb0 := hb0.trans (hb.mono hb0.size)
    clear hb
    go_wp2_with fail
    refine (awake_any _).mono ?_
    rintro e w9 ⟨rfl, hb⟩
    go_wp2
    go_ret
    exact ⟨rfl, hb0.trans (hb.mono hb0.size)⟩
  | true =>
    obtain ⟨ca0, ca1⟩ := has_st ha
    obtain ⟨cb0, cb1⟩ := has_st hbb
    obtain ⟨cc0, cc1⟩ := has_st hc
    go_wp2_with fail
    refine (HIA.out _).mono ?_
    rintro e v37 ⟨rfl, hb⟩
    clear ca0 ca1 cb0 cb1 cc0 cc1
    replace ha := ha.below hb
    replace hbb := hbb.below hb
    replace hc := hc.below hb
    replace hb0 := hb0.trans (hb.mono hb0.size)
    clear hb
    cases iB with
    | false =>
      obtain ⟨ca0, ca1⟩ := has_st ha
      obtain ⟨cb0, cb1⟩ := has_st hbb
      obtain ⟨cc0, cc1⟩ := has_st hc
      go_wp2_with fail
      refine (HIB.out _).mono ?_
      rintro e v38 ⟨rfl, hb⟩
      clear ca0 ca1 cb0 cb1 cc0 cc1
      replace ha := ha.below hb
      replace hbb := hbb.below hb
      replace hc := hc.below hb
      replace hb0 := hb0.trans (hb.mono hb0.size)
      clear hb
      go_wp2_with fail
      refine (awake_any _).mono ?_
      rintro e w9 ⟨rfl, hb⟩
      go_wp2
      go_ret
      exact ⟨rfl, hb0.trans (hb.mono hb0.size)⟩
    | true =>
      obtain ⟨ca0, ca1⟩ := has_st ha
      obtain ⟨cb0, cb1⟩ := has_st hbb
      obtain ⟨cc0, cc1⟩ := has_st hc
      go_wp2_with fail
      refine (HIB.out _).mono ?_
      rintro e v39 ⟨rfl, hb⟩
      clear ca0 ca1 cb0 cb1 cc0 cc1
      replace ha := ha.below hb
      replace hbb := hbb.below hb
      replace hc := hc.below hb
      replace hb0 := hb0.trans (hb.mono hb0.size)
      clear hb
      have qC := HC.out (by first | exact rfl | trivial) (by first | exact rfl | trivial)
      go_wp2_with fail
      replace ha := ha.drew
      replace hbb := hbb.drew
      replace hc := hc.drew
      replace hb0 := hb0.drew
      refine wp_region_held_drew (S := (fun w' => (w'.cell? ⟨W.heap.size, 0, none⟩ = some (.int .i64 a0) ∧ w'.cell? ⟨W.heap.size, 1, none⟩ = some (.int .i64 a1)) ∧ w'.cell? ⟨W.heap.size + 1, 0, none⟩ = some (.int .i64 b0) ∧ w'.cell? ⟨W.heap.size + 1, 1, none⟩ = some (.int .i64 b1))) (by kernel_rfl) ⟨has_st ha, has_st hbb⟩ (fun hHeld => ?_)
      refine wpAnyH_read (i := 0) (d := some 65) (v := ?v50) (by rfl) (by rfl) (by kernel_rfl) (by kernel_rfl) (by kernel_rfl) (fun _ _ _ h => h) (by rfl) ?hy50 (by assumption) ?rest50
      case hy50 =>
        intro w hSw
        try dsimp only at hSw
        go_simp
        try with_reducible rfl
      try simp only [Act.put, List.setIfInBounds_toArray, List.set_cons_zero, List.set_cons_succ]
      refine wpAnyH_read (i := 2) (d := some 67) (v := ?v51) (by rfl) (by rfl) (by kernel_rfl) (by kernel_rfl) (by kernel_rfl) (fun _ _ _ h => h) (by rfl) ?hy51 (by assumption) ?rest51
      case hy51 =>
        intro w hSw
        try dsimp only at hSw
        go_simp
        try with_reducible rfl
      try simp only [Act.put, List.setIfInBounds_toArray, List.set_cons_zero, List.set_cons_succ]
      refine wpAnyH_read (i := 6) (d := some 71) (v := ?v52) (by rfl) (by rfl) (by kernel_rfl) (by kernel_rfl) (by kernel_rfl) (fun _ _ _ h => h) (by rfl) ?hy52 (by assumption) ?rest52
      case hy52 =>
        intro w hSw
        try dsimp only at hSw
        go_simp
        try with_reducible rfl
      try simp only [Act.put, List.setIfInBounds_toArray, List.set_cons_zero, List.set_cons_succ]
      refine wpAnyH_read (i := 7) (d := some 72) (v := ?v53) (by rfl) (by rfl) (by kernel_rfl) (by kernel_rfl) (by kernel_rfl) (fun _ _ _ h => h) (by rfl) ?hy53 (by assumption) ?rest53
      case hy53 =>
        intro w hSw
        try dsimp only at hSw
        go_simp
        try with_reducible rfl
      try simp only [Act.put, List.setIfInBounds_toArray, List.set_cons_zero, List.set_cons_succ]
      refine wpAnyH_ready (rs := [1]) (by kernel_rfl) (by simp) ?_
      refine AllReadyH.cons rfl (fun K hK => ?_) AllReadyH.nil
      go_simp
      go_at_call 33
      refine (HPA.out _).mono ?_
      rintro e w7 ⟨v, rfl, ho, hb⟩
      obtain ⟨A1, k1, rfl, r1, _⟩ := owns_lens ho
      rw [stB_len] at r1 ⊢
      clear ho
      replace ha := ha.below hb
      replace hbb := hbb.below hb
      replace hc := hc.below hb
      replace hb0 := hb0.trans (hb.mono hb0.size)
      clear hb
      refine hK.out _ _ ⟨has_st ha, has_st hbb⟩ (fun hHeld => ?_)
      clear hK K
      try simp only [Act.put, List.setIfInBounds_toArray, List.set_cons_zero, List.set_cons_succ]
      refine wpAnyH_ready (rs := [3]) (by kernel_rfl) (by simp) ?_
      refine AllReadyH.cons rfl (fun K hK => ?_) AllReadyH.nil
      go_simp
      go_at_call 33
      refine (HPB.out _).mono ?_
      rintro e w7 ⟨v, rfl, ho, hb⟩
      obtain ⟨A2, k2, rfl, r2, _⟩ := owns_lens ho
      rw [stB_len] at r2 ⊢
      clear ho
      replace r1 := r1.below hb
      replace ha := ha.below hb
      replace hbb := hbb.below hb
      replace hc := hc.below hb
      replace hb0 := hb0.trans (hb.mono hb0.size)
      clear hb
      refine hK.out _ _ ⟨has_st ha, has_st hbb⟩ (fun hHeld => ?_)
      clear hK K
      try simp only [Act.put, List.setIfInBounds_toArray, List.set_cons_zero, List.set_cons_succ]
      refine wpAnyH_ready (rs := [4]) (by kernel_rfl) (by simp) ?_
      refine AllReadyH.cons rfl (fun K hK => ?_) AllReadyH.nil
      go_simp
      go_at_call 43
      refine (compare_any _ A1 A2 7 7 k1 k2 _ _ r1 r2).mono ?_
      rintro e w7 ⟨rfl, rfl⟩
      skip
      refine hK.out _ _ ⟨has_st ha, has_st hbb⟩ (fun hHeld => ?_)
      clear hK K
      try simp only [Act.put, List.setIfInBounds_toArray, List.set_cons_zero, List.set_cons_succ]
      refine wpAnyH_read (i := 5) (d := some 70) (v := ?v57) (by rfl) (by rfl) (by kernel_rfl) (by kernel_rfl) (by kernel_rfl) (fun _ _ _ h => h) (by rfl) ?hy57 (by assumption) ?rest57
      case hy57 =>
        intro w hSw
        try dsimp only at hSw
        go_simp
        try with_reducible rfl
      try simp only [Act.put, List.setIfInBounds_toArray, List.set_cons_zero, List.set_cons_succ]
      refine wpAnyH_ready (rs := [8]) (by kernel_rfl) (by simp) ?_
      refine AllReadyH.cons rfl (fun K hK => ?_) AllReadyH.nil
      go_simp
      go_at_call 11
      refine (HL.out _).mono ?_
      rintro e w7 ⟨rfl, hb⟩
      replace ha := ha.below hb
      replace hbb := hbb.below hb
      replace hc := hc.below hb
      replace hb0 := hb0.trans (hb.mono hb0.size)
      clear hb
      refine hK.out _ _ ⟨has_st ha, has_st hbb⟩ (fun hHeld => ?_)
      clear hK K
      try simp only [Act.put, List.setIfInBounds_toArray, List.set_cons_zero, List.set_cons_succ]
      refine wpAnyH_read (i := 9) (d := some 74) (v := ?v59) (by rfl) (by rfl) (by kernel_rfl) (by kernel_rfl) (by kernel_rfl) (fun _ _ _ h => h) (by rfl) ?hy59 (by assumption) ?rest59
      case hy59 =>
        intro w hSw
        try dsimp only at hSw
        go_simp
        try with_reducible rfl
      try simp only [Act.put, List.setIfInBounds_toArray, List.set_cons_zero, List.set_cons_succ]
      refine wpAnyH_read (i := 10) (d := some 75) (v := ?v60) (by rfl) (by rfl) (by kernel_rfl) (by kernel_rfl) (by kernel_rfl) (fun _ _ _ h => h) (by rfl) ?hy60 (by assumption) ?rest60
      case hy60 =>
        intro w hSw
        try dsimp only at hSw
        go_simp
        try with_reducible rfl
      try simp only [Act.put, List.setIfInBounds_toArray, List.set_cons_zero, List.set_cons_succ]
      refine wpAnyH_ready (rs := [11]) (by kernel_rfl) (by simp) ?_
      refine AllReadyH.cons rfl (fun K hK => ?_) AllReadyH.nil
      go_simp
      go_at_call 19
      refine (awake_any _).mono ?_
      rintro e w7 ⟨rfl, hb⟩
      replace ha := ha.below hb
      replace hbb := hbb.below hb
      replace hc := hc.below hb
      replace hb0 := hb0.trans (hb.mono hb0.size)
      clear hb
      refine hK.out _ _ ⟨has_st ha, has_st hbb⟩ (fun hHeld => ?_)
      clear hK K
      try simp only [Act.put, List.setIfInBounds_toArray, List.set_cons_zero, List.set_cons_succ]
      refine wpAnyH_read (i := 12) (d := some 77) (v := ?v62) (by rfl) (by rfl) (by kernel_rfl) (by kernel_rfl) (by kernel_rfl) (fun _ _ _ h => h) (by rfl) ?hy62 (by assumption) ?rest62
      case hy62 =>
        intro w hSw
        try dsimp only at hSw
        go_simp
        try with_reducible rfl
      try simp only [Act.put, List.setIfInBounds_toArray, List.set_cons_zero, List.set_cons_succ]
      refine wpAnyH_read (i := 13) (d := some 6) (v := ?v63) (by rfl) (by rfl) (by kernel_rfl) (by kernel_rfl) (by kernel_rfl) (fun _ _ _ h => h) (by rfl) ?hy63 (by assumption) ?rest63
      case hy63 =>
        intro w hSw
        try dsimp only at hSw
        go_simp
        try with_reducible rfl
      try simp only [Act.put, List.setIfInBounds_toArray, List.set_cons_zero, List.set_cons_succ]
      refine wpAnyH_done (by kernel_rfl) ?_ _
      go_wp2
      go_ret
      exact ⟨rfl, hb0⟩

theorem order_law (a0 a1 b0 b1 c0 c1 : Int) (_ : (Lit.int .i64 a0).wf = true) (_ : (Lit.int .i64 a1).wf = true) (_ : (Lit.int .i64 b0).wf = true) (_ : (Lit.int .i64 b1).wf = true) (_ : (Lit.int .i64 c0).wf = true) (_ : (Lit.int .i64 c1).wf = true) (W : World) :
    Calls Try.prog 7 #[.agg (stC a0 a1), .agg (stC b0 b1), .agg (stC c0 c1)] W fun e w' => e = .returned (.bool true) ∧ Below W.heap.size W w' := by
  cases hab : lessB a0 a1 b0 b1 with
  | true =>
    cases hbc : lessB b0 b1 c0 c1 with
    | true => exact order_yy a0 a1 b0 b1 c0 c1 _ _ W rfl rfl (less_self _ _) hab (less_turn hab) hbc (less_trans hab hbc)
    | false => exact order_yn a0 a1 b0 b1 c0 c1 _ _ W rfl rfl (less_self _ _) hab (less_turn hab) hbc
  | false =>
    cases hba : lessB b0 b1 a0 a1 with
    | true => exact order_nn a0 a1 b0 b1 c0 c1 _ _ W rfl rfl (less_self _ _) hab hba
    | false => exact order_eq a0 a1 b0 b1 c0 c1 _ _ W rfl rfl (less_none hab hba).1 (less_none hab hba).2 (less_self _ _) hab hba
end Go.Proofs.Ytlnlnpofdgnoeaa.Vc
