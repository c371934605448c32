/- VectorJoined, walked. -/
import Derived.Test.YtlnlnpofdgnoeaaVcJ
import Derived.Deep.DeepCutAuto
namespace Go.Proofs.Ytlnlnpofdgnoeaa.Vc
open Go.RowKit Go.Proofs.Ytlnlnpofdgnoeaa.Mem

theorem eql_lit (x : Nat → Int) (w : World) : (binOp .eql 25 (.agg #[.int .i64 (x 0), .int .i64 (x 1), .int .i64 (x 2), .int .i64 (x 3), .int .i64 (x 4), .int .i64 (x 5), .int .i64 (x 6), .int .i64 (x 7)]) (.agg #[.int .i64 (x 0), .int .i64 (x 1), .int .i64 (x 2), .int .i64 (x 3), .int .i64 (x 4), .int .i64 (x 5), .int .i64 (x 6), .int .i64 (x 7)])).run Try.prog w = .ok (.bool true) w := (eql_vec x x w).trans (by rw [eq8_self])
theorem eql_same (x : Nat → Int) (w : World) : (binOp .eql 25 (.agg (vecC x)) (.agg (vecC x))).run Try.prog w = .ok (.bool true) w := by rw [eql_vec, eq8_self]
theorem joinV_comm (x y : Nat → Int) : joinV y x = joinV x y := by
  funext i
  unfold joinV
  split <;> split <;> omega
theorem meetV_comm (x y : Nat → Int) : meetV y x = meetV x y := by
  funext i
  unfold meetV
  split <;> split <;> omega
theorem joinV_assoc (x y z : Nat → Int) : joinV x (joinV y z) = joinV (joinV x y) z := by
  funext i
  unfold joinV
  by_cases h1 : x i < y i
  · by_cases h2 : y i < z i
    · have h3 : x i < z i := by omega
      simp [h1, h2, h3]
    · simp [h1, h2]
  · by_cases h2 : y i < z i
    · simp [h1, h2]
    · have h3 : ¬ x i < z i := by omega
      simp [h1, h2, h3]
theorem within_join1 (x y : Nat → Int) : withinB x (joinV x y) = true := withinB_iff.2 fun i _ => by unfold joinV; split <;> omega
theorem within_join2 (x y : Nat → Int) : withinB y (joinV x y) = true := withinB_iff.2 fun i _ => by unfold joinV; split <;> omega
theorem within_meet1 (x y : Nat → Int) : withinB (meetV x y) x = true := withinB_iff.2 fun i _ => by unfold meetV; split <;> omega
theorem within_meet2 (x y : Nat → Int) : withinB (meetV x y) y = true := withinB_iff.2 fun i _ => by unfold meetV; split <;> omega
theorem within_of_join {x y z : Nat → Int} (h : withinB x z = true) : withinB (joinV x y) z = withinB y z := by
  rw [Bool.eq_iff_iff, withinB_iff, withinB_iff]
  constructor
  · intro k i hi
    have := k i hi
    unfold joinV at this
    split at this <;> omega
  · intro k i hi
    have h1 := k i hi
    have h2 := withinB_iff.1 h i hi
    unfold joinV
    split <;> omega
theorem within_to_meet (x y z : Nat → Int) : withinB z (meetV x y) = (withinB z x && withinB z y) := by
  rw [Bool.eq_iff_iff, Bool.and_eq_true, withinB_iff, withinB_iff, withinB_iff]
  constructor
  · intro k
    refine ⟨fun i hi => ?_, fun i hi => ?_⟩
    all_goals
      have := k i hi
      unfold meetV at this
      split at this <;> omega
  · rintro ⟨k1, k2⟩ i hi
    have h1 := k1 i hi
    have h2 := k2 i hi
    unfold meetV
    split <;> omega
theorem Has.keep8 {w : World} {g p : Nat} {t : TypeId} {cs : Array Value} (h : Has w g t cs) (hp : g ≠ p) (x : Nat → Int) : Has (((((((((w).setCell ⟨p, 0, none⟩ (.int .i64 (x 0))).setCell ⟨p, 1, none⟩ (.int .i64 (x 1))).setCell ⟨p, 2, none⟩ (.int .i64 (x 2))).setCell ⟨p, 3, none⟩ (.int .i64 (x 3))).setCell ⟨p, 4, none⟩ (.int .i64 (x 4))).setCell ⟨p, 5, none⟩ (.int .i64 (x 5))).setCell ⟨p, 6, none⟩ (.int .i64 (x 6))).setCell ⟨p, 7, none⟩ (.int .i64 (x 7))) g t cs :=
  Has.keep (Has.keep (Has.keep (Has.keep (Has.keep (Has.keep (Has.keep (Has.keep h (p := ⟨p, 0, none⟩) hp _) (p := ⟨p, 1, none⟩) hp _) (p := ⟨p, 2, none⟩) hp _) (p := ⟨p, 3, none⟩) hp _) (p := ⟨p, 4, none⟩) hp _) (p := ⟨p, 5, none⟩) hp _) (p := ⟨p, 6, none⟩) hp _) (p := ⟨p, 7, none⟩) hp _
/-- What stands when the join and the meet have been made: where they lie, and that the three lie as they did. -/
def JM (W : World) (x y z J M : Nat → Int) (p q : Value) (w : World) : Prop :=
  ∃ P Q : Nat, p = .pointer (some ⟨P, 0, none⟩) ∧ q = .pointer (some ⟨Q, 0, none⟩) ∧ Has w P 25 (vecC J) ∧ Has w Q 25 (vecC M) ∧ Has w W.heap.size 25 (vecC x) ∧ Has w (W.heap.size + 1) 25 (vecC y) ∧ Has w (W.heap.size + 1 + 1) 25 (vecC z) ∧ Below W.heap.size W w

set_option maxHeartbeats 16000000 in
set_option maxRecDepth 100000 in
theorem joined_any (x y z J M Q R : Nat → Int) (CJ CM : Array Value) (b5 b9 B3 B4 B7 B8 : Bool) (W : World) (hCJ : CJ = vecC J) (hCM : CM = vecC M) (hJ : joinV x y = J) (hM : meetV x y = M) (hJ2 : joinV y x = J) (hM2 : meetV y x = M) (hQ : joinV J z = Q) (hR : joinV y z = R) (hQ2 : joinV x R = Q) (w1 : withinB x J = true) (w2 : withinB y J = true) (w3 : withinB M x = true) (w4 : withinB M y = true) (w5 : withinB x z = b5) (w6 : withinB y z = B3) (w7 : withinB J z = B7) (h7 : b5 = true → B7 = B3) (w8 : withinB z M = B8) (h8 : B8 = (b9 && B4)) (w9 : withinB z x = b9) (w10 : withinB z y = B4) :
    Calls Try.prog 8 #[.agg (vecC x), .agg (vecC y), .agg (vecC z)] W fun e w' => e = .returned (.bool true) ∧ Below W.heap.size W w' := by
  have HJL := Lib.hid (show ∀ W : World, Calls Try.prog 20 #[.agg (vecC x), .agg (vecC y)] W fun e w' => e = .returned (.agg #[.int .i64 (J 0), .int .i64 (J 1), .int .i64 (J 2), .int .i64 (J 3), .int .i64 (J 4), .int .i64 (J 5), .int .i64 (J 6), .int .i64 (J 7)]) ∧ Below W.heap.size W w' from fun W => by have h := join_any x y W; rw [hJ] at h; exact h)
  have HML := Lib.hid (show ∀ W : World, Calls Try.prog 22 #[.agg (vecC x), .agg (vecC y)] W fun e w' => e = .returned (.agg #[.int .i64 (M 0), .int .i64 (M 1), .int .i64 (M 2), .int .i64 (M 3), .int .i64 (M 4), .int .i64 (M 5), .int .i64 (M 6), .int .i64 (M 7)]) ∧ Below W.heap.size W w' from fun W => by have h := meet_any x y W; rw [hM] at h; exact h)
  have HJ2 := Lib.hid (show ∀ W : World, Calls Try.prog 20 #[.agg (vecC y), .agg (vecC x)] W fun e w' => e = .returned (.agg (vecC J)) ∧ Below W.heap.size W w' from fun W => by have h := join_any y x W; rw [hJ2] at h; exact h)
  have HM2 := Lib.hid (show ∀ W : World, Calls Try.prog 22 #[.agg (vecC y), .agg (vecC x)] W fun e w' => e = .returned (.agg (vecC M)) ∧ Below W.heap.size W w' from fun W => by have h := meet_any y x W; rw [hM2] at h; exact h)
  have HJ3 := Lib.hid (show ∀ W : World, Calls Try.prog 20 #[.agg (vecC J), .agg (vecC z)] W fun e w' => e = .returned (.agg (vecC Q)) ∧ Below W.heap.size W w' from fun W => by have h := join_any J z W; rw [hQ] at h; exact h)
  have HJ4 := Lib.hid (show ∀ W : World, Calls Try.prog 20 #[.agg (vecC y), .agg (vecC z)] W fun e w' => e = .returned (.agg (vecC R)) ∧ Below W.heap.size W w' from fun W => by have h := join_any y z W; rw [hR] at h; exact h)
  have HJ5 := Lib.hid (show ∀ W : World, Calls Try.prog 20 #[.agg (vecC x), .agg (vecC R)] W fun e w' => e = .returned (.agg (vecC Q)) ∧ Below W.heap.size W w' from fun W => by have h := join_any x R W; rw [hQ2] at h; exact h)
  have W1 := Lib.hid (show ∀ W : World, Calls Try.prog 24 #[.agg (vecC x), .agg (vecC J)] W fun e w' => e = .returned (.bool true) ∧ Below W.heap.size W w' from fun W => by have h := within_any x J W; rw [w1] at h; exact h)
  have W2 := Lib.hid (show ∀ W : World, Calls Try.prog 24 #[.agg (vecC y), .agg (vecC J)] W fun e w' => e = .returned (.bool true) ∧ Below W.heap.size W w' from fun W => by have h := within_any y J W; rw [w2] at h; exact h)
  have W3 := Lib.hid (show ∀ W : World, Calls Try.prog 24 #[.agg (vecC M), .agg (vecC x)] W fun e w' => e = .returned (.bool true) ∧ Below W.heap.size W w' from fun W => by have h := within_any M x W; rw [w3] at h; exact h)
  have W4 := Lib.hid (show ∀ W : World, Calls Try.prog 24 #[.agg (vecC M), .agg (vecC y)] W fun e w' => e = .returned (.bool true) ∧ Below W.heap.size W w' from fun W => by have h := within_any M y W; rw [w4] at h; exact h)
  have W5 := Lib.hid (show ∀ W : World, Calls Try.prog 24 #[.agg (vecC x), .agg (vecC z)] W fun e w' => e = .returned (.bool b5) ∧ Below W.heap.size W w' from fun W => by have h := within_any x z W; rw [w5] at h; exact h)
  have W6 := Lib.hid (show ∀ W : World, Calls Try.prog 24 #[.agg (vecC y), .agg (vecC z)] W fun e w' => e = .returned (.bool B3) ∧ Below W.heap.size W w' from fun W => by have h := within_any y z W; rw [w6] at h; exact h)
  have W8 := Lib.hid (show ∀ W : World, Calls Try.prog 24 #[.agg (vecC z), .agg (vecC M)] W fun e w' => e = .returned (.bool B8) ∧ Below W.heap.size W w' from fun W => by have h := within_any z M W; rw [w8] at h; exact h)
  have W9 := Lib.hid (show ∀ W : World, Calls Try.prog 24 #[.agg (vecC z), .agg (vecC x)] W fun e w' => e = .returned (.bool b9) ∧ Below W.heap.size W w' from fun W => by have h := within_any z x W; rw [w9] at h; exact h)
  have W10 := Lib.hid (show ∀ W : World, Calls Try.prog 24 #[.agg (vecC z), .agg (vecC y)] W fun e w' => e = .returned (.bool B4) ∧ Below W.heap.size W w' from fun W => by have h := within_any z y W; rw [w10] at h; exact h)
  have W7 := Lib.hid (show ∀ W : World, Calls Try.prog 24 #[.agg (vecC J), .agg (vecC z)] W fun e w' => e = .returned (.bool B7) ∧ Below W.heap.size W w' from fun W => by have h := within_any J z W; rw [w7] at h; exact h)
  have qj : ∀ w : World, (binOp .eql 25 (.agg #[.int .i64 (J 0), .int .i64 (J 1), .int .i64 (J 2), .int .i64 (J 3), .int .i64 (J 4), .int .i64 (J 5), .int .i64 (J 6), .int .i64 (J 7)]) (.agg CJ)).run Try.prog w = .ok (.bool true) w := fun w => by rw [hCJ]; exact eql_same J w
  have qm : ∀ w : World, (binOp .eql 25 (.agg #[.int .i64 (M 0), .int .i64 (M 1), .int .i64 (M 2), .int .i64 (M 3), .int .i64 (M 4), .int .i64 (M 5), .int .i64 (M 6), .int .i64 (M 7)]) (.agg CM)).run Try.prog w = .ok (.bool true) w := fun w => by rw [hCM]; exact eql_same M w
  have qq := fun w => eql_same Q w
  rw [← hCJ] at HJ2
  rw [← hCM] at HM2
  have H7 := Lib.hid h7
  have H8 := Lib.hid h8
  generalize vecC Q = CQ at *
  have hb0 := Below.drew ((((Below.refl W.heap.size W).alloc (Nat.le_refl _) (.cells (vecC x) 25)).alloc (by simp) (.cells (vecC y) 25)).alloc (by simp; omega) (.cells (vecC z) 25))
  have hx := Has.drew (((Has.fresh W 25 (vecC x)).past (.cells (vecC y) 25)).past (.cells (vecC z) 25))
  have hy := Has.drew ((Has.fresh (W.alloc (.cells (vecC x) 25)) 25 (vecC y)).past (.cells (vecC z) 25))
  have hz := Has.drew (Has.fresh ((W.alloc (.cells (vecC x) 25)).alloc (.cells (vecC y) 25)) 25 (vecC z))
  rw [World.size_alloc] at hy hz
  rw [World.size_alloc] at hz
  clear hJ hM hJ2 hM2 hQ hR hQ2 w1 w2 w3 w4 w5 w6 w7 w8 w9 w10 hCJ hCM h7 h8
  have QJ := Lib.hid qj
  have QM := Lib.hid qm
  have QQ := Lib.hid qq
  clear qj qm qq
  go_enter Try.func8, Try.ntmps8
  go_upto_region 1 with fail
  go_cut [7, 8] (fun p q wx => JM W x y z J M p q wx)
  case first =>
    clear QJ QM QQ HJ2 HM2 HJ3 HJ4 HJ5 W1 W2 W3 W4 W5 W6 W7 W8 W9 W10 H7 H8
    generalize hw0 : (((W.alloc (.cells (vecC x) 25)).alloc (.cells (vecC y) 25)).alloc (.cells (vecC z) 25)) = ww at *
    refine wp_region_held_drew (S := (fun w' => (w'.cell? ⟨W.heap.size, 0, none⟩ = some (.int .i64 (x 0)) ∧ w'.cell? ⟨W.heap.size, 1, none⟩ = some (.int .i64 (x 1)) ∧ w'.cell? ⟨W.heap.size, 2, none⟩ = some (.int .i64 (x 2)) ∧ w'.cell? ⟨W.heap.size, 3, none⟩ = some (.int .i64 (x 3)) ∧ w'.cell? ⟨W.heap.size, 4, none⟩ = some (.int .i64 (x 4)) ∧ w'.cell? ⟨W.heap.size, 5, none⟩ = some (.int .i64 (x 5)) ∧ w'.cell? ⟨W.heap.size, 6, none⟩ = some (.int .i64 (x 6)) ∧ w'.cell? ⟨W.heap.size, 7, none⟩ = some (.int .i64 (x 7))) ∧ w'.cell? ⟨W.heap.size + 1, 0, none⟩ = some (.int .i64 (y 0)) ∧ w'.cell? ⟨W.heap.size + 1, 1, none⟩ = some (.int .i64 (y 1)) ∧ w'.cell? ⟨W.heap.size + 1, 2, none⟩ = some (.int .i64 (y 2)) ∧ w'.cell? ⟨W.heap.size + 1, 3, none⟩ = some (.int .i64 (y 3)) ∧ w'.cell? ⟨W.heap.size + 1, 4, none⟩ = some (.int .i64 (y 4)) ∧ w'.cell? ⟨W.heap.size + 1, 5, none⟩ = some (.int .i64 (y 5)) ∧ w'.cell? ⟨W.heap.size + 1, 6, none⟩ = some (.int .i64 (y 6)) ∧ w'.cell? ⟨W.heap.size + 1, 7, none⟩ = some (.int .i64 (y 7)))) (by kernel_rfl) ⟨has_vec hx, has_vec hy⟩ (fun hHeld => ?_)
    generalize ww.drew = w0 at *
    refine wpAnyH_read (i := 0) (d := some 9) (v := ?v2) (by rfl) (by rfl) (by kernel_rfl) (by kernel_rfl) (by kernel_rfl) (fun _ _ _ h => h) (by rfl) ?hy2 (by assumption) ?rest2
    case hy2 =>
      intro w hSw
      try dsimp only at hSw
      go_simp
      try with_reducible rfl
    try simp only [Act.put, List.setIfInBounds_toArray, List.set_cons_zero, List.set_cons_succ]
    refine wpAnyH_read (i := 1) (d := some 10) (v := ?v3) (by rfl) (by rfl) (by kernel_rfl) (by kernel_rfl) (by kernel_rfl) (fun _ _ _ h => h) (by rfl) ?hy3 (by assumption) ?rest3
    case hy3 =>
      intro w hSw
      try dsimp only at hSw
      go_simp
      try with_reducible rfl
    try simp only [Act.put, List.setIfInBounds_toArray, List.set_cons_zero, List.set_cons_succ]
    refine wpAnyH_read (i := 3) (d := some 12) (v := ?v4) (by rfl) (by rfl) (by kernel_rfl) (by kernel_rfl) (by kernel_rfl) (fun _ _ _ h => h) (by rfl) ?hy4 (by assumption) ?rest4
    case hy4 =>
      intro w hSw
      try dsimp only at hSw
      go_simp
      try with_reducible rfl
    try simp only [Act.put, List.setIfInBounds_toArray, List.set_cons_zero, List.set_cons_succ]
    refine wpAnyH_read (i := 4) (d := some 13) (v := ?v5) (by rfl) (by rfl) (by kernel_rfl) (by kernel_rfl) (by kernel_rfl) (fun _ _ _ h => h) (by rfl) ?hy5 (by assumption) ?rest5
    case hy5 =>
      intro w hSw
      try dsimp only at hSw
      go_simp
      try with_reducible rfl
    try simp only [Act.put, List.setIfInBounds_toArray, List.set_cons_zero, List.set_cons_succ]
    refine wpAnyH_ready (rs := [2, 6, 7]) (by kernel_rfl) (by simp) ?_
    refine AllReadyH.cons rfl (fun K hK => ?_) ?_
    · go_simp
      go_at_call 20
      refine (HJL.out _).mono ?_
      rintro e v1 ⟨rfl, hb⟩
      replace hx := hx.below hb
      replace hy := hy.below hb
      replace hz := hz.below hb
      replace hb0 := hb0.trans (hb.mono hb0.size)
      clear hb
      refine hK.out _ _ ⟨has_vec hx, has_vec hy⟩ (fun hHeld => ?_)
      clear hK K
      try simp only [Act.put, List.setIfInBounds_toArray, List.set_cons_zero, List.set_cons_succ]
      refine wpAnyH_ready (rs := [5, 6, 7]) (by kernel_rfl) (by simp) ?_
      refine AllReadyH.cons rfl (fun K hK => ?_) ?_
      · go_simp
        go_at_call 22
        refine (HML.out _).mono ?_
        rintro e v2 ⟨rfl, hb⟩
        replace hx := hx.below hb
        replace hy := hy.below hb
        replace hz := hz.below hb
        replace hb0 := hb0.trans (hb.mono hb0.size)
        clear hb
        refine hK.out _ _ ⟨has_vec hx, has_vec hy⟩ (fun hHeld => ?_)
        clear hK K
        try simp only [Act.put, List.setIfInBounds_toArray, List.set_cons_zero, List.set_cons_succ]
        refine wpAnyH_ready (rs := [6, 7]) (by kernel_rfl) (by simp) ?_
        refine AllReadyH.cons rfl (fun K hK => ?_) ?_
        · go_simp
          have hpjx := Nat.ne_of_lt hx.bound
          have hpjy := Nat.ne_of_lt hy.bound
          have hpjz := Nat.ne_of_lt hz.bound
          have hsj := hb0.size
          replace hx := hx.past (.cells #[.int .i64 0, .int .i64 0, .int .i64 0, .int .i64 0, .int .i64 0, .int .i64 0, .int .i64 0, .int .i64 0] 25)
          replace hy := hy.past (.cells #[.int .i64 0, .int .i64 0, .int .i64 0, .int .i64 0, .int .i64 0, .int .i64 0, .int .i64 0, .int .i64 0] 25)
          replace hz := hz.past (.cells #[.int .i64 0, .int .i64 0, .int .i64 0, .int .i64 0, .int .i64 0, .int .i64 0, .int .i64 0, .int .i64 0] 25)
          replace hb0 := hb0.alloc hb0.size (.cells #[.int .i64 0, .int .i64 0, .int .i64 0, .int .i64 0, .int .i64 0, .int .i64 0, .int .i64 0, .int .i64 0] 25)
          have hj := Has.fresh v2 25 #[.int .i64 0, .int .i64 0, .int .i64 0, .int .i64 0, .int .i64 0, .int .i64 0, .int .i64 0, .int .i64 0]
          refine hK.out _ _ ⟨has_vec hx, has_vec hy⟩ (fun hHeld => ?_)
          clear hK K
          try simp only [Act.put, List.setIfInBounds_toArray, List.set_cons_zero, List.set_cons_succ]
          generalize v2.alloc (.cells #[.int .i64 0, .int .i64 0, .int .i64 0, .int .i64 0, .int .i64 0, .int .i64 0, .int .i64 0, .int .i64 0] 25) = v3 at *
          refine wpAnyH_ready (rs := [7]) (by kernel_rfl) (by simp) ?_
          refine AllReadyH.cons rfl (fun K hK => ?_) ?_
          · go_simp
            have hpmx := Nat.ne_of_lt hx.bound
            have hpmy := Nat.ne_of_lt hy.bound
            have hpmz := Nat.ne_of_lt hz.bound
            have hpmj := Nat.ne_of_lt hj.bound
            have hsm := hb0.size
            replace hx := hx.past (.cells #[.int .i64 0, .int .i64 0, .int .i64 0, .int .i64 0, .int .i64 0, .int .i64 0, .int .i64 0, .int .i64 0] 25)
            replace hy := hy.past (.cells #[.int .i64 0, .int .i64 0, .int .i64 0, .int .i64 0, .int .i64 0, .int .i64 0, .int .i64 0, .int .i64 0] 25)
            replace hz := hz.past (.cells #[.int .i64 0, .int .i64 0, .int .i64 0, .int .i64 0, .int .i64 0, .int .i64 0, .int .i64 0, .int .i64 0] 25)
            replace hj := hj.past (.cells #[.int .i64 0, .int .i64 0, .int .i64 0, .int .i64 0, .int .i64 0, .int .i64 0, .int .i64 0, .int .i64 0] 25)
            replace hb0 := hb0.alloc hb0.size (.cells #[.int .i64 0, .int .i64 0, .int .i64 0, .int .i64 0, .int .i64 0, .int .i64 0, .int .i64 0, .int .i64 0] 25)
            have hm := Has.fresh v3 25 #[.int .i64 0, .int .i64 0, .int .i64 0, .int .i64 0, .int .i64 0, .int .i64 0, .int .i64 0, .int .i64 0]
            refine hK.out _ _ ⟨has_vec hx, has_vec hy⟩ (fun hHeld => ?_)
            clear hK K
            try simp only [Act.put, List.setIfInBounds_toArray, List.set_cons_zero, List.set_cons_succ]
            generalize v3.alloc (.cells #[.int .i64 0, .int .i64 0, .int .i64 0, .int .i64 0, .int .i64 0, .int .i64 0, .int .i64 0, .int .i64 0] 25) = v4 at *
            refine wpAnyH_ready (rs := [8]) (by kernel_rfl) (by simp) ?_
            refine AllReadyH.cons rfl (fun K hK => ?_) ?_
            · obtain ⟨c0, c1, c2, c3, c4, c5, c6, c7⟩ := has_vec (x := nil8) hj
              have ff := fun i => hj.free i
              go_simp
              have gj := Has.put8 (z := nil8) hj J
              have gx := Has.keep8 hx hpjx J
              have gy := Has.keep8 hy hpjy J
              have gz := Has.keep8 hz hpjz J
              have gm := Has.keep8 hm hpmj.symm J
              replace hb0 := below_put8 hb0 hsj J
              clear c0 c1 c2 c3 c4 c5 c6 c7 ff
              clear hx
              clear hy
              clear hz
              clear hj
              clear hm
              have hx := gx
              have hy := gy
              have hz := gz
              have hj := gj
              have hm := gm
              clear gx gy gz gj gm
              refine hK.out _ _ ⟨has_vec hx, has_vec hy⟩ (fun hHeld => ?_)
              clear hK K
              try simp only [Act.put, List.setIfInBounds_toArray, List.set_cons_zero, List.set_cons_succ]
              generalize ((((((((v4).setCell ⟨v2.heap.size, 0, none⟩ (.int .i64 (J 0))).setCell ⟨v2.heap.size, 1, none⟩ (.int .i64 (J 1))).setCell ⟨v2.heap.size, 2, none⟩ (.int .i64 (J 2))).setCell ⟨v2.heap.size, 3, none⟩ (.int .i64 (J 3))).setCell ⟨v2.heap.size, 4, none⟩ (.int .i64 (J 4))).setCell ⟨v2.heap.size, 5, none⟩ (.int .i64 (J 5))).setCell ⟨v2.heap.size, 6, none⟩ (.int .i64 (J 6))).setCell ⟨v2.heap.size, 7, none⟩ (.int .i64 (J 7)) = v5 at *
              refine wpAnyH_ready (rs := [9]) (by kernel_rfl) (by simp) ?_
              refine AllReadyH.cons rfl (fun K hK => ?_) ?_
              · obtain ⟨c0, c1, c2, c3, c4, c5, c6, c7⟩ := has_vec (x := nil8) hm
                have ff := fun i => hm.free i
                go_simp
                have gm := Has.put8 (z := nil8) hm M
                have gx := Has.keep8 hx hpmx M
                have gy := Has.keep8 hy hpmy M
                have gz := Has.keep8 hz hpmz M
                have gj := Has.keep8 hj hpmj M
                replace hb0 := below_put8 hb0 hsm M
                clear c0 c1 c2 c3 c4 c5 c6 c7 ff
                clear hx
                clear hy
                clear hz
                clear hj
                clear hm
                have hx := gx
                have hy := gy
                have hz := gz
                have hj := gj
                have hm := gm
                clear gx gy gz gj gm
                refine hK.out _ _ ⟨has_vec hx, has_vec hy⟩ (fun hHeld => ?_)
                clear hK K
                try simp only [Act.put, List.setIfInBounds_toArray, List.set_cons_zero, List.set_cons_succ]
                generalize ((((((((v5).setCell ⟨v3.heap.size, 0, none⟩ (.int .i64 (M 0))).setCell ⟨v3.heap.size, 1, none⟩ (.int .i64 (M 1))).setCell ⟨v3.heap.size, 2, none⟩ (.int .i64 (M 2))).setCell ⟨v3.heap.size, 3, none⟩ (.int .i64 (M 3))).setCell ⟨v3.heap.size, 4, none⟩ (.int .i64 (M 4))).setCell ⟨v3.heap.size, 5, none⟩ (.int .i64 (M 5))).setCell ⟨v3.heap.size, 6, none⟩ (.int .i64 (M 6))).setCell ⟨v3.heap.size, 7, none⟩ (.int .i64 (M 7)) = v6 at *
                refine wpAnyH_done (by kernel_rfl) ?_ _
                go_wp2_with fail
                go_meet
                exact ⟨v2.heap.size, v3.heap.size, rfl, rfl, hj, hm, hx, hy, hz, hb0⟩
              exact AllReadyH.nil
            exact AllReadyH.nil
          exact AllReadyH.nil
        refine AllReadyH.cons rfl (fun K hK => ?_) ?_
        · go_simp
          have hpmx := Nat.ne_of_lt hx.bound
          have hpmy := Nat.ne_of_lt hy.bound
          have hpmz := Nat.ne_of_lt hz.bound
          have hsm := hb0.size
          replace hx := hx.past (.cells #[.int .i64 0, .int .i64 0, .int .i64 0, .int .i64 0, .int .i64 0, .int .i64 0, .int .i64 0, .int .i64 0] 25)
          replace hy := hy.past (.cells #[.int .i64 0, .int .i64 0, .int .i64 0, .int .i64 0, .int .i64 0, .int .i64 0, .int .i64 0, .int .i64 0] 25)
          replace hz := hz.past (.cells #[.int .i64 0, .int .i64 0, .int .i64 0, .int .i64 0, .int .i64 0, .int .i64 0, .int .i64 0, .int .i64 0] 25)
          replace hb0 := hb0.alloc hb0.size (.cells #[.int .i64 0, .int .i64 0, .int .i64 0, .int .i64 0, .int .i64 0, .int .i64 0, .int .i64 0, .int .i64 0] 25)
          have hm := Has.fresh v2 25 #[.int .i64 0, .int .i64 0, .int .i64 0, .int .i64 0, .int .i64 0, .int .i64 0, .int .i64 0, .int .i64 0]
          refine hK.out _ _ ⟨has_vec hx, has_vec hy⟩ (fun hHeld => ?_)
          clear hK K
          try simp only [Act.put, List.setIfInBounds_toArray, List.set_cons_zero, List.set_cons_succ]
          generalize v2.alloc (.cells #[.int .i64 0, .int .i64 0, .int .i64 0, .int .i64 0, .int .i64 0, .int .i64 0, .int .i64 0, .int .i64 0] 25) = v7 at *
          refine wpAnyH_ready (rs := [6]) (by kernel_rfl) (by simp) ?_
          refine AllReadyH.cons rfl (fun K hK => ?_) ?_
          · go_simp
            have hpjx := Nat.ne_of_lt hx.bound
            have hpjy := Nat.ne_of_lt hy.bound
            have hpjz := Nat.ne_of_lt hz.bound
            have hpjm := Nat.ne_of_lt hm.bound
            have hsj := hb0.size
            replace hx := hx.past (.cells #[.int .i64 0, .int .i64 0, .int .i64 0, .int .i64 0, .int .i64 0, .int .i64 0, .int .i64 0, .int .i64 0] 25)
            replace hy := hy.past (.cells #[.int .i64 0, .int .i64 0, .int .i64 0, .int .i64 0, .int .i64 0, .int .i64 0, .int .i64 0, .int .i64 0] 25)
            replace hz := hz.past (.cells #[.int .i64 0, .int .i64 0, .int .i64 0, .int .i64 0, .int .i64 0, .int .i64 0, .int .i64 0, .int .i64 0] 25)
            replace hm := hm.past (.cells #[.int .i64 0, .int .i64 0, .int .i64 0, .int .i64 0, .int .i64 0, .int .i64 0, .int .i64 0, .int .i64 0] 25)
            replace hb0 := hb0.alloc hb0.size (.cells #[.int .i64 0, .int .i64 0, .int .i64 0, .int .i64 0, .int .i64 0, .int .i64 0, .int .i64 0, .int .i64 0] 25)
            have hj := Has.fresh v7 25 #[.int .i64 0, .int .i64 0, .int .i64 0, .int .i64 0, .int .i64 0, .int .i64 0, .int .i64 0, .int .i64 0]
            refine hK.out _ _ ⟨has_vec hx, has_vec hy⟩ (fun hHeld => ?_)
            clear hK K
            try simp only [Act.put, List.setIfInBounds_toArray, List.set_cons_zero, List.set_cons_succ]
            generalize v7.alloc (.cells #[.int .i64 0, .int .i64 0, .int .i64 0, .int .i64 0, .int .i64 0, .int .i64 0, .int .i64 0, .int .i64 0] 25) = v8 at *
            refine wpAnyH_ready (rs := [8]) (by kernel_rfl) (by simp) ?_
            refine AllReadyH.cons rfl (fun K hK => ?_) ?_
            · obtain ⟨c0, c1, c2, c3, c4, c5, c6, c7⟩ := has_vec (x := nil8) hj
              have ff := fun i => hj.free i
              go_simp
              have gj := Has.put8 (z := nil8) hj J
              have gx := Has.keep8 hx hpjx J
              have gy := Has.keep8 hy hpjy J
              have gz := Has.keep8 hz hpjz J
              have gm := Has.keep8 hm hpjm J
              replace hb0 := below_put8 hb0 hsj J
              clear c0 c1 c2 c3 c4 c5 c6 c7 ff
              clear hx
              clear hy
              clear hz
              clear hj
              clear hm
              have hx := gx
              have hy := gy
              have hz := gz
              have hj := gj
              have hm := gm
              clear gx gy gz gj gm
              refine hK.out _ _ ⟨has_vec hx, has_vec hy⟩ (fun hHeld => ?_)
              clear hK K
              try simp only [Act.put, List.setIfInBounds_toArray, List.set_cons_zero, List.set_cons_succ]
              generalize ((((((((v8).setCell ⟨v7.heap.size, 0, none⟩ (.int .i64 (J 0))).setCell ⟨v7.heap.size, 1, none⟩ (.int .i64 (J 1))).setCell ⟨v7.heap.size, 2, none⟩ (.int .i64 (J 2))).setCell ⟨v7.heap.size, 3, none⟩ (.int .i64 (J 3))).setCell ⟨v7.heap.size, 4, none⟩ (.int .i64 (J 4))).setCell ⟨v7.heap.size, 5, none⟩ (.int .i64 (J 5))).setCell ⟨v7.heap.size, 6, none⟩ (.int .i64 (J 6))).setCell ⟨v7.heap.size, 7, none⟩ (.int .i64 (J 7)) = v9 at *
              refine wpAnyH_ready (rs := [9]) (by kernel_rfl) (by simp) ?_
              refine AllReadyH.cons rfl (fun K hK => ?_) ?_
              · obtain ⟨c0, c1, c2, c3, c4, c5, c6, c7⟩ := has_vec (x := nil8) hm
                have ff := fun i => hm.free i
                go_simp
                have gm := Has.put8 (z := nil8) hm M
                have gx := Has.keep8 hx hpmx M
                have gy := Has.keep8 hy hpmy M
                have gz := Has.keep8 hz hpmz M
                have gj := Has.keep8 hj hpjm.symm M
                replace hb0 := below_put8 hb0 hsm M
                clear c0 c1 c2 c3 c4 c5 c6 c7 ff
                clear hx
                clear hy
                clear hz
                clear hj
                clear hm
                have hx := gx
                have hy := gy
                have hz := gz
                have hj := gj
                have hm := gm
                clear gx gy gz gj gm
                refine hK.out _ _ ⟨has_vec hx, has_vec hy⟩ (fun hHeld => ?_)
                clear hK K
                try simp only [Act.put, List.setIfInBounds_toArray, List.set_cons_zero, List.set_cons_succ]
                generalize ((((((((v9).setCell ⟨v2.heap.size, 0, none⟩ (.int .i64 (M 0))).setCell ⟨v2.heap.size, 1, none⟩ (.int .i64 (M 1))).setCell ⟨v2.heap.size, 2, none⟩ (.int .i64 (M 2))).setCell ⟨v2.heap.size, 3, none⟩ (.int .i64 (M 3))).setCell ⟨v2.heap.size, 4, none⟩ (.int .i64 (M 4))).setCell ⟨v2.heap.size, 5, none⟩ (.int .i64 (M 5))).setCell ⟨v2.heap.size, 6, none⟩ (.int .i64 (M 6))).setCell ⟨v2.heap.size, 7, none⟩ (.int .i64 (M 7)) = v10 at *
                refine wpAnyH_done (by kernel_rfl) ?_ _
                go_wp2_with fail
                go_meet
                exact ⟨v7.heap.size, v2.heap.size, rfl, rfl, hj, hm, hx, hy, hz, hb0⟩
              exact AllReadyH.nil
            exact AllReadyH.nil
          exact AllReadyH.nil
        exact AllReadyH.nil
      refine AllReadyH.cons rfl (fun K hK => ?_) ?_
      · go_simp
        have hpjx := Nat.ne_of_lt hx.bound
        have hpjy := Nat.ne_of_lt hy.bound
        have hpjz := Nat.ne_of_lt hz.bound
        have hsj := hb0.size
        replace hx := hx.past (.cells #[.int .i64 0, .int .i64 0, .int .i64 0, .int .i64 0, .int .i64 0, .int .i64 0, .int .i64 0, .int .i64 0] 25)
        replace hy := hy.past (.cells #[.int .i64 0, .int .i64 0, .int .i64 0, .int .i64 0, .int .i64 0, .int .i64 0, .int .i64 0, .int .i64 0] 25)
        replace hz := hz.past (.cells #[.int .i64 0, .int .i64 0, .int .i64 0, .int .i64 0, .int .i64 0, .int .i64 0, .int .i64 0, .int .i64 0] 25)
        replace hb0 := hb0.alloc hb0.size (.cells #[.int .i64 0, .int .i64 0, .int .i64 0, .int .i64 0, .int .i64 0, .int .i64 0, .int .i64 0, .int .i64 0] 25)
        have hj := Has.fresh v1 25 #[.int .i64 0, .int .i64 0, .int .i64 0, .int .i64 0, .int .i64 0, .int .i64 0, .int .i64 0, .int .i64 0]
        refine hK.out _ _ ⟨has_vec hx, has_vec hy⟩ (fun hHeld => ?_)
        clear hK K
        try simp only [Act.put, List.setIfInBounds_toArray, List.set_cons_zero, List.set_cons_succ]
        generalize v1.alloc (.cells #[.int .i64 0, .int .i64 0, .int .i64 0, .int .i64 0, .int .i64 0, .int .i64 0, .int .i64 0, .int .i64 0] 25) = v11 at *
        refine wpAnyH_ready (rs := [5, 7]) (by kernel_rfl) (by simp) ?_
        refine AllReadyH.cons rfl (fun K hK => ?_) ?_
        · go_simp
          go_at_call 22
          refine (HML.out _).mono ?_
          rintro e v12 ⟨rfl, hb⟩
          replace hx := hx.below hb
          replace hy := hy.below hb
          replace hz := hz.below hb
          replace hj := hj.below hb
          replace hb0 := hb0.trans (hb.mono hb0.size)
          clear hb
          refine hK.out _ _ ⟨has_vec hx, has_vec hy⟩ (fun hHeld => ?_)
          clear hK K
          try simp only [Act.put, List.setIfInBounds_toArray, List.set_cons_zero, List.set_cons_succ]
          refine wpAnyH_ready (rs := [7]) (by kernel_rfl) (by simp) ?_
          refine AllReadyH.cons rfl (fun K hK => ?_) ?_
          · go_simp
            have hpmx := Nat.ne_of_lt hx.bound
            have hpmy := Nat.ne_of_lt hy.bound
            have hpmz := Nat.ne_of_lt hz.bound
            have hpmj := Nat.ne_of_lt hj.bound
            have hsm := hb0.size
            replace hx := hx.past (.cells #[.int .i64 0, .int .i64 0, .int .i64 0, .int .i64 0, .int .i64 0, .int .i64 0, .int .i64 0, .int .i64 0] 25)
            replace hy := hy.past (.cells #[.int .i64 0, .int .i64 0, .int .i64 0, .int .i64 0, .int .i64 0, .int .i64 0, .int .i64 0, .int .i64 0] 25)
            replace hz := hz.past (.cells #[.int .i64 0, .int .i64 0, .int .i64 0, .int .i64 0, .int .i64 0, .int .i64 0, .int .i64 0, .int .i64 0] 25)
            replace hj := hj.past (.cells #[.int .i64 0, .int .i64 0, .int .i64 0, .int .i64 0, .int .i64 0, .int .i64 0, .int .i64 0, .int .i64 0] 25)
            replace hb0 := hb0.alloc hb0.size (.cells #[.int .i64 0, .int .i64 0, .int .i64 0, .int .i64 0, .int .i64 0, .int .i64 0, .int .i64 0, .int .i64 0] 25)
            have hm := Has.fresh v12 25 #[.int .i64 0, .int .i64 0, .int .i64 0, .int .i64 0, .int .i64 0, .int .i64 0, .int .i64 0, .int .i64 0]
            refine hK.out _ _ ⟨has_vec hx, has_vec hy⟩ (fun hHeld => ?_)
            clear hK K
            try simp only [Act.put, List.setIfInBounds_toArray, List.set_cons_zero, List.set_cons_succ]
            generalize v12.alloc (.cells #[.int .i64 0, .int .i64 0, .int .i64 0, .int .i64 0, .int .i64 0, .int .i64 0, .int .i64 0, .int .i64 0] 25) = v13 at *
            refine wpAnyH_ready (rs := [8]) (by kernel_rfl) (by simp) ?_
            refine AllReadyH.cons rfl (fun K hK => ?_) ?_
            · obtain ⟨c0, c1, c2, c3, c4, c5, c6, c7⟩ := has_vec (x := nil8) hj
              have ff := fun i => hj.free i
              go_simp
              have gj := Has.put8 (z := nil8) hj J
              have gx := Has.keep8 hx hpjx J
              have gy := Has.keep8 hy hpjy J
              have gz := Has.keep8 hz hpjz J
              have gm := Has.keep8 hm hpmj.symm J
              replace hb0 := below_put8 hb0 hsj J
              clear c0 c1 c2 c3 c4 c5 c6 c7 ff
              clear hx
              clear hy
              clear hz
              clear hj
              clear hm
              have hx := gx
              have hy := gy
              have hz := gz
              have hj := gj
              have hm := gm
              clear gx gy gz gj gm
              refine hK.out _ _ ⟨has_vec hx, has_vec hy⟩ (fun hHeld => ?_)
              clear hK K
              try simp only [Act.put, List.setIfInBounds_toArray, List.set_cons_zero, List.set_cons_succ]
              generalize ((((((((v13).setCell ⟨v1.heap.size, 0, none⟩ (.int .i64 (J 0))).setCell ⟨v1.heap.size, 1, none⟩ (.int .i64 (J 1))).setCell ⟨v1.heap.size, 2, none⟩ (.int .i64 (J 2))).setCell ⟨v1.heap.size, 3, none⟩ (.int .i64 (J 3))).setCell ⟨v1.heap.size, 4, none⟩ (.int .i64 (J 4))).setCell ⟨v1.heap.size, 5, none⟩ (.int .i64 (J 5))).setCell ⟨v1.heap.size, 6, none⟩ (.int .i64 (J 6))).setCell ⟨v1.heap.size, 7, none⟩ (.int .i64 (J 7)) = v14 at *
              refine wpAnyH_ready (rs := [9]) (by kernel_rfl) (by simp) ?_
              refine AllReadyH.cons rfl (fun K hK => ?_) ?_
              · obtain ⟨c0, c1, c2, c3, c4, c5, c6, c7⟩ := has_vec (x := nil8) hm
                have ff := fun i => hm.free i
                go_simp
                have gm := Has.put8 (z := nil8) hm M
                have gx := Has.keep8 hx hpmx M
                have gy := Has.keep8 hy hpmy M
                have gz := Has.keep8 hz hpmz M
                have gj := Has.keep8 hj hpmj M
                replace hb0 := below_put8 hb0 hsm M
                clear c0 c1 c2 c3 c4 c5 c6 c7 ff
                clear hx
                clear hy
                clear hz
                clear hj
                clear hm
                have hx := gx
                have hy := gy
                have hz := gz
                have hj := gj
                have hm := gm
                clear gx gy gz gj gm
                refine hK.out _ _ ⟨has_vec hx, has_vec hy⟩ (fun hHeld => ?_)
                clear hK K
                try simp only [Act.put, List.setIfInBounds_toArray, List.set_cons_zero, List.set_cons_succ]
                generalize ((((((((v14).setCell ⟨v12.heap.size, 0, none⟩ (.int .i64 (M 0))).setCell ⟨v12.heap.size, 1, none⟩ (.int .i64 (M 1))).setCell ⟨v12.heap.size, 2, none⟩ (.int .i64 (M 2))).setCell ⟨v12.heap.size, 3, none⟩ (.int .i64 (M 3))).setCell ⟨v12.heap.size, 4, none⟩ (.int .i64 (M 4))).setCell ⟨v12.heap.size, 5, none⟩ (.int .i64 (M 5))).setCell ⟨v12.heap.size, 6, none⟩ (.int .i64 (M 6))).setCell ⟨v12.heap.size, 7, none⟩ (.int .i64 (M 7)) = v15 at *
                refine wpAnyH_done (by kernel_rfl) ?_ _
                go_wp2_with fail
                go_meet
                exact ⟨v1.heap.size, v12.heap.size, rfl, rfl, hj, hm, hx, hy, hz, hb0⟩
              exact AllReadyH.nil
            exact AllReadyH.nil
          exact AllReadyH.nil
        refine AllReadyH.cons rfl (fun K hK => ?_) ?_
        · go_simp
          have hpmx := Nat.ne_of_lt hx.bound
          have hpmy := Nat.ne_of_lt hy.bound
          have hpmz := Nat.ne_of_lt hz.bound
          have hpmj := Nat.ne_of_lt hj.bound
          have hsm := hb0.size
          replace hx := hx.past (.cells #[.int .i64 0, .int .i64 0, .int .i64 0, .int .i64 0, .int .i64 0, .int .i64 0, .int .i64 0, .int .i64 0] 25)
          replace hy := hy.past (.cells #[.int .i64 0, .int .i64 0, .int .i64 0, .int .i64 0, .int .i64 0, .int .i64 0, .int .i64 0, .int .i64 0] 25)
          replace hz := hz.past (.cells #[.int .i64 0, .int .i64 0, .int .i64 0, .int .i64 0, .int .i64 0, .int .i64 0, .int .i64 0, .int .i64 0] 25)
          replace hj := hj.past (.cells #[.int .i64 0, .int .i64 0, .int .i64 0, .int .i64 0, .int .i64 0, .int .i64 0, .int .i64 0, .int .i64 0] 25)
          replace hb0 := hb0.alloc hb0.size (.cells #[.int .i64 0, .int .i64 0, .int .i64 0, .int .i64 0, .int .i64 0, .int .i64 0, .int .i64 0, .int .i64 0] 25)
          have hm := Has.fresh v11 25 #[.int .i64 0, .int .i64 0, .int .i64 0, .int .i64 0, .int .i64 0, .int .i64 0, .int .i64 0, .int .i64 0]
          refine hK.out _ _ ⟨has_vec hx, has_vec hy⟩ (fun hHeld => ?_)
          clear hK K
          try simp only [Act.put, List.setIfInBounds_toArray, List.set_cons_zero, List.set_cons_succ]
          generalize v11.alloc (.cells #[.int .i64 0, .int .i64 0, .int .i64 0, .int .i64 0, .int .i64 0, .int .i64 0, .int .i64 0, .int .i64 0] 25) = v16 at *
          refine wpAnyH_ready (rs := [5]) (by kernel_rfl) (by simp) ?_
          refine AllReadyH.cons rfl (fun K hK => ?_) ?_
          · go_simp
            go_at_call 22
            refine (HML.out _).mono ?_
            rintro e v17 ⟨rfl, hb⟩
            replace hx := hx.below hb
            replace hy := hy.below hb
            replace hz := hz.below hb
            replace hj := hj.below hb
            replace hm := hm.below hb
            replace hb0 := hb0.trans (hb.mono hb0.size)
            clear hb
            refine hK.out _ _ ⟨has_vec hx, has_vec hy⟩ (fun hHeld => ?_)
            clear hK K
            try simp only [Act.put, List.setIfInBounds_toArray, List.set_cons_zero, List.set_cons_succ]
            refine wpAnyH_ready (rs := [8]) (by kernel_rfl) (by simp) ?_
            refine AllReadyH.cons rfl (fun K hK => ?_) ?_
            · obtain ⟨c0, c1, c2, c3, c4, c5, c6, c7⟩ := has_vec (x := nil8) hj
              have ff := fun i => hj.free i
              go_simp
              have gj := Has.put8 (z := nil8) hj J
              have gx := Has.keep8 hx hpjx J
              have gy := Has.keep8 hy hpjy J
              have gz := Has.keep8 hz hpjz J
              have gm := Has.keep8 hm hpmj.symm J
              replace hb0 := below_put8 hb0 hsj J
              clear c0 c1 c2 c3 c4 c5 c6 c7 ff
              clear hx
              clear hy
              clear hz
              clear hj
              clear hm
              have hx := gx
              have hy := gy
              have hz := gz
              have hj := gj
              have hm := gm
              clear gx gy gz gj gm
              refine hK.out _ _ ⟨has_vec hx, has_vec hy⟩ (fun hHeld => ?_)
              clear hK K
              try simp only [Act.put, List.setIfInBounds_toArray, List.set_cons_zero, List.set_cons_succ]
              generalize ((((((((v17).setCell ⟨v1.heap.size, 0, none⟩ (.int .i64 (J 0))).setCell ⟨v1.heap.size, 1, none⟩ (.int .i64 (J 1))).setCell ⟨v1.heap.size, 2, none⟩ (.int .i64 (J 2))).setCell ⟨v1.heap.size, 3, none⟩ (.int .i64 (J 3))).setCell ⟨v1.heap.size, 4, none⟩ (.int .i64 (J 4))).setCell ⟨v1.heap.size, 5, none⟩ (.int .i64 (J 5))).setCell ⟨v1.heap.size, 6, none⟩ (.int .i64 (J 6))).setCell ⟨v1.heap.size, 7, none⟩ (.int .i64 (J 7)) = v18 at *
              refine wpAnyH_ready (rs := [9]) (by kernel_rfl) (by simp) ?_
              refine AllReadyH.cons rfl (fun K hK => ?_) ?_
              · obtain ⟨c0, c1, c2, c3, c4, c5, c6, c7⟩ := has_vec (x := nil8) hm
                have ff := fun i => hm.free i
                go_simp
                have gm := Has.put8 (z := nil8) hm M
                have gx := Has.keep8 hx hpmx M
                have gy := Has.keep8 hy hpmy M
                have gz := Has.keep8 hz hpmz M
                have gj := Has.keep8 hj hpmj M
                replace hb0 := below_put8 hb0 hsm M
                clear c0 c1 c2 c3 c4 c5 c6 c7 ff
                clear hx
                clear hy
                clear hz
                clear hj
                clear hm
                have hx := gx
                have hy := gy
                have hz := gz
                have hj := gj
                have hm := gm
                clear gx gy gz gj gm
                refine hK.out _ _ ⟨has_vec hx, has_vec hy⟩ (fun hHeld => ?_)
                clear hK K
                try simp only [Act.put, List.setIfInBounds_toArray, List.set_cons_zero, List.set_cons_succ]
                generalize ((((((((v18).setCell ⟨v11.heap.size, 0, none⟩ (.int .i64 (M 0))).setCell ⟨v11.heap.size, 1, none⟩ (.int .i64 (M 1))).setCell ⟨v11.heap.size, 2, none⟩ (.int .i64 (M 2))).setCell ⟨v11.heap.size, 3, none⟩ (.int .i64 (M 3))).setCell ⟨v11.heap.size, 4, none⟩ (.int .i64 (M 4))).setCell ⟨v11.heap.size, 5, none⟩ (.int .i64 (M 5))).setCell ⟨v11.heap.size, 6, none⟩ (.int .i64 (M 6))).setCell ⟨v11.heap.size, 7, none⟩ (.int .i64 (M 7)) = v19 at *
                refine wpAnyH_done (by kernel_rfl) ?_ _
                go_wp2_with fail
                go_meet
                exact ⟨v1.heap.size, v11.heap.size, rfl, rfl, hj, hm, hx, hy, hz, hb0⟩
              exact AllReadyH.nil
            exact AllReadyH.nil
          exact AllReadyH.nil
        exact AllReadyH.nil
      refine AllReadyH.cons rfl (fun K hK => ?_) ?_
      · go_simp
        have hpmx := Nat.ne_of_lt hx.bound
        have hpmy := Nat.ne_of_lt hy.bound
        have hpmz := Nat.ne_of_lt hz.bound
        have hsm := hb0.size
        replace hx := hx.past (.cells #[.int .i64 0, .int .i64 0, .int .i64 0, .int .i64 0, .int .i64 0, .int .i64 0, .int .i64 0, .int .i64 0] 25)
        replace hy := hy.past (.cells #[.int .i64 0, .int .i64 0, .int .i64 0, .int .i64 0, .int .i64 0, .int .i64 0, .int .i64 0, .int .i64 0] 25)
        replace hz := hz.past (.cells #[.int .i64 0, .int .i64 0, .int .i64 0, .int .i64 0, .int .i64 0, .int .i64 0, .int .i64 0, .int .i64 0] 25)
        replace hb0 := hb0.alloc hb0.size (.cells #[.int .i64 0, .int .i64 0, .int .i64 0, .int .i64 0, .int .i64 0, .int .i64 0, .int .i64 0, .int .i64 0] 25)
        have hm := Has.fresh v1 25 #[.int .i64 0, .int .i64 0, .int .i64 0, .int .i64 0, .int .i64 0, .int .i64 0, .int .i64 0, .int .i64 0]
        refine hK.out _ _ ⟨has_vec hx, has_vec hy⟩ (fun hHeld => ?_)
        clear hK K
        try simp only [Act.put, List.setIfInBounds_toArray, List.set_cons_zero, List.set_cons_succ]
        generalize v1.alloc (.cells #[.int .i64 0, .int .i64 0, .int .i64 0, .int .i64 0, .int .i64 0, .int .i64 0, .int .i64 0, .int .i64 0] 25) = v20 at *
        refine wpAnyH_ready (rs := [5, 6]) (by kernel_rfl) (by simp) ?_
        refine AllReadyH.cons rfl (fun K hK => ?_) ?_
        · go_simp
          go_at_call 22
          refine (HML.out _).mono ?_
          rintro e v21 ⟨rfl, hb⟩
          replace hx := hx.below hb
          replace hy := hy.below hb
          replace hz := hz.below hb
          replace hm := hm.below hb
          replace hb0 := hb0.trans (hb.mono hb0.size)
          clear hb
          refine hK.out _ _ ⟨has_vec hx, has_vec hy⟩ (fun hHeld => ?_)
          clear hK K
          try simp only [Act.put, List.setIfInBounds_toArray, List.set_cons_zero, List.set_cons_succ]
          refine wpAnyH_ready (rs := [6]) (by kernel_rfl) (by simp) ?_
          refine AllReadyH.cons rfl (fun K hK => ?_) ?_
          · go_simp
            have hpjx := Nat.ne_of_lt hx.bound
            have hpjy := Nat.ne_of_lt hy.bound
            have hpjz := Nat.ne_of_lt hz.bound
            have hpjm := Nat.ne_of_lt hm.bound
            have hsj := hb0.size
            replace hx := hx.past (.cells #[.int .i64 0, .int .i64 0, .int .i64 0, .int .i64 0, .int .i64 0, .int .i64 0, .int .i64 0, .int .i64 0] 25)
            replace hy := hy.past (.cells #[.int .i64 0, .int .i64 0, .int .i64 0, .int .i64 0, .int .i64 0, .int .i64 0, .int .i64 0, .int .i64 0] 25)
            replace hz := hz.past (.cells #[.int .i64 0, .int .i64 0, .int .i64 0, .int .i64 0, .int .i64 0, .int .i64 0, .int .i64 0, .int .i64 0] 25)
            replace hm := hm.past (.cells #[.int .i64 0, .int .i64 0, .int .i64 0, .int .i64 0, .int .i64 0, .int .i64 0, .int .i64 0, .int .i64 0] 25)
            replace hb0 := hb0.alloc hb0.size (.cells #[.int .i64 0, .int .i64 0, .int .i64 0, .int .i64 0, .int .i64 0, .int .i64 0, .int .i64 0, .int .i64 0] 25)
            have hj := Has.fresh v21 25 #[.int .i64 0, .int .i64 0, .int .i64 0, .int .i64 0, .int .i64 0, .int .i64 0, .int .i64 0, .int .i64 0]
            refine hK.out _ _ ⟨has_vec hx, has_vec hy⟩ (fun hHeld => ?_)
            clear hK K
            try simp only [Act.put, List.setIfInBounds_toArray, List.set_cons_zero, List.set_cons_succ]
            generalize v21.alloc (.cells #[.int .i64 0, .int .i64 0, .int .i64 0, .int .i64 0, .int .i64 0, .int .i64 0, .int .i64 0, .int .i64 0] 25) = v22 at *
            refine wpAnyH_ready (rs := [8]) (by kernel_rfl) (by simp) ?_
            refine AllReadyH.cons rfl (fun K hK => ?_) ?_
            · obtain ⟨c0, c1, c2, c3, c4, c5, c6, c7⟩ := has_vec (x := nil8) hj
              have ff := fun i => hj.free i
              go_simp
              have gj := Has.put8 (z := nil8) hj J
              have gx := Has.keep8 hx hpjx J
              have gy := Has.keep8 hy hpjy J
              have gz := Has.keep8 hz hpjz J
              have gm := Has.keep8 hm hpjm J
              replace hb0 := below_put8 hb0 hsj J
              clear c0 c1 c2 c3 c4 c5 c6 c7 ff
              clear hx
              clear hy
              clear hz
              clear hj
              clear hm
              have hx := gx
              have hy := gy
              have hz := gz
              have hj := gj
              have hm := gm
              clear gx gy gz gj gm
              refine hK.out _ _ ⟨has_vec hx, has_vec hy⟩ (fun hHeld => ?_)
              clear hK K
              try simp only [Act.put, List.setIfInBounds_toArray, List.set_cons_zero, List.set_cons_succ]
              generalize ((((((((v22).setCell ⟨v21.heap.size, 0, none⟩ (.int .i64 (J 0))).setCell ⟨v21.heap.size, 1, none⟩ (.int .i64 (J 1))).setCell ⟨v21.heap.size, 2, none⟩ (.int .i64 (J 2))).setCell ⟨v21.heap.size, 3, none⟩ (.int .i64 (J 3))).setCell ⟨v21.heap.size, 4, none⟩ (.int .i64 (J 4))).setCell ⟨v21.heap.size, 5, none⟩ (.int .i64 (J 5))).setCell ⟨v21.heap.size, 6, none⟩ (.int .i64 (J 6))).setCell ⟨v21.heap.size, 7, none⟩ (.int .i64 (J 7)) = v23 at *
              refine wpAnyH_ready (rs := [9]) (by kernel_rfl) (by simp) ?_
              refine AllReadyH.cons rfl (fun K hK => ?_) ?_
              · obtain ⟨c0, c1, c2, c3, c4, c5, c6, c7⟩ := has_vec (x := nil8) hm
                have ff := fun i => hm.free i
                go_simp
                have gm := Has.put8 (z := nil8) hm M
                have gx := Has.keep8 hx hpmx M
                have gy := Has.keep8 hy hpmy M
                have gz := Has.keep8 hz hpmz M
                have gj := Has.keep8 hj hpjm.symm M
                replace hb0 := below_put8 hb0 hsm M
                clear c0 c1 c2 c3 c4 c5 c6 c7 ff
                clear hx
                clear hy
                clear hz
                clear hj
                clear hm
                have hx := gx
                have hy := gy
                have hz := gz
                have hj := gj
                have hm := gm
                clear gx gy gz gj gm
                refine hK.out _ _ ⟨has_vec hx, has_vec hy⟩ (fun hHeld => ?_)
                clear hK K
                try simp only [Act.put, List.setIfInBounds_toArray, List.set_cons_zero, List.set_cons_succ]
                generalize ((((((((v23).setCell ⟨v1.heap.size, 0, none⟩ (.int .i64 (M 0))).setCell ⟨v1.heap.size, 1, none⟩ (.int .i64 (M 1))).setCell ⟨v1.heap.size, 2, none⟩ (.int .i64 (M 2))).setCell ⟨v1.heap.size, 3, none⟩ (.int .i64 (M 3))).setCell ⟨v1.heap.size, 4, none⟩ (.int .i64 (M 4))).setCell ⟨v1.heap.size, 5, none⟩ (.int .i64 (M 5))).setCell ⟨v1.heap.size, 6, none⟩ (.int .i64 (M 6))).setCell ⟨v1.heap.size, 7, none⟩ (.int .i64 (M 7)) = v24 at *
                refine wpAnyH_done (by kernel_rfl) ?_ _
                go_wp2_with fail
                go_meet
                exact ⟨v21.heap.size, v1.heap.size, rfl, rfl, hj, hm, hx, hy, hz, hb0⟩
              exact AllReadyH.nil
            exact AllReadyH.nil
          exact AllReadyH.nil
        refine AllReadyH.cons rfl (fun K hK => ?_) ?_
        · go_simp
          have hpjx := Nat.ne_of_lt hx.bound
          have hpjy := Nat.ne_of_lt hy.bound
          have hpjz := Nat.ne_of_lt hz.bound
          have hpjm := Nat.ne_of_lt hm.bound
          have hsj := hb0.size
          replace hx := hx.past (.cells #[.int .i64 0, .int .i64 0, .int .i64 0, .int .i64 0, .int .i64 0, .int .i64 0, .int .i64 0, .int .i64 0] 25)
          replace hy := hy.past (.cells #[.int .i64 0, .int .i64 0, .int .i64 0, .int .i64 0, .int .i64 0, .int .i64 0, .int .i64 0, .int .i64 0] 25)
          replace hz := hz.past (.cells #[.int .i64 0, .int .i64 0, .int .i64 0, .int .i64 0, .int .i64 0, .int .i64 0, .int .i64 0, .int .i64 0] 25)
          replace hm := hm.past (.cells #[.int .i64 0, .int .i64 0, .int .i64 0, .int .i64 0, .int .i64 0, .int .i64 0, .int .i64 0, .int .i64 0] 25)
          replace hb0 := hb0.alloc hb0.size (.cells #[.int .i64 0, .int .i64 0, .int .i64 0, .int .i64 0, .int .i64 0, .int .i64 0, .int .i64 0, .int .i64 0] 25)
          have hj := Has.fresh v20 25 #[.int .i64 0, .int .i64 0, .int .i64 0, .int .i64 0, .int .i64 0, .int .i64 0, .int .i64 0, .int .i64 0]
          refine hK.out _ _ ⟨has_vec hx, has_vec hy⟩ (fun hHeld => ?_)
          clear hK K
          try simp only [Act.put, List.setIfInBounds_toArray, List.set_cons_zero, List.set_cons_succ]
          generalize v20.alloc (.cells #[.int .i64 0, .int .i64 0, .int .i64 0, .int .i64 0, .int .i64 0, .int .i64 0, .int .i64 0, .int .i64 0] 25) = v25 at *
          refine wpAnyH_ready (rs := [5]) (by kernel_rfl) (by simp) ?_
          refine AllReadyH.cons rfl (fun K hK => ?_) ?_
          · go_simp
            go_at_call 22
            refine (HML.out _).mono ?_
            rintro e v26 ⟨rfl, hb⟩
            replace hx := hx.below hb
            replace hy := hy.below hb
            replace hz := hz.below hb
            replace hj := hj.below hb
            replace hm := hm.below hb
            replace hb0 := hb0.trans (hb.mono hb0.size)
            clear hb
            refine hK.out _ _ ⟨has_vec hx, has_vec hy⟩ (fun hHeld => ?_)
            clear hK K
            try simp only [Act.put, List.setIfInBounds_toArray, List.set_cons_zero, List.set_cons_succ]
            refine wpAnyH_ready (rs := [8]) (by kernel_rfl) (by simp) ?_
            refine AllReadyH.cons rfl (fun K hK => ?_) ?_
            · obtain ⟨c0, c1, c2, c3, c4, c5, c6, c7⟩ := has_vec (x := nil8) hj
              have ff := fun i => hj.free i
              go_simp
              have gj := Has.put8 (z := nil8) hj J
              have gx := Has.keep8 hx hpjx J
              have gy := Has.keep8 hy hpjy J
              have gz := Has.keep8 hz hpjz J
              have gm := Has.keep8 hm hpjm J
              replace hb0 := below_put8 hb0 hsj J
              clear c0 c1 c2 c3 c4 c5 c6 c7 ff
              clear hx
              clear hy
              clear hz
              clear hj
              clear hm
              have hx := gx
              have hy := gy
              have hz := gz
              have hj := gj
              have hm := gm
              clear gx gy gz gj gm
              refine hK.out _ _ ⟨has_vec hx, has_vec hy⟩ (fun hHeld => ?_)
              clear hK K
              try simp only [Act.put, List.setIfInBounds_toArray, List.set_cons_zero, List.set_cons_succ]
              generalize ((((((((v26).setCell ⟨v20.heap.size, 0, none⟩ (.int .i64 (J 0))).setCell ⟨v20.heap.size, 1, none⟩ (.int .i64 (J 1))).setCell ⟨v20.heap.size, 2, none⟩ (.int .i64 (J 2))).setCell ⟨v20.heap.size, 3, none⟩ (.int .i64 (J 3))).setCell ⟨v20.heap.size, 4, none⟩ (.int .i64 (J 4))).setCell ⟨v20.heap.size, 5, none⟩ (.int .i64 (J 5))).setCell ⟨v20.heap.size, 6, none⟩ (.int .i64 (J 6))).setCell ⟨v20.heap.size, 7, none⟩ (.int .i64 (J 7)) = v27 at *
              refine wpAnyH_ready (rs := [9]) (by kernel_rfl) (by simp) ?_
              refine AllReadyH.cons rfl (fun K hK => ?_) ?_
              · obtain ⟨c0, c1, c2, c3, c4, c5, c6, c7⟩ := has_vec (x := nil8) hm
                have ff := fun i => hm.free i
                go_simp
                have gm := Has.put8 (z := nil8) hm M
                have gx := Has.keep8 hx hpmx M
                have gy := Has.keep8 hy hpmy M
                have gz := Has.keep8 hz hpmz M
                have gj := Has.keep8 hj hpjm.symm M
                replace hb0 := below_put8 hb0 hsm M
                clear c0 c1 c2 c3 c4 c5 c6 c7 ff
                clear hx
                clear hy
                clear hz
                clear hj
                clear hm
                have hx := gx
                have hy := gy
                have hz := gz
                have hj := gj
                have hm := gm
                clear gx gy gz gj gm
                refine hK.out _ _ ⟨has_vec hx, has_vec hy⟩ (fun hHeld => ?_)
                clear hK K
                try simp only [Act.put, List.setIfInBounds_toArray, List.set_cons_zero, List.set_cons_succ]
                generalize ((((((((v27).setCell ⟨v1.heap.size, 0, none⟩ (.int .i64 (M 0))).setCell ⟨v1.heap.size, 1, none⟩ (.int .i64 (M 1))).setCell ⟨v1.heap.size, 2, none⟩ (.int .i64 (M 2))).setCell ⟨v1.heap.size, 3, none⟩ (.int .i64 (M 3))).setCell ⟨v1.heap.size, 4, none⟩ (.int .i64 (M 4))).setCell ⟨v1.heap.size, 5, none⟩ (.int .i64 (M 5))).setCell ⟨v1.heap.size, 6, none⟩ (.int .i64 (M 6))).setCell ⟨v1.heap.size, 7, none⟩ (.int .i64 (M 7)) = v28 at *
                refine wpAnyH_done (by kernel_rfl) ?_ _
                go_wp2_with fail
                go_meet
                exact ⟨v20.heap.size, v1.heap.size, rfl, rfl, hj, hm, hx, hy, hz, hb0⟩
              exact AllReadyH.nil
            exact AllReadyH.nil
          exact AllReadyH.nil
        exact AllReadyH.nil
      exact AllReadyH.nil
    refine AllReadyH.cons rfl (fun K hK => ?_) ?_
    · go_simp
      have hpjx := Nat.ne_of_lt hx.bound
      have hpjy := Nat.ne_of_lt hy.bound
      have hpjz := Nat.ne_of_lt hz.bound
      have hsj := hb0.size
      replace hx := hx.past (.cells #[.int .i64 0, .int .i64 0, .int .i64 0, .int .i64 0, .int .i64 0, .int .i64 0, .int .i64 0, .int .i64 0] 25)
      replace hy := hy.past (.cells #[.int .i64 0, .int .i64 0, .int .i64 0, .int .i64 0, .int .i64 0, .int .i64 0, .int .i64 0, .int .i64 0] 25)
      replace hz := hz.past (.cells #[.int .i64 0, .int .i64 0, .int .i64 0, .int .i64 0, .int .i64 0, .int .i64 0, .int .i64 0, .int .i64 0] 25)
      replace hb0 := hb0.alloc hb0.size (.cells #[.int .i64 0, .int .i64 0, .int .i64 0, .int .i64 0, .int .i64 0, .int .i64 0, .int .i64 0, .int .i64 0] 25)
      have hj := Has.fresh w0 25 #[.int .i64 0, .int .i64 0, .int .i64 0, .int .i64 0, .int .i64 0, .int .i64 0, .int .i64 0, .int .i64 0]
      refine hK.out _ _ ⟨has_vec hx, has_vec hy⟩ (fun hHeld => ?_)
      clear hK K
      try simp only [Act.put, List.setIfInBounds_toArray, List.set_cons_zero, List.set_cons_succ]
      generalize w0.alloc (.cells #[.int .i64 0, .int .i64 0, .int .i64 0, .int .i64 0, .int .i64 0, .int .i64 0, .int .i64 0, .int .i64 0] 25) = v29 at *
      refine wpAnyH_ready (rs := [2, 7]) (by kernel_rfl) (by simp) ?_
      refine AllReadyH.cons rfl (fun K hK => ?_) ?_
      · go_simp
        go_at_call 20
        refine (HJL.out _).mono ?_
        rintro e v30 ⟨rfl, hb⟩
        replace hx := hx.below hb
        replace hy := hy.below hb
        replace hz := hz.below hb
        replace hj := hj.below hb
        replace hb0 := hb0.trans (hb.mono hb0.size)
        clear hb
        refine hK.out _ _ ⟨has_vec hx, has_vec hy⟩ (fun hHeld => ?_)
        clear hK K
        try simp only [Act.put, List.setIfInBounds_toArray, List.set_cons_zero, List.set_cons_succ]
        refine wpAnyH_ready (rs := [5, 7]) (by kernel_rfl) (by simp) ?_
        refine AllReadyH.cons rfl (fun K hK => ?_) ?_
        · go_simp
          go_at_call 22
          refine (HML.out _).mono ?_
          rintro e v31 ⟨rfl, hb⟩
          replace hx := hx.below hb
          replace hy := hy.below hb
          replace hz := hz.below hb
          replace hj := hj.below hb
          replace hb0 := hb0.trans (hb.mono hb0.size)
          clear hb
          refine hK.out _ _ ⟨has_vec hx, has_vec hy⟩ (fun hHeld => ?_)
          clear hK K
          try simp only [Act.put, List.setIfInBounds_toArray, List.set_cons_zero, List.set_cons_succ]
          refine wpAnyH_ready (rs := [7]) (by kernel_rfl) (by simp) ?_
          refine AllReadyH.cons rfl (fun K hK => ?_) ?_
          · go_simp
            have hpmx := Nat.ne_of_lt hx.bound
            have hpmy := Nat.ne_of_lt hy.bound
            have hpmz := Nat.ne_of_lt hz.bound
            have hpmj := Nat.ne_of_lt hj.bound
            have hsm := hb0.size
            replace hx := hx.past (.cells #[.int .i64 0, .int .i64 0, .int .i64 0, .int .i64 0, .int .i64 0, .int .i64 0, .int .i64 0, .int .i64 0] 25)
            replace hy := hy.past (.cells #[.int .i64 0, .int .i64 0, .int .i64 0, .int .i64 0, .int .i64 0, .int .i64 0, .int .i64 0, .int .i64 0] 25)
            replace hz := hz.past (.cells #[.int .i64 0, .int .i64 0, .int .i64 0, .int .i64 0, .int .i64 0, .int .i64 0, .int .i64 0, .int .i64 0] 25)
            replace hj := hj.past (.cells #[.int .i64 0, .int .i64 0, .int .i64 0, .int .i64 0, .int .i64 0, .int .i64 0, .int .i64 0, .int .i64 0] 25)
            replace hb0 := hb0.alloc hb0.size (.cells #[.int .i64 0, .int .i64 0, .int .i64 0, .int .i64 0, .int .i64 0, .int .i64 0, .int .i64 0, .int .i64 0] 25)
            have hm := Has.fresh v31 25 #[.int .i64 0, .int .i64 0, .int .i64 0, .int .i64 0, .int .i64 0, .int .i64 0, .int .i64 0, .int .i64 0]
            refine hK.out _ _ ⟨has_vec hx, has_vec hy⟩ (fun hHeld => ?_)
            clear hK K
            try simp only [Act.put, List.setIfInBounds_toArray, List.set_cons_zero, List.set_cons_succ]
            generalize v31.alloc (.cells #[.int .i64 0, .int .i64 0, .int .i64 0, .int .i64 0, .int .i64 0, .int .i64 0, .int .i64 0, .int .i64 0] 25) = v32 at *
            refine wpAnyH_ready (rs := [8]) (by kernel_rfl) (by simp) ?_
            refine AllReadyH.cons rfl (fun K hK => ?_) ?_
            · obtain ⟨c0, c1, c2, c3, c4, c5, c6, c7⟩ := has_vec (x := nil8) hj
              have ff := fun i => hj.free i
              go_simp
              have gj := Has.put8 (z := nil8) hj J
              have gx := Has.keep8 hx hpjx J
              have gy := Has.keep8 hy hpjy J
              have gz := Has.keep8 hz hpjz J
              have gm := Has.keep8 hm hpmj.symm J
              replace hb0 := below_put8 hb0 hsj J
              clear c0 c1 c2 c3 c4 c5 c6 c7 ff
              clear hx
              clear hy
              clear hz
              clear hj
              clear hm
              have hx := gx
              have hy := gy
              have hz := gz
              have hj := gj
              have hm := gm
              clear gx gy gz gj gm
              refine hK.out _ _ ⟨has_vec hx, has_vec hy⟩ (fun hHeld => ?_)
              clear hK K
              try simp only [Act.put, List.setIfInBounds_toArray, List.set_cons_zero, List.set_cons_succ]
              generalize ((((((((v32).setCell ⟨w0.heap.size, 0, none⟩ (.int .i64 (J 0))).setCell ⟨w0.heap.size, 1, none⟩ (.int .i64 (J 1))).setCell ⟨w0.heap.size, 2, none⟩ (.int .i64 (J 2))).setCell ⟨w0.heap.size, 3, none⟩ (.int .i64 (J 3))).setCell ⟨w0.heap.size, 4, none⟩ (.int .i64 (J 4))).setCell ⟨w0.heap.size, 5, none⟩ (.int .i64 (J 5))).setCell ⟨w0.heap.size, 6, none⟩ (.int .i64 (J 6))).setCell ⟨w0.heap.size, 7, none⟩ (.int .i64 (J 7)) = v33 at *
              refine wpAnyH_ready (rs := [9]) (by kernel_rfl) (by simp) ?_
              refine AllReadyH.cons rfl (fun K hK => ?_) ?_
              · obtain ⟨c0, c1, c2, c3, c4, c5, c6, c7⟩ := has_vec (x := nil8) hm
                have ff := fun i => hm.free i
                go_simp
                have gm := Has.put8 (z := nil8) hm M
                have gx := Has.keep8 hx hpmx M
                have gy := Has.keep8 hy hpmy M
                have gz := Has.keep8 hz hpmz M
                have gj := Has.keep8 hj hpmj M
                replace hb0 := below_put8 hb0 hsm M
                clear c0 c1 c2 c3 c4 c5 c6 c7 ff
                clear hx
                clear hy
                clear hz
                clear hj
                clear hm
                have hx := gx
                have hy := gy
                have hz := gz
                have hj := gj
                have hm := gm
                clear gx gy gz gj gm
                refine hK.out _ _ ⟨has_vec hx, has_vec hy⟩ (fun hHeld => ?_)
                clear hK K
                try simp only [Act.put, List.setIfInBounds_toArray, List.set_cons_zero, List.set_cons_succ]
                generalize ((((((((v33).setCell ⟨v31.heap.size, 0, none⟩ (.int .i64 (M 0))).setCell ⟨v31.heap.size, 1, none⟩ (.int .i64 (M 1))).setCell ⟨v31.heap.size, 2, none⟩ (.int .i64 (M 2))).setCell ⟨v31.heap.size, 3, none⟩ (.int .i64 (M 3))).setCell ⟨v31.heap.size, 4, none⟩ (.int .i64 (M 4))).setCell ⟨v31.heap.size, 5, none⟩ (.int .i64 (M 5))).setCell ⟨v31.heap.size, 6, none⟩ (.int .i64 (M 6))).setCell ⟨v31.heap.size, 7, none⟩ (.int .i64 (M 7)) = v34 at *
                refine wpAnyH_done (by kernel_rfl) ?_ _
                go_wp2_with fail
                go_meet
                exact ⟨w0.heap.size, v31.heap.size, rfl, rfl, hj, hm, hx, hy, hz, hb0⟩
              exact AllReadyH.nil
            exact AllReadyH.nil
          exact AllReadyH.nil
        refine AllReadyH.cons rfl (fun K hK => ?_) ?_
        · go_simp
          have hpmx := Nat.ne_of_lt hx.bound
          have hpmy := Nat.ne_of_lt hy.bound
          have hpmz := Nat.ne_of_lt hz.bound
          have hpmj := Nat.ne_of_lt hj.bound
          have hsm := hb0.size
          replace hx := hx.past (.cells #[.int .i64 0, .int .i64 0, .int .i64 0, .int .i64 0, .int .i64 0, .int .i64 0, .int .i64 0, .int .i64 0] 25)
          replace hy := hy.past (.cells #[.int .i64 0, .int .i64 0, .int .i64 0, .int .i64 0, .int .i64 0, .int .i64 0, .int .i64 0, .int .i64 0] 25)
          replace hz := hz.past (.cells #[.int .i64 0, .int .i64 0, .int .i64 0, .int .i64 0, .int .i64 0, .int .i64 0, .int .i64 0, .int .i64 0] 25)
          replace hj := hj.past (.cells #[.int .i64 0, .int .i64 0, .int .i64 0, .int .i64 0, .int .i64 0, .int .i64 0, .int .i64 0, .int .i64 0] 25)
          replace hb0 := hb0.alloc hb0.size (.cells #[.int .i64 0, .int .i64 0, .int .i64 0, .int .i64 0, .int .i64 0, .int .i64 0, .int .i64 0, .int .i64 0] 25)
          have hm := Has.fresh v30 25 #[.int .i64 0, .int .i64 0, .int .i64 0, .int .i64 0, .int .i64 0, .int .i64 0, .int .i64 0, .int .i64 0]
          refine hK.out _ _ ⟨has_vec hx, has_vec hy⟩ (fun hHeld => ?_)
          clear hK K
          try simp only [Act.put, List.setIfInBounds_toArray, List.set_cons_zero, List.set_cons_succ]
          generalize v30.alloc (.cells #[.int .i64 0, .int .i64 0, .int .i64 0, .int .i64 0, .int .i64 0, .int .i64 0, .int .i64 0, .int .i64 0] 25) = v35 at *
          refine wpAnyH_ready (rs := [5]) (by kernel_rfl) (by simp) ?_
          refine AllReadyH.cons rfl (fun K hK => ?_) ?_
          · go_simp
            go_at_call 22
            refine (HML.out _).mono ?_
            rintro e v36 ⟨rfl, hb⟩
            replace hx := hx.below hb
            replace hy := hy.below hb
            replace hz := hz.below hb
            replace hj := hj.below hb
            replace hm := hm.below hb
            replace hb0 := hb0.trans (hb.mono hb0.size)
            clear hb
            refine hK.out _ _ ⟨has_vec hx, has_vec hy⟩ (fun hHeld => ?_)
            clear hK K
            try simp only [Act.put, List.setIfInBounds_toArray, List.set_cons_zero, List.set_cons_succ]
            refine wpAnyH_ready (rs := [8]) (by kernel_rfl) (by simp) ?_
            refine AllReadyH.cons rfl (fun K hK => ?_) ?_
            · obtain ⟨c0, c1, c2, c3, c4, c5, c6, c7⟩ := has_vec (x := nil8) hj
              have ff := fun i => hj.free i
              go_simp
              have gj := Has.put8 (z := nil8) hj J
              have gx := Has.keep8 hx hpjx J
              have gy := Has.keep8 hy hpjy J
              have gz := Has.keep8 hz hpjz J
              have gm := Has.keep8 hm hpmj.symm J
              replace hb0 := below_put8 hb0 hsj J
              clear c0 c1 c2 c3 c4 c5 c6 c7 ff
              clear hx
              clear hy
              clear hz
              clear hj
              clear hm
              have hx := gx
              have hy := gy
              have hz := gz
              have hj := gj
              have hm := gm
              clear gx gy gz gj gm
              refine hK.out _ _ ⟨has_vec hx, has_vec hy⟩ (fun hHeld => ?_)
              clear hK K
              try simp only [Act.put, List.setIfInBounds_toArray, List.set_cons_zero, List.set_cons_succ]
              generalize ((((((((v36).setCell ⟨w0.heap.size, 0, none⟩ (.int .i64 (J 0))).setCell ⟨w0.heap.size, 1, none⟩ (.int .i64 (J 1))).setCell ⟨w0.heap.size, 2, none⟩ (.int .i64 (J 2))).setCell ⟨w0.heap.size, 3, none⟩ (.int .i64 (J 3))).setCell ⟨w0.heap.size, 4, none⟩ (.int .i64 (J 4))).setCell ⟨w0.heap.size, 5, none⟩ (.int .i64 (J 5))).setCell ⟨w0.heap.size, 6, none⟩ (.int .i64 (J 6))).setCell ⟨w0.heap.size, 7, none⟩ (.int .i64 (J 7)) = v37 at *
              refine wpAnyH_ready (rs := [9]) (by kernel_rfl) (by simp) ?_
              refine AllReadyH.cons rfl (fun K hK => ?_) ?_
              · obtain ⟨c0, c1, c2, c3, c4, c5, c6, c7⟩ := has_vec (x := nil8) hm
                have ff := fun i => hm.free i
                go_simp
                have gm := Has.put8 (z := nil8) hm M
                have gx := Has.keep8 hx hpmx M
                have gy := Has.keep8 hy hpmy M
                have gz := Has.keep8 hz hpmz M
                have gj := Has.keep8 hj hpmj M
                replace hb0 := below_put8 hb0 hsm M
                clear c0 c1 c2 c3 c4 c5 c6 c7 ff
                clear hx
                clear hy
                clear hz
                clear hj
                clear hm
                have hx := gx
                have hy := gy
                have hz := gz
                have hj := gj
                have hm := gm
                clear gx gy gz gj gm
                refine hK.out _ _ ⟨has_vec hx, has_vec hy⟩ (fun hHeld => ?_)
                clear hK K
                try simp only [Act.put, List.setIfInBounds_toArray, List.set_cons_zero, List.set_cons_succ]
                generalize ((((((((v37).setCell ⟨v30.heap.size, 0, none⟩ (.int .i64 (M 0))).setCell ⟨v30.heap.size, 1, none⟩ (.int .i64 (M 1))).setCell ⟨v30.heap.size, 2, none⟩ (.int .i64 (M 2))).setCell ⟨v30.heap.size, 3, none⟩ (.int .i64 (M 3))).setCell ⟨v30.heap.size, 4, none⟩ (.int .i64 (M 4))).setCell ⟨v30.heap.size, 5, none⟩ (.int .i64 (M 5))).setCell ⟨v30.heap.size, 6, none⟩ (.int .i64 (M 6))).setCell ⟨v30.heap.size, 7, none⟩ (.int .i64 (M 7)) = v38 at *
                refine wpAnyH_done (by kernel_rfl) ?_ _
                go_wp2_with fail
                go_meet
                exact ⟨w0.heap.size, v30.heap.size, rfl, rfl, hj, hm, hx, hy, hz, hb0⟩
              exact AllReadyH.nil
            exact AllReadyH.nil
          exact AllReadyH.nil
        exact AllReadyH.nil
      refine AllReadyH.cons rfl (fun K hK => ?_) ?_
      · go_simp
        have hpmx := Nat.ne_of_lt hx.bound
        have hpmy := Nat.ne_of_lt hy.bound
        have hpmz := Nat.ne_of_lt hz.bound
        have hpmj := Nat.ne_of_lt hj.bound
        have hsm := hb0.size
        replace hx := hx.past (.cells #[.int .i64 0, .int .i64 0, .int .i64 0, .int .i64 0, .int .i64 0, .int .i64 0, .int .i64 0, .int .i64 0] 25)
        replace hy := hy.past (.cells #[.int .i64 0, .int .i64 0, .int .i64 0, .int .i64 0, .int .i64 0, .int .i64 0, .int .i64 0, .int .i64 0] 25)
        replace hz := hz.past (.cells #[.int .i64 0, .int .i64 0, .int .i64 0, .int .i64 0, .int .i64 0, .int .i64 0, .int .i64 0, .int .i64 0] 25)
        replace hj := hj.past (.cells #[.int .i64 0, .int .i64 0, .int .i64 0, .int .i64 0, .int .i64 0, .int .i64 0, .int .i64 0, .int .i64 0] 25)
        replace hb0 := hb0.alloc hb0.size (.cells #[.int .i64 0, .int .i64 0, .int .i64 0, .int .i64 0, .int .i64 0, .int .i64 0, .int .i64 0, .int .i64 0] 25)
        have hm := Has.fresh v29 25 #[.int .i64 0, .int .i64 0, .int .i64 0, .int .i64 0, .int .i64 0, .int .i64 0, .int .i64 0, .int .i64 0]
        refine hK.out _ _ ⟨has_vec hx, has_vec hy⟩ (fun hHeld => ?_)
        clear hK K
        try simp only [Act.put, List.setIfInBounds_toArray, List.set_cons_zero, List.set_cons_succ]
        generalize v29.alloc (.cells #[.int .i64 0, .int .i64 0, .int .i64 0, .int .i64 0, .int .i64 0, .int .i64 0, .int .i64 0, .int .i64 0] 25) = v39 at *
        refine wpAnyH_ready (rs := [2]) (by kernel_rfl) (by simp) ?_
        refine AllReadyH.cons rfl (fun K hK => ?_) ?_
        · go_simp
          go_at_call 20
          refine (HJL.out _).mono ?_
          rintro e v40 ⟨rfl, hb⟩
          replace hx := hx.below hb
          replace hy := hy.below hb
          replace hz := hz.below hb
          replace hj := hj.below hb
          replace hm := hm.below hb
          replace hb0 := hb0.trans (hb.mono hb0.size)
          clear hb
          refine hK.out _ _ ⟨has_vec hx, has_vec hy⟩ (fun hHeld => ?_)
          clear hK K
          try simp only [Act.put, List.setIfInBounds_toArray, List.set_cons_zero, List.set_cons_succ]
          refine wpAnyH_ready (rs := [5]) (by kernel_rfl) (by simp) ?_
          refine AllReadyH.cons rfl (fun K hK => ?_) ?_
          · go_simp
            go_at_call 22
            refine (HML.out _).mono ?_
            rintro e v41 ⟨rfl, hb⟩
            replace hx := hx.below hb
            replace hy := hy.below hb
            replace hz := hz.below hb
            replace hj := hj.below hb
            replace hm := hm.below hb
            replace hb0 := hb0.trans (hb.mono hb0.size)
            clear hb
            refine hK.out _ _ ⟨has_vec hx, has_vec hy⟩ (fun hHeld => ?_)
            clear hK K
            try simp only [Act.put, List.setIfInBounds_toArray, List.set_cons_zero, List.set_cons_succ]
            refine wpAnyH_ready (rs := [8]) (by kernel_rfl) (by simp) ?_
            refine AllReadyH.cons rfl (fun K hK => ?_) ?_
            · obtain ⟨c0, c1, c2, c3, c4, c5, c6, c7⟩ := has_vec (x := nil8) hj
              have ff := fun i => hj.free i
              go_simp
              have gj := Has.put8 (z := nil8) hj J
              have gx := Has.keep8 hx hpjx J
              have gy := Has.keep8 hy hpjy J
              have gz := Has.keep8 hz hpjz J
              have gm := Has.keep8 hm hpmj.symm J
              replace hb0 := below_put8 hb0 hsj J
              clear c0 c1 c2 c3 c4 c5 c6 c7 ff
              clear hx
              clear hy
              clear hz
              clear hj
              clear hm
              have hx := gx
              have hy := gy
              have hz := gz
              have hj := gj
              have hm := gm
              clear gx gy gz gj gm
              refine hK.out _ _ ⟨has_vec hx, has_vec hy⟩ (fun hHeld => ?_)
              clear hK K
              try simp only [Act.put, List.setIfInBounds_toArray, List.set_cons_zero, List.set_cons_succ]
              generalize ((((((((v41).setCell ⟨w0.heap.size, 0, none⟩ (.int .i64 (J 0))).setCell ⟨w0.heap.size, 1, none⟩ (.int .i64 (J 1))).setCell ⟨w0.heap.size, 2, none⟩ (.int .i64 (J 2))).setCell ⟨w0.heap.size, 3, none⟩ (.int .i64 (J 3))).setCell ⟨w0.heap.size, 4, none⟩ (.int .i64 (J 4))).setCell ⟨w0.heap.size, 5, none⟩ (.int .i64 (J 5))).setCell ⟨w0.heap.size, 6, none⟩ (.int .i64 (J 6))).setCell ⟨w0.heap.size, 7, none⟩ (.int .i64 (J 7)) = v42 at *
              refine wpAnyH_ready (rs := [9]) (by kernel_rfl) (by simp) ?_
              refine AllReadyH.cons rfl (fun K hK => ?_) ?_
              · obtain ⟨c0, c1, c2, c3, c4, c5, c6, c7⟩ := has_vec (x := nil8) hm
                have ff := fun i => hm.free i
                go_simp
                have gm := Has.put8 (z := nil8) hm M
                have gx := Has.keep8 hx hpmx M
                have gy := Has.keep8 hy hpmy M
                have gz := Has.keep8 hz hpmz M
                have gj := Has.keep8 hj hpmj M
                replace hb0 := below_put8 hb0 hsm M
                clear c0 c1 c2 c3 c4 c5 c6 c7 ff
                clear hx
                clear hy
                clear hz
                clear hj
                clear hm
                have hx := gx
                have hy := gy
                have hz := gz
                have hj := gj
                have hm := gm
                clear gx gy gz gj gm
                refine hK.out _ _ ⟨has_vec hx, has_vec hy⟩ (fun hHeld => ?_)
                clear hK K
                try simp only [Act.put, List.setIfInBounds_toArray, List.set_cons_zero, List.set_cons_succ]
                generalize ((((((((v42).setCell ⟨v29.heap.size, 0, none⟩ (.int .i64 (M 0))).setCell ⟨v29.heap.size, 1, none⟩ (.int .i64 (M 1))).setCell ⟨v29.heap.size, 2, none⟩ (.int .i64 (M 2))).setCell ⟨v29.heap.size, 3, none⟩ (.int .i64 (M 3))).setCell ⟨v29.heap.size, 4, none⟩ (.int .i64 (M 4))).setCell ⟨v29.heap.size, 5, none⟩ (.int .i64 (M 5))).setCell ⟨v29.heap.size, 6, none⟩ (.int .i64 (M 6))).setCell ⟨v29.heap.size, 7, none⟩ (.int .i64 (M 7)) = v43 at *
                refine wpAnyH_done (by kernel_rfl) ?_ _
                go_wp2_with fail
                go_meet
                exact ⟨w0.heap.size, v29.heap.size, rfl, rfl, hj, hm, hx, hy, hz, hb0⟩
              exact AllReadyH.nil
            exact AllReadyH.nil
          exact AllReadyH.nil
        exact AllReadyH.nil
      exact AllReadyH.nil
    refine AllReadyH.cons rfl (fun K hK => ?_) ?_
    · go_simp
      have hpmx := Nat.ne_of_lt hx.bound
      have hpmy := Nat.ne_of_lt hy.bound
      have hpmz := Nat.ne_of_lt hz.bound
      have hsm := hb0.size
      replace hx := hx.past (.cells #[.int .i64 0, .int .i64 0, .int .i64 0, .int .i64 0, .int .i64 0, .int .i64 0, .int .i64 0, .int .i64 0] 25)
      replace hy := hy.past (.cells #[.int .i64 0, .int .i64 0, .int .i64 0, .int .i64 0, .int .i64 0, .int .i64 0, .int .i64 0, .int .i64 0] 25)
      replace hz := hz.past (.cells #[.int .i64 0, .int .i64 0, .int .i64 0, .int .i64 0, .int .i64 0, .int .i64 0, .int .i64 0, .int .i64 0] 25)
      replace hb0 := hb0.alloc hb0.size (.cells #[.int .i64 0, .int .i64 0, .int .i64 0, .int .i64 0, .int .i64 0, .int .i64 0, .int .i64 0, .int .i64 0] 25)
      have hm := Has.fresh w0 25 #[.int .i64 0, .int .i64 0, .int .i64 0, .int .i64 0, .int .i64 0, .int .i64 0, .int .i64 0, .int .i64 0]
      refine hK.out _ _ ⟨has_vec hx, has_vec hy⟩ (fun hHeld => ?_)
      clear hK K
      try simp only [Act.put, List.setIfInBounds_toArray, List.set_cons_zero, List.set_cons_succ]
      generalize w0.alloc (.cells #[.int .i64 0, .int .i64 0, .int .i64 0, .int .i64 0, .int .i64 0, .int .i64 0, .int .i64 0, .int .i64 0] 25) = v44 at *
      refine wpAnyH_ready (rs := [2, 6]) (by kernel_rfl) (by simp) ?_
      refine AllReadyH.cons rfl (fun K hK => ?_) ?_
      · go_simp
        go_at_call 20
        refine (HJL.out _).mono ?_
        rintro e v45 ⟨rfl, hb⟩
        replace hx := hx.below hb
        replace hy := hy.below hb
        replace hz := hz.below hb
        replace hm := hm.below hb
        replace hb0 := hb0.trans (hb.mono hb0.size)
        clear hb
        refine hK.out _ _ ⟨has_vec hx, has_vec hy⟩ (fun hHeld => ?_)
        clear hK K
        try simp only [Act.put, List.setIfInBounds_toArray, List.set_cons_zero, List.set_cons_succ]
        refine wpAnyH_ready (rs := [5, 6]) (by kernel_rfl) (by simp) ?_
        refine AllReadyH.cons rfl (fun K hK => ?_) ?_
        · go_simp
          go_at_call 22
          refine (HML.out _).mono ?_
          rintro e v46 ⟨rfl, hb⟩
          replace hx := hx.below hb
          replace hy := hy.below hb
          replace hz := hz.below hb
          replace hm := hm.below hb
          replace hb0 := hb0.trans (hb.mono hb0.size)
          clear hb
          refine hK.out _ _ ⟨has_vec hx, has_vec hy⟩ (fun hHeld => ?_)
          clear hK K
          try simp only [Act.put, List.setIfInBounds_toArray, List.set_cons_zero, List.set_cons_succ]
          refine wpAnyH_ready (rs := [6]) (by kernel_rfl) (by simp) ?_
          refine AllReadyH.cons rfl (fun K hK => ?_) ?_
          · go_simp
            have hpjx := Nat.ne_of_lt hx.bound
            have hpjy := Nat.ne_of_lt hy.bound
            have hpjz := Nat.ne_of_lt hz.bound
            have hpjm := Nat.ne_of_lt hm.bound
            have hsj := hb0.size
            replace hx := hx.past (.cells #[.int .i64 0, .int .i64 0, .int .i64 0, .int .i64 0, .int .i64 0, .int .i64 0, .int .i64 0, .int .i64 0] 25)
            replace hy := hy.past (.cells #[.int .i64 0, .int .i64 0, .int .i64 0, .int .i64 0, .int .i64 0, .int .i64 0, .int .i64 0, .int .i64 0] 25)
            replace hz := hz.past (.cells #[.int .i64 0, .int .i64 0, .int .i64 0, .int .i64 0, .int .i64 0, .int .i64 0, .int .i64 0, .int .i64 0] 25)
            replace hm := hm.past (.cells #[.int .i64 0, .int .i64 0, .int .i64 0, .int .i64 0, .int .i64 0, .int .i64 0, .int .i64 0, .int .i64 0] 25)
            replace hb0 := hb0.alloc hb0.size (.cells #[.int .i64 0, .int .i64 0, .int .i64 0, .int .i64 0, .int .i64 0, .int .i64 0, .int .i64 0, .int .i64 0] 25)
            have hj := Has.fresh v46 25 #[.int .i64 0, .int .i64 0, .int .i64 0, .int .i64 0, .int .i64 0, .int .i64 0, .int .i64 0, .int .i64 0]
            refine hK.out _ _ ⟨has_vec hx, has_vec hy⟩ (fun hHeld => ?_)
            clear hK K
            try simp only [Act.put, List.setIfInBounds_toArray, List.set_cons_zero, List.set_cons_succ]
            generalize v46.alloc (.cells #[.int .i64 0, .int .i64 0, .int .i64 0, .int .i64 0, .int .i64 0, .int .i64 0, .int .i64 0, .int .i64 0] 25) = v47 at *
            refine wpAnyH_ready (rs := [8]) (by kernel_rfl) (by simp) ?_
            refine AllReadyH.cons rfl (fun K hK => ?_) ?_
            · obtain ⟨c0, c1, c2, c3, c4, c5, c6, c7⟩ := has_vec (x := nil8) hj
              have ff := fun i => hj.free i
              go_simp
              have gj := Has.put8 (z := nil8) hj J
              have gx := Has.keep8 hx hpjx J
              have gy := Has.keep8 hy hpjy J
              have gz := Has.keep8 hz hpjz J
              have gm := Has.keep8 hm hpjm J
              replace hb0 := below_put8 hb0 hsj J
              clear c0 c1 c2 c3 c4 c5 c6 c7 ff
              clear hx
              clear hy
              clear hz
              clear hj
              clear hm
              have hx := gx
              have hy := gy
              have hz := gz
              have hj := gj
              have hm := gm
              clear gx gy gz gj gm
              refine hK.out _ _ ⟨has_vec hx, has_vec hy⟩ (fun hHeld => ?_)
              clear hK K
              try simp only [Act.put, List.setIfInBounds_toArray, List.set_cons_zero, List.set_cons_succ]
              generalize ((((((((v47).setCell ⟨v46.heap.size, 0, none⟩ (.int .i64 (J 0))).setCell ⟨v46.heap.size, 1, none⟩ (.int .i64 (J 1))).setCell ⟨v46.heap.size, 2, none⟩ (.int .i64 (J 2))).setCell ⟨v46.heap.size, 3, none⟩ (.int .i64 (J 3))).setCell ⟨v46.heap.size, 4, none⟩ (.int .i64 (J 4))).setCell ⟨v46.heap.size, 5, none⟩ (.int .i64 (J 5))).setCell ⟨v46.heap.size, 6, none⟩ (.int .i64 (J 6))).setCell ⟨v46.heap.size, 7, none⟩ (.int .i64 (J 7)) = v48 at *
              refine wpAnyH_ready (rs := [9]) (by kernel_rfl) (by simp) ?_
              refine AllReadyH.cons rfl (fun K hK => ?_) ?_
              · obtain ⟨c0, c1, c2, c3, c4, c5, c6, c7⟩ := has_vec (x := nil8) hm
                have ff := fun i => hm.free i
                go_simp
                have gm := Has.put8 (z := nil8) hm M
                have gx := Has.keep8 hx hpmx M
                have gy := Has.keep8 hy hpmy M
                have gz := Has.keep8 hz hpmz M
                have gj := Has.keep8 hj hpjm.symm M
                replace hb0 := below_put8 hb0 hsm M
                clear c0 c1 c2 c3 c4 c5 c6 c7 ff
                clear hx
                clear hy
                clear hz
                clear hj
                clear hm
                have hx := gx
                have hy := gy
                have hz := gz
                have hj := gj
                have hm := gm
                clear gx gy gz gj gm
                refine hK.out _ _ ⟨has_vec hx, has_vec hy⟩ (fun hHeld => ?_)
                clear hK K
                try simp only [Act.put, List.setIfInBounds_toArray, List.set_cons_zero, List.set_cons_succ]
                generalize ((((((((v48).setCell ⟨w0.heap.size, 0, none⟩ (.int .i64 (M 0))).setCell ⟨w0.heap.size, 1, none⟩ (.int .i64 (M 1))).setCell ⟨w0.heap.size, 2, none⟩ (.int .i64 (M 2))).setCell ⟨w0.heap.size, 3, none⟩ (.int .i64 (M 3))).setCell ⟨w0.heap.size, 4, none⟩ (.int .i64 (M 4))).setCell ⟨w0.heap.size, 5, none⟩ (.int .i64 (M 5))).setCell ⟨w0.heap.size, 6, none⟩ (.int .i64 (M 6))).setCell ⟨w0.heap.size, 7, none⟩ (.int .i64 (M 7)) = v49 at *
                refine wpAnyH_done (by kernel_rfl) ?_ _
                go_wp2_with fail
                go_meet
                exact ⟨v46.heap.size, w0.heap.size, rfl, rfl, hj, hm, hx, hy, hz, hb0⟩
              exact AllReadyH.nil
            exact AllReadyH.nil
          exact AllReadyH.nil
        refine AllReadyH.cons rfl (fun K hK => ?_) ?_
        · go_simp
          have hpjx := Nat.ne_of_lt hx.bound
          have hpjy := Nat.ne_of_lt hy.bound
          have hpjz := Nat.ne_of_lt hz.bound
          have hpjm := Nat.ne_of_lt hm.bound
          have hsj := hb0.size
          replace hx := hx.past (.cells #[.int .i64 0, .int .i64 0, .int .i64 0, .int .i64 0, .int .i64 0, .int .i64 0, .int .i64 0, .int .i64 0] 25)
          replace hy := hy.past (.cells #[.int .i64 0, .int .i64 0, .int .i64 0, .int .i64 0, .int .i64 0, .int .i64 0, .int .i64 0, .int .i64 0] 25)
          replace hz := hz.past (.cells #[.int .i64 0, .int .i64 0, .int .i64 0, .int .i64 0, .int .i64 0, .int .i64 0, .int .i64 0, .int .i64 0] 25)
          replace hm := hm.past (.cells #[.int .i64 0, .int .i64 0, .int .i64 0, .int .i64 0, .int .i64 0, .int .i64 0, .int .i64 0, .int .i64 0] 25)
          replace hb0 := hb0.alloc hb0.size (.cells #[.int .i64 0, .int .i64 0, .int .i64 0, .int .i64 0, .int .i64 0, .int .i64 0, .int .i64 0, .int .i64 0] 25)
          have hj := Has.fresh v45 25 #[.int .i64 0, .int .i64 0, .int .i64 0, .int .i64 0, .int .i64 0, .int .i64 0, .int .i64 0, .int .i64 0]
          refine hK.out _ _ ⟨has_vec hx, has_vec hy⟩ (fun hHeld => ?_)
          clear hK K
          try simp only [Act.put, List.setIfInBounds_toArray, List.set_cons_zero, List.set_cons_succ]
          generalize v45.alloc (.cells #[.int .i64 0, .int .i64 0, .int .i64 0, .int .i64 0, .int .i64 0, .int .i64 0, .int .i64 0, .int .i64 0] 25) = v50 at *
          refine wpAnyH_ready (rs := [5]) (by kernel_rfl) (by simp) ?_
          refine AllReadyH.cons rfl (fun K hK => ?_) ?_
          · go_simp
            go_at_call 22
            refine (HML.out _).mono ?_
            rintro e v51 ⟨rfl, hb⟩
            replace hx := hx.below hb
            replace hy := hy.below hb
            replace hz := hz.below hb
            replace hj := hj.below hb
            replace hm := hm.below hb
            replace hb0 := hb0.trans (hb.mono hb0.size)
            clear hb
            refine hK.out _ _ ⟨has_vec hx, has_vec hy⟩ (fun hHeld => ?_)
            clear hK K
            try simp only [Act.put, List.setIfInBounds_toArray, List.set_cons_zero, List.set_cons_succ]
            refine wpAnyH_ready (rs := [8]) (by kernel_rfl) (by simp) ?_
            refine AllReadyH.cons rfl (fun K hK => ?_) ?_
            · obtain ⟨c0, c1, c2, c3, c4, c5, c6, c7⟩ := has_vec (x := nil8) hj
              have ff := fun i => hj.free i
              go_simp
              have gj := Has.put8 (z := nil8) hj J
              have gx := Has.keep8 hx hpjx J
              have gy := Has.keep8 hy hpjy J
              have gz := Has.keep8 hz hpjz J
              have gm := Has.keep8 hm hpjm J
              replace hb0 := below_put8 hb0 hsj J
              clear c0 c1 c2 c3 c4 c5 c6 c7 ff
              clear hx
              clear hy
              clear hz
              clear hj
              clear hm
              have hx := gx
              have hy := gy
              have hz := gz
              have hj := gj
              have hm := gm
              clear gx gy gz gj gm
              refine hK.out _ _ ⟨has_vec hx, has_vec hy⟩ (fun hHeld => ?_)
              clear hK K
              try simp only [Act.put, List.setIfInBounds_toArray, List.set_cons_zero, List.set_cons_succ]
              generalize ((((((((v51).setCell ⟨v45.heap.size, 0, none⟩ (.int .i64 (J 0))).setCell ⟨v45.heap.size, 1, none⟩ (.int .i64 (J 1))).setCell ⟨v45.heap.size, 2, none⟩ (.int .i64 (J 2))).setCell ⟨v45.heap.size, 3, none⟩ (.int .i64 (J 3))).setCell ⟨v45.heap.size, 4, none⟩ (.int .i64 (J 4))).setCell ⟨v45.heap.size, 5, none⟩ (.int .i64 (J 5))).setCell ⟨v45.heap.size, 6, none⟩ (.int .i64 (J 6))).setCell ⟨v45.heap.size, 7, none⟩ (.int .i64 (J 7)) = v52 at *
              refine wpAnyH_ready (rs := [9]) (by kernel_rfl) (by simp) ?_
              refine AllReadyH.cons rfl (fun K hK => ?_) ?_
              · obtain ⟨c0, c1, c2, c3, c4, c5, c6, c7⟩ := has_vec (x := nil8) hm
                have ff := fun i => hm.free i
                go_simp
                have gm := Has.put8 (z := nil8) hm M
                have gx := Has.keep8 hx hpmx M
                have gy := Has.keep8 hy hpmy M
                have gz := Has.keep8 hz hpmz M
                have gj := Has.keep8 hj hpjm.symm M
                replace hb0 := below_put8 hb0 hsm M
                clear c0 c1 c2 c3 c4 c5 c6 c7 ff
                clear hx
                clear hy
                clear hz
                clear hj
                clear hm
                have hx := gx
                have hy := gy
                have hz := gz
                have hj := gj
                have hm := gm
                clear gx gy gz gj gm
                refine hK.out _ _ ⟨has_vec hx, has_vec hy⟩ (fun hHeld => ?_)
                clear hK K
                try simp only [Act.put, List.setIfInBounds_toArray, List.set_cons_zero, List.set_cons_succ]
                generalize ((((((((v52).setCell ⟨w0.heap.size, 0, none⟩ (.int .i64 (M 0))).setCell ⟨w0.heap.size, 1, none⟩ (.int .i64 (M 1))).setCell ⟨w0.heap.size, 2, none⟩ (.int .i64 (M 2))).setCell ⟨w0.heap.size, 3, none⟩ (.int .i64 (M 3))).setCell ⟨w0.heap.size, 4, none⟩ (.int .i64 (M 4))).setCell ⟨w0.heap.size, 5, none⟩ (.int .i64 (M 5))).setCell ⟨w0.heap.size, 6, none⟩ (.int .i64 (M 6))).setCell ⟨w0.heap.size, 7, none⟩ (.int .i64 (M 7)) = v53 at *
                refine wpAnyH_done (by kernel_rfl) ?_ _
                go_wp2_with fail
                go_meet
                exact ⟨v45.heap.size, w0.heap.size, rfl, rfl, hj, hm, hx, hy, hz, hb0⟩
              exact AllReadyH.nil
            exact AllReadyH.nil
          exact AllReadyH.nil
        exact AllReadyH.nil
      refine AllReadyH.cons rfl (fun K hK => ?_) ?_
      · go_simp
        have hpjx := Nat.ne_of_lt hx.bound
        have hpjy := Nat.ne_of_lt hy.bound
        have hpjz := Nat.ne_of_lt hz.bound
        have hpjm := Nat.ne_of_lt hm.bound
        have hsj := hb0.size
        replace hx := hx.past (.cells #[.int .i64 0, .int .i64 0, .int .i64 0, .int .i64 0, .int .i64 0, .int .i64 0, .int .i64 0, .int .i64 0] 25)
        replace hy := hy.past (.cells #[.int .i64 0, .int .i64 0, .int .i64 0, .int .i64 0, .int .i64 0, .int .i64 0, .int .i64 0, .int .i64 0] 25)
        replace hz := hz.past (.cells #[.int .i64 0, .int .i64 0, .int .i64 0, .int .i64 0, .int .i64 0, .int .i64 0, .int .i64 0, .int .i64 0] 25)
        replace hm := hm.past (.cells #[.int .i64 0, .int .i64 0, .int .i64 0, .int .i64 0, .int .i64 0, .int .i64 0, .int .i64 0, .int .i64 0] 25)
        replace hb0 := hb0.alloc hb0.size (.cells #[.int .i64 0, .int .i64 0, .int .i64 0, .int .i64 0, .int .i64 0, .int .i64 0, .int .i64 0, .int .i64 0] 25)
        have hj := Has.fresh v44 25 #[.int .i64 0, .int .i64 0, .int .i64 0, .int .i64 0, .int .i64 0, .int .i64 0, .int .i64 0, .int .i64 0]
        refine hK.out _ _ ⟨has_vec hx, has_vec hy⟩ (fun hHeld => ?_)
        clear hK K
        try simp only [Act.put, List.setIfInBounds_toArray, List.set_cons_zero, List.set_cons_succ]
        generalize v44.alloc (.cells #[.int .i64 0, .int .i64 0, .int .i64 0, .int .i64 0, .int .i64 0, .int .i64 0, .int .i64 0, .int .i64 0] 25) = v54 at *
        refine wpAnyH_ready (rs := [2]) (by kernel_rfl) (by simp) ?_
        refine AllReadyH.cons rfl (fun K hK => ?_) ?_
        · go_simp
          go_at_call 20
          refine (HJL.out _).mono ?_
          rintro e v55 ⟨rfl, hb⟩
          replace hx := hx.below hb
          replace hy := hy.below hb
          replace hz := hz.below hb
          replace hj := hj.below hb
          replace hm := hm.below hb
          replace hb0 := hb0.trans (hb.mono hb0.size)
          clear hb
          refine hK.out _ _ ⟨has_vec hx, has_vec hy⟩ (fun hHeld => ?_)
          clear hK K
          try simp only [Act.put, List.setIfInBounds_toArray, List.set_cons_zero, List.set_cons_succ]
          refine wpAnyH_ready (rs := [5]) (by kernel_rfl) (by simp) ?_
          refine AllReadyH.cons rfl (fun K hK => ?_) ?_
          · go_simp
            go_at_call 22
            refine (HML.out _).mono ?_
            rintro e v56 ⟨rfl, hb⟩
            replace hx := hx.below hb
            replace hy := hy.below hb
            replace hz := hz.below hb
            replace hj := hj.below hb
            replace hm := hm.below hb
            replace hb0 := hb0.trans (hb.mono hb0.size)
            clear hb
            refine hK.out _ _ ⟨has_vec hx, has_vec hy⟩ (fun hHeld => ?_)
            clear hK K
            try simp only [Act.put, List.setIfInBounds_toArray, List.set_cons_zero, List.set_cons_succ]
            refine wpAnyH_ready (rs := [8]) (by kernel_rfl) (by simp) ?_
            refine AllReadyH.cons rfl (fun K hK => ?_) ?_
            · obtain ⟨c0, c1, c2, c3, c4, c5, c6, c7⟩ := has_vec (x := nil8) hj
              have ff := fun i => hj.free i
              go_simp
              have gj := Has.put8 (z := nil8) hj J
              have gx := Has.keep8 hx hpjx J
              have gy := Has.keep8 hy hpjy J
              have gz := Has.keep8 hz hpjz J
              have gm := Has.keep8 hm hpjm J
              replace hb0 := below_put8 hb0 hsj J
              clear c0 c1 c2 c3 c4 c5 c6 c7 ff
              clear hx
              clear hy
              clear hz
              clear hj
              clear hm
              have hx := gx
              have hy := gy
              have hz := gz
              have hj := gj
              have hm := gm
              clear gx gy gz gj gm
              refine hK.out _ _ ⟨has_vec hx, has_vec hy⟩ (fun hHeld => ?_)
              clear hK K
              try simp only [Act.put, List.setIfInBounds_toArray, List.set_cons_zero, List.set_cons_succ]
              generalize ((((((((v56).setCell ⟨v44.heap.size, 0, none⟩ (.int .i64 (J 0))).setCell ⟨v44.heap.size, 1, none⟩ (.int .i64 (J 1))).setCell ⟨v44.heap.size, 2, none⟩ (.int .i64 (J 2))).setCell ⟨v44.heap.size, 3, none⟩ (.int .i64 (J 3))).setCell ⟨v44.heap.size, 4, none⟩ (.int .i64 (J 4))).setCell ⟨v44.heap.size, 5, none⟩ (.int .i64 (J 5))).setCell ⟨v44.heap.size, 6, none⟩ (.int .i64 (J 6))).setCell ⟨v44.heap.size, 7, none⟩ (.int .i64 (J 7)) = v57 at *
              refine wpAnyH_ready (rs := [9]) (by kernel_rfl) (by simp) ?_
              refine AllReadyH.cons rfl (fun K hK => ?_) ?_
              · obtain ⟨c0, c1, c2, c3, c4, c5, c6, c7⟩ := has_vec (x := nil8) hm
                have ff := fun i => hm.free i
                go_simp
                have gm := Has.put8 (z := nil8) hm M
                have gx := Has.keep8 hx hpmx M
                have gy := Has.keep8 hy hpmy M
                have gz := Has.keep8 hz hpmz M
                have gj := Has.keep8 hj hpjm.symm M
                replace hb0 := below_put8 hb0 hsm M
                clear c0 c1 c2 c3 c4 c5 c6 c7 ff
                clear hx
                clear hy
                clear hz
                clear hj
                clear hm
                have hx := gx
                have hy := gy
                have hz := gz
                have hj := gj
                have hm := gm
                clear gx gy gz gj gm
                refine hK.out _ _ ⟨has_vec hx, has_vec hy⟩ (fun hHeld => ?_)
                clear hK K
                try simp only [Act.put, List.setIfInBounds_toArray, List.set_cons_zero, List.set_cons_succ]
                generalize ((((((((v57).setCell ⟨w0.heap.size, 0, none⟩ (.int .i64 (M 0))).setCell ⟨w0.heap.size, 1, none⟩ (.int .i64 (M 1))).setCell ⟨w0.heap.size, 2, none⟩ (.int .i64 (M 2))).setCell ⟨w0.heap.size, 3, none⟩ (.int .i64 (M 3))).setCell ⟨w0.heap.size, 4, none⟩ (.int .i64 (M 4))).setCell ⟨w0.heap.size, 5, none⟩ (.int .i64 (M 5))).setCell ⟨w0.heap.size, 6, none⟩ (.int .i64 (M 6))).setCell ⟨w0.heap.size, 7, none⟩ (.int .i64 (M 7)) = v58 at *
                refine wpAnyH_done (by kernel_rfl) ?_ _
                go_wp2_with fail
                go_meet
                exact ⟨v44.heap.size, w0.heap.size, rfl, rfl, hj, hm, hx, hy, hz, hb0⟩
              exact AllReadyH.nil
            exact AllReadyH.nil
          exact AllReadyH.nil
        exact AllReadyH.nil
      exact AllReadyH.nil
    exact AllReadyH.nil
  case rest =>
    clear HJL HML hx hy hz hb0
    obtain ⟨P, Q0, rfl, rfl, hj, hm, hx, hy, hz, hb0⟩ := hcut
    obtain ⟨cx0, cx1, cx2, cx3, cx4, cx5, cx6, cx7⟩ := has_vec hx
    obtain ⟨cj0, cj1, cj2, cj3, cj4, cj5, cj6, cj7⟩ := has_vec hj
    go_wp2_with fail
    refine (W1.out _).mono ?_
    rintro e v59 ⟨rfl, hb⟩
    clear cx0 cx1 cx2 cx3 cx4 cx5 cx6 cx7 cj0 cj1 cj2 cj3 cj4 cj5 cj6 cj7
    replace hx := hx.below hb
    replace hy := hy.below hb
    replace hz := hz.below hb
    replace hj := hj.below hb
    replace hm := hm.below hb
    replace hb0 := hb0.trans (hb.mono hb0.size)
    clear hb
    obtain ⟨cy0, cy1, cy2, cy3, cy4, cy5, cy6, cy7⟩ := has_vec hy
    obtain ⟨cj0, cj1, cj2, cj3, cj4, cj5, cj6, cj7⟩ := has_vec hj
    go_wp2_with fail
    refine (W2.out _).mono ?_
    rintro e v60 ⟨rfl, hb⟩
    clear cy0 cy1 cy2 cy3 cy4 cy5 cy6 cy7 cj0 cj1 cj2 cj3 cj4 cj5 cj6 cj7
    replace hx := hx.below hb
    replace hy := hy.below hb
    replace hz := hz.below hb
    replace hj := hj.below hb
    replace hm := hm.below hb
    replace hb0 := hb0.trans (hb.mono hb0.size)
    clear hb
    obtain ⟨cx0, cx1, cx2, cx3, cx4, cx5, cx6, cx7⟩ := has_vec hx
    obtain ⟨cm0, cm1, cm2, cm3, cm4, cm5, cm6, cm7⟩ := has_vec hm
    go_wp2_with fail
    refine (W3.out _).mono ?_
    rintro e v61 ⟨rfl, hb⟩
    clear cx0 cx1 cx2 cx3 cx4 cx5 cx6 cx7 cm0 cm1 cm2 cm3 cm4 cm5 cm6 cm7
    replace hx := hx.below hb
    replace hy := hy.below hb
    replace hz := hz.below hb
    replace hj := hj.below hb
    replace hm := hm.below hb
    replace hb0 := hb0.trans (hb.mono hb0.size)
    clear hb
    obtain ⟨cy0, cy1, cy2, cy3, cy4, cy5, cy6, cy7⟩ := has_vec hy
    obtain ⟨cm0, cm1, cm2, cm3, cm4, cm5, cm6, cm7⟩ := has_vec hm
    go_wp2_with fail
    refine (W4.out _).mono ?_
    rintro e v62 ⟨rfl, hb⟩
    clear cy0 cy1 cy2 cy3 cy4 cy5 cy6 cy7 cm0 cm1 cm2 cm3 cm4 cm5 cm6 cm7
    replace hx := hx.below hb
    replace hy := hy.below hb
    replace hz := hz.below hb
    replace hj := hj.below hb
    replace hm := hm.below hb
    replace hb0 := hb0.trans (hb.mono hb0.size)
    clear hb
    have AW := Lib.hid (fun W => awake_any W)
    go_upto_region 4 with fail
    go_cut [48] (fun s48 wx => s48 = .bool false ∧ Has wx P 25 (vecC J) ∧ Has wx Q0 25 (vecC M) ∧ Has wx W.heap.size 25 (vecC x) ∧ Has wx (W.heap.size + 1) 25 (vecC y) ∧ Has wx (W.heap.size + 1 + 1) 25 (vecC z) ∧ Below W.heap.size W wx)
    case first =>
      replace hx := hx.drew
      replace hy := hy.drew
      replace hz := hz.drew
      replace hj := hj.drew
      replace hm := hm.drew
      replace hb0 := hb0.drew
      clear QJ QM QQ HJ2 HM2 HJ3 HJ4 HJ5 W8 W9 W10 AW H8
      cases b5 with
      | false =>
        refine wp_region_held_drew (S := (fun w' => (w'.cell? ⟨W.heap.size, 0, none⟩ = some (.int .i64 (x 0)) ∧ w'.cell? ⟨W.heap.size, 1, none⟩ = some (.int .i64 (x 1)) ∧ w'.cell? ⟨W.heap.size, 2, none⟩ = some (.int .i64 (x 2)) ∧ w'.cell? ⟨W.heap.size, 3, none⟩ = some (.int .i64 (x 3)) ∧ w'.cell? ⟨W.heap.size, 4, none⟩ = some (.int .i64 (x 4)) ∧ w'.cell? ⟨W.heap.size, 5, none⟩ = some (.int .i64 (x 5)) ∧ w'.cell? ⟨W.heap.size, 6, none⟩ = some (.int .i64 (x 6)) ∧ w'.cell? ⟨W.heap.size, 7, none⟩ = some (.int .i64 (x 7))) ∧ (w'.cell? ⟨W.heap.size + 1, 0, none⟩ = some (.int .i64 (y 0)) ∧ w'.cell? ⟨W.heap.size + 1, 1, none⟩ = some (.int .i64 (y 1)) ∧ w'.cell? ⟨W.heap.size + 1, 2, none⟩ = some (.int .i64 (y 2)) ∧ w'.cell? ⟨W.heap.size + 1, 3, none⟩ = some (.int .i64 (y 3)) ∧ w'.cell? ⟨W.heap.size + 1, 4, none⟩ = some (.int .i64 (y 4)) ∧ w'.cell? ⟨W.heap.size + 1, 5, none⟩ = some (.int .i64 (y 5)) ∧ w'.cell? ⟨W.heap.size + 1, 6, none⟩ = some (.int .i64 (y 6)) ∧ w'.cell? ⟨W.heap.size + 1, 7, none⟩ = some (.int .i64 (y 7))) ∧ (w'.cell? ⟨W.heap.size + 1 + 1, 0, none⟩ = some (.int .i64 (z 0)) ∧ w'.cell? ⟨W.heap.size + 1 + 1, 1, none⟩ = some (.int .i64 (z 1)) ∧ w'.cell? ⟨W.heap.size + 1 + 1, 2, none⟩ = some (.int .i64 (z 2)) ∧ w'.cell? ⟨W.heap.size + 1 + 1, 3, none⟩ = some (.int .i64 (z 3)) ∧ w'.cell? ⟨W.heap.size + 1 + 1, 4, none⟩ = some (.int .i64 (z 4)) ∧ w'.cell? ⟨W.heap.size + 1 + 1, 5, none⟩ = some (.int .i64 (z 5)) ∧ w'.cell? ⟨W.heap.size + 1 + 1, 6, none⟩ = some (.int .i64 (z 6)) ∧ w'.cell? ⟨W.heap.size + 1 + 1, 7, none⟩ = some (.int .i64 (z 7))) ∧ (w'.cell? ⟨P, 0, none⟩ = some (.int .i64 (J 0)) ∧ w'.cell? ⟨P, 1, none⟩ = some (.int .i64 (J 1)) ∧ w'.cell? ⟨P, 2, none⟩ = some (.int .i64 (J 2)) ∧ w'.cell? ⟨P, 3, none⟩ = some (.int .i64 (J 3)) ∧ w'.cell? ⟨P, 4, none⟩ = some (.int .i64 (J 4)) ∧ w'.cell? ⟨P, 5, none⟩ = some (.int .i64 (J 5)) ∧ w'.cell? ⟨P, 6, none⟩ = some (.int .i64 (J 6)) ∧ w'.cell? ⟨P, 7, none⟩ = some (.int .i64 (J 7))))) (by kernel_rfl) ⟨has_vec hx, has_vec hy, has_vec hz, has_vec hj⟩ (fun hHeld => ?_)
        refine wpAnyH_read (i := 0) (d := some 37) (v := ?v7) (by rfl) (by rfl) (by kernel_rfl) (by kernel_rfl) (by kernel_rfl) (fun _ _ _ h => h) (by rfl) ?hy7 (by assumption) ?rest7
        case hy7 =>
          intro w hSw
          try dsimp only at hSw
          go_simp
          try with_reducible rfl
        try simp only [Act.put, List.setIfInBounds_toArray, List.set_cons_zero, List.set_cons_succ]
        refine wpAnyH_read (i := 1) (d := some 38) (v := ?v8) (by rfl) (by rfl) (by kernel_rfl) (by kernel_rfl) (by kernel_rfl) (fun _ _ _ h => h) (by rfl) ?hy8 (by assumption) ?rest8
        case hy8 =>
          intro w hSw
          try dsimp only at hSw
          go_simp
          try with_reducible rfl
        try simp only [Act.put, List.setIfInBounds_toArray, List.set_cons_zero, List.set_cons_succ]
        refine wpAnyH_ready (rs := [2]) (by kernel_rfl) (by simp) ?_
        refine AllReadyH.cons rfl (fun K hK => ?_) AllReadyH.nil
        go_simp
        go_at_call 24
        refine (W5.out _).mono ?_
        rintro e v63 ⟨rfl, hb⟩
        replace hx := hx.below hb
        replace hy := hy.below hb
        replace hz := hz.below hb
        replace hj := hj.below hb
        replace hm := hm.below hb
        replace hb0 := hb0.trans (hb.mono hb0.size)
        clear hb
        refine hK.out _ _ ⟨has_vec hx, has_vec hy, has_vec hz, has_vec hj⟩ (fun hHeld => ?_)
        clear hK K
        try simp only [Act.put, List.setIfInBounds_toArray, List.set_cons_zero, List.set_cons_succ]
        refine wpAnyH_read (i := 3) (d := some 40) (v := ?v10) (by rfl) (by rfl) (by kernel_rfl) (by kernel_rfl) (by kernel_rfl) (fun _ _ _ h => h) (by rfl) ?hy10 (by assumption) ?rest10
        case hy10 =>
          intro w hSw
          try dsimp only at hSw
          go_simp
          try with_reducible rfl
        try simp only [Act.put, List.setIfInBounds_toArray, List.set_cons_zero, List.set_cons_succ]
        refine wpAnyH_skip (i := 4) (d := some 41) (by rfl) (by rfl) (by kernel_rfl) (by kernel_rfl) (by kernel_rfl) (fun _ _ _ h => h) (by rfl) (by assumption) ?_
        try simp only [Act.put, List.setIfInBounds_toArray, List.set_cons_zero, List.set_cons_succ]
        refine wpAnyH_skip (i := 5) (d := some 42) (by rfl) (by rfl) (by kernel_rfl) (by kernel_rfl) (by kernel_rfl) (fun _ _ _ h => h) (by rfl) (by assumption) ?_
        try simp only [Act.put, List.setIfInBounds_toArray, List.set_cons_zero, List.set_cons_succ]
        refine wpAnyH_skip (i := 6) (d := some 43) (by rfl) (by rfl) (by kernel_rfl) (by kernel_rfl) (by kernel_rfl) (fun _ _ _ h => h) (by rfl) (by assumption) ?_
        try simp only [Act.put, List.setIfInBounds_toArray, List.set_cons_zero, List.set_cons_succ]
        refine wpAnyH_skip (i := 7) (d := some 44) (by rfl) (by rfl) (by kernel_rfl) (by kernel_rfl) (by kernel_rfl) (fun _ _ _ h => h) (by rfl) (by assumption) ?_
        try simp only [Act.put, List.setIfInBounds_toArray, List.set_cons_zero, List.set_cons_succ]
        refine wpAnyH_skip (i := 8) (d := some 45) (by rfl) (by rfl) (by kernel_rfl) (by kernel_rfl) (by kernel_rfl) (fun _ _ _ h => h) (by rfl) (by assumption) ?_
        try simp only [Act.put, List.setIfInBounds_toArray, List.set_cons_zero, List.set_cons_succ]
        refine wpAnyH_skip (i := 9) (d := some 46) (by rfl) (by rfl) (by kernel_rfl) (by kernel_rfl) (by kernel_rfl) (fun _ _ _ h => h) (by rfl) (by assumption) ?_
        try simp only [Act.put, List.setIfInBounds_toArray, List.set_cons_zero, List.set_cons_succ]
        refine wpAnyH_skip (i := 10) (d := some 47) (by rfl) (by rfl) (by kernel_rfl) (by kernel_rfl) (by kernel_rfl) (fun _ _ _ h => h) (by rfl) (by assumption) ?_
        try simp only [Act.put, List.setIfInBounds_toArray, List.set_cons_zero, List.set_cons_succ]
        refine wpAnyH_read (i := 11) (d := some 48) (v := ?v18) (by rfl) (by rfl) (by kernel_rfl) (by kernel_rfl) (by kernel_rfl) (fun _ _ _ h => h) (by rfl) ?hy18 (by assumption) ?rest18
        case hy18 =>
          intro w hSw
          try dsimp only at hSw
          go_simp
          try with_reducible rfl
        try simp only [Act.put, List.setIfInBounds_toArray, List.set_cons_zero, List.set_cons_succ]
        refine wpAnyH_done (by kernel_rfl) ?_ _
        go_wp2_with fail
        go_meet
        exact ⟨rfl, hj, hm, hx, hy, hz, hb0⟩
      | true =>
        obtain rfl : B3 = B7 := (H7.out rfl).symm
        refine wp_region_held_drew (S := (fun w' => (w'.cell? ⟨W.heap.size, 0, none⟩ = some (.int .i64 (x 0)) ∧ w'.cell? ⟨W.heap.size, 1, none⟩ = some (.int .i64 (x 1)) ∧ w'.cell? ⟨W.heap.size, 2, none⟩ = some (.int .i64 (x 2)) ∧ w'.cell? ⟨W.heap.size, 3, none⟩ = some (.int .i64 (x 3)) ∧ w'.cell? ⟨W.heap.size, 4, none⟩ = some (.int .i64 (x 4)) ∧ w'.cell? ⟨W.heap.size, 5, none⟩ = some (.int .i64 (x 5)) ∧ w'.cell? ⟨W.heap.size, 6, none⟩ = some (.int .i64 (x 6)) ∧ w'.cell? ⟨W.heap.size, 7, none⟩ = some (.int .i64 (x 7))) ∧ (w'.cell? ⟨W.heap.size + 1, 0, none⟩ = some (.int .i64 (y 0)) ∧ w'.cell? ⟨W.heap.size + 1, 1, none⟩ = some (.int .i64 (y 1)) ∧ w'.cell? ⟨W.heap.size + 1, 2, none⟩ = some (.int .i64 (y 2)) ∧ w'.cell? ⟨W.heap.size + 1, 3, none⟩ = some (.int .i64 (y 3)) ∧ w'.cell? ⟨W.heap.size + 1, 4, none⟩ = some (.int .i64 (y 4)) ∧ w'.cell? ⟨W.heap.size + 1, 5, none⟩ = some (.int .i64 (y 5)) ∧ w'.cell? ⟨W.heap.size + 1, 6, none⟩ = some (.int .i64 (y 6)) ∧ w'.cell? ⟨W.heap.size + 1, 7, none⟩ = some (.int .i64 (y 7))) ∧ (w'.cell? ⟨W.heap.size + 1 + 1, 0, none⟩ = some (.int .i64 (z 0)) ∧ w'.cell? ⟨W.heap.size + 1 + 1, 1, none⟩ = some (.int .i64 (z 1)) ∧ w'.cell? ⟨W.heap.size + 1 + 1, 2, none⟩ = some (.int .i64 (z 2)) ∧ w'.cell? ⟨W.heap.size + 1 + 1, 3, none⟩ = some (.int .i64 (z 3)) ∧ w'.cell? ⟨W.heap.size + 1 + 1, 4, none⟩ = some (.int .i64 (z 4)) ∧ w'.cell? ⟨W.heap.size + 1 + 1, 5, none⟩ = some (.int .i64 (z 5)) ∧ w'.cell? ⟨W.heap.size + 1 + 1, 6, none⟩ = some (.int .i64 (z 6)) ∧ w'.cell? ⟨W.heap.size + 1 + 1, 7, none⟩ = some (.int .i64 (z 7))) ∧ (w'.cell? ⟨P, 0, none⟩ = some (.int .i64 (J 0)) ∧ w'.cell? ⟨P, 1, none⟩ = some (.int .i64 (J 1)) ∧ w'.cell? ⟨P, 2, none⟩ = some (.int .i64 (J 2)) ∧ w'.cell? ⟨P, 3, none⟩ = some (.int .i64 (J 3)) ∧ w'.cell? ⟨P, 4, none⟩ = some (.int .i64 (J 4)) ∧ w'.cell? ⟨P, 5, none⟩ = some (.int .i64 (J 5)) ∧ w'.cell? ⟨P, 6, none⟩ = some (.int .i64 (J 6)) ∧ w'.cell? ⟨P, 7, none⟩ = some (.int .i64 (J 7))))) (by kernel_rfl) ⟨has_vec hx, has_vec hy, has_vec hz, has_vec hj⟩ (fun hHeld => ?_)
        refine wpAnyH_read (i := 0) (d := some 37) (v := ?v21) (by rfl) (by rfl) (by kernel_rfl) (by kernel_rfl) (by kernel_rfl) (fun _ _ _ h => h) (by rfl) ?hy21 (by assumption) ?rest21
        case hy21 =>
          intro w hSw
          try dsimp only at hSw
          go_simp
          try with_reducible rfl
        try simp only [Act.put, List.setIfInBounds_toArray, List.set_cons_zero, List.set_cons_succ]
        refine wpAnyH_read (i := 1) (d := some 38) (v := ?v22) (by rfl) (by rfl) (by kernel_rfl) (by kernel_rfl) (by kernel_rfl) (fun _ _ _ h => h) (by rfl) ?hy22 (by assumption) ?rest22
        case hy22 =>
          intro w hSw
          try dsimp only at hSw
          go_simp
          try with_reducible rfl
        try simp only [Act.put, List.setIfInBounds_toArray, List.set_cons_zero, List.set_cons_succ]
        refine wpAnyH_ready (rs := [2]) (by kernel_rfl) (by simp) ?_
        refine AllReadyH.cons rfl (fun K hK => ?_) AllReadyH.nil
        go_simp
        go_at_call 24
        refine (W5.out _).mono ?_
        rintro e v64 ⟨rfl, hb⟩
        replace hx := hx.below hb
        replace hy := hy.below hb
        replace hz := hz.below hb
        replace hj := hj.below hb
        replace hm := hm.below hb
        replace hb0 := hb0.trans (hb.mono hb0.size)
        clear hb
        refine hK.out _ _ ⟨has_vec hx, has_vec hy, has_vec hz, has_vec hj⟩ (fun hHeld => ?_)
        clear hK K
        try simp only [Act.put, List.setIfInBounds_toArray, List.set_cons_zero, List.set_cons_succ]
        refine wpAnyH_read (i := 3) (d := some 40) (v := ?v24) (by rfl) (by rfl) (by kernel_rfl) (by kernel_rfl) (by kernel_rfl) (fun _ _ _ h => h) (by rfl) ?hy24 (by assumption) ?rest24
        case hy24 =>
          intro w hSw
          try dsimp only at hSw
          go_simp
          try with_reducible rfl
        try simp only [Act.put, List.setIfInBounds_toArray, List.set_cons_zero, List.set_cons_succ]
        refine wpAnyH_read (i := 4) (d := some 41) (v := ?v25) (by rfl) (by rfl) (by kernel_rfl) (by kernel_rfl) (by kernel_rfl) (fun _ _ _ h => h) (by rfl) ?hy25 (by assumption) ?rest25
        case hy25 =>
          intro w hSw
          try dsimp only at hSw
          go_simp
          try with_reducible rfl
        try simp only [Act.put, List.setIfInBounds_toArray, List.set_cons_zero, List.set_cons_succ]
        refine wpAnyH_read (i := 5) (d := some 42) (v := ?v26) (by rfl) (by rfl) (by kernel_rfl) (by kernel_rfl) (by kernel_rfl) (fun _ _ _ h => h) (by rfl) ?hy26 (by assumption) ?rest26
        case hy26 =>
          intro w hSw
          try dsimp only at hSw
          go_simp
          try with_reducible rfl
        try simp only [Act.put, List.setIfInBounds_toArray, List.set_cons_zero, List.set_cons_succ]
        refine wpAnyH_read (i := 7) (d := some 44) (v := ?v27) (by rfl) (by rfl) (by kernel_rfl) (by kernel_rfl) (by kernel_rfl) (fun _ _ _ h => h) (by rfl) ?hy27 (by assumption) ?rest27
        case hy27 =>
          intro w hSw
          try dsimp only at hSw
          go_simp
          try with_reducible rfl
        try simp only [Act.put, List.setIfInBounds_toArray, List.set_cons_zero, List.set_cons_succ]
        refine wpAnyH_read (i := 8) (d := some 45) (v := ?v28) (by rfl) (by rfl) (by kernel_rfl) (by kernel_rfl) (by kernel_rfl) (fun _ _ _ h => h) (by rfl) ?hy28 (by assumption) ?rest28
        case hy28 =>
          intro w hSw
          try dsimp only at hSw
          go_simp
          try with_reducible rfl
        try simp only [Act.put, List.setIfInBounds_toArray, List.set_cons_zero, List.set_cons_succ]
        refine wpAnyH_ready (rs := [6]) (by kernel_rfl) (by simp) ?_
        refine AllReadyH.cons rfl (fun K hK => ?_) AllReadyH.nil
        go_simp
        go_at_call 24
        refine (W6.out _).mono ?_
        rintro e v65 ⟨rfl, hb⟩
        replace hx := hx.below hb
        replace hy := hy.below hb
        replace hz := hz.below hb
        replace hj := hj.below hb
        replace hm := hm.below hb
        replace hb0 := hb0.trans (hb.mono hb0.size)
        clear hb
        refine hK.out _ _ ⟨has_vec hx, has_vec hy, has_vec hz, has_vec hj⟩ (fun hHeld => ?_)
        clear hK K
        try simp only [Act.put, List.setIfInBounds_toArray, List.set_cons_zero, List.set_cons_succ]
        refine wpAnyH_ready (rs := [9]) (by kernel_rfl) (by simp) ?_
        refine AllReadyH.cons rfl (fun K hK => ?_) AllReadyH.nil
        go_simp
        go_at_call 24
        refine (W7.out _).mono ?_
        rintro e v66 ⟨rfl, hb⟩
        replace hx := hx.below hb
        replace hy := hy.below hb
        replace hz := hz.below hb
        replace hj := hj.below hb
        replace hm := hm.below hb
        replace hb0 := hb0.trans (hb.mono hb0.size)
        clear hb
        refine hK.out _ _ ⟨has_vec hx, has_vec hy, has_vec hz, has_vec hj⟩ (fun hHeld => ?_)
        clear hK K
        try simp only [Act.put, List.setIfInBounds_toArray, List.set_cons_zero, List.set_cons_succ]
        refine wpAnyH_read (i := 10) (d := some 47) (v := ?v31) (by rfl) (by rfl) (by kernel_rfl) (by kernel_rfl) (by kernel_rfl) (fun _ _ _ h => h) (by rfl) ?hy31 (by assumption) ?rest31
        case hy31 =>
          intro w hSw
          try dsimp only at hSw
          go_simp
          try with_reducible rfl
        try simp only [Act.put, List.setIfInBounds_toArray, List.set_cons_zero, List.set_cons_succ]
        refine wpAnyH_read (i := 11) (d := some 48) (v := ?v32) (by rfl) (by rfl) (by kernel_rfl) (by kernel_rfl) (by kernel_rfl) (fun _ _ _ h => h) (by rfl) ?hy32 (by assumption) ?rest32
        case hy32 =>
          intro w hSw
          try dsimp only at hSw
          go_simp
          try with_reducible rfl
        try simp only [Act.put, List.setIfInBounds_toArray, List.set_cons_zero, List.set_cons_succ]
        refine wpAnyH_done (by kernel_rfl) ?_ _
        go_wp2_with fail
        go_meet
        exact ⟨rfl, hj, hm, hx, hy, hz, hb0⟩
    case rest =>
      clear hx hy hz hj hm hb0
      obtain ⟨rfl, hj, hm, hx, hy, hz, hb0⟩ := hcut
      clear W5 W6 W7 H7
      go_wp2_with fail
      replace hx := hx.drew
      replace hy := hy.drew
      replace hz := hz.drew
      replace hj := hj.drew
      replace hm := hm.drew
      replace hb0 := hb0.drew
      have qj := QJ.out
      have qm := QM.out
      have qq := QQ.out
      clear QJ QM QQ
      cases b9 with
      | false =>
        obtain rfl : B8 = false := by rw [H8.out, Bool.false_and]
        refine wp_region_held_drew (S := (fun w' => (w'.cell? ⟨W.heap.size, 0, none⟩ = some (.int .i64 (x 0)) ∧ w'.cell? ⟨W.heap.size, 1, none⟩ = some (.int .i64 (x 1)) ∧ w'.cell? ⟨W.heap.size, 2, none⟩ = some (.int .i64 (x 2)) ∧ w'.cell? ⟨W.heap.size, 3, none⟩ = some (.int .i64 (x 3)) ∧ w'.cell? ⟨W.heap.size, 4, none⟩ = some (.int .i64 (x 4)) ∧ w'.cell? ⟨W.heap.size, 5, none⟩ = some (.int .i64 (x 5)) ∧ w'.cell? ⟨W.heap.size, 6, none⟩ = some (.int .i64 (x 6)) ∧ w'.cell? ⟨W.heap.size, 7, none⟩ = some (.int .i64 (x 7))) ∧ (w'.cell? ⟨W.heap.size + 1, 0, none⟩ = some (.int .i64 (y 0)) ∧ w'.cell? ⟨W.heap.size + 1, 1, none⟩ = some (.int .i64 (y 1)) ∧ w'.cell? ⟨W.heap.size + 1, 2, none⟩ = some (.int .i64 (y 2)) ∧ w'.cell? ⟨W.heap.size + 1, 3, none⟩ = some (.int .i64 (y 3)) ∧ w'.cell? ⟨W.heap.size + 1, 4, none⟩ = some (.int .i64 (y 4)) ∧ w'.cell? ⟨W.heap.size + 1, 5, none⟩ = some (.int .i64 (y 5)) ∧ w'.cell? ⟨W.heap.size + 1, 6, none⟩ = some (.int .i64 (y 6)) ∧ w'.cell? ⟨W.heap.size + 1, 7, none⟩ = some (.int .i64 (y 7))) ∧ (w'.cell? ⟨W.heap.size + 1 + 1, 0, none⟩ = some (.int .i64 (z 0)) ∧ w'.cell? ⟨W.heap.size + 1 + 1, 1, none⟩ = some (.int .i64 (z 1)) ∧ w'.cell? ⟨W.heap.size + 1 + 1, 2, none⟩ = some (.int .i64 (z 2)) ∧ w'.cell? ⟨W.heap.size + 1 + 1, 3, none⟩ = some (.int .i64 (z 3)) ∧ w'.cell? ⟨W.heap.size + 1 + 1, 4, none⟩ = some (.int .i64 (z 4)) ∧ w'.cell? ⟨W.heap.size + 1 + 1, 5, none⟩ = some (.int .i64 (z 5)) ∧ w'.cell? ⟨W.heap.size + 1 + 1, 6, none⟩ = some (.int .i64 (z 6)) ∧ w'.cell? ⟨W.heap.size + 1 + 1, 7, none⟩ = some (.int .i64 (z 7))) ∧ (w'.cell? ⟨P, 0, none⟩ = some (.int .i64 (J 0)) ∧ w'.cell? ⟨P, 1, none⟩ = some (.int .i64 (J 1)) ∧ w'.cell? ⟨P, 2, none⟩ = some (.int .i64 (J 2)) ∧ w'.cell? ⟨P, 3, none⟩ = some (.int .i64 (J 3)) ∧ w'.cell? ⟨P, 4, none⟩ = some (.int .i64 (J 4)) ∧ w'.cell? ⟨P, 5, none⟩ = some (.int .i64 (J 5)) ∧ w'.cell? ⟨P, 6, none⟩ = some (.int .i64 (J 6)) ∧ w'.cell? ⟨P, 7, none⟩ = some (.int .i64 (J 7))) ∧ (w'.cell? ⟨Q0, 0, none⟩ = some (.int .i64 (M 0)) ∧ w'.cell? ⟨Q0, 1, none⟩ = some (.int .i64 (M 1)) ∧ w'.cell? ⟨Q0, 2, none⟩ = some (.int .i64 (M 2)) ∧ w'.cell? ⟨Q0, 3, none⟩ = some (.int .i64 (M 3)) ∧ w'.cell? ⟨Q0, 4, none⟩ = some (.int .i64 (M 4)) ∧ w'.cell? ⟨Q0, 5, none⟩ = some (.int .i64 (M 5)) ∧ w'.cell? ⟨Q0, 6, none⟩ = some (.int .i64 (M 6)) ∧ w'.cell? ⟨Q0, 7, none⟩ = some (.int .i64 (M 7))))) (by kernel_rfl) ⟨has_vec hx, has_vec hy, has_vec hz, has_vec hj, has_vec hm⟩ (fun hHeld => ?_)
        refine wpAnyH_read (i := 0) (d := some 49) (v := ?v35) (by rfl) (by rfl) (by kernel_rfl) (by kernel_rfl) (by kernel_rfl) (fun _ _ _ h => h) (by rfl) ?hy35 (by assumption) ?rest35
        case hy35 =>
          intro w hSw
          try dsimp only at hSw
          go_simp
          try with_reducible rfl
        try simp only [Act.put, List.setIfInBounds_toArray, List.set_cons_zero, List.set_cons_succ]
        refine wpAnyH_read (i := 1) (d := some 50) (v := ?v36) (by rfl) (by rfl) (by kernel_rfl) (by kernel_rfl) (by kernel_rfl) (fun _ _ _ h => h) (by rfl) ?hy36 (by assumption) ?rest36
        case hy36 =>
          intro w hSw
          try dsimp only at hSw
          go_simp
          try with_reducible rfl
        try simp only [Act.put, List.setIfInBounds_toArray, List.set_cons_zero, List.set_cons_succ]
        refine wpAnyH_read (i := 3) (d := some 52) (v := ?v37) (by rfl) (by rfl) (by kernel_rfl) (by kernel_rfl) (by kernel_rfl) (fun _ _ _ h => h) (by rfl) ?hy37 (by assumption) ?rest37
        case hy37 =>
          intro w hSw
          try dsimp only at hSw
          go_simp
          try with_reducible rfl
        try simp only [Act.put, List.setIfInBounds_toArray, List.set_cons_zero, List.set_cons_succ]
        refine wpAnyH_read (i := 4) (d := some 53) (v := ?v38) (by rfl) (by rfl) (by kernel_rfl) (by kernel_rfl) (by kernel_rfl) (fun _ _ _ h => h) (by rfl) ?hy38 (by assumption) ?rest38
        case hy38 =>
          intro w hSw
          try dsimp only at hSw
          go_simp
          try with_reducible rfl
        try simp only [Act.put, List.setIfInBounds_toArray, List.set_cons_zero, List.set_cons_succ]
        refine wpAnyH_ready (rs := [2]) (by kernel_rfl) (by simp) ?_
        refine AllReadyH.cons rfl (fun K hK => ?_) AllReadyH.nil
        go_simp
        go_at_call 24
        refine (W8.out _).mono ?_
        rintro e v67 ⟨rfl, hb⟩
        replace hx := hx.below hb
        replace hy := hy.below hb
        replace hz := hz.below hb
        replace hj := hj.below hb
        replace hm := hm.below hb
        replace hb0 := hb0.trans (hb.mono hb0.size)
        clear hb
        refine hK.out _ _ ⟨has_vec hx, has_vec hy, has_vec hz, has_vec hj, has_vec hm⟩ (fun hHeld => ?_)
        clear hK K
        try simp only [Act.put, List.setIfInBounds_toArray, List.set_cons_zero, List.set_cons_succ]
        refine wpAnyH_ready (rs := [5]) (by kernel_rfl) (by simp) ?_
        refine AllReadyH.cons rfl (fun K hK => ?_) AllReadyH.nil
        go_simp
        go_at_call 24
        refine (W9.out _).mono ?_
        rintro e v68 ⟨rfl, hb⟩
        replace hx := hx.below hb
        replace hy := hy.below hb
        replace hz := hz.below hb
        replace hj := hj.below hb
        replace hm := hm.below hb
        replace hb0 := hb0.trans (hb.mono hb0.size)
        clear hb
        refine hK.out _ _ ⟨has_vec hx, has_vec hy, has_vec hz, has_vec hj, has_vec hm⟩ (fun hHeld => ?_)
        clear hK K
        try simp only [Act.put, List.setIfInBounds_toArray, List.set_cons_zero, List.set_cons_succ]
        refine wpAnyH_read (i := 6) (d := some 55) (v := ?v41) (by rfl) (by rfl) (by kernel_rfl) (by kernel_rfl) (by kernel_rfl) (fun _ _ _ h => h) (by rfl) ?hy41 (by assumption) ?rest41
        case hy41 =>
          intro w hSw
          try dsimp only at hSw
          go_simp
          try with_reducible rfl
        try simp only [Act.put, List.setIfInBounds_toArray, List.set_cons_zero, List.set_cons_succ]
        refine wpAnyH_skip (i := 7) (d := some 56) (by rfl) (by rfl) (by kernel_rfl) (by kernel_rfl) (by kernel_rfl) (fun _ _ _ h => h) (by rfl) (by assumption) ?_
        try simp only [Act.put, List.setIfInBounds_toArray, List.set_cons_zero, List.set_cons_succ]
        refine wpAnyH_skip (i := 8) (d := some 57) (by rfl) (by rfl) (by kernel_rfl) (by kernel_rfl) (by kernel_rfl) (fun _ _ _ h => h) (by rfl) (by assumption) ?_
        try simp only [Act.put, List.setIfInBounds_toArray, List.set_cons_zero, List.set_cons_succ]
        refine wpAnyH_skip (i := 9) (d := some 58) (by rfl) (by rfl) (by kernel_rfl) (by kernel_rfl) (by kernel_rfl) (fun _ _ _ h => h) (by rfl) (by assumption) ?_
        try simp only [Act.put, List.setIfInBounds_toArray, List.set_cons_zero, List.set_cons_succ]
        refine wpAnyH_read (i := 10) (d := some 59) (v := ?v45) (by rfl) (by rfl) (by kernel_rfl) (by kernel_rfl) (by kernel_rfl) (fun _ _ _ h => h) (by rfl) ?hy45 (by assumption) ?rest45
        case hy45 =>
          intro w hSw
          try dsimp only at hSw
          go_simp
          try with_reducible rfl
        try simp only [Act.put, List.setIfInBounds_toArray, List.set_cons_zero, List.set_cons_succ]
        refine wpAnyH_read (i := 11) (d := some 60) (v := ?v46) (by rfl) (by rfl) (by kernel_rfl) (by kernel_rfl) (by kernel_rfl) (fun _ _ _ h => h) (by rfl) ?hy46 (by assumption) ?rest46
        case hy46 =>
          intro w hSw
          try dsimp only at hSw
          go_simp
          try with_reducible rfl
        try simp only [Act.put, List.setIfInBounds_toArray, List.set_cons_zero, List.set_cons_succ]
        refine wpAnyH_read (i := 12) (d := some 61) (v := ?v47) (by rfl) (by rfl) (by kernel_rfl) (by kernel_rfl) (by kernel_rfl) (fun _ _ _ h => h) (by rfl) ?hy47 (by assumption) ?rest47
        case hy47 =>
          intro w hSw
          try dsimp only at hSw
          go_simp
          try with_reducible rfl
        try simp only [Act.put, List.setIfInBounds_toArray, List.set_cons_zero, List.set_cons_succ]
        refine wpAnyH_read (i := 13) (d := some 62) (v := ?v48) (by rfl) (by rfl) (by kernel_rfl) (by kernel_rfl) (by kernel_rfl) (fun _ _ _ h => h) (by rfl) ?hy48 (by assumption) ?rest48
        case hy48 =>
          intro w hSw
          try dsimp only at hSw
          go_simp
          try with_reducible rfl
        try simp only [Act.put, List.setIfInBounds_toArray, List.set_cons_zero, List.set_cons_succ]
        refine wpAnyH_read (i := 14) (d := some 63) (v := ?v49) (by rfl) (by rfl) (by kernel_rfl) (by kernel_rfl) (by kernel_rfl) (fun _ _ _ h => h) (by rfl) ?hy49 (by assumption) ?rest49
        case hy49 =>
          intro w hSw
          try dsimp only at hSw
          go_simp
          try with_reducible rfl
        try simp only [Act.put, List.setIfInBounds_toArray, List.set_cons_zero, List.set_cons_succ]
        refine wpAnyH_read (i := 15) (d := some 64) (v := ?v50) (by rfl) (by rfl) (by kernel_rfl) (by kernel_rfl) (by kernel_rfl) (fun _ _ _ h => h) (by rfl) ?hy50 (by assumption) ?rest50
        case hy50 =>
          intro w hSw
          try dsimp only at hSw
          go_simp
          try with_reducible rfl
        try simp only [Act.put, List.setIfInBounds_toArray, List.set_cons_zero, List.set_cons_succ]
        refine wpAnyH_ready (rs := [16]) (by kernel_rfl) (by simp) ?_
        refine AllReadyH.cons rfl (fun K hK => ?_) AllReadyH.nil
        go_simp
        go_at_call 20
        refine (HJ2.out _).mono ?_
        rintro e v69 ⟨rfl, hb⟩
        replace hx := hx.below hb
        replace hy := hy.below hb
        replace hz := hz.below hb
        replace hj := hj.below hb
        replace hm := hm.below hb
        replace hb0 := hb0.trans (hb.mono hb0.size)
        clear hb
        refine hK.out _ _ ⟨has_vec hx, has_vec hy, has_vec hz, has_vec hj, has_vec hm⟩ (fun hHeld => ?_)
        clear hK K
        try simp only [Act.put, List.setIfInBounds_toArray, List.set_cons_zero, List.set_cons_succ]
        refine wpAnyH_read (i := 17) (d := some 66) (v := ?v52) (by rfl) (by rfl) (by kernel_rfl) (by kernel_rfl) (by kernel_rfl) (fun _ _ _ h => h) (by rfl) ?hy52 (by assumption) ?rest52
        case hy52 =>
          intro w hSw
          try dsimp only at hSw
          go_simp
          try with_reducible rfl
        try simp only [Act.put, List.setIfInBounds_toArray, List.set_cons_zero, List.set_cons_succ]
        refine wpAnyH_read (i := 18) (d := some 67) (v := ?v53) (by rfl) (by rfl) (by kernel_rfl) (by kernel_rfl) (by kernel_rfl) (fun _ _ _ h => h) (by rfl) ?hy53 (by assumption) ?rest53
        case hy53 =>
          intro w hSw
          try dsimp only at hSw
          go_simp
          try with_reducible rfl
        try simp only [Act.put, List.setIfInBounds_toArray, List.set_cons_zero, List.set_cons_succ]
        refine wpAnyH_read (i := 19) (d := some 68) (v := ?v54) (by rfl) (by rfl) (by kernel_rfl) (by kernel_rfl) (by kernel_rfl) (fun _ _ _ h => h) (by rfl) ?hy54 (by assumption) ?rest54
        case hy54 =>
          intro w hSw
          try dsimp only at hSw
          go_simp
          try with_reducible rfl
        try simp only [Act.put, List.setIfInBounds_toArray, List.set_cons_zero, List.set_cons_succ]
        refine wpAnyH_read (i := 20) (d := some 69) (v := ?v55) (by rfl) (by rfl) (by kernel_rfl) (by kernel_rfl) (by kernel_rfl) (fun _ _ _ h => h) (by rfl) ?hy55 (by assumption) ?rest55
        case hy55 =>
          intro w hSw
          try dsimp only at hSw
          go_simp
          try with_reducible rfl
        try simp only [Act.put, List.setIfInBounds_toArray, List.set_cons_zero, List.set_cons_succ]
        refine wpAnyH_read (i := 21) (d := some 70) (v := ?v56) (by rfl) (by rfl) (by kernel_rfl) (by kernel_rfl) (by kernel_rfl) (fun _ _ _ h => h) (by rfl) ?hy56 (by assumption) ?rest56
        case hy56 =>
          intro w hSw
          try dsimp only at hSw
          go_simp
          try with_reducible rfl
        try simp only [Act.put, List.setIfInBounds_toArray, List.set_cons_zero, List.set_cons_succ]
        refine wpAnyH_read (i := 22) (d := some 71) (v := ?v57) (by rfl) (by rfl) (by kernel_rfl) (by kernel_rfl) (by kernel_rfl) (fun _ _ _ h => h) (by rfl) ?hy57 (by assumption) ?rest57
        case hy57 =>
          intro w hSw
          try dsimp only at hSw
          go_simp
          try with_reducible rfl
        try simp only [Act.put, List.setIfInBounds_toArray, List.set_cons_zero, List.set_cons_succ]
        refine wpAnyH_ready (rs := [23]) (by kernel_rfl) (by simp) ?_
        refine AllReadyH.cons rfl (fun K hK => ?_) AllReadyH.nil
        go_simp
        go_at_call 22
        refine (HM2.out _).mono ?_
        rintro e v70 ⟨rfl, hb⟩
        replace hx := hx.below hb
        replace hy := hy.below hb
        replace hz := hz.below hb
        replace hj := hj.below hb
        replace hm := hm.below hb
        replace hb0 := hb0.trans (hb.mono hb0.size)
        clear hb
        refine hK.out _ _ ⟨has_vec hx, has_vec hy, has_vec hz, has_vec hj, has_vec hm⟩ (fun hHeld => ?_)
        clear hK K
        try simp only [Act.put, List.setIfInBounds_toArray, List.set_cons_zero, List.set_cons_succ]
        refine wpAnyH_read (i := 24) (d := some 73) (v := ?v59) (by rfl) (by rfl) (by kernel_rfl) (by kernel_rfl) (by kernel_rfl) (fun _ _ _ h => h) (by rfl) ?hy59 (by assumption) ?rest59
        case hy59 =>
          intro w hSw
          try dsimp only at hSw
          go_simp
          try with_reducible rfl
        try simp only [Act.put, List.setIfInBounds_toArray, List.set_cons_zero, List.set_cons_succ]
        refine wpAnyH_read (i := 25) (d := some 74) (v := ?v60) (by rfl) (by rfl) (by kernel_rfl) (by kernel_rfl) (by kernel_rfl) (fun _ _ _ h => h) (by rfl) ?hy60 (by assumption) ?rest60
        case hy60 =>
          intro w hSw
          try dsimp only at hSw
          go_simp
          try with_reducible rfl
        try simp only [Act.put, List.setIfInBounds_toArray, List.set_cons_zero, List.set_cons_succ]
        refine wpAnyH_read (i := 26) (d := some 75) (v := ?v61) (by rfl) (by rfl) (by kernel_rfl) (by kernel_rfl) (by kernel_rfl) (fun _ _ _ h => h) (by rfl) ?hy61 (by assumption) ?rest61
        case hy61 =>
          intro w hSw
          try dsimp only at hSw
          go_simp
          try with_reducible rfl
        try simp only [Act.put, List.setIfInBounds_toArray, List.set_cons_zero, List.set_cons_succ]
        refine wpAnyH_read (i := 27) (d := some 76) (v := ?v62) (by rfl) (by rfl) (by kernel_rfl) (by kernel_rfl) (by kernel_rfl) (fun _ _ _ h => h) (by rfl) ?hy62 (by assumption) ?rest62
        case hy62 =>
          intro w hSw
          try dsimp only at hSw
          go_simp
          try with_reducible rfl
        try simp only [Act.put, List.setIfInBounds_toArray, List.set_cons_zero, List.set_cons_succ]
        refine wpAnyH_read (i := 28) (d := some 77) (v := ?v63) (by rfl) (by rfl) (by kernel_rfl) (by kernel_rfl) (by kernel_rfl) (fun _ _ _ h => h) (by rfl) ?hy63 (by assumption) ?rest63
        case hy63 =>
          intro w hSw
          try dsimp only at hSw
          go_simp
          try with_reducible rfl
        try simp only [Act.put, List.setIfInBounds_toArray, List.set_cons_zero, List.set_cons_succ]
        refine wpAnyH_read (i := 30) (d := some 79) (v := ?v64) (by rfl) (by rfl) (by kernel_rfl) (by kernel_rfl) (by kernel_rfl) (fun _ _ _ h => h) (by rfl) ?hy64 (by assumption) ?rest64
        case hy64 =>
          intro w hSw
          try dsimp only at hSw
          go_simp
          try with_reducible rfl
        try simp only [Act.put, List.setIfInBounds_toArray, List.set_cons_zero, List.set_cons_succ]
        refine wpAnyH_read (i := 31) (d := some 80) (v := ?v65) (by rfl) (by rfl) (by kernel_rfl) (by kernel_rfl) (by kernel_rfl) (fun _ _ _ h => h) (by rfl) ?hy65 (by assumption) ?rest65
        case hy65 =>
          intro w hSw
          try dsimp only at hSw
          go_simp
          try with_reducible rfl
        try simp only [Act.put, List.setIfInBounds_toArray, List.set_cons_zero, List.set_cons_succ]
        refine wpAnyH_read (i := 32) (d := some 81) (v := ?v66) (by rfl) (by rfl) (by kernel_rfl) (by kernel_rfl) (by kernel_rfl) (fun _ _ _ h => h) (by rfl) ?hy66 (by assumption) ?rest66
        case hy66 =>
          intro w hSw
          try dsimp only at hSw
          go_simp
          try with_reducible rfl
        try simp only [Act.put, List.setIfInBounds_toArray, List.set_cons_zero, List.set_cons_succ]
        refine wpAnyH_ready (rs := [29]) (by kernel_rfl) (by simp) ?_
        refine AllReadyH.cons rfl (fun K hK => ?_) AllReadyH.nil
        go_simp
        go_at_call 20
        refine (HJ3.out _).mono ?_
        rintro e v71 ⟨rfl, hb⟩
        replace hx := hx.below hb
        replace hy := hy.below hb
        replace hz := hz.below hb
        replace hj := hj.below hb
        replace hm := hm.below hb
        replace hb0 := hb0.trans (hb.mono hb0.size)
        clear hb
        refine hK.out _ _ ⟨has_vec hx, has_vec hy, has_vec hz, has_vec hj, has_vec hm⟩ (fun hHeld => ?_)
        clear hK K
        try simp only [Act.put, List.setIfInBounds_toArray, List.set_cons_zero, List.set_cons_succ]
        refine wpAnyH_ready (rs := [33]) (by kernel_rfl) (by simp) ?_
        refine AllReadyH.cons rfl (fun K hK => ?_) AllReadyH.nil
        go_simp
        go_at_call 20
        refine (HJ4.out _).mono ?_
        rintro e v72 ⟨rfl, hb⟩
        replace hx := hx.below hb
        replace hy := hy.below hb
        replace hz := hz.below hb
        replace hj := hj.below hb
        replace hm := hm.below hb
        replace hb0 := hb0.trans (hb.mono hb0.size)
        clear hb
        refine hK.out _ _ ⟨has_vec hx, has_vec hy, has_vec hz, has_vec hj, has_vec hm⟩ (fun hHeld => ?_)
        clear hK K
        try simp only [Act.put, List.setIfInBounds_toArray, List.set_cons_zero, List.set_cons_succ]
        refine wpAnyH_ready (rs := [34]) (by kernel_rfl) (by simp) ?_
        refine AllReadyH.cons rfl (fun K hK => ?_) AllReadyH.nil
        go_simp
        go_at_call 20
        refine (HJ5.out _).mono ?_
        rintro e v73 ⟨rfl, hb⟩
        replace hx := hx.below hb
        replace hy := hy.below hb
        replace hz := hz.below hb
        replace hj := hj.below hb
        replace hm := hm.below hb
        replace hb0 := hb0.trans (hb.mono hb0.size)
        clear hb
        refine hK.out _ _ ⟨has_vec hx, has_vec hy, has_vec hz, has_vec hj, has_vec hm⟩ (fun hHeld => ?_)
        clear hK K
        try simp only [Act.put, List.setIfInBounds_toArray, List.set_cons_zero, List.set_cons_succ]
        refine wpAnyH_read (i := 35) (d := some 84) (v := ?v70) (by rfl) (by rfl) (by kernel_rfl) (by kernel_rfl) (by kernel_rfl) (fun _ _ _ h => h) (by rfl) ?hy70 (by assumption) ?rest70
        case hy70 =>
          intro w hSw
          try dsimp only at hSw
          go_simp
          try with_reducible rfl
        try simp only [Act.put, List.setIfInBounds_toArray, List.set_cons_zero, List.set_cons_succ]
        refine wpAnyH_read (i := 36) (d := some 85) (v := ?v71) (by rfl) (by rfl) (by kernel_rfl) (by kernel_rfl) (by kernel_rfl) (fun _ _ _ h => h) (by rfl) ?hy71 (by assumption) ?rest71
        case hy71 =>
          intro w hSw
          try dsimp only at hSw
          go_simp
          try with_reducible rfl
        try simp only [Act.put, List.setIfInBounds_toArray, List.set_cons_zero, List.set_cons_succ]
        refine wpAnyH_read (i := 37) (d := some 86) (v := ?v72) (by rfl) (by rfl) (by kernel_rfl) (by kernel_rfl) (by kernel_rfl) (fun _ _ _ h => h) (by rfl) ?hy72 (by assumption) ?rest72
        case hy72 =>
          intro w hSw
          try dsimp only at hSw
          go_simp
          try with_reducible rfl
        try simp only [Act.put, List.setIfInBounds_toArray, List.set_cons_zero, List.set_cons_succ]
        refine wpAnyH_ready (rs := [38]) (by kernel_rfl) (by simp) ?_
        refine AllReadyH.cons rfl (fun K hK => ?_) AllReadyH.nil
        go_simp
        go_at_call 19
        refine (AW.out _).mono ?_
        rintro e v74 ⟨rfl, hb⟩
        replace hx := hx.below hb
        replace hy := hy.below hb
        replace hz := hz.below hb
        replace hj := hj.below hb
        replace hm := hm.below hb
        replace hb0 := hb0.trans (hb.mono hb0.size)
        clear hb
        refine hK.out _ _ ⟨has_vec hx, has_vec hy, has_vec hz, has_vec hj, has_vec hm⟩ (fun hHeld => ?_)
        clear hK K
        try simp only [Act.put, List.setIfInBounds_toArray, List.set_cons_zero, List.set_cons_succ]
        refine wpAnyH_read (i := 39) (d := some 88) (v := ?v74) (by rfl) (by rfl) (by kernel_rfl) (by kernel_rfl) (by kernel_rfl) (fun _ _ _ h => h) (by rfl) ?hy74 (by assumption) ?rest74
        case hy74 =>
          intro w hSw
          try dsimp only at hSw
          go_simp
          try with_reducible rfl
        try simp only [Act.put, List.setIfInBounds_toArray, List.set_cons_zero, List.set_cons_succ]
        refine wpAnyH_read (i := 40) (d := some 6) (v := ?v75) (by rfl) (by rfl) (by kernel_rfl) (by kernel_rfl) (by kernel_rfl) (fun _ _ _ h => h) (by rfl) ?hy75 (by assumption) ?rest75
        case hy75 =>
          intro w hSw
          try dsimp only at hSw
          go_simp
          try with_reducible rfl
        try simp only [Act.put, List.setIfInBounds_toArray, List.set_cons_zero, List.set_cons_succ]
        refine wpAnyH_done (by kernel_rfl) ?_ _
        go_wp2
        go_ret
        exact ⟨rfl, hb0⟩
      | true =>
        obtain rfl : B4 = B8 := by rw [H8.out, Bool.true_and]
        refine wp_region_held_drew (S := (fun w' => (w'.cell? ⟨W.heap.size, 0, none⟩ = some (.int .i64 (x 0)) ∧ w'.cell? ⟨W.heap.size, 1, none⟩ = some (.int .i64 (x 1)) ∧ w'.cell? ⟨W.heap.size, 2, none⟩ = some (.int .i64 (x 2)) ∧ w'.cell? ⟨W.heap.size, 3, none⟩ = some (.int .i64 (x 3)) ∧ w'.cell? ⟨W.heap.size, 4, none⟩ = some (.int .i64 (x 4)) ∧ w'.cell? ⟨W.heap.size, 5, none⟩ = some (.int .i64 (x 5)) ∧ w'.cell? ⟨W.heap.size, 6, none⟩ = some (.int .i64 (x 6)) ∧ w'.cell? ⟨W.heap.size, 7, none⟩ = some (.int .i64 (x 7))) ∧ (w'.cell? ⟨W.heap.size + 1, 0, none⟩ = some (.int .i64 (y 0)) ∧ w'.cell? ⟨W.heap.size + 1, 1, none⟩ = some (.int .i64 (y 1)) ∧ w'.cell? ⟨W.heap.size + 1, 2, none⟩ = some (.int .i64 (y 2)) ∧ w'.cell? ⟨W.heap.size + 1, 3, none⟩ = some (.int .i64 (y 3)) ∧ w'.cell? ⟨W.heap.size + 1, 4, none⟩ = some (.int .i64 (y 4)) ∧ w'.cell? ⟨W.heap.size + 1, 5, none⟩ = some (.int .i64 (y 5)) ∧ w'.cell? ⟨W.heap.size + 1, 6, none⟩ = some (.int .i64 (y 6)) ∧ w'.cell? ⟨W.heap.size + 1, 7, none⟩ = some (.int .i64 (y 7))) ∧ (w'.cell? ⟨W.heap.size + 1 + 1, 0, none⟩ = some (.int .i64 (z 0)) ∧ w'.cell? ⟨W.heap.size + 1 + 1, 1, none⟩ = some (.int .i64 (z 1)) ∧ w'.cell? ⟨W.heap.size + 1 + 1, 2, none⟩ = some (.int .i64 (z 2)) ∧ w'.cell? ⟨W.heap.size + 1 + 1, 3, none⟩ = some (.int .i64 (z 3)) ∧ w'.cell? ⟨W.heap.size + 1 + 1, 4, none⟩ = some (.int .i64 (z 4)) ∧ w'.cell? ⟨W.heap.size + 1 + 1, 5, none⟩ = some (.int .i64 (z 5)) ∧ w'.cell? ⟨W.heap.size + 1 + 1, 6, none⟩ = some (.int .i64 (z 6)) ∧ w'.cell? ⟨W.heap.size + 1 + 1, 7, none⟩ = some (.int .i64 (z 7))) ∧ (w'.cell? ⟨P, 0, none⟩ = some (.int .i64 (J 0)) ∧ w'.cell? ⟨P, 1, none⟩ = some (.int .i64 (J 1)) ∧ w'.cell? ⟨P, 2, none⟩ = some (.int .i64 (J 2)) ∧ w'.cell? ⟨P, 3, none⟩ = some (.int .i64 (J 3)) ∧ w'.cell? ⟨P, 4, none⟩ = some (.int .i64 (J 4)) ∧ w'.cell? ⟨P, 5, none⟩ = some (.int .i64 (J 5)) ∧ w'.cell? ⟨P, 6, none⟩ = some (.int .i64 (J 6)) ∧ w'.cell? ⟨P, 7, none⟩ = some (.int .i64 (J 7))) ∧ (w'.cell? ⟨Q0, 0, none⟩ = some (.int .i64 (M 0)) ∧ w'.cell? ⟨Q0, 1, none⟩ = some (.int .i64 (M 1)) ∧ w'.cell? ⟨Q0, 2, none⟩ = some (.int .i64 (M 2)) ∧ w'.cell? ⟨Q0, 3, none⟩ = some (.int .i64 (M 3)) ∧ w'.cell? ⟨Q0, 4, none⟩ = some (.int .i64 (M 4)) ∧ w'.cell? ⟨Q0, 5, none⟩ = some (.int .i64 (M 5)) ∧ w'.cell? ⟨Q0, 6, none⟩ = some (.int .i64 (M 6)) ∧ w'.cell? ⟨Q0, 7, none⟩ = some (.int .i64 (M 7))))) (by kernel_rfl) ⟨has_vec hx, has_vec hy, has_vec hz, has_vec hj, has_vec hm⟩ (fun hHeld => ?_)
        refine wpAnyH_read (i := 0) (d := some 49) (v := ?v78) (by rfl) (by rfl) (by kernel_rfl) (by kernel_rfl) (by kernel_rfl) (fun _ _ _ h => h) (by rfl) ?hy78 (by assumption) ?rest78
        case hy78 =>
          intro w hSw
          try dsimp only at hSw
          go_simp
          try with_reducible rfl
        try simp only [Act.put, List.setIfInBounds_toArray, List.set_cons_zero, List.set_cons_succ]
        refine wpAnyH_read (i := 1) (d := some 50) (v := ?v79) (by rfl) (by rfl) (by kernel_rfl) (by kernel_rfl) (by kernel_rfl) (fun _ _ _ h => h) (by rfl) ?hy79 (by assumption) ?rest79
        case hy79 =>
          intro w hSw
          try dsimp only at hSw
          go_simp
          try with_reducible rfl
        try simp only [Act.put, List.setIfInBounds_toArray, List.set_cons_zero, List.set_cons_succ]
        refine wpAnyH_read (i := 3) (d := some 52) (v := ?v80) (by rfl) (by rfl) (by kernel_rfl) (by kernel_rfl) (by kernel_rfl) (fun _ _ _ h => h) (by rfl) ?hy80 (by assumption) ?rest80
        case hy80 =>
          intro w hSw
          try dsimp only at hSw
          go_simp
          try with_reducible rfl
        try simp only [Act.put, List.setIfInBounds_toArray, List.set_cons_zero, List.set_cons_succ]
        refine wpAnyH_read (i := 4) (d := some 53) (v := ?v81) (by rfl) (by rfl) (by kernel_rfl) (by kernel_rfl) (by kernel_rfl) (fun _ _ _ h => h) (by rfl) ?hy81 (by assumption) ?rest81
        case hy81 =>
          intro w hSw
          try dsimp only at hSw
          go_simp
          try with_reducible rfl
        try simp only [Act.put, List.setIfInBounds_toArray, List.set_cons_zero, List.set_cons_succ]
        refine wpAnyH_ready (rs := [2]) (by kernel_rfl) (by simp) ?_
        refine AllReadyH.cons rfl (fun K hK => ?_) AllReadyH.nil
        go_simp
        go_at_call 24
        refine (W8.out _).mono ?_
        rintro e v75 ⟨rfl, hb⟩
        replace hx := hx.below hb
        replace hy := hy.below hb
        replace hz := hz.below hb
        replace hj := hj.below hb
        replace hm := hm.below hb
        replace hb0 := hb0.trans (hb.mono hb0.size)
        clear hb
        refine hK.out _ _ ⟨has_vec hx, has_vec hy, has_vec hz, has_vec hj, has_vec hm⟩ (fun hHeld => ?_)
        clear hK K
        try simp only [Act.put, List.setIfInBounds_toArray, List.set_cons_zero, List.set_cons_succ]
        refine wpAnyH_ready (rs := [5]) (by kernel_rfl) (by simp) ?_
        refine AllReadyH.cons rfl (fun K hK => ?_) AllReadyH.nil
        go_simp
        go_at_call 24
        refine (W9.out _).mono ?_
        rintro e v76 ⟨rfl, hb⟩
        replace hx := hx.below hb
        replace hy := hy.below hb
        replace hz := hz.below hb
        replace hj := hj.below hb
        replace hm := hm.below hb
        replace hb0 := hb0.trans (hb.mono hb0.size)
        clear hb
        refine hK.out _ _ ⟨has_vec hx, has_vec hy, has_vec hz, has_vec hj, has_vec hm⟩ (fun hHeld => ?_)
        clear hK K
        try simp only [Act.put, List.setIfInBounds_toArray, List.set_cons_zero, List.set_cons_succ]
        refine wpAnyH_read (i := 6) (d := some 55) (v := ?v84) (by rfl) (by rfl) (by kernel_rfl) (by kernel_rfl) (by kernel_rfl) (fun _ _ _ h => h) (by rfl) ?hy84 (by assumption) ?rest84
        case hy84 =>
          intro w hSw
          try dsimp only at hSw
          go_simp
          try with_reducible rfl
        try simp only [Act.put, List.setIfInBounds_toArray, List.set_cons_zero, List.set_cons_succ]
        refine wpAnyH_read (i := 7) (d := some 56) (v := ?v85) (by rfl) (by rfl) (by kernel_rfl) (by kernel_rfl) (by kernel_rfl) (fun _ _ _ h => h) (by rfl) ?hy85 (by assumption) ?rest85
        case hy85 =>
          intro w hSw
          try dsimp only at hSw
          go_simp
          try with_reducible rfl
        try simp only [Act.put, List.setIfInBounds_toArray, List.set_cons_zero, List.set_cons_succ]
        refine wpAnyH_read (i := 8) (d := some 57) (v := ?v86) (by rfl) (by rfl) (by kernel_rfl) (by kernel_rfl) (by kernel_rfl) (fun _ _ _ h => h) (by rfl) ?hy86 (by assumption) ?rest86
        case hy86 =>
          intro w hSw
          try dsimp only at hSw
          go_simp
          try with_reducible rfl
        try simp only [Act.put, List.setIfInBounds_toArray, List.set_cons_zero, List.set_cons_succ]
        refine wpAnyH_ready (rs := [9]) (by kernel_rfl) (by simp) ?_
        refine AllReadyH.cons rfl (fun K hK => ?_) AllReadyH.nil
        go_simp
        go_at_call 24
        refine (W10.out _).mono ?_
        rintro e v77 ⟨rfl, hb⟩
        replace hx := hx.below hb
        replace hy := hy.below hb
        replace hz := hz.below hb
        replace hj := hj.below hb
        replace hm := hm.below hb
        replace hb0 := hb0.trans (hb.mono hb0.size)
        clear hb
        refine hK.out _ _ ⟨has_vec hx, has_vec hy, has_vec hz, has_vec hj, has_vec hm⟩ (fun hHeld => ?_)
        clear hK K
        try simp only [Act.put, List.setIfInBounds_toArray, List.set_cons_zero, List.set_cons_succ]
        refine wpAnyH_read (i := 10) (d := some 59) (v := ?v88) (by rfl) (by rfl) (by kernel_rfl) (by kernel_rfl) (by kernel_rfl) (fun _ _ _ h => h) (by rfl) ?hy88 (by assumption) ?rest88
        case hy88 =>
          intro w hSw
          try dsimp only at hSw
          go_simp
          try with_reducible rfl
        try simp only [Act.put, List.setIfInBounds_toArray, List.set_cons_zero, List.set_cons_succ]
        refine wpAnyH_read (i := 11) (d := some 60) (v := ?v89) (by rfl) (by rfl) (by kernel_rfl) (by kernel_rfl) (by kernel_rfl) (fun _ _ _ h => h) (by rfl) ?hy89 (by assumption) ?rest89
        case hy89 =>
          intro w hSw
          try dsimp only at hSw
          go_simp
          try with_reducible rfl
        try simp only [Act.put, List.setIfInBounds_toArray, List.set_cons_zero, List.set_cons_succ]
        refine wpAnyH_read (i := 12) (d := some 61) (v := ?v90) (by rfl) (by rfl) (by kernel_rfl) (by kernel_rfl) (by kernel_rfl) (fun _ _ _ h => h) (by rfl) ?hy90 (by assumption) ?rest90
        case hy90 =>
          intro w hSw
          try dsimp only at hSw
          go_simp
          try with_reducible rfl
        try simp only [Act.put, List.setIfInBounds_toArray, List.set_cons_zero, List.set_cons_succ]
        refine wpAnyH_read (i := 13) (d := some 62) (v := ?v91) (by rfl) (by rfl) (by kernel_rfl) (by kernel_rfl) (by kernel_rfl) (fun _ _ _ h => h) (by rfl) ?hy91 (by assumption) ?rest91
        case hy91 =>
          intro w hSw
          try dsimp only at hSw
          go_simp
          try with_reducible rfl
        try simp only [Act.put, List.setIfInBounds_toArray, List.set_cons_zero, List.set_cons_succ]
        refine wpAnyH_read (i := 14) (d := some 63) (v := ?v92) (by rfl) (by rfl) (by kernel_rfl) (by kernel_rfl) (by kernel_rfl) (fun _ _ _ h => h) (by rfl) ?hy92 (by assumption) ?rest92
        case hy92 =>
          intro w hSw
          try dsimp only at hSw
          go_simp
          try with_reducible rfl
        try simp only [Act.put, List.setIfInBounds_toArray, List.set_cons_zero, List.set_cons_succ]
        refine wpAnyH_read (i := 15) (d := some 64) (v := ?v93) (by rfl) (by rfl) (by kernel_rfl) (by kernel_rfl) (by kernel_rfl) (fun _ _ _ h => h) (by rfl) ?hy93 (by assumption) ?rest93
        case hy93 =>
          intro w hSw
          try dsimp only at hSw
          go_simp
          try with_reducible rfl
        try simp only [Act.put, List.setIfInBounds_toArray, List.set_cons_zero, List.set_cons_succ]
        refine wpAnyH_ready (rs := [16]) (by kernel_rfl) (by simp) ?_
        refine AllReadyH.cons rfl (fun K hK => ?_) AllReadyH.nil
        go_simp
        go_at_call 20
        refine (HJ2.out _).mono ?_
        rintro e v78 ⟨rfl, hb⟩
        replace hx := hx.below hb
        replace hy := hy.below hb
        replace hz := hz.below hb
        replace hj := hj.below hb
        replace hm := hm.below hb
        replace hb0 := hb0.trans (hb.mono hb0.size)
        clear hb
        refine hK.out _ _ ⟨has_vec hx, has_vec hy, has_vec hz, has_vec hj, has_vec hm⟩ (fun hHeld => ?_)
        clear hK K
        try simp only [Act.put, List.setIfInBounds_toArray, List.set_cons_zero, List.set_cons_succ]
        refine wpAnyH_read (i := 17) (d := some 66) (v := ?v95) (by rfl) (by rfl) (by kernel_rfl) (by kernel_rfl) (by kernel_rfl) (fun _ _ _ h => h) (by rfl) ?hy95 (by assumption) ?rest95
        case hy95 =>
          intro w hSw
          try dsimp only at hSw
          go_simp
          try with_reducible rfl
        try simp only [Act.put, List.setIfInBounds_toArray, List.set_cons_zero, List.set_cons_succ]
        refine wpAnyH_read (i := 18) (d := some 67) (v := ?v96) (by rfl) (by rfl) (by kernel_rfl) (by kernel_rfl) (by kernel_rfl) (fun _ _ _ h => h) (by rfl) ?hy96 (by assumption) ?rest96
        case hy96 =>
          intro w hSw
          try dsimp only at hSw
          go_simp
          try with_reducible rfl
        try simp only [Act.put, List.setIfInBounds_toArray, List.set_cons_zero, List.set_cons_succ]
        refine wpAnyH_read (i := 19) (d := some 68) (v := ?v97) (by rfl) (by rfl) (by kernel_rfl) (by kernel_rfl) (by kernel_rfl) (fun _ _ _ h => h) (by rfl) ?hy97 (by assumption) ?rest97
        case hy97 =>
          intro w hSw
          try dsimp only at hSw
          go_simp
          try with_reducible rfl
        try simp only [Act.put, List.setIfInBounds_toArray, List.set_cons_zero, List.set_cons_succ]
        refine wpAnyH_read (i := 20) (d := some 69) (v := ?v98) (by rfl) (by rfl) (by kernel_rfl) (by kernel_rfl) (by kernel_rfl) (fun _ _ _ h => h) (by rfl) ?hy98 (by assumption) ?rest98
        case hy98 =>
          intro w hSw
          try dsimp only at hSw
          go_simp
          try with_reducible rfl
        try simp only [Act.put, List.setIfInBounds_toArray, List.set_cons_zero, List.set_cons_succ]
        refine wpAnyH_read (i := 21) (d := some 70) (v := ?v99) (by rfl) (by rfl) (by kernel_rfl) (by kernel_rfl) (by kernel_rfl) (fun _ _ _ h => h) (by rfl) ?hy99 (by assumption) ?rest99
        case hy99 =>
          intro w hSw
          try dsimp only at hSw
          go_simp
          try with_reducible rfl
        try simp only [Act.put, List.setIfInBounds_toArray, List.set_cons_zero, List.set_cons_succ]
        refine wpAnyH_read (i := 22) (d := some 71) (v := ?v100) (by rfl) (by rfl) (by kernel_rfl) (by kernel_rfl) (by kernel_rfl) (fun _ _ _ h => h) (by rfl) ?hy100 (by assumption) ?rest100
        case hy100 =>
          intro w hSw
          try dsimp only at hSw
          go_simp
          try with_reducible rfl
        try simp only [Act.put, List.setIfInBounds_toArray, List.set_cons_zero, List.set_cons_succ]
        refine wpAnyH_ready (rs := [23]) (by kernel_rfl) (by simp) ?_
        refine AllReadyH.cons rfl (fun K hK => ?_) AllReadyH.nil
        go_simp
        go_at_call 22
        refine (HM2.out _).mono ?_
        rintro e v79 ⟨rfl, hb⟩
        replace hx := hx.below hb
        replace hy := hy.below hb
        replace hz := hz.below hb
        replace hj := hj.below hb
        replace hm := hm.below hb
        replace hb0 := hb0.trans (hb.mono hb0.size)
        clear hb
        refine hK.out _ _ ⟨has_vec hx, has_vec hy, has_vec hz, has_vec hj, has_vec hm⟩ (fun hHeld => ?_)
        clear hK K
        try simp only [Act.put, List.setIfInBounds_toArray, List.set_cons_zero, List.set_cons_succ]
        refine wpAnyH_read (i := 24) (d := some 73) (v := ?v102) (by rfl) (by rfl) (by kernel_rfl) (by kernel_rfl) (by kernel_rfl) (fun _ _ _ h => h) (by rfl) ?hy102 (by assumption) ?rest102
        case hy102 =>
          intro w hSw
          try dsimp only at hSw
          go_simp
          try with_reducible rfl
        try simp only [Act.put, List.setIfInBounds_toArray, List.set_cons_zero, List.set_cons_succ]
        refine wpAnyH_read (i := 25) (d := some 74) (v := ?v103) (by rfl) (by rfl) (by kernel_rfl) (by kernel_rfl) (by kernel_rfl) (fun _ _ _ h => h) (by rfl) ?hy103 (by assumption) ?rest103
        case hy103 =>
          intro w hSw
          try dsimp only at hSw
          go_simp
          try with_reducible rfl
        try simp only [Act.put, List.setIfInBounds_toArray, List.set_cons_zero, List.set_cons_succ]
        refine wpAnyH_read (i := 26) (d := some 75) (v := ?v104) (by rfl) (by rfl) (by kernel_rfl) (by kernel_rfl) (by kernel_rfl) (fun _ _ _ h => h) (by rfl) ?hy104 (by assumption) ?rest104
        case hy104 =>
          intro w hSw
          try dsimp only at hSw
          go_simp
          try with_reducible rfl
        try simp only [Act.put, List.setIfInBounds_toArray, List.set_cons_zero, List.set_cons_succ]
        refine wpAnyH_read (i := 27) (d := some 76) (v := ?v105) (by rfl) (by rfl) (by kernel_rfl) (by kernel_rfl) (by kernel_rfl) (fun _ _ _ h => h) (by rfl) ?hy105 (by assumption) ?rest105
        case hy105 =>
          intro w hSw
          try dsimp only at hSw
          go_simp
          try with_reducible rfl
        try simp only [Act.put, List.setIfInBounds_toArray, List.set_cons_zero, List.set_cons_succ]
        refine wpAnyH_read (i := 28) (d := some 77) (v := ?v106) (by rfl) (by rfl) (by kernel_rfl) (by kernel_rfl) (by kernel_rfl) (fun _ _ _ h => h) (by rfl) ?hy106 (by assumption) ?rest106
        case hy106 =>
          intro w hSw
          try dsimp only at hSw
          go_simp
          try with_reducible rfl
        try simp only [Act.put, List.setIfInBounds_toArray, List.set_cons_zero, List.set_cons_succ]
        refine wpAnyH_read (i := 30) (d := some 79) (v := ?v107) (by rfl) (by rfl) (by kernel_rfl) (by kernel_rfl) (by kernel_rfl) (fun _ _ _ h => h) (by rfl) ?hy107 (by assumption) ?rest107
        case hy107 =>
          intro w hSw
          try dsimp only at hSw
          go_simp
          try with_reducible rfl
        try simp only [Act.put, List.setIfInBounds_toArray, List.set_cons_zero, List.set_cons_succ]
        refine wpAnyH_read (i := 31) (d := some 80) (v := ?v108) (by rfl) (by rfl) (by kernel_rfl) (by kernel_rfl) (by kernel_rfl) (fun _ _ _ h => h) (by rfl) ?hy108 (by assumption) ?rest108
        case hy108 =>
          intro w hSw
          try dsimp only at hSw
          go_simp
          try with_reducible rfl
        try simp only [Act.put, List.setIfInBounds_toArray, List.set_cons_zero, List.set_cons_succ]
        refine wpAnyH_read (i := 32) (d := some 81) (v := ?v109) (by rfl) (by rfl) (by kernel_rfl) (by kernel_rfl) (by kernel_rfl) (fun _ _ _ h => h) (by rfl) ?hy109 (by assumption) ?rest109
        case hy109 =>
          intro w hSw
          try dsimp only at hSw
          go_simp
          try with_reducible rfl
        try simp only [Act.put, List.setIfInBounds_toArray, List.set_cons_zero, List.set_cons_succ]
        refine wpAnyH_ready (rs := [29]) (by kernel_rfl) (by simp) ?_
        refine AllReadyH.cons rfl (fun K hK => ?_) AllReadyH.nil
        go_simp
        go_at_call 20
        refine (HJ3.out _).mono ?_
        rintro e v80 ⟨rfl, hb⟩
        replace hx := hx.below hb
        replace hy := hy.below hb
        replace hz := hz.below hb
        replace hj := hj.below hb
        replace hm := hm.below hb
        replace hb0 := hb0.trans (hb.mono hb0.size)
        clear hb
        refine hK.out _ _ ⟨has_vec hx, has_vec hy, has_vec hz, has_vec hj, has_vec hm⟩ (fun hHeld => ?_)
        clear hK K
        try simp only [Act.put, List.setIfInBounds_toArray, List.set_cons_zero, List.set_cons_succ]
        refine wpAnyH_ready (rs := [33]) (by kernel_rfl) (by simp) ?_
        refine AllReadyH.cons rfl (fun K hK => ?_) AllReadyH.nil
        go_simp
        go_at_call 20
        refine (HJ4.out _).mono ?_
        rintro e v81 ⟨rfl, hb⟩
        replace hx := hx.below hb
        replace hy := hy.below hb
        replace hz := hz.below hb
        replace hj := hj.below hb
        replace hm := hm.below hb
        replace hb0 := hb0.trans (hb.mono hb0.size)
        clear hb
        refine hK.out _ _ ⟨has_vec hx, has_vec hy, has_vec hz, has_vec hj, has_vec hm⟩ (fun hHeld => ?_)
        clear hK K
        try simp only [Act.put, List.setIfInBounds_toArray, List.set_cons_zero, List.set_cons_succ]
        refine wpAnyH_ready (rs := [34]) (by kernel_rfl) (by simp) ?_
        refine AllReadyH.cons rfl (fun K hK => ?_) AllReadyH.nil
        go_simp
        go_at_call 20
        refine (HJ5.out _).mono ?_
        rintro e v82 ⟨rfl, hb⟩
        replace hx := hx.below hb
        replace hy := hy.below hb
        replace hz := hz.below hb
        replace hj := hj.below hb
        replace hm := hm.below hb
        replace hb0 := hb0.trans (hb.mono hb0.size)
        clear hb
        refine hK.out _ _ ⟨has_vec hx, has_vec hy, has_vec hz, has_vec hj, has_vec hm⟩ (fun hHeld => ?_)
        clear hK K
        try simp only [Act.put, List.setIfInBounds_toArray, List.set_cons_zero, List.set_cons_succ]
        refine wpAnyH_read (i := 35) (d := some 84) (v := ?v113) (by rfl) (by rfl) (by kernel_rfl) (by kernel_rfl) (by kernel_rfl) (fun _ _ _ h => h) (by rfl) ?hy113 (by assumption) ?rest113
        case hy113 =>
          intro w hSw
          try dsimp only at hSw
          go_simp
          try with_reducible rfl
        try simp only [Act.put, List.setIfInBounds_toArray, List.set_cons_zero, List.set_cons_succ]
        refine wpAnyH_read (i := 36) (d := some 85) (v := ?v114) (by rfl) (by rfl) (by kernel_rfl) (by kernel_rfl) (by kernel_rfl) (fun _ _ _ h => h) (by rfl) ?hy114 (by assumption) ?rest114
        case hy114 =>
          intro w hSw
          try dsimp only at hSw
          go_simp
          try with_reducible rfl
        try simp only [Act.put, List.setIfInBounds_toArray, List.set_cons_zero, List.set_cons_succ]
        refine wpAnyH_read (i := 37) (d := some 86) (v := ?v115) (by rfl) (by rfl) (by kernel_rfl) (by kernel_rfl) (by kernel_rfl) (fun _ _ _ h => h) (by rfl) ?hy115 (by assumption) ?rest115
        case hy115 =>
          intro w hSw
          try dsimp only at hSw
          go_simp
          try with_reducible rfl
        try simp only [Act.put, List.setIfInBounds_toArray, List.set_cons_zero, List.set_cons_succ]
        refine wpAnyH_ready (rs := [38]) (by kernel_rfl) (by simp) ?_
        refine AllReadyH.cons rfl (fun K hK => ?_) AllReadyH.nil
        go_simp
        go_at_call 19
        refine (AW.out _).mono ?_
        rintro e v83 ⟨rfl, hb⟩
        replace hx := hx.below hb
        replace hy := hy.below hb
        replace hz := hz.below hb
        replace hj := hj.below hb
        replace hm := hm.below hb
        replace hb0 := hb0.trans (hb.mono hb0.size)
        clear hb
        refine hK.out _ _ ⟨has_vec hx, has_vec hy, has_vec hz, has_vec hj, has_vec hm⟩ (fun hHeld => ?_)
        clear hK K
        try simp only [Act.put, List.setIfInBounds_toArray, List.set_cons_zero, List.set_cons_succ]
        refine wpAnyH_read (i := 39) (d := some 88) (v := ?v117) (by rfl) (by rfl) (by kernel_rfl) (by kernel_rfl) (by kernel_rfl) (fun _ _ _ h => h) (by rfl) ?hy117 (by assumption) ?rest117
        case hy117 =>
          intro w hSw
          try dsimp only at hSw
          go_simp
          try with_reducible rfl
        try simp only [Act.put, List.setIfInBounds_toArray, List.set_cons_zero, List.set_cons_succ]
        refine wpAnyH_read (i := 40) (d := some 6) (v := ?v118) (by rfl) (by rfl) (by kernel_rfl) (by kernel_rfl) (by kernel_rfl) (fun _ _ _ h => h) (by rfl) ?hy118 (by assumption) ?rest118
        case hy118 =>
          intro w hSw
          try dsimp only at hSw
          go_simp
          try with_reducible rfl
        try simp only [Act.put, List.setIfInBounds_toArray, List.set_cons_zero, List.set_cons_succ]
        refine wpAnyH_done (by kernel_rfl) ?_ _
        go_wp2
        go_ret
        exact ⟨rfl, hb0⟩
theorem joined_law (x y z : Nat → Int) (_ : ∀ i, i < 8 → (Lit.int .i64 (x i)).wf = true) (_ : ∀ i, i < 8 → (Lit.int .i64 (y i)).wf = true) (_ : ∀ i, i < 8 → (Lit.int .i64 (z i)).wf = true) (W : World) :
    Calls Try.prog 8 #[.agg (vecC x), .agg (vecC y), .agg (vecC z)] W fun e w' => e = .returned (.bool true) ∧ Below W.heap.size W w' :=
  joined_any x y z _ _ _ _ _ _ _ _ _ _ _ _ W rfl rfl rfl rfl (joinV_comm x y) (meetV_comm x y) rfl rfl (joinV_assoc x y z) (within_join1 x y) (within_join2 x y) (within_meet1 x y) (within_meet2 x y) rfl rfl rfl (fun h => within_of_join h) rfl (within_to_meet x y z) rfl rfl
end Go.Proofs.Ytlnlnpofdgnoeaa.Vc
