/- NamesApart, walked. -/
import Derived.Test.YtlmgikgpmcdakaaDoorNmP
import Derived.Deep.RegionHeld3
import Derived.BigRegion
namespace Go.Proofs.YtlmgikgpmcdakaaDoor.Nm
open Go.RowKit Go.Proofs.YtlmgikgpmcdakaaDoor.Mem

def oddB (t w : Int) : ByteArray := ⟨(oddL t w).toArray⟩
theorem odd_b (t w : Int) (W : World) (h : Tabs W) : Calls Tryd.prog 25 #[.agg #[.int .i64 t, .int .i64 w]] W fun e W' => e = .returned (.string (oddB t w)) ∧ Below W.heap.size W W' := odd_any t w W h
theorem in_any (t w : Int) (W : World) :
    Calls Tryd.prog 27 #[.agg #[.int .i64 t, .int .i64 w]] W fun e W' => e = .returned (.bool (inB t w)) ∧ Below W.heap.size W W' := by
  have HB := Lib.hid (show inB t w = (decide (0 ≤ t) && decide (t < 281474976710656) && decide (0 ≤ w) && decide (w < 16)) from rfl)
  have hb0 := Lib.hid ((Below.refl W.heap.size W).alloc (Nat.le_refl _) (.cells #[.int .i64 t, .int .i64 w] 38))
  by_cases h1 : 0 ≤ t
  · by_cases h2 : t < 281474976710656
    · by_cases h3 : 0 ≤ w
      · by_cases h4 : w < 16
        · have HB2 := Lib.hid (HB.out.trans (show _ = true by simp [h1, h2, h3, h4]))
          go_enter Tryd.func27, Tryd.ntmps27
          go_wp2
          go_ret
          exact ⟨by rw [HB2.out]; rfl, hb0.out⟩
        · have HB2 := Lib.hid (HB.out.trans (show _ = false by simp [h4]))
          go_enter Tryd.func27, Tryd.ntmps27
          go_wp2
          go_ret
          exact ⟨by rw [HB2.out]; rfl, hb0.out⟩
      · have HB2 := Lib.hid (HB.out.trans (show _ = false by simp [h3]))
        go_enter Tryd.func27, Tryd.ntmps27
        go_wp2
        go_ret
        exact ⟨by rw [HB2.out]; rfl, hb0.out⟩
    · have HB2 := Lib.hid (HB.out.trans (show _ = false by simp [h2]))
      go_enter Tryd.func27, Tryd.ntmps27
      go_wp2
      go_ret
      exact ⟨by rw [HB2.out]; rfl, hb0.out⟩
  · have HB2 := Lib.hid (HB.out.trans (show _ = false by simp [h1]))
    go_enter Tryd.func27, Tryd.ntmps27
    go_wp2
    go_ret
    exact ⟨by rw [HB2.out]; rfl, hb0.out⟩
set_option maxHeartbeats 8000000 in
set_option maxRecDepth 100000 in
theorem apart_walk (W : World) (t w t2 w2 : Int) (_ : (Lit.int .i64 t).wf = true) (_ : (Lit.int .i64 w).wf = true) (_ : (Lit.int .i64 t2).wf = true) (_ : (Lit.int .i64 w2).wf = true) (hT : Tabs W) :
    Calls Tryd.prog 8 #[.agg #[.int .i64 t, .int .i64 w], .agg #[.int .i64 t2, .int .i64 w2]] W fun e w' => e = .returned (.bool true) ∧ Below W.heap.size W w' := by
  have hmf : ∀ (fn : Fn) (first cap : Array Value) (w : World), (Instr.makeFunc fn first cap).run Tryd.prog w = .ok (.func fn first cap) w := fun _ _ _ _ => rfl
  have I1 := Lib.hid (fun W => in_any t w W)
  have I2 := Lib.hid (fun W => in_any t2 w2 W)
  have AW := Lib.hid (fun w h => awake_true w h)
  have HT := Lib.hid hT
  clear hT
  have hb0 := ((Below.refl W.heap.size W).alloc (Nat.le_refl _) (.cells #[.int .i64 t, .int .i64 w] 38)).alloc (by simp) (.cells #[.int .i64 t2, .int .i64 w2] 38)
  have ha0 := (Has.fresh W 38 #[.int .i64 t, .int .i64 w]).past (.cells #[.int .i64 t2, .int .i64 w2] 38)
  have hk0 := Has.fresh (W.alloc (.cells #[.int .i64 t, .int .i64 w] 38)) 38 #[.int .i64 t2, .int .i64 w2]
  rw [World.size_alloc] at hk0
  cases hi1 : inB t w with
  | false =>
    rw [hi1] at I1
    go_enter Tryd.func8, Tryd.ntmps8
    go_wp2_with fail
    refine (I1.out _).mono ?_
    rintro e w1 ⟨rfl, hb⟩
    have hb1 := hb0.trans (hb.mono hb0.size)
    go_wp2_with fail
    refine (AW.out _ (HT.out.self hb1)).mono ?_
    rintro e w3 ⟨rfl, hb3⟩
    go_wp2
    go_ret
    exact ⟨rfl, hb1.trans (hb3.mono hb1.size)⟩
  | true =>
    rw [hi1] at I1
    cases hi2 : inB t2 w2 with
    | false =>
      rw [hi2] at I2
      go_enter Tryd.func8, Tryd.ntmps8
      go_wp2_with fail
      refine (I1.out _).mono ?_
      rintro e w1 ⟨rfl, hb⟩
      have hb1 := hb0.trans (hb.mono hb0.size)
      replace hk0 := hk0.below hb
      clear hb
      have j0 := Has.at_ hk0 0
      have j1 := Has.at_ hk0 1
      simp at j0 j1
      go_wp2_with fail
      refine (I2.out _).mono ?_
      rintro e w1 ⟨rfl, hb⟩
      replace hb1 := hb1.trans (hb.mono hb1.size)
      go_wp2_with fail
      refine (AW.out _ (HT.out.self hb1)).mono ?_
      rintro e w3 ⟨rfl, hb3⟩
      go_wp2
      go_ret
      exact ⟨rfl, hb1.trans (hb3.mono hb1.size)⟩
    | true =>
      rw [hi2] at I2
      have O1 := Lib.hid (fun W h => odd_any t w W h)
      have O2 := Lib.hid (fun W h => odd_any t2 w2 W h)
      have hsz : (⟨(oddL t w).toArray⟩ : ByteArray).size ≤ 4096 := by
        obtain ⟨ho, hl⟩ := oddL_in t w hi1
        show (oddL t w).toArray.size ≤ 4096
        rw [ho]
        simp
        omega
      have F1 := Lib.hid (fun W h => of_any ⟨(oddL t w).toArray⟩ hsz W h)
      rw [of_odd t w hi1] at F1
      have G1 := Lib.hid (fun W => good_any ⟨(oddL t w).toArray⟩ (by omega) W)
      rw [show goodM (⟨(oddL t w).toArray⟩ : ByteArray).data.toList = 0 from good_odd t w hi1] at G1
      have HE := Lib.hid (odd_inj t w t2 w2 hi1 hi2)
      clear hsz
      go_enter Tryd.func8, Tryd.ntmps8
      go_wp2_with fail
      refine (I1.out _).mono ?_
      rintro e w1 ⟨rfl, hb⟩
      have hb1 := hb0.trans (hb.mono hb0.size)
      replace ha0 := ha0.below hb
      replace hk0 := hk0.below hb
      clear hb
      have j0 := Has.at_ hk0 0
      have j1 := Has.at_ hk0 1
      simp at j0 j1
      go_wp2_with fail
      refine (I2.out _).mono ?_
      rintro e w2' ⟨rfl, hb⟩
      clear j0 j1
      replace hb1 := hb1.trans (hb.mono hb1.size)
      replace ha0 := ha0.below hb
      replace hk0 := hk0.below hb
      clear hb I1 I2
      have a0 := Has.at_ ha0 0
      have a1 := Has.at_ ha0 1
      have k0 := Has.at_ hk0 0
      have k1 := Has.at_ hk0 1
      simp at a0 a1 k0 k1
      go_wp2_with fail
      refine (O1.out _ (HT.out.self hb1)).mono ?_
      rintro e w3 ⟨rfl, hb⟩
      replace hb1 := hb1.trans (hb.mono hb1.size)
      replace ha0 := ha0.below hb
      replace hk0 := hk0.below hb
      clear hb a0 a1 k0 k1
      have a0 := Has.at_ ha0 0
      have a1 := Has.at_ ha0 1
      have k0 := Has.at_ hk0 0
      have k1 := Has.at_ hk0 1
      simp at a0 a1 k0 k1
      go_wp2_with fail
      refine (F1.out _ (HT.out.self hb1)).mono ?_
      rintro e w4 ⟨rfl, hb⟩
      replace hb1 := hb1.trans (hb.mono hb1.size)
      replace ha0 := ha0.below hb
      replace hk0 := hk0.below hb
      clear hb a0 a1 k0 k1
      have a0 := Has.at_ ha0 0
      have a1 := Has.at_ ha0 1
      have k0 := Has.at_ hk0 0
      have k1 := Has.at_ hk0 1
      simp at a0 a1 k0 k1
      have hb5 := hb1.alloc hb1.size (.cells #[.int .i64 t, .int .i64 w] 38)
      replace ha0 := ha0.past (.cells #[.int .i64 t, .int .i64 w] 38)
      replace hk0 := hk0.past (.cells #[.int .i64 t, .int .i64 w] 38)
      have hx0 := Has.fresh w4 38 #[.int .i64 t, .int .i64 w]
      replace ha0 := ha0.drew
      replace hk0 := hk0.drew
      replace hx0 := hx0.drew
      replace hb5 := hb5.drew
      clear a0 a1 k0 k1 hb1
      by_cases hq : t = t2 ∧ w = w2
      · obtain ⟨rfl, rfl⟩ := hq
        generalize (⟨(oddL t w).toArray⟩ : ByteArray) = X at *
        clear O2 HE
        go_wp2_with fail
        go_region_held3 (fun w' => w'.cell? ⟨W.heap.size, 0, none⟩ = some (.int .i64 t) ∧ w'.cell? ⟨W.heap.size, 1, none⟩ = some (.int .i64 w) ∧ w'.cell? ⟨W.heap.size + 1, 0, none⟩ = some (.int .i64 t) ∧ w'.cell? ⟨W.heap.size + 1, 1, none⟩ = some (.int .i64 w) ∧ w'.cell? ⟨w4.heap.size, 0, none⟩ = some (.int .i64 t) ∧ w'.cell? ⟨w4.heap.size, 1, none⟩ = some (.int .i64 w)) (exact ⟨Has.at_ ha0 0, Has.at_ ha0 1, Has.at_ hk0 0, Has.at_ hk0 1, Has.at_ hx0 0, Has.at_ hx0 1⟩) (first | (go_at_call 25; refine (O1.out _ (HT.out.self hb5)).mono ?_; rintro e w' ⟨rfl, hb⟩; replace ha0 := ha0.below hb; replace hk0 := hk0.below hb; replace hx0 := hx0.below hb; replace hb5 := hb5.trans (hb.mono hb5.size); clear hb) | (go_at_call 15; refine (G1.out _).mono ?_; rintro e w' ⟨rfl, hb⟩; replace ha0 := ha0.below hb; replace hk0 := hk0.below hb; replace hx0 := hx0.below hb; replace hb5 := hb5.trans (hb.mono hb5.size); clear hb) | (go_at_call 10; refine (AW.out _ (HT.out.self hb5)).mono ?_; rintro e w' ⟨rfl, hb⟩; replace ha0 := ha0.below hb; replace hk0 := hk0.below hb; replace hx0 := hx0.below hb; replace hb5 := hb5.trans (hb.mono hb5.size); clear hb))
        all_goals go_wp2_with fail
        all_goals go_ret
        all_goals exact ⟨rfl, hb5⟩
      · have hX : ¬ oddB t w = oddB t2 w2 := fun h => hq (HE.out (congrArg (·.data.toList) h))
        have hXY := txt_other hX
        have OO := Lib.hid odd_b
        have G1 := Lib.hid (show ∀ W, Calls Tryd.prog 15 #[.string (oddB t w)] W fun e w' => e = .returned (.int .i64 0) ∧ Below W.heap.size W w' from G1.out)
        clear HE hX O1 O2 F1
        by_cases ht : t = t2
        · have hw : ¬ w = w2 := fun e => hq ⟨ht, e⟩
          clear hq
          subst ht
          go_wp2_with fail
          go_region_held3 (fun w' => w'.cell? ⟨W.heap.size, 0, none⟩ = some (.int .i64 t) ∧ w'.cell? ⟨W.heap.size, 1, none⟩ = some (.int .i64 w) ∧ w'.cell? ⟨W.heap.size + 1, 0, none⟩ = some (.int .i64 t) ∧ w'.cell? ⟨W.heap.size + 1, 1, none⟩ = some (.int .i64 w2) ∧ w'.cell? ⟨w4.heap.size, 0, none⟩ = some (.int .i64 t) ∧ w'.cell? ⟨w4.heap.size, 1, none⟩ = some (.int .i64 w)) (exact ⟨Has.at_ ha0 0, Has.at_ ha0 1, Has.at_ hk0 0, Has.at_ hk0 1, Has.at_ hx0 0, Has.at_ hx0 1⟩) (first | (go_at_call 25; refine (OO.out _ _ _ (HT.out.self hb5)).mono ?_; rintro e w' ⟨rfl, hb⟩; replace ha0 := ha0.below hb; replace hk0 := hk0.below hb; replace hx0 := hx0.below hb; replace hb5 := hb5.trans (hb.mono hb5.size); clear hb) | (go_at_call 15; refine (G1.out _).mono ?_; rintro e w' ⟨rfl, hb⟩; replace ha0 := ha0.below hb; replace hk0 := hk0.below hb; replace hx0 := hx0.below hb; replace hb5 := hb5.trans (hb.mono hb5.size); clear hb) | (go_at_call 10; refine (AW.out _ (HT.out.self hb5)).mono ?_; rintro e w' ⟨rfl, hb⟩; replace ha0 := ha0.below hb; replace hk0 := hk0.below hb; replace hx0 := hx0.below hb; replace hb5 := hb5.trans (hb.mono hb5.size); clear hb))
          all_goals go_wp2_with fail
          all_goals go_ret
          all_goals exact ⟨rfl, hb5⟩
        · clear hq
          go_wp2_with fail
          go_region_held3 (fun w' => w'.cell? ⟨W.heap.size, 0, none⟩ = some (.int .i64 t) ∧ w'.cell? ⟨W.heap.size, 1, none⟩ = some (.int .i64 w) ∧ w'.cell? ⟨W.heap.size + 1, 0, none⟩ = some (.int .i64 t2) ∧ w'.cell? ⟨W.heap.size + 1, 1, none⟩ = some (.int .i64 w2) ∧ w'.cell? ⟨w4.heap.size, 0, none⟩ = some (.int .i64 t) ∧ w'.cell? ⟨w4.heap.size, 1, none⟩ = some (.int .i64 w)) (exact ⟨Has.at_ ha0 0, Has.at_ ha0 1, Has.at_ hk0 0, Has.at_ hk0 1, Has.at_ hx0 0, Has.at_ hx0 1⟩) (first | (go_at_call 25; refine (OO.out _ _ _ (HT.out.self hb5)).mono ?_; rintro e w' ⟨rfl, hb⟩; replace ha0 := ha0.below hb; replace hk0 := hk0.below hb; replace hx0 := hx0.below hb; replace hb5 := hb5.trans (hb.mono hb5.size); clear hb) | (go_at_call 15; refine (G1.out _).mono ?_; rintro e w' ⟨rfl, hb⟩; replace ha0 := ha0.below hb; replace hk0 := hk0.below hb; replace hx0 := hx0.below hb; replace hb5 := hb5.trans (hb.mono hb5.size); clear hb) | (go_at_call 10; refine (AW.out _ (HT.out.self hb5)).mono ?_; rintro e w' ⟨rfl, hb⟩; replace ha0 := ha0.below hb; replace hk0 := hk0.below hb; replace hx0 := hx0.below hb; replace hb5 := hb5.trans (hb.mono hb5.size); clear hb))
          all_goals go_wp2_with fail
          all_goals go_ret
          all_goals exact ⟨rfl, hb5⟩
end Go.Proofs.YtlmgikgpmcdakaaDoor.Nm
