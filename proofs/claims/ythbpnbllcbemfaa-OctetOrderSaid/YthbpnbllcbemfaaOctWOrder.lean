/- The walk of the law of the order of numbers. -/
import Derived.Test.YthbpnbllcbemfaaOctOrder
import Derived.Handy
import Derived.IntWalk
import Derived.Deep.RegionHeld3
namespace Go.Proofs.Ythbpnbllcbemfaa.Oct
open Go.RowKit

theorem width_of (c : Int) : ∃ k : Nat, 1 ≤ k ∧ k ≤ 8 ∧ wrap64 (1 + wrap64 ((IntKind.u64.wrap c).tmod 8)) = (k : Int) := by
  have h0 := wrap_u64_nonneg c
  generalize IntKind.u64.wrap c = U at *
  rw [Int.tmod_eq_emod_of_nonneg h0]
  have h1 := Int.emod_nonneg U (show (8 : Int) ≠ 0 by decide)
  have h2 := Int.emod_lt_of_pos U (show (0 : Int) < 8 by decide)
  generalize U % 8 = m at *
  refine ⟨(1 + m).toNat, by omega, by omega, ?_⟩
  unfold wrap64
  omega
theorem u64_of (A : Nat) (h : A < 9223372036854775808) : (IntKind.u64.wrap (A : Int)).toNat = A := by
  rw [IntKind.wrap_u64, Int.emod_eq_of_lt (by omega) (by omega)]
  rfl
theorem put_new (A k : Nat) (hA : A < 9223372036854775808) (h1 : 1 ≤ k) (h8 : k ≤ 8) (w : World) :
    Calls Try.prog 18 #[.slice none 0 0, .int .i64 A, .int .i64 k] w fun e w' => ∃ P c, e = .returned (.slice P k c) ∧ RowB w' P k (putL A k) ∧ Below w.heap.size w w' := by
  refine (put_in none 0 0 k A [] (by decide) h1 h8 w ⟨rfl, fun h => absurd h (by decide)⟩ (fun _ => ⟨rfl, rfl⟩)).mono ?_
  rintro e w1 ⟨v, rfl, ho, hb1⟩
  rw [u64_of A hA, List.nil_append] at ho
  obtain ⟨P, c, rfl, _⟩ := ho.slice
  rw [putL_len] at ho ⊢
  exact ⟨P, c, rfl, ho.row (putL_len A k), hb1⟩
set_option maxRecDepth 100000 in
set_option maxHeartbeats 1000000 in
theorem order_in (a b : Nat) (c : Int) (k : Nat) (h1 : 1 ≤ k) (h8 : k ≤ 8) (hk : wrap64 (1 + wrap64 ((IntKind.u64.wrap c).tmod 8)) = (k : Int)) (ha : a < 9223372036854775808) (hb : b < 9223372036854775808)
    (hka : a < 2 ^ (8 * k)) (hkb : b < 2 ^ (8 * k)) (d1 : decide ((a : Int) < 0) = false) (d2 : decide ((b : Int) < 0) = false) (hs : k < 8 → decide (0 < (a : Int) / 2 ^ (8 * k)) = false ∧ decide (0 < (b : Int) / 2 ^ (8 * k)) = false) (w : World) :
    Calls Try.prog 6 #[.int .i64 a, .int .i64 b, .int .i64 c] w fun e w' => e = .returned (.bool true) ∧ Below w.heap.size w w' := by
  have HP := Lib.hid (And.intro (fun W => put_new a k ha h1 h8 W) (fun W => put_new b k hb h1 h8 W))
  have na := put_num a k hka
  have nb' := put_num b k hkb
  have HQ := Lib.hid (And.intro h1 (And.intro h8 (And.intro na (And.intro nb' ha))))
  clear ha hb h1 na nb' hka hkb
  have hc : Has (w.alloc (.cells #[.int .i64 k] 3)) w.heap.size 3 #[.int .i64 k] := Has.fresh _ _ _
  have g : Below w.heap.size w (w.alloc (.cells #[.int .i64 k] 3)).drew := ((Below.refl _ w).alloc (Nat.le_refl _) _).drew
  replace hc := Has.drew hc
  by_cases e8 : k < 8
  · have hs1 := (hs e8).1
    have hs2 := (hs e8).2
    clear hs h8
    go_enter Try.func6, Try.ntmps6
    go_wp2_with fail
    clear hk hs1 hs2 d1 d2
    go_region_held3 (fun w' => w'.cell? ⟨w.heap.size, 0, none⟩ = some (.int .i64 k)) (exact Has.at_ hc 0) (first | (go_at_call 18; first | (have hrx2 := hrx; refine (HP.out.2 _).mono ?_; rintro e w' ⟨P2, c2, rfl, hry, hb⟩; replace hrx := hrx2.below hb; clear hrx2; replace g := g.trans (hb.mono g.size); replace hc := hc.over (Chg.of_below hb (fun _ => False)) (fun k => k); clear hb) | (refine (HP.out.1 _).mono ?_; rintro e w' ⟨P, c1, rfl, hrx, hb⟩; replace g := g.trans (hb.mono g.size); replace hc := hc.over (Chg.of_below hb (fun _ => False)) (fun k => k); clear hb)))
    go_wp2_with fail
    refine (order_look P c1 w.heap.size w'.heap.size k (putL a k) 0 HQ.out.1 HQ.out.2.1 (by rw [HQ.out.2.2.1]; exact HQ.out.2.2.2.2) _ (hrx.below ((Below.refl _ w').alloc (Nat.le_refl _) _)) (hc.past _) (Has.fresh _ _ _)).mono ?_
    rintro e w3 ⟨rfl, hn, hb3⟩
    have g3 := ((Below.refl w'.heap.size w').alloc (Nat.le_refl _) (.cells #[.int .i64 0] 3)).trans hb3
    replace hrx := hrx.below g3
    replace hry := hry.below g3
    replace g := g.trans (g3.mono g.size)
    rw [HQ.out.2.2.1] at hn
    have c3 := Has.at_ hn 0
    simp at c3
    have HC := Lib.hid (fun (_ : Unit) => compare_any w3 P P2 k k c1 c2 _ _ hrx hry)
    clear hrx hry hc hn hb3 g3
    have hv := cmp_num (putL a k) (putL b k) (by rw [putL_len, putL_len])
    rw [HQ.out.2.2.1, HQ.out.2.2.2.1] at hv
    have t0 : ((a : Int) == (a : Int)) = true := by simp
    rcases Nat.lt_trichotomy a b with e | e | e
    · rw [if_pos e] at hv
      have t1 : decide (a < b) = true := decide_eq_true e
      have t2 : ((a : Int) == (b : Int)) = false := beq_eq_false_iff_ne.2 (by omega)
      have t3 : decide ((a : Int) < (b : Int)) = true := decide_eq_true (by omega)
      clear e
      have HV := Lib.hid hv
      clear hv
      go_wp2_with fail
      refine (HC.out ()).mono ?_
      rintro e w4 ⟨rfl, rfl⟩
      rw [HV.out]
      go_wp2_with fail
      refine (HC.out ()).mono ?_
      rintro e w4 ⟨rfl, rfl⟩
      rw [HV.out]
      go_wp2_with fail
      refine (awake_any _).mono ?_
      rintro e w5 ⟨rfl, hb5⟩
      go_wp2
      go_ret
      exact ⟨rfl, g.trans (hb5.mono g.size)⟩
    · rw [if_neg (by omega), if_neg (by omega)] at hv
      have t1 : decide (a < b) = false := decide_eq_false (by omega)
      have t2 : ((a : Int) == (b : Int)) = true := by rw [e]; simp
      have t3 : decide ((a : Int) < (b : Int)) = false := decide_eq_false (by omega)
      clear e
      have HV := Lib.hid hv
      clear hv
      go_wp2_with fail
      refine (HC.out ()).mono ?_
      rintro e w4 ⟨rfl, rfl⟩
      rw [HV.out]
      go_wp2_with fail
      refine (HC.out ()).mono ?_
      rintro e w4 ⟨rfl, rfl⟩
      rw [HV.out]
      go_wp2_with fail
      refine (awake_any _).mono ?_
      rintro e w5 ⟨rfl, hb5⟩
      go_wp2
      go_ret
      exact ⟨rfl, g.trans (hb5.mono g.size)⟩
    · rw [if_neg (by omega), if_pos e] at hv
      have t1 : decide (a < b) = false := decide_eq_false (by omega)
      have t2 : ((a : Int) == (b : Int)) = false := beq_eq_false_iff_ne.2 (by omega)
      have t3 : decide ((a : Int) < (b : Int)) = false := decide_eq_false (by omega)
      clear e
      have HV := Lib.hid hv
      clear hv
      go_wp2_with fail
      refine (HC.out ()).mono ?_
      rintro e w4 ⟨rfl, rfl⟩
      rw [HV.out]
      go_wp2_with fail
      refine (HC.out ()).mono ?_
      rintro e w4 ⟨rfl, rfl⟩
      rw [HV.out]
      go_wp2_with fail
      refine (awake_any _).mono ?_
      rintro e w5 ⟨rfl, hb5⟩
      go_wp2
      go_ret
      exact ⟨rfl, g.trans (hb5.mono g.size)⟩
  · obtain rfl : k = 8 := by omega
    clear hs h8 e8
    go_enter Try.func6, Try.ntmps6
    go_wp2_with fail
    clear hk d1 d2
    go_region_held3 (fun w' => w'.cell? ⟨w.heap.size, 0, none⟩ = some (.int .i64 8)) (exact Has.at_ hc 0) (first | (go_at_call 18; first | (have hrx2 := hrx; refine (HP.out.2 _).mono ?_; rintro e w' ⟨P2, c2, rfl, hry, hb⟩; replace hrx := hrx2.below hb; clear hrx2; replace g := g.trans (hb.mono g.size); replace hc := hc.over (Chg.of_below hb (fun _ => False)) (fun k => k); clear hb) | (refine (HP.out.1 _).mono ?_; rintro e w' ⟨P, c1, rfl, hrx, hb⟩; replace g := g.trans (hb.mono g.size); replace hc := hc.over (Chg.of_below hb (fun _ => False)) (fun k => k); clear hb)))
    go_wp2_with fail
    refine (order_look P c1 w.heap.size w'.heap.size 8 (putL a 8) 0 HQ.out.1 HQ.out.2.1 (by rw [HQ.out.2.2.1]; exact HQ.out.2.2.2.2) _ (hrx.below ((Below.refl _ w').alloc (Nat.le_refl _) _)) (hc.past _) (Has.fresh _ _ _)).mono ?_
    rintro e w3 ⟨rfl, hn, hb3⟩
    have g3 := ((Below.refl w'.heap.size w').alloc (Nat.le_refl _) (.cells #[.int .i64 0] 3)).trans hb3
    replace hrx := hrx.below g3
    replace hry := hry.below g3
    replace g := g.trans (g3.mono g.size)
    rw [HQ.out.2.2.1] at hn
    have c3 := Has.at_ hn 0
    simp at c3
    have HC := Lib.hid (fun (_ : Unit) => compare_any w3 P P2 8 8 c1 c2 _ _ hrx hry)
    clear hrx hry hc hn hb3 g3
    have hv := cmp_num (putL a 8) (putL b 8) (by rw [putL_len, putL_len])
    rw [HQ.out.2.2.1, HQ.out.2.2.2.1] at hv
    have t0 : ((a : Int) == (a : Int)) = true := by simp
    rcases Nat.lt_trichotomy a b with e | e | e
    · rw [if_pos e] at hv
      have t1 : decide (a < b) = true := decide_eq_true e
      have t2 : ((a : Int) == (b : Int)) = false := beq_eq_false_iff_ne.2 (by omega)
      have t3 : decide ((a : Int) < (b : Int)) = true := decide_eq_true (by omega)
      clear e
      have HV := Lib.hid hv
      clear hv
      go_wp2_with fail
      refine (HC.out ()).mono ?_
      rintro e w4 ⟨rfl, rfl⟩
      rw [HV.out]
      go_wp2_with fail
      refine (HC.out ()).mono ?_
      rintro e w4 ⟨rfl, rfl⟩
      rw [HV.out]
      go_wp2_with fail
      refine (awake_any _).mono ?_
      rintro e w5 ⟨rfl, hb5⟩
      go_wp2
      go_ret
      exact ⟨rfl, g.trans (hb5.mono g.size)⟩
    · rw [if_neg (by omega), if_neg (by omega)] at hv
      have t1 : decide (a < b) = false := decide_eq_false (by omega)
      have t2 : ((a : Int) == (b : Int)) = true := by rw [e]; simp
      have t3 : decide ((a : Int) < (b : Int)) = false := decide_eq_false (by omega)
      clear e
      have HV := Lib.hid hv
      clear hv
      go_wp2_with fail
      refine (HC.out ()).mono ?_
      rintro e w4 ⟨rfl, rfl⟩
      rw [HV.out]
      go_wp2_with fail
      refine (HC.out ()).mono ?_
      rintro e w4 ⟨rfl, rfl⟩
      rw [HV.out]
      go_wp2_with fail
      refine (awake_any _).mono ?_
      rintro e w5 ⟨rfl, hb5⟩
      go_wp2
      go_ret
      exact ⟨rfl, g.trans (hb5.mono g.size)⟩
    · rw [if_neg (by omega), if_pos e] at hv
      have t1 : decide (a < b) = false := decide_eq_false (by omega)
      have t2 : ((a : Int) == (b : Int)) = false := beq_eq_false_iff_ne.2 (by omega)
      have t3 : decide ((a : Int) < (b : Int)) = false := decide_eq_false (by omega)
      clear e
      have HV := Lib.hid hv
      clear hv
      go_wp2_with fail
      refine (HC.out ()).mono ?_
      rintro e w4 ⟨rfl, rfl⟩
      rw [HV.out]
      go_wp2_with fail
      refine (HC.out ()).mono ?_
      rintro e w4 ⟨rfl, rfl⟩
      rw [HV.out]
      go_wp2_with fail
      refine (awake_any _).mono ?_
      rintro e w5 ⟨rfl, hb5⟩
      go_wp2
      go_ret
      exact ⟨rfl, g.trans (hb5.mono g.size)⟩
end Go.Proofs.Ythbpnbllcbemfaa.Oct
