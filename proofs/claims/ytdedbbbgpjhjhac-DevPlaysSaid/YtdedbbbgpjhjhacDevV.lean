/- What befalls the document's own device. -/
import Derived.Test.YtdedbbbgpjhjhacDevU
namespace Go.Proofs.Ytdedbbbgpjhjhac.Dv
open Go.RowKit
open Mem
open Rws

set_option maxRecDepth 100000 in
set_option maxHeartbeats 2000000 in
theorem also_any (p a b c : Nat) (d : St) (k : DoV) (A : Option Addr) (n q : Nat) (w : World) (hn : n ≤ maxLen) (hi : k.i ≤ 9223372036854775807) (hr : NumRow w A n k.ks) (h : RefIs w p a b c d) (hA : 0 < n → ∀ ad, A = some ad → ¬ ROwn p a b c ad.block) :
    Calls Try.prog 16 #[.pointer (some ⟨p, 0, none⟩), .agg #[.int .i64 k.op, .int .i64 k.i, .string k.s, .slice A n q]] w fun e w' =>
      e = .returned (.tuple #[.string (doS d k), .int .i64 (doE d k)]) ∧ RefIs w' p a b c (doD d k) ∧ Chg (ROwn p a b c) w w' := by
  obtain ⟨op, i, s, ks⟩ := k
  simp only at hi hr ⊢
  have hb1 : Below w.heap.size w (w.alloc (.cells #[.int .i64 op, .int .i64 i, .string s, .slice A n q] 34)) := (Below.refl _ _).alloc (Nat.le_refl _) _
  have h1 := h.below hb1
  have HC := Lib.hid (rcrash_any p a b c d A n q ks _ (Nat.le_trans hn (by decide)) (hr.below hb1) h1 hA)
  have HW := Lib.hid (rwrite_all p a b c d i s _ h1)
  have HF := Lib.hid (rflush_all p a b c d _ h1)
  have HR := Lib.hid (rread_all p a b c d i _ h1)
  have HU := Lib.hid (rfuse_all p a b c d i hi _ h1)
  have HS := Lib.hid (rstart_any p a b c d _ h1)
  have H1 := Lib.hid h1
  have cb := Lib.hid (Chg.of_below hb1 (ROwn p a b c))
  unfold doD doS doE opOf
  simp only
  clear h h1 hr hb1 hn hi hA
  generalize hm : bits .and .i64 op 7 = m
  by_cases k0 : m = 0
  · subst k0
    simp
    go_enter Try.func16, Try.ntmps16
    go_wp2_with fail
    refine HW.out.mono ?_
    rintro e w1 ⟨rfl, h1, g1⟩
    go_wp2
    go_ret2
    exact ⟨rfl, h1, cb.out.trans g1⟩
  · have t0 : (m == 0) = false := beq_eq_false_iff_ne.2 k0
    by_cases k1 : m = 1
    · subst k1
      simp
      go_enter Try.func16, Try.ntmps16
      go_wp2_with fail
      refine HW.out.mono ?_
      rintro e w1 ⟨rfl, h1, g1⟩
      go_wp2
      go_ret2
      exact ⟨rfl, h1, cb.out.trans g1⟩
    · have t1 : (m == 1) = false := beq_eq_false_iff_ne.2 k1
      by_cases k2 : m = 2
      · subst k2
        simp
        go_enter Try.func16, Try.ntmps16
        go_wp2_with fail
        refine HW.out.mono ?_
        rintro e w1 ⟨rfl, h1, g1⟩
        go_wp2
        go_ret2
        exact ⟨rfl, h1, cb.out.trans g1⟩
      · have t2 : (m == 2) = false := beq_eq_false_iff_ne.2 k2
        by_cases k3 : m = 3
        · subst k3
          simp
          go_enter Try.func16, Try.ntmps16
          go_wp2_with fail
          refine HF.out.mono ?_
          rintro e w1 ⟨rfl, h1, g1⟩
          go_wp2
          go_ret2
          exact ⟨rfl, h1, cb.out.trans g1⟩
        · have t3 : (m == 3) = false := beq_eq_false_iff_ne.2 k3
          by_cases k4 : m = 4
          · subst k4
            simp
            go_enter Try.func16, Try.ntmps16
            go_wp2_with fail
            refine HR.out.mono ?_
            rintro e w1 ⟨rfl, b1⟩
            go_wp2
            go_ret2
            exact ⟨rfl, H1.out.below b1, cb.out.trans (Chg.of_below b1 _)⟩
          · have t4 : (m == 4) = false := beq_eq_false_iff_ne.2 k4
            by_cases k5 : m = 5
            · subst k5
              simp
              go_enter Try.func16, Try.ntmps16
              go_wp2_with fail
              refine HU.out.mono ?_
              rintro e w1 ⟨rfl, h1, g1⟩
              go_wp2
              go_ret2
              exact ⟨rfl, h1, cb.out.trans g1⟩
            · have t5 : (m == 5) = false := beq_eq_false_iff_ne.2 k5
              by_cases k6 : m = 6
              · subst k6
                simp
                go_enter Try.func16, Try.ntmps16
                go_wp2_with fail
                refine HC.out.mono ?_
                rintro e w1 ⟨rfl, h1, g1⟩
                go_wp2
                go_ret2
                exact ⟨rfl, h1, cb.out.trans g1⟩
              · have t6 : (m == 6) = false := beq_eq_false_iff_ne.2 k6
                simp [k0, k1, k2, k3, k4, k5, k6]
                clear k0 k1 k2 k3 k4 k5 k6
                go_enter Try.func16, Try.ntmps16
                go_wp2_with fail
                refine HS.out.mono ?_
                rintro e w1 ⟨rfl, h1, g1⟩
                go_wp2
                go_ret2
                exact ⟨rfl, h1, cb.out.trans g1⟩
end Go.Proofs.Ytdedbbbgpjhjhac.Dv
