/- The library's stable sort over events. -/
import Derived.Test.YtdbmnnmcelaehaaDoorStabL
import Derived.Test.YtdbmnnmcelaehaaDoorStabM
namespace Go.Proofs.YtdbmnnmcelaehaaDoor.Stab
open Go.RowKit Go.Proofs.YtdbmnnmcelaehaaDoor.Mem
set_option linter.unusedVariables false set_option linter.unusedSimpArgs false

theorem insert_at (g c n : Nat) (x : Nat → Fc.EventC) (z : List Value) (hn : n < 4000000000) {p : Nat → Nat} {Q a b : Nat} (ha : a = Q * 20) (hab : a ≤ b) (hb : b ≤ n) (h : Ins Lex (fun k => (x k, k)) p n 20 Q) (w : World) (hw : RwE w g n (fun k => x (p k)) z) :
    Calls Tryd.prog 63 #[.slice (some ⟨g, 0, none⟩) n c, .int .i64 a, .int .i64 b, (.func (.func 34) #[] #[])] w fun e w' => e = .returned (.tuple #[]) ∧ Chg (· = g) w w' ∧ ∃ r, Re a b r ∧ RwE w' g n (fun k => x (p (r k))) z ∧ Srt Lex (fun k => (x (p (r k)), p (r k))) a b :=
  insertion_any g c n a b (fun k => x (p k)) p z hn hab hb (fun i j h1 h2 h3 => by rw [h.rest i (by omega), h.rest j (by omega)]; exact h2) w hw
theorem merge_at (g c n : Nat) (x : Nat → Fc.EventC) (z : List Value) (hn : n < 4000000000) {p : Nat → Nat} {Q B a b : Nat} (hB : 0 < B) (ha : a = Q * (2 * B)) (h1 : a + B < b) (h2 : b ≤ a + 2 * B) (hb : b ≤ n) (h : Mer Lex (fun k => (x k, k)) p n B Q) (w : World) (hw : RwE w g n (fun k => x (p k)) z) :
    Calls Tryd.prog 64 #[.slice (some ⟨g, 0, none⟩) n c, .int .i64 a, .int .i64 ((a : Int) + (B : Int)), .int .i64 b, (.func (.func 34) #[] #[])] w fun e w' => e = .returned (.tuple #[]) ∧ Chg (· = g) w w' ∧ ∃ r, Re a b r ∧ RwE w' g n (fun k => x (p (r k))) z ∧ Srt Lex (fun k => (x (p (r k)), p (r k))) a b := by
  have hh := merge_any g c n z hn (b - a + 1) a (a + B) b (fun k => x (p k)) p w (by omega) (by omega) h1 hb (by subst ha; exact h.low (by omega)) (by subst ha; exact h.high hb h2) (by subst ha; exact h.tags hb h2) hw
  unfold MergeIs at hh
  rw [show ((a + B : Nat) : Int) = (a : Int) + (B : Int) by omega] at hh
  exact hh
set_option maxRecDepth 100000 in
set_option maxHeartbeats 2000000 in
theorem stable_any (g c n : Nat) (x : Nat → Fc.EventC) (z : List Value) (hn : n < 4000000000) (w : World) (h : RwE w g n x z) :
    Calls Tryd.prog 51 #[.slice (some ⟨g, 0, none⟩) n c, .int .i64 n, (.func (.func 34) #[] #[])] w fun e w' => e = .returned (.tuple #[]) ∧ Chg (· = g) w w' ∧ ∃ p, Re 0 n p ∧ RwE w' g n (fun k => x (p k)) z ∧ Srt Lex (fun k => (x (p k), p k)) 0 n := by
  have H0 := Lib.hid h
  clear h
  go_enter Tryd.func51, Tryd.ntmps51
  go_wp2
  go_loopw [7, 8] (fun sa sb wr => ∃ (Q a : Nat) (p : Nat → Nat), sa = .int .i64 a ∧ sb = .int .i64 ((a : Int) + 20) ∧ Hid (a = Q * 20) ∧ a ≤ n ∧ Hid (Ins Lex (fun k => (x k, k)) p n 20 Q) ∧ Hid (RwE wr g n (fun k => x (p k)) z) ∧ Hid (Chg (· = g) w wr)) (fun sa _ _ => n - (intOf sa).toNat)
  case atStart => exact ⟨0, 0, fun k => k, rfl, rfl, Lib.hid (by omega), by omega, Lib.hid Ins.zero, H0, Lib.hid (Chg.refl _ _)⟩
  case round =>
    obtain ⟨Q, a, p, rfl, rfl, HA, han, HI, HR, HC⟩ := hrel
    by_cases hb : a + 20 ≤ n
    · have HM := Lib.hid (fun V hV => insert_at g c n x z hn (b := a + 20) HA.out (by omega) hb HI.out V hV)
      have E0 := Lib.hid (show ((a + 20 : Nat) : Int) = (a : Int) + 20 by omega)
      rw [E0.out] at HM
      go_wp2_with fail
      go_at_call 63
      refine (HM.out _ HR.out).mono ?_
      rintro e w5 ⟨rfl, hc, r, h1, h2, h3⟩
      have HC5 := Lib.hid (HC.out.trans hc)
      have HR5 := Lib.hid h2
      have HI5 : Hid (Ins Lex (fun k => (x k, k)) (fun k => p (r k)) n 20 (Q + 1)) := Lib.hid (by have ha := HA.out; subst ha; exact HI.out.step hb h1 h3)
      clear hc h1 h2 h3 HM
      go_wp2
      go_roundw
      case rel => exact ⟨Q + 1, a + 20, fun k => p (r k), by rw [← E0.out], by congr 1, Lib.hid (by have := HA.out; omega), by omega, HI5, HR5, HC5⟩
      case measure => simp [intOf]; omega
    · have HM := Lib.hid (fun V hV => insert_at g c n x z hn (b := n) HA.out han (Nat.le_refl _) HI.out V hV)
      go_wp2_with fail
      go_at_call 63
      refine (HM.out _ HR.out).mono ?_
      rintro e w5 ⟨rfl, hc, r, h1, h2, h3⟩
      have HC5 := Lib.hid (HC.out.trans hc)
      have HR5 := Lib.hid h2
      have HI5 : Hid (Blks Lex (fun k => (x k, k)) (fun k => p (r k)) n 20) := Lib.hid (by have ha := HA.out; subst ha; exact HI.out.last (by omega) han h1 h3)
      clear hc h1 h2 h3 HM HI HR HC HA han hb
      go_wp2_with fail
      go_loopw [6, 7, 8] (fun sB sa sb wr => ∃ (B : Nat) (p : Nat → Nat), sB = .int .i64 B ∧ 20 ≤ B ∧ B < 8000000000 ∧ Hid (Blks Lex (fun k => (x k, k)) p n B) ∧ Hid (RwE wr g n (fun k => x (p k)) z) ∧ Hid (Chg (· = g) w wr)) (fun sB _ _ _ => n - (intOf sB).toNat)
      case atStart => exact ⟨20, fun k => p (r k), rfl, by omega, by omega, HI5, HR5, HC5⟩
      case round =>
        clear HI5 HR5 HC5
        obtain ⟨B, p, rfl, hB1, hB2, HB, HR, HC⟩ := hrel
        by_cases hBn : B < n
        · go_wp2_with fail
          go_loopw [7, 8] (fun sa sb wr => ∃ (Q a : Nat) (p : Nat → Nat), sa = .int .i64 a ∧ sb = .int .i64 ((a : Int) + 2 * (B : Int)) ∧ Hid (a = Q * (2 * B)) ∧ a ≤ n ∧ Hid (Mer Lex (fun k => (x k, k)) p n B Q) ∧ Hid (RwE wr g n (fun k => x (p k)) z) ∧ Hid (Chg (· = g) w wr)) (fun sa _ _ => n - (intOf sa).toNat)
          case atStart => exact ⟨0, 0, p, rfl, by congr 1; omega, Lib.hid (by omega), by omega, Lib.hid (Mer.zero HB.out), HR, HC⟩
          case round =>
            clear HR HC HB
            obtain ⟨Q, a, p, rfl, rfl, HA, han, HI, HR, HC⟩ := hrel
            by_cases hb : a + 2 * B ≤ n
            · have HM := Lib.hid (fun V hV => merge_at g c n x z hn (b := a + 2 * B) (by omega) HA.out (by omega) (Nat.le_refl _) hb HI.out V hV)
              have E0 := Lib.hid (show ((a + 2 * B : Nat) : Int) = (a : Int) + 2 * (B : Int) by omega)
              rw [E0.out] at HM
              go_wp2_with fail
              go_at_call 64
              refine (HM.out _ HR.out).mono ?_
              rintro e w5 ⟨rfl, hc, r, h1, h2, h3⟩
              have HC5 := Lib.hid (HC.out.trans hc)
              have HR5 := Lib.hid h2
              have HI5 : Hid (Mer Lex (fun k => (x k, k)) (fun k => p (r k)) n B (Q + 1)) := Lib.hid (by have ha := HA.out; subst ha; exact HI.out.step hb h1 h3)
              clear hc h1 h2 h3 HM
              go_wp2
              go_roundw
              case rel => exact ⟨Q + 1, a + 2 * B, fun k => p (r k), by rw [← E0.out], by congr 1, Lib.hid (by have := HA.out; rw [Nat.add_mul, Nat.one_mul]; omega), by omega, HI5, HR5, HC5⟩
              case measure => simp [intOf]; omega
            · by_cases hm : a + B < n
              · have HM := Lib.hid (fun V hV => merge_at g c n x z hn (b := n) (by omega) HA.out hm (by omega) (Nat.le_refl _) HI.out V hV)
                go_wp2_with fail
                go_at_call 64
                refine (HM.out _ HR.out).mono ?_
                rintro e w5 ⟨rfl, hc, r, h1, h2, h3⟩
                have HC5 := Lib.hid (HC.out.trans hc)
                have HR5 := Lib.hid h2
                have HI5 : Hid (Blks Lex (fun k => (x k, k)) (fun k => p (r k)) n (2 * B)) := Lib.hid (by have ha := HA.out; subst ha; exact HI.out.last hm (by omega) h1 h3)
                clear hc h1 h2 h3 HM
                go_wp2
                go_roundw
                case rel => exact ⟨2 * B, fun k => p (r k), by congr 1; omega, by omega, by omega, HI5, HR5, HC5⟩
                case measure => simp [intOf]; omega
              · have HI5 : Hid (Blks Lex (fun k => (x k, k)) p n (2 * B)) := Lib.hid (by have ha := HA.out; subst ha; exact HI.out.rest (by omega))
                go_wp2
                go_roundw
                case rel => exact ⟨2 * B, p, by congr 1; omega, by omega, by omega, HI5, HR, HC⟩
                case measure => simp [intOf]; omega
        · have HX := Lib.hid (HB.out.all (by omega))
          go_wp2
          go_end0
          exact ⟨rfl, HC.out, p, HB.out.re, HR.out, HX.out⟩
set_option maxRecDepth 100000 in
theorem sorted_any (g c n : Nat) (x : Nat → Fc.EventC) (z : List Value) (hn : n < 4000000000) (w : World) (h : RwE w g n x z) :
    Calls Tryd.prog 33 #[.slice (some ⟨g, 0, none⟩) n c, (.func (.func 34) #[] #[])] w fun e w' => e = .returned (.tuple #[]) ∧ Chg (· = g) w w' ∧ ∃ p, Re 0 n p ∧ RwE w' g n (fun k => x (p k)) z ∧ Srt Lex (fun k => (x (p k), p k)) 0 n := by
  have HM := Lib.hid (fun V hV => stable_any g c n x z hn V hV)
  have H0 := Lib.hid h
  clear h
  go_enter Tryd.func33, Tryd.ntmps33
  go_wp2_with fail
  go_at_call 51
  refine (HM.out _ H0.out).mono ?_
  rintro e w5 ⟨rfl, hc, r, h1, h2, h3⟩
  have HX : Hid (Chg (· = g) w w5 ∧ ∃ p, Re 0 n p ∧ RwE w5 g n (fun k => x (p k)) z ∧ Srt Lex (fun k => (x (p k), p k)) 0 n) := Lib.hid ⟨hc, r, h1, h2, h3⟩
  clear hc h1 h2 h3
  go_wp2
  go_end0
  exact ⟨rfl, HX.out⟩
end Go.Proofs.YtdbmnnmcelaehaaDoor.Stab
