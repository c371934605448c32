/- The walk of the law OctetNobody. -/
import Derived.Test.YtdedbbbgpjhjhaaOctNone
namespace Go.Proofs.Ytdedbbbgpjhjhaa.Oct
open Go.RowKit

theorem nobody_big (A D : Option Addr) (n c m d : Nat) (hb : 8192 < n) (w : World) :
    Calls Try.prog 6 #[.slice A n c, .slice D m d] w fun e w' => e = .returned (.bool true) ∧ Below w.heap.size w w' := by
  have g1 : 8192 < (n : Int) := by omega
  clear hb
  go_enter Try.func6, Try.ntmps6
  go_wp2_with fail
  refine (awake_any _).mono ?_
  rintro e w' ⟨rfl, hb⟩
  go_wp2
  go_ret
  exact ⟨rfl, hb⟩
theorem nobody_many (A D : Option Addr) (n c m d : Nat) (hb : n ≤ 8192) (hm : 100 < m) (w : World) :
    Calls Try.prog 6 #[.slice A n c, .slice D m d] w fun e w' => e = .returned (.bool true) ∧ Below w.heap.size w w' := by
  have g1 : ¬ 8192 < (n : Int) := by omega
  have g2 : 100 < (m : Int) := by omega
  clear hb hm
  go_enter Try.func6, Try.ntmps6
  go_wp2_with fail
  refine (awake_any _).mono ?_
  rintro e w' ⟨rfl, hb⟩
  go_wp2
  go_ret
  exact ⟨rfl, hb⟩
/-- What the answer of a looking by nobody is. -/
theorem why_ends (l : List UInt8) : (why ⟨l.toArray⟩ false 0 == 0) = (l.length == 0) := by
  unfold why
  have e : (⟨l.toArray⟩ : ByteArray).toList = l := by rw [ByteArray.toList_eq]
  rw [e]
  cases l with
  | nil => rfl
  | cons b l => rfl
set_option maxRecDepth 100000 in
set_option maxHeartbeats 1000000 in
theorem nobody_few (A D : Option Addr) (n c m d : Nat) (l : List UInt8) (xs : List (Int × Int)) (hb : n ≤ 8192) (hm : m ≤ 100) (w : World) (h : RowB w A n l) (hx : LookRow w D m xs) :
    Calls Try.prog 6 #[.slice A n c, .slice D m d] w fun e w' => e = .returned (.bool true) ∧ Below w.heap.size w w' := by
  have g1 : ¬ 8192 < (n : Int) := by omega
  have g2 : ¬ 100 < (m : Int) := by omega
  have HR := Lib.hid h
  have HX := Lib.hid hx
  have HM := Lib.hid hm
  clear h hx hb
  go_enter Try.func6, Try.ntmps6
  go_wp2
  obtain ⟨W0, hW0⟩ : ∃ W0 : World, W0 = (w.alloc (.cells #[.pointer none] 59)).alloc (.cells #[.pointer none, .pointer (some ⟨w.heap.size, 0, none⟩)] 38) := ⟨_, rfl⟩
  have h1 : Has W0 w.heap.size 59 #[.pointer none] := by rw [hW0]; exact (Has.fresh w _ _).past _
  have h2 : Has W0 (w.heap.size + 1) 38 #[.pointer none, .pointer (some ⟨w.heap.size, 0, none⟩)] := by
    have h := Has.fresh (w.alloc (.cells #[.pointer none] 59)) 38 #[.pointer none, .pointer (some ⟨w.heap.size, 0, none⟩)]
    rw [World.size_alloc] at h
    rw [hW0]
    exact h
  have h3 : Below w.heap.size w W0 := by rw [hW0]; exact ((Below.refl _ w).alloc (Nat.le_refl _) _).alloc (by simp) _
  have h4 : W0.heap.size = w.heap.size + 2 := by rw [hW0]; simp
  rw [← hW0]
  have H1 := Lib.hid h1
  have H2 := Lib.hid h2
  have H3 := Lib.hid h3
  have HX0 := Lib.hid (HX.out.below h3)
  have HR0 := Lib.hid (HR.out.below h3)
  clear h1 h2 h3 hW0 HX HR
  go_loopw [22] (fun i wr => ∃ j : Nat, j ≤ 2 ∧ i = .int .i64 j ∧ Below W0.heap.size W0 wr) (fun i _ => 2 - (intOf i).toNat)
  case atStart => exact ⟨0, Nat.zero_le _, rfl, Below.refl _ _⟩
  case round =>
    obtain ⟨j, hj, rfl, hb⟩ := hrel
    have hk1 := Lib.hid (H1.out.below hb)
    have hc := Has.below H2.out hb
    have hx := Lib.hid (HX0.out.below hb)
    by_cases hlt : j < 2
    · by_cases j0 : j = 0
      · subst j0
        have c0 := Has.at_ hc 0
        simp at c0
        clear hc
        go_wp2_with fail
        refine (looks_idle none D m d xs (by have := HM.out; omega) _ hx.out .nobody).mono ?_
        rintro x w2 ⟨u, v, p, q, rfl, hpq, hu, hv, hb2⟩
        have HU := Lib.hid hu
        have HV := Lib.hid hv
        have HPQ := Lib.hid hpq
        clear hu hv hpq
        go_wp2_with fail
        refine (cont_i _ ent1 nob1 u _ p (by have := HM.out; have := HPQ.out; omega) _ HU.out).mono ?_
        rintro x w' ⟨rfl, rfl⟩
        go_wp2_with fail
        refine (cont_s _ ent2 nob2 v _ q (by have := HM.out; have := HPQ.out; omega) _ HV.out).mono ?_
        rintro x w' ⟨rfl, rfl⟩
        go_wp2
        go_roundw
        case rel => exact ⟨1, by omega, rfl, hb.trans (hb2.mono hb.size)⟩
        case measure => simp [intOf]
      · obtain rfl : j = 1 := by omega
        have c0 := Has.at_ hc 1
        simp at c0
        clear hc
        go_wp2_with fail
        refine (looks_idle (some ⟨w.heap.size, 0, none⟩) D m d xs (by have := HM.out; omega) _ hx.out (.bare _ hk1.out)).mono ?_
        rintro x w2 ⟨u, v, p, q, rfl, hpq, hu, hv, hb2⟩
        have HU := Lib.hid hu
        have HV := Lib.hid hv
        have HPQ := Lib.hid hpq
        clear hu hv hpq
        go_wp2_with fail
        refine (cont_i _ ent1 nob1 u _ p (by have := HM.out; have := HPQ.out; omega) _ HU.out).mono ?_
        rintro x w' ⟨rfl, rfl⟩
        go_wp2_with fail
        refine (cont_s _ ent2 nob2 v _ q (by have := HM.out; have := HPQ.out; omega) _ HV.out).mono ?_
        rintro x w' ⟨rfl, rfl⟩
        go_wp2
        go_roundw
        case rel => exact ⟨2, by omega, rfl, hb.trans (hb2.mono hb.size)⟩
        case measure => simp [intOf]
    · obtain rfl : j = 2 := by omega
      have hr := Lib.hid (HR0.out.below (hb.mono (by omega)))
      have hbw := H3.out.trans (hb.mono H3.out.size)
      have e1 := Lib.hid (why_ends l)
      have e2 := Lib.hid HR0.out.1
      clear hc
      go_wp2_with fail
      refine (read_nil A n c l _ hr.out).mono ?_
      rintro x w2 ⟨rfl, hb2⟩
      have t1 := e1.out
      rw [e2.out] at t1
      have hb3 := hbw.trans (hb2.mono hbw.size)
      by_cases hn0 : n = 0
      · have f1 : (why ⟨l.toArray⟩ false 0 == 0) = true := by rw [t1, hn0]; rfl
        have f2 : ((n : Int) == 0) = true := by rw [hn0]; rfl
        clear t1 hn0
        go_wp2_with fail
        refine (awake_any _).mono ?_
        rintro e w' ⟨rfl, hb4⟩
        go_wp2
        go_ret
        exact ⟨rfl, hb3.trans (hb4.mono hb3.size)⟩
      · have f1 : (why ⟨l.toArray⟩ false 0 == 0) = false := by rw [t1]; exact beq_eq_false_iff_ne.2 hn0
        have f2 : ((n : Int) == 0) = false := beq_eq_false_iff_ne.2 (by omega)
        clear t1 hn0
        go_wp2_with fail
        refine (awake_any _).mono ?_
        rintro e w' ⟨rfl, hb4⟩
        go_wp2
        go_ret
        exact ⟨rfl, hb3.trans (hb4.mono hb3.size)⟩
theorem nobody_walk (w : World) (A0 : Option Addr) (n0 c0 : Nat) (a0 : List UInt8) (A1 : Option Addr) (n1 c1 : Nat) (a1 : List (Int × Int)) (w0 : RowB w A0 n0 a0) (_ : A0 = none → n0 = 0 ∧ c0 = 0) (_ : n0 ≤ c0) (_ : c0 ≤ maxLen)
    (w1 : LookRow w A1 n1 a1) (_ : n1 ≤ c1) (_ : c1 ≤ maxLen) :
    Calls Try.prog 6 #[.slice A0 n0 c0, .slice A1 n1 c1] w fun e w' => e = .returned (.bool true) ∧ Below w.heap.size w w' := by
  by_cases hb : 8192 < n0
  · exact nobody_big A0 A1 n0 c0 n1 c1 hb w
  · by_cases hm : 100 < n1
    · exact nobody_many A0 A1 n0 c0 n1 c1 (by omega) hm w
    · exact nobody_few A0 A1 n0 c0 n1 c1 a0 a1 (by omega) (by omega) w w0 w1
end Go.Proofs.Ytdedbbbgpjhjhaa.Oct
