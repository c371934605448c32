/- The walk of the law of the least text above. -/
import Derived.Test.YthbpnbllcbemfaaOctLeast
import Derived.Handy
namespace Go.Proofs.Ythbpnbllcbemfaa.Oct
open Go.RowKit

theorem less_yes (a b : ByteArray) (ha : a.size ≤ 1048576) (hb : b.size ≤ 1048576) (h : Ahead a b) (w : World) :
    Calls Try.prog 45 #[.string a, .string b] w fun e w' => e = .returned (.bool true) ∧ Below w.heap.size w w' :=
  (less_any a b ha hb w).mono fun e w' ⟨⟨c, e1, hc⟩, hb⟩ => ⟨by rw [e1, hc.2 h], hb⟩
theorem less_no (a b : ByteArray) (ha : a.size ≤ 1048576) (hb : b.size ≤ 1048576) (h : ¬ Ahead a b) (w : World) :
    Calls Try.prog 45 #[.string a, .string b] w fun e w' => e = .returned (.bool false) ∧ Below w.heap.size w w' :=
  (less_any a b ha hb w).mono fun e w' ⟨⟨c, e1, hc⟩, hb⟩ => ⟨by
    cases c
    · exact e1
    · exact absurd (hc.1 rfl) h, hb⟩
theorem begins_yes (a b : ByteArray) (ha : a.size ≤ 1048576) (hb : b.size ≤ 1048576) (h : Com a b b.size) (w : World) :
    Calls Try.prog 46 #[.string a, .string b] w fun e w' => e = .returned (.bool true) ∧ w = w' :=
  (begins_any a b ha hb w).mono fun e w' ⟨⟨c, e1, hc⟩, hb⟩ => ⟨by rw [e1, hc.2 h], hb⟩
theorem begins_no (a b : ByteArray) (ha : a.size ≤ 1048576) (hb : b.size ≤ 1048576) (h : ¬ Com a b b.size) (w : World) :
    Calls Try.prog 46 #[.string a, .string b] w fun e w' => e = .returned (.bool false) ∧ w = w' :=
  (begins_any a b ha hb w).mono fun e w' ⟨⟨c, e1, hc⟩, hb⟩ => ⟨by
    cases c
    · exact e1
    · exact absurd (hc.1 rfl) h, hb⟩
set_option maxRecDepth 100000 in
set_option maxHeartbeats 400000 in
theorem least_ynC (s o : ByteArray) (hs : s.size ≤ 8192) (ho : o.size ≤ 8192) (a1 : Ahead s o) (hn : nb s s.size = -1) (c1 : Com o s s.size) (c2 : ¬ Ahead o s) (w : World) :
    Calls Try.prog 8 #[.string s, .string o] w fun e w' => e = .returned (.bool true) ∧ Below w.heap.size w w' := by
  have hs1 : s.size ≤ 1048576 := by omega
  have ho1 : o.size ≤ 1048576 := by omega
  have ha : (s ++ ⟨#[0]⟩ : ByteArray).size ≤ 1048576 := by rw [after_size]; omega
  have HA := Lib.hid (And.intro ha (And.intro (after_above s) (fun h1 h2 => after_least s o h1 h2)))
  clear ha
  have HB := Lib.hid (fun W => beyond_none s (by unfold maxLen; omega) hn W)
  have Ha1 := Lib.hid a1
  clear a1
  have Hhn := Lib.hid hn
  clear hn
  have Hc1 := Lib.hid c1
  clear c1
  have Hc2 := Lib.hid c2
  clear c2
  go_enter Try.func8, Try.ntmps8
  have g : Below w.heap.size w w := Below.refl _ _
  go_wp2_with fail
  refine (after_any s hs1 _).mono ?_
  rintro e w1 ⟨rfl, rfl⟩
  generalize (s ++ ⟨#[0]⟩ : ByteArray) = A at *
  go_wp2_with fail
  refine (less_yes s o hs1 ho1 Ha1.out _).mono ?_
  rintro e w1 ⟨rfl, hb⟩
  replace g := g.trans (hb.mono g.size)
  clear hb
  go_wp2_with fail
  refine (less_no o A ho1 HA.out.1 (HA.out.2.2 Ha1.out) _).mono ?_
  rintro e w1 ⟨rfl, hb⟩
  replace g := g.trans (hb.mono g.size)
  clear hb
  go_wp2_with fail
  refine (less_yes s A hs1 HA.out.1 HA.out.2.1 _).mono ?_
  rintro e w1 ⟨rfl, hb⟩
  replace g := g.trans (hb.mono g.size)
  clear hb
  go_wp2_with fail
  refine (HB.out _).mono ?_
  rintro e w1 ⟨rfl, hb⟩
  obtain rfl := hb
  go_wp2_with fail
  refine (begins_yes o s ho1 hs1 Hc1.out _).mono ?_
  rintro e w1 ⟨rfl, rfl⟩
  go_wp2_with fail
  refine (less_no o s ho1 hs1 Hc2.out _).mono ?_
  rintro e w1 ⟨rfl, hb⟩
  replace g := g.trans (hb.mono g.size)
  clear hb
  go_wp2_with fail
  refine (awake_any _).mono ?_
  rintro e w1 ⟨rfl, hb⟩
  replace g := g.trans (hb.mono g.size)
  clear hb
  go_wp2
  go_ret
  exact ⟨rfl, g⟩
set_option maxRecDepth 100000 in
set_option maxHeartbeats 400000 in
theorem least_ynD (s o : ByteArray) (hs : s.size ≤ 8192) (ho : o.size ≤ 8192) (a1 : Ahead s o) (hn : nb s s.size = -1) (c1 : ¬ Com o s s.size) (c2 : Ahead o s) (w : World) :
    Calls Try.prog 8 #[.string s, .string o] w fun e w' => e = .returned (.bool true) ∧ Below w.heap.size w w' := by
  have hs1 : s.size ≤ 1048576 := by omega
  have ho1 : o.size ≤ 1048576 := by omega
  have ha : (s ++ ⟨#[0]⟩ : ByteArray).size ≤ 1048576 := by rw [after_size]; omega
  have HA := Lib.hid (And.intro ha (And.intro (after_above s) (fun h1 h2 => after_least s o h1 h2)))
  clear ha
  have HB := Lib.hid (fun W => beyond_none s (by unfold maxLen; omega) hn W)
  have Ha1 := Lib.hid a1
  clear a1
  have Hhn := Lib.hid hn
  clear hn
  have Hc1 := Lib.hid c1
  clear c1
  have Hc2 := Lib.hid c2
  clear c2
  go_enter Try.func8, Try.ntmps8
  have g : Below w.heap.size w w := Below.refl _ _
  go_wp2_with fail
  refine (after_any s hs1 _).mono ?_
  rintro e w1 ⟨rfl, rfl⟩
  generalize (s ++ ⟨#[0]⟩ : ByteArray) = A at *
  go_wp2_with fail
  refine (less_yes s o hs1 ho1 Ha1.out _).mono ?_
  rintro e w1 ⟨rfl, hb⟩
  replace g := g.trans (hb.mono g.size)
  clear hb
  go_wp2_with fail
  refine (less_no o A ho1 HA.out.1 (HA.out.2.2 Ha1.out) _).mono ?_
  rintro e w1 ⟨rfl, hb⟩
  replace g := g.trans (hb.mono g.size)
  clear hb
  go_wp2_with fail
  refine (less_yes s A hs1 HA.out.1 HA.out.2.1 _).mono ?_
  rintro e w1 ⟨rfl, hb⟩
  replace g := g.trans (hb.mono g.size)
  clear hb
  go_wp2_with fail
  refine (HB.out _).mono ?_
  rintro e w1 ⟨rfl, hb⟩
  obtain rfl := hb
  go_wp2_with fail
  refine (begins_no o s ho1 hs1 Hc1.out _).mono ?_
  rintro e w1 ⟨rfl, rfl⟩
  go_wp2_with fail
  refine (less_yes o s ho1 hs1 Hc2.out _).mono ?_
  rintro e w1 ⟨rfl, hb⟩
  replace g := g.trans (hb.mono g.size)
  clear hb
  go_wp2_with fail
  refine (awake_any _).mono ?_
  rintro e w1 ⟨rfl, hb⟩
  replace g := g.trans (hb.mono g.size)
  clear hb
  go_wp2
  go_ret
  exact ⟨rfl, g⟩
set_option maxRecDepth 100000 in
set_option maxHeartbeats 400000 in
theorem least_ysC (s o : ByteArray) (hs : s.size ≤ 8192) (ho : o.size ≤ 8192) (a1 : Ahead s o) (q : Nat) (hq : q < s.size) (hn : nb s s.size = (q : Int)) (c1 : Com o s s.size) (c2 : ¬ Ahead o s) (c3 : Ahead o (bey s q hq)) (w : World) :
    Calls Try.prog 8 #[.string s, .string o] w fun e w' => e = .returned (.bool true) ∧ Below w.heap.size w w' := by
  have hs1 : s.size ≤ 1048576 := by omega
  have ho1 : o.size ≤ 1048576 := by omega
  have ha : (s ++ ⟨#[0]⟩ : ByteArray).size ≤ 1048576 := by rw [after_size]; omega
  have HA := Lib.hid (And.intro ha (And.intro (after_above s) (fun h1 h2 => after_least s o h1 h2)))
  clear ha
  have HZ := Lib.hid (show (bey s q hq).size ≤ 1048576 by rw [bey_size s q hq]; omega)
  have HB := Lib.hid (fun W => beyond_some s hs1 q hq hn W)
  have Ha1 := Lib.hid a1
  clear a1
  have Hhn := Lib.hid hn
  clear hn
  have Hc1 := Lib.hid c1
  clear c1
  have Hc2 := Lib.hid c2
  clear c2
  have Hc3 := Lib.hid c3
  clear c3
  go_enter Try.func8, Try.ntmps8
  have g : Below w.heap.size w w := Below.refl _ _
  go_wp2_with fail
  refine (after_any s hs1 _).mono ?_
  rintro e w1 ⟨rfl, rfl⟩
  generalize (s ++ ⟨#[0]⟩ : ByteArray) = A at *
  go_wp2_with fail
  refine (less_yes s o hs1 ho1 Ha1.out _).mono ?_
  rintro e w1 ⟨rfl, hb⟩
  replace g := g.trans (hb.mono g.size)
  clear hb
  go_wp2_with fail
  refine (less_no o A ho1 HA.out.1 (HA.out.2.2 Ha1.out) _).mono ?_
  rintro e w1 ⟨rfl, hb⟩
  replace g := g.trans (hb.mono g.size)
  clear hb
  go_wp2_with fail
  refine (less_yes s A hs1 HA.out.1 HA.out.2.1 _).mono ?_
  rintro e w1 ⟨rfl, hb⟩
  replace g := g.trans (hb.mono g.size)
  clear hb
  go_wp2_with fail
  refine (HB.out _).mono ?_
  rintro e w1 ⟨rfl, hb⟩
  replace g := g.trans (hb.mono g.size)
  clear hb
  go_wp2_with fail
  refine (begins_yes o s ho1 hs1 Hc1.out _).mono ?_
  rintro e w1 ⟨rfl, rfl⟩
  go_wp2_with fail
  refine (less_no o s ho1 hs1 Hc2.out _).mono ?_
  rintro e w1 ⟨rfl, hb⟩
  replace g := g.trans (hb.mono g.size)
  clear hb
  go_wp2_with fail
  refine (less_yes o (bey s q hq) ho1 HZ.out Hc3.out _).mono ?_
  rintro e w1 ⟨rfl, hb⟩
  replace g := g.trans (hb.mono g.size)
  clear hb
  go_wp2_with fail
  refine (awake_any _).mono ?_
  rintro e w1 ⟨rfl, hb⟩
  replace g := g.trans (hb.mono g.size)
  clear hb
  go_wp2
  go_ret
  exact ⟨rfl, g⟩
set_option maxRecDepth 100000 in
set_option maxHeartbeats 400000 in
theorem least_ysD (s o : ByteArray) (hs : s.size ≤ 8192) (ho : o.size ≤ 8192) (a1 : Ahead s o) (q : Nat) (hq : q < s.size) (hn : nb s s.size = (q : Int)) (c1 : ¬ Com o s s.size) (c2 : ¬ Ahead o s) (c3 : ¬ Ahead o (bey s q hq)) (w : World) :
    Calls Try.prog 8 #[.string s, .string o] w fun e w' => e = .returned (.bool true) ∧ Below w.heap.size w w' := by
  have hs1 : s.size ≤ 1048576 := by omega
  have ho1 : o.size ≤ 1048576 := by omega
  have ha : (s ++ ⟨#[0]⟩ : ByteArray).size ≤ 1048576 := by rw [after_size]; omega
  have HA := Lib.hid (And.intro ha (And.intro (after_above s) (fun h1 h2 => after_least s o h1 h2)))
  clear ha
  have HZ := Lib.hid (show (bey s q hq).size ≤ 1048576 by rw [bey_size s q hq]; omega)
  have HB := Lib.hid (fun W => beyond_some s hs1 q hq hn W)
  have Ha1 := Lib.hid a1
  clear a1
  have Hhn := Lib.hid hn
  clear hn
  have Hc1 := Lib.hid c1
  clear c1
  have Hc2 := Lib.hid c2
  clear c2
  have Hc3 := Lib.hid c3
  clear c3
  go_enter Try.func8, Try.ntmps8
  have g : Below w.heap.size w w := Below.refl _ _
  go_wp2_with fail
  refine (after_any s hs1 _).mono ?_
  rintro e w1 ⟨rfl, rfl⟩
  generalize (s ++ ⟨#[0]⟩ : ByteArray) = A at *
  go_wp2_with fail
  refine (less_yes s o hs1 ho1 Ha1.out _).mono ?_
  rintro e w1 ⟨rfl, hb⟩
  replace g := g.trans (hb.mono g.size)
  clear hb
  go_wp2_with fail
  refine (less_no o A ho1 HA.out.1 (HA.out.2.2 Ha1.out) _).mono ?_
  rintro e w1 ⟨rfl, hb⟩
  replace g := g.trans (hb.mono g.size)
  clear hb
  go_wp2_with fail
  refine (less_yes s A hs1 HA.out.1 HA.out.2.1 _).mono ?_
  rintro e w1 ⟨rfl, hb⟩
  replace g := g.trans (hb.mono g.size)
  clear hb
  go_wp2_with fail
  refine (HB.out _).mono ?_
  rintro e w1 ⟨rfl, hb⟩
  replace g := g.trans (hb.mono g.size)
  clear hb
  go_wp2_with fail
  refine (begins_no o s ho1 hs1 Hc1.out _).mono ?_
  rintro e w1 ⟨rfl, rfl⟩
  go_wp2_with fail
  refine (less_no o s ho1 hs1 Hc2.out _).mono ?_
  rintro e w1 ⟨rfl, hb⟩
  replace g := g.trans (hb.mono g.size)
  clear hb
  go_wp2_with fail
  refine (less_no o (bey s q hq) ho1 HZ.out Hc3.out _).mono ?_
  rintro e w1 ⟨rfl, hb⟩
  replace g := g.trans (hb.mono g.size)
  clear hb
  go_wp2_with fail
  refine (awake_any _).mono ?_
  rintro e w1 ⟨rfl, hb⟩
  replace g := g.trans (hb.mono g.size)
  clear hb
  go_wp2
  go_ret
  exact ⟨rfl, g⟩
set_option maxRecDepth 100000 in
set_option maxHeartbeats 400000 in
theorem least_ysE (s o : ByteArray) (hs : s.size ≤ 8192) (ho : o.size ≤ 8192) (a1 : Ahead s o) (q : Nat) (hq : q < s.size) (hn : nb s s.size = (q : Int)) (c1 : ¬ Com o s s.size) (c2 : Ahead o s) (w : World) :
    Calls Try.prog 8 #[.string s, .string o] w fun e w' => e = .returned (.bool true) ∧ Below w.heap.size w w' := by
  have hs1 : s.size ≤ 1048576 := by omega
  have ho1 : o.size ≤ 1048576 := by omega
  have ha : (s ++ ⟨#[0]⟩ : ByteArray).size ≤ 1048576 := by rw [after_size]; omega
  have HA := Lib.hid (And.intro ha (And.intro (after_above s) (fun h1 h2 => after_least s o h1 h2)))
  clear ha
  have HZ := Lib.hid (show (bey s q hq).size ≤ 1048576 by rw [bey_size s q hq]; omega)
  have HB := Lib.hid (fun W => beyond_some s hs1 q hq hn W)
  have Ha1 := Lib.hid a1
  clear a1
  have Hhn := Lib.hid hn
  clear hn
  have Hc1 := Lib.hid c1
  clear c1
  have Hc2 := Lib.hid c2
  clear c2
  go_enter Try.func8, Try.ntmps8
  have g : Below w.heap.size w w := Below.refl _ _
  go_wp2_with fail
  refine (after_any s hs1 _).mono ?_
  rintro e w1 ⟨rfl, rfl⟩
  generalize (s ++ ⟨#[0]⟩ : ByteArray) = A at *
  go_wp2_with fail
  refine (less_yes s o hs1 ho1 Ha1.out _).mono ?_
  rintro e w1 ⟨rfl, hb⟩
  replace g := g.trans (hb.mono g.size)
  clear hb
  go_wp2_with fail
  refine (less_no o A ho1 HA.out.1 (HA.out.2.2 Ha1.out) _).mono ?_
  rintro e w1 ⟨rfl, hb⟩
  replace g := g.trans (hb.mono g.size)
  clear hb
  go_wp2_with fail
  refine (less_yes s A hs1 HA.out.1 HA.out.2.1 _).mono ?_
  rintro e w1 ⟨rfl, hb⟩
  replace g := g.trans (hb.mono g.size)
  clear hb
  go_wp2_with fail
  refine (HB.out _).mono ?_
  rintro e w1 ⟨rfl, hb⟩
  replace g := g.trans (hb.mono g.size)
  clear hb
  go_wp2_with fail
  refine (begins_no o s ho1 hs1 Hc1.out _).mono ?_
  rintro e w1 ⟨rfl, rfl⟩
  go_wp2_with fail
  refine (less_yes o s ho1 hs1 Hc2.out _).mono ?_
  rintro e w1 ⟨rfl, hb⟩
  replace g := g.trans (hb.mono g.size)
  clear hb
  go_wp2_with fail
  refine (awake_any _).mono ?_
  rintro e w1 ⟨rfl, hb⟩
  replace g := g.trans (hb.mono g.size)
  clear hb
  go_wp2
  go_ret
  exact ⟨rfl, g⟩
set_option maxRecDepth 100000 in
set_option maxHeartbeats 400000 in
theorem least_nnC (s o : ByteArray) (hs : s.size ≤ 8192) (ho : o.size ≤ 8192) (a1 : ¬ Ahead s o) (hn : nb s s.size = -1) (c1 : Com o s s.size) (c2 : ¬ Ahead o s) (w : World) :
    Calls Try.prog 8 #[.string s, .string o] w fun e w' => e = .returned (.bool true) ∧ Below w.heap.size w w' := by
  have hs1 : s.size ≤ 1048576 := by omega
  have ho1 : o.size ≤ 1048576 := by omega
  have ha : (s ++ ⟨#[0]⟩ : ByteArray).size ≤ 1048576 := by rw [after_size]; omega
  have HA := Lib.hid (And.intro ha (And.intro (after_above s) (fun h1 h2 => after_least s o h1 h2)))
  clear ha
  have HB := Lib.hid (fun W => beyond_none s (by unfold maxLen; omega) hn W)
  have Ha1 := Lib.hid a1
  clear a1
  have Hhn := Lib.hid hn
  clear hn
  have Hc1 := Lib.hid c1
  clear c1
  have Hc2 := Lib.hid c2
  clear c2
  go_enter Try.func8, Try.ntmps8
  have g : Below w.heap.size w w := Below.refl _ _
  go_wp2_with fail
  refine (after_any s hs1 _).mono ?_
  rintro e w1 ⟨rfl, rfl⟩
  generalize (s ++ ⟨#[0]⟩ : ByteArray) = A at *
  go_wp2_with fail
  refine (less_no s o hs1 ho1 Ha1.out _).mono ?_
  rintro e w1 ⟨rfl, hb⟩
  replace g := g.trans (hb.mono g.size)
  clear hb
  go_wp2_with fail
  refine (less_yes s A hs1 HA.out.1 HA.out.2.1 _).mono ?_
  rintro e w1 ⟨rfl, hb⟩
  replace g := g.trans (hb.mono g.size)
  clear hb
  go_wp2_with fail
  refine (HB.out _).mono ?_
  rintro e w1 ⟨rfl, hb⟩
  obtain rfl := hb
  go_wp2_with fail
  refine (begins_yes o s ho1 hs1 Hc1.out _).mono ?_
  rintro e w1 ⟨rfl, rfl⟩
  go_wp2_with fail
  refine (less_no o s ho1 hs1 Hc2.out _).mono ?_
  rintro e w1 ⟨rfl, hb⟩
  replace g := g.trans (hb.mono g.size)
  clear hb
  go_wp2_with fail
  refine (awake_any _).mono ?_
  rintro e w1 ⟨rfl, hb⟩
  replace g := g.trans (hb.mono g.size)
  clear hb
  go_wp2
  go_ret
  exact ⟨rfl, g⟩
set_option maxRecDepth 100000 in
set_option maxHeartbeats 400000 in
theorem least_nnD (s o : ByteArray) (hs : s.size ≤ 8192) (ho : o.size ≤ 8192) (a1 : ¬ Ahead s o) (hn : nb s s.size = -1) (c1 : ¬ Com o s s.size) (c2 : Ahead o s) (w : World) :
    Calls Try.prog 8 #[.string s, .string o] w fun e w' => e = .returned (.bool true) ∧ Below w.heap.size w w' := by
  have hs1 : s.size ≤ 1048576 := by omega
  have ho1 : o.size ≤ 1048576 := by omega
  have ha : (s ++ ⟨#[0]⟩ : ByteArray).size ≤ 1048576 := by rw [after_size]; omega
  have HA := Lib.hid (And.intro ha (And.intro (after_above s) (fun h1 h2 => after_least s o h1 h2)))
  clear ha
  have HB := Lib.hid (fun W => beyond_none s (by unfold maxLen; omega) hn W)
  have Ha1 := Lib.hid a1
  clear a1
  have Hhn := Lib.hid hn
  clear hn
  have Hc1 := Lib.hid c1
  clear c1
  have Hc2 := Lib.hid c2
  clear c2
  go_enter Try.func8, Try.ntmps8
  have g : Below w.heap.size w w := Below.refl _ _
  go_wp2_with fail
  refine (after_any s hs1 _).mono ?_
  rintro e w1 ⟨rfl, rfl⟩
  generalize (s ++ ⟨#[0]⟩ : ByteArray) = A at *
  go_wp2_with fail
  refine (less_no s o hs1 ho1 Ha1.out _).mono ?_
  rintro e w1 ⟨rfl, hb⟩
  replace g := g.trans (hb.mono g.size)
  clear hb
  go_wp2_with fail
  refine (less_yes s A hs1 HA.out.1 HA.out.2.1 _).mono ?_
  rintro e w1 ⟨rfl, hb⟩
  replace g := g.trans (hb.mono g.size)
  clear hb
  go_wp2_with fail
  refine (HB.out _).mono ?_
  rintro e w1 ⟨rfl, hb⟩
  obtain rfl := hb
  go_wp2_with fail
  refine (begins_no o s ho1 hs1 Hc1.out _).mono ?_
  rintro e w1 ⟨rfl, rfl⟩
  go_wp2_with fail
  refine (less_yes o s ho1 hs1 Hc2.out _).mono ?_
  rintro e w1 ⟨rfl, hb⟩
  replace g := g.trans (hb.mono g.size)
  clear hb
  go_wp2_with fail
  refine (awake_any _).mono ?_
  rintro e w1 ⟨rfl, hb⟩
  replace g := g.trans (hb.mono g.size)
  clear hb
  go_wp2
  go_ret
  exact ⟨rfl, g⟩
set_option maxRecDepth 100000 in
set_option maxHeartbeats 400000 in
theorem least_nsC (s o : ByteArray) (hs : s.size ≤ 8192) (ho : o.size ≤ 8192) (a1 : ¬ Ahead s o) (q : Nat) (hq : q < s.size) (hn : nb s s.size = (q : Int)) (c1 : Com o s s.size) (c2 : ¬ Ahead o s) (c3 : Ahead o (bey s q hq)) (w : World) :
    Calls Try.prog 8 #[.string s, .string o] w fun e w' => e = .returned (.bool true) ∧ Below w.heap.size w w' := by
  have hs1 : s.size ≤ 1048576 := by omega
  have ho1 : o.size ≤ 1048576 := by omega
  have ha : (s ++ ⟨#[0]⟩ : ByteArray).size ≤ 1048576 := by rw [after_size]; omega
  have HA := Lib.hid (And.intro ha (And.intro (after_above s) (fun h1 h2 => after_least s o h1 h2)))
  clear ha
  have HZ := Lib.hid (show (bey s q hq).size ≤ 1048576 by rw [bey_size s q hq]; omega)
  have HB := Lib.hid (fun W => beyond_some s hs1 q hq hn W)
  have Ha1 := Lib.hid a1
  clear a1
  have Hhn := Lib.hid hn
  clear hn
  have Hc1 := Lib.hid c1
  clear c1
  have Hc2 := Lib.hid c2
  clear c2
  have Hc3 := Lib.hid c3
  clear c3
  go_enter Try.func8, Try.ntmps8
  have g : Below w.heap.size w w := Below.refl _ _
  go_wp2_with fail
  refine (after_any s hs1 _).mono ?_
  rintro e w1 ⟨rfl, rfl⟩
  generalize (s ++ ⟨#[0]⟩ : ByteArray) = A at *
  go_wp2_with fail
  refine (less_no s o hs1 ho1 Ha1.out _).mono ?_
  rintro e w1 ⟨rfl, hb⟩
  replace g := g.trans (hb.mono g.size)
  clear hb
  go_wp2_with fail
  refine (less_yes s A hs1 HA.out.1 HA.out.2.1 _).mono ?_
  rintro e w1 ⟨rfl, hb⟩
  replace g := g.trans (hb.mono g.size)
  clear hb
  go_wp2_with fail
  refine (HB.out _).mono ?_
  rintro e w1 ⟨rfl, hb⟩
  replace g := g.trans (hb.mono g.size)
  clear hb
  go_wp2_with fail
  refine (begins_yes o s ho1 hs1 Hc1.out _).mono ?_
  rintro e w1 ⟨rfl, rfl⟩
  go_wp2_with fail
  refine (less_no o s ho1 hs1 Hc2.out _).mono ?_
  rintro e w1 ⟨rfl, hb⟩
  replace g := g.trans (hb.mono g.size)
  clear hb
  go_wp2_with fail
  refine (less_yes o (bey s q hq) ho1 HZ.out Hc3.out _).mono ?_
  rintro e w1 ⟨rfl, hb⟩
  replace g := g.trans (hb.mono g.size)
  clear hb
  go_wp2_with fail
  refine (awake_any _).mono ?_
  rintro e w1 ⟨rfl, hb⟩
  replace g := g.trans (hb.mono g.size)
  clear hb
  go_wp2
  go_ret
  exact ⟨rfl, g⟩
set_option maxRecDepth 100000 in
set_option maxHeartbeats 400000 in
theorem least_nsD (s o : ByteArray) (hs : s.size ≤ 8192) (ho : o.size ≤ 8192) (a1 : ¬ Ahead s o) (q : Nat) (hq : q < s.size) (hn : nb s s.size = (q : Int)) (c1 : ¬ Com o s s.size) (c2 : ¬ Ahead o s) (c3 : ¬ Ahead o (bey s q hq)) (w : World) :
    Calls Try.prog 8 #[.string s, .string o] w fun e w' => e = .returned (.bool true) ∧ Below w.heap.size w w' := by
  have hs1 : s.size ≤ 1048576 := by omega
  have ho1 : o.size ≤ 1048576 := by omega
  have ha : (s ++ ⟨#[0]⟩ : ByteArray).size ≤ 1048576 := by rw [after_size]; omega
  have HA := Lib.hid (And.intro ha (And.intro (after_above s) (fun h1 h2 => after_least s o h1 h2)))
  clear ha
  have HZ := Lib.hid (show (bey s q hq).size ≤ 1048576 by rw [bey_size s q hq]; omega)
  have HB := Lib.hid (fun W => beyond_some s hs1 q hq hn W)
  have Ha1 := Lib.hid a1
  clear a1
  have Hhn := Lib.hid hn
  clear hn
  have Hc1 := Lib.hid c1
  clear c1
  have Hc2 := Lib.hid c2
  clear c2
  have Hc3 := Lib.hid c3
  clear c3
  go_enter Try.func8, Try.ntmps8
  have g : Below w.heap.size w w := Below.refl _ _
  go_wp2_with fail
  refine (after_any s hs1 _).mono ?_
  rintro e w1 ⟨rfl, rfl⟩
  generalize (s ++ ⟨#[0]⟩ : ByteArray) = A at *
  go_wp2_with fail
  refine (less_no s o hs1 ho1 Ha1.out _).mono ?_
  rintro e w1 ⟨rfl, hb⟩
  replace g := g.trans (hb.mono g.size)
  clear hb
  go_wp2_with fail
  refine (less_yes s A hs1 HA.out.1 HA.out.2.1 _).mono ?_
  rintro e w1 ⟨rfl, hb⟩
  replace g := g.trans (hb.mono g.size)
  clear hb
  go_wp2_with fail
  refine (HB.out _).mono ?_
  rintro e w1 ⟨rfl, hb⟩
  replace g := g.trans (hb.mono g.size)
  clear hb
  go_wp2_with fail
  refine (begins_no o s ho1 hs1 Hc1.out _).mono ?_
  rintro e w1 ⟨rfl, rfl⟩
  go_wp2_with fail
  refine (less_no o s ho1 hs1 Hc2.out _).mono ?_
  rintro e w1 ⟨rfl, hb⟩
  replace g := g.trans (hb.mono g.size)
  clear hb
  go_wp2_with fail
  refine (less_no o (bey s q hq) ho1 HZ.out Hc3.out _).mono ?_
  rintro e w1 ⟨rfl, hb⟩
  replace g := g.trans (hb.mono g.size)
  clear hb
  go_wp2_with fail
  refine (awake_any _).mono ?_
  rintro e w1 ⟨rfl, hb⟩
  replace g := g.trans (hb.mono g.size)
  clear hb
  go_wp2
  go_ret
  exact ⟨rfl, g⟩
set_option maxRecDepth 100000 in
set_option maxHeartbeats 400000 in
theorem least_nsE (s o : ByteArray) (hs : s.size ≤ 8192) (ho : o.size ≤ 8192) (a1 : ¬ Ahead s o) (q : Nat) (hq : q < s.size) (hn : nb s s.size = (q : Int)) (c1 : ¬ Com o s s.size) (c2 : Ahead o s) (w : World) :
    Calls Try.prog 8 #[.string s, .string o] w fun e w' => e = .returned (.bool true) ∧ Below w.heap.size w w' := by
  have hs1 : s.size ≤ 1048576 := by omega
  have ho1 : o.size ≤ 1048576 := by omega
  have ha : (s ++ ⟨#[0]⟩ : ByteArray).size ≤ 1048576 := by rw [after_size]; omega
  have HA := Lib.hid (And.intro ha (And.intro (after_above s) (fun h1 h2 => after_least s o h1 h2)))
  clear ha
  have HZ := Lib.hid (show (bey s q hq).size ≤ 1048576 by rw [bey_size s q hq]; omega)
  have HB := Lib.hid (fun W => beyond_some s hs1 q hq hn W)
  have Ha1 := Lib.hid a1
  clear a1
  have Hhn := Lib.hid hn
  clear hn
  have Hc1 := Lib.hid c1
  clear c1
  have Hc2 := Lib.hid c2
  clear c2
  go_enter Try.func8, Try.ntmps8
  have g : Below w.heap.size w w := Below.refl _ _
  go_wp2_with fail
  refine (after_any s hs1 _).mono ?_
  rintro e w1 ⟨rfl, rfl⟩
  generalize (s ++ ⟨#[0]⟩ : ByteArray) = A at *
  go_wp2_with fail
  refine (less_no s o hs1 ho1 Ha1.out _).mono ?_
  rintro e w1 ⟨rfl, hb⟩
  replace g := g.trans (hb.mono g.size)
  clear hb
  go_wp2_with fail
  refine (less_yes s A hs1 HA.out.1 HA.out.2.1 _).mono ?_
  rintro e w1 ⟨rfl, hb⟩
  replace g := g.trans (hb.mono g.size)
  clear hb
  go_wp2_with fail
  refine (HB.out _).mono ?_
  rintro e w1 ⟨rfl, hb⟩
  replace g := g.trans (hb.mono g.size)
  clear hb
  go_wp2_with fail
  refine (begins_no o s ho1 hs1 Hc1.out _).mono ?_
  rintro e w1 ⟨rfl, rfl⟩
  go_wp2_with fail
  refine (less_yes o s ho1 hs1 Hc2.out _).mono ?_
  rintro e w1 ⟨rfl, hb⟩
  replace g := g.trans (hb.mono g.size)
  clear hb
  go_wp2_with fail
  refine (awake_any _).mono ?_
  rintro e w1 ⟨rfl, hb⟩
  replace g := g.trans (hb.mono g.size)
  clear hb
  go_wp2
  go_ret
  exact ⟨rfl, g⟩
set_option maxRecDepth 100000 in
theorem least_walk (s o : ByteArray) (_ : s.size ≤ maxLen) (_ : o.size ≤ maxLen) (w : World) :
    Calls Try.prog 8 #[.string s, .string o] w fun e w' => e = .returned (.bool true) ∧ Below w.heap.size w w' := by
  by_cases h1 : 8192 < s.size
  · go_enter Try.func8, Try.ntmps8
    go_wp2_with fail
    refine (awake_any _).mono ?_
    rintro e w1 ⟨rfl, hb1⟩
    go_wp2
    go_ret
    exact ⟨rfl, hb1⟩
  by_cases h2 : 8192 < o.size
  · go_enter Try.func8, Try.ntmps8
    go_wp2_with fail
    refine (awake_any _).mono ?_
    rintro e w1 ⟨rfl, hb1⟩
    go_wp2
    go_ret
    exact ⟨rfl, hb1⟩
  have hs : s.size ≤ 8192 := by omega
  have ho : o.size ≤ 8192 := by omega
  rcases nb_cases s with hn | ⟨q, hq, hn⟩
  · have hl := least_none s o hn
    by_cases c1 : Com o s s.size
    · by_cases a1 : Ahead s o
      · exact least_ynC s o hs ho a1 hn c1 (hl.1 c1) w
      · exact least_nnC s o hs ho a1 hn c1 (hl.1 c1) w
    · have c2 : Ahead o s := Classical.byContradiction fun h => c1 (hl.2 h)
      by_cases a1 : Ahead s o
      · exact least_ynD s o hs ho a1 hn c1 c2 w
      · exact least_nnD s o hs ho a1 hn c1 c2 w
  · have hl := least_some s o q hq hn
    by_cases c1 : Com o s s.size
    · by_cases a1 : Ahead s o
      · exact least_ysC s o hs ho a1 q hq hn c1 (hl.1 c1).1 (hl.1 c1).2 w
      · exact least_nsC s o hs ho a1 q hq hn c1 (hl.1 c1).1 (hl.1 c1).2 w
    · by_cases c2 : Ahead o s
      · by_cases a1 : Ahead s o
        · exact least_ysE s o hs ho a1 q hq hn c1 c2 w
        · exact least_nsE s o hs ho a1 q hq hn c1 c2 w
      · have c3 : ¬ Ahead o (bey s q hq) := fun h => c1 (hl.2 ⟨c2, h⟩)
        by_cases a1 : Ahead s o
        · exact least_ysD s o hs ho a1 q hq hn c1 c2 c3 w
        · exact least_nsD s o hs ho a1 q hq hn c1 c2 c3 w
end Go.Proofs.Ythbpnbllcbemfaa.Oct
