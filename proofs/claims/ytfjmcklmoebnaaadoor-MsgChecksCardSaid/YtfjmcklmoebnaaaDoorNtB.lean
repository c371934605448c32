import Derived.Test.YtfjmcklmoebnaaaDoorNtA
import Derived.Test.YtfjmcklmoebnaaaDoorWho

/- Whether a message may be: what its parts ask. -/
namespace Go.Proofs.YtfjmcklmoebnaaaDoor.Nt
open Go.RowKit Go.Proofs.YtfjmcklmoebnaaaDoor.Mem Go.Proofs.YtfjmcklmoebnaaaDoor.Vc
set_option linter.unusedVariables false

/-- A truth value is answered: whether P. -/
def Told (P : Prop) (e : Ending) : Prop := ∃ b, e = .returned (.bool b) ∧ (b = true ↔ P)
theorem told_yes {P : Prop} (h : P) : Told P (.returned (.bool true)) := ⟨true, rfl, ⟨fun _ => h, fun _ => rfl⟩⟩
theorem told_no {P : Prop} (h : ¬ P) : Told P (.returned (.bool false)) := ⟨false, rfl, ⟨(fun e => by cases e), fun k => (h k).elim⟩⟩
theorem told_not {P : Prop} (h : false = true ↔ P) : ¬ P := fun k => by have := h.2 k; cases this
theorem told_bool {b : Bool} {e : Ending} (h : e = .returned (.bool b)) : Told (b = true) e := ⟨b, h, Iff.rfl⟩
theorem Told.iff {P Q : Prop} {e : Ending} (h : Told P e) (k : P ↔ Q) : Told Q e := by
  obtain ⟨b, e, h⟩ := h
  exact ⟨b, e, h.trans k⟩
def InB (a b c : Int) : Prop := b ≤ a ∧ a ≤ c
def NoneP (k : Int × Int) : Prop := k.1 = 0 ∧ k.2 = 0
def MarkOk (k : Int × Int) : Prop := NoneP k ∨ InB k.1 1 1099511627776 ∧ InB k.2 1 1099511627776
def HeadOk (m : MsgP) : Prop := InB m.kind 1 4 ∧ InB m.fr 0 7 ∧ InB m.to 0 7 ∧ m.fr ≠ m.to ∧ InB m.vol 0 2 ∧ goodB m.seen = true
def KindOk (m : MsgP) : Prop :=
  if m.kind = 1 then InB m.ix 0 4095 ∧ (¬ NoneP m.mark ∨ m.ix = 0)
  else if m.kind = 2 then ¬ NoneP m.mark ∧ InB m.tot 1 4096 ∧ InB m.ix 0 (m.tot - 1) ∧ InB (m.data.size : Int) 1 512
  else if m.kind = 4 then ¬ NoneP m.mark else True
theorem kind_1 {m : MsgP} (h : m.kind = 1) : KindOk m ↔ InB m.ix 0 4095 ∧ (¬ NoneP m.mark ∨ m.ix = 0) := by unfold KindOk; rw [if_pos h]
theorem kind_2 {m : MsgP} (h : m.kind = 2) : KindOk m ↔ ¬ NoneP m.mark ∧ InB m.tot 1 4096 ∧ InB m.ix 0 (m.tot - 1) ∧ InB (m.data.size : Int) 1 512 := by unfold KindOk; rw [if_neg (by omega), if_pos h]
theorem kind_4 {m : MsgP} (h : m.kind = 4) : KindOk m ↔ ¬ NoneP m.mark := by unfold KindOk; rw [if_neg (by omega), if_neg (by omega), if_pos h]
theorem kind_0 {m : MsgP} (h : ¬ m.kind = 1) (h2 : ¬ m.kind = 2) (h4 : ¬ m.kind = 4) : KindOk m := by unfold KindOk; rw [if_neg h, if_neg h2, if_neg h4]; trivial
theorem none_bool {k : Int × Int} : (k.1 == 0 && k.2 == 0) = true ↔ NoneP k := by unfold NoneP; simp
theorem none_bool_not {k : Int × Int} : (k.1 == 0 && k.2 == 0) = false ↔ ¬ NoneP k := by rw [← none_bool]; simp
theorem within_told (a b c : Int) (w : World) : Calls Tryd.prog 54 #[.int .i64 a, .int .i64 b, .int .i64 c] w fun e w' => Told (InB a b c) e ∧ Below w.heap.size w w' := by
  go_enter Tryd.func54, Tryd.ntmps54
  by_cases h1 : b ≤ a
  · by_cases h2 : a ≤ c
    · go_wp2
      go_ret
      exact ⟨told_yes ⟨h1, h2⟩, Below.refl _ _⟩
    · go_wp2
      go_ret
      exact ⟨told_no fun h => by have := h.2; omega, Below.refl _ _⟩
  · go_wp2
    go_ret
    exact ⟨told_no fun h => by have := h.1; omega, Below.refl _ _⟩
theorem isRep_told (a : Int) (w : World) : Calls Tryd.prog 55 #[.int .i64 a] w fun e w' => Told (InB a 0 7) e ∧ Below w.heap.size w w' := by
  have H1 := Lib.hid (fun W => within_told a 0 7 W)
  go_enter Tryd.func55, Tryd.ntmps55
  go_wp2_with fail
  refine (H1.out _).mono ?_
  rintro e w' ⟨⟨b, rfl, p⟩, hb⟩
  have HB := Lib.hid hb
  clear hb
  go_wp2
  go_ret
  exact ⟨⟨b, rfl, p⟩, HB.out⟩
theorem vgood_told (x : Nat → Int) (W : World) : Calls Tryd.prog 56 #[.agg (vecC x)] W fun e W' => Told (goodB x = true) e ∧ Below W.heap.size W W' :=
  (good_any x W).mono fun e W' h => ⟨told_bool h.1, h.2⟩
set_option maxRecDepth 100000 in
set_option maxHeartbeats 2000000 in
theorem mayMark_told (k : Int × Int) (w : World) : Calls Tryd.prog 22 #[.agg #[.int .i64 k.1, .int .i64 k.2]] w fun e w' => Told (MarkOk k) e ∧ Below w.heap.size w w' := by
  have H1 := Lib.hid (fun W => within_told k.1 1 1099511627776 W)
  have H2 := Lib.hid (fun W => within_told k.2 1 1099511627776 W)
  have HB := Lib.hid (((Below.refl w.heap.size w).alloc (Nat.le_refl _) (.cells #[.int .i64 k.1, .int .i64 k.2] 23)))
  have HA0 := Lib.hid (show Has (w.alloc (.cells #[.int .i64 k.1, .int .i64 k.2] 23)) w.heap.size 23 #[.int .i64 k.1, .int .i64 k.2] from by have h := Has.fresh w 23 #[.int .i64 k.1, .int .i64 k.2]; (try simp only [World.size_alloc] at h); exact h)
  go_enter Tryd.func22, Tryd.ntmps22
  have hq := eql_mark k.1 k.2 0 0
  generalize hz : (k.1 == 0 && k.2 == 0) = z at *
  have HZ := Lib.hid hz
  clear hz
  cases z with
  | true =>
    go_wp2
    go_ret
    exact ⟨told_yes (.inl (none_bool.1 HZ.out)), HB.out⟩
  | false =>
    go_wp2_with fail
    refine (H1.out _).mono ?_
    rintro e w0 ⟨⟨b0, rfl, p0⟩, hb⟩
    replace HB := Lib.hid (HB.out.trans (hb.mono HB.out.size))
    replace HA0 := Lib.hid (HA0.out.below hb)
    have hr0 := fun j => HA0.out.at_ j
    clear hb
    cases b0 with
    | true =>
      have K0 := Lib.hid (p0.1 rfl)
      clear p0
      go_wp2_with fail
      refine (H2.out _).mono ?_
      rintro e w1 ⟨⟨b1, rfl, p1⟩, hb⟩
      replace HB := Lib.hid (HB.out.trans (hb.mono HB.out.size))
      replace HA0 := Lib.hid (HA0.out.below hb)
      clear hr0
      have hr0 := fun j => HA0.out.at_ j
      clear hb
      cases b1 with
      | true =>
        have K1 := Lib.hid (p1.1 rfl)
        clear p1
        go_wp2
        go_ret
        exact ⟨told_yes (.inr ⟨K0.out, K1.out⟩), HB.out⟩
      | false =>
        have K1 := Lib.hid (told_not p1)
        clear p1
        go_wp2
        go_ret
        exact ⟨told_no fun h => h.elim (none_bool_not.1 HZ.out) fun h => K1.out h.2, HB.out⟩
    | false =>
      have K0 := Lib.hid (told_not p0)
      clear p0
      go_wp2
      go_ret
      exact ⟨told_no fun h => h.elim (none_bool_not.1 HZ.out) fun h => K0.out h.1, HB.out⟩
set_option maxRecDepth 100000 in
set_option maxHeartbeats 2000000 in
theorem marked_told (m : MsgP) (w : World) : Calls Tryd.prog 57 #[.agg (msgC m)] w fun e w' => Told (¬ NoneP m.mark) e ∧ Below w.heap.size w w' := by
  have HB := Lib.hid (((Below.refl w.heap.size w).alloc (Nat.le_refl _) (.cells #[.int .i64 m.kind, .int .i64 m.fr, .int .i64 m.to, .int .i64 m.vol, .int .i64 m.base.1, .int .i64 m.base.2, .int .i64 m.mark.1, .int .i64 m.mark.2, .int .i64 m.ix, .int .i64 m.tot, .int .i64 (m.seen 0), .int .i64 (m.seen 1), .int .i64 (m.seen 2), .int .i64 (m.seen 3), .int .i64 (m.seen 4), .int .i64 (m.seen 5), .int .i64 (m.seen 6), .int .i64 (m.seen 7), .string m.data] 27)))
  have HA0 := Lib.hid (show Has (w.alloc (.cells #[.int .i64 m.kind, .int .i64 m.fr, .int .i64 m.to, .int .i64 m.vol, .int .i64 m.base.1, .int .i64 m.base.2, .int .i64 m.mark.1, .int .i64 m.mark.2, .int .i64 m.ix, .int .i64 m.tot, .int .i64 (m.seen 0), .int .i64 (m.seen 1), .int .i64 (m.seen 2), .int .i64 (m.seen 3), .int .i64 (m.seen 4), .int .i64 (m.seen 5), .int .i64 (m.seen 6), .int .i64 (m.seen 7), .string m.data] 27)) w.heap.size 27 #[.int .i64 m.kind, .int .i64 m.fr, .int .i64 m.to, .int .i64 m.vol, .int .i64 m.base.1, .int .i64 m.base.2, .int .i64 m.mark.1, .int .i64 m.mark.2, .int .i64 m.ix, .int .i64 m.tot, .int .i64 (m.seen 0), .int .i64 (m.seen 1), .int .i64 (m.seen 2), .int .i64 (m.seen 3), .int .i64 (m.seen 4), .int .i64 (m.seen 5), .int .i64 (m.seen 6), .int .i64 (m.seen 7), .string m.data] from by have h := Has.fresh w 27 #[.int .i64 m.kind, .int .i64 m.fr, .int .i64 m.to, .int .i64 m.vol, .int .i64 m.base.1, .int .i64 m.base.2, .int .i64 m.mark.1, .int .i64 m.mark.2, .int .i64 m.ix, .int .i64 m.tot, .int .i64 (m.seen 0), .int .i64 (m.seen 1), .int .i64 (m.seen 2), .int .i64 (m.seen 3), .int .i64 (m.seen 4), .int .i64 (m.seen 5), .int .i64 (m.seen 6), .int .i64 (m.seen 7), .string m.data]; (try simp only [World.size_alloc] at h); exact h)
  unfold msgC
  go_enter Tryd.func57, Tryd.ntmps57
  have hq := neq_mark m.mark.1 m.mark.2 0 0
  generalize hz : (m.mark.1 == 0 && m.mark.2 == 0) = z at *
  have HZ := Lib.hid hz
  clear hz
  cases z with
  | true =>
    go_wp2
    go_ret
    exact ⟨told_no (fun h => h (none_bool.1 HZ.out)), HB.out⟩
  | false =>
    go_wp2
    go_ret
    exact ⟨told_yes (none_bool_not.1 HZ.out), HB.out⟩
set_option maxRecDepth 100000 in
set_option maxHeartbeats 2000000 in
theorem mayHead_told (m : MsgP) (w : World) : Calls Tryd.prog 21 #[.agg (msgC m)] w fun e w' => Told (HeadOk m) e ∧ Below w.heap.size w w' := by
  have H1 := Lib.hid (fun W => within_told m.kind 1 4 W)
  have H2 := Lib.hid (fun W => isRep_told m.fr W)
  have H3 := Lib.hid (fun W => isRep_told m.to W)
  have H4 := Lib.hid (fun W => within_told m.vol 0 2 W)
  have H5 := Lib.hid (fun W => vgood_told m.seen W)
  unfold vecC at H5
  have HB := Lib.hid (((Below.refl w.heap.size w).alloc (Nat.le_refl _) (.cells #[.int .i64 m.kind, .int .i64 m.fr, .int .i64 m.to, .int .i64 m.vol, .int .i64 m.base.1, .int .i64 m.base.2, .int .i64 m.mark.1, .int .i64 m.mark.2, .int .i64 m.ix, .int .i64 m.tot, .int .i64 (m.seen 0), .int .i64 (m.seen 1), .int .i64 (m.seen 2), .int .i64 (m.seen 3), .int .i64 (m.seen 4), .int .i64 (m.seen 5), .int .i64 (m.seen 6), .int .i64 (m.seen 7), .string m.data] 27)))
  have HA0 := Lib.hid (show Has (w.alloc (.cells #[.int .i64 m.kind, .int .i64 m.fr, .int .i64 m.to, .int .i64 m.vol, .int .i64 m.base.1, .int .i64 m.base.2, .int .i64 m.mark.1, .int .i64 m.mark.2, .int .i64 m.ix, .int .i64 m.tot, .int .i64 (m.seen 0), .int .i64 (m.seen 1), .int .i64 (m.seen 2), .int .i64 (m.seen 3), .int .i64 (m.seen 4), .int .i64 (m.seen 5), .int .i64 (m.seen 6), .int .i64 (m.seen 7), .string m.data] 27)) w.heap.size 27 #[.int .i64 m.kind, .int .i64 m.fr, .int .i64 m.to, .int .i64 m.vol, .int .i64 m.base.1, .int .i64 m.base.2, .int .i64 m.mark.1, .int .i64 m.mark.2, .int .i64 m.ix, .int .i64 m.tot, .int .i64 (m.seen 0), .int .i64 (m.seen 1), .int .i64 (m.seen 2), .int .i64 (m.seen 3), .int .i64 (m.seen 4), .int .i64 (m.seen 5), .int .i64 (m.seen 6), .int .i64 (m.seen 7), .string m.data] from by have h := Has.fresh w 27 #[.int .i64 m.kind, .int .i64 m.fr, .int .i64 m.to, .int .i64 m.vol, .int .i64 m.base.1, .int .i64 m.base.2, .int .i64 m.mark.1, .int .i64 m.mark.2, .int .i64 m.ix, .int .i64 m.tot, .int .i64 (m.seen 0), .int .i64 (m.seen 1), .int .i64 (m.seen 2), .int .i64 (m.seen 3), .int .i64 (m.seen 4), .int .i64 (m.seen 5), .int .i64 (m.seen 6), .int .i64 (m.seen 7), .string m.data]; (try simp only [World.size_alloc] at h); exact h)
  unfold msgC
  go_enter Tryd.func21, Tryd.ntmps21
  go_wp2_with fail
  refine (H1.out _).mono ?_
  rintro e w0 ⟨⟨b0, rfl, p0⟩, hb⟩
  replace HB := Lib.hid (HB.out.trans (hb.mono HB.out.size))
  replace HA0 := Lib.hid (HA0.out.below hb)
  have hr0 := fun j => HA0.out.at_ j
  clear hb
  cases b0 with
  | true =>
    have K0 := Lib.hid (p0.1 rfl)
    clear p0
    go_wp2_with fail
    refine (H2.out _).mono ?_
    rintro e w1 ⟨⟨b1, rfl, p1⟩, hb⟩
    replace HB := Lib.hid (HB.out.trans (hb.mono HB.out.size))
    replace HA0 := Lib.hid (HA0.out.below hb)
    clear hr0
    have hr0 := fun j => HA0.out.at_ j
    clear hb
    cases b1 with
    | true =>
      have K1 := Lib.hid (p1.1 rfl)
      clear p1
      go_wp2_with fail
      refine (H3.out _).mono ?_
      rintro e w2 ⟨⟨b2, rfl, p2⟩, hb⟩
      replace HB := Lib.hid (HB.out.trans (hb.mono HB.out.size))
      replace HA0 := Lib.hid (HA0.out.below hb)
      clear hr0
      have hr0 := fun j => HA0.out.at_ j
      clear hb
      cases b2 with
      | true =>
        have K2 := Lib.hid (p2.1 rfl)
        clear p2
        by_cases q3 : m.fr = m.to
        · have K3 := Lib.hid q3
          have e1 : (m.fr != m.to) = false := by simp [K3.out]
          go_wp2
          go_ret
          exact ⟨told_no fun h => h.2.2.2.1 K3.out, HB.out⟩
        · have K3 := Lib.hid q3
          have e1 : (m.fr != m.to) = true := by simp [K3.out]
          have e2 : (m.fr == m.to) = false := by simp [K3.out]
          go_wp2_with fail
          refine (H4.out _).mono ?_
          rintro e w4 ⟨⟨b4, rfl, p4⟩, hb⟩
          replace HB := Lib.hid (HB.out.trans (hb.mono HB.out.size))
          replace HA0 := Lib.hid (HA0.out.below hb)
          clear hr0
          have hr0 := fun j => HA0.out.at_ j
          clear hb
          cases b4 with
          | true =>
            have K4 := Lib.hid (p4.1 rfl)
            clear p4
            go_wp2_with fail
            refine (H5.out _).mono ?_
            rintro e w5 ⟨⟨b5, rfl, p5⟩, hb⟩
            replace HB := Lib.hid (HB.out.trans (hb.mono HB.out.size))
            replace HA0 := Lib.hid (HA0.out.below hb)
            clear hr0
            have hr0 := fun j => HA0.out.at_ j
            clear hb
            cases b5 with
            | true =>
              have K5 := Lib.hid (p5.1 rfl)
              clear p5
              go_wp2
              go_ret
              exact ⟨told_yes ⟨K0.out, K1.out, K2.out, K3.out, K4.out, K5.out⟩, HB.out⟩
            | false =>
              have K5 := Lib.hid (told_not p5)
              clear p5
              go_wp2
              go_ret
              exact ⟨told_no fun h => K5.out h.2.2.2.2.2, HB.out⟩
          | false =>
            have K4 := Lib.hid (told_not p4)
            clear p4
            go_wp2
            go_ret
            exact ⟨told_no fun h => K4.out h.2.2.2.2.1, HB.out⟩
      | false =>
        have K2 := Lib.hid (told_not p2)
        clear p2
        go_wp2
        go_ret
        exact ⟨told_no fun h => K2.out h.2.2.1, HB.out⟩
    | false =>
      have K1 := Lib.hid (told_not p1)
      clear p1
      go_wp2
      go_ret
      exact ⟨told_no fun h => K1.out h.2.1, HB.out⟩
  | false =>
    have K0 := Lib.hid (told_not p0)
    clear p0
    go_wp2
    go_ret
    exact ⟨told_no fun h => K0.out h.1, HB.out⟩
def kindC (n : Int) : Array Value :=
  if n = 1 then #[.string ⟨#[97, 115, 107]⟩, .bool true, .bool true, .bool true, .bool false, .bool false]
  else if n = 2 then #[.string ⟨#[112, 97, 114, 116]⟩, .bool true, .bool true, .bool true, .bool true, .bool true]
  else if n = 3 then #[.string ⟨#[115, 97, 109, 101]⟩, .bool false, .bool false, .bool false, .bool false, .bool false]
  else if n = 4 then #[.string ⟨#[103, 111, 110, 101]⟩, .bool false, .bool true, .bool false, .bool false, .bool false]
  else #[.string ⟨#[110, 111, 110, 101]⟩, .bool false, .bool false, .bool false, .bool false, .bool false]
theorem kindOf_any (n : Int) (w : World) : Calls Tryd.prog 27 #[.int .i64 n] w fun e w' => e = .returned (.agg (kindC n)) ∧ Below w.heap.size w w' := by
  by_cases h1 : n = 1
  · subst h1
    have HK := Lib.hid (show kindC 1 = #[.string ⟨#[97, 115, 107]⟩, .bool true, .bool true, .bool true, .bool false, .bool false] by unfold kindC; simp)
    go_enter Tryd.func27, Tryd.ntmps27
    go_wp2
    exact bodyPost_ret (v := .agg #[.string ⟨#[97, 115, 107]⟩, .bool true, .bool true, .bool true, .bool false, .bool false]) (by simp [results, Tryd.results27, go_sem]) rfl ⟨by rw [HK.out], (Below.refl _ _).alloc (Nat.le_refl _) _⟩
  · have e1 : (n == 1) = false := beq_eq_false_iff_ne.2 h1
    by_cases h2 : n = 2
    · subst h2
      have HK := Lib.hid (show kindC 2 = #[.string ⟨#[112, 97, 114, 116]⟩, .bool true, .bool true, .bool true, .bool true, .bool true] by unfold kindC; simp)
      go_enter Tryd.func27, Tryd.ntmps27
      go_wp2
      exact bodyPost_ret (v := .agg #[.string ⟨#[112, 97, 114, 116]⟩, .bool true, .bool true, .bool true, .bool true, .bool true]) (by simp [results, Tryd.results27, go_sem]) rfl ⟨by rw [HK.out], (Below.refl _ _).alloc (Nat.le_refl _) _⟩
    · have e2 : (n == 2) = false := beq_eq_false_iff_ne.2 h2
      by_cases h3 : n = 3
      · subst h3
        have HK := Lib.hid (show kindC 3 = #[.string ⟨#[115, 97, 109, 101]⟩, .bool false, .bool false, .bool false, .bool false, .bool false] by unfold kindC; simp)
        go_enter Tryd.func27, Tryd.ntmps27
        go_wp2
        exact bodyPost_ret (v := .agg #[.string ⟨#[115, 97, 109, 101]⟩, .bool false, .bool false, .bool false, .bool false, .bool false]) (by simp [results, Tryd.results27, go_sem]) rfl ⟨by rw [HK.out], (Below.refl _ _).alloc (Nat.le_refl _) _⟩
      · have e3 : (n == 3) = false := beq_eq_false_iff_ne.2 h3
        by_cases h4 : n = 4
        · subst h4
          have HK := Lib.hid (show kindC 4 = #[.string ⟨#[103, 111, 110, 101]⟩, .bool false, .bool true, .bool false, .bool false, .bool false] by unfold kindC; simp)
          go_enter Tryd.func27, Tryd.ntmps27
          go_wp2
          exact bodyPost_ret (v := .agg #[.string ⟨#[103, 111, 110, 101]⟩, .bool false, .bool true, .bool false, .bool false, .bool false]) (by simp [results, Tryd.results27, go_sem]) rfl ⟨by rw [HK.out], (Below.refl _ _).alloc (Nat.le_refl _) _⟩
        · have e4 : (n == 4) = false := beq_eq_false_iff_ne.2 h4
          have HK := Lib.hid (show kindC n = #[.string ⟨#[110, 111, 110, 101]⟩, .bool false, .bool false, .bool false, .bool false, .bool false] by unfold kindC; simp [h1, h2, h3, h4])
          go_enter Tryd.func27, Tryd.ntmps27
          go_wp2
          exact bodyPost_ret (v := .agg #[.string ⟨#[110, 111, 110, 101]⟩, .bool false, .bool false, .bool false, .bool false, .bool false]) (by simp [results, Tryd.results27, go_sem]) rfl ⟨by rw [HK.out], (Below.refl _ _).alloc (Nat.le_refl _) _⟩
end Go.Proofs.YtfjmcklmoebnaaaDoor.Nt
/- Whether what a message has of its kind's own may stand together. -/
namespace Go.Proofs.YtfjmcklmoebnaaaDoor.Nt
open Go.RowKit Go.Proofs.YtfjmcklmoebnaaaDoor.Mem Go.Proofs.YtfjmcklmoebnaaaDoor.Vc
set_option linter.unusedVariables false

set_option maxRecDepth 100000 in
set_option maxHeartbeats 2000000 in
theorem mayKind_told (m : MsgP) (w : World) : Calls Tryd.prog 23 #[.agg (msgC m)] w fun e w' => Told (KindOk m) e ∧ Below w.heap.size w w' := by
  have H1 := Lib.hid (fun W => within_told m.ix 0 4095 W)
  have H2 := Lib.hid (fun W => marked_told m W)
  have H3 := Lib.hid (fun W => within_told m.tot 1 4096 W)
  have H4 := Lib.hid (fun W => within_told m.ix 0 (m.tot - 1) W)
  have H5 := Lib.hid (fun W => within_told (m.data.size : Int) 1 512 W)
  have HB := Lib.hid (((Below.refl w.heap.size w).alloc (Nat.le_refl _) (.cells (msgC m) 27)))
  have HA0 := Lib.hid (show Has (w.alloc (.cells (msgC m) 27)) w.heap.size 27 (msgC m) from by have h := Has.fresh w 27 (msgC m); (try simp only [World.size_alloc] at h); exact h)
  go_enter Tryd.func23, Tryd.ntmps23
  have c0 : (msgC m)[0]? = some (.int .i64 m.kind) := rfl
  have c8 : (msgC m)[8]? = some (.int .i64 m.ix) := rfl
  have c9 : (msgC m)[9]? = some (.int .i64 m.tot) := rfl
  have c18 : (msgC m)[18]? = some (.string m.data) := rfl
  by_cases q1 : m.kind = 1
  · have KD := Lib.hid q1
    have e1 : (m.kind == 1) = true := beq_iff_eq.2 q1
    rw [q1] at c0
    clear q1
    go_wp2_with (refine Who.wpList_loadA (by rfl) 27 (.tmp 1) rfl _ 0 (msgC m) _ (Who.has_range HA0.out) (by rfl) Tryd.underlying27 rfl (info_size m) ?_; try simp only [Act.put, List.setIfInBounds_toArray, List.set_cons_zero, List.set_cons_succ])
    refine (H1.out _).mono ?_
    rintro e w0 ⟨⟨b0, rfl, p0⟩, hb⟩
    replace HB := Lib.hid (HB.out.trans (hb.mono HB.out.size))
    replace HA0 := Lib.hid (HA0.out.below hb)
    have hr0 := fun j => HA0.out.at_ j
    clear hb
    cases b0 with
    | true =>
      have K0 := Lib.hid (p0.1 rfl)
      clear p0
      go_wp2_with (refine Who.wpList_loadA (by rfl) 27 (.tmp 1) rfl _ 0 (msgC m) _ (Who.has_range HA0.out) (by rfl) Tryd.underlying27 rfl (info_size m) ?_; try simp only [Act.put, List.setIfInBounds_toArray, List.set_cons_zero, List.set_cons_succ])
      refine (H2.out _).mono ?_
      rintro e w1 ⟨⟨b1, rfl, p1⟩, hb⟩
      replace HB := Lib.hid (HB.out.trans (hb.mono HB.out.size))
      replace HA0 := Lib.hid (HA0.out.below hb)
      clear hr0
      have hr0 := fun j => HA0.out.at_ j
      clear hb
      cases b1 with
      | true =>
        have K1 := Lib.hid (p1.1 rfl)
        clear p1
        go_wp2_with (refine Who.wpList_loadA (by rfl) 27 (.tmp 1) rfl _ 0 (msgC m) _ (Who.has_range HA0.out) (by rfl) Tryd.underlying27 rfl (info_size m) ?_; try simp only [Act.put, List.setIfInBounds_toArray, List.set_cons_zero, List.set_cons_succ])
        go_ret
        exact ⟨told_yes ((kind_1 KD.out).2 ⟨K0.out, .inl K1.out⟩), HB.out⟩
      | false =>
        have K1 := Lib.hid (told_not p1)
        clear p1
        by_cases q2 : m.ix = 0
        · have K2 := Lib.hid q2
          go_wp2_with (refine Who.wpList_loadA (by rfl) 27 (.tmp 1) rfl _ 0 (msgC m) _ (Who.has_range HA0.out) (by rfl) Tryd.underlying27 rfl (info_size m) ?_; try simp only [Act.put, List.setIfInBounds_toArray, List.set_cons_zero, List.set_cons_succ])
          go_ret
          exact ⟨told_yes ((kind_1 KD.out).2 ⟨K0.out, .inr K2.out⟩), HB.out⟩
        · have K2 := Lib.hid q2
          have e1 : (m.ix == 0) = false := beq_eq_false_iff_ne.2 K2.out
          go_wp2_with (refine Who.wpList_loadA (by rfl) 27 (.tmp 1) rfl _ 0 (msgC m) _ (Who.has_range HA0.out) (by rfl) Tryd.underlying27 rfl (info_size m) ?_; try simp only [Act.put, List.setIfInBounds_toArray, List.set_cons_zero, List.set_cons_succ])
          go_ret
          exact ⟨told_no fun h => ((kind_1 KD.out).1 h).2.elim K1.out K2.out, HB.out⟩
    | false =>
      have K0 := Lib.hid (told_not p0)
      clear p0
      go_wp2_with (refine Who.wpList_loadA (by rfl) 27 (.tmp 1) rfl _ 0 (msgC m) _ (Who.has_range HA0.out) (by rfl) Tryd.underlying27 rfl (info_size m) ?_; try simp only [Act.put, List.setIfInBounds_toArray, List.set_cons_zero, List.set_cons_succ])
      go_ret
      exact ⟨told_no fun h => K0.out ((kind_1 KD.out).1 h).1, HB.out⟩
  · have e1 : (m.kind == 1) = false := beq_eq_false_iff_ne.2 q1
    have N1 := Lib.hid q1
    clear q1
    by_cases q2 : m.kind = 2
    · have KD := Lib.hid q2
      have e2 : (m.kind == 2) = true := beq_iff_eq.2 q2
      rw [q2] at c0
      clear q2
      go_wp2_with (refine Who.wpList_loadA (by rfl) 27 (.tmp 1) rfl _ 0 (msgC m) _ (Who.has_range HA0.out) (by rfl) Tryd.underlying27 rfl (info_size m) ?_; try simp only [Act.put, List.setIfInBounds_toArray, List.set_cons_zero, List.set_cons_succ])
      refine (H2.out _).mono ?_
      rintro e w0 ⟨⟨b0, rfl, p0⟩, hb⟩
      replace HB := Lib.hid (HB.out.trans (hb.mono HB.out.size))
      replace HA0 := Lib.hid (HA0.out.below hb)
      have hr0 := fun j => HA0.out.at_ j
      clear hb
      cases b0 with
      | true =>
        have K0 := Lib.hid (p0.1 rfl)
        clear p0
        go_wp2_with (refine Who.wpList_loadA (by rfl) 27 (.tmp 1) rfl _ 0 (msgC m) _ (Who.has_range HA0.out) (by rfl) Tryd.underlying27 rfl (info_size m) ?_; try simp only [Act.put, List.setIfInBounds_toArray, List.set_cons_zero, List.set_cons_succ])
        refine (H3.out _).mono ?_
        rintro e w1 ⟨⟨b1, rfl, p1⟩, hb⟩
        replace HB := Lib.hid (HB.out.trans (hb.mono HB.out.size))
        replace HA0 := Lib.hid (HA0.out.below hb)
        clear hr0
        have hr0 := fun j => HA0.out.at_ j
        clear hb
        cases b1 with
        | true =>
          have K1 := Lib.hid (p1.1 rfl)
          clear p1
          have b1 := K1.out.1
          have b2 := K1.out.2
          go_wp2_with (refine Who.wpList_loadA (by rfl) 27 (.tmp 1) rfl _ 0 (msgC m) _ (Who.has_range HA0.out) (by rfl) Tryd.underlying27 rfl (info_size m) ?_; try simp only [Act.put, List.setIfInBounds_toArray, List.set_cons_zero, List.set_cons_succ])
          refine (H4.out _).mono ?_
          rintro e w2 ⟨⟨b2, rfl, p2⟩, hb⟩
          replace HB := Lib.hid (HB.out.trans (hb.mono HB.out.size))
          replace HA0 := Lib.hid (HA0.out.below hb)
          clear hr0
          have hr0 := fun j => HA0.out.at_ j
          clear hb
          cases b2 with
          | true =>
            have K2 := Lib.hid (p2.1 rfl)
            clear p2
            go_wp2_with (refine Who.wpList_loadA (by rfl) 27 (.tmp 1) rfl _ 0 (msgC m) _ (Who.has_range HA0.out) (by rfl) Tryd.underlying27 rfl (info_size m) ?_; try simp only [Act.put, List.setIfInBounds_toArray, List.set_cons_zero, List.set_cons_succ])
            refine (H5.out _).mono ?_
            rintro e w3 ⟨⟨b3, rfl, p3⟩, hb⟩
            replace HB := Lib.hid (HB.out.trans (hb.mono HB.out.size))
            replace HA0 := Lib.hid (HA0.out.below hb)
            clear hr0
            have hr0 := fun j => HA0.out.at_ j
            clear hb
            cases b3 with
            | true =>
              have K3 := Lib.hid (p3.1 rfl)
              clear p3
              go_wp2_with (refine Who.wpList_loadA (by rfl) 27 (.tmp 1) rfl _ 0 (msgC m) _ (Who.has_range HA0.out) (by rfl) Tryd.underlying27 rfl (info_size m) ?_; try simp only [Act.put, List.setIfInBounds_toArray, List.set_cons_zero, List.set_cons_succ])
              go_ret
              exact ⟨told_yes ((kind_2 KD.out).2 ⟨K0.out, K1.out, K2.out, K3.out⟩), HB.out⟩
            | false =>
              have K3 := Lib.hid (told_not p3)
              clear p3
              go_wp2_with (refine Who.wpList_loadA (by rfl) 27 (.tmp 1) rfl _ 0 (msgC m) _ (Who.has_range HA0.out) (by rfl) Tryd.underlying27 rfl (info_size m) ?_; try simp only [Act.put, List.setIfInBounds_toArray, List.set_cons_zero, List.set_cons_succ])
              go_ret
              exact ⟨told_no fun h => K3.out ((kind_2 KD.out).1 h).2.2.2, HB.out⟩
          | false =>
            have K2 := Lib.hid (told_not p2)
            clear p2
            go_wp2_with (refine Who.wpList_loadA (by rfl) 27 (.tmp 1) rfl _ 0 (msgC m) _ (Who.has_range HA0.out) (by rfl) Tryd.underlying27 rfl (info_size m) ?_; try simp only [Act.put, List.setIfInBounds_toArray, List.set_cons_zero, List.set_cons_succ])
            go_ret
            exact ⟨told_no fun h => K2.out ((kind_2 KD.out).1 h).2.2.1, HB.out⟩
        | false =>
          have K1 := Lib.hid (told_not p1)
          clear p1
          go_wp2_with (refine Who.wpList_loadA (by rfl) 27 (.tmp 1) rfl _ 0 (msgC m) _ (Who.has_range HA0.out) (by rfl) Tryd.underlying27 rfl (info_size m) ?_; try simp only [Act.put, List.setIfInBounds_toArray, List.set_cons_zero, List.set_cons_succ])
          go_ret
          exact ⟨told_no fun h => K1.out ((kind_2 KD.out).1 h).2.1, HB.out⟩
      | false =>
        have K0 := Lib.hid (told_not p0)
        clear p0
        go_wp2_with (refine Who.wpList_loadA (by rfl) 27 (.tmp 1) rfl _ 0 (msgC m) _ (Who.has_range HA0.out) (by rfl) Tryd.underlying27 rfl (info_size m) ?_; try simp only [Act.put, List.setIfInBounds_toArray, List.set_cons_zero, List.set_cons_succ])
        go_ret
        exact ⟨told_no fun h => K0.out ((kind_2 KD.out).1 h).1, HB.out⟩
    · have e2 : (m.kind == 2) = false := beq_eq_false_iff_ne.2 q2
      have N2 := Lib.hid q2
      clear q2
      by_cases q4 : m.kind = 4
      · have KD := Lib.hid q4
        have e4 : (m.kind == 4) = true := beq_iff_eq.2 q4
        rw [q4] at c0
        clear q4
        go_wp2_with (refine Who.wpList_loadA (by rfl) 27 (.tmp 1) rfl _ 0 (msgC m) _ (Who.has_range HA0.out) (by rfl) Tryd.underlying27 rfl (info_size m) ?_; try simp only [Act.put, List.setIfInBounds_toArray, List.set_cons_zero, List.set_cons_succ])
        refine (H2.out _).mono ?_
        rintro e w0 ⟨⟨b0, rfl, p0⟩, hb⟩
        replace HB := Lib.hid (HB.out.trans (hb.mono HB.out.size))
        replace HA0 := Lib.hid (HA0.out.below hb)
        have hr0 := fun j => HA0.out.at_ j
        clear hb
        cases b0 with
        | true =>
          have K0 := Lib.hid (p0.1 rfl)
          clear p0
          go_wp2_with (refine Who.wpList_loadA (by rfl) 27 (.tmp 1) rfl _ 0 (msgC m) _ (Who.has_range HA0.out) (by rfl) Tryd.underlying27 rfl (info_size m) ?_; try simp only [Act.put, List.setIfInBounds_toArray, List.set_cons_zero, List.set_cons_succ])
          go_ret
          exact ⟨told_yes ((kind_4 KD.out).2 K0.out), HB.out⟩
        | false =>
          have K0 := Lib.hid (told_not p0)
          clear p0
          go_wp2_with (refine Who.wpList_loadA (by rfl) 27 (.tmp 1) rfl _ 0 (msgC m) _ (Who.has_range HA0.out) (by rfl) Tryd.underlying27 rfl (info_size m) ?_; try simp only [Act.put, List.setIfInBounds_toArray, List.set_cons_zero, List.set_cons_succ])
          go_ret
          exact ⟨told_no fun h => K0.out ((kind_4 KD.out).1 h), HB.out⟩
      · have e4 : (m.kind == 4) = false := beq_eq_false_iff_ne.2 q4
        have N4 := Lib.hid q4
        clear q4
        go_wp2
        go_ret
        exact ⟨told_yes (kind_0 N1.out N2.out N4.out), HB.out⟩
end Go.Proofs.YtfjmcklmoebnaaaDoor.Nt
