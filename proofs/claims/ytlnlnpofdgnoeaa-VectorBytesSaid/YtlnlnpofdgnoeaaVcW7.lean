/- VectorBytes, walked. -/
import Derived.Test.YtlnlnpofdgnoeaaVcRsee2
import Derived.Test.YtlnlnpofdgnoeaaVcRq
import Derived.Test.YtlnlnpofdgnoeaaVcJ
import Derived.Test.YtlnlnpofdgnoeaaVcOpen
namespace Go.Proofs.Ytlnlnpofdgnoeaa.Vc
open Go.RowKit Go.Proofs.Ytlnlnpofdgnoeaa.Oct

theorem has_keep8 {w : World} {g p : Nat} {t : TypeId} {cs : Array Value} (h : Oct.Has w g t cs) (hp : g ≠ p) (x : Nat → Int) : Oct.Has (((((((((w).setCell ⟨p, 0, none⟩ (.int .i64 (x 0))).setCell ⟨p, 1, none⟩ (.int .i64 (x 1))).setCell ⟨p, 2, none⟩ (.int .i64 (x 2))).setCell ⟨p, 3, none⟩ (.int .i64 (x 3))).setCell ⟨p, 4, none⟩ (.int .i64 (x 4))).setCell ⟨p, 5, none⟩ (.int .i64 (x 5))).setCell ⟨p, 6, none⟩ (.int .i64 (x 6))).setCell ⟨p, 7, none⟩ (.int .i64 (x 7))) g t cs :=
  (Oct.Has.keep (Oct.Has.keep (Oct.Has.keep (Oct.Has.keep (Oct.Has.keep (Oct.Has.keep (Oct.Has.keep (Oct.Has.keep h (p := ⟨p, 0, none⟩) hp _) (p := ⟨p, 1, none⟩) hp _) (p := ⟨p, 2, none⟩) hp _) (p := ⟨p, 3, none⟩) hp _) (p := ⟨p, 4, none⟩) hp _) (p := ⟨p, 5, none⟩) hp _) (p := ⟨p, 6, none⟩) hp _) (p := ⟨p, 7, none⟩) hp _)
theorem chg_in8 {a w : World} {p : Nat} {S : Nat → Prop} (h : Chg S a w) (hp : S p) (x : Nat → Int) : Chg S a (((((((((w).setCell ⟨p, 0, none⟩ (.int .i64 (x 0))).setCell ⟨p, 1, none⟩ (.int .i64 (x 1))).setCell ⟨p, 2, none⟩ (.int .i64 (x 2))).setCell ⟨p, 3, none⟩ (.int .i64 (x 3))).setCell ⟨p, 4, none⟩ (.int .i64 (x 4))).setCell ⟨p, 5, none⟩ (.int .i64 (x 5))).setCell ⟨p, 6, none⟩ (.int .i64 (x 6))).setCell ⟨p, 7, none⟩ (.int .i64 (x 7))) :=
  (Chg.setCell (Chg.setCell (Chg.setCell (Chg.setCell (Chg.setCell (Chg.setCell (Chg.setCell (Chg.setCell h (p := ⟨p, 0, none⟩) (.inl hp) _) (p := ⟨p, 1, none⟩) (.inl hp) _) (p := ⟨p, 2, none⟩) (.inl hp) _) (p := ⟨p, 3, none⟩) (.inl hp) _) (p := ⟨p, 4, none⟩) (.inl hp) _) (p := ⟨p, 5, none⟩) (.inl hp) _) (p := ⟨p, 6, none⟩) (.inl hp) _) (p := ⟨p, 7, none⟩) (.inl hp) _)
theorem chg_in2 {a w : World} {p : Nat} {S : Nat → Prop} (h : Chg S a w) (hp : S p) (x y : Int) : Chg S a ((w.setCell ⟨p, 0, none⟩ (.int .i64 x)).setCell ⟨p, 1, none⟩ (.int .i64 y)) :=
  (h.setCell (p := ⟨p, 0, none⟩) (.inl hp) _).setCell (p := ⟨p, 1, none⟩) (.inl hp) _
theorem enter_bytes (args : Array Value) (W : World) : (callFunc 36 args).run Try.prog W = .ok (.enter 36 args) W := by kernel_rfl
def XY (X Y : Nat) : Nat → Prop := fun k => k = X ∨ k = Y
/-- Does all go well? -/
def fine (r : ByteArray) : Bool := decide (55 ≤ r.size) && (stampB (seeT r) (seeW r) && goodB (seeV (r.extract 7 r.size)))
theorem fine_yes {r : ByteArray} (h : fine r = true) : 55 ≤ r.size ∧ stampB (seeT r) (seeW r) = true ∧ goodB (seeV (r.extract 7 r.size)) = true := by
  unfold fine at h
  rw [Bool.and_eq_true, Bool.and_eq_true, decide_eq_true_eq] at h
  exact h
theorem fine_no {r : ByteArray} (h : fine r = false) : (r.size < 7 ∨ stampB (seeT r) (seeW r) = false) ∨ (7 ≤ r.size ∧ stampB (seeT r) (seeW r) = true) ∧ (r.size - 7 < 48 ∨ goodB (seeV (r.extract 7 r.size)) = false) := by
  unfold fine at h
  rw [Bool.and_eq_false_iff, Bool.and_eq_false_iff, decide_eq_false_iff_not] at h
  by_cases h7 : r.size < 7
  · exact .inl (.inl h7)
  · cases hs : stampB (seeT r) (seeW r) with
    | false => exact .inl (.inr rfl)
    | true =>
      rw [hs] at h
      refine .inr ⟨⟨by omega, rfl⟩, ?_⟩
      rcases h with h | h | h
      · exact .inl (by omega)
      · cases h
      · exact .inr h
theorem at_t (r : ByteArray) : timeAt r 0 = seeT r := rfl
theorem at_w (r : ByteArray) : whoAt r 0 = seeW r := by
  unfold whoAt seeW
  rw [Nat.zero_add]
theorem at_v (r : ByteArray) : seeAt r 7 = seeV (r.extract 7 r.size) := by
  funext i
  unfold seeAt seeV
  rw [ext_list, List.drop_drop]
set_option maxRecDepth 100000 in
set_option maxHeartbeats 2000000 in
theorem bytes1_ok (q s X Y : Nat) (r : ByteArray) (x0 : Nat → Int) (t0 w0 : Int) (hf : fine r = true) (hqs : q ≠ s) (hXq : X ≠ q) (hXs : X ≠ s) (hYq : Y ≠ q) (hYs : Y ≠ s) (hXY : X ≠ Y) (w : World) (h : Looks w q s r)
    (hX : Oct.Has w X 25 (vecC x0)) (hY : Oct.Has w Y 23 (stC t0 w0)) :
    Calls Try.prog 36 #[.pointer (some ⟨q, 0, none⟩), .pointer (some ⟨Y, 0, none⟩), .pointer (some ⟨X, 0, none⟩)] w fun e w' => e = .returned (.tuple #[]) ∧ Looks w' q s (r.extract 55 r.size) ∧ Oct.Has w' X 25 (vecC (seeV (r.extract 7 r.size))) ∧ Oct.Has w' Y 23 (stC (seeT r) (seeW r)) ∧ Chg (fun k => k = s ∨ XY X Y k) w w' := by
  obtain ⟨hn, hs, hg⟩ := fine_yes hf
  have H1 := Lib.hid (seest_ok q s r (by omega) hs hqs w h)
  have H2 := Lib.hid (fun W h => show Calls Try.prog 38 #[.pointer (some ⟨q, 0, none⟩)] W fun e w' => e = .returned (.agg #[.int .i64 ((seeV (r.extract 7 r.size)) 0), .int .i64 ((seeV (r.extract 7 r.size)) 1), .int .i64 ((seeV (r.extract 7 r.size)) 2), .int .i64 ((seeV (r.extract 7 r.size)) 3), .int .i64 ((seeV (r.extract 7 r.size)) 4), .int .i64 ((seeV (r.extract 7 r.size)) 5), .int .i64 ((seeV (r.extract 7 r.size)) 6), .int .i64 ((seeV (r.extract 7 r.size)) 7)]) ∧ Looks w' q s ((r.extract 7 r.size).extract 48 (r.extract 7 r.size).size) ∧ Chg (· = s) W w' from see_ok q s (r.extract 7 r.size) (by rw [ext_size _ _ (by omega)]; omega) hg hqs W h)
  have HX := Lib.hid (ext_ext r 7 48 (by omega))
  generalize seeT r = T at *
  generalize seeW r = U at *
  generalize seeV (r.extract 7 r.size) = J at *
  clear h hg hs hn hf
  unfold stC at *
  go_enter Try.func36, Try.ntmps36
  go_wp2_with fail
  refine H1.out.mono ?_
  rintro e w1 ⟨rfl, hl1, hc1⟩
  have HX1 := Lib.hid (Oct.Has.over hX hc1 hXs)
  have HY1 := Lib.hid (Oct.Has.over hY hc1 hYs)
  have HC1 := Lib.hid hc1
  have HL1 := Lib.hid hl1
  clear hX hY hc1 hl1
  go_wp2_with fail
  refine (H2.out _ HL1.out).mono ?_
  rintro e w2 ⟨rfl, hl2, hc2⟩
  rw [HX.out] at hl2
  have hX2 := Oct.Has.over HX1.out hc2 hXs
  have hY2 := Oct.Has.over HY1.out hc2 hYs
  have hc := (HC1.out.trans hc2).mono (T := fun k => k = s ∨ XY X Y k) (fun k hk => Or.inl hk)
  obtain ⟨y0, y1⟩ := has_st hY2
  have fy := fun i => Oct.Has.free hY2 i
  have HYf := Oct.Has.put (Oct.Has.put hY2 0 (.int .i64 T)) 1 (.int .i64 U)
  have HXf := Oct.Has.keep (Oct.Has.keep hX2 (p := ⟨Y, 0, none⟩) hXY (.int .i64 T)) (p := ⟨Y, 1, none⟩) hXY (.int .i64 U)
  have HLf := looks_put2 hl2 hYq.symm hYs.symm T U
  have HCf := chg_in2 (p := Y) hc (Or.inr (Or.inr rfl)) T U
  obtain ⟨c0, c1, c2, c3, c4, c5, c6, c7⟩ := has_vec HXf
  have fx := fun i => Oct.Has.free HXf i
  have HYg := Lib.hid (has_keep8 HYf hXY.symm J)
  have HXg := Lib.hid (Has.put8 (z := x0) HXf J)
  have HLg := Lib.hid (looks_put8 HLf hXq.symm hXs.symm J)
  have HCg := Lib.hid (chg_in8 (p := X) HCf (Or.inr (Or.inl rfl)) J)
  clear hl2 hX2 hY2 hc hc2 HYf HXf HLf HCf
  go_wp2
  go_end0
  exact ⟨rfl, HLg.out, HXg.out, HYg.out, HCg.out⟩
set_option maxHeartbeats 1000000 in
theorem bytes1_bad (q s X Y : Nat) (r : ByteArray) (hf : fine r = false) (hqs : q ≠ s) (w : World) (h : Looks w q s r) :
    Calls Try.prog 36 #[.pointer (some ⟨q, 0, none⟩), .pointer (some ⟨Y, 0, none⟩), .pointer (some ⟨X, 0, none⟩)] w (Threw s w) := by
  rcases fine_no hf with hb | ⟨⟨h7, hs⟩, hb⟩
  · have H1 := Lib.hid (seest_bad q s r hb hqs w h)
    clear hb hf h
    go_enter Try.func36, Try.ntmps36
    go_wp2_with fail
    refine H1.out.mono ?_
    rintro e w1 ⟨rfl, r1, hl, hc⟩
    go_wp2
    show _ ∧ _
    exact ⟨rfl, rfl, _, hl, hc⟩
  · have H1 := Lib.hid (seest_ok q s r h7 hs hqs w h)
    have H2 := Lib.hid (fun W => see_bad q s (r.extract 7 r.size) (by rw [ext_size _ _ h7]; exact hb) hqs W)
    clear hb hf h hs h7
    go_enter Try.func36, Try.ntmps36
    go_wp2_with fail
    refine H1.out.mono ?_
    rintro e w1 ⟨rfl, hl1, hc1⟩
    have HL1 := Lib.hid hl1
    have HC1 := Lib.hid hc1
    clear hl1 hc1
    go_wp2_with fail
    refine (H2.out _ HL1.out).mono ?_
    rintro e w2 ⟨rfl, r1, hl, hc⟩
    go_wp2
    show _ ∧ _
    exact ⟨rfl, rfl, _, hl, HC1.out.trans hc⟩
theorem look_xy {w w1 w' : World} {l : List UInt8} {X Y : Nat} (h1 : Chg (fun k => k = w.heap.size + 1 ∨ XY X Y k) (lookW w l) w1) (h2 : Chg (fun k => k = w.heap.size + 1 ∨ k = w.heap.size) w1 w') : Chg (XY X Y) w w' := by
  refine ((Chg.of_below (lookW_below w l) (XY X Y)).step h1 ?_).step h2 ?_
  · rintro i hi (e | e)
    · omega
    · exact e
  · rintro i hi (e | e) <;> omega
/-- How a looking ends behind which so many bytes are left. -/
def endE (r : ByteArray) : Int := if 55 < r.size then 201 else 0
theorem readB_ok (A : Option Addr) (n cap X Y : Nat) (l : List UInt8) (r : ByteArray) (hr : r = ⟨l.toArray⟩) (x0 : Nat → Int) (t0 w0 : Int) (hf : fine r = true) (hXY : X ≠ Y) (w : World) (h : RowB w A n l)
    (hX : Oct.Has w X 25 (vecC x0)) (hY : Oct.Has w Y 23 (stC t0 w0)) :
    Calls Try.prog 35 #[.slice A n cap, .func (.func 36) #[] #[.pointer (some ⟨Y, 0, none⟩), .pointer (some ⟨X, 0, none⟩)]] w fun e w' =>
      e = .returned (.int .i64 (endE r)) ∧ Oct.Has w' X 25 (vecC (seeV (r.extract 7 r.size))) ∧ Oct.Has w' Y 23 (stC (seeT r) (seeW r)) ∧ Chg (XY X Y) w w' := by
  have bX := Oct.Has.bound hX
  have bY := Oct.Has.bound hY
  have hn := (fine_yes hf).1
  have hX0 := Oct.Has.over hX (Chg.of_below (lookW_below w l) (fun _ => False)) (fun k => k)
  have hY0 := Oct.Has.over hY (Chg.of_below (lookW_below w l) (fun _ => False)) (fun k => k)
  have hL : Looks (lookW w l) (w.heap.size + 3) (w.heap.size + 1) r := by
    subst hr
    exact ⟨lookW_eye w l, lookW_sight w l⟩
  refine (read_look A n cap l 36 #[.pointer (some ⟨Y, 0, none⟩), .pointer (some ⟨X, 0, none⟩)] w h enter_bytes (XY X Y) (by rintro (e | e) <;> omega) (by rintro (e | e) <;> omega)
    (fun r' b y w1 => r' = r.extract 55 r.size ∧ b = false ∧ Oct.Has w1 X 25 (vecC (seeV (r.extract 7 r.size))) ∧ Oct.Has w1 Y 23 (stC (seeT r) (seeW r)))
    ((bytes1_ok (w.heap.size + 3) (w.heap.size + 1) X Y r x0 t0 w0 hf (by omega) (by omega) (by omega) (by omega) (by omega) hXY _ hL hX0 hY0).mono ?_)).mono ?_
  · rintro e w1 ⟨rfl, h1, h2, h3, h4⟩
    exact ⟨rfl, _, false, 0, h1.sight, h4, rfl, rfl, h2, h3⟩
  · rintro e w' ⟨r', b, y, w1, ⟨rfl, rfl, h2, h3⟩, rfl, hc1, hc2⟩
    refine ⟨?_, Oct.Has.over h2 hc2 (by rintro (e | e) <;> omega), Oct.Has.over h3 hc2 (by rintro (e | e) <;> omega), look_xy hc1 hc2⟩
    have h0 : (r.extract 55 r.size).data.toList.length = r.size - 55 := by rw [Array.length_toList]; exact ext_size _ _ hn
    unfold why endE
    rw [if_neg (by simp), ByteArray.toList_eq]
    by_cases hlt : 55 < r.size
    · rw [if_pos hlt, if_neg]
      intro he
      have := List.isEmpty_iff.1 he
      rw [this] at h0
      simp at h0
      omega
    · rw [if_neg hlt, if_pos]
      rw [List.isEmpty_iff]
      exact List.eq_nil_of_length_eq_zero (by omega)
theorem readB_bad (A : Option Addr) (n cap X Y : Nat) (l : List UInt8) (r : ByteArray) (hr : r = ⟨l.toArray⟩) (hf : fine r = false) (w : World) (h : RowB w A n l) (bX : X < w.heap.size) (bY : Y < w.heap.size) :
    Calls Try.prog 35 #[.slice A n cap, .func (.func 36) #[] #[.pointer (some ⟨Y, 0, none⟩), .pointer (some ⟨X, 0, none⟩)]] w fun e w' => e = .returned (.int .i64 201) ∧ Chg (XY X Y) w w' := by
  have hL : Looks (lookW w l) (w.heap.size + 3) (w.heap.size + 1) r := by
    subst hr
    exact ⟨lookW_eye w l, lookW_sight w l⟩
  refine (read_throws A n cap l 36 #[.pointer (some ⟨Y, 0, none⟩), .pointer (some ⟨X, 0, none⟩)] w h enter_bytes (XY X Y) (by rintro (e | e) <;> omega) (by rintro (e | e) <;> omega)
    (fun _ y _ => y = 201) ((bytes1_bad (w.heap.size + 3) (w.heap.size + 1) X Y r hf (by omega) _ hL).mono ?_)).mono ?_
  · rintro e w1 ⟨rfl, r1, h1, h2⟩
    exact ⟨rfl, r1, 201, h1, h2.mono (fun k hk => Or.inl hk), rfl⟩
  · rintro e w' ⟨r1, y, w1, rfl, rfl, hc1, hc2⟩
    exact ⟨rfl, look_xy hc1 hc2⟩
/-- The document's eye goes through all of it: how it ends. -/
def EyeBad (x : Nat) (B : ByteArray) (w : World) : Prop :=
  (∃ a, Rye w x B a true 201)
theorem eql_lit (x : Nat → Int) (w : World) : (binOp .eql 25 (.agg #[.int .i64 (x 0), .int .i64 (x 1), .int .i64 (x 2), .int .i64 (x 3), .int .i64 (x 4), .int .i64 (x 5), .int .i64 (x 6), .int .i64 (x 7)]) (.agg #[.int .i64 (x 0), .int .i64 (x 1), .int .i64 (x 2), .int .i64 (x 3), .int .i64 (x 4), .int .i64 (x 5), .int .i64 (x 6), .int .i64 (x 7)])).run Try.prog w = .ok (.bool true) w := (eql_vec x x w).trans (by rw [eq8_self])
theorem eql_same_st (a b : Int) (w : World) : (binOp .eql 23 (.agg #[.int .i64 a, .int .i64 b]) (.agg #[.int .i64 a, .int .i64 b])).run Try.prog w = .ok (.bool true) w := (eql_st a b a b w).trans (by simp)
theorem hover {w w' : World} {g : Nat} {t : TypeId} {cs : Array Value} (h : Oct.Has w g t cs) (hb : Below w.heap.size w w') : Oct.Has w' g t cs := Oct.Has.over h (Chg.of_below hb (fun _ => False)) (fun k => k)
theorem build_eye (B : ByteArray) (w : World) : (Instr.build 51 #[(0, .string B)]).run Try.prog w = .ok (.agg #[.string B, .int .i64 0, .bool false, .int .i64 0]) w := run_build w _ _ _ (by kernel_rfl)
/-- What stands when what was put has been held against the document's. -/
theorem RowB.old {W w w' : World} {A : Option Addr} {n : Nat} {l : List UInt8} {S : Nat → Prop} (h : RowB W A n l) (hb : Below W.heap.size W w) (hc : Chg S w w') (hs : ∀ i, i < W.heap.size → ¬ S i) : RowB w' A n l :=
  h.below (hb.trans (hc.below hb.size hs))

set_option maxHeartbeats 16000000 in
set_option maxRecDepth 100000 in
theorem bytes_fine (A D : Option Addr) (n c m d : Nat) (v : Nat → Int) (t u : Int) (l k : List UInt8) (r : ByteArray) (hr : r = ⟨k.toArray⟩) (hn : n ≤ 4096) (hm : m ≤ 4096) (W : World) (hA : RowB W A n l) (hD : RowB W D m k) (h0 : A = none → n = 0 ∧ c = 0) (h0' : D = none → m = 0 ∧ d = 0) (hf : fine r = true) :
    Calls Try.prog 6 #[.slice A n c, .agg (vecC v), .agg (stC t u), .slice D m d] W fun e w' => e = .returned (.bool true) ∧ Below W.heap.size W w' := by
  have hb0 := Below.drew (((Below.refl W.heap.size W).alloc (Nat.le_refl _) (.cells #[.int .i64 (v 0), .int .i64 (v 1), .int .i64 (v 2), .int .i64 (v 3), .int .i64 (v 4), .int .i64 (v 5), .int .i64 (v 6), .int .i64 (v 7)] 25)).alloc (by simp) (.cells #[.int .i64 t, .int .i64 u] 23))
  have hv := Oct.Has.drew ((Oct.Has.fresh W 25 #[.int .i64 (v 0), .int .i64 (v 1), .int .i64 (v 2), .int .i64 (v 3), .int .i64 (v 4), .int .i64 (v 5), .int .i64 (v 6), .int .i64 (v 7)]).past (.cells #[.int .i64 t, .int .i64 u] 23))
  have hs := Oct.Has.drew (Oct.Has.fresh (W.alloc (.cells #[.int .i64 (v 0), .int .i64 (v 1), .int .i64 (v 2), .int .i64 (v 3), .int .i64 (v 4), .int .i64 (v 5), .int .i64 (v 6), .int .i64 (v 7)] 25)) 23 #[.int .i64 t, .int .i64 u])
  rw [World.size_alloc] at hs
  have ra := hA.below hb0
  have rd := hD.below hb0
  have rd0 := Lib.hid hD
  have g1 : ¬ 4096 < (n : Int) := by omega
  have g2 : ¬ 4096 < (m : Int) := by omega
  have hmf : ∀ (fn : Fn) (first cap : Array Value) (w : World), (Instr.makeFunc fn first cap).run Try.prog w = .ok (.func fn first cap) w := fun _ _ _ _ => rfl
  have HN := Lib.hid hn
  have HM := Lib.hid hm
  have HR := Lib.hid hr
  have hrk : r.size = k.length := by subst hr; exact List.size_toArray
  have HSZ := Lib.hid (show r.size ≤ 8192 by rw [hrk, hD.1]; omega)
  clear hrk
  have HLV := Lib.hid (show (l ++ vecB v).length = n + 48 by rw [List.length_append, hA.1]; unfold vecB; rw [vecTo_len])
  have HLS := Lib.hid (show (l ++ stB t u).length = n + 7 by rw [List.length_append, hA.1]; unfold stB; rw [List.length_append, numB_len, numB_len])
  have hA0 := Lib.hid h0
  have hD0 := Lib.hid h0'
  have be := fun W => build_eye r W
  clear hA hD hn hm h0 h0' hr
  have HF := Lib.hid hf
  clear hf
  unfold vecC stC
  go_enter Try.func6, Try.ntmps6
  go_wp2_with fail
  refine wp_region_held_drew (S := (fun w' => (w'.cell? ⟨W.heap.size, 0, none⟩ = some (.int .i64 (v 0)) ∧ w'.cell? ⟨W.heap.size, 1, none⟩ = some (.int .i64 (v 1)) ∧ w'.cell? ⟨W.heap.size, 2, none⟩ = some (.int .i64 (v 2)) ∧ w'.cell? ⟨W.heap.size, 3, none⟩ = some (.int .i64 (v 3)) ∧ w'.cell? ⟨W.heap.size, 4, none⟩ = some (.int .i64 (v 4)) ∧ w'.cell? ⟨W.heap.size, 5, none⟩ = some (.int .i64 (v 5)) ∧ w'.cell? ⟨W.heap.size, 6, none⟩ = some (.int .i64 (v 6)) ∧ w'.cell? ⟨W.heap.size, 7, none⟩ = some (.int .i64 (v 7))) ∧ w'.cell? ⟨W.heap.size + 1, 0, none⟩ = some (.int .i64 t) ∧ w'.cell? ⟨W.heap.size + 1, 1, none⟩ = some (.int .i64 u))) (by kernel_rfl) ⟨has_vec hv, has_st hs⟩ (fun hHeld => ?_)
  refine wpAnyH_read (i := 0) (d := some 25) (v := ?v2) (by rfl) (by rfl) (by kernel_rfl) (by kernel_rfl) (by kernel_rfl) (fun _ _ _ h => h) (by rfl) ?hy2 (by assumption) ?rest2
  case hy2 =>
    intro w hSw
    try dsimp only at hSw
    go_simp
    try with_reducible rfl
  try simp only [Act.put, List.setIfInBounds_toArray, List.set_cons_zero, List.set_cons_succ]
  refine wpAnyH_read (i := 1) (d := some 26) (v := ?v3) (by rfl) (by rfl) (by kernel_rfl) (by kernel_rfl) (by kernel_rfl) (fun _ _ _ h => h) (by rfl) ?hy3 (by assumption) ?rest3
  case hy3 =>
    intro w hSw
    try dsimp only at hSw
    go_simp
    try with_reducible rfl
  try simp only [Act.put, List.setIfInBounds_toArray, List.set_cons_zero, List.set_cons_succ]
  refine wpAnyH_read (i := 3) (d := some 28) (v := ?v4) (by rfl) (by rfl) (by kernel_rfl) (by kernel_rfl) (by kernel_rfl) (fun _ _ _ h => h) (by rfl) ?hy4 (by assumption) ?rest4
  case hy4 =>
    intro w hSw
    try dsimp only at hSw
    go_simp
    try with_reducible rfl
  try simp only [Act.put, List.setIfInBounds_toArray, List.set_cons_zero, List.set_cons_succ]
  refine wpAnyH_read (i := 4) (d := some 29) (v := ?v5) (by rfl) (by rfl) (by kernel_rfl) (by kernel_rfl) (by kernel_rfl) (fun _ _ _ h => h) (by rfl) ?hy5 (by assumption) ?rest5
  case hy5 =>
    intro w hSw
    try dsimp only at hSw
    go_simp
    try with_reducible rfl
  try simp only [Act.put, List.setIfInBounds_toArray, List.set_cons_zero, List.set_cons_succ]
  refine wpAnyH_ready (rs := [2]) (by kernel_rfl) (by simp) ?_
  refine AllReadyH.cons rfl (fun K hK => ?_) AllReadyH.nil
  go_simp
  go_at_call 31
  refine (put_vec A n c v l (Nat.le_trans HN.out (by decide)) _ ra hA0.out).mono ?_
  rintro e w3 ⟨x1, rfl, ho, hb⟩
  obtain ⟨A1, k1, rfl, r1, _⟩ := owns_lens ho
  rw [HLV.out] at r1 ⊢
  replace hv := hover hv hb
  replace hs := hover hs hb
  replace ra := ra.below hb
  replace rd := rd.below hb
  replace hb0 := hb0.trans (hb.mono hb0.size)
  clear ho hb
  refine hK.out _ _ ⟨has_vec hv, has_st hs⟩ (fun hHeld => ?_)
  clear hK K
  try simp only [Act.put, List.setIfInBounds_toArray, List.set_cons_zero, List.set_cons_succ]
  refine wpAnyH_ready (rs := [5]) (by kernel_rfl) (by simp) ?_
  refine AllReadyH.cons rfl (fun K hK => ?_) AllReadyH.nil
  go_simp
  go_at_call 32
  refine (rput_vec A n c v l (Nat.le_trans HN.out (by decide)) _ ra hA0.out).mono ?_
  rintro e w4 ⟨x2, rfl, ho, hb⟩
  obtain ⟨A2, k2, rfl, r2, _⟩ := owns_lens ho
  rw [HLV.out] at r2 ⊢
  replace hv := hover hv hb
  replace hs := hover hs hb
  replace ra := ra.below hb
  replace rd := rd.below hb
  replace hb0 := hb0.trans (hb.mono hb0.size)
  replace r1 := r1.below hb
  clear ho hb
  refine hK.out _ _ ⟨has_vec hv, has_st hs⟩ (fun hHeld => ?_)
  clear hK K
  try simp only [Act.put, List.setIfInBounds_toArray, List.set_cons_zero, List.set_cons_succ]
  refine wpAnyH_ready (rs := [6]) (by kernel_rfl) (by simp) ?_
  refine AllReadyH.cons rfl (fun K hK => ?_) AllReadyH.nil
  go_simp
  go_at_call 30
  refine (equal_self A1 A2 _ _ k1 k2 _ _ r1 r2).mono ?_
  rintro e w5 ⟨rfl, rfl⟩
  clear r1 r2
  refine hK.out _ _ ⟨has_vec hv, has_st hs⟩ (fun hHeld => ?_)
  clear hK K
  try simp only [Act.put, List.setIfInBounds_toArray, List.set_cons_zero, List.set_cons_succ]
  refine wpAnyH_read (i := 7) (d := some 32) (v := ?v9) (by rfl) (by rfl) (by kernel_rfl) (by kernel_rfl) (by kernel_rfl) (fun _ _ _ h => h) (by rfl) ?hy9 (by assumption) ?rest9
  case hy9 =>
    intro w hSw
    try dsimp only at hSw
    go_simp
    try with_reducible rfl
  try simp only [Act.put, List.setIfInBounds_toArray, List.set_cons_zero, List.set_cons_succ]
  refine wpAnyH_read (i := 8) (d := some 33) (v := ?v10) (by rfl) (by rfl) (by kernel_rfl) (by kernel_rfl) (by kernel_rfl) (fun _ _ _ h => h) (by rfl) ?hy10 (by assumption) ?rest10
  case hy10 =>
    intro w hSw
    try dsimp only at hSw
    go_simp
    try with_reducible rfl
  try simp only [Act.put, List.setIfInBounds_toArray, List.set_cons_zero, List.set_cons_succ]
  refine wpAnyH_read (i := 9) (d := some 34) (v := ?v11) (by rfl) (by rfl) (by kernel_rfl) (by kernel_rfl) (by kernel_rfl) (fun _ _ _ h => h) (by rfl) ?hy11 (by assumption) ?rest11
  case hy11 =>
    intro w hSw
    try dsimp only at hSw
    go_simp
    try with_reducible rfl
  try simp only [Act.put, List.setIfInBounds_toArray, List.set_cons_zero, List.set_cons_succ]
  refine wpAnyH_read (i := 10) (d := some 35) (v := ?v12) (by rfl) (by rfl) (by kernel_rfl) (by kernel_rfl) (by kernel_rfl) (fun _ _ _ h => h) (by rfl) ?hy12 (by assumption) ?rest12
  case hy12 =>
    intro w hSw
    try dsimp only at hSw
    go_simp
    try with_reducible rfl
  try simp only [Act.put, List.setIfInBounds_toArray, List.set_cons_zero, List.set_cons_succ]
  refine wpAnyH_read (i := 12) (d := some 37) (v := ?v13) (by rfl) (by rfl) (by kernel_rfl) (by kernel_rfl) (by kernel_rfl) (fun _ _ _ h => h) (by rfl) ?hy13 (by assumption) ?rest13
  case hy13 =>
    intro w hSw
    try dsimp only at hSw
    go_simp
    try with_reducible rfl
  try simp only [Act.put, List.setIfInBounds_toArray, List.set_cons_zero, List.set_cons_succ]
  refine wpAnyH_read (i := 13) (d := some 38) (v := ?v14) (by rfl) (by rfl) (by kernel_rfl) (by kernel_rfl) (by kernel_rfl) (fun _ _ _ h => h) (by rfl) ?hy14 (by assumption) ?rest14
  case hy14 =>
    intro w hSw
    try dsimp only at hSw
    go_simp
    try with_reducible rfl
  try simp only [Act.put, List.setIfInBounds_toArray, List.set_cons_zero, List.set_cons_succ]
  refine wpAnyH_ready (rs := [11]) (by kernel_rfl) (by simp) ?_
  refine AllReadyH.cons rfl (fun K hK => ?_) AllReadyH.nil
  go_simp
  go_at_call 33
  refine (putStamp_any A n c t u l (Nat.le_trans HN.out (by decide)) _ ra hA0.out).mono ?_
  rintro e w5 ⟨x3, rfl, ho, hb⟩
  obtain ⟨A1, k1, rfl, r1, _⟩ := owns_lens ho
  rw [HLS.out] at r1 ⊢
  replace hv := hover hv hb
  replace hs := hover hs hb
  replace ra := ra.below hb
  replace rd := rd.below hb
  replace hb0 := hb0.trans (hb.mono hb0.size)
  clear ho hb
  refine hK.out _ _ ⟨has_vec hv, has_st hs⟩ (fun hHeld => ?_)
  clear hK K
  try simp only [Act.put, List.setIfInBounds_toArray, List.set_cons_zero, List.set_cons_succ]
  refine wpAnyH_ready (rs := [14]) (by kernel_rfl) (by simp) ?_
  refine AllReadyH.cons rfl (fun K hK => ?_) AllReadyH.nil
  go_simp
  go_at_call 34
  refine (rputStamp_any A n c t u l (Nat.le_trans HN.out (by decide)) _ ra hA0.out).mono ?_
  rintro e w6 ⟨x4, rfl, ho, hb⟩
  obtain ⟨A2, k2, rfl, r2, _⟩ := owns_lens ho
  rw [HLS.out] at r2 ⊢
  replace hv := hover hv hb
  replace hs := hover hs hb
  replace ra := ra.below hb
  replace rd := rd.below hb
  replace hb0 := hb0.trans (hb.mono hb0.size)
  replace r1 := r1.below hb
  clear ho hb
  refine hK.out _ _ ⟨has_vec hv, has_st hs⟩ (fun hHeld => ?_)
  clear hK K
  try simp only [Act.put, List.setIfInBounds_toArray, List.set_cons_zero, List.set_cons_succ]
  refine wpAnyH_ready (rs := [15]) (by kernel_rfl) (by simp) ?_
  refine AllReadyH.cons rfl (fun K hK => ?_) AllReadyH.nil
  go_simp
  go_at_call 30
  refine (equal_self A1 A2 _ _ k1 k2 _ _ r1 r2).mono ?_
  rintro e w7 ⟨rfl, rfl⟩
  clear r1 r2
  refine hK.out _ _ ⟨has_vec hv, has_st hs⟩ (fun hHeld => ?_)
  clear hK K
  try simp only [Act.put, List.setIfInBounds_toArray, List.set_cons_zero, List.set_cons_succ]
  refine wpAnyH_read (i := 16) (d := some 41) (v := ?v18) (by rfl) (by rfl) (by kernel_rfl) (by kernel_rfl) (by kernel_rfl) (fun _ _ _ h => h) (by rfl) ?hy18 (by assumption) ?rest18
  case hy18 =>
    intro w hSw
    try dsimp only at hSw
    go_simp
    try with_reducible rfl
  try simp only [Act.put, List.setIfInBounds_toArray, List.set_cons_zero, List.set_cons_succ]
  refine wpAnyH_read (i := 17) (d := some 42) (v := ?v19) (by rfl) (by rfl) (by kernel_rfl) (by kernel_rfl) (by kernel_rfl) (fun _ _ _ h => h) (by rfl) ?hy19 (by assumption) ?rest19
  case hy19 =>
    intro w hSw
    try dsimp only at hSw
    go_simp
    try with_reducible rfl
  try simp only [Act.put, List.setIfInBounds_toArray, List.set_cons_zero, List.set_cons_succ]
  refine wpAnyH_done (by kernel_rfl) ?_ _
  clear hv hs ra
  have hsz := hb0.size
  have hx := (Oct.Has.fresh w6 25 #[.int .i64 0, .int .i64 0, .int .i64 0, .int .i64 0, .int .i64 0, .int .i64 0, .int .i64 0, .int .i64 0]).past (.cells #[.int .i64 0, .int .i64 0] 23)
  have hy := Oct.Has.fresh (w6.alloc (.cells #[.int .i64 0, .int .i64 0, .int .i64 0, .int .i64 0, .int .i64 0, .int .i64 0, .int .i64 0, .int .i64 0] 25)) 23 #[.int .i64 0, .int .i64 0]
  rw [World.size_alloc] at hy
  have hbn := (((Below.refl w6.heap.size w6).alloc (Nat.le_refl _) (.cells #[.int .i64 0, .int .i64 0, .int .i64 0, .int .i64 0, .int .i64 0, .int .i64 0, .int .i64 0, .int .i64 0] 25)).alloc (by simp) (.cells #[.int .i64 0, .int .i64 0] 23))
  replace rd := rd.below hbn
  replace hb0 := hb0.trans (hbn.mono hsz)
  clear hbn
  go_wp2_with fail
  refine (readB_ok D m d w6.heap.size (w6.heap.size + 1) k r HR.out nil8 0 0 HF.out (by omega) _ rd hx hy).mono ?_
  rintro e w8 ⟨rfl, gx, gy, hc⟩
  replace rd := RowB.old rd0.out hb0 hc (by rintro i hi (e | e) <;> omega)
  replace hb0 := hb0.trans (hc.below hb0.size (by rintro i hi (e | e) <;> omega))
  clear hx hy hc
  have kc := conv_RowB w8 D m d k rd
  rw [← HR.out] at kc
  have hk0 := Lib.hid (show Rye (w8.alloc (.cells #[.string r, .int .i64 0, .bool false, .int .i64 0] 51)) w8.heap.size r 0 false 0 from Oct.Has.fresh w8 51 #[.string r, .int .i64 0, .bool false, .int .i64 0])
  have h8 := hb0.size
  replace hb0 := hb0.alloc hb0.size (.cells #[.string r, .int .i64 0, .bool false, .int .i64 0] 51)
  clear rd
  have bx := Oct.Has.bound gx
  have by_ := Oct.Has.bound gy
  replace gx := Oct.Has.past gx (.cells #[.string r, .int .i64 0, .bool false, .int .i64 0] 51)
  replace gy := Oct.Has.past gy (.cells #[.string r, .int .i64 0, .bool false, .int .i64 0] 51)
  have HX := Lib.hid gx
  have HY := Lib.hid gy
  have HB := Lib.hid hb0
  have HST := Lib.hid (show Calls Try.prog 39 #[.pointer (some ⟨w8.heap.size, 0, none⟩)] _ fun e w' => e = .returned (.agg #[.int .i64 (seeT r), .int .i64 (seeW r)]) ∧ Rye w' w8.heap.size r 7 false 0 ∧ Chg (· = w8.heap.size) _ w' from by have h := rst_ok w8.heap.size 0 r HSZ.out (by have := (fine_yes HF.out).1; omega) (by rw [at_t, at_w]; exact (fine_yes HF.out).2.1) _ hk0.out; rw [at_t, at_w] at h; exact h)
  have HSV := Lib.hid (fun W h => show Calls Try.prog 40 #[.pointer (some ⟨w8.heap.size, 0, none⟩)] W fun e w' => e = .returned (.agg #[.int .i64 ((seeV (r.extract 7 r.size)) 0), .int .i64 ((seeV (r.extract 7 r.size)) 1), .int .i64 ((seeV (r.extract 7 r.size)) 2), .int .i64 ((seeV (r.extract 7 r.size)) 3), .int .i64 ((seeV (r.extract 7 r.size)) 4), .int .i64 ((seeV (r.extract 7 r.size)) 5), .int .i64 ((seeV (r.extract 7 r.size)) 6), .int .i64 ((seeV (r.extract 7 r.size)) 7)]) ∧ Rye w' w8.heap.size r 55 false 0 ∧ Chg (· = w8.heap.size) W w' from by have h2 := rsee_ok w8.heap.size 7 r HSZ.out (by have := (fine_yes HF.out).1; omega) (by rw [at_v]; exact (fine_yes HF.out).2.2) W h; rw [at_v] at h2; exact h2)
  have HEND := Lib.hid (fun W h => rend_open w8.heap.size 55 r W h)
  have q1 := fun w => eql_lit (seeV (r.extract 7 r.size)) w
  have q2 := fun w => eql_same_st (seeT r) (seeW r) w
  have HEE := Lib.hid (show (if 55 < r.size then (201 : Int) else 0) = endE r from rfl)
  have HE2 := Lib.hid (show endE r = 201 ∨ endE r = 0 by unfold endE; split; exact .inl rfl; exact .inr rfl)
  generalize seeV (r.extract 7 r.size) = J at *
  generalize seeT r = T at *
  generalize seeW r = U at *
  clear gx gy hb0
  go_wp2_with fail
  refine HST.out.mono ?_
  rintro e w9 ⟨rfl, hk1, hc9⟩
  have HX9 := Lib.hid ((Oct.Has.over HX.out hc9 (by omega)).past (.cells #[.int .i64 T, .int .i64 U] 23))
  have HY9 := Lib.hid ((Oct.Has.over HY.out hc9 (by omega)).past (.cells #[.int .i64 T, .int .i64 U] 23))
  have hb9 := below_over HB.out HB.out.size hc9 (by intro i hi e; omega)
  have HB9 := Lib.hid (hb9.alloc hb9.size (.cells #[.int .i64 T, .int .i64 U] 23))
  have HW9 := Lib.hid (Oct.Has.fresh w9 23 #[.int .i64 T, .int .i64 U])
  have HK9 := Lib.hid (Rye.past hk1 (.cells #[.int .i64 T, .int .i64 U] 23))
  have bk9 := Oct.Has.bound hk1
  clear hk1 hc9 hb9
  go_wp2_with fail
  refine (HSV.out _ HK9.out).mono ?_
  rintro e w10 ⟨rfl, hk2, hc10⟩
  have HX10 := Lib.hid ((Oct.Has.over HX9.out hc10 (by omega)).past (.cells #[.int .i64 (J 0), .int .i64 (J 1), .int .i64 (J 2), .int .i64 (J 3), .int .i64 (J 4), .int .i64 (J 5), .int .i64 (J 6), .int .i64 (J 7)] 25))
  have HY10 := Lib.hid ((Oct.Has.over HY9.out hc10 (by omega)).past (.cells #[.int .i64 (J 0), .int .i64 (J 1), .int .i64 (J 2), .int .i64 (J 3), .int .i64 (J 4), .int .i64 (J 5), .int .i64 (J 6), .int .i64 (J 7)] 25))
  have HW10 := Lib.hid ((Oct.Has.over HW9.out hc10 (by omega)).past (.cells #[.int .i64 (J 0), .int .i64 (J 1), .int .i64 (J 2), .int .i64 (J 3), .int .i64 (J 4), .int .i64 (J 5), .int .i64 (J 6), .int .i64 (J 7)] 25))
  have hb10 := below_over HB9.out HB9.out.size hc10 (by intro i hi e; omega)
  have HB10 := Lib.hid (hb10.alloc hb10.size (.cells #[.int .i64 (J 0), .int .i64 (J 1), .int .i64 (J 2), .int .i64 (J 3), .int .i64 (J 4), .int .i64 (J 5), .int .i64 (J 6), .int .i64 (J 7)] 25))
  have HU10 := Lib.hid (Oct.Has.fresh w10 25 #[.int .i64 (J 0), .int .i64 (J 1), .int .i64 (J 2), .int .i64 (J 3), .int .i64 (J 4), .int .i64 (J 5), .int .i64 (J 6), .int .i64 (J 7)])
  have HK10 := Lib.hid (Rye.past hk2 (.cells #[.int .i64 (J 0), .int .i64 (J 1), .int .i64 (J 2), .int .i64 (J 3), .int .i64 (J 4), .int .i64 (J 5), .int .i64 (J 6), .int .i64 (J 7)] 25))
  have bk10 := Oct.Has.bound hk2
  clear hk2 hc10 hb10
  go_wp2_with fail
  refine (HEND.out _ HK10.out).mono ?_
  rintro e w11 ⟨rfl, hc11⟩
  rw [HEE.out]
  have hx11 := Oct.Has.over HX10.out hc11 (by omega)
  have hy11 := Oct.Has.over HY10.out hc11 (by omega)
  have hw11 := Oct.Has.over HW10.out hc11 (by omega)
  have hu11 := Oct.Has.over HU10.out hc11 (by omega)
  have hb11 := below_over HB10.out HB10.out.size hc11 (by intro i hi e; omega)
  obtain ⟨x0, x1, x2, x3, x4, x5, x6, x7⟩ := has_vec (x := J) hx11
  obtain ⟨u0, u1, u2, u3, u4, u5, u6, u7⟩ := has_vec (x := J) hu11
  obtain ⟨y0, y1⟩ := has_st (a := T) (b := U) hy11
  obtain ⟨v0, v1⟩ := has_st (a := T) (b := U) hw11
  clear hx11 hy11 hw11 hu11 hc11
  rcases HE2.out with he | he
  all_goals
    rw [he]
    clear he HE2 HEE
    go_wp2_with fail
    refine (awake_any _).mono ?_
    rintro e w12 ⟨rfl, hb⟩
    go_wp2
    go_ret
    exact ⟨rfl, hb11.trans (hb.mono hb11.size)⟩

set_option maxHeartbeats 16000000 in
set_option maxRecDepth 100000 in
theorem bytes_badS (A D : Option Addr) (n c m d : Nat) (v : Nat → Int) (t u : Int) (l k : List UInt8) (r : ByteArray) (hr : r = ⟨k.toArray⟩) (hn : n ≤ 4096) (hm : m ≤ 4096) (W : World) (hA : RowB W A n l) (hD : RowB W D m k) (h0 : A = none → n = 0 ∧ c = 0) (h0' : D = none → m = 0 ∧ d = 0) (hf : fine r = false) (hbad : r.size < 7 ∨ stampB (seeT r) (seeW r) = false) :
    Calls Try.prog 6 #[.slice A n c, .agg (vecC v), .agg (stC t u), .slice D m d] W fun e w' => e = .returned (.bool true) ∧ Below W.heap.size W w' := by
  have hb0 := Below.drew (((Below.refl W.heap.size W).alloc (Nat.le_refl _) (.cells #[.int .i64 (v 0), .int .i64 (v 1), .int .i64 (v 2), .int .i64 (v 3), .int .i64 (v 4), .int .i64 (v 5), .int .i64 (v 6), .int .i64 (v 7)] 25)).alloc (by simp) (.cells #[.int .i64 t, .int .i64 u] 23))
  have hv := Oct.Has.drew ((Oct.Has.fresh W 25 #[.int .i64 (v 0), .int .i64 (v 1), .int .i64 (v 2), .int .i64 (v 3), .int .i64 (v 4), .int .i64 (v 5), .int .i64 (v 6), .int .i64 (v 7)]).past (.cells #[.int .i64 t, .int .i64 u] 23))
  have hs := Oct.Has.drew (Oct.Has.fresh (W.alloc (.cells #[.int .i64 (v 0), .int .i64 (v 1), .int .i64 (v 2), .int .i64 (v 3), .int .i64 (v 4), .int .i64 (v 5), .int .i64 (v 6), .int .i64 (v 7)] 25)) 23 #[.int .i64 t, .int .i64 u])
  rw [World.size_alloc] at hs
  have ra := hA.below hb0
  have rd := hD.below hb0
  have rd0 := Lib.hid hD
  have g1 : ¬ 4096 < (n : Int) := by omega
  have g2 : ¬ 4096 < (m : Int) := by omega
  have hmf : ∀ (fn : Fn) (first cap : Array Value) (w : World), (Instr.makeFunc fn first cap).run Try.prog w = .ok (.func fn first cap) w := fun _ _ _ _ => rfl
  have HN := Lib.hid hn
  have HM := Lib.hid hm
  have HR := Lib.hid hr
  have hrk : r.size = k.length := by subst hr; exact List.size_toArray
  have HSZ := Lib.hid (show r.size ≤ 8192 by rw [hrk, hD.1]; omega)
  clear hrk
  have HLV := Lib.hid (show (l ++ vecB v).length = n + 48 by rw [List.length_append, hA.1]; unfold vecB; rw [vecTo_len])
  have HLS := Lib.hid (show (l ++ stB t u).length = n + 7 by rw [List.length_append, hA.1]; unfold stB; rw [List.length_append, numB_len, numB_len])
  have hA0 := Lib.hid h0
  have hD0 := Lib.hid h0'
  have be := fun W => build_eye r W
  clear hA hD hn hm h0 h0' hr
  have HF := Lib.hid hf
  clear hf
  unfold vecC stC
  go_enter Try.func6, Try.ntmps6
  go_wp2_with fail
  refine wp_region_held_drew (S := (fun w' => (w'.cell? ⟨W.heap.size, 0, none⟩ = some (.int .i64 (v 0)) ∧ w'.cell? ⟨W.heap.size, 1, none⟩ = some (.int .i64 (v 1)) ∧ w'.cell? ⟨W.heap.size, 2, none⟩ = some (.int .i64 (v 2)) ∧ w'.cell? ⟨W.heap.size, 3, none⟩ = some (.int .i64 (v 3)) ∧ w'.cell? ⟨W.heap.size, 4, none⟩ = some (.int .i64 (v 4)) ∧ w'.cell? ⟨W.heap.size, 5, none⟩ = some (.int .i64 (v 5)) ∧ w'.cell? ⟨W.heap.size, 6, none⟩ = some (.int .i64 (v 6)) ∧ w'.cell? ⟨W.heap.size, 7, none⟩ = some (.int .i64 (v 7))) ∧ w'.cell? ⟨W.heap.size + 1, 0, none⟩ = some (.int .i64 t) ∧ w'.cell? ⟨W.heap.size + 1, 1, none⟩ = some (.int .i64 u))) (by kernel_rfl) ⟨has_vec hv, has_st hs⟩ (fun hHeld => ?_)
  refine wpAnyH_read (i := 0) (d := some 25) (v := ?v22) (by rfl) (by rfl) (by kernel_rfl) (by kernel_rfl) (by kernel_rfl) (fun _ _ _ h => h) (by rfl) ?hy22 (by assumption) ?rest22
  case hy22 =>
    intro w hSw
    try dsimp only at hSw
    go_simp
    try with_reducible rfl
  try simp only [Act.put, List.setIfInBounds_toArray, List.set_cons_zero, List.set_cons_succ]
  refine wpAnyH_read (i := 1) (d := some 26) (v := ?v23) (by rfl) (by rfl) (by kernel_rfl) (by kernel_rfl) (by kernel_rfl) (fun _ _ _ h => h) (by rfl) ?hy23 (by assumption) ?rest23
  case hy23 =>
    intro w hSw
    try dsimp only at hSw
    go_simp
    try with_reducible rfl
  try simp only [Act.put, List.setIfInBounds_toArray, List.set_cons_zero, List.set_cons_succ]
  refine wpAnyH_read (i := 3) (d := some 28) (v := ?v24) (by rfl) (by rfl) (by kernel_rfl) (by kernel_rfl) (by kernel_rfl) (fun _ _ _ h => h) (by rfl) ?hy24 (by assumption) ?rest24
  case hy24 =>
    intro w hSw
    try dsimp only at hSw
    go_simp
    try with_reducible rfl
  try simp only [Act.put, List.setIfInBounds_toArray, List.set_cons_zero, List.set_cons_succ]
  refine wpAnyH_read (i := 4) (d := some 29) (v := ?v25) (by rfl) (by rfl) (by kernel_rfl) (by kernel_rfl) (by kernel_rfl) (fun _ _ _ h => h) (by rfl) ?hy25 (by assumption) ?rest25
  case hy25 =>
    intro w hSw
    try dsimp only at hSw
    go_simp
    try with_reducible rfl
  try simp only [Act.put, List.setIfInBounds_toArray, List.set_cons_zero, List.set_cons_succ]
  refine wpAnyH_ready (rs := [2]) (by kernel_rfl) (by simp) ?_
  refine AllReadyH.cons rfl (fun K hK => ?_) AllReadyH.nil
  go_simp
  go_at_call 31
  refine (put_vec A n c v l (Nat.le_trans HN.out (by decide)) _ ra hA0.out).mono ?_
  rintro e w3 ⟨x1, rfl, ho, hb⟩
  obtain ⟨A1, k1, rfl, r1, _⟩ := owns_lens ho
  rw [HLV.out] at r1 ⊢
  replace hv := hover hv hb
  replace hs := hover hs hb
  replace ra := ra.below hb
  replace rd := rd.below hb
  replace hb0 := hb0.trans (hb.mono hb0.size)
  clear ho hb
  refine hK.out _ _ ⟨has_vec hv, has_st hs⟩ (fun hHeld => ?_)
  clear hK K
  try simp only [Act.put, List.setIfInBounds_toArray, List.set_cons_zero, List.set_cons_succ]
  refine wpAnyH_ready (rs := [5]) (by kernel_rfl) (by simp) ?_
  refine AllReadyH.cons rfl (fun K hK => ?_) AllReadyH.nil
  go_simp
  go_at_call 32
  refine (rput_vec A n c v l (Nat.le_trans HN.out (by decide)) _ ra hA0.out).mono ?_
  rintro e w4 ⟨x2, rfl, ho, hb⟩
  obtain ⟨A2, k2, rfl, r2, _⟩ := owns_lens ho
  rw [HLV.out] at r2 ⊢
  replace hv := hover hv hb
  replace hs := hover hs hb
  replace ra := ra.below hb
  replace rd := rd.below hb
  replace hb0 := hb0.trans (hb.mono hb0.size)
  replace r1 := r1.below hb
  clear ho hb
  refine hK.out _ _ ⟨has_vec hv, has_st hs⟩ (fun hHeld => ?_)
  clear hK K
  try simp only [Act.put, List.setIfInBounds_toArray, List.set_cons_zero, List.set_cons_succ]
  refine wpAnyH_ready (rs := [6]) (by kernel_rfl) (by simp) ?_
  refine AllReadyH.cons rfl (fun K hK => ?_) AllReadyH.nil
  go_simp
  go_at_call 30
  refine (equal_self A1 A2 _ _ k1 k2 _ _ r1 r2).mono ?_
  rintro e w5 ⟨rfl, rfl⟩
  clear r1 r2
  refine hK.out _ _ ⟨has_vec hv, has_st hs⟩ (fun hHeld => ?_)
  clear hK K
  try simp only [Act.put, List.setIfInBounds_toArray, List.set_cons_zero, List.set_cons_succ]
  refine wpAnyH_read (i := 7) (d := some 32) (v := ?v29) (by rfl) (by rfl) (by kernel_rfl) (by kernel_rfl) (by kernel_rfl) (fun _ _ _ h => h) (by rfl) ?hy29 (by assumption) ?rest29
  case hy29 =>
    intro w hSw
    try dsimp only at hSw
    go_simp
    try with_reducible rfl
  try simp only [Act.put, List.setIfInBounds_toArray, List.set_cons_zero, List.set_cons_succ]
  refine wpAnyH_read (i := 8) (d := some 33) (v := ?v30) (by rfl) (by rfl) (by kernel_rfl) (by kernel_rfl) (by kernel_rfl) (fun _ _ _ h => h) (by rfl) ?hy30 (by assumption) ?rest30
  case hy30 =>
    intro w hSw
    try dsimp only at hSw
    go_simp
    try with_reducible rfl
  try simp only [Act.put, List.setIfInBounds_toArray, List.set_cons_zero, List.set_cons_succ]
  refine wpAnyH_read (i := 9) (d := some 34) (v := ?v31) (by rfl) (by rfl) (by kernel_rfl) (by kernel_rfl) (by kernel_rfl) (fun _ _ _ h => h) (by rfl) ?hy31 (by assumption) ?rest31
  case hy31 =>
    intro w hSw
    try dsimp only at hSw
    go_simp
    try with_reducible rfl
  try simp only [Act.put, List.setIfInBounds_toArray, List.set_cons_zero, List.set_cons_succ]
  refine wpAnyH_read (i := 10) (d := some 35) (v := ?v32) (by rfl) (by rfl) (by kernel_rfl) (by kernel_rfl) (by kernel_rfl) (fun _ _ _ h => h) (by rfl) ?hy32 (by assumption) ?rest32
  case hy32 =>
    intro w hSw
    try dsimp only at hSw
    go_simp
    try with_reducible rfl
  try simp only [Act.put, List.setIfInBounds_toArray, List.set_cons_zero, List.set_cons_succ]
  refine wpAnyH_read (i := 12) (d := some 37) (v := ?v33) (by rfl) (by rfl) (by kernel_rfl) (by kernel_rfl) (by kernel_rfl) (fun _ _ _ h => h) (by rfl) ?hy33 (by assumption) ?rest33
  case hy33 =>
    intro w hSw
    try dsimp only at hSw
    go_simp
    try with_reducible rfl
  try simp only [Act.put, List.setIfInBounds_toArray, List.set_cons_zero, List.set_cons_succ]
  refine wpAnyH_read (i := 13) (d := some 38) (v := ?v34) (by rfl) (by rfl) (by kernel_rfl) (by kernel_rfl) (by kernel_rfl) (fun _ _ _ h => h) (by rfl) ?hy34 (by assumption) ?rest34
  case hy34 =>
    intro w hSw
    try dsimp only at hSw
    go_simp
    try with_reducible rfl
  try simp only [Act.put, List.setIfInBounds_toArray, List.set_cons_zero, List.set_cons_succ]
  refine wpAnyH_ready (rs := [11]) (by kernel_rfl) (by simp) ?_
  refine AllReadyH.cons rfl (fun K hK => ?_) AllReadyH.nil
  go_simp
  go_at_call 33
  refine (putStamp_any A n c t u l (Nat.le_trans HN.out (by decide)) _ ra hA0.out).mono ?_
  rintro e w5 ⟨x3, rfl, ho, hb⟩
  obtain ⟨A1, k1, rfl, r1, _⟩ := owns_lens ho
  rw [HLS.out] at r1 ⊢
  replace hv := hover hv hb
  replace hs := hover hs hb
  replace ra := ra.below hb
  replace rd := rd.below hb
  replace hb0 := hb0.trans (hb.mono hb0.size)
  clear ho hb
  refine hK.out _ _ ⟨has_vec hv, has_st hs⟩ (fun hHeld => ?_)
  clear hK K
  try simp only [Act.put, List.setIfInBounds_toArray, List.set_cons_zero, List.set_cons_succ]
  refine wpAnyH_ready (rs := [14]) (by kernel_rfl) (by simp) ?_
  refine AllReadyH.cons rfl (fun K hK => ?_) AllReadyH.nil
  go_simp
  go_at_call 34
  refine (rputStamp_any A n c t u l (Nat.le_trans HN.out (by decide)) _ ra hA0.out).mono ?_
  rintro e w6 ⟨x4, rfl, ho, hb⟩
  obtain ⟨A2, k2, rfl, r2, _⟩ := owns_lens ho
  rw [HLS.out] at r2 ⊢
  replace hv := hover hv hb
  replace hs := hover hs hb
  replace ra := ra.below hb
  replace rd := rd.below hb
  replace hb0 := hb0.trans (hb.mono hb0.size)
  replace r1 := r1.below hb
  clear ho hb
  refine hK.out _ _ ⟨has_vec hv, has_st hs⟩ (fun hHeld => ?_)
  clear hK K
  try simp only [Act.put, List.setIfInBounds_toArray, List.set_cons_zero, List.set_cons_succ]
  refine wpAnyH_ready (rs := [15]) (by kernel_rfl) (by simp) ?_
  refine AllReadyH.cons rfl (fun K hK => ?_) AllReadyH.nil
  go_simp
  go_at_call 30
  refine (equal_self A1 A2 _ _ k1 k2 _ _ r1 r2).mono ?_
  rintro e w7 ⟨rfl, rfl⟩
  clear r1 r2
  refine hK.out _ _ ⟨has_vec hv, has_st hs⟩ (fun hHeld => ?_)
  clear hK K
  try simp only [Act.put, List.setIfInBounds_toArray, List.set_cons_zero, List.set_cons_succ]
  refine wpAnyH_read (i := 16) (d := some 41) (v := ?v38) (by rfl) (by rfl) (by kernel_rfl) (by kernel_rfl) (by kernel_rfl) (fun _ _ _ h => h) (by rfl) ?hy38 (by assumption) ?rest38
  case hy38 =>
    intro w hSw
    try dsimp only at hSw
    go_simp
    try with_reducible rfl
  try simp only [Act.put, List.setIfInBounds_toArray, List.set_cons_zero, List.set_cons_succ]
  refine wpAnyH_read (i := 17) (d := some 42) (v := ?v39) (by rfl) (by rfl) (by kernel_rfl) (by kernel_rfl) (by kernel_rfl) (fun _ _ _ h => h) (by rfl) ?hy39 (by assumption) ?rest39
  case hy39 =>
    intro w hSw
    try dsimp only at hSw
    go_simp
    try with_reducible rfl
  try simp only [Act.put, List.setIfInBounds_toArray, List.set_cons_zero, List.set_cons_succ]
  refine wpAnyH_done (by kernel_rfl) ?_ _
  clear hv hs ra
  have hsz := hb0.size
  have hx := (Oct.Has.fresh w6 25 #[.int .i64 0, .int .i64 0, .int .i64 0, .int .i64 0, .int .i64 0, .int .i64 0, .int .i64 0, .int .i64 0]).past (.cells #[.int .i64 0, .int .i64 0] 23)
  have hy := Oct.Has.fresh (w6.alloc (.cells #[.int .i64 0, .int .i64 0, .int .i64 0, .int .i64 0, .int .i64 0, .int .i64 0, .int .i64 0, .int .i64 0] 25)) 23 #[.int .i64 0, .int .i64 0]
  rw [World.size_alloc] at hy
  have hbn := (((Below.refl w6.heap.size w6).alloc (Nat.le_refl _) (.cells #[.int .i64 0, .int .i64 0, .int .i64 0, .int .i64 0, .int .i64 0, .int .i64 0, .int .i64 0, .int .i64 0] 25)).alloc (by simp) (.cells #[.int .i64 0, .int .i64 0] 23))
  replace rd := rd.below hbn
  replace hb0 := hb0.trans (hbn.mono hsz)
  clear hbn
  go_wp2_with fail
  refine (readB_bad D m d w6.heap.size (w6.heap.size + 1) k r HR.out HF.out _ rd (Oct.Has.bound hx) (Oct.Has.bound hy)).mono ?_
  rintro e w8 ⟨rfl, hc⟩
  replace rd := RowB.old rd0.out hb0 hc (by rintro i hi (e | e) <;> omega)
  replace hb0 := hb0.trans (hc.below hb0.size (by rintro i hi (e | e) <;> omega))
  clear hx hy hc
  have kc := conv_RowB w8 D m d k rd
  rw [← HR.out] at kc
  have hk0 := Lib.hid (show Rye (w8.alloc (.cells #[.string r, .int .i64 0, .bool false, .int .i64 0] 51)) w8.heap.size r 0 false 0 from Oct.Has.fresh w8 51 #[.string r, .int .i64 0, .bool false, .int .i64 0])
  have h8 := hb0.size
  replace hb0 := hb0.alloc hb0.size (.cells #[.string r, .int .i64 0, .bool false, .int .i64 0] 51)
  clear rd
  have HB := Lib.hid hb0
  have HST := Lib.hid (rst_bad w8.heap.size 0 r HSZ.out (Nat.zero_le _) (by rw [at_t, at_w]; exact hbad) _ hk0.out)
  clear hb0 hbad
  go_wp2_with fail
  refine HST.out.mono ?_
  rintro e w9 ⟨T, U, a9, rfl, hk1, hc9⟩
  have hb9 := below_over HB.out HB.out.size hc9 (by intro i hi e; omega)
  have HB9 := Lib.hid (hb9.alloc hb9.size (.cells #[.int .i64 T, .int .i64 U] 23))
  have HSV := Lib.hid (rsee_done w8.heap.size a9 r _ (Rye.past hk1 (.cells #[.int .i64 T, .int .i64 U] 23)))
  clear hk1 hc9 hb9
  go_wp2_with fail
  refine HSV.out.mono ?_
  rintro e w10 ⟨z, a10, rfl, hk2, hc10⟩
  have hb10 := below_over HB9.out HB9.out.size hc10 (by intro i hi e; omega)
  have HB10 := Lib.hid (hb10.alloc hb10.size (.cells (vecC z) 25))
  have HEND := Lib.hid (rend_done w8.heap.size a10 r 201 _ (Rye.past hk2 (.cells (vecC z) 25)))
  clear hk2 hc10 hb10
  unfold vecC at HB10 HEND ⊢
  go_wp2_with fail
  refine HEND.out.mono ?_
  rintro e w11 ⟨rfl, hc11⟩
  have hb11 := below_over HB10.out HB10.out.size hc11 (by intro i hi e; omega)
  clear hc11
  go_wp2_with fail
  refine (awake_any _).mono ?_
  rintro e w12 ⟨rfl, hb⟩
  go_wp2
  go_ret
  exact ⟨rfl, hb11.trans (hb.mono hb11.size)⟩

set_option maxHeartbeats 16000000 in
set_option maxRecDepth 100000 in
theorem bytes_badV (A D : Option Addr) (n c m d : Nat) (v : Nat → Int) (t u : Int) (l k : List UInt8) (r : ByteArray) (hr : r = ⟨k.toArray⟩) (hn : n ≤ 4096) (hm : m ≤ 4096) (W : World) (hA : RowB W A n l) (hD : RowB W D m k) (h0 : A = none → n = 0 ∧ c = 0) (h0' : D = none → m = 0 ∧ d = 0) (hf : fine r = false) (hs7 : 7 ≤ r.size) (hst : stampB (seeT r) (seeW r) = true) (hbad : r.size - 7 < 48 ∨ goodB (seeV (r.extract 7 r.size)) = false) :
    Calls Try.prog 6 #[.slice A n c, .agg (vecC v), .agg (stC t u), .slice D m d] W fun e w' => e = .returned (.bool true) ∧ Below W.heap.size W w' := by
  have hb0 := Below.drew (((Below.refl W.heap.size W).alloc (Nat.le_refl _) (.cells #[.int .i64 (v 0), .int .i64 (v 1), .int .i64 (v 2), .int .i64 (v 3), .int .i64 (v 4), .int .i64 (v 5), .int .i64 (v 6), .int .i64 (v 7)] 25)).alloc (by simp) (.cells #[.int .i64 t, .int .i64 u] 23))
  have hv := Oct.Has.drew ((Oct.Has.fresh W 25 #[.int .i64 (v 0), .int .i64 (v 1), .int .i64 (v 2), .int .i64 (v 3), .int .i64 (v 4), .int .i64 (v 5), .int .i64 (v 6), .int .i64 (v 7)]).past (.cells #[.int .i64 t, .int .i64 u] 23))
  have hs := Oct.Has.drew (Oct.Has.fresh (W.alloc (.cells #[.int .i64 (v 0), .int .i64 (v 1), .int .i64 (v 2), .int .i64 (v 3), .int .i64 (v 4), .int .i64 (v 5), .int .i64 (v 6), .int .i64 (v 7)] 25)) 23 #[.int .i64 t, .int .i64 u])
  rw [World.size_alloc] at hs
  have ra := hA.below hb0
  have rd := hD.below hb0
  have rd0 := Lib.hid hD
  have g1 : ¬ 4096 < (n : Int) := by omega
  have g2 : ¬ 4096 < (m : Int) := by omega
  have hmf : ∀ (fn : Fn) (first cap : Array Value) (w : World), (Instr.makeFunc fn first cap).run Try.prog w = .ok (.func fn first cap) w := fun _ _ _ _ => rfl
  have HN := Lib.hid hn
  have HM := Lib.hid hm
  have HR := Lib.hid hr
  have hrk : r.size = k.length := by subst hr; exact List.size_toArray
  have HSZ := Lib.hid (show r.size ≤ 8192 by rw [hrk, hD.1]; omega)
  clear hrk
  have HLV := Lib.hid (show (l ++ vecB v).length = n + 48 by rw [List.length_append, hA.1]; unfold vecB; rw [vecTo_len])
  have HLS := Lib.hid (show (l ++ stB t u).length = n + 7 by rw [List.length_append, hA.1]; unfold stB; rw [List.length_append, numB_len, numB_len])
  have hA0 := Lib.hid h0
  have hD0 := Lib.hid h0'
  have be := fun W => build_eye r W
  clear hA hD hn hm h0 h0' hr
  have HF := Lib.hid hf
  clear hf
  unfold vecC stC
  go_enter Try.func6, Try.ntmps6
  go_wp2_with fail
  refine wp_region_held_drew (S := (fun w' => (w'.cell? ⟨W.heap.size, 0, none⟩ = some (.int .i64 (v 0)) ∧ w'.cell? ⟨W.heap.size, 1, none⟩ = some (.int .i64 (v 1)) ∧ w'.cell? ⟨W.heap.size, 2, none⟩ = some (.int .i64 (v 2)) ∧ w'.cell? ⟨W.heap.size, 3, none⟩ = some (.int .i64 (v 3)) ∧ w'.cell? ⟨W.heap.size, 4, none⟩ = some (.int .i64 (v 4)) ∧ w'.cell? ⟨W.heap.size, 5, none⟩ = some (.int .i64 (v 5)) ∧ w'.cell? ⟨W.heap.size, 6, none⟩ = some (.int .i64 (v 6)) ∧ w'.cell? ⟨W.heap.size, 7, none⟩ = some (.int .i64 (v 7))) ∧ w'.cell? ⟨W.heap.size + 1, 0, none⟩ = some (.int .i64 t) ∧ w'.cell? ⟨W.heap.size + 1, 1, none⟩ = some (.int .i64 u))) (by kernel_rfl) ⟨has_vec hv, has_st hs⟩ (fun hHeld => ?_)
  refine wpAnyH_read (i := 0) (d := some 25) (v := ?v42) (by rfl) (by rfl) (by kernel_rfl) (by kernel_rfl) (by kernel_rfl) (fun _ _ _ h => h) (by rfl) ?hy42 (by assumption) ?rest42
  case hy42 =>
    intro w hSw
    try dsimp only at hSw
    go_simp
    try with_reducible rfl
  try simp only [Act.put, List.setIfInBounds_toArray, List.set_cons_zero, List.set_cons_succ]
  refine wpAnyH_read (i := 1) (d := some 26) (v := ?v43) (by rfl) (by rfl) (by kernel_rfl) (by kernel_rfl) (by kernel_rfl) (fun _ _ _ h => h) (by rfl) ?hy43 (by assumption) ?rest43
  case hy43 =>
    intro w hSw
    try dsimp only at hSw
    go_simp
    try with_reducible rfl
  try simp only [Act.put, List.setIfInBounds_toArray, List.set_cons_zero, List.set_cons_succ]
  refine wpAnyH_read (i := 3) (d := some 28) (v := ?v44) (by rfl) (by rfl) (by kernel_rfl) (by kernel_rfl) (by kernel_rfl) (fun _ _ _ h => h) (by rfl) ?hy44 (by assumption) ?rest44
  case hy44 =>
    intro w hSw
    try dsimp only at hSw
    go_simp
    try with_reducible rfl
  try simp only [Act.put, List.setIfInBounds_toArray, List.set_cons_zero, List.set_cons_succ]
  refine wpAnyH_read (i := 4) (d := some 29) (v := ?v45) (by rfl) (by rfl) (by kernel_rfl) (by kernel_rfl) (by kernel_rfl) (fun _ _ _ h => h) (by rfl) ?hy45 (by assumption) ?rest45
  case hy45 =>
    intro w hSw
    try dsimp only at hSw
    go_simp
    try with_reducible rfl
  try simp only [Act.put, List.setIfInBounds_toArray, List.set_cons_zero, List.set_cons_succ]
  refine wpAnyH_ready (rs := [2]) (by kernel_rfl) (by simp) ?_
  refine AllReadyH.cons rfl (fun K hK => ?_) AllReadyH.nil
  go_simp
  go_at_call 31
  refine (put_vec A n c v l (Nat.le_trans HN.out (by decide)) _ ra hA0.out).mono ?_
  rintro e w3 ⟨x1, rfl, ho, hb⟩
  obtain ⟨A1, k1, rfl, r1, _⟩ := owns_lens ho
  rw [HLV.out] at r1 ⊢
  replace hv := hover hv hb
  replace hs := hover hs hb
  replace ra := ra.below hb
  replace rd := rd.below hb
  replace hb0 := hb0.trans (hb.mono hb0.size)
  clear ho hb
  refine hK.out _ _ ⟨has_vec hv, has_st hs⟩ (fun hHeld => ?_)
  clear hK K
  try simp only [Act.put, List.setIfInBounds_toArray, List.set_cons_zero, List.set_cons_succ]
  refine wpAnyH_ready (rs := [5]) (by kernel_rfl) (by simp) ?_
  refine AllReadyH.cons rfl (fun K hK => ?_) AllReadyH.nil
  go_simp
  go_at_call 32
  refine (rput_vec A n c v l (Nat.le_trans HN.out (by decide)) _ ra hA0.out).mono ?_
  rintro e w4 ⟨x2, rfl, ho, hb⟩
  obtain ⟨A2, k2, rfl, r2, _⟩ := owns_lens ho
  rw [HLV.out] at r2 ⊢
  replace hv := hover hv hb
  replace hs := hover hs hb
  replace ra := ra.below hb
  replace rd := rd.below hb
  replace hb0 := hb0.trans (hb.mono hb0.size)
  replace r1 := r1.below hb
  clear ho hb
  refine hK.out _ _ ⟨has_vec hv, has_st hs⟩ (fun hHeld => ?_)
  clear hK K
  try simp only [Act.put, List.setIfInBounds_toArray, List.set_cons_zero, List.set_cons_succ]
  refine wpAnyH_ready (rs := [6]) (by kernel_rfl) (by simp) ?_
  refine AllReadyH.cons rfl (fun K hK => ?_) AllReadyH.nil
  go_simp
  go_at_call 30
  refine (equal_self A1 A2 _ _ k1 k2 _ _ r1 r2).mono ?_
  rintro e w5 ⟨rfl, rfl⟩
  clear r1 r2
  refine hK.out _ _ ⟨has_vec hv, has_st hs⟩ (fun hHeld => ?_)
  clear hK K
  try simp only [Act.put, List.setIfInBounds_toArray, List.set_cons_zero, List.set_cons_succ]
  refine wpAnyH_read (i := 7) (d := some 32) (v := ?v49) (by rfl) (by rfl) (by kernel_rfl) (by kernel_rfl) (by kernel_rfl) (fun _ _ _ h => h) (by rfl) ?hy49 (by assumption) ?rest49
  case hy49 =>
    intro w hSw
    try dsimp only at hSw
    go_simp
    try with_reducible rfl
  try simp only [Act.put, List.setIfInBounds_toArray, List.set_cons_zero, List.set_cons_succ]
  refine wpAnyH_read (i := 8) (d := some 33) (v := ?v50) (by rfl) (by rfl) (by kernel_rfl) (by kernel_rfl) (by kernel_rfl) (fun _ _ _ h => h) (by rfl) ?hy50 (by assumption) ?rest50
  case hy50 =>
    intro w hSw
    try dsimp only at hSw
    go_simp
    try with_reducible rfl
  try simp only [Act.put, List.setIfInBounds_toArray, List.set_cons_zero, List.set_cons_succ]
  refine wpAnyH_read (i := 9) (d := some 34) (v := ?v51) (by rfl) (by rfl) (by kernel_rfl) (by kernel_rfl) (by kernel_rfl) (fun _ _ _ h => h) (by rfl) ?hy51 (by assumption) ?rest51
  case hy51 =>
    intro w hSw
    try dsimp only at hSw
    go_simp
    try with_reducible rfl
  try simp only [Act.put, List.setIfInBounds_toArray, List.set_cons_zero, List.set_cons_succ]
  refine wpAnyH_read (i := 10) (d := some 35) (v := ?v52) (by rfl) (by rfl) (by kernel_rfl) (by kernel_rfl) (by kernel_rfl) (fun _ _ _ h => h) (by rfl) ?hy52 (by assumption) ?rest52
  case hy52 =>
    intro w hSw
    try dsimp only at hSw
    go_simp
    try with_reducible rfl
  try simp only [Act.put, List.setIfInBounds_toArray, List.set_cons_zero, List.set_cons_succ]
  refine wpAnyH_read (i := 12) (d := some 37) (v := ?v53) (by rfl) (by rfl) (by kernel_rfl) (by kernel_rfl) (by kernel_rfl) (fun _ _ _ h => h) (by rfl) ?hy53 (by assumption) ?rest53
  case hy53 =>
    intro w hSw
    try dsimp only at hSw
    go_simp
    try with_reducible rfl
  try simp only [Act.put, List.setIfInBounds_toArray, List.set_cons_zero, List.set_cons_succ]
  refine wpAnyH_read (i := 13) (d := some 38) (v := ?v54) (by rfl) (by rfl) (by kernel_rfl) (by kernel_rfl) (by kernel_rfl) (fun _ _ _ h => h) (by rfl) ?hy54 (by assumption) ?rest54
  case hy54 =>
    intro w hSw
    try dsimp only at hSw
    go_simp
    try with_reducible rfl
  try simp only [Act.put, List.setIfInBounds_toArray, List.set_cons_zero, List.set_cons_succ]
  refine wpAnyH_ready (rs := [11]) (by kernel_rfl) (by simp) ?_
  refine AllReadyH.cons rfl (fun K hK => ?_) AllReadyH.nil
  go_simp
  go_at_call 33
  refine (putStamp_any A n c t u l (Nat.le_trans HN.out (by decide)) _ ra hA0.out).mono ?_
  rintro e w5 ⟨x3, rfl, ho, hb⟩
  obtain ⟨A1, k1, rfl, r1, _⟩ := owns_lens ho
  rw [HLS.out] at r1 ⊢
  replace hv := hover hv hb
  replace hs := hover hs hb
  replace ra := ra.below hb
  replace rd := rd.below hb
  replace hb0 := hb0.trans (hb.mono hb0.size)
  clear ho hb
  refine hK.out _ _ ⟨has_vec hv, has_st hs⟩ (fun hHeld => ?_)
  clear hK K
  try simp only [Act.put, List.setIfInBounds_toArray, List.set_cons_zero, List.set_cons_succ]
  refine wpAnyH_ready (rs := [14]) (by kernel_rfl) (by simp) ?_
  refine AllReadyH.cons rfl (fun K hK => ?_) AllReadyH.nil
  go_simp
  go_at_call 34
  refine (rputStamp_any A n c t u l (Nat.le_trans HN.out (by decide)) _ ra hA0.out).mono ?_
  rintro e w6 ⟨x4, rfl, ho, hb⟩
  obtain ⟨A2, k2, rfl, r2, _⟩ := owns_lens ho
  rw [HLS.out] at r2 ⊢
  replace hv := hover hv hb
  replace hs := hover hs hb
  replace ra := ra.below hb
  replace rd := rd.below hb
  replace hb0 := hb0.trans (hb.mono hb0.size)
  replace r1 := r1.below hb
  clear ho hb
  refine hK.out _ _ ⟨has_vec hv, has_st hs⟩ (fun hHeld => ?_)
  clear hK K
  try simp only [Act.put, List.setIfInBounds_toArray, List.set_cons_zero, List.set_cons_succ]
  refine wpAnyH_ready (rs := [15]) (by kernel_rfl) (by simp) ?_
  refine AllReadyH.cons rfl (fun K hK => ?_) AllReadyH.nil
  go_simp
  go_at_call 30
  refine (equal_self A1 A2 _ _ k1 k2 _ _ r1 r2).mono ?_
  rintro e w7 ⟨rfl, rfl⟩
  clear r1 r2
  refine hK.out _ _ ⟨has_vec hv, has_st hs⟩ (fun hHeld => ?_)
  clear hK K
  try simp only [Act.put, List.setIfInBounds_toArray, List.set_cons_zero, List.set_cons_succ]
  refine wpAnyH_read (i := 16) (d := some 41) (v := ?v58) (by rfl) (by rfl) (by kernel_rfl) (by kernel_rfl) (by kernel_rfl) (fun _ _ _ h => h) (by rfl) ?hy58 (by assumption) ?rest58
  case hy58 =>
    intro w hSw
    try dsimp only at hSw
    go_simp
    try with_reducible rfl
  try simp only [Act.put, List.setIfInBounds_toArray, List.set_cons_zero, List.set_cons_succ]
  refine wpAnyH_read (i := 17) (d := some 42) (v := ?v59) (by rfl) (by rfl) (by kernel_rfl) (by kernel_rfl) (by kernel_rfl) (fun _ _ _ h => h) (by rfl) ?hy59 (by assumption) ?rest59
  case hy59 =>
    intro w hSw
    try dsimp only at hSw
    go_simp
    try with_reducible rfl
  try simp only [Act.put, List.setIfInBounds_toArray, List.set_cons_zero, List.set_cons_succ]
  refine wpAnyH_done (by kernel_rfl) ?_ _
  clear hv hs ra
  have hsz := hb0.size
  have hx := (Oct.Has.fresh w6 25 #[.int .i64 0, .int .i64 0, .int .i64 0, .int .i64 0, .int .i64 0, .int .i64 0, .int .i64 0, .int .i64 0]).past (.cells #[.int .i64 0, .int .i64 0] 23)
  have hy := Oct.Has.fresh (w6.alloc (.cells #[.int .i64 0, .int .i64 0, .int .i64 0, .int .i64 0, .int .i64 0, .int .i64 0, .int .i64 0, .int .i64 0] 25)) 23 #[.int .i64 0, .int .i64 0]
  rw [World.size_alloc] at hy
  have hbn := (((Below.refl w6.heap.size w6).alloc (Nat.le_refl _) (.cells #[.int .i64 0, .int .i64 0, .int .i64 0, .int .i64 0, .int .i64 0, .int .i64 0, .int .i64 0, .int .i64 0] 25)).alloc (by simp) (.cells #[.int .i64 0, .int .i64 0] 23))
  replace rd := rd.below hbn
  replace hb0 := hb0.trans (hbn.mono hsz)
  clear hbn
  go_wp2_with fail
  refine (readB_bad D m d w6.heap.size (w6.heap.size + 1) k r HR.out HF.out _ rd (Oct.Has.bound hx) (Oct.Has.bound hy)).mono ?_
  rintro e w8 ⟨rfl, hc⟩
  replace rd := RowB.old rd0.out hb0 hc (by rintro i hi (e | e) <;> omega)
  replace hb0 := hb0.trans (hc.below hb0.size (by rintro i hi (e | e) <;> omega))
  clear hx hy hc
  have kc := conv_RowB w8 D m d k rd
  rw [← HR.out] at kc
  have hk0 := Lib.hid (show Rye (w8.alloc (.cells #[.string r, .int .i64 0, .bool false, .int .i64 0] 51)) w8.heap.size r 0 false 0 from Oct.Has.fresh w8 51 #[.string r, .int .i64 0, .bool false, .int .i64 0])
  have h8 := hb0.size
  replace hb0 := hb0.alloc hb0.size (.cells #[.string r, .int .i64 0, .bool false, .int .i64 0] 51)
  clear rd
  have HB := Lib.hid hb0
  have HST := Lib.hid (show Calls Try.prog 39 #[.pointer (some ⟨w8.heap.size, 0, none⟩)] _ fun e w' => e = .returned (.agg #[.int .i64 (seeT r), .int .i64 (seeW r)]) ∧ Rye w' w8.heap.size r 7 false 0 ∧ Chg (· = w8.heap.size) _ w' from by have h := rst_ok w8.heap.size 0 r HSZ.out (by omega) (by rw [at_t, at_w]; exact hst) _ hk0.out; rw [at_t, at_w] at h; exact h)
  have HSV0 := Lib.hid (fun W h => rsee_bad w8.heap.size 7 r HSZ.out hs7 (by rw [at_v]; exact hbad.imp (fun h => by omega) id) W h)
  generalize seeT r = T at *
  generalize seeW r = U at *
  clear hb0 hbad hst hs7
  go_wp2_with fail
  refine HST.out.mono ?_
  rintro e w9 ⟨rfl, hk1, hc9⟩
  have hb9 := below_over HB.out HB.out.size hc9 (by intro i hi e; omega)
  have HB9 := Lib.hid (hb9.alloc hb9.size (.cells #[.int .i64 T, .int .i64 U] 23))
  have HSV := Lib.hid (HSV0.out _ (Rye.past hk1 (.cells #[.int .i64 T, .int .i64 U] 23)))
  clear hk1 hc9 hb9 HSV0
  go_wp2_with fail
  refine HSV.out.mono ?_
  rintro e w10 ⟨z, a10, rfl, hk2, hc10⟩
  have hb10 := below_over HB9.out HB9.out.size hc10 (by intro i hi e; omega)
  have HB10 := Lib.hid (hb10.alloc hb10.size (.cells (vecC z) 25))
  have HEND := Lib.hid (rend_done w8.heap.size a10 r 201 _ (Rye.past hk2 (.cells (vecC z) 25)))
  clear hk2 hc10 hb10
  unfold vecC at HB10 HEND ⊢
  go_wp2_with fail
  refine HEND.out.mono ?_
  rintro e w11 ⟨rfl, hc11⟩
  have hb11 := below_over HB10.out HB10.out.size hc11 (by intro i hi e; omega)
  clear hc11
  go_wp2_with fail
  refine (awake_any _).mono ?_
  rintro e w12 ⟨rfl, hb⟩
  go_wp2
  go_ret
  exact ⟨rfl, hb11.trans (hb.mono hb11.size)⟩

theorem bytes_long (A D : Option Addr) (n c m d : Nat) (v : Nat → Int) (t u : Int) (W : World) (h : 4096 < n ∨ 4096 < m) :
    Calls Try.prog 6 #[.slice A n c, .agg (vecC v), .agg (stC t u), .slice D m d] W fun e w' => e = .returned (.bool true) ∧ Below W.heap.size W w' := by
  have hb0 := (((Below.refl W.heap.size W).alloc (Nat.le_refl _) (.cells #[.int .i64 (v 0), .int .i64 (v 1), .int .i64 (v 2), .int .i64 (v 3), .int .i64 (v 4), .int .i64 (v 5), .int .i64 (v 6), .int .i64 (v 7)] 25)).alloc (by simp) (.cells #[.int .i64 t, .int .i64 u] 23))
  unfold vecC stC
  by_cases h1 : 4096 < n
  · have g1 : 4096 < (n : Int) := by omega
    clear h h1
    go_enter Try.func6, Try.ntmps6
    go_wp2_with fail
    refine (awake_any _).mono ?_
    rintro e w3 ⟨rfl, hb⟩
    go_wp2
    go_ret
    exact ⟨rfl, hb0.trans (hb.mono hb0.size)⟩
  · have g1 : ¬ 4096 < (n : Int) := by omega
    have g2 : 4096 < (m : Int) := by have := h.resolve_left h1; omega
    clear h h1
    go_enter Try.func6, Try.ntmps6
    go_wp2_with fail
    refine (awake_any _).mono ?_
    rintro e w3 ⟨rfl, hb⟩
    go_wp2
    go_ret
    exact ⟨rfl, hb0.trans (hb.mono hb0.size)⟩
theorem bytes_law (W : World) (A : Option Addr) (n c : Nat) (l : List UInt8) (v : Nat → Int) (t u : Int) (D : Option Addr) (m d : Nat) (k : List UInt8) (hA : RowB W A n l) (h0 : A = none → n = 0 ∧ c = 0) (_ : n ≤ c) (_ : c ≤ maxLen) (_ : ∀ i, i < 8 → (Lit.int .i64 (v i)).wf = true) (_ : (Lit.int .i64 t).wf = true) (_ : (Lit.int .i64 u).wf = true) (hD : RowB W D m k) (h0' : D = none → m = 0 ∧ d = 0) (_ : m ≤ d) (_ : d ≤ maxLen) :
    Calls Try.prog 6 #[.slice A n c, .agg (vecC v), .agg (stC t u), .slice D m d] W fun e w' => e = .returned (.bool true) ∧ Below W.heap.size W w' := by
  by_cases h : 4096 < n ∨ 4096 < m
  · exact bytes_long A D n c m d v t u W h
  · cases hf : fine ⟨k.toArray⟩ with
    | true => exact bytes_fine A D n c m d v t u l k _ rfl (by omega) (by omega) W hA hD h0 h0' hf
    | false =>
      rcases fine_no hf with hb | ⟨⟨h7, hs⟩, hb⟩
      · exact bytes_badS A D n c m d v t u l k _ rfl (by omega) (by omega) W hA hD h0 h0' hf hb
      · exact bytes_badV A D n c m d v t u l k _ rfl (by omega) (by omega) W hA hD h0 h0' hf h7 hs hb
end Go.Proofs.Ytlnlnpofdgnoeaa.Vc
