/- VectorBack: what was put is seen; walked. -/
import Derived.Test.YtlnlnpofdgnoeabVcSee2
import Derived.Test.YtlnlnpofdgnoeabVcQ
import Derived.Test.YtlnlnpofdgnoeabVcJ
import Derived.Test.YtlnlnpofdgnoeabVcOpen
namespace Go.Proofs.Ytlnlnpofdgnoeab.Vc
open Go.RowKit Go.Proofs.Ytlnlnpofdgnoeab.Oct

theorem foldl_num (l : List UInt8) : ∀ n : Nat, l.foldl (fun n b => n * 256 + b.toNat) n = n * 256 ^ l.length + numL l := by
  induction l with
  | nil => intro n; simp [numL]
  | cons x l ih =>
    intro n
    have h0 := ih (0 * 256 + x.toNat)
    unfold numL
    rw [List.foldl_cons, List.foldl_cons, h0, ih, List.length_cons, Nat.pow_succ, Nat.add_mul, Nat.mul_assoc, Nat.mul_comm 256, Nat.zero_mul, Nat.zero_add]
    omega
theorem num_take (U k : Nat) (h : U < 2 ^ (8 * k)) (j : Nat) (hj : j ≤ k) : numL ((putL U k).take j) = U / 2 ^ (8 * (k - j)) := by
  induction j with
  | zero =>
    rw [Nat.sub_zero, Nat.div_eq_of_lt h]
    rfl
  | succ j ih =>
    rw [putL_snoc U k j hj, numL_snoc, ih (by omega), UInt8.toNat_ofNat']
    have e : 8 * (k - j) = 8 * (k - 1 - j) + 8 := by omega
    have e2 : k - (j + 1) = k - 1 - j := by omega
    rw [e, e2, Nat.pow_add, ← Nat.div_div_eq_div_mul]
    generalize U / 2 ^ (8 * (k - 1 - j)) = V
    show V / 256 * 256 + V % 256 % 256 = V
    omega
theorem putL_num (U k : Nat) (h : U < 2 ^ (8 * k)) : numL (putL U k) = U := by
  have e := num_take U k h k (Nat.le_refl _)
  rw [List.take_of_length_le (by rw [putL_len]; exact Nat.le_refl _), Nat.sub_self, Nat.mul_zero, Nat.pow_zero, Nat.div_one] at e
  exact e
theorem numB_num (A k : Nat) (h : A < 9223372036854775808) (hk : A < 2 ^ (8 * k)) : numL (numB (A : Int) k) = A := by
  unfold numB
  rw [show (IntKind.u64.wrap (A : Int)).toNat = A by rw [IntKind.wrap_u64, Int.emod_eq_of_lt (by omega) (by omega)]; rfl]
  exact putL_num A k hk
theorem vecTo_at (x : Nat → Int) (i : Nat) : ∀ k, i < k → ∀ R : List UInt8, ((vecTo x k ++ R).drop (6 * i)).take 6 = numB (x i) 6
  | 0, h, _ => by omega
  | k + 1, h, R => by
    rw [vecTo, List.append_assoc]
    by_cases e : i = k
    · subst e
      rw [List.drop_left' (vecTo_len x i), List.take_left' (numB_len _ _)]
    · exact vecTo_at x i k (by omega) _
/-- The bytes of a vector and a stamp. -/
def vsB (v : Nat → Int) (t w : Int) : ByteArray := ⟨(vecB v ++ stB t w).toArray⟩
theorem stB_len (t w : Int) : (stB t w).length = 7 := by
  unfold stB
  rw [List.length_append, numB_len, numB_len]
theorem vsB_list (v : Nat → Int) (t w : Int) : (vsB v t w).data.toList = vecB v ++ stB t w := rfl
theorem vsB_size (v : Nat → Int) (t w : Int) : (vsB v t w).size = 55 := by
  show (vecB v ++ stB t w).toArray.size = 55
  rw [List.size_toArray, List.length_append, stB_len]
  unfold vecB
  rw [vecTo_len]
theorem back_v {v : Nat → Int} (t w : Int) (h : goodB v = true) : vecC (seeV (vsB v t w)) = vecC v := by
  refine vecC_ext fun i hi => ?_
  obtain ⟨h1, h2⟩ := goodB_iff.1 h i hi
  obtain ⟨A, hA⟩ := Int.eq_ofNat_of_zero_le h1
  show ((numL (((vsB v t w).data.toList.drop (6 * i)).take 6) : Nat) : Int) = v i
  rw [vsB_list]
  unfold vecB
  rw [vecTo_at v i 8 hi, hA, numB_num A 6 (by omega) (by omega)]
theorem back_good {v : Nat → Int} (t w : Int) (h : goodB v = true) : goodB (seeV (vsB v t w)) = true := by
  rw [goodB_iff]
  intro i hi
  have e : seeV (vsB v t w) i = v i := by
    obtain ⟨h1, h2⟩ := goodB_iff.1 h i hi
    obtain ⟨A, hA⟩ := Int.eq_ofNat_of_zero_le h1
    show ((numL (((vsB v t w).data.toList.drop (6 * i)).take 6) : Nat) : Int) = v i
    rw [vsB_list]
    unfold vecB
    rw [vecTo_at v i 8 hi, hA, numB_num A 6 (by omega) (by omega)]
  rw [e]
  exact goodB_iff.1 h i hi
theorem back_rest (v : Nat → Int) (t w : Int) : ((vsB v t w).extract 48 (vsB v t w).size).data.toList = stB t w := by
  rw [ext_list, vsB_list]
  exact List.drop_left' (vecTo_len v 8)
theorem back_t {t w : Int} (v : Nat → Int) (h : isB t w = true) : seeT ((vsB v t w).extract 48 (vsB v t w).size) = t ∧ seeW ((vsB v t w).extract 48 (vsB v t w).size) = w := by
  obtain ⟨⟨h1, h2⟩, h3, h4⟩ := isB_iff.1 h
  obtain ⟨A, rfl⟩ := Int.eq_ofNat_of_zero_le (show 0 ≤ t by omega)
  obtain ⟨C, rfl⟩ := Int.eq_ofNat_of_zero_le h3
  unfold seeT seeW
  rw [back_rest]
  unfold stB
  rw [List.take_left' (numB_len _ _), List.drop_left' (numB_len _ _), numB_num A 6 (by omega) (by omega)]
  refine ⟨rfl, ?_⟩
  have e : (numB (C : Int) 1).take 1 = numB (C : Int) 1 := List.take_of_length_le (by rw [numB_len]; exact Nat.le_refl _)
  rw [e, numB_num C 1 (by omega) (by omega)]

theorem has_keep8 {w : World} {g p : Nat} {t : TypeId} {cs : Array Value} (h : Oct.Has w g t cs) (hp : g ≠ p) (x : Nat → Int) : Oct.Has (((((((((w).setCell ⟨p, 0, none⟩ (.int .i64 (x 0))).setCell ⟨p, 1, none⟩ (.int .i64 (x 1))).setCell ⟨p, 2, none⟩ (.int .i64 (x 2))).setCell ⟨p, 3, none⟩ (.int .i64 (x 3))).setCell ⟨p, 4, none⟩ (.int .i64 (x 4))).setCell ⟨p, 5, none⟩ (.int .i64 (x 5))).setCell ⟨p, 6, none⟩ (.int .i64 (x 6))).setCell ⟨p, 7, none⟩ (.int .i64 (x 7))) g t cs :=
  (Oct.Has.keep (Oct.Has.keep (Oct.Has.keep (Oct.Has.keep (Oct.Has.keep (Oct.Has.keep (Oct.Has.keep (Oct.Has.keep h (p := ⟨p, 0, none⟩) hp _) (p := ⟨p, 1, none⟩) hp _) (p := ⟨p, 2, none⟩) hp _) (p := ⟨p, 3, none⟩) hp _) (p := ⟨p, 4, none⟩) hp _) (p := ⟨p, 5, none⟩) hp _) (p := ⟨p, 6, none⟩) hp _) (p := ⟨p, 7, none⟩) hp _)
theorem chg_in8 {a w : World} {p : Nat} {S : Nat → Prop} (h : Chg S a w) (hp : S p) (x : Nat → Int) : Chg S a (((((((((w).setCell ⟨p, 0, none⟩ (.int .i64 (x 0))).setCell ⟨p, 1, none⟩ (.int .i64 (x 1))).setCell ⟨p, 2, none⟩ (.int .i64 (x 2))).setCell ⟨p, 3, none⟩ (.int .i64 (x 3))).setCell ⟨p, 4, none⟩ (.int .i64 (x 4))).setCell ⟨p, 5, none⟩ (.int .i64 (x 5))).setCell ⟨p, 6, none⟩ (.int .i64 (x 6))).setCell ⟨p, 7, none⟩ (.int .i64 (x 7))) :=
  (Chg.setCell (Chg.setCell (Chg.setCell (Chg.setCell (Chg.setCell (Chg.setCell (Chg.setCell (Chg.setCell h (p := ⟨p, 0, none⟩) (.inl hp) _) (p := ⟨p, 1, none⟩) (.inl hp) _) (p := ⟨p, 2, none⟩) (.inl hp) _) (p := ⟨p, 3, none⟩) (.inl hp) _) (p := ⟨p, 4, none⟩) (.inl hp) _) (p := ⟨p, 5, none⟩) (.inl hp) _) (p := ⟨p, 6, none⟩) (.inl hp) _) (p := ⟨p, 7, none⟩) (.inl hp) _)
theorem enter_back (args : Array Value) (W : World) : (callFunc 15 args).run Try.prog W = .ok (.enter 15 args) W := by kernel_rfl
/-- What may change by the looking. -/
def XY (X Y : Nat) : Nat → Prop := fun k => k = X ∨ k = Y
set_option maxRecDepth 100000 in
set_option maxHeartbeats 2000000 in
theorem back1_ok (q s X Y : Nat) (r : ByteArray) (x0 : Nat → Int) (t0 w0 : Int) (hn : r.size = 55) (hg : goodB (seeV r) = true) (hs : stampB (seeT (r.extract 48 r.size)) (seeW (r.extract 48 r.size)) = true) (hqs : q ≠ s) (hXq : X ≠ q) (hXs : X ≠ s) (hYq : Y ≠ q) (hYs : Y ≠ s) (hXY : X ≠ Y) (w : World) (h : Looks w q s r)
    (hX : Oct.Has w X 23 (vecC x0)) (hY : Oct.Has w Y 25 (stC t0 w0)) :
    Calls Try.prog 15 #[.pointer (some ⟨q, 0, none⟩), .pointer (some ⟨X, 0, none⟩), .pointer (some ⟨Y, 0, none⟩)] w fun e w' => e = .returned (.tuple #[]) ∧ Looks w' q s (r.extract 55 r.size) ∧ Oct.Has w' X 23 (vecC (seeV r)) ∧ Oct.Has w' Y 25 (stC (seeT (r.extract 48 r.size)) (seeW (r.extract 48 r.size))) ∧ Chg (fun k => k = s ∨ XY X Y k) w w' := by
  have H1 := Lib.hid (show Calls Try.prog 16 #[.pointer (some ⟨q, 0, none⟩)] w fun e w' => e = .returned (.agg #[.int .i64 (seeV r 0), .int .i64 (seeV r 1), .int .i64 (seeV r 2), .int .i64 (seeV r 3), .int .i64 (seeV r 4), .int .i64 (seeV r 5), .int .i64 (seeV r 6), .int .i64 (seeV r 7)]) ∧ Looks w' q s (r.extract 48 r.size) ∧ Chg (· = s) w w' from see_ok q s r (by omega) hg hqs w h)
  have H2 := Lib.hid (fun W => seest_ok q s (r.extract 48 r.size) (by rw [ext_size _ _ (by omega)]; omega) hs hqs W)
  have HX := Lib.hid (ext_ext r 48 7 (by omega))
  generalize seeT (r.extract 48 r.size) = T at *
  generalize seeW (r.extract 48 r.size) = U at *
  generalize seeV r = J at *
  clear h hg hs hn
  unfold stC at *
  go_enter Try.func15, Try.ntmps15
  go_wp2_with fail
  refine H1.out.mono ?_
  rintro e w1 ⟨rfl, hl1, hc1⟩
  have HX1 := Lib.hid (Oct.Has.over hX hc1 hXs)
  have HY1 := Lib.hid (Oct.Has.over hY hc1 hYs)
  have HC1 := Lib.hid hc1
  have HL1 := Lib.hid hl1
  clear hX hY hc1 hl1
  go_wp2_with fail
  refine (H2.out _ HL1.out).mono ?_
  rintro e w2 ⟨rfl, hl2, hc2⟩
  rw [HX.out] at hl2
  have hX2 := Oct.Has.over HX1.out hc2 hXs
  have hY2 := Oct.Has.over HY1.out hc2 hYs
  have hc := (HC1.out.trans hc2).mono (T := fun k => k = s ∨ XY X Y k) (fun k hk => Or.inl hk)
  obtain ⟨c0, c1, c2, c3, c4, c5, c6, c7⟩ := has_vec hX2
  obtain ⟨y0, y1⟩ := has_st hY2
  have fx := fun i => Oct.Has.free hX2 i
  have fy := fun i => Oct.Has.free hY2 i
  have HXf := Lib.hid (Has.put8 (z := x0) hX2 J)
  have HYf := Lib.hid (has_keep8 hY2 hXY.symm J)
  have HLf := Lib.hid (looks_put8 hl2 hXq.symm hXs.symm J)
  have HCf := Lib.hid (chg_in8 (p := X) hc (Or.inr (Or.inl rfl)) J)
  clear hl2 hX2 hY2 hc hc2
  go_wp2
  go_end0
  refine ⟨rfl, looks_put2 HLf.out hYq.symm hYs.symm T U, Oct.Has.keep (Oct.Has.keep HXf.out (p := ⟨Y, 0, none⟩) hXY _) (p := ⟨Y, 1, none⟩) hXY _, Oct.Has.put (Oct.Has.put HYf.out 0 _) 1 _, ?_⟩
  exact (HCf.out.setCell (p := ⟨Y, 0, none⟩) (.inl (Or.inr (Or.inr rfl))) _).setCell (p := ⟨Y, 1, none⟩) (.inl (Or.inr (Or.inr rfl))) _
set_option maxHeartbeats 1000000 in
theorem back1_bad (q s X Y : Nat) (r : ByteArray) (hn : r.size = 55) (hbad : goodB (seeV r) = false ∨ stampB (seeT (r.extract 48 r.size)) (seeW (r.extract 48 r.size)) = false) (hqs : q ≠ s) (w : World) (h : Looks w q s r) :
    Calls Try.prog 15 #[.pointer (some ⟨q, 0, none⟩), .pointer (some ⟨X, 0, none⟩), .pointer (some ⟨Y, 0, none⟩)] w (Threw s w) := by
  cases hg : goodB (seeV r) with
  | false =>
    have H1 := Lib.hid (see_bad q s r (.inr hg) hqs w h)
    clear hbad hg h
    go_enter Try.func15, Try.ntmps15
    go_wp2_with fail
    refine H1.out.mono ?_
    rintro e w1 ⟨rfl, r1, hl, hc⟩
    go_wp2
    show _ ∧ _
    exact ⟨rfl, rfl, _, hl, hc⟩
  | true =>
    have hs := hbad.resolve_left (by rw [hg]; simp)
    have H1 := Lib.hid (see_ok q s r (by omega) hg hqs w h)
    have H2 := Lib.hid (fun W => seest_bad q s (r.extract 48 r.size) (.inr hs) hqs W)
    clear hbad hg h hs
    go_enter Try.func15, Try.ntmps15
    go_wp2_with fail
    refine H1.out.mono ?_
    rintro e w1 ⟨rfl, hl1, hc1⟩
    have HL1 := Lib.hid hl1
    have HC1 := Lib.hid hc1
    clear hl1 hc1
    go_wp2_with fail
    refine (H2.out _ HL1.out).mono ?_
    rintro e w2 ⟨rfl, r1, hl, hc⟩
    go_wp2
    show _ ∧ _
    exact ⟨rfl, rfl, _, hl, HC1.out.trans hc⟩

/-- What Read leaves of the rest. -/
theorem look_xy {w w1 w' : World} {l : List UInt8} {X Y : Nat} (h1 : Chg (fun k => k = w.heap.size + 1 ∨ XY X Y k) (lookW w l) w1) (h2 : Chg (fun k => k = w.heap.size + 1 ∨ k = w.heap.size) w1 w') : Chg (XY X Y) w w' := by
  refine ((Chg.of_below (lookW_below w l) (XY X Y)).step h1 ?_).step h2 ?_
  · rintro i hi (e | e)
    · omega
    · exact e
  · rintro i hi (e | e) <;> omega
theorem read_ok (A : Option Addr) (n cap X Y : Nat) (l : List UInt8) (r : ByteArray) (hr : r = ⟨l.toArray⟩) (x0 : Nat → Int) (t0 w0 : Int) (hn : r.size = 55) (hg : goodB (seeV r) = true) (hs : stampB (seeT (r.extract 48 r.size)) (seeW (r.extract 48 r.size)) = true) (hXY : X ≠ Y) (w : World) (h : RowB w A n l)
    (hX : Oct.Has w X 23 (vecC x0)) (hY : Oct.Has w Y 25 (stC t0 w0)) :
    Calls Try.prog 12 #[.slice A n cap, .func (.func 15) #[] #[.pointer (some ⟨X, 0, none⟩), .pointer (some ⟨Y, 0, none⟩)]] w fun e w' =>
      e = .returned (.int .i64 0) ∧ Oct.Has w' X 23 (vecC (seeV r)) ∧ Oct.Has w' Y 25 (stC (seeT (r.extract 48 r.size)) (seeW (r.extract 48 r.size))) ∧ Chg (XY X Y) w w' := by
  have bX := Oct.Has.bound hX
  have bY := Oct.Has.bound hY
  have hX0 := Oct.Has.over hX (Chg.of_below (lookW_below w l) (fun _ => False)) (fun k => k)
  have hY0 := Oct.Has.over hY (Chg.of_below (lookW_below w l) (fun _ => False)) (fun k => k)
  have hL : Looks (lookW w l) (w.heap.size + 3) (w.heap.size + 1) r := by
    subst hr
    exact ⟨lookW_eye w l, lookW_sight w l⟩
  refine (read_look A n cap l 15 #[.pointer (some ⟨X, 0, none⟩), .pointer (some ⟨Y, 0, none⟩)] w h enter_back (XY X Y) (by rintro (e | e) <;> omega) (by rintro (e | e) <;> omega)
    (fun r' b y w1 => r' = r.extract 55 r.size ∧ b = false ∧ Oct.Has w1 X 23 (vecC (seeV r)) ∧ Oct.Has w1 Y 25 (stC (seeT (r.extract 48 r.size)) (seeW (r.extract 48 r.size))))
    ((back1_ok (w.heap.size + 3) (w.heap.size + 1) X Y r x0 t0 w0 hn hg hs (by omega) (by omega) (by omega) (by omega) (by omega) hXY _ hL hX0 hY0).mono ?_)).mono ?_
  · rintro e w1 ⟨rfl, h1, h2, h3, h4⟩
    exact ⟨rfl, _, false, 0, h1.sight, h4, rfl, rfl, h2, h3⟩
  · rintro e w' ⟨r', b, y, w1, ⟨rfl, rfl, h2, h3⟩, rfl, hc1, hc2⟩
    have he : (r.extract 55 r.size).toList.isEmpty = true := by
      have h0 : (r.extract 55 r.size).size = 0 := by rw [ext_size _ _ (by omega)]; omega
      have h1 : (r.extract 55 r.size).data.toList = [] := List.eq_nil_of_length_eq_zero (by rw [Array.length_toList]; exact h0)
      rw [ByteArray.toList_eq, h1]
      rfl
    refine ⟨?_, Oct.Has.over h2 hc2 (by rintro (e | e) <;> omega), Oct.Has.over h3 hc2 (by rintro (e | e) <;> omega), look_xy hc1 hc2⟩
    unfold why
    rw [if_neg (by simp), if_pos he]
theorem read_bad (A : Option Addr) (n cap X Y : Nat) (l : List UInt8) (r : ByteArray) (hr : r = ⟨l.toArray⟩) (hn : r.size = 55) (hbad : goodB (seeV r) = false ∨ stampB (seeT (r.extract 48 r.size)) (seeW (r.extract 48 r.size)) = false) (w : World) (h : RowB w A n l) (bX : X < w.heap.size) (bY : Y < w.heap.size) :
    Calls Try.prog 12 #[.slice A n cap, .func (.func 15) #[] #[.pointer (some ⟨X, 0, none⟩), .pointer (some ⟨Y, 0, none⟩)]] w fun e w' => e = .returned (.int .i64 201) ∧ Chg (XY X Y) w w' := by
  have hL : Looks (lookW w l) (w.heap.size + 3) (w.heap.size + 1) r := by
    subst hr
    exact ⟨lookW_eye w l, lookW_sight w l⟩
  refine (read_throws A n cap l 15 #[.pointer (some ⟨X, 0, none⟩), .pointer (some ⟨Y, 0, none⟩)] w h enter_back (XY X Y) (by rintro (e | e) <;> omega) (by rintro (e | e) <;> omega)
    (fun _ y _ => y = 201) ((back1_bad (w.heap.size + 3) (w.heap.size + 1) X Y r hn hbad (by omega) _ hL).mono ?_)).mono ?_
  · rintro e w1 ⟨rfl, r1, h1, h2⟩
    exact ⟨rfl, r1, 201, h1, h2.mono (fun k hk => Or.inl hk), rfl⟩
  · rintro e w' ⟨r1, y, w1, rfl, rfl, hc1, hc2⟩
    exact ⟨rfl, look_xy hc1 hc2⟩
end Go.Proofs.Ytlnlnpofdgnoeab.Vc
