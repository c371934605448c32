/- The package's example is as the document has it. -/
import Derived.Test.YtancbkmgbhigpaaOctTexts
import Derived.Test.YtancbkmgbhigpaaOctEye
namespace Go.Proofs.Ytancbkmgbhigpaa.Oct
open Go.RowKit

theorem Owns.slice {w : World} {B : Nat} {v : Value} {l : List UInt8} (h : Owns w B v l) : ∃ A cap, v = .slice A l.length cap ∧ (A = none → l.length = 0 ∧ cap = 0) := by
  rcases h.2 with ⟨e, e0⟩ | ⟨g, c, cur, e, _⟩
  · exact ⟨none, 0, by rw [e, e0], fun _ => ⟨e0, rfl⟩⟩
  · exact ⟨_, c, e, fun k => by cases k⟩
theorem look_below {w w1 w' : World} {l : List UInt8} {X : Nat → Prop} {B : Nat} (h1 : Chg (fun k => k = w.heap.size + 1 ∨ X k) (lookW w l) w1) (h2 : Chg (fun k => k = w.heap.size + 1 ∨ k = w.heap.size) w1 w') (hB : B ≤ w.heap.size) (hX : ∀ k, k < B → ¬ X k) : Below B w w' := by
  have hs := h1.size
  rw [lookW_size] at hs
  refine ((lookW_below w l).mono hB).trans ((h1.below (B := B) (by rw [lookW_size]; omega) fun k hk => ?_).trans (h2.below (B := B) (by omega) fun k hk => by omega))
  rintro (e | e)
  · omega
  · exact hX k hk e
theorem awake1_any (q s B : Nat) (r : ByteArray) (x : Int) (hn : 3 ≤ r.size) (hv : numL (r.data.toList.take 3) < 9223372036854775808) (hqs : q ≠ s) (hBs : B ≠ s) (hBq : B ≠ q) (w : World) (h : Looks w q s r) (hc : Has w B 3 #[.int .i64 x]) :
    Calls Try.prog 18 #[.pointer (some ⟨q, 0, none⟩), .pointer (some ⟨B, 0, none⟩)] w fun e w' => e = .returned (.tuple #[]) ∧ Looks w' q s (r.extract 3 r.size) ∧ Has w' B 3 #[.int .i64 (numL (r.data.toList.take 3) : Nat)] ∧ Chg (fun k => k = s ∨ k = B) w w' := by
  have HN := Lib.hid (num_ok q s 3 r (by decide) (by decide) hn hv hqs w h)
  clear hv hn h
  go_enter Try.func18, Try.ntmps18
  go_wp2_with fail
  refine HN.out.mono ?_
  rintro e w1 ⟨rfl, hl, hg⟩
  have h1 := hc.over hg hBs
  have c1 := Has.at_ h1 0
  have f1 := Has.free h1 0
  simp at c1
  clear HN
  go_wp2
  go_end0
  exact ⟨rfl, ⟨Has.keep hl.eye (p := ⟨B, 0, none⟩) (fun k => hBq k.symm) _, Has.keep hl.sight (p := ⟨B, 0, none⟩) (fun k => hBs k.symm) _⟩, Has.put h1 0 _, Chg.setCell (S := fun k => k = s ∨ k = B) (hg.mono fun k hk => Or.inl hk) (p := ⟨B, 0, none⟩) (.inl (Or.inr rfl)) _⟩
theorem awake2_any (q s : Nat) (r : ByteArray) (hn : 2 ≤ r.size) (hv : numL (r.data.toList.take 2) < 9223372036854775808) (hqs : q ≠ s) (w : World) (h : Looks w q s r) :
    Calls Try.prog 20 #[.pointer (some ⟨q, 0, none⟩)] w fun e w' => e = .returned (.tuple #[]) ∧ Looks w' q s (r.extract 2 r.size) ∧ Chg (· = s) w w' := by
  have HN := Lib.hid (num_ok q s 2 r (by decide) (by decide) hn hv hqs w h)
  clear hv hn h
  go_enter Try.func20, Try.ntmps20
  go_wp2_with fail
  refine HN.out.mono ?_
  rintro e w1 ⟨rfl, hl, hg⟩
  clear HN
  go_wp2
  go_end0
  exact ⟨rfl, hl, hg⟩
theorem put258 : [] ++ putL (IntKind.u64.wrap 258).toNat 3 = [0, 1, 2] := by decide +kernel
theorem nb_ex : nb ⟨#[97, 255]⟩ 2 = ((0 : Nat) : Int) := by decide +kernel
theorem bey_ex : bey ⟨#[97, 255]⟩ 0 (by decide) = ⟨#[98]⟩ := by decide +kernel
theorem num3_ex : numL ((⟨#[0, 1, 2]⟩ : ByteArray).data.toList.take 3) < 9223372036854775808 := by
  have h : numL ((⟨#[0, 1, 2]⟩ : ByteArray).data.toList.take 3) = 258 := by decide +kernel
  rw [h]; decide
theorem num2_ex : numL ((⟨#[0, 1, 2]⟩ : ByteArray).data.toList.take 2) < 9223372036854775808 := by
  have h : numL ((⟨#[0, 1, 2]⟩ : ByteArray).data.toList.take 2) = 1 := by decide +kernel
  rw [h]; decide
theorem enter1 (args : Array Value) (W : World) : (callFunc 18 args).run Try.prog W = .ok (.enter 18 args) W := by kernel_rfl
theorem look1 (A : Option Addr) (cap B : Nat) (x : Int) (w : World) (h : RowB w A 3 [0, 1, 2]) (hc : Has w B 3 #[.int .i64 x]) :
    Calls Try.prog 6 #[.slice A 3 cap, .func (.func 18) #[] #[.pointer (some ⟨B, 0, none⟩)]] w fun e w' => e = .returned (.int .i64 0) ∧ Has w' B 3 #[.int .i64 258] ∧ Below B w w' := by
  have hB := hc.bound
  refine (read_look A 3 cap [0, 1, 2] 18 #[.pointer (some ⟨B, 0, none⟩)] w h enter1 (fun k => k = B) (by omega) (by omega)
    (fun r b y w1 => r = (⟨#[0, 1, 2]⟩ : ByteArray).extract 3 3 ∧ b = false ∧ y = 0 ∧ Has w1 B 3 #[.int .i64 258]) ?_).mono ?_
  · refine (awake1_any (w.heap.size + 3) (w.heap.size + 1) B ⟨#[0, 1, 2]⟩ x (by decide) num3_ex (by omega) (by omega) (by omega) _ ⟨lookW_eye w _, lookW_sight w _⟩ (hc.over (Chg.of_below (lookW_below w _) (fun _ => False)) (fun k => k))).mono ?_
    rintro e w1 ⟨rfl, hl, hh, hg⟩
    exact ⟨rfl, _, false, 0, hl.sight, hg, rfl, rfl, rfl, hh⟩
  · rintro e w' ⟨r, b, y, w1, ⟨rfl, rfl, rfl, hh⟩, rfl, h1, h2⟩
    exact ⟨by rw [show why ((⟨#[0, 1, 2]⟩ : ByteArray).extract 3 3) false 0 = 0 from by decide +kernel], hh.over h2 (by omega), look_below h1 h2 (by omega) (fun k hk => by omega)⟩
theorem enter2 (args : Array Value) (W : World) : (callFunc 20 args).run Try.prog W = .ok (.enter 20 args) W := by kernel_rfl
theorem look2 (A : Option Addr) (cap : Nat) (w : World) (h : RowB w A 3 [0, 1, 2]) :
    Calls Try.prog 6 #[.slice A 3 cap, .func (.func 20) #[] #[]] w fun e w' => e = .returned (.int .i64 201) ∧ Below w.heap.size w w' := by
  refine (read_look A 3 cap [0, 1, 2] 20 #[] w h enter2 (fun _ => False) (fun k => k) (fun k => k)
    (fun r b y w1 => r = (⟨#[0, 1, 2]⟩ : ByteArray).extract 2 3 ∧ b = false ∧ y = 0) ?_).mono ?_
  · refine (awake2_any (w.heap.size + 3) (w.heap.size + 1) ⟨#[0, 1, 2]⟩ (by decide) num2_ex (by omega) _ ⟨lookW_eye w _, lookW_sight w _⟩).mono ?_
    rintro e w1 ⟨rfl, hl, hg⟩
    exact ⟨rfl, _, false, 0, hl.sight, hg.mono fun k hk => Or.inl hk, rfl, rfl, rfl⟩
  · rintro e w' ⟨r, b, y, w1, ⟨rfl, rfl, rfl⟩, rfl, h1, h2⟩
    exact ⟨by rw [show why ((⟨#[0, 1, 2]⟩ : ByteArray).extract 2 3) false 0 = 201 from by decide +kernel], look_below h1 h2 (Nat.le_refl _) (fun _ _ k => k)⟩
set_option maxRecDepth 100000 in
theorem awake_any (w : World) : Calls Try.prog 4 #[] w fun e w' => e = .returned (.bool true) ∧ Below w.heap.size w w' := by
  go_enter Try.func4, Try.ntmps4
  go_wp2_with fail
  refine (put_in none 0 0 3 258 [] (by decide) (by decide) (by decide) _ ⟨rfl, fun h => absurd h (by decide)⟩ (fun _ => ⟨rfl, rfl⟩)).mono ?_
  rintro e w1 ⟨v, rfl, ho, hb1⟩
  rw [put258] at ho
  obtain ⟨A, cap, rfl, hA⟩ := ho.slice
  have hr := ho.row rfl
  clear ho hA
  go_wp2_with fail
  refine (look1 A cap w1.heap.size 0 _ (hr.below ((Below.refl _ w1).alloc (Nat.le_refl _) _)) (Has.fresh _ _ _)).mono ?_
  rintro e w2 ⟨rfl, hc, hb2⟩
  have hb12 := ((Below.refl _ w1).alloc (Nat.le_refl _) _).trans hb2
  have hr2 := hr.below hb12
  clear hb2 hr
  go_wp2_with fail
  refine (look2 A cap w2 hr2).mono ?_
  rintro e w3 ⟨rfl, hb3⟩
  have hr3 := hr2.below hb3
  have hc3 := hc.over (Chg.of_below hb3 (fun _ => False)) (fun k => k)
  clear hr2 hc
  go_wp2_with fail
  refine (beyond_some ⟨#[97, 255]⟩ (by decide) 0 (by decide) nb_ex w3).mono ?_
  rw [bey_ex]
  rintro e w4 ⟨rfl, hb4⟩
  have kc := conv_RowB w4 A 3 cap _ (hr3.below hb4)
  have hc4 := hc3.over (Chg.of_below hb4 (fun _ => False)) (fun k => k)
  have c4 := Has.at_ hc4 0
  simp at c4
  clear hr3 hc3 hc4
  go_wp2
  go_ret
  exact ⟨rfl, ((hb1.trans (hb12.mono hb1.size)).trans (hb3.mono (Nat.le_trans hb1.size hb12.size))).trans (hb4.mono (Nat.le_trans (Nat.le_trans hb1.size hb12.size) hb3.size))⟩
end Go.Proofs.Ytancbkmgbhigpaa.Oct
