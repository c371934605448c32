/- A middle of two times lies between both. -/
import Derived.Test.YtdedbbbgpjhjhaaInstAddsM
import Derived.Test.YtdedbbbgpjhjhaaInstMid
namespace Go.Proofs.Ytdedbbbgpjhjhaa.Inst
open Go.RowKit
open Go.Proofs.Ytdedbbbgpjhjhaa.Flt
open Ieee

theorem SV_word (s : Bool) (r : Nat) (h : r ≤ inf) : SV (double.word s r) = sg s (V r) := by
  have hi : inf = 9218868437227405312 := rfl
  unfold SV
  rw [(word_facts s r h).2.1, word_eq]
  cases s with
  | true => rw [if_pos rfl, decide_eq_true (by omega)]
  | false => rw [if_neg (by decide), decide_eq_false (by omega)]
theorem V_half (l : Nat) (h : 9007199254740992 ≤ l) : V (l - 4503599627370496) * 2 = V l := by
  unfold V
  rw [if_neg (by omega), if_neg (by omega)]
  have e1 : (l - 4503599627370496) % 4503599627370496 = l % 4503599627370496 := by omega
  have e2 : l / 4503599627370496 - 1 = ((l - 4503599627370496) / 4503599627370496 - 1) + 1 := by omega
  rw [e1, e2, Nat.pow_succ, Nat.mul_assoc]
theorem half_num2 (s : Bool) (m e : Nat) (D : Nat) (hD : D = 2 ^ 52) (he : 1 ≤ e) : double.nearest s (m * D) (-1074 + (e : Int) + (-53)) = double.word s (R (m * 2 ^ (e - 1))) := by
  rw [hD, nearest_scale, show -1074 + (e : Int) + (-53) + ((52 : Nat) : Int) = -1074 + ((e - 1 : Nat) : Int) by omega, ← nearest_scale, nearest_R]
theorem half_fin (x : Nat) (hx : x < 18446744073709551616) (h1 : 9007199254740992 ≤ low x) (h2 : low x < inf) : low (half x) < inf ∧ half x < 18446744073709551616 ∧ SV (half x) * 2 = SV x := by
  have hn : ¬ nan x := by unfold nan; omega
  have hh := half_mul x hx hn
  have hf : floatBits .mul .f64 x 4602678819172646912 = ((double.read x).product (double.read 4602678819172646912)).map double.write := rfl
  rw [hf, read_half] at hh
  obtain ⟨m, e, er, ev⟩ := read_num x hx h2
  have hm := read_small x _ _ _ er
  rw [er] at hh
  have he : 1 ≤ e := by
    rcases Nat.eq_zero_or_pos e with h0 | h0
    · subst h0
      have hv : V 9007199254740992 ≤ V (low x) := V_le_iff.2 h1
      rw [← ev, Nat.pow_zero, Nat.mul_one] at hv
      have : V 9007199254740992 = 9007199254740992 := by decide
      omega
    · exact h0
  have hs : SV x = sg (decide (9223372036854775808 ≤ x)) (V (low x)) := rfl
  generalize decide (9223372036854775808 ≤ x) = s at *
  have hD : (4503599627370496 : Nat) = 2 ^ 52 := by decide
  have hM : m * 2 ^ (e - 1) = V (low x - 4503599627370496) := by
    have h3 := V_half (low x) h1
    rw [← ev] at h3
    have h4 : m * 2 ^ e = m * 2 ^ (e - 1) * 2 := by rw [Nat.mul_assoc, ← Nat.pow_succ, Nat.succ_eq_add_one, show e - 1 + 1 = e by omega]
    omega
  have hw : half x = double.word s (low x - 4503599627370496) := by
    have h5 : some (double.nearest (s ^^ false) (m * 4503599627370496) (-1074 + (e : Int) + (-53))) = some (half x) := hh
    rw [half_num2 _ m e _ hD he, hM, R_V (by omega), Bool.xor_false] at h5
    injection h5 with h5
    exact h5.symm
  obtain ⟨w1, w2, w3⟩ := word_facts s (low x - 4503599627370496) (by omega)
  rw [hw]
  refine ⟨by rw [w2]; omega, w1, ?_⟩
  rw [SV_word s _ (by omega), hs, ← V_half (low x) h1]
  cases s with
  | true => rw [sg_true, sg_true]; omega
  | false => rw [sg_false, sg_false]; omega
theorem half_inf (x : Nat) (hx : x < 18446744073709551616) (h : low x = inf) : low (half x) = inf ∧ half x < 18446744073709551616 ∧ sval (half x) = sval x := by
  have hn : ¬ nan x := by unfold nan; omega
  have hh := half_mul x hx hn
  have hf : floatBits .mul .f64 x 4602678819172646912 = ((double.read x).product (double.read 4602678819172646912)).map double.write := rfl
  rw [hf, read_half, read_inf x hx h] at hh
  have hs : sval x = sg (decide (9223372036854775808 ≤ x)) (low x) := sval_sg x
  generalize decide (9223372036854775808 ≤ x) = s at *
  have hD : (4503599627370496 : Nat) ≠ 0 := by decide
  generalize (4503599627370496 : Nat) = D at hh hD
  have h5 : (if D = 0 then none else some (Datum.infinity (s ^^ false))).map double.write = some (half x) := hh
  rw [if_neg hD, Bool.xor_false, Option.map_some] at h5
  injection h5 with h5
  have h6 : half x = double.word s inf := by rw [← h5]; show double.word s double.infRung = _; rw [d_inf]
  obtain ⟨w1, w2, w3⟩ := word_facts s inf (Nat.le_refl _)
  rw [h6, w3, hs, h]
  exact ⟨w2, w1, rfl⟩
theorem half_le (x : Nat) (hx : x < 18446744073709551616) (h1 : 9007199254740992 ≤ low x) (h2 : low x ≤ inf) : low (half x) ≤ inf ∧ half x < 18446744073709551616 ∧ (low (half x) = inf ↔ low x = inf) := by
  rcases Nat.eq_or_lt_of_le h2 with h | h
  · obtain ⟨a, b, _⟩ := half_inf x hx h
    exact ⟨by omega, b, ⟨fun _ => h, fun _ => a⟩⟩
  · obtain ⟨a, b, _⟩ := half_fin x hx h1 h
    exact ⟨by omega, b, ⟨fun k => absurd k (by omega), fun k => absurd k (by omega)⟩⟩
theorem no_clash (x y : Nat) (h : ¬ clash x y) (i1 : low x = inf) (i2 : low y = inf) : sval x = sval y := by
  by_cases e : sval x = sval y
  · exact e
  · exact absurd ((clash_iff x y).2 ⟨i1, i2, e⟩) h
/-- The middle of two words that are far enough from 0. -/
theorem middle (x y : Nat) (hx : x < 18446744073709551616) (hy : y < 18446744073709551616) (nx : low x ≤ inf) (ny : low y ≤ inf) (h1 : 9007199254740992 ≤ low x) (h2 : 9007199254740992 ≤ low y) (h : ¬ clash x y) (hs : sval x ≤ sval y) :
    key (sval x) ≤ (opK .add (half x) (half y) : Int) ∧ (opK .add (half x) (half y) : Int) ≤ key (sval y) := by
  obtain ⟨l1, k1, j1⟩ := half_le x hx h1 nx
  obtain ⟨l2, k2, j2⟩ := half_le y hy h2 ny
  have hc : low (half x) = inf → low (half y) = inf → sval (half x) = sval (half y) := by
    intro a b
    have a' := j1.1 a
    have b' := j2.1 b
    rw [(half_inf x hx a').2.2, (half_inf y hy b').2.2]
    exact no_clash x y h a' b'
  rw [(opK_T _ _ k1 k2 l1 l2 hc).2]
  have hT : sval x ≤ T (half x) (half y) ∧ T (half x) (half y) ≤ sval y := by
    unfold T
    by_cases i1 : low x = inf
    · obtain ⟨a, _, c⟩ := half_inf x hx i1
      rw [if_pos a, c]
      exact ⟨Int.le_refl _, hs⟩
    · rw [if_neg (fun k => i1 (j1.1 k))]
      by_cases i2 : low y = inf
      · obtain ⟨a, _, c⟩ := half_inf y hy i2
        rw [if_pos a, c]
        exact ⟨hs, Int.le_refl _⟩
      · rw [if_neg (fun k => i2 (j2.1 k))]
        have s1 := (half_fin x hx h1 (by omega)).2.2
        have s2 := (half_fin y hy h2 (by omega)).2.2
        have hv := (SV_le x y).2 hs
        exact RS_between nx ny (by omega) (by omega)
  exact ⟨key_le.2 hT.1, key_le.2 hT.2⟩
theorem near_half (s : Bool) (m : Nat) (hm : m < 9007199254740992) (D : Nat) (hD : D = 2 ^ 52) : low (double.nearest s (m * D) (-1074 + ((0 : Nat) : Int) + (-53))) ≤ 9007199254740993 := by
  rw [hD, nearest_scale, show -1074 + ((0 : Nat) : Int) + (-53) + ((52 : Nat) : Int) = -1075 by omega]
  unfold Format.nearest
  by_cases h0 : m = 0
  · rw [if_pos h0, (word_facts s 0 (Nat.zero_le _)).2.1]
    omega
  · rw [if_neg h0]
    have hL : m.log2 < 53 := (Nat.log2_lt h0).2 (by omega)
    simp only []
    have hf : (double.fractionBits : Int) = 52 := rfl
    have hl : max ((-1075 : Int) + (m.log2 : Int) - (double.fractionBits : Int)) double.leastPlace = -1074 := by
      rw [hf, d_lp]
      omega
    rw [hl, d_lp, d_bin, d_inf]
    have e1 : ((-1074 : Int) - -1074).toNat = 0 := by omega
    have e2 : ((-1075 : Int) - -1074).toNat = 0 := by omega
    have e3 : ((-1074 : Int) - -1075).toNat = 1 := by omega
    rw [e1, e2, e3, Nat.shiftLeft_zero, Nat.zero_mul, Nat.zero_add]
    have hk := cut_le .even s m 1
    generalize Toward.even.cut s m 1 = kept at *
    have hi : inf = 9218868437227405312 := rfl
    rw [(word_facts s (min kept inf) (Nat.min_le_right _ _)).2.1]
    omega
/-- A sum of halves is no NaN, unless both ends meet. -/
theorem middle_ok (x y : Nat) (hx : x < 18446744073709551616) (hy : y < 18446744073709551616) (nx : low x ≤ inf) (ny : low y ≤ inf) (h : ¬ clash x y) : opE .add (half x) (half y) = 0 := by
  have mx : ¬ nan x := (nan_le x).2 nx
  have my : ¬ nan y := (nan_le y).2 ny
  have k1 := half_lt x hx mx
  have k2 := half_lt y hy my
  have hl : ∀ z, z < 18446744073709551616 → low z ≤ inf → low (half z) ≤ inf ∧ (low (half z) = inf → low z = inf) := by
    intro z hz nz
    have mz : ¬ nan z := (nan_le z).2 nz
    rcases Nat.eq_or_lt_of_le nz with i | i
    · exact ⟨by rw [(half_inf z hz i).1]; exact Nat.le_refl _, fun _ => i⟩
    · obtain ⟨m, e, er, ev⟩ := read_num z hz i
      have hh := half_mul z hz mz
      have hf : floatBits .mul .f64 z 4602678819172646912 = ((double.read z).product (double.read 4602678819172646912)).map double.write := rfl
      rw [hf, read_half, er] at hh
      have hD : (4503599627370496 : Nat) = 2 ^ 52 := by decide
      generalize decide (9223372036854775808 ≤ z) = s at *
      have h5 : some (double.nearest (s ^^ false) (m * 4503599627370496) (-1074 + (e : Int) + (-53))) = some (half z) := hh
      injection h5 with h5
      by_cases he : 1 ≤ e
      · rw [half_num2 _ m e _ hD he] at h5
        have hM : R (m * 2 ^ (e - 1)) ≤ low z := R_le (by rw [← ev]; exact Nat.mul_le_mul_left _ (Nat.pow_le_pow_right (by decide) (by omega)))
        obtain ⟨w1, w2, w3⟩ := word_facts (s ^^ false) _ (R_inf (m * 2 ^ (e - 1)))
        rw [← h5, w2]
        exact ⟨R_inf _, fun k => absurd k (by omega)⟩
      · have he0 : e = 0 := by omega
        subst he0
        have hlow := near_half (s ^^ false) m (read_small z _ _ _ er) _ hD
        rw [← h5]
        show low (double.nearest _ _ _) ≤ inf ∧ _
        have hi : inf = 9218868437227405312 := rfl
        exact ⟨by omega, fun k => absurd k (by omega)⟩
  obtain ⟨l1, j1⟩ := hl x hx nx
  obtain ⟨l2, j2⟩ := hl y hy ny
  refine (opK_T _ _ k1 k2 l1 l2 fun a b => ?_).1
  have a' := j1 a
  have b' := j2 b
  rw [(half_inf x hx a').2.2, (half_inf y hy b').2.2]
  exact no_clash x y h a' b'
end Go.Proofs.Ytdedbbbgpjhjhaa.Inst
