/- Bytes held against one another: bytes.Compare, and numbers as their bytes. -/
import Derived.Test.YtlnlnpofdgnoeaaOctEye
import Derived.Test.YtlnlnpofdgnoeaaVcQ
import Derived.Lib.Bytealg
import Derived.Lib.BytesEntry
namespace Go.Proofs.Ytlnlnpofdgnoeaa.Vc
open Go.RowKit Go.Proofs.Ytlnlnpofdgnoeaa.Oct

theorem foldl_num (l : List UInt8) : ∀ n : Nat, l.foldl (fun n b => n * 256 + b.toNat) n = n * 256 ^ l.length + numL l := by
  induction l with
  | nil => intro n; simp [numL]
  | cons x l ih =>
    intro n
    have h0 := ih (0 * 256 + x.toNat)
    unfold numL
    rw [List.foldl_cons, List.foldl_cons, h0, ih, List.length_cons, Nat.pow_succ, Nat.add_mul, Nat.mul_assoc, Nat.mul_comm 256, Nat.zero_mul, Nat.zero_add]
    omega
theorem numL_cons (x : UInt8) (l : List UInt8) : numL (x :: l) = x.toNat * 256 ^ l.length + numL l := by
  have h := foldl_num l (0 * 256 + x.toNat)
  rw [Nat.zero_mul, Nat.zero_add] at h
  unfold numL at h ⊢
  rw [List.foldl_cons, Nat.zero_mul, Nat.zero_add]
  exact h
theorem cmp_num : ∀ a b : List UInt8, a.length = b.length → Lib.compareBytes a b = if numL a < numL b then -1 else if numL b < numL a then 1 else 0
  | [], [], _ => rfl
  | [], _ :: _, h => by cases h
  | _ :: _, [], h => by cases h
  | x :: a, y :: b, h => by
    have hl : a.length = b.length := Nat.succ.inj h
    have ih := cmp_num a b hl
    have ha := numL_lt a
    have hb := numL_lt b
    unfold Lib.compareBytes
    rw [numL_cons, numL_cons, ih, ← hl]
    rw [← hl] at hb
    generalize 256 ^ a.length = P at *
    rcases Nat.lt_trichotomy x.toNat y.toNat with e | e | e
    · have h1 : x < y := e
      have h2 : (x.toNat + 1) * P ≤ y.toNat * P := Nat.mul_le_mul_right _ e
      rw [Nat.add_mul] at h2
      rw [if_pos h1, if_pos (by omega)]
    · obtain rfl := UInt8.toNat_inj.1 e
      rw [if_neg (UInt8.lt_irrefl x), if_neg (UInt8.lt_irrefl x)]
      simp only [Nat.add_lt_add_iff_left]
    · have h1 : y < x := e
      have h3 : ¬ x < y := fun h => Nat.lt_asymm e h
      have h2 : (y.toNat + 1) * P ≤ x.toNat * P := Nat.mul_le_mul_right _ e
      rw [Nat.add_mul] at h2
      rw [if_neg h3, if_pos h1, if_neg (by omega), if_pos (by omega)]
theorem num_take (U k : Nat) (h : U < 2 ^ (8 * k)) (j : Nat) (hj : j ≤ k) : numL ((putL U k).take j) = U / 2 ^ (8 * (k - j)) := by
  induction j with
  | zero =>
    rw [Nat.sub_zero, Nat.div_eq_of_lt h]
    rfl
  | succ j ih =>
    rw [putL_snoc U k j hj, numL_snoc, ih (by omega), UInt8.toNat_ofNat']
    have e : 8 * (k - j) = 8 * (k - 1 - j) + 8 := by omega
    have e2 : k - (j + 1) = k - 1 - j := by omega
    rw [e, e2, Nat.pow_add, ← Nat.div_div_eq_div_mul]
    generalize U / 2 ^ (8 * (k - 1 - j)) = V
    show V / 256 * 256 + V % 256 % 256 = V
    omega
theorem putL_num (U k : Nat) (h : U < 2 ^ (8 * k)) : numL (putL U k) = U := by
  have e := num_take U k h k (Nat.le_refl _)
  rw [List.take_of_length_le (by rw [putL_len]; exact Nat.le_refl _), Nat.sub_self, Nat.mul_zero, Nat.pow_zero, Nat.div_one] at e
  exact e

theorem row_bytes (w : World) (A : Option Addr) (n cap : Nat) (l : List UInt8) (h : RowB w A n l) : (Extern.Bytes.bytesOf (.slice A n cap)).run Try.prog w = .ok ⟨l.toArray⟩ w := by
  obtain ⟨hl, hr⟩ := h
  subst hl
  cases l with
  | nil =>
    cases A with
    | none => rfl
    | some a => rfl
  | cons x l =>
    obtain ⟨b, off, e, _, hx⟩ := hr (by simp)
    subst e
    have hlen : ((x :: l).map (fun u => (u.toNat : Int))).length = (x :: l).length := List.length_map _
    have hg := Lib.run_loadBytesX (P := Try.prog) w ((x :: l).map (fun u => (u.toNat : Int))) ⟨b, off, none⟩ .empty (fun j y hj => by
      have hj2 : j < (x :: l).length := by
        have := (List.getElem?_eq_some_iff.1 hj).1
        rw [hlen] at this
        exact this
      have e : (⟨b, off, none⟩ : Addr).add j = ⟨b, off + j, none⟩ := by unfold Addr.add; split <;> simp_all
      rw [e, hx j hj2]
      rw [List.getElem?_map, List.getElem?_eq_getElem hj2] at hj
      injection hj with hj
      rw [← hj])
    rw [hlen] at hg
    show (Extern.Bytes.loadBytes ⟨b, off, none⟩ (x :: l).length .empty).run Try.prog w = _
    rw [hg]
    have hid : Lib.bytesOf ((x :: l).map (fun u => (u.toNat : Int))) = x :: l := by
      unfold Lib.bytesOf
      rw [List.map_map]
      conv => rhs; rw [← List.map_id (x :: l)]
      refine List.map_congr_left fun u _ => ?_
      simp
    rw [hid]
    congr 2
    simp
theorem compare_row (w : World) (A B : Option Addr) (n m c d : Nat) (l k : List UInt8) (h : RowB w A n l) (h2 : RowB w B m k) :
    (Extern.BytealgCompare.compare #[.slice A n c, .slice B m d]).run Try.prog w = .ok (.int .i64 (Lib.compareBytes l k)) w := by
  change Sem.run Try.prog (do pure (goInt (Extern.BytealgCompare.cmp (← Extern.Bytes.bytesOf (.slice A n c)) (← Extern.Bytes.bytesOf (.slice B m d))))) w = _
  simp only [Sem.run_bind, Sem.run_pure, Result.andThen, row_bytes w A n c l h, row_bytes w B m d k h2]
  rw [Lib.cmp_eq]
  rfl
set_option maxRecDepth 100000 in
set_option maxHeartbeats 1000000 in
theorem compare_any (w : World) (A B : Option Addr) (n m c d : Nat) (l k : List UInt8) (h : RowB w A n l) (h2 : RowB w B m k) :
    Calls Try.prog 43 #[.slice A n c, .slice B m d] w fun e w' => e = .returned (.int .i64 (Lib.compareBytes l k)) ∧ w = w' := by
  go_enter Try.func43, Try.ntmps43
  go_wp2
  rw [run_callFunc_extern Try.func56 (by kernel_rfl) (by kernel_rfl) (by kernel_rfl) (e := Extern.BytealgCompare.compare) (by kernel_rfl), compare_row w A B n m c d l k h h2]
  simp only [Result.andThen]
  rw [Oper.upon_value]
  go_wp2
  go_ret
  exact ⟨rfl, rfl⟩


theorem numL_app (l r : List UInt8) : numL (l ++ r) = numL l * 256 ^ r.length + numL r := by
  have h := foldl_num r (numL l)
  unfold numL at h ⊢
  rw [List.foldl_append]
  exact h
theorem u64_nat (A : Nat) (h : A < 9223372036854775808) : (IntKind.u64.wrap (A : Int)).toNat = A := by
  rw [IntKind.wrap_u64, Int.emod_eq_of_lt (by omega) (by omega)]
  rfl
theorem numB_num (A k : Nat) (h : A < 9223372036854775808) (hk : A < 2 ^ (8 * k)) : numL (numB (A : Int) k) = A := by
  unfold numB
  rw [u64_nat A h]
  exact putL_num A k hk
theorem stB_num (t w : Nat) (h : t < 281474976710656) (hw : w < 256) : numL (stB (t : Int) (w : Int)) = t * 256 + w := by
  unfold stB
  rw [numL_app, numB_len, numB_num t 6 (by omega) (by simpa using h), numB_num w 1 (by omega) (by simpa using hw)]
theorem stB_len (t w : Int) : (stB t w).length = 7 := by
  unfold stB
  rw [List.length_append, numB_len, numB_len]
/-- Stamps stand as their bytes do. -/
theorem stB_cmp (a b c d : Nat) (ha : a < 281474976710656) (hb : b < 256) (hc : c < 281474976710656) (hd : d < 256) :
    decide (Lib.compareBytes (stB (a : Int) (b : Int)) (stB (c : Int) (d : Int)) < 0) = lessB (a : Int) (b : Int) (c : Int) (d : Int) := by
  rw [cmp_num _ _ (by rw [stB_len, stB_len]), stB_num a b ha hb, stB_num c d hc hd, Bool.eq_iff_iff, decide_eq_true_eq, lessB_iff]
  split
  · constructor
    · intro _
      omega
    · intro _
      decide
  · split
    · constructor
      · intro h
        exact absurd h (by decide)
      · intro h
        omega
    · constructor
      · intro h
        exact absurd h (by decide)
      · intro h
        omega
end Go.Proofs.Ytlnlnpofdgnoeaa.Vc
