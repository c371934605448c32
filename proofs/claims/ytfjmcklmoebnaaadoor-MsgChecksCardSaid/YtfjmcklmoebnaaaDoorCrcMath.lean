/- The sum of 64 bits as plain mathematics on natural numbers: one step, eight steps for a byte, a fold over bytes; that each is one to one, and that eight bytes can be folded in at once. No program in sight. -/
import Derived.Lib.Hide
namespace Go.Proofs.YtfjmcklmoebnaaaDoor.CrcM

def poly : Nat := 0xc96c5795d7870f42
/-- One step: to the right, and the polynomial if a 1 fell out. -/
def st (c : Nat) : Nat := if c % 2 = 1 then (c / 2) ^^^ poly else c / 2
def sts : Nat → Nat → Nat
  | 0, c => c
  | n + 1, c => sts n (st c)
def byte (c b : Nat) : Nat := sts 8 (c ^^^ b)
def fold (c : Nat) : List UInt8 → Nat
  | [] => c
  | b :: l => fold (byte c b.toNat) l
def top : Nat := 18446744073709551615
def more (s : Nat) (l : List UInt8) : Nat := top - fold (top - s) l

theorem sts_succ (n c : Nat) : sts (n + 1) c = st (sts n c) := by
  induction n generalizing c with
  | zero => rfl
  | succ n ih => show sts (n + 1) (st c) = _; rw [ih]; rfl
theorem sts_add (m n c : Nat) : sts (m + n) c = sts m (sts n c) := by
  induction n generalizing c with
  | zero => rfl
  | succ n ih => show sts (m + n) (st c) = _; rw [ih]; rfl

theorem poly_lt : poly < 2 ^ 64 := by decide
theorem st_lt {c : Nat} (h : c < 2 ^ 64) : st c < 2 ^ 64 := by
  unfold st
  split
  · exact Nat.xor_lt_two_pow (by omega) poly_lt
  · omega
theorem sts_lt {n c : Nat} (h : c < 2 ^ 64) : sts n c < 2 ^ 64 := by
  induction n generalizing c with
  | zero => exact h
  | succ n ih => exact ih (st_lt h)
theorem byte_lt {c b : Nat} (h : c < 2 ^ 64) (hb : b < 256) : byte c b < 2 ^ 64 := by
  unfold byte
  exact sts_lt (Nat.xor_lt_two_pow h (by omega))
theorem fold_lt {c : Nat} (h : c < 2 ^ 64) (l : List UInt8) : fold c l < 2 ^ 64 := by
  induction l generalizing c with
  | nil => exact h
  | cons b l ih => exact ih (byte_lt h b.toNat_lt)
theorem fold_append (c : Nat) (l m : List UInt8) : fold c (l ++ m) = fold (fold c l) m := by
  induction l generalizing c with
  | nil => rfl
  | cons b l ih => exact ih _
theorem top_le (s : Nat) : top - s < 2 ^ 64 := by unfold top; omega
theorem more_lt (s : Nat) (l : List UInt8) : more s l < 2 ^ 64 := top_le _
theorem more_append (s : Nat) (l m : List UInt8) : more s (l ++ m) = more (more s l) m := by
  unfold more
  rw [fold_append]
  have h := fold_lt (top_le s) l
  rw [show top - (top - fold (top - s) l) = fold (top - s) l from by unfold top at *; omega]

/-! ### one to one -/
theorem xor_cancel_right {a b p : Nat} (h : a ^^^ p = b ^^^ p) : a = b := by
  have h2 : (a ^^^ p) ^^^ p = (b ^^^ p) ^^^ p := by rw [h]
  simpa [Nat.xor_assoc] using h2
theorem xor_cancel_left {a b p : Nat} (h : p ^^^ a = p ^^^ b) : a = b := by
  rw [Nat.xor_comm p a, Nat.xor_comm p b] at h
  exact xor_cancel_right h
theorem bit63 {c : Nat} (h : c < 2 ^ 64) : (st c).testBit 63 = decide (c % 2 = 1) := by
  have hz : (c / 2).testBit 63 = false := Nat.testBit_lt_two_pow (by omega)
  unfold st
  split
  · next h1 => rw [Nat.testBit_xor, hz]; simp [h1, poly]; decide
  · next h1 => simp [hz, h1]
theorem st_inj {a b : Nat} (ha : a < 2 ^ 64) (hb : b < 2 ^ 64) (h : st a = st b) : a = b := by
  have h1 := bit63 ha
  have h2 := bit63 hb
  rw [h, h2] at h1
  have hp : (b % 2 = 1) ↔ (a % 2 = 1) := by simpa using h1
  unfold st at h
  by_cases hx : a % 2 = 1
  · rw [if_pos hx, if_pos (hp.2 hx)] at h
    have := xor_cancel_right h
    omega
  · rw [if_neg hx, if_neg (fun y => hx (hp.1 y))] at h
    omega
theorem sts_inj {n a b : Nat} (ha : a < 2 ^ 64) (hb : b < 2 ^ 64) (h : sts n a = sts n b) : a = b := by
  induction n generalizing a b with
  | zero => exact h
  | succ n ih => exact st_inj ha hb (ih (st_lt ha) (st_lt hb) h)
theorem byte_inj {a b x : Nat} (ha : a < 2 ^ 64) (hb : b < 2 ^ 64) (hx : x < 256) (h : byte a x = byte b x) : a = b :=
  xor_cancel_right (sts_inj (Nat.xor_lt_two_pow ha (by omega)) (Nat.xor_lt_two_pow hb (by omega)) h)
theorem fold_inj {a b : Nat} (ha : a < 2 ^ 64) (hb : b < 2 ^ 64) (l : List UInt8) (h : fold a l = fold b l) : a = b := by
  induction l generalizing a b with
  | nil => exact h
  | cons x l ih => exact byte_inj ha hb x.toNat_lt (ih (byte_lt ha x.toNat_lt) (byte_lt hb x.toNat_lt) h)

/-! ### linear -/
theorem st_xor (a b : Nat) : st (a ^^^ b) = st a ^^^ st b := by
  have hd : (a ^^^ b) / 2 = a / 2 ^^^ b / 2 := Nat.xor_div_two
  have hm : (a ^^^ b) % 2 = (a + b) % 2 := by
    have := @Nat.xor_mod_two_eq_one a b
    omega
  unfold st
  rw [hd, hm]
  by_cases h1 : a % 2 = 1 <;> by_cases h2 : b % 2 = 1
  · rw [if_pos h1, if_pos h2, if_neg (by omega)]
    rw [Nat.xor_assoc, Nat.xor_comm (b / 2) poly, ← Nat.xor_assoc poly, Nat.xor_self, Nat.zero_xor]
  · rw [if_pos h1, if_neg h2, if_pos (by omega)]
    rw [Nat.xor_assoc, Nat.xor_comm (b / 2) poly, ← Nat.xor_assoc]
  · rw [if_neg h1, if_pos h2, if_pos (by omega), Nat.xor_assoc]
  · rw [if_neg h1, if_neg h2, if_neg (by omega)]
theorem sts_xor (n a b : Nat) : sts n (a ^^^ b) = sts n a ^^^ sts n b := by
  induction n generalizing a b with
  | zero => rfl
  | succ n ih => show sts n (st (a ^^^ b)) = _; rw [st_xor, ih]; rfl
theorem st_two (b : Nat) : st (2 * b) = b := by
  unfold st
  rw [if_neg (by omega)]
  omega
theorem sts_two (n b : Nat) : sts n (2 ^ n * b) = b := by
  induction n generalizing b with
  | zero => simp [sts]
  | succ n ih =>
    show sts n (st (2 ^ (n + 1) * b)) = b
    rw [show 2 ^ (n + 1) * b = 2 * (2 ^ n * b) from by rw [Nat.pow_succ, Nat.mul_comm (2 ^ n) 2, Nat.mul_assoc], st_two, ih]

def le : List UInt8 → Nat
  | [] => 0
  | b :: l => b.toNat ^^^ (2 ^ 8 * le l)
theorem byte_le (s b m : Nat) : byte s b ^^^ m = sts 8 (s ^^^ (b ^^^ (2 ^ 8 * m))) := by
  have h : sts 8 (2 ^ 8 * m) = m := sts_two 8 m
  rw [← Nat.xor_assoc, sts_xor, h]
  rfl
theorem fold_cons (s : Nat) (b : UInt8) (l : List UInt8) : fold s (b :: l) = fold (byte s b.toNat) l := rfl
theorem le_cons' (b : UInt8) (l : List UInt8) : le (b :: l) = b.toNat ^^^ (2 ^ 8 * le l) := rfl
theorem sts_zero (x : Nat) : sts 0 x = x := rfl
theorem fold_le_nil (s : Nat) : fold s [] = sts (8 * 0) (s ^^^ le []) := by
  have h1 : fold s [] = s := rfl
  have h2 : le [] = 0 := rfl
  rw [h1, h2, Nat.mul_zero, sts_zero, Nat.xor_zero]
theorem step (s b n x : Nat) : sts (8 * n) (byte s b ^^^ x) = sts (8 * n + 8) (s ^^^ (b ^^^ (2 ^ 8 * x))) := by
  rw [byte_le, sts_add]
theorem fold_le (l : List UInt8) : ∀ (s : Nat), fold s l = sts (8 * l.length) (s ^^^ le l) := by
  induction l with
  | nil => exact fold_le_nil
  | cons b l ih =>
    intro s
    rw [fold_cons, ih, step, le_cons', List.length_cons, show 8 * (l.length + 1) = 8 * l.length + 8 from by omega]
theorem le_cons (b : UInt8) (l : List UInt8) : le (b :: l) = b.toNat + 256 * le l := by
  show b.toNat ^^^ (2 ^ 8 * le l) = _
  have h := Nat.two_pow_add_eq_or_of_lt (i := 8) b.toNat_lt (le l)
  have hx : (2 ^ 8 * le l) ^^^ b.toNat = 2 ^ 8 * le l ||| b.toNat := by
    apply Nat.eq_of_testBit_eq
    intro i
    rw [Nat.testBit_xor, Nat.testBit_or]
    by_cases hi : i < 8
    · rw [Nat.testBit_two_pow_mul]; simp [show ¬ 8 ≤ i from by omega]
    · rw [Nat.testBit_lt_two_pow (x := b.toNat) (Nat.lt_of_lt_of_le b.toNat_lt (Nat.pow_le_pow_right (by omega) (by omega)))]; simp
  rw [Nat.xor_comm, hx, ← h]
  omega
theorem le_lt (l : List UInt8) : le l < 2 ^ (8 * l.length) := by
  induction l with
  | nil => simp [le]
  | cons b l ih =>
    rw [le_cons, List.length_cons, show 8 * (l.length + 1) = 8 * l.length + 8 from by omega, Nat.pow_add]
    have := b.toNat_lt
    omega
theorem le_inj {l m : List UInt8} (hl : l.length = m.length) (h : le l = le m) : l = m := by
  induction l generalizing m with
  | nil => cases m with
    | nil => rfl
    | cons => simp at hl
  | cons b l ih => cases m with
    | nil => simp at hl
    | cons c m =>
      rw [le_cons, le_cons] at h
      have h1 := b.toNat_lt
      have h2 := c.toNat_lt
      have hbc : b = c := UInt8.toNat_inj.1 (by omega)
      rw [hbc, ih (by simpa using hl) (by omega)]

/-- Eight bytes in one place: the sums tell them. -/
theorem fold8_inj {s : Nat} (hs : s < 2 ^ 64) {l m : List UInt8} (hl : l.length = 8) (hm : m.length = 8) (h : fold s l = fold s m) : l = m := by
  rw [fold_le, fold_le, hl, hm] at h
  have hl' := le_lt l
  have hm' := le_lt m
  rw [hl] at hl'
  rw [hm] at hm'
  exact le_inj (by omega) (xor_cancel_left (sts_inj (Nat.xor_lt_two_pow hs hl') (Nat.xor_lt_two_pow hs hm') h))
theorem more_inj {s : Nat} {l m : List UInt8} (h : more s l = more s m) : fold (top - s) l = fold (top - s) m := by
  unfold more at h
  have h1 := fold_lt (top_le s) l
  have h2 := fold_lt (top_le s) m
  unfold top at *
  omega
/-- Texts that differ in eight neighbouring bytes alone have unlike sums. -/
theorem apart (s : Nat) (a x y z : List UInt8) (hx : x.length = 8) (hy : y.length = 8) (h : more s (a ++ x ++ z) = more s (a ++ y ++ z)) : x = y := by
  have h1 := more_inj h
  rw [fold_append, fold_append, fold_append, fold_append] at h1
  have ha := fold_lt (top_le s) a
  exact fold8_inj ha hx hy (fold_inj (fold_lt ha x) (fold_lt ha y) z h1)
/-- Texts that differ in one byte alone have unlike sums. -/
theorem told (s : Nat) (a z : List UInt8) (x y : UInt8) (h : more s (a ++ x :: z) = more s (a ++ y :: z)) : x = y := by
  have h1 := more_inj h
  rw [fold_append, fold_append] at h1
  have ha := fold_lt (top_le s) a
  have h2 : byte (fold (top - s) a) x.toNat = byte (fold (top - s) a) y.toNat :=
    fold_inj (byte_lt ha x.toNat_lt) (byte_lt ha y.toNat_lt) z h1
  have hx := x.toNat_lt
  have hy := y.toNat_lt
  exact UInt8.toNat_inj.1 (xor_cancel_left (sts_inj (Nat.xor_lt_two_pow ha (by omega)) (Nat.xor_lt_two_pow ha (by omega)) h2))
end Go.Proofs.YtfjmcklmoebnaaaDoor.CrcM
