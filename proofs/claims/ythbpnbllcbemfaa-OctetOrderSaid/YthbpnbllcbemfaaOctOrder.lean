/- Numbers and their bytes, the highest first: what Put writes is read so, and stands in order as the numbers do; bytes.Compare. -/
import Derived.Test.YthbpnbllcbemfaaOctAwake
import Derived.Lib.Bytealg
import Derived.Lib.BytesEntry
namespace Go.Proofs.Ythbpnbllcbemfaa.Oct
open Go.RowKit

theorem foldl_num (l : List UInt8) : ∀ n : Nat, l.foldl (fun n b => n * 256 + b.toNat) n = n * 256 ^ l.length + numL l := by
  induction l with
  | nil => intro n; simp [numL]
  | cons x l ih =>
    intro n
    have h0 := ih (0 * 256 + x.toNat)
    unfold numL
    rw [List.foldl_cons, List.foldl_cons, h0, ih, List.length_cons, Nat.pow_succ, Nat.add_mul, Nat.mul_assoc, Nat.mul_comm 256, Nat.zero_mul, Nat.zero_add]
    omega
theorem numL_cons (x : UInt8) (l : List UInt8) : numL (x :: l) = x.toNat * 256 ^ l.length + numL l := by
  have h := foldl_num l (0 * 256 + x.toNat)
  rw [Nat.zero_mul, Nat.zero_add] at h
  unfold numL at h ⊢
  rw [List.foldl_cons, Nat.zero_mul, Nat.zero_add]
  exact h
theorem cmp_num : ∀ a b : List UInt8, a.length = b.length → Lib.compareBytes a b = if numL a < numL b then -1 else if numL b < numL a then 1 else 0
  | [], [], _ => rfl
  | [], _ :: _, h => by cases h
  | _ :: _, [], h => by cases h
  | x :: a, y :: b, h => by
    have hl : a.length = b.length := Nat.succ.inj h
    have ih := cmp_num a b hl
    have ha := numL_lt a
    have hb := numL_lt b
    unfold Lib.compareBytes
    rw [numL_cons, numL_cons, ih, ← hl]
    rw [← hl] at hb
    generalize 256 ^ a.length = P at *
    rcases Nat.lt_trichotomy x.toNat y.toNat with e | e | e
    · have h1 : x < y := e
      have h2 : (x.toNat + 1) * P ≤ y.toNat * P := Nat.mul_le_mul_right _ e
      rw [Nat.add_mul] at h2
      rw [if_pos h1, if_pos (by omega)]
    · obtain rfl := UInt8.toNat_inj.1 e
      rw [if_neg (UInt8.lt_irrefl x), if_neg (UInt8.lt_irrefl x)]
      simp only [Nat.add_lt_add_iff_left]
    · have h1 : y < x := e
      have h3 : ¬ x < y := fun h => Nat.lt_asymm e h
      have h2 : (y.toNat + 1) * P ≤ x.toNat * P := Nat.mul_le_mul_right _ e
      rw [Nat.add_mul] at h2
      rw [if_neg h3, if_pos h1, if_neg (by omega), if_pos (by omega)]
theorem num_take (U k : Nat) (h : U < 2 ^ (8 * k)) (j : Nat) (hj : j ≤ k) : numL ((putL U k).take j) = U / 2 ^ (8 * (k - j)) := by
  induction j with
  | zero =>
    rw [Nat.sub_zero, Nat.div_eq_of_lt h]
    rfl
  | succ j ih =>
    rw [putL_snoc U k j hj, numL_snoc, ih (by omega), UInt8.toNat_ofNat']
    have e : 8 * (k - j) = 8 * (k - 1 - j) + 8 := by omega
    have e2 : k - (j + 1) = k - 1 - j := by omega
    rw [e, e2, Nat.pow_add, ← Nat.div_div_eq_div_mul]
    generalize U / 2 ^ (8 * (k - 1 - j)) = V
    show V / 256 * 256 + V % 256 % 256 = V
    omega
theorem put_num (U k : Nat) (h : U < 2 ^ (8 * k)) : numL (putL U k) = U := by
  have e := num_take U k h k (Nat.le_refl _)
  rw [List.take_of_length_le (by rw [putL_len]; exact Nat.le_refl _), Nat.sub_self, Nat.mul_zero, Nat.pow_zero, Nat.div_one] at e
  exact e

theorem row_bytes (w : World) (A : Option Addr) (n cap : Nat) (l : List UInt8) (h : RowB w A n l) : (Extern.Bytes.bytesOf (.slice A n cap)).run Try.prog w = .ok ⟨l.toArray⟩ w := by
  obtain ⟨hl, hr⟩ := h
  subst hl
  cases l with
  | nil =>
    cases A with
    | none => rfl
    | some a => rfl
  | cons x l =>
    obtain ⟨b, off, e, _, hx⟩ := hr (by simp)
    subst e
    have hlen : ((x :: l).map (fun u => (u.toNat : Int))).length = (x :: l).length := List.length_map _
    have hg := Lib.run_loadBytesX (P := Try.prog) w ((x :: l).map (fun u => (u.toNat : Int))) ⟨b, off, none⟩ .empty (fun j y hj => by
      have hj2 : j < (x :: l).length := by
        have := (List.getElem?_eq_some_iff.1 hj).1
        rw [hlen] at this
        exact this
      have e : (⟨b, off, none⟩ : Addr).add j = ⟨b, off + j, none⟩ := by unfold Addr.add; split <;> simp_all
      rw [e, hx j hj2]
      rw [List.getElem?_map, List.getElem?_eq_getElem hj2] at hj
      injection hj with hj
      rw [← hj])
    rw [hlen] at hg
    show (Extern.Bytes.loadBytes ⟨b, off, none⟩ (x :: l).length .empty).run Try.prog w = _
    rw [hg]
    have hid : Lib.bytesOf ((x :: l).map (fun u => (u.toNat : Int))) = x :: l := by
      unfold Lib.bytesOf
      rw [List.map_map]
      conv => rhs; rw [← List.map_id (x :: l)]
      refine List.map_congr_left fun u _ => ?_
      simp
    rw [hid]
    congr 2
    simp
theorem compare_row (w : World) (A B : Option Addr) (n m c d : Nat) (l k : List UInt8) (h : RowB w A n l) (h2 : RowB w B m k) :
    (Extern.BytealgCompare.compare #[.slice A n c, .slice B m d]).run Try.prog w = .ok (.int .i64 (Lib.compareBytes l k)) w := by
  change Sem.run Try.prog (do pure (goInt (Extern.BytealgCompare.cmp (← Extern.Bytes.bytesOf (.slice A n c)) (← Extern.Bytes.bytesOf (.slice B m d))))) w = _
  simp only [Sem.run_bind, Sem.run_pure, Result.andThen, row_bytes w A n c l h, row_bytes w B m d k h2]
  rw [Lib.cmp_eq]
  rfl
set_option maxRecDepth 100000 in
set_option maxHeartbeats 1000000 in
theorem compare_any (w : World) (A B : Option Addr) (n m c d : Nat) (l k : List UInt8) (h : RowB w A n l) (h2 : RowB w B m k) :
    Calls Try.prog 39 #[.slice A n c, .slice B m d] w fun e w' => e = .returned (.int .i64 (Lib.compareBytes l k)) ∧ w = w' := by
  go_enter Try.func39, Try.ntmps39
  go_wp2
  rw [run_callFunc_extern Try.func84 (by kernel_rfl) (by kernel_rfl) (by kernel_rfl) (e := Extern.BytealgCompare.compare) (by kernel_rfl), compare_row w A B n m c d l k h h2]
  simp only [Result.andThen]
  rw [Oper.upon_value]
  go_wp2
  go_ret
  exact ⟨rfl, rfl⟩

theorem order1_any (q s C B k : Nat) (r : ByteArray) (x : Int) (h1 : 1 ≤ k) (h8 : k ≤ 8) (hn : k ≤ r.size) (hv : numL (r.data.toList.take k) < 9223372036854775808) (hqs : q ≠ s) (hBs : B ≠ s) (hBq : B ≠ q) (w : World) (h : Looks w q s r) (hk : Has w C 3 #[.int .i64 k]) (hc : Has w B 3 #[.int .i64 x]) :
    Calls Try.prog 37 #[.pointer (some ⟨q, 0, none⟩), .pointer (some ⟨C, 0, none⟩), .pointer (some ⟨B, 0, none⟩)] w fun e w' => e = .returned (.tuple #[]) ∧ Looks w' q s (r.extract k r.size) ∧ Has w' B 3 #[.int .i64 (numL (r.data.toList.take k) : Nat)] ∧ Chg (fun k => k = s ∨ k = B) w w' := by
  have HN := Lib.hid (num_ok q s k r h1 h8 hn hv hqs w h)
  have ck := Has.at_ hk 0
  simp at ck
  clear hv hn h h1 h8
  go_enter Try.func37, Try.ntmps37
  go_wp2_with fail
  refine HN.out.mono ?_
  rintro e w1 ⟨rfl, hl, hg⟩
  have h1 := hc.over hg hBs
  have c1 := Has.at_ h1 0
  have f1 := Has.free h1 0
  simp at c1
  clear HN
  go_wp2
  go_end0
  exact ⟨rfl, ⟨Has.keep hl.eye (p := ⟨B, 0, none⟩) (fun k => hBq k.symm) _, Has.keep hl.sight (p := ⟨B, 0, none⟩) (fun k => hBs k.symm) _⟩, Has.put h1 0 _, Chg.setCell (S := fun k => k = s ∨ k = B) (hg.mono fun k hk => Or.inl hk) (p := ⟨B, 0, none⟩) (.inl (Or.inr rfl)) _⟩
theorem enterO (args : Array Value) (W : World) : (callFunc 37 args).run Try.prog W = .ok (.enter 37 args) W := by kernel_rfl
theorem empty_of (r : ByteArray) (h : r.size = 0) : r.toList.isEmpty = true := by
  rw [Go.ByteArray.toList_eq]
  have : r.data.toList = [] := List.length_eq_zero_iff.1 (by simpa using h)
  rw [this]
  rfl
theorem order_look (A : Option Addr) (cap C B k : Nat) (l : List UInt8) (x : Int) (h1 : 1 ≤ k) (h8 : k ≤ 8) (hv : numL l < 9223372036854775808) (w : World) (h : RowB w A k l) (hk : Has w C 3 #[.int .i64 k]) (hc : Has w B 3 #[.int .i64 x]) :
    Calls Try.prog 23 #[.slice A k cap, .func (.func 37) #[] #[.pointer (some ⟨C, 0, none⟩), .pointer (some ⟨B, 0, none⟩)]] w fun e w' => e = .returned (.int .i64 0) ∧ Has w' B 3 #[.int .i64 (numL l : Nat)] ∧ Below B w w' := by
  have hB := hc.bound
  have hl := h.1
  have ht : ((⟨l.toArray⟩ : ByteArray).data.toList.take k) = l := by
    show (l.toArray.toList.take k) = l
    rw [List.toList_toArray, List.take_of_length_le (by omega)]
  have hz : (⟨l.toArray⟩ : ByteArray).size = k := by show l.toArray.size = k; simpa using hl
  refine (read_look A k cap l 37 #[.pointer (some ⟨C, 0, none⟩), .pointer (some ⟨B, 0, none⟩)] w h enterO (fun k => k = B) (by omega) (by omega)
    (fun r b y w1 => r.size = 0 ∧ b = false ∧ y = 0 ∧ Has w1 B 3 #[.int .i64 (numL l : Nat)]) ?_).mono ?_
  · refine (order1_any (w.heap.size + 3) (w.heap.size + 1) C B k ⟨l.toArray⟩ x h1 h8 (by omega) (by rw [ht]; exact hv) (by omega) (by omega) (by omega) _ ⟨lookW_eye w _, lookW_sight w _⟩ (hk.over (Chg.of_below (lookW_below w _) (fun _ => False)) (fun k => k)) (hc.over (Chg.of_below (lookW_below w _) (fun _ => False)) (fun k => k))).mono ?_
    rintro e w1 ⟨rfl, hl, hh, hg⟩
    rw [ht] at hh
    exact ⟨rfl, _, false, 0, hl.sight, hg, by rw [ByteArray.size_extract]; omega, rfl, rfl, hh⟩
  · rintro e w' ⟨r, b, y, w1, ⟨hr, rfl, rfl, hh⟩, rfl, h1, h2⟩
    refine ⟨?_, hh.over h2 (by omega), look_below h1 h2 (by omega) (fun k hk => by omega)⟩
    unfold why
    rw [empty_of r hr]
    rfl
end Go.Proofs.Ythbpnbllcbemfaa.Oct
