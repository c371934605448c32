/- How texts stand in order, on: the document's Beyond, Less, Begins; After. -/
import Derived.Test.YthbpnbllcbemfaaOctTexts2
namespace Go.Proofs.Ythbpnbllcbemfaa.Oct
open Go.RowKit

theorem test_255n (b : UInt8) (h : b = 255) : ((b.toNat : Int) != 255) = false := by rw [h]; rfl
theorem test_notn (b : UInt8) (h : b ≠ 255) : ((b.toNat : Int) != 255) = true := by unfold bne; rw [test_not b h]; rfl
theorem rbeyond_none (s : ByteArray) (hm : s.size ≤ 1048576) (hn : nb s s.size = -1) (w : World) :
    Calls Try.prog 41 #[.string s] w fun e w' => e = .returned (.tuple #[.string ⟨#[]⟩, .bool false]) ∧ w = w' := by
  have hml : s.size ≤ maxLen := by unfold maxLen; omega
  have HN := Lib.hid hn
  clear hn
  go_enter Try.func41, Try.ntmps41
  go_wp2
  go_loop [4, 8] (fun n z => ∃ j : Nat, j ≤ s.size ∧ z = .int .i64 j ∧ n = .int .i64 (nb s j)) (fun _ z => s.size - (intOf z).toNat)
  case atStart => exact ⟨0, Nat.zero_le _, rfl, rfl⟩
  case round =>
    obtain ⟨j, hj, rfl, rfl⟩ := hrel
    by_cases hlt : j < s.size
    · by_cases e : s[j] = 255
      · have t1 := test_255 _ e
        have hb := nb_255 s j hlt e
        have HB := Lib.hid hb
        clear hb e
        go_wp2
        go_round
        case rel => exact ⟨j + 1, by omega, by go_num, by rw [HB.out]⟩
        case measure => simp [intOf]; omega
      · have t1 := test_not _ e
        have hb := nb_not s j hlt e
        have HB := Lib.hid hb
        clear hb e
        go_wp2
        go_round
        case rel => exact ⟨j + 1, by omega, by go_num, by rw [HB.out]⟩
        case measure => simp [intOf]; omega
    · obtain rfl : j = s.size := by omega
      rw [HN.out]
      go_wp2
      go_ret2
      exact ⟨rfl, rfl⟩
set_option maxRecDepth 100000 in
set_option maxHeartbeats 1000000 in
theorem rbeyond_some (s : ByteArray) (hm : s.size ≤ 1048576) (q : Nat) (hq : q < s.size) (hn : nb s s.size = (q : Int)) (w : World) :
    Calls Try.prog 41 #[.string s] w fun e w' => e = .returned (.tuple #[.string (bey s q hq), .bool true]) ∧ Below w.heap.size w w' := by
  have hml : s.size ≤ maxLen := by unfold maxLen; omega
  have HN := Lib.hid hn
  clear hn
  go_enter Try.func41, Try.ntmps41
  go_wp2
  go_loop [4, 8] (fun n z => ∃ j : Nat, j ≤ s.size ∧ z = .int .i64 j ∧ n = .int .i64 (nb s j)) (fun _ z => s.size - (intOf z).toNat)
  case atStart => exact ⟨0, Nat.zero_le _, rfl, rfl⟩
  case round =>
    obtain ⟨j, hj, rfl, rfl⟩ := hrel
    by_cases hlt : j < s.size
    · by_cases e : s[j] = 255
      · have t1 := test_255 _ e
        have hb := nb_255 s j hlt e
        have HB := Lib.hid hb
        clear hb e
        go_wp2
        go_round
        case rel => exact ⟨j + 1, by omega, by go_num, by rw [HB.out]⟩
        case measure => simp [intOf]; omega
      · have t1 := test_not _ e
        have hb := nb_not s j hlt e
        have HB := Lib.hid hb
        clear hb e
        go_wp2
        go_round
        case rel => exact ⟨j + 1, by omega, by go_num, by rw [HB.out]⟩
        case measure => simp [intOf]; omega
    · obtain rfl : j = s.size := by omega
      rw [HN.out]
      have kc := conv_one w (((s[q].toNat : Int) + 1) % 256)
      have h2 := extract_size s q hq
      have hle : q ≤ s.size := by omega
      have hn1 : (strOfNums [((s[q].toNat : Int) + 1) % 256]).size = 1 := by simp [strOfNums_size]
      go_wp2_with fail
      go_region
      all_goals (go_wp2; go_ret2; exact ⟨rfl, ((Below.refl _ w).alloc (Nat.le_refl _) _).drew⟩)
theorem after_any (s : ByteArray) (hm : s.size ≤ 1048576) (w : World) :
    Calls Try.prog 44 #[.string s] w fun e w' => e = .returned (.string (s ++ ⟨#[0]⟩)) ∧ w = w' := by
  go_enter Try.func44, Try.ntmps44
  go_wp2
  go_ret
  exact ⟨rfl, rfl⟩

/-- A truth value is answered, and it is so just if p. -/
def Says (e : Ending) (p : Prop) : Prop := ∃ c : Bool, e = .returned (.bool c) ∧ (c = true ↔ p)
theorem Says.yes {p : Prop} (h : p) : Says (.returned (.bool true)) p := ⟨true, rfl, ⟨fun _ => h, fun _ => rfl⟩⟩
theorem Says.no {p : Prop} (h : ¬ p) : Says (.returned (.bool false)) p := ⟨false, rfl, ⟨fun k => (by cases k), fun k => absurd k h⟩⟩
theorem beq_bytes (x y : ByteArray) : (x.toList == y.toList) = true ↔ x = y := by
  rw [Go.ByteArray.toList_eq, Go.ByteArray.toList_eq, beq_iff_eq]
  constructor
  · intro h
    exact ByteArray.ext (Array.toList_inj.1 h)
  · rintro rfl
    rfl
/-- a stands ahead of b. -/
def Ahead (a b : ByteArray) : Prop := ∃ k, Com a b k ∧ ∃ hb : k < b.size, (k = a.size ∨ ∃ ha : k < a.size, a[k].toNat < b[k].toNat)
theorem Ahead.here {a b : ByteArray} {k : Nat} (h : Com a b k) (hb : k < b.size) (ha : k < a.size) (e : a[k].toNat < b[k].toNat) : Ahead a b := ⟨k, h, hb, .inr ⟨ha, e⟩⟩
theorem Ahead.not_end {a b : ByteArray} (h : Com a b b.size) : ¬ Ahead a b := by
  rintro ⟨k, hc, hb, e | ⟨ha, e⟩⟩
  · have := h.la; omega
  · rw [h.same k ha hb hb] at e
    omega
theorem Ahead.not_above {a b : ByteArray} {k : Nat} (h : Com a b k) (hb : k < b.size) (ha : k < a.size) (e : b[k].toNat < a[k].toNat) : ¬ Ahead a b := by
  rintro ⟨j, hc, jb, h1⟩
  rcases Nat.lt_trichotomy j k with h2 | h2 | h2
  · rcases h1 with h1 | ⟨ja, h1⟩
    · omega
    · rw [h.same j ja jb h2] at h1
      omega
  · subst h2
    rcases h1 with h1 | ⟨ja, h1⟩ <;> omega
  · rw [hc.same k ha hb h2] at e
    omega
set_option maxRecDepth 100000 in
theorem less_any (a b : ByteArray) (ha : a.size ≤ 1048576) (hb : b.size ≤ 1048576) (w : World) :
    Calls Try.prog 45 #[.string a, .string b] w fun e w' => Says e (Ahead a b) ∧ Below w.heap.size w w' := by
  have hma : a.size ≤ maxLen := by unfold maxLen; omega
  have hmb : b.size ≤ maxLen := by unfold maxLen; omega
  go_enter Try.func45, Try.ntmps45
  go_wp2_with fail
  go_loopw [8] (fun z wr => ∃ j : Nat, j ≤ b.size ∧ z = .int .i64 j ∧ Com a b j ∧ Below w.heap.size w wr) (fun z _ => b.size - (intOf z).toNat)
  case atStart => exact ⟨0, Nat.zero_le _, rfl, com_zero a b, Below.refl _ _⟩
  case round =>
    obtain ⟨j, hj, rfl, hc, hbw⟩ := hrel
    have HC := Lib.hid hc
    clear hc
    by_cases hlt : j < b.size
    · by_cases hja : j < a.size
      · have hd : decide (a.size ≤ j) = false := decide_eq_false (by omega)
        rcases Nat.lt_trichotomy a[j].toNat b[j].toNat with e | e | e
        · have t1 : decide ((a[j].toNat : Int) < (b[j].toNat : Int)) = true := decide_eq_true (by omega)
          have t2 : decide (a[j].toNat < b[j].toNat) = true := decide_eq_true (by omega)
          have HE := Lib.hid e
          clear e
          go_wp2_with fail
          go_quiet (fail)
          go_wp2
          go_ret
          exact ⟨Says.yes (Ahead.here HC.out hlt hja HE.out), below_drewN hbw _⟩
        · have t1 : decide (a[j].toNat < b[j].toNat) = false := decide_eq_false (by omega)
          have t2 : decide (b[j].toNat < a[j].toNat) = false := decide_eq_false (by omega)
          have HE := Lib.hid e
          clear e
          go_wp2_with fail
          go_quiet (fail)
          go_wp2_with fail
          go_quiet (fail)
          go_wp2
          go_roundw
          case rel => exact ⟨j + 1, by omega, by go_num, com_next HC.out hja hlt (UInt8.toNat_inj.1 HE.out), below_drewN hbw _⟩
          case measure => simp [intOf]; omega
        · have t1 : decide (a[j].toNat < b[j].toNat) = false := decide_eq_false (by omega)
          have t2 : decide (b[j].toNat < a[j].toNat) = true := decide_eq_true (by omega)
          have HE := Lib.hid e
          clear e
          go_wp2_with fail
          go_quiet (fail)
          go_wp2_with fail
          go_quiet (fail)
          go_wp2
          go_ret
          exact ⟨Says.no (Ahead.not_above HC.out hlt hja HE.out), below_drewN (below_drewN hbw _) _⟩
      · have hd : decide (a.size ≤ j) = true := decide_eq_true (by omega)
        go_wp2_with fail
        go_quiet (fail)
        go_wp2
        go_ret
        exact ⟨Says.yes ⟨j, HC.out, hlt, .inl (by have := HC.out.la; omega)⟩, below_drewN hbw _⟩
    · obtain rfl : j = b.size := by omega
      go_wp2
      go_ret
      exact ⟨Says.no (Ahead.not_end HC.out), hbw⟩
theorem com_extract (a b : ByteArray) (h : b.size ≤ a.size) : a.extract 0 b.size = b ↔ Com a b b.size := by
  constructor
  · intro e
    refine ⟨h, Nat.le_refl _, fun i h1 h2 _ => ?_⟩
    have : (a.extract 0 b.size)[i]'(by rw [e]; exact h2) = b[i] := by simp only [e]
    rw [← this, ByteArray.getElem_extract]
    simp
  · intro hc
    refine ByteArray.ext_getElem (by rw [ByteArray.size_extract]; omega) fun i h1 h2 => ?_
    rw [ByteArray.getElem_extract]
    simpa using hc.same i (by omega) h2 h2
theorem begins_any (a b : ByteArray) (ha : a.size ≤ 1048576) (hb : b.size ≤ 1048576) (w : World) :
    Calls Try.prog 46 #[.string a, .string b] w fun e w' => Says e (Com a b b.size) ∧ w = w' := by
  have hma : a.size ≤ maxLen := by unfold maxLen; omega
  have hmb : b.size ≤ maxLen := by unfold maxLen; omega
  by_cases h : b.size ≤ a.size
  · have hc := com_extract a b h
    have HC := Lib.hid hc
    clear hc
    go_enter Try.func46, Try.ntmps46
    go_wp2
    go_ret
    exact ⟨⟨_, rfl, (beq_bytes _ _).trans HC.out⟩, rfl⟩
  · go_enter Try.func46, Try.ntmps46
    go_wp2
    go_ret
    exact ⟨Says.no (fun e => absurd e.la h), rfl⟩
end Go.Proofs.Ythbpnbllcbemfaa.Oct
