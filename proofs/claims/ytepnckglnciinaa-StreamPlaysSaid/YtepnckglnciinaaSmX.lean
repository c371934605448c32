import Derived.Test.YtepnckglnciinaaSmW

/- Parts: how large they are, what they are joined; parts that come to a stage. -/
namespace Go.Proofs.Ytepnckglnciinaa.Sm
open Go.RowKit Go.Proofs.Ytepnckglnciinaa.Mem Go.Proofs.Ytepnckglnciinaa.Oct
set_option linter.unusedVariables false

theorem ex_list (s : ByteArray) (a b : Nat) : (s.extract a b).data.toList = (s.data.toList.drop a).take (b - a) := by
  rw [ByteArray.data_extract, Array.toList_extract]
theorem size_list (s : ByteArray) : s.data.toList.length = s.size := rfl
theorem cut_joinN : ∀ (n : Nat) (s : ByteArray), s.size ≤ n → (cutL s).flatMap (fun p => p.data.toList) = s.data.toList := by
  intro n
  induction n with
  | zero =>
    intro s h
    have h0 : s.size = 0 := by omega
    rw [cutL_nil h0]
    have : s.data.toList = [] := List.length_eq_zero_iff.1 h0
    rw [this]
    rfl
  | succ n ih =>
    intro s h
    by_cases h0 : s.size = 0
    · rw [cutL_nil h0]
      have : s.data.toList = [] := List.length_eq_zero_iff.1 h0
      rw [this]
      rfl
    · have e : (s.extract (min s.size 512) s.size).size = s.size - min s.size 512 := by rw [ByteArray.size_extract]; omega
      rw [cutL_cons h0, List.flatMap_cons, ih _ (by rw [e]; omega), ex_list, ex_list, List.drop_zero, Nat.sub_zero]
      have h2 : (s.data.toList.drop (min s.size 512)).take (s.size - min s.size 512) = s.data.toList.drop (min s.size 512) := List.take_of_length_le (by rw [List.length_drop, size_list]; exact Nat.le_refl _)
      rw [h2, List.take_append_drop]
theorem cut_join (s : ByteArray) : (cutL s).flatMap (fun p => p.data.toList) = s.data.toList := cut_joinN _ s (Nat.le_refl _)
theorem cut_sizesN : ∀ (n : Nat) (s : ByteArray), s.size ≤ n → ∀ i x, (cutL s)[i]? = some x → 1 ≤ x.size ∧ x.size ≤ 512 ∧ (i + 1 < (cutL s).length → x.size = 512) := by
  intro n
  induction n with
  | zero =>
    intro s h i x hx
    rw [cutL_nil (by omega)] at hx
    simp at hx
  | succ n ih =>
    intro s h i x hx
    by_cases h0 : s.size = 0
    · rw [cutL_nil h0] at hx
      simp at hx
    · have e : (s.extract (min s.size 512) s.size).size = s.size - min s.size 512 := by rw [ByteArray.size_extract]; omega
      have e0 : (s.extract 0 (min s.size 512)).size = min s.size 512 := by rw [ByteArray.size_extract]; omega
      rw [cutL_cons h0] at hx ⊢
      cases i with
      | zero =>
        simp at hx
        subst hx
        refine ⟨by rw [e0]; omega, by rw [e0]; omega, fun hl => ?_⟩
        rw [List.length_cons] at hl
        by_cases h5 : s.size ≤ 512
        · rw [cutL_nil (by rw [e]; omega)] at hl
          simp at hl
        · rw [e0]; omega
      | succ i =>
        rw [List.getElem?_cons_succ] at hx
        obtain ⟨h1, h2, h3⟩ := ih _ (by rw [e]; omega) i x hx
        refine ⟨h1, h2, fun hl => h3 ?_⟩
        rw [List.length_cons] at hl
        omega
theorem cut_sizes (s : ByteArray) : ∀ i x, (cutL s)[i]? = some x → 1 ≤ x.size ∧ x.size ≤ 512 ∧ (i + 1 < (cutL s).length → x.size = 512) := cut_sizesN _ s (Nat.le_refl _)
set_option maxRecDepth 100000 in
theorem count_step {L z : Nat} (h : 512 < z) (k : L * 512 < z - min z 512 + 512) : (L + 1) * 512 < z + 512 := by
  have e : min z 512 = 512 := Nat.min_eq_right (Nat.le_of_lt h)
  rw [e] at k
  rw [Nat.add_mul]
  omega
theorem cut_countN : ∀ (n : Nat) (s : ByteArray), s.size ≤ n → (cutL s).length * 512 < s.size + 512 := by
  intro n
  induction n with
  | zero =>
    intro s h
    rw [cutL_nil (by omega)]
    simp
  | succ n ih =>
    intro s h
    by_cases h0 : s.size = 0
    · rw [cutL_nil h0]
      simp
    · have e : (s.extract (min s.size 512) s.size).size = s.size - min s.size 512 := by rw [ByteArray.size_extract]; omega
      rw [cutL_cons h0, List.length_cons]
      by_cases h5 : s.size ≤ 512
      · rw [cutL_nil (by rw [e]; omega), List.length_nil]
        omega
      · have := ih (s.extract (min s.size 512) s.size) (by rw [e]; omega)
        rw [e] at this
        exact count_step (by omega) this
theorem cut_count (s : ByteArray) : (cutL s).length * 512 < s.size + 512 := cut_countN _ s (Nat.le_refl _)
theorem cut_some {s : ByteArray} (h : 0 < s.size) : 1 ≤ (cutL s).length := by
  rw [cutL_cons (by omega), List.length_cons]
  omega
theorem may_part {s : ByteArray} {i : Nat} {x : ByteArray} (h : (cutL s)[i]? = some x) : mayB (cutL s).length i x = true := by
  obtain ⟨h1, h2, h3⟩ := cut_sizes s i x h
  have hi : i < (cutL s).length := (List.getElem?_eq_some_iff.1 h).1
  unfold mayB isB
  have a1 : decide ((0 : Int) ≤ (i : Int)) = true := decide_eq_true (by omega)
  have a2 : decide ((i : Int) < ((cutL s).length : Int)) = true := decide_eq_true (by omega)
  have a3 : decide ((if (i : Int) = ((cutL s).length : Int) - 1 then (1 : Int) else 512) ≤ x.size) = true := decide_eq_true (by
    by_cases hl : i + 1 < (cutL s).length
    · rw [if_neg (by omega), h3 hl]; decide
    · rw [if_pos (by omega)]; omega)
  have a4 : decide ((x.size : Int) ≤ 512) = true := decide_eq_true (by omega)
  rw [a1, a2, a3, a4]
  rfl
/-- What has come are parts of these. -/
def PartM (P : List ByteArray) (m : Int → Option ByteArray) : Prop := ∀ z x, m z = some x → ∃ i : Nat, z = i ∧ P[i]? = some x
theorem add_part {P : List ByteArray} {T i : Nat} {x : ByteArray} {m : Int → Option ByteArray} (hp : P[i]? = some x) (hy : mayB T i x = true) (hm : PartM P m) :
    ∃ b m', addV T m i x = (b, 0, m') ∧ PartM P m' ∧ (m' (i : Int)).isSome = true ∧ ∀ z, (m z).isSome = true → (m' z).isSome = true := by
  cases h : m (i : Int) with
  | none =>
    refine ⟨true, updM m i x, add_new hy h, fun z y hz => ?_, ?_, fun z hz => ?_⟩
    · unfold updM at hz
      by_cases hzi : z = (i : Int)
      · rw [if_pos hzi] at hz
        injection hz with hz
        exact ⟨i, hzi, by rw [hp, hz]⟩
      · rw [if_neg hzi] at hz
        exact hm z y hz
    · unfold updM
      rw [if_pos rfl]
      rfl
    · unfold updM
      by_cases hzi : z = (i : Int)
      · rw [if_pos hzi]; rfl
      · rw [if_neg hzi]; exact hz
  | some y =>
    obtain ⟨j, hj, hy2⟩ := hm _ _ h
    have e : j = i := by omega
    rw [e, hp] at hy2
    injection hy2 with e2
    subst e2
    exact ⟨false, m, add_old hy h rfl, hm, by rw [h]; rfl, fun z hz => hz⟩
theorem flat_range {α β : Type} (P : List α) (f : Nat → List β) (g : α → List β) (h : ∀ i x, P[i]? = some x → f i = g x) : (List.range P.length).flatMap f = P.flatMap g := by
  have e : (List.range P.length).map f = P.map g := by
    refine List.ext_getElem? fun i => ?_
    rw [List.getElem?_map, List.getElem?_map]
    by_cases hi : i < P.length
    · rw [List.getElem?_range hi, List.getElem?_eq_getElem hi]
      exact congrArg some (h i _ (List.getElem?_eq_getElem hi))
    · rw [List.getElem?_eq_none (by simpa using hi), List.getElem?_eq_none (by omega)]
      rfl
  rw [List.flatMap_def, List.flatMap_def, e]
theorem all_parts {P : List ByteArray} {m : Int → Option ByteArray} (hm : PartM P m) (ha : ∀ i : Nat, i < P.length → (m i).isSome = true) : allB m P.length = P.flatMap (fun p => p.data.toList) := by
  unfold allB
  refine flat_range P _ _ fun i x hx => ?_
  have hi : i < P.length := (List.getElem?_eq_some_iff.1 hx).1
  have hs := ha i hi
  unfold partB
  cases h : m (i : Int) with
  | none => rw [h] at hs; cases hs
  | some y =>
    obtain ⟨j, hj, hy⟩ := hm _ _ h
    have e : j = i := by omega
    rw [e, hx] at hy
    injection hy with e2
    rw [e2]
    rfl
theorem cnt_full {T : Nat} {m : Int → Option ByteArray} (ha : ∀ i : Nat, i < T → (m i).isSome = true) : T ≤ cntM T m := by
  unfold cntM
  rw [List.filter_eq_self.2 (fun i hi => ha i (List.mem_range.1 hi)), List.length_range]
  exact Nat.le_refl _
theorem part_small {s : ByteArray} {m : Int → Option ByteArray} (hm : PartM (cutL s) m) : ∀ z x, m z = some x → x.size ≤ 512 := fun z x h => by
  obtain ⟨i, _, hx⟩ := hm z x h
  exact (cut_sizes s i x hx).2.1
end Go.Proofs.Ytepnckglnciinaa.Sm
/- The document's order of texts, its keys and values. -/
namespace Go.Proofs.Ytepnckglnciinaa.Sm
open Go.RowKit Go.Proofs.Ytepnckglnciinaa.Mem
set_option linter.unusedVariables false

def lessT (a b : ByteArray) (j : Nat) : Bool := Op.bytesLess (a.data.toList.drop j) (b.data.toList.drop j)
theorem lessT_zero (a b : ByteArray) : lessT a b 0 = Op.bytesLess a.toList b.toList := by
  unfold lessT
  rw [ByteArray.toList_eq, ByteArray.toList_eq, List.drop_zero, List.drop_zero]
theorem drop_byte (a : ByteArray) (j : Nat) (h : j < a.size) : a.data.toList.drop j = a[j] :: a.data.toList.drop (j + 1) := List.drop_eq_getElem_cons (i := j) (l := a.data.toList) h
theorem drop_end (a : ByteArray) (j : Nat) (h : a.size ≤ j) : a.data.toList.drop j = [] := List.drop_of_length_le h
theorem lessT_lt {a b : ByteArray} {j : Nat} (ha : j < a.size) (hb : j < b.size) (e : a[j].toNat < b[j].toNat) : lessT a b j = true := by
  unfold lessT
  rw [drop_byte a j ha, drop_byte b j hb]
  have h : a[j] < b[j] := e
  unfold Op.bytesLess
  simp [h]
theorem lessT_gt {a b : ByteArray} {j : Nat} (ha : j < a.size) (hb : j < b.size) (e : b[j].toNat < a[j].toNat) : lessT a b j = false := by
  unfold lessT
  rw [drop_byte a j ha, drop_byte b j hb]
  have h : ¬ a[j] < b[j] := fun h => by have h2 : a[j].toNat < b[j].toNat := h; omega
  have h3 : ¬ a[j] = b[j] := fun h => by rw [h] at e; omega
  unfold Op.bytesLess
  simp [h, h3]
theorem lessT_eq {a b : ByteArray} {j : Nat} (ha : j < a.size) (hb : j < b.size) (e : a[j].toNat = b[j].toNat) : lessT a b j = lessT a b (j + 1) := by
  have h3 : a[j] = b[j] := UInt8.toNat_inj.1 e
  have h : ¬ a[j] < b[j] := fun h => by have h2 : a[j].toNat < b[j].toNat := h; omega
  unfold lessT
  rw [drop_byte a j ha, drop_byte b j hb]
  conv => lhs; unfold Op.bytesLess
  simp [h3]
theorem lessT_short {a b : ByteArray} {j : Nat} (ha : a.size ≤ j) (hb : j < b.size) : lessT a b j = true := by
  unfold lessT
  rw [drop_end a j ha, drop_byte b j hb]
  rfl
theorem lessT_end {a b : ByteArray} {j : Nat} (hb : b.size ≤ j) : lessT a b j = false := by
  unfold lessT
  rw [drop_end b j hb]
  cases a.data.toList.drop j <;> rfl
set_option maxRecDepth 100000 in
set_option maxHeartbeats 4000000 in
theorem less_any (a b : ByteArray) (ha : a.size ≤ 1048576) (hb : b.size ≤ 1048576) (w : World) :
    Calls Try.prog 45 #[.string a, .string b] w fun e w' => e = .returned (.bool (Op.bytesLess a.toList b.toList)) ∧ Below w.heap.size w w' := by
  rw [← lessT_zero]
  obtain ⟨R, hR⟩ : ∃ R, R = lessT a b 0 := ⟨_, rfl⟩
  rw [← hR]
  have HR0 := Lib.hid (show lessT a b 0 = R from hR.symm)
  clear hR
  have hma : a.size ≤ maxLen := by unfold maxLen; omega
  have hmb : b.size ≤ maxLen := by unfold maxLen; omega
  go_enter Try.func45, Try.ntmps45
  go_wp2_with fail
  go_loopw [8] (fun z wr => ∃ j : Nat, j ≤ b.size ∧ z = .int .i64 j ∧ Hid (lessT a b j = R) ∧ Below w.heap.size w wr) (fun z _ => b.size - (intOf z).toNat)
  case atStart => exact ⟨0, Nat.zero_le _, rfl, HR0, Below.refl _ _⟩
  case round =>
    obtain ⟨j, hj, rfl, HC, hbw⟩ := hrel
    by_cases hlt : j < b.size
    · by_cases hja : j < a.size
      · have hd : decide (a.size ≤ j) = false := decide_eq_false (by omega)
        rcases Nat.lt_trichotomy a[j].toNat b[j].toNat with e | e | e
        · have t1 : decide ((a[j].toNat : Int) < (b[j].toNat : Int)) = true := decide_eq_true (by omega)
          have t2 : decide (a[j].toNat < b[j].toNat) = true := decide_eq_true (by omega)
          have HE := Lib.hid (show R = true by rw [← HC.out]; exact lessT_lt hja hlt e)
          clear e
          go_wp2_with fail
          go_quiet (fail)
          go_wp2
          go_ret
          exact ⟨by rw [HE.out]; rfl, below_drewN hbw _⟩
        · have t1 : decide (a[j].toNat < b[j].toNat) = false := decide_eq_false (by omega)
          have t2 : decide (b[j].toNat < a[j].toNat) = false := decide_eq_false (by omega)
          have HE := Lib.hid (show lessT a b (j + 1) = R by rw [← HC.out]; exact (lessT_eq hja hlt e).symm)
          clear e
          go_wp2_with fail
          go_quiet (fail)
          go_wp2_with fail
          go_quiet (fail)
          go_wp2
          go_roundw
          case rel => exact ⟨j + 1, by omega, by go_num, HE, below_drewN hbw _⟩
          case measure => simp [intOf]; omega
        · have t1 : decide (a[j].toNat < b[j].toNat) = false := decide_eq_false (by omega)
          have t2 : decide (b[j].toNat < a[j].toNat) = true := decide_eq_true (by omega)
          have HE := Lib.hid (show R = false by rw [← HC.out]; exact lessT_gt hja hlt e)
          clear e
          go_wp2_with fail
          go_quiet (fail)
          go_wp2_with fail
          go_quiet (fail)
          go_wp2
          go_ret
          exact ⟨by rw [HE.out]; rfl, below_drewN (below_drewN hbw _) _⟩
      · have hd : decide (a.size ≤ j) = true := decide_eq_true (by omega)
        have HE := Lib.hid (show R = true by rw [← HC.out]; exact lessT_short (by omega) hlt)
        go_wp2_with fail
        go_quiet (fail)
        go_wp2
        go_ret
        exact ⟨by rw [HE.out]; rfl, below_drewN hbw _⟩
    · have HE := Lib.hid (show R = false by rw [← HC.out]; exact lessT_end (by omega))
      obtain rfl : j = b.size := by omega
      go_wp2
      go_ret
      exact ⟨by rw [HE.out]; rfl, hbw⟩
theorem less_total : ∀ x y : List UInt8, Op.bytesLess y x = false → y ≠ x → Op.bytesLess x y = true
  | [], [], _, h => absurd rfl h
  | [], b :: y, _, _ => rfl
  | a :: x, [], h, _ => by cases h
  | a :: x, b :: y, h, hne => by
    unfold Op.bytesLess at h ⊢
    by_cases h1 : b < a
    · simp [h1] at h
    · by_cases h2 : a < b
      · simp [h2]
      · have e : a = b := by
          apply UInt8.toNat_inj.1
          have g1 : ¬ b.toNat < a.toNat := h1
          have g2 : ¬ a.toNat < b.toNat := h2
          omega
        subst e
        simp at h ⊢
        exact less_total x y h (fun e => hne (by rw [e]))
theorem key_any (s : ByteArray) (h1 : 1 ≤ s.size) (h2 : s.size ≤ 64) (w : World) : Calls Try.prog 43 #[.string s] w fun e w' => e = .returned (.bool true) ∧ w = w' := by
  have t1 : (1 : Int) ≤ s.size := by omega
  have t2 : (s.size : Int) ≤ 64 := by omega
  have t3 : (64 : Int) ≥ s.size := t2
  go_enter Try.func43, Try.ntmps43
  go_wp2
  go_ret
  first | exact ⟨rfl, rfl⟩ | exact ⟨by simp; omega, rfl⟩
theorem val_any (s : ByteArray) (h2 : s.size ≤ 300) (w : World) : Calls Try.prog 44 #[.string s] w fun e w' => e = .returned (.bool true) ∧ w = w' := by
  have t2 : (s.size : Int) ≤ 300 := by omega
  go_enter Try.func44, Try.ntmps44
  go_wp2
  go_ret
  first | exact ⟨rfl, rfl⟩ | exact ⟨by simp; omega, rfl⟩
end Go.Proofs.Ytepnckglnciinaa.Sm
