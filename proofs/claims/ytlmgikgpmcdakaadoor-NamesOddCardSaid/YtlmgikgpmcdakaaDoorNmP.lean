/- What a name of an event tells: it leads back to it. -/
import Derived.Test.YtlmgikgpmcdakaaDoorNmL
namespace Go.Proofs.YtlmgikgpmcdakaaDoor.Nm
open Go.RowKit Go.Proofs.YtlmgikgpmcdakaaDoor.Mem

theorem hv_dig : ∀ d : Nat, d < 16 → hv (dig d).toNat = some d := by decide +kernel
theorem dig_facts : ∀ d : Nat, d < 16 → dig d ≠ 45 ∧ dig d ≠ 47 ∧ dig d ≠ 0 := by decide +kernel
theorem num_snoc : ∀ (l : List UInt8) (n : Nat) (c : UInt8), num n (l ++ [c]) = match num n l with
    | none => none
    | some m => match hv c.toNat with
      | none => none
      | some d => if m * 16 + d < 281474976710656 then some (m * 16 + d) else none
  | [], n, c => by
    rw [List.nil_append]
    show num n [c] = match hv c.toNat with
      | none => none
      | some d => if n * 16 + d < 281474976710656 then some (n * 16 + d) else none
    unfold num
    cases hv c.toNat with
    | none => rfl
    | some d =>
      show (if n * 16 + d < 281474976710656 then num (n * 16 + d) [] else none) = _
      rfl
  | b :: l, n, c => by
    rw [List.cons_append]
    cases hb : hv b.toNat with
    | none => rw [num_none n b _ hb, num_none n b _ hb]
    | some d =>
      rw [num_some n d b _ hb, num_some n d b _ hb]
      split
      · exact num_snoc l _ c
      · rfl
theorem num_hexU (u : Nat) (h : u < 281474976710656) : num 0 (hexU u) = some u := by
  induction u using Nat.strongRecOn with
  | ind u ih =>
    by_cases hu : u < 16
    · rw [hexU_small u hu]
      rw [num_some 0 u _ _ (hv_dig u hu), if_pos (by omega)]
      unfold num
      congr 1
      omega
    · rw [hexU_step u hu, num_snoc, ih (u / 16) (by omega) (by omega)]
      simp only
      rw [hv_dig (u % 16) (by omega)]
      simp only
      rw [if_pos (by omega)]
      congr 1
      omega
theorem hexU_ne (u : Nat) : hexU u ≠ [] := by
  by_cases hu : u < 16
  · rw [hexU_small u hu]; simp
  · rw [hexU_step u hu]; simp
theorem hexU_digs (u : Nat) : ∀ b ∈ hexU u, ∃ d, d < 16 ∧ b = dig d := by
  induction u using Nat.strongRecOn with
  | ind u ih =>
    by_cases hu : u < 16
    · rw [hexU_small u hu]
      intro b hb
      exact ⟨u, hu, List.mem_singleton.1 hb⟩
    · rw [hexU_step u hu]
      intro b hb
      rcases List.mem_append.1 hb with hb | hb
      · exact ih (u / 16) (by omega) b hb
      · exact ⟨u % 16, by omega, List.mem_singleton.1 hb⟩
theorem cut_dash : ∀ (l : List UInt8), (∀ b ∈ l, b ≠ 45) → ∀ r, Lib.index (l ++ 45 :: r) [45] = l.length
  | [], _, r => by
    unfold Lib.index
    rfl
  | b :: l, h, r => by
    have ih := cut_dash l (fun c hc => h c (List.mem_cons_of_mem _ hc)) r
    have hb := h b (List.mem_cons_self ..)
    rw [List.cons_append]
    unfold Lib.index
    have e : ([45] : List UInt8).isPrefixOf (b :: (l ++ 45 :: r)) = false := by
      simp [List.isPrefixOf]
      exact fun h => hb h.symm
    rw [e, ih]
    simp
theorem cut_at (l r : List UInt8) (h : ∀ b ∈ l, b ≠ 45) : Lib.cut (l ++ 45 :: r) [45] = (l, r, true) := by
  unfold Lib.cut
  rw [cut_dash l h r]
  rw [if_pos (by omega)]
  simp
/-- May they be a time and a number of whom? -/
def inB (t w : Int) : Bool := decide (0 ≤ t) && decide (t < 281474976710656) && decide (0 ≤ w) && decide (w < 16)
theorem oddL_in (t w : Int) (h : inB t w = true) : oddL t w = 99 :: (hexU t.toNat ++ [45, dig w.toNat]) ∧ (hexU t.toNat).length ≤ 12 := by
  unfold inB at h
  simp only [Bool.and_eq_true, decide_eq_true_eq] at h
  obtain ⟨⟨⟨h1, h2⟩, h3⟩, h4⟩ := h
  have e1 : u64 t = t.toNat := by unfold u64; rw [IntKind.wrap_u64]; omega
  have e2 : u64 w = w.toNat := by unfold u64; rw [IntKind.wrap_u64]; omega
  have hl : (hexU t.toNat).length ≤ 12 := hexU_length 11 _ (by omega)
  refine ⟨?_, hl⟩
  unfold oddL last12
  rw [e1, e2, Nat.mod_eq_of_lt (by omega), hexU_small w.toNat (by omega), show (hexU t.toNat).length - 12 = 0 by omega]
  rfl
theorem numT_of (l : List UInt8) (n : Nat) (h : num 0 l = some n) (hl : l ≠ []) : numM ⟨l.toArray⟩ = n := by
  unfold numM numT
  rw [if_neg]
  · rw [show (⟨l.toArray⟩ : ByteArray).data.toList = l from rfl, h]; rfl
  · intro e
    apply hl
    have e2 : l.toArray.size = 0 := e
    have : l.length = 0 := by simpa using e2
    exact List.length_eq_zero_iff.1 this
theorem back_odd (t w : Int) (h : inB t w = true) : (timeOf ⟨(oddL t w).toArray⟩ : Int) = t ∧ (whoOf ⟨(oddL t w).toArray⟩ : Int) = w := by
  have ho := (oddL_in t w h).1
  unfold inB at h
  simp only [Bool.and_eq_true, decide_eq_true_eq] at h
  obtain ⟨⟨⟨h1, h2⟩, h3⟩, h4⟩ := h
  have hc : Lib.cut (Lib.trimPrefix (oddL t w) [99]) [45] = (hexU t.toNat, [dig w.toNat], true) := by
    rw [ho]
    have : Lib.trimPrefix (99 :: (hexU t.toNat ++ [45, dig w.toNat])) [99] = hexU t.toNat ++ 45 :: [dig w.toNat] := by
      unfold Lib.trimPrefix Lib.hasPrefix
      rfl
    rw [this]
    exact cut_at _ _ (fun b hb => by
      obtain ⟨d, hd, rfl⟩ := hexU_digs _ b hb
      exact (dig_facts d hd).1)
  constructor
  · unfold timeOf
    rw [show (⟨(oddL t w).toArray⟩ : ByteArray).data.toList = oddL t w from rfl, hc]
    simp only
    rw [numT_of _ t.toNat (num_hexU _ (by omega)) (hexU_ne _)]
    omega
  · unfold whoOf
    rw [show (⟨(oddL t w).toArray⟩ : ByteArray).data.toList = oddL t w from rfl, hc]
    simp only
    have hw : w.toNat < 16 := by omega
    rw [numT_of [dig w.toNat] w.toNat (by
      rw [num_some 0 w.toNat _ _ (hv_dig w.toNat hw), if_pos (by omega)]
      unfold num
      congr 1
      omega) (by simp)]
    omega
theorem of_odd (t w : Int) (h : inB t w = true) : ofAns ⟨(oddL t w).toArray⟩ = .tuple #[.agg #[.int .i64 t, .int .i64 w], .bool true] := by
  obtain ⟨h1, h2⟩ := back_odd t w h
  unfold ofAns
  rw [h1, h2]
  exact if_pos rfl
theorem odd_inj (t w t2 w2 : Int) (h : inB t w = true) (h2 : inB t2 w2 = true) (e : oddL t w = oddL t2 w2) : t = t2 ∧ w = w2 := by
  have a := back_odd t w h
  have b := back_odd t2 w2 h2
  rw [e] at a
  exact ⟨a.1.symm.trans b.1, a.2.symm.trans b.2⟩
theorem no_any (l : List UInt8) (h : ∀ b ∈ l, b ≠ 47 ∧ b ≠ 0) : bad l = false := by
  unfold bad
  rw [Lib.indexAny_none (fun j b hj hb => by
    obtain ⟨h1, h2⟩ := h b (List.mem_of_getElem? hb)
    simp [h1, h2])]
  decide
theorem good_odd (t w : Int) (h : inB t w = true) : goodM (oddL t w) = 0 := by
  obtain ⟨ho, hl⟩ := oddL_in t w h
  have hw : w.toNat < 16 := by
    unfold inB at h
    simp only [Bool.and_eq_true, decide_eq_true_eq] at h
    omega
  rw [ho]
  unfold goodM
  rw [if_neg, if_neg]
  · simp; omega
  · rintro (h | h | h | h)
    · cases h
    · have := congrArg List.head? h
      simp at this
    · have := congrArg List.head? h
      simp at this
    · rw [no_any _ (fun b hb => by
        rcases List.mem_cons.1 hb with rfl | hb
        · decide
        · rcases List.mem_append.1 hb with hb | hb
          · obtain ⟨d, hd, rfl⟩ := hexU_digs _ b hb
            exact (dig_facts d hd).2
          · rcases List.mem_cons.1 hb with rfl | hb
            · decide
            · rw [List.mem_singleton.1 hb]
              exact (dig_facts _ hw).2)] at h
      cases h
end Go.Proofs.YtlmgikgpmcdakaaDoor.Nm
