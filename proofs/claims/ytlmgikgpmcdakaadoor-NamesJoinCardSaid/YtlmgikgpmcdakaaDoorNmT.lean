/- The document's own Join. -/
import Derived.Test.YtlmgikgpmcdakaaDoorNmS
import Derived.Test.YtlmgikgpmcdakaaDoorNmWWith
namespace Go.Proofs.YtlmgikgpmcdakaaDoor.Nm
open Go.RowKit Go.Proofs.YtlmgikgpmcdakaaDoor.Mem Go.Proofs.YtlmgikgpmcdakaaDoor.Rws

/-- Names, a slash ahead of each. -/
def cat (l : List ByteArray) : List UInt8 := (l.map fun x => 47 :: x.data.toList).flatten
theorem cat_snoc (l : List ByteArray) (k : Nat) (h : k < l.length) : cat (l.take (k + 1)) = cat (l.take k) ++ 47 :: (l[k]).data.toList := by
  unfold cat
  rw [List.take_succ_eq_append_getElem h, List.map_append, List.flatten_append]
  simp
theorem cat_join : ∀ (l : List ByteArray), l ≠ [] → cat l = 47 :: Lib.join (l.map (·.data.toList)) [47]
  | [], h => absurd rfl h
  | [y], _ => by
    show (47 :: y.data.toList) ++ [] = 47 :: ([47] : List UInt8).intercalate [y.data.toList]
    rw [inter_one, List.append_nil]
  | y :: z :: Y, _ => by
    have ih := cat_join (z :: Y) (by simp)
    show (47 :: y.data.toList) ++ cat (z :: Y) = 47 :: ([47] : List UInt8).intercalate (y.data.toList :: z.data.toList :: Y.map (·.data.toList))
    rw [ih, inter_cons]
    rfl
theorem cat_length (l : List ByteArray) (h : sumL l ≤ 4096) : ∀ k, k ≤ l.length → (cat (l.take k)).length ≤ 4096 + k := by
  have hmain : ∀ k, k ≤ l.length → (cat (l.take k)).length ≤ sumL (l.take k) + k := by
    intro k
    induction k with
    | zero => intro _; simp [cat]
    | succ k ih =>
      intro hk
      have h1 := sumL_le l (k + 1)
      have h2 := sumL_take l k (by omega)
      rw [cat_snoc l k (by omega)]
      have := ih (by omega)
      have e : (l[k]).data.toList.length = (l[k]).size := by simp
      rw [List.length_append, List.length_cons, e]
      omega
  intro k hk
  have := hmain k hk
  have := sumL_le l k
  omega
theorem cat_all (l : List ByteArray) (h : l ≠ []) : (⟨(cat l).toArray⟩ : ByteArray) = joinB l := by
  apply bytes_ext
  show cat l = 47 :: Lib.join (l.map (·.data.toList)) [47]
  exact cat_join l h
/-- What Join answers. -/
def joinAns (l : List ByteArray) : Value := .tuple #[.string (if joinErr l = 0 then joinB l else ⟨#[]⟩), .int .i64 (joinErr l)]
def okE (K l : List ByteArray) (j : Nat) : Bool := decide (K.length = l.length) && decide (K.take j = l.take j)
theorem okE_end (K l : List ByteArray) : okE K l K.length = decide (K = l) := by
  unfold okE
  by_cases h : K.length = l.length
  · have e : l.take K.length = l := List.take_of_length_le (by omega)
    rw [e, List.take_length, decide_eq_true h, Bool.true_and]
  · have e : ¬ K = l := fun e => h (by rw [e])
    simp [h, e]
theorem okE_off (K l : List ByteArray) (k : Nat) (h : okE K l k = false) : okE K l (k + 1) = false := by
  unfold okE at *
  by_cases h1 : K.length = l.length
  · rw [decide_eq_true h1] at h ⊢
    simp only [Bool.true_and, decide_eq_false_iff_not] at h ⊢
    intro e
    apply h
    have := congrArg (List.take k) e
    rw [List.take_take, List.take_take] at this
    rwa [Nat.min_eq_left (by omega)] at this
  · rw [decide_eq_false h1]; rfl
theorem okE_on (K l : List ByteArray) (k : Nat) (hk : k < K.length) (h : okE K l k = true) : ∃ hl : k < l.length, okE K l (k + 1) = decide (K[k] = l[k]) := by
  unfold okE at *
  rw [Bool.and_eq_true] at h
  have h1 := of_decide_eq_true h.1
  have h2 := of_decide_eq_true h.2
  refine ⟨by omega, ?_⟩
  rw [decide_eq_true h1, List.take_succ_eq_append_getElem (by omega : k < l.length), List.take_succ_eq_append_getElem hk, h2, Bool.true_and]
  by_cases e : K[k] = l[k]
  · rw [e, decide_eq_true rfl, decide_eq_true rfl]
  · rw [decide_eq_false e, decide_eq_false]
    intro h
    have := List.append_cancel_left h
    injection this with h _
    exact e h
set_option maxHeartbeats 4000000 in
set_option maxRecDepth 100000 in
theorem rjoin_any (A : Option Addr) (n c : Nat) (l : List ByteArray) (hs : sumL l ≤ 4096) (hn : n ≤ 1000) (w : World) (h : TxtRow w A n l) :
    Calls Tryd.prog 21 #[.slice A n c] w fun e w' => e = .returned (joinAns l) ∧ Below w.heap.size w w' := by
  have hl := h.1
  by_cases h8 : 8 < n
  · have hE : joinErr l = 36 := by unfold joinErr; rw [if_pos (by omega)]
    have h8i : 8 < (n : Int) := by omega
    have HF := Lib.hid (show joinAns l = .tuple #[.string ⟨#[]⟩, .int .i64 36] by unfold joinAns; rw [hE, if_neg (by decide)])
    go_enter Tryd.func21, Tryd.ntmps21
    go_wp2
    go_ret2
    exact ⟨by rw [HF.out]; rfl, Below.refl _ _⟩
  · have h8i : ¬ 8 < (n : Int) := by omega
    have hE0 : joinErr l = if splitErr (joinB l) ≠ 0 then splitErr (joinB l) else if splitL (joinB l) = l then 0 else 22 := by unfold joinErr; rw [if_neg (by omega)]
    have HE0 := Lib.hid hE0
    have HL := Lib.hid hl
    clear hE0
    go_enter Tryd.func21, Tryd.ntmps21
    go_wp2_with fail
    go_loop [4, 16] (fun u i => ∃ (k : Nat) (P : ByteArray), i = .int .i64 k ∧ k ≤ n ∧ u = .string P ∧ P.data.toList = cat (l.take k)) (fun _ i => n - (intOf i).toNat)
    case atStart => exact ⟨0, ⟨#[]⟩, rfl, by omega, rfl, rfl⟩
    case round =>
      obtain ⟨k, P, rfl, hk, rfl, hP⟩ := hrel
      have hPs : P.size ≤ 5000 := by
        have h1 := cat_length l hs k (by omega)
        rw [← hP] at h1
        have e : P.data.toList.length = P.size := by simp
        omega
      by_cases hlt : k < n
      · obtain ⟨b, off, rfl, hc⟩ := short_cell h k (by omega)
        have hst := cat_snoc l k (by omega)
        have hxs : (l[k]'(by omega)).size ≤ 4096 := by
          have h1 := mem_le_sum _ _ (List.mem_map.2 ⟨l[k]'(by omega), List.getElem_mem _, rfl⟩ : min (l[k]'(by omega)).size 4097 ∈ l.map fun x => min x.size 4097)
          have h2 : (l.map fun x => min x.size 4097).sum ≤ 4096 := hs
          omega
        generalize l[k]'(by omega) = x at *
        have HN := Lib.hid (show (P ++ ⟨#[47]⟩ ++ x).data.toList = cat (l.take (k + 1)) by rw [hst, ← hP]; simp)
        clear hst hP
        go_wp2
        go_round
        case rel => exact ⟨k + 1, P ++ ⟨#[47]⟩ ++ x, by go_num, by omega, rfl, HN.out⟩
        case measure => simp [intOf]; omega
      · obtain rfl : k = n := by omega
        rw [List.take_of_length_le (by omega)] at hP
        by_cases hnil : l = []
        · subst hnil
          have hP0 : P = ⟨#[]⟩ := bytes_ext hP
          have hz : splitErr (joinB []) = 0 := by decide +kernel
          have hj : joinErr [] = 0 := by decide +kernel
          have hj2 : joinB [] = ⟨#[47]⟩ := by decide +kernel
          have HF := Lib.hid (show joinAns [] = .tuple #[.string ⟨#[47]⟩, .int .i64 0] by unfold joinAns; rw [hj, if_pos rfl, hj2])
          subst hP0
          clear HE0 hz hj hj2 hP
          go_wp2
          go_ret2
          exact ⟨by rw [HF.out]; rfl, Below.refl _ _⟩
        · have hPj : P = joinB l := by
            rw [← cat_all l hnil]
            exact bytes_ext hP
          have hemp : P.toList.isEmpty = false := by
            rw [← decide_eq_emptyBytes]
            refine decide_eq_false (fun e => ?_)
            rw [hPj] at e
            have := congrArg (fun b : ByteArray => b.data.toList.length) e
            simp [joinB] at this
          have S := Lib.hid (rsplit_any (joinB l) (by rw [← hPj]; omega) w)
          have HP := Lib.hid hPj
          clear hP hPj
          have HL2 := Lib.hid (splitL_le (joinB l))
          by_cases hz : splitErr (joinB l) = 0
          · have hE : joinErr l = if splitL (joinB l) = l then 0 else 22 := by rw [HE0.out, if_neg (by simp [hz])]
            have HE := Lib.hid hE
            clear hE
            go_wp2_with fail
            rw [HP.out]
            refine S.out.mono ?_
            rintro e w1 ⟨⟨v, rfl, A2, c2, rfl, _, r2⟩, hb⟩
            rw [hz]
            have HF := Lib.hid (show joinAns l = if splitL (joinB l) = l then .tuple #[.string (joinB l), .int .i64 0] else .tuple #[.string ⟨#[]⟩, .int .i64 22] by
              unfold joinAns
              rw [HE.out]
              by_cases e : splitL (joinB l) = l
              · rw [if_pos e, if_pos rfl, if_pos e]
              · rw [if_neg e, if_neg (by decide), if_neg e])
            generalize splitL (joinB l) = K at *
            have hlo := h.below hb
            have ho : (Value.bool ((K.length : Int) == k)) = .bool (okE K l 0) := by
              unfold okE
              rw [hl]
              by_cases e : K.length = k
              · simp [e]
              · rw [decide_eq_false e, beq_eq_false_iff_ne.2 (by omega)]; rfl
            clear h HE
            go_wp2_with fail
            try rw [ho]
            clear ho
            go_loopw [9, 42] (fun o i wr => ∃ j : Nat, i = .int .i64 j ∧ j ≤ K.length ∧ o = .bool (okE K l j) ∧ Below w1.heap.size w1 wr) (fun _ i _ => K.length - (intOf i).toNat)
            case atStart => exact ⟨0, rfl, by omega, rfl, Below.refl _ _⟩
            case round =>
              obtain ⟨j, rfl, hj, rfl, hbw⟩ := hrel
              have HBW := Lib.hid hbw
              have r2 := r2.below hbw
              have hlo := hlo.below hbw
              clear hbw
              have hji1 : (j : Int) + 1 < 9223372036854775808 := by have := HL2.out; omega
              by_cases hlt2 : j < K.length
              · cases ho : okE K l j with
                | false =>
                  have HO := Lib.hid (okE_off K l j ho)
                  go_wp2_with fail
                  go_quiet (fail)
                  go_wp2_with fail
                  go_roundw
                  case rel => exact ⟨j + 1, by go_num, by omega, by rw [HO.out], below_drewN HBW.out _⟩
                  case measure => simp [intOf] <;> omega
                | true =>
                  obtain ⟨hjl, hon⟩ := okE_on K l j hlt2 ho
                  obtain ⟨b, off, rfl, hc⟩ := short_cell r2 j hlt2
                  obtain ⟨b2, off2, rfl, hc2⟩ := short_cell hlo j hjl
                  have hjk : j < k := by have := HL.out; omega
                  have hji : (j : Int) < k := by omega
                  have HON := Lib.hid hon
                  clear hon
                  generalize K[j] = x at *
                  generalize l[j] = y at *
                  by_cases hxy : x = y
                  · have hq := txt_same hxy
                    have HO := Lib.hid (HON.out.trans (decide_eq_true hxy))
                    clear hxy
                    go_wp2_with fail
                    go_quiet (fail)
                    go_wp2_with fail
                    go_roundw
                    case rel => exact ⟨j + 1, by go_num, by omega, by rw [HO.out], below_drewN HBW.out _⟩
                    case measure => simp [intOf] <;> omega
                  · have hq := txt_other hxy
                    have HO := Lib.hid (HON.out.trans (decide_eq_false hxy))
                    clear hxy
                    go_wp2_with fail
                    go_quiet (fail)
                    go_wp2_with fail
                    go_roundw
                    case rel => exact ⟨j + 1, by go_num, by omega, by rw [HO.out], below_drewN HBW.out _⟩
                    case measure => simp [intOf] <;> omega
              · obtain rfl : j = K.length := by omega
                rw [okE_end K l]
                by_cases hKl : K = l
                · have HF2 := Lib.hid (HF.out.trans (if_pos hKl))
                  have HB := Lib.hid (hb.trans (HBW.out.mono hb.size))
                  rw [decide_eq_true hKl]
                  clear HF hKl
                  go_wp2_with fail
                  go_ret2
                  exact ⟨by rw [HF2.out]; rfl, HB.out⟩
                · have HF2 := Lib.hid (HF.out.trans (if_neg hKl))
                  have HB := Lib.hid (hb.trans (HBW.out.mono hb.size))
                  rw [decide_eq_false hKl]
                  clear HF hKl
                  go_wp2_with fail
                  go_ret2
                  exact ⟨by rw [HF2.out]; rfl, HB.out⟩
          · have hE : joinErr l = splitErr (joinB l) := by rw [HE0.out, if_pos hz]
            have HF := Lib.hid (show joinAns l = .tuple #[.string ⟨#[]⟩, .int .i64 (splitErr (joinB l))] by unfold joinAns; rw [hE, if_neg hz])
            clear hE
            go_wp2_with fail
            rw [HP.out]
            refine S.out.mono ?_
            rintro e w1 ⟨⟨v, rfl, A2, c2, rfl, _, r2⟩, hb⟩
            generalize splitErr (joinB l) = m at *
            go_wp2_with fail
            go_ret2
            exact ⟨by rw [HF.out]; rfl, hb⟩
end Go.Proofs.YtlmgikgpmcdakaaDoor.Nm
