/- What is seen of a message is put so. -/
import Derived.Test.YtfjmcklmoebnaaaDoorMgW
namespace Go.Proofs.YtfjmcklmoebnaaaDoor.Mg
open Go.RowKit Go.Proofs.YtfjmcklmoebnaaaDoor.Nt
open Go.Proofs.YtfjmcklmoebnaaaDoor.Oct (numL putL numL_snoc numL_lt putL_len headT head_len cutT gotNum gotText head_putL)
open Go.Proofs.YtfjmcklmoebnaaaDoor.Vc (numB numB_len vecB vecTo seeV)
set_option linter.unusedVariables false

theorem putL_push (U : Nat) (b : UInt8) (k : Nat) : putL (U * 256 + b.toNat) (k + 1) = putL U k ++ [b] := by
  unfold putL
  rw [List.range_succ, List.map_append]
  have hb : b.toNat < 256 := b.toNat_lt
  congr 1
  · refine List.map_congr_left fun i hi => ?_
    have hi := List.mem_range.1 hi
    have e : k + 1 - 1 - i = (k - 1 - i) + 1 := by omega
    have e2 : (2 : Nat) ^ (8 * ((k - 1 - i) + 1)) = 256 * 2 ^ (8 * (k - 1 - i)) := by
      rw [Nat.mul_add, Nat.pow_add]
      show 2 ^ (8 * (k - 1 - i)) * 256 = _
      rw [Nat.mul_comm]
    rw [e, e2, ← Nat.div_div_eq_div_mul]
    have e3 : (U * 256 + b.toNat) / 256 = U := by omega
    rw [e3]
  · simp only [List.map_cons, List.map_nil]
    have e : k + 1 - 1 - k = 0 := by omega
    have e2 : U * 256 + b.toNat = b.toNat + 256 * U := by omega
    rw [e]
    show [UInt8.ofNat ((U * 256 + b.toNat) / 1 % 256)] = [b]
    rw [Nat.div_one, e2, Nat.add_mul_mod_self_left, Nat.mod_eq_of_lt hb]
    simp
theorem putL_numL : ∀ (k : Nat) (l : List UInt8), l.length = k → putL (numL l) k = l
  | 0, l, h => by
    have e : l = [] := List.length_eq_zero_iff.1 h
    subst e
    rfl
  | k + 1, l, h => by
    have hne : l ≠ [] := fun e => by rw [e] at h; cases h
    have e : l = l.dropLast ++ [l.getLast hne] := (List.dropLast_concat_getLast hne).symm
    have hl : l.dropLast.length = k := by rw [List.length_dropLast]; omega
    rw [e, numL_snoc, putL_push, putL_numL k l.dropLast hl]
theorem numB_numL {l : List UInt8} {k : Nat} (h : l.length = k) (hv : numL l < 9223372036854775808) : numB ((numL l : Nat) : Int) k = l := by
  unfold numB
  have e : (IntKind.u64.wrap ((numL l : Nat) : Int)).toNat = numL l := by
    have : IntKind.u64.wrap ((numL l : Nat) : Int) = ((numL l : Nat) : Int) := by rw [IntKind.wrap_u64]; omega
    rw [this]
    simp
  rw [e]
  exact putL_numL k l h
theorem bnd_inv {α β : Type} {x : ParX α} {f : α → ByteArray → ParX β} {b : β} {q : ByteArray} (h : bnd x f = .ok (b, q)) : ∃ a r, x = .ok (a, r) ∧ f a r = .ok (b, q) := by
  cases x with
  | error y => cases h
  | ok a => exact ⟨a.1, a.2, rfl, h⟩
theorem list_cut (r : ByteArray) (k : Nat) : (r.extract k r.size).data.toList = r.data.toList.drop k := by
  rw [ByteArray.data_extract, Array.toList_extract]
  show (r.data.toList.drop k).take (r.data.toList.length - k) = r.data.toList.drop k
  exact List.take_of_length_le (by rw [List.length_drop]; exact Nat.le_refl _)
theorem list_head (r : ByteArray) (k : Nat) : (r.extract 0 k).data.toList = r.data.toList.take k := by
  rw [ByteArray.data_extract, Array.toList_extract]
  show (r.data.toList.drop 0).take (k - 0) = r.data.toList.take k
  rfl
theorem gN_inv {r q : ByteArray} {k : Nat} {v : Int} (h : gN r k = .ok (v, q)) : r.data.toList = numB v k ++ q.data.toList := by
  unfold gN at h
  cases hg : gotNum r k with
  | txt t z => rw [hg] at h; cases h
  | bad z y => rw [hg] at h; cases h
  | num v' q' =>
    rw [hg] at h
    injection h with h
    injection h with h1 h2
    subst h1 h2
    unfold gotNum at hg
    split at hg
    · split at hg
      · rename_i hk hr
        split at hg
        · rename_i hv
          injection hg with h1 h2
          subst h1 h2
          have hl : (r.data.toList.take k).length = k := by
            rw [List.length_take]
            have : r.data.toList.length = r.size := rfl
            omega
          rw [Int.toNat_natCast] at hv ⊢
          rw [numB_numL hl hv, list_cut, List.take_append_drop]
        · cases hg
      · cases hg
    · cases hg
theorem gN1_inv {r q : ByteArray} {v : Int} (h : gN r 1 = .ok (v, q)) : r.data.toList = numB v 1 ++ q.data.toList := gN_inv (k := 1) h
theorem gN2_inv {r q : ByteArray} {v : Int} (h : gN r 2 = .ok (v, q)) : r.data.toList = numB v 2 ++ q.data.toList := gN_inv (k := 2) h
theorem gN6_inv {r q : ByteArray} {v : Int} (h : gN r 6 = .ok (v, q)) : r.data.toList = numB v 6 ++ q.data.toList := gN_inv (k := 6) h
theorem gT_inv {r q s : ByteArray} (h : gT r 512 = .ok (s, q)) : r.data.toList = textB s ++ q.data.toList := by
  unfold gT at h
  cases hg : gotText r 512 with
  | num t z => rw [hg] at h; cases h
  | bad z y => rw [hg] at h; cases h
  | txt s' q' =>
    rw [hg] at h
    injection h with h
    injection h with h1 h2
    subst h1 h2
    unfold gotText at hg
    split at hg
    · split at hg
      · rename_i h2 hm
        split at hg
        · rename_i hc
          injection hg with h1 h3
          subst h1 h3
          obtain ⟨n, hn⟩ : ∃ n, n = numL (r.data.toList.take 2) := ⟨_, rfl⟩
          rw [← hn] at hm hc ⊢
          have hlr : r.data.toList.length = r.size := rfl
          have h2l : (r.data.toList.take 2).length = 2 := by rw [List.length_take]; omega
          have e1 : ((r.extract 2 r.size).extract 0 n).data.toList = (r.data.toList.drop 2).take n := by rw [list_head, list_cut]
          have e2 : ((r.extract 2 r.size).extract n (r.extract 2 r.size).size).data.toList = (r.data.toList.drop 2).drop n := by rw [list_cut, list_cut]
          have hsz : ((r.extract 2 r.size).extract 0 n).size = n := by
            have : ((r.extract 2 r.size).extract 0 n).size = ((r.extract 2 r.size).extract 0 n).data.toList.length := rfl
            rw [this, e1, List.length_take, List.length_drop]
            omega
          have e3 : cutT ((r.extract 2 r.size).extract 0 n) = (r.data.toList.drop 2).take n := by
            unfold cutT
            rw [e1]
            exact List.take_of_length_le (by rw [List.length_take]; omega)
          have e4 : (cutT ((r.extract 2 r.size).extract 0 n)).length = n := by
            rw [e3, List.length_take, List.length_drop]
            omega
          unfold textB
          rw [e4, e3, e2, ← head_putL n (by omega), hn, putL_numL 2 _ h2l, List.append_assoc, List.take_append_drop, List.take_append_drop]
        · cases hg
      · cases hg
    · cases hg
theorem vec_inv (r : ByteArray) : ∀ k : Nat, 6 * k ≤ r.size → vecTo (seeV r) k = r.data.toList.take (6 * k)
  | 0, _ => rfl
  | k + 1, h => by
    have hl : ((r.data.toList.drop (6 * k)).take 6).length = 6 := by
      rw [List.length_take, List.length_drop]
      have : r.data.toList.length = r.size := rfl
      omega
    have hv := numL_lt ((r.data.toList.drop (6 * k)).take 6)
    rw [hl] at hv
    have h256 : (256 : Nat) ^ 6 = 281474976710656 := by decide
    have e : numB (seeV r k) 6 = (r.data.toList.drop (6 * k)).take 6 := numB_numL hl (by omega)
    show vecTo (seeV r) k ++ numB (seeV r k) 6 = _
    rw [vec_inv r k (by omega), e]
    have e2 : 6 * (k + 1) = 6 * k + 6 := by omega
    rw [e2, List.take_add]
theorem gV_inv {r q : ByteArray} {z : Nat → Int} (h : gV r = .ok (z, q)) : r.data.toList = vecB z ++ q.data.toList := by
  unfold gV at h
  split at h
  · rename_i hg
    injection h with h
    injection h with h1 h2
    subst h1 h2
    have e := vec_inv r 8 hg.1
    show _ = vecTo (seeV r) 8 ++ _
    rw [e, list_cut]
    exact (List.take_append_drop 48 _).symm
  · cases h
theorem gM_inv {r q : ByteArray} {k : Int × Int} (h : gM r = .ok (k, q)) : r.data.toList = markB k ++ q.data.toList := by
  obtain ⟨a, r1, h1, h2⟩ := bnd_inv h
  obtain ⟨b, r2, h3, h4⟩ := bnd_inv h2
  injection h4 with h4
  injection h4 with h5 h6
  subst h5 h6
  unfold markB
  rw [gN6_inv h1, gN6_inv h3, List.append_assoc]
def tailB (m : MsgP) : List UInt8 := (if m.kind = 1 ∨ m.kind = 2 then markB m.base else []) ++ (if m.kind = 3 then [] else markB m.mark) ++ (if m.kind = 1 ∨ m.kind = 2 then numB m.ix 2 else []) ++ (if m.kind = 2 then numB m.tot 2 ++ textB m.data else [])
theorem msgB_tail (m : MsgP) : msgB m = headB m ++ vecB m.seen ++ tailB m := by unfold msgB tailB; simp only [List.append_assoc]
/-- What a tail's seeing keeps of the message, and the bytes that it takes. -/
theorem tail_inv {m k : MsgP} {r q : ByteArray} (hk : m.kind = 1 ∨ m.kind = 2 ∨ m.kind = 3 ∨ m.kind = 4) (h : tl1 m r = .ok (k, q)) : r.data.toList = tailB k ++ q.data.toList ∧ (k.kind = m.kind ∧ k.fr = m.fr ∧ k.to = m.to ∧ k.vol = m.vol ∧ k.seen = m.seen) := by
  rcases hk with e | e | e | e
  · unfold tl1 at h
    rw [if_pos (.inl e)] at h
    obtain ⟨b, r1, h1, h2⟩ := bnd_inv h
    obtain ⟨c, r2, h3, h4⟩ := bnd_inv h2
    rw [if_neg (by show ¬ m.kind = 4; omega)] at h4
    obtain ⟨i, r3, h5, h6⟩ := bnd_inv h4
    unfold tl4 at h6
    rw [if_neg (by show ¬ m.kind = 2; omega)] at h6
    injection h6 with h6
    injection h6 with h7 h8
    subst h7 h8
    refine ⟨?_, rfl, rfl, rfl, rfl, rfl⟩
    rw [gM_inv h1, gM_inv h3, gN2_inv h5]
    unfold tailB
    rw [if_pos (.inl e), if_neg (by show ¬ m.kind = 3; omega), if_pos (.inl e), if_neg (by show ¬ m.kind = 2; omega)]
    simp only [List.append_assoc, List.nil_append]
  · unfold tl1 at h
    rw [if_pos (.inr e)] at h
    obtain ⟨b, r1, h1, h2⟩ := bnd_inv h
    obtain ⟨c, r2, h3, h4⟩ := bnd_inv h2
    rw [if_neg (by show ¬ m.kind = 4; omega)] at h4
    obtain ⟨i, r3, h5, h6⟩ := bnd_inv h4
    unfold tl4 at h6
    rw [if_pos (by show m.kind = 2; exact e)] at h6
    obtain ⟨n, r4, h7, h8⟩ := bnd_inv h6
    obtain ⟨d, r5, h9, h10⟩ := bnd_inv h8
    injection h10 with h10
    injection h10 with h11 h12
    subst h11 h12
    refine ⟨?_, rfl, rfl, rfl, rfl, rfl⟩
    rw [gM_inv h1, gM_inv h3, gN2_inv h5, gN2_inv h7, gT_inv h9]
    unfold tailB
    rw [if_pos (.inr e), if_neg (by show ¬ m.kind = 3; omega), if_pos (.inr e), if_pos (by show m.kind = 2; exact e)]
    simp only [List.append_assoc]
  · unfold tl1 at h
    rw [if_neg (by omega), if_neg (by omega)] at h
    injection h with h
    injection h with h1 h2
    subst h1 h2
    refine ⟨?_, rfl, rfl, rfl, rfl, rfl⟩
    unfold tailB
    rw [if_neg (by omega), if_pos e, if_neg (by omega), if_neg (by omega)]
    rfl
  · unfold tl1 at h
    rw [if_neg (by omega), if_pos e] at h
    obtain ⟨c, r2, h3, h4⟩ := bnd_inv h
    rw [if_pos e] at h4
    injection h4 with h4
    injection h4 with h1 h2
    subst h1 h2
    refine ⟨?_, rfl, rfl, rfl, rfl, rfl⟩
    rw [gM_inv h3]
    unfold tailB
    rw [if_neg (by show ¬ (m.kind = 1 ∨ m.kind = 2); omega), if_neg (by show ¬ m.kind = 3; omega), if_neg (by show ¬ (m.kind = 1 ∨ m.kind = 2); omega), if_neg (by show ¬ m.kind = 2; omega)]
    simp only [List.append_nil, List.nil_append]
theorem tail_kind {m k : MsgP} {r q : ByteArray} (h : tl1 m r = .ok (k, q)) : k.kind = m.kind := by
  unfold tl1 at h
  split at h
  · obtain ⟨b, r1, h1, h2⟩ := bnd_inv h
    obtain ⟨c, r2, h3, h4⟩ := bnd_inv h2
    split at h4
    · injection h4 with h4
      injection h4 with h5 _
      subst h5
      rfl
    · obtain ⟨i, r3, h5, h6⟩ := bnd_inv h4
      unfold tl4 at h6
      split at h6
      · obtain ⟨n, r4, h7, h8⟩ := bnd_inv h6
        obtain ⟨d, r5, h9, h10⟩ := bnd_inv h8
        injection h10 with h10
        injection h10 with h11 _
        subst h11
        rfl
      · injection h6 with h6
        injection h6 with h7 _
        subst h7
        rfl
  · split at h
    · obtain ⟨c, r2, h3, h4⟩ := bnd_inv h
      split at h4
      · injection h4 with h4
        injection h4 with h5 _
        subst h5
        rfl
      · rename_i e1 e2
        exact absurd e1 e2
    · injection h with h
      injection h with h5 _
      subst h5
      rfl
theorem see_inv {k : MsgP} {r q : ByteArray} (h : seeP r = .ok (k, q)) (hk : k.kind = 1 ∨ k.kind = 2 ∨ k.kind = 3 ∨ k.kind = 4) : r.data.toList = msgB k ++ q.data.toList := by
  obtain ⟨a, r1, h1, h2⟩ := bnd_inv h
  obtain ⟨b, r2, h3, h4⟩ := bnd_inv h2
  obtain ⟨c, r3, h5, h6⟩ := bnd_inv h4
  obtain ⟨d, r4, h7, h8⟩ := bnd_inv h6
  obtain ⟨z, r5, h9, h10⟩ := bnd_inv h8
  have hkk := tail_kind h10
  obtain ⟨e1, e2, e3, e4, e5, e6⟩ := tail_inv (by rw [← hkk]; exact hk) h10
  rw [gN1_inv h1, gN1_inv h3, gN1_inv h5, gN1_inv h7, gV_inv h9, e1, msgB_tail]
  have hh : headB k = headB (hdM a b c d) := by
    unfold headB
    show (((([] : List UInt8) ++ numB k.kind 1) ++ numB k.fr 1) ++ numB k.to 1) ++ numB k.vol 1 = (((([] : List UInt8) ++ numB a 1) ++ numB b 1) ++ numB c 1) ++ numB d 1
    rw [e2, e3, e4, e5]
    rfl
  have hv : vecB k.seen = vecB z := by rw [e6]
  rw [hh, hv, List.append_assoc, List.append_assoc, head_split]
  rfl
theorem get_cases (s : ByteArray) : getR s = (msg0, 201) ∨ ∃ k, getR s = (k, 0) ∧ OkM k ∧ putR k = (s, 0) := by
  cases ho : CrcW.openB s with
  | false => exact .inl (get_shut ho)
  | true =>
    cases hx : seeP (CrcW.headB s) with
    | error y => exact .inl (get_err hx)
    | ok a =>
      obtain ⟨k, r⟩ := a
      by_cases hr : r.toList.isEmpty = true ∧ OkM k
      · refine .inr ⟨k, get_all ho hx hr, hr.2, ?_⟩
        rw [putR_yes hr.2]
        have h1 := see_inv hx (ok_kind hr.2)
        have h2 : r.data.toList = [] := by
          have h3 := hr.1
          rw [ByteArray.toList_eq] at h3
          simpa using h3
        rw [h2, List.append_nil] at h1
        have h4 : (⟨(msgB k).toArray⟩ : ByteArray) = CrcW.headB s := BA_ext (by rw [h1])
        rw [h4]
        have h5 : CrcW.sealB (CrcW.headB s) = s := by
          unfold CrcW.openB at ho
          exact Nt.toList_eq (beq_iff_eq.1 ho)
        rw [h5]
      · exact .inl (get_more hx hr)
end Go.Proofs.YtfjmcklmoebnaaaDoor.Mg
