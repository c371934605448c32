/- What was put of a message is seen so. -/
import Derived.Test.YtfjmcklmoebnaaaDoorMgF
namespace Go.Proofs.YtfjmcklmoebnaaaDoor.Mg
open Go.RowKit Go.Proofs.YtfjmcklmoebnaaaDoor.Nt
open Go.Proofs.YtfjmcklmoebnaaaDoor.Oct (numL putL numL_snoc putL_snoc putL_len headT head_len cutT gotNum gotText)
open Go.Proofs.YtfjmcklmoebnaaaDoor.Vc (numB numB_len vecB vecTo seeV)
set_option linter.unusedVariables false

theorem num_takeS (U k : Nat) (h : U < 2 ^ (8 * k)) (j : Nat) (hj : j ≤ k) : numL ((putL U k).take j) = U / 2 ^ (8 * (k - j)) := by
  induction j with
  | zero =>
    rw [Nat.sub_zero, Nat.div_eq_of_lt h]
    rfl
  | succ j ih =>
    rw [putL_snoc U k j hj, numL_snoc, ih (by omega), UInt8.toNat_ofNat']
    have e : 8 * (k - j) = 8 * (k - 1 - j) + 8 := by omega
    have e2 : k - (j + 1) = k - 1 - j := by omega
    rw [e, e2, Nat.pow_add, ← Nat.div_div_eq_div_mul]
    generalize U / 2 ^ (8 * (k - 1 - j)) = V
    show V / 256 * 256 + V % 256 % 256 = V
    omega
theorem put_numS (U k : Nat) (h : U < 2 ^ (8 * k)) : numL (putL U k) = U := by
  have e := num_takeS U k h k (Nat.le_refl _)
  rw [List.take_of_length_le (by rw [putL_len]; exact Nat.le_refl _), Nat.sub_self, Nat.mul_zero, Nat.pow_zero, Nat.div_one] at e
  exact e
def BA (l : List UInt8) : ByteArray := ⟨l.toArray⟩
theorem BA_list (l : List UInt8) : (BA l).data.toList = l := by unfold BA; simp
theorem BA_size (l : List UInt8) : (BA l).size = l.length := by unfold BA; simp [ByteArray.size]
theorem BA_ext {a b : ByteArray} (h : a.data.toList = b.data.toList) : a = b := by
  apply ByteArray.ext
  exact Array.toList_inj.1 h
theorem BA_bytes (s : ByteArray) : BA s.data.toList = s := BA_ext (BA_list _)
theorem BA_drop (a b : List UInt8) (k : Nat) (hk : a.length = k) : (BA (a ++ b)).extract k (BA (a ++ b)).size = BA b := by
  apply BA_ext
  rw [BA_list, BA_size]
  have h : ((BA (a ++ b)).extract k (a ++ b).length).data.toList = ((a ++ b).drop k).take ((a ++ b).length - k) := by
    rw [ByteArray.data_extract, Array.toList_extract, BA_list]
  rw [h, ← hk]
  simp
theorem BA_take (a b : List UInt8) (k : Nat) (hk : a.length = k) : (BA (a ++ b)).extract 0 k = BA a := by
  apply BA_ext
  rw [BA_list]
  have h : ((BA (a ++ b)).extract 0 k).data.toList = ((a ++ b).drop 0).take (k - 0) := by
    rw [ByteArray.data_extract, Array.toList_extract, BA_list]
  rw [h, ← hk]
  simp
theorem num_got (a b : List UInt8) (k : Nat) (h1 : 1 ≤ k) (h8 : k ≤ 8) (hk : a.length = k) (hv : numL a < 9223372036854775808) : gotNum (BA (a ++ b)) k = .num (numL a : Nat) (BA b) := by
  unfold gotNum
  have ht : (a ++ b).take k = a := by rw [← hk]; simp
  rw [if_pos ⟨by omega, by omega⟩, BA_size, if_pos (by rw [List.length_append]; omega), BA_list, Int.toNat_natCast, ht, if_pos hv, ← BA_size, BA_drop a b k hk]
theorem text_got (t b : List UInt8) (most : Int) (hm : (t.length : Int) ≤ most) (h2 : t.length < 65536) : gotText (BA (headT t.length ++ t ++ b)) most = .txt (BA t) (BA b) := by
  unfold gotText
  have hn : numL (headT t.length) = t.length := by
    show (0 * 256 + (UInt8.ofNat (t.length / 256)).toNat) * 256 + (UInt8.ofNat (t.length % 256)).toNat = t.length
    rw [UInt8.toNat_ofNat', UInt8.toNat_ofNat']
    show (0 * 256 + t.length / 256 % 256) * 256 + t.length % 256 % 256 = t.length
    omega
  have ht : (headT t.length ++ t ++ b).take 2 = headT t.length := by rw [List.append_assoc, List.take_append_of_le_length (by rw [head_len]; exact Nat.le_refl _)]; simp [headT]
  have hl : (headT t.length ++ t ++ b).length = 2 + t.length + b.length := by simp only [List.length_append, head_len]
  rw [BA_list, ht, hn, if_pos (by rw [BA_size, hl]; omega), if_pos hm, if_pos (by rw [BA_size, hl]; omega), List.append_assoc, BA_drop (headT t.length) (t ++ b) 2 (head_len _), BA_take t b _ rfl, BA_drop t b _ rfl]

theorem numB_back {x : Int} {k : Nat} (h0 : 0 ≤ x) (h1 : x < 2 ^ (8 * k)) (hk : k ≤ 7) : numL (numB x k) = x.toNat := by
  unfold numB
  have hb : (2 : Int) ^ (8 * k) ≤ 72057594037927936 := by
    have : (2 : Nat) ^ (8 * k) ≤ 2 ^ 56 := Nat.pow_le_pow_right (by omega) (by omega)
    have h3 : ((2 ^ (8 * k) : Nat) : Int) ≤ ((2 ^ 56 : Nat) : Int) := by exact_mod_cast this
    simpa using h3
  have e : IntKind.u64.wrap x = x := by rw [IntKind.wrap_u64]; omega
  rw [e]
  refine put_numS _ _ ?_
  have h4 : ((x.toNat : Nat) : Int) < ((2 ^ (8 * k) : Nat) : Int) := by
    rw [Int.toNat_of_nonneg h0]
    simpa using h1
  exact_mod_cast h4
theorem gN_back {x : Int} {k : Nat} (l : List UInt8) (h0 : 0 ≤ x) (hx : x < 2 ^ (8 * k)) (h1 : 1 ≤ k) (h7 : k ≤ 7) (hs : x < 9223372036854775808) : gN (BA (numB x k ++ l)) k = .ok (x, BA l) := by
  have hn := numB_back h0 hx h7
  have g := num_got (numB x k) l k h1 (by omega) (numB_len _ _) (by rw [hn]; omega)
  unfold gN
  rw [g, hn]
  dsimp only
  rw [Int.toNat_of_nonneg h0]
theorem gN1 {x : Int} (l : List UInt8) (h0 : 0 ≤ x) (h1 : x ≤ 7) : gN (BA (numB x 1 ++ l)) 1 = .ok (x, BA l) := gN_back (k := 1) l h0 (by show x < 256; omega) (by omega) (by omega) (by omega)
theorem gN2 {x : Int} (l : List UInt8) (h0 : 0 ≤ x) (h1 : x ≤ 5000) : gN (BA (numB x 2 ++ l)) 2 = .ok (x, BA l) := gN_back (k := 2) l h0 (by show x < 65536; omega) (by omega) (by omega) (by omega)
theorem gN6 {x : Int} (l : List UInt8) (h0 : 0 ≤ x) (h1 : x ≤ 1099511627776) : gN (BA (numB x 6 ++ l)) 6 = .ok (x, BA l) := gN_back (k := 6) l h0 (by show x < 281474976710656; omega) (by omega) (by omega) (by omega)
theorem gT_back (s : ByteArray) (l : List UInt8) (h : s.size ≤ 512) : gT (BA (textB s ++ l)) 512 = .ok (s, BA l) := by
  have e : cutT s = s.data.toList := List.take_of_length_le (by simp; exact Nat.le_trans h (by omega))
  have lk : s.data.toList.length = s.size := rfl
  have g := text_got s.data.toList l 512 (by rw [lk]; omega) (by rw [lk]; omega)
  unfold gT textB
  rw [e, g]
  dsimp only
  rw [BA_bytes]
theorem vec_cut (x : Nat → Int) : ∀ (k : Nat) (l : List UInt8) (i : Nat), i < k → ((vecTo x k ++ l).drop (6 * i)).take 6 = numB (x i) 6
  | 0, _, i, h => by omega
  | k + 1, l, i, h => by
    have e : vecTo x (k + 1) ++ l = vecTo x k ++ (numB (x k) 6 ++ l) := by show (vecTo x k ++ numB (x k) 6) ++ l = _; rw [List.append_assoc]
    rw [e]
    by_cases hi : i < k
    · exact vec_cut x k _ i hi
    · obtain rfl : i = k := by omega
      have hl : (vecTo x i).length = 6 * i := Vc.vecTo_len x i
      rw [← hl, List.drop_left]
      exact List.take_left' (numB_len _ _)
theorem good_in {x : Nat → Int} (h : Vc.goodB x = true) {i : Nat} (hi : i < 8) : 0 ≤ x i ∧ x i ≤ 1099511627776 := Vc.goodB_iff.1 h i hi
theorem seeV_back {x : Nat → Int} (h : Vc.goodB x = true) (l : List UInt8) {i : Nat} (hi : i < 8) : seeV (BA (vecB x ++ l)) i = x i := by
  have hg := good_in h hi
  show ((numL (((BA (vecB x ++ l)).data.toList.drop (6 * i)).take 6) : Nat) : Int) = x i
  have e : (vecB x ++ l) = vecTo x 8 ++ l := rfl
  rw [BA_list, e, vec_cut x 8 l i hi, numB_back hg.1 (by show x i < 281474976710656; omega) (by omega)]
  omega
theorem gV_back {x : Nat → Int} (h : Vc.goodB x = true) (l : List UInt8) : gV (BA (vecB x ++ l)) = .ok (seeV (BA (vecB x ++ l)), BA l) := by
  unfold gV
  have h48 : (vecB x).length = 48 := vecB_len x
  rw [if_pos ⟨by rw [BA_size, List.length_append, h48]; omega, Vc.goodB_iff.2 fun i hi => by rw [seeV_back h l hi]; exact good_in h hi⟩, BA_drop _ _ 48 h48]
theorem gM_back {k : Int × Int} (h : MarkOk k) (l : List UInt8) : gM (BA (markB k ++ l)) = .ok (k, BA l) := by
  have hr : (0 ≤ k.1 ∧ k.1 ≤ 1099511627776) ∧ (0 ≤ k.2 ∧ k.2 ≤ 1099511627776) := by
    rcases h with h | h
    · unfold NoneP at h
      omega
    · unfold InB at h
      omega
  have e : markB k ++ l = numB k.1 6 ++ (numB k.2 6 ++ l) := by unfold markB; rw [List.append_assoc]
  rw [e]
  unfold gM
  have g1 := gN6 (numB k.2 6 ++ l) hr.1.1 hr.1.2
  have g2 := gN6 l hr.2.1 hr.2.2
  rw [bnd_ok g1]
  unfold gM2
  rw [bnd_ok g2]
theorem msgC_ext {x y : MsgP} (h1 : x.kind = y.kind) (h2 : x.fr = y.fr) (h3 : x.to = y.to) (h4 : x.vol = y.vol) (h5 : x.base = y.base) (h6 : x.mark = y.mark) (h7 : x.ix = y.ix) (h8 : x.tot = y.tot) (h9 : ∀ i, i < 8 → x.seen i = y.seen i) (h10 : x.data = y.data) : msgC x = msgC y := by
  unfold msgC
  rw [h1, h2, h3, h4, h5, h6, h7, h8, h9 0 (by omega), h9 1 (by omega), h9 2 (by omega), h9 3 (by omega), h9 4 (by omega), h9 5 (by omega), h9 6 (by omega), h9 7 (by omega), h10]
theorem head_split (m : MsgP) (l : List UInt8) : headB m ++ l = numB m.kind 1 ++ (numB m.fr 1 ++ (numB m.to 1 ++ (numB m.vol 1 ++ l))) := by
  have e : headB m = (((([] : List UInt8) ++ numB m.kind 1) ++ numB m.fr 1) ++ numB m.to 1) ++ numB m.vol 1 := rfl
  rw [e]
  simp only [List.nil_append, List.append_assoc]
theorem see_head {m : MsgP} (h : HeadOk m) (l : List UInt8) : seeP (BA (headB m ++ (vecB m.seen ++ l))) = tl1 { hdM m.kind m.fr m.to m.vol with seen := seeV (BA (vecB m.seen ++ l)) } (BA l) := by
  obtain ⟨h1, h2, h3, _, h4, h5⟩ := h
  unfold InB at h1 h2 h3 h4
  rw [head_split]
  have g1 := gN1 (x := m.kind) (numB m.fr 1 ++ (numB m.to 1 ++ (numB m.vol 1 ++ (vecB m.seen ++ l)))) (by omega) (by omega)
  have g2 := gN1 (x := m.fr) (numB m.to 1 ++ (numB m.vol 1 ++ (vecB m.seen ++ l))) (by omega) (by omega)
  have g3 := gN1 (x := m.to) (numB m.vol 1 ++ (vecB m.seen ++ l)) (by omega) (by omega)
  have g4 := gN1 (x := m.vol) (vecB m.seen ++ l) (by omega) (by omega)
  have g5 := gV_back h5 l
  unfold seeP
  rw [bnd_ok g1]
  unfold sn1
  rw [bnd_ok g2]
  unfold sn2
  rw [bnd_ok g3]
  unfold sn3
  rw [bnd_ok g4]
  unfold sn4
  rw [bnd_ok g5]
theorem see_back {m : MsgP} (h : OkM m) : ∃ m', seeP (BA (msgB m)) = .ok (m', BA []) ∧ msgC m' = msgC m := by
  have hbare := sameM_yes h.2.2.2.1
  have hd := ok_data h
  obtain ⟨hh, hb, hm, _, hk⟩ := h
  have hg := hh.2.2.2.2.2
  rcases ok_kind ⟨hh, hb, hm, sameM_of hbare, hk⟩ with q | q | q | q
  · have k1 := ((kind_1 q).1 hk).1
    unfold InB at k1
    rw [msgB_1 q]
    have e : headB m ++ vecB m.seen ++ markB m.base ++ markB m.mark ++ numB m.ix 2 = headB m ++ (vecB m.seen ++ (markB m.base ++ (markB m.mark ++ (numB m.ix 2 ++ [])))) := by simp only [List.append_assoc, List.append_nil]
    rw [e, see_head hh]
    refine ⟨{ hdM m.kind m.fr m.to m.vol with seen := seeV (BA (vecB m.seen ++ (markB m.base ++ (markB m.mark ++ (numB m.ix 2 ++ []))))), base := m.base, mark := m.mark, ix := m.ix }, ?_, ?_⟩
    · unfold tl1
      rw [if_pos (.inl q), bnd_ok (gM_back hb _)]
      unfold tl2
      rw [bnd_ok (gM_back hm _), if_neg (by show ¬ m.kind = 4; omega)]
      unfold tl3
      rw [bnd_ok (gN2 (x := m.ix) [] (by omega) (by omega))]
      unfold tl4
      rw [if_neg (by show ¬ m.kind = 2; omega)]
    · rw [hbare, bare_1 q]
      exact msgC_ext rfl rfl rfl rfl rfl rfl rfl rfl (fun i hi => seeV_back hg _ hi) rfl
  · obtain ⟨_, k1, k2, k3⟩ := (kind_2 q).1 hk
    unfold InB at k1 k2 k3
    rw [msgB_2 q]
    have e : headB m ++ vecB m.seen ++ markB m.base ++ markB m.mark ++ numB m.ix 2 ++ numB m.tot 2 ++ textB m.data = headB m ++ (vecB m.seen ++ (markB m.base ++ (markB m.mark ++ (numB m.ix 2 ++ (numB m.tot 2 ++ (textB m.data ++ [])))))) := by simp only [List.append_assoc, List.append_nil]
    rw [e, see_head hh]
    refine ⟨{ hdM m.kind m.fr m.to m.vol with seen := seeV (BA (vecB m.seen ++ (markB m.base ++ (markB m.mark ++ (numB m.ix 2 ++ (numB m.tot 2 ++ (textB m.data ++ []))))))), base := m.base, mark := m.mark, ix := m.ix, tot := m.tot, data := m.data }, ?_, ?_⟩
    · unfold tl1
      rw [if_pos (.inr q), bnd_ok (gM_back hb _)]
      unfold tl2
      rw [bnd_ok (gM_back hm _), if_neg (by show ¬ m.kind = 4; omega)]
      unfold tl3
      rw [bnd_ok (gN2 (x := m.ix) _ (by omega) (by omega))]
      unfold tl4
      rw [if_pos (by show m.kind = 2; exact q), bnd_ok (gN2 (x := m.tot) _ (by omega) (by omega))]
      unfold tl5
      rw [bnd_ok (gT_back m.data [] hd)]
    · rw [hbare, bare_2 q]
      exact msgC_ext rfl rfl rfl rfl rfl rfl rfl rfl (fun i hi => seeV_back hg _ hi) rfl
  · rw [msgB_3 q]
    have e : headB m ++ vecB m.seen = headB m ++ (vecB m.seen ++ []) := by rw [List.append_nil]
    rw [e, see_head hh]
    refine ⟨{ hdM m.kind m.fr m.to m.vol with seen := seeV (BA (vecB m.seen ++ [])) }, ?_, ?_⟩
    · unfold tl1
      rw [if_neg (by show ¬ (m.kind = 1 ∨ m.kind = 2); omega), if_neg (by show ¬ m.kind = 4; omega)]
    · rw [hbare, bare_3 q]
      exact msgC_ext rfl rfl rfl rfl rfl rfl rfl rfl (fun i hi => seeV_back hg _ hi) rfl
  · rw [msgB_4 q]
    have e : headB m ++ vecB m.seen ++ markB m.mark = headB m ++ (vecB m.seen ++ (markB m.mark ++ [])) := by simp only [List.append_assoc, List.append_nil]
    rw [e, see_head hh]
    refine ⟨{ hdM m.kind m.fr m.to m.vol with seen := seeV (BA (vecB m.seen ++ (markB m.mark ++ []))), mark := m.mark }, ?_, ?_⟩
    · unfold tl1
      rw [if_neg (by show ¬ (m.kind = 1 ∨ m.kind = 2); omega), if_pos (by show m.kind = 4; exact q)]
      unfold tl2
      rw [bnd_ok (gM_back hm _), if_pos (by show m.kind = 4; exact q)]
    · rw [hbare, bare_4 q]
      exact msgC_ext rfl rfl rfl rfl rfl rfl rfl rfl (fun i hi => seeV_back hg _ hi) rfl
theorem ok_same {x y : MsgP} (h : msgC x = msgC y) (hx : OkM x) : OkM y := by
  have f : ∀ (i : Nat) (a b : Value), (msgC x)[i]? = some a → (msgC y)[i]? = some b → a = b := fun i a b h1 h2 => by rw [h] at h1; exact Option.some.inj (h1.symm.trans h2)
  have i0 : x.kind = y.kind := by have := f 0 _ _ rfl rfl; injection this
  have i1 : x.fr = y.fr := by have := f 1 _ _ rfl rfl; injection this
  have i2 : x.to = y.to := by have := f 2 _ _ rfl rfl; injection this
  have i3 : x.vol = y.vol := by have := f 3 _ _ rfl rfl; injection this
  have i4 : x.base.1 = y.base.1 := by have := f 4 _ _ rfl rfl; injection this
  have i5 : x.base.2 = y.base.2 := by have := f 5 _ _ rfl rfl; injection this
  have i6 : x.mark.1 = y.mark.1 := by have := f 6 _ _ rfl rfl; injection this
  have i7 : x.mark.2 = y.mark.2 := by have := f 7 _ _ rfl rfl; injection this
  have i8 : x.ix = y.ix := by have := f 8 _ _ rfl rfl; injection this
  have i9 : x.tot = y.tot := by have := f 9 _ _ rfl rfl; injection this
  have s0 : x.seen 0 = y.seen 0 := by have := f 10 _ _ rfl rfl; injection this
  have s1 : x.seen 1 = y.seen 1 := by have := f 11 _ _ rfl rfl; injection this
  have s2 : x.seen 2 = y.seen 2 := by have := f 12 _ _ rfl rfl; injection this
  have s3 : x.seen 3 = y.seen 3 := by have := f 13 _ _ rfl rfl; injection this
  have s4 : x.seen 4 = y.seen 4 := by have := f 14 _ _ rfl rfl; injection this
  have s5 : x.seen 5 = y.seen 5 := by have := f 15 _ _ rfl rfl; injection this
  have s6 : x.seen 6 = y.seen 6 := by have := f 16 _ _ rfl rfl; injection this
  have s7 : x.seen 7 = y.seen 7 := by have := f 17 _ _ rfl rfl; injection this
  have i18 : x.data = y.data := by have := f 18 _ _ rfl rfl; injection this
  have hs : ∀ i, i < 8 → x.seen i = y.seen i := fun i hi => match i, hi with
    | 0, _ => s0 | 1, _ => s1 | 2, _ => s2 | 3, _ => s3 | 4, _ => s4 | 5, _ => s5 | 6, _ => s6 | 7, _ => s7
  have eb : x.base = y.base := Prod.ext i4 i5
  have em : x.mark = y.mark := Prod.ext i6 i7
  obtain ⟨⟨a1, a2, a3, a4, a5, a6⟩, b1, b2, b3, b4⟩ := hx
  have hbare : msgC (bareM x) = msgC (bareM y) := by
    unfold bareM
    rw [i0, eb, em, i8, i9, i18]
    exact msgC_ext rfl i1 i2 i3 rfl rfl rfl rfl hs rfl
  refine ⟨⟨by rw [← i0]; exact a1, by rw [← i1]; exact a2, by rw [← i2]; exact a3, by rw [← i1, ← i2]; exact a4, by rw [← i3]; exact a5, Vc.goodB_iff.2 fun i hi => by rw [← hs i hi]; exact Vc.goodB_iff.1 a6 i hi⟩, by rw [← eb]; exact b1, by rw [← em]; exact b2, sameM_of (h.symm.trans ((sameM_yes b3).trans hbare)), ?_⟩
  unfold KindOk at b4 ⊢
  rw [← i0, ← em, ← i8, ← i9, ← i18]
  exact b4
theorem get_back {m : MsgP} (h : OkM m) : msgC (getR (CrcW.sealB (BA (msgB m)))).1 = msgC m ∧ (getR (CrcW.sealB (BA (msgB m)))).2 = 0 := by
  obtain ⟨m', h1, h2⟩ := see_back h
  have e1 : CrcW.headB (CrcW.sealB (BA (msgB m))) = BA (msgB m) := CrcW.headB_seal _
  have e2 := get_all (CrcW.openB_seal (BA (msgB m))) (by rw [e1]; exact h1) ⟨by decide +kernel, ok_same h2.symm h⟩
  rw [e2]
  exact ⟨h2, rfl⟩
end Go.Proofs.YtfjmcklmoebnaaaDoor.Mg
