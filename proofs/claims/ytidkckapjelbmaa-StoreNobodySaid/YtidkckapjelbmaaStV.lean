/- What was laid is told: blocks and beginnings. -/
import Derived.Test.YtidkckapjelbmaaStU
namespace Go.Proofs.Ytidkckapjelbmaa.Sto
open Go.RowKit
open Oct (numL numL_snoc putL putL_len putL_snoc gotNum gotText gotRaw Got headT)

theorem num_take (U k : Nat) (h : U < 2 ^ (8 * k)) (j : Nat) (hj : j ≤ k) : numL ((putL U k).take j) = U / 2 ^ (8 * (k - j)) := by
  induction j with
  | zero =>
    rw [Nat.sub_zero, Nat.div_eq_of_lt h]
    rfl
  | succ j ih =>
    rw [putL_snoc U k j hj, numL_snoc, ih (by omega), UInt8.toNat_ofNat']
    have e : 8 * (k - j) = 8 * (k - 1 - j) + 8 := by omega
    have e2 : k - (j + 1) = k - 1 - j := by omega
    rw [e, e2, Nat.pow_add, ← Nat.div_div_eq_div_mul]
    generalize U / 2 ^ (8 * (k - 1 - j)) = V
    show V / 256 * 256 + V % 256 % 256 = V
    omega
theorem putL_num (U k : Nat) (h : U < 2 ^ (8 * k)) : numL (putL U k) = U := by
  have e := num_take U k h k (Nat.le_refl _)
  rw [List.take_of_length_le (by rw [putL_len]; exact Nat.le_refl _), Nat.sub_self, Nat.mul_zero, Nat.pow_zero, Nat.div_one] at e
  exact e
theorem numB_num (A k : Nat) (h : A < 9223372036854775808) (hk : A < 2 ^ (8 * k)) : numL (numB (A : Int) k) = A := by
  unfold numB
  rw [show (IntKind.u64.wrap (A : Int)).toNat = A by rw [IntKind.wrap_u64, Int.emod_eq_of_lt (by omega) (by omega)]; rfl]
  exact putL_num A k hk
theorem ext_take (L : List UInt8) (k : Nat) : (⟨L.toArray⟩ : ByteArray).extract 0 k = ⟨(L.take k).toArray⟩ := by
  apply ByteArray.ext
  rw [ByteArray.data_extract]
  simp [List.extract]
theorem ext_drop (L : List UInt8) (k : Nat) : (⟨L.toArray⟩ : ByteArray).extract k (⟨L.toArray⟩ : ByteArray).size = ⟨(L.drop k).toArray⟩ := by
  apply ByteArray.ext
  rw [ByteArray.data_extract]
  simp only [ByteArray.size, List.size_toArray, List.extract_toArray]
  congr 1
  rw [List.extract_eq_take_drop, List.take_of_length_le (by rw [List.length_drop]; exact Nat.le_refl _)]
theorem numL_two (n : Nat) (h : n < 65536) : numL (headT n) = n := by
  unfold headT numL
  simp only [List.foldl_cons, List.foldl_nil, UInt8.toNat_ofNat']
  omega
theorem got_num (k : Nat) (h1 : 1 ≤ k) (h8 : k ≤ 8) (v : Nat) (hv : v < 9223372036854775808) (hk : v < 2 ^ (8 * k)) (L : List UInt8) : gotNum ⟨(numB v k ++ L).toArray⟩ k = .num v ⟨L.toArray⟩ := by
  have e : (⟨(numB v k ++ L).toArray⟩ : ByteArray).data.toList.take (k : Int).toNat = numB v k := by
    show (numB v k ++ L).take (k : Int).toNat = _
    rw [Int.toNat_natCast, List.take_append_of_le_length (by rw [numB_len]; exact Nat.le_refl _), List.take_of_length_le (by rw [numB_len]; exact Nat.le_refl _)]
  have hs : (k : Int) ≤ (⟨(numB v k ++ L).toArray⟩ : ByteArray).size := by
    rw [arr_size, List.length_append, numB_len]
    omega
  unfold gotNum
  rw [if_pos ⟨by omega, by omega⟩, if_pos hs, e, numB_num v k hv hk, if_pos hv, Int.toNat_natCast, ext_drop, List.drop_append_of_le_length (by rw [numB_len]; exact Nat.le_refl _), List.drop_of_length_le (by rw [numB_len]; exact Nat.le_refl _), List.nil_append]
theorem got_text (t : ByteArray) (h : t.size ≤ 3900) (L : List UInt8) : gotText ⟨(textL t ++ L).toArray⟩ 3900 = .txt t ⟨L.toArray⟩ := by
  have e : (⟨(textL t ++ L).toArray⟩ : ByteArray).data.toList.take 2 = headT t.size := rfl
  have e2 : (⟨(textL t ++ L).toArray⟩ : ByteArray).extract 2 (⟨(textL t ++ L).toArray⟩ : ByteArray).size = ⟨(t.data.toList ++ L).toArray⟩ := by
    rw [ext_drop]
    rfl
  have hs : (⟨(textL t ++ L).toArray⟩ : ByteArray).size = t.size + 2 + L.length := by rw [arr_size, List.length_append, textL_len]
  have hl : t.data.toList.length = t.size := by rw [Array.length_toList]; rfl
  unfold gotText
  rw [if_pos (by omega), e, numL_two t.size (by omega), if_pos (by omega), if_pos (by omega), e2, ext_take, ext_drop, List.take_append_of_le_length (by omega), List.take_of_length_le (by omega), List.drop_append_of_le_length (by omega), List.drop_of_length_le (by omega), List.nil_append]
theorem kids_back (size : Int) : ∀ (ks acc : List Int) (L : List UInt8), (∀ k ∈ ks, nameB k size = true ∧ k < 4294967296) → kidsP size ks.length ⟨(kidsB ks ++ L).toArray⟩ acc = .ok (acc ++ ks, ⟨L.toArray⟩)
  | [], acc, L, _ => by rw [List.append_nil]; rfl
  | k :: ks, acc, L, h => by
    obtain ⟨h1, h2⟩ := h k List.mem_cons_self
    have h3 : 2 ≤ k := by
      unfold nameB at h1
      simp at h1
      exact h1.1
    obtain ⟨m, rfl⟩ := Int.eq_ofNat_of_zero_le (show 0 ≤ k by omega)
    have hg := got_num 4 (by omega) (by omega) m (by omega) (by omega) (kidsB ks ++ L)
    show kidsP size (ks.length + 1) ⟨(numB m 4 ++ kidsB ks ++ L).toArray⟩ acc = _
    rw [List.append_assoc]
    unfold kidsP
    rw [show gotNum ⟨(numB m 4 ++ (kidsB ks ++ L)).toArray⟩ 4 = .num m ⟨(kidsB ks ++ L).toArray⟩ from hg]
    show (if nameB m size = true then kidsP size ks.length ⟨(kidsB ks ++ L).toArray⟩ (acc ++ [(m : Int)]) else _) = _
    rw [if_pos h1, kids_back size ks _ L (fun x hx => h x (List.mem_cons_of_mem _ hx)), List.append_assoc]
    rfl
theorem block_back (size : Int) (ks : List Int) (t : ByteArray) (hk : ∀ k ∈ ks, nameB k size = true ∧ k < 4294967296) (hl : ks.length ≤ 16) (ht : t.size ≤ 3900) : blockP size ⟨(blockL ks t).toArray⟩ = .ok ((ks, t), ⟨#[]⟩) := by
  have hg := got_num 1 (by omega) (by omega) ks.length (by omega) (by omega) (kidsB ks ++ textL t)
  unfold blockP blockL
  rw [List.append_assoc, show gotNum ⟨(numB ks.length 1 ++ (kidsB ks ++ textL t)).toArray⟩ 1 = .num ks.length ⟨(kidsB ks ++ textL t).toArray⟩ from hg]
  show (if (ks.length : Int) ≤ 16 then tailP (kidsP size (ks.length : Int).toNat ⟨(kidsB ks ++ textL t).toArray⟩ []) else _) = _
  rw [if_pos (by omega), Int.toNat_natCast, kids_back size ks [] (textL t) hk]
  show textP ks ⟨(textL t).toArray⟩ = _
  have h2 := got_text t ht []
  rw [List.append_nil] at h2
  unfold textP
  rw [h2]
theorem begin_back (size : Nat) (g : Nat) (ro : Nat) (t : ByteArray) (hg : 1 ≤ g ∧ g ≤ 1099511627776) (hr : ro = 0 ∨ nameB ro size = true) (hs : size < 4294967296) (hro : ro < 4294967296) (ht : t.size ≤ 3900) : beginP size ⟨(beginL g ro size t).toArray⟩ = .ok (((g : Int), (ro : Int), t), ⟨#[]⟩) := by
  have h1 := got_num 6 (by omega) (by omega) g (by omega) (by omega) (numB ro 4 ++ (numB size 4 ++ textL t))
  have h2 := got_num 4 (by omega) (by omega) ro (by omega) (by omega) (numB size 4 ++ textL t)
  have h3 := got_num 4 (by omega) (by omega) size (by omega) (by omega) (textL t)
  have h4 := got_text t ht []
  rw [List.append_nil] at h4
  have h0 : gotRaw ⟨(beginL g ro size t).toArray⟩ 1 = .txt ⟨#[83]⟩ ⟨(numB g 6 ++ (numB ro 4 ++ (numB size 4 ++ textL t))).toArray⟩ := by
    have e : beginL g ro size t = [83] ++ (numB g 6 ++ (numB ro 4 ++ (numB size 4 ++ textL t))) := by unfold beginL; simp
    rw [e]
    unfold gotRaw
    rw [if_pos ⟨by omega, by rw [arr_size]; simp; omega⟩, show (1 : Int).toNat = 1 from rfl, ext_take, ext_drop]
    rfl
  unfold beginP
  rw [h0]
  show (if ((⟨#[83]⟩ : ByteArray).toList == [83]) = true then bg2 size ⟨(numB g 6 ++ (numB ro 4 ++ (numB size 4 ++ textL t))).toArray⟩ else _) = _
  rw [if_pos (by rw [ByteArray.toList_eq]; rfl)]
  unfold bg2
  rw [show gotNum ⟨(numB g 6 ++ (numB ro 4 ++ (numB size 4 ++ textL t))).toArray⟩ 6 = _ from h1]
  show (if (decide ((1 : Int) ≤ g) && decide ((g : Int) ≤ 1099511627776)) = true then bg3 size g ⟨(numB ro 4 ++ (numB size 4 ++ textL t)).toArray⟩ else _) = _
  rw [if_pos (by simp; omega)]
  unfold bg3
  rw [show gotNum ⟨(numB ro 4 ++ (numB size 4 ++ textL t)).toArray⟩ 4 = _ from h2]
  show (if ((ro : Int) == 0 || nameB ro size) = true then bg4 size g ro ⟨(numB size 4 ++ textL t).toArray⟩ else _) = _
  rw [if_pos (by rcases hr with e | e <;> simp [e])]
  unfold bg4
  rw [show gotNum ⟨(numB size 4 ++ textL t).toArray⟩ 4 = _ from h3]
  show (if ((size : Int) == size) = true then bg5 g ro ⟨(textL t).toArray⟩ else _) = _
  rw [if_pos (by simp)]
  unfold bg5
  rw [h4]
theorem seal_head (s : ByteArray) : CrcW.headB (CrcW.sealB s) = s := by
  unfold CrcW.headB
  rw [CrcW.sealB_size, Nat.add_sub_cancel]
  unfold CrcW.sealB
  rw [ByteArray.extract_append_eq_left rfl]
theorem seal_open (s : ByteArray) : CrcW.openB (CrcW.sealB s) = true := by
  unfold CrcW.openB
  rw [seal_head]
  simp
theorem parOf_seal {α : Type} (s : ByteArray) (a : α) (r : ByteArray) (hr : r = ⟨#[]⟩) : parOf (CrcW.sealB s) (.ok (a, r)) = some a := by
  subst hr
  have e : lookB (CrcW.sealB s) (.ok (a, (⟨#[]⟩ : ByteArray))) = true := by
    have h0 : Oct.endP (.ok (a, (⟨#[]⟩ : ByteArray)) : Oct.Par α) = 0 := by
      show Oct.why ⟨#[]⟩ false 0 = 0
      unfold Oct.why
      rw [ByteArray.toList_eq]
      rfl
    unfold lookB
    rw [seal_open, CrcW.sealB_size, h0]
    simp
  unfold parOf
  rw [if_pos e]
/-- A block that was laid is told. -/
theorem parseB_back (size : Int) (ks : List Int) (t : ByteArray) (hk : ∀ k ∈ ks, nameB k size = true ∧ k < 4294967296) (hl : ks.length ≤ 16) (ht : t.size ≤ 3900) : parseB size (blockB ks t) = some (ks, t) := by
  unfold parseB blockB
  rw [seal_head, block_back size ks t hk hl ht]
  exact parOf_seal _ _ _ rfl
/-- A beginning that was laid is told. -/
theorem parseG_back (size : Nat) (g : Nat) (ro : Nat) (t : ByteArray) (hg : 1 ≤ g ∧ g ≤ 1099511627776) (hr : ro = 0 ∨ nameB ro size = true) (hs : size < 4294967296) (hro : ro < 4294967296) (ht : t.size ≤ 3900) : parseG size (beginB g ro size t) = some ((g : Int), (ro : Int), t) := by
  unfold parseG beginB
  rw [seal_head, begin_back size g ro t hg hr hs hro ht]
  exact parOf_seal _ _ _ rfl
end Go.Proofs.Ytidkckapjelbmaa.Sto
