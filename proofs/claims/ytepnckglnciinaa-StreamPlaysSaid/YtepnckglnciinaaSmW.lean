/- Changes put as bytes, read back. -/
import Derived.Test.YtepnckglnciinaaSmV
namespace Go.Proofs.Ytepnckglnciinaa.Sm
open Go.RowKit Go.Proofs.Ytepnckglnciinaa.Mem Go.Proofs.Ytepnckglnciinaa.Oct
set_option linter.unusedVariables false

theorem num_takeS (U k : Nat) (h : U < 2 ^ (8 * k)) (j : Nat) (hj : j ≤ k) : numL ((putL U k).take j) = U / 2 ^ (8 * (k - j)) := by
  induction j with
  | zero =>
    rw [Nat.sub_zero, Nat.div_eq_of_lt h]
    rfl
  | succ j ih =>
    rw [putL_snoc U k j hj, numL_snoc, ih (by omega), UInt8.toNat_ofNat']
    have e : 8 * (k - j) = 8 * (k - 1 - j) + 8 := by omega
    have e2 : k - (j + 1) = k - 1 - j := by omega
    rw [e, e2, Nat.pow_add, ← Nat.div_div_eq_div_mul]
    generalize U / 2 ^ (8 * (k - 1 - j)) = V
    show V / 256 * 256 + V % 256 % 256 = V
    omega
theorem put_numS (U k : Nat) (h : U < 2 ^ (8 * k)) : numL (putL U k) = U := by
  have e := num_takeS U k h k (Nat.le_refl _)
  rw [List.take_of_length_le (by rw [putL_len]; exact Nat.le_refl _), Nat.sub_self, Nat.mul_zero, Nat.pow_zero, Nat.div_one] at e
  exact e
def BA (l : List UInt8) : ByteArray := ⟨l.toArray⟩
theorem BA_list (l : List UInt8) : (BA l).data.toList = l := by unfold BA; simp
theorem BA_size (l : List UInt8) : (BA l).size = l.length := by unfold BA; simp [ByteArray.size]
theorem BA_ext {a b : ByteArray} (h : a.data.toList = b.data.toList) : a = b := by
  apply ByteArray.ext
  exact Array.toList_inj.1 h
theorem BA_bytes (s : ByteArray) : BA s.data.toList = s := BA_ext (BA_list _)
theorem BA_drop (a b : List UInt8) (k : Nat) (hk : a.length = k) : (BA (a ++ b)).extract k (BA (a ++ b)).size = BA b := by
  apply BA_ext
  rw [BA_list, BA_size]
  have h : ((BA (a ++ b)).extract k (a ++ b).length).data.toList = ((a ++ b).drop k).take ((a ++ b).length - k) := by
    rw [ByteArray.data_extract, Array.toList_extract, BA_list]
  rw [h, ← hk]
  simp
theorem BA_take (a b : List UInt8) (k : Nat) (hk : a.length = k) : (BA (a ++ b)).extract 0 k = BA a := by
  apply BA_ext
  rw [BA_list]
  have h : ((BA (a ++ b)).extract 0 k).data.toList = ((a ++ b).drop 0).take (k - 0) := by
    rw [ByteArray.data_extract, Array.toList_extract, BA_list]
  rw [h, ← hk]
  simp
theorem num_got (a b : List UInt8) (k : Nat) (h1 : 1 ≤ k) (h8 : k ≤ 8) (hk : a.length = k) (hv : numL a < 9223372036854775808) : gotNum (BA (a ++ b)) k = .num (numL a : Nat) (BA b) := by
  unfold gotNum
  have ht : (a ++ b).take k = a := by rw [← hk]; simp
  rw [if_pos ⟨by omega, by omega⟩, BA_size, if_pos (by rw [List.length_append]; omega), BA_list, Int.toNat_natCast, ht, if_pos hv, ← BA_size, BA_drop a b k hk]
theorem text_got (t b : List UInt8) (most : Int) (hm : (t.length : Int) ≤ most) (h2 : t.length < 65536) : gotText (BA (headT t.length ++ t ++ b)) most = .txt (BA t) (BA b) := by
  unfold gotText
  have hn : numL (headT t.length) = t.length := by
    show (0 * 256 + (UInt8.ofNat (t.length / 256)).toNat) * 256 + (UInt8.ofNat (t.length % 256)).toNat = t.length
    rw [UInt8.toNat_ofNat', UInt8.toNat_ofNat']
    show (0 * 256 + t.length / 256 % 256) * 256 + t.length % 256 % 256 = t.length
    omega
  have ht : (headT t.length ++ t ++ b).take 2 = headT t.length := by rw [List.append_assoc, List.take_append_of_le_length (by rw [head_len]; exact Nat.le_refl _)]; simp [headT]
  have hl : (headT t.length ++ t ++ b).length = 2 + t.length + b.length := by simp only [List.length_append, head_len]
  rw [BA_list, ht, hn, if_pos (by rw [BA_size, hl]; omega), if_pos hm, if_pos (by rw [BA_size, hl]; omega), List.append_assoc, BA_drop (headT t.length) (t ++ b) 2 (head_len _), BA_take t b _ rfl, BA_drop t b _ rfl]
theorem cut_short {s : ByteArray} (h : s.size ≤ 65535) : cutT s = s.data.toList := by
  unfold cutT
  exact List.take_of_length_le h
theorem gi_num (g : Bool) : numL (numB (gi g) 1) = (if g then 1 else 0) := by cases g <;> kernel_rfl
theorem gi_back (g : Bool) : (((if g then 1 else 0 : Nat) : Int) == 1) = g := by cases g <;> rfl
theorem loop_back : ∀ (cs : List ChgP) (acc : List ChgP), (∀ c ∈ cs, c.key.size ≤ 64 ∧ c.val.size ≤ 300) → loopP cs.length (BA (cs.flatMap putC)) acc = .ok (acc ++ cs, ⟨#[]⟩)
  | [], acc, _ => by
    show Except.ok _ = _
    rw [List.append_nil]
    rfl
  | c :: cs, acc, h => by
    obtain ⟨h1, h2⟩ := h c List.mem_cons_self
    have ek : cutT c.key = c.key.data.toList := cut_short (by omega)
    have ev : cutT c.val = c.val.data.toList := cut_short (by omega)
    have lk : c.key.data.toList.length = c.key.size := rfl
    have lv : c.val.data.toList.length = c.val.size := rfl
    have e1 : (c :: cs).flatMap putC = numB (gi c.gone) 1 ++ (headT c.key.data.toList.length ++ c.key.data.toList ++ (headT c.val.data.toList.length ++ c.val.data.toList ++ cs.flatMap putC)) := by
      rw [List.flatMap_cons]
      unfold putC
      rw [ek, ev]
      simp only [List.append_assoc]
    rw [e1, List.length_cons]
    unfold loopP
    have g1 := num_got (numB (gi c.gone) 1) (headT c.key.data.toList.length ++ c.key.data.toList ++ (headT c.val.data.toList.length ++ c.val.data.toList ++ cs.flatMap putC)) 1 (by omega) (by omega) (numB_len _ _) (by rw [gi_num]; cases c.gone <;> decide)
    have g2 := text_got c.key.data.toList (headT c.val.data.toList.length ++ c.val.data.toList ++ cs.flatMap putC) 64 (by rw [lk]; omega) (by rw [lk]; omega)
    have g3 := text_got c.val.data.toList (cs.flatMap putC) 300 (by rw [lv]; omega) (by rw [lv]; omega)
    simp only [Int.natCast_one] at g1
    rw [g1]
    dsimp only
    rw [if_neg (by rw [gi_num]; cases c.gone <;> decide), g2]
    dsimp only
    rw [g3]
    dsimp only
    rw [gi_num, gi_back, BA_bytes, BA_bytes, loop_back cs _ (fun x hx => h x (List.mem_cons_of_mem _ hx))]
    rw [List.append_assoc]
    rfl
theorem get_back (cs : List ChgP) (hn : cs.length ≤ 1000000) (h : ∀ c ∈ cs, c.key.size ≤ 64 ∧ c.val.size ≤ 300) : getP ⟨(putD cs).toArray⟩ = .ok (cs, ⟨#[]⟩) := by
  show getP (BA (putD cs)) = _
  unfold getP putD
  have hv : numL (numB cs.length 4) = cs.length := by
    unfold numB
    have e : (IntKind.u64.wrap (cs.length : Int)).toNat = cs.length := by
      have : IntKind.u64.wrap (cs.length : Int) = cs.length := by unfold IntKind.wrap; simp [IntKind.signed, IntKind.bits]; omega
      rw [this]; simp
    rw [e]
    exact put_numS _ _ (by omega)
  have g := num_got (numB cs.length 4) (cs.flatMap putC) 4 (by omega) (by omega) (numB_len _ _) (by rw [hv]; omega)
  rw [hv] at g
  have e4 : ((4 : Nat) : Int) = 4 := rfl
  rw [e4] at g
  rw [g]
  dsimp only
  rw [Int.toNat_natCast, loop_back cs [] h]
  rfl
theorem sort_small : ∀ {cs : List ChgP} {last : ByteArray}, SortP last cs → ∀ c ∈ cs, c.key.size ≤ 64 ∧ c.val.size ≤ 300
  | [], _, _, c, hc => by cases hc
  | x :: cs, last, h, c, hc => by
    rcases List.mem_cons.1 hc with rfl | hc
    · exact ⟨h.1.2.2.1, h.1.2.2.2.1⟩
    · exact sort_small h.2 c hc
theorem gets_back {cs : List ChgP} {o : Option (List ChgP)} (hn : cs.length ≤ 1000000) (hs : SortP ⟨#[]⟩ cs) (h : GetsTo ⟨(putD cs).toArray⟩ o) : o = some cs := by
  have hg := get_back cs hn (sort_small hs)
  cases o with
  | none => exact absurd hs (h _ _ hg (by decide +kernel))
  | some ds =>
    obtain ⟨r, h1, _⟩ := h
    rw [hg] at h1
    injection h1 with h1
    injection h1 with h1 _
    rw [h1]
end Go.Proofs.Ytepnckglnciinaa.Sm
