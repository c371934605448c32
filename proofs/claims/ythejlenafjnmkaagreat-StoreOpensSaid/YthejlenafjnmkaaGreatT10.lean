import Derived.Test.YthejlenafjnmkaaGreatT9

/- What was laid is told: blocks and beginnings. -/
namespace Go.Proofs.YthejlenafjnmkaaGreat.Sto
open Go.RowKit
open Oct (numL numL_snoc putL putL_len putL_snoc gotNum gotText gotRaw Got headT)

theorem num_take (U k : Nat) (h : U < 2 ^ (8 * k)) (j : Nat) (hj : j ≤ k) : numL ((putL U k).take j) = U / 2 ^ (8 * (k - j)) := by
  induction j with
  | zero =>
    rw [Nat.sub_zero, Nat.div_eq_of_lt h]
    rfl
  | succ j ih =>
    rw [putL_snoc U k j hj, numL_snoc, ih (by omega), UInt8.toNat_ofNat']
    have e : 8 * (k - j) = 8 * (k - 1 - j) + 8 := by omega
    have e2 : k - (j + 1) = k - 1 - j := by omega
    rw [e, e2, Nat.pow_add, ← Nat.div_div_eq_div_mul]
    generalize U / 2 ^ (8 * (k - 1 - j)) = V
    show V / 256 * 256 + V % 256 % 256 = V
    omega
theorem putL_num (U k : Nat) (h : U < 2 ^ (8 * k)) : numL (putL U k) = U := by
  have e := num_take U k h k (Nat.le_refl _)
  rw [List.take_of_length_le (by rw [putL_len]; exact Nat.le_refl _), Nat.sub_self, Nat.mul_zero, Nat.pow_zero, Nat.div_one] at e
  exact e
theorem numB_num (A k : Nat) (h : A < 9223372036854775808) (hk : A < 2 ^ (8 * k)) : numL (numB (A : Int) k) = A := by
  unfold numB
  rw [show (IntKind.u64.wrap (A : Int)).toNat = A by rw [IntKind.wrap_u64, Int.emod_eq_of_lt (by omega) (by omega)]; rfl]
  exact putL_num A k hk
theorem ext_take (L : List UInt8) (k : Nat) : (⟨L.toArray⟩ : ByteArray).extract 0 k = ⟨(L.take k).toArray⟩ := by
  apply ByteArray.ext
  rw [ByteArray.data_extract]
  simp [List.extract]
theorem ext_drop (L : List UInt8) (k : Nat) : (⟨L.toArray⟩ : ByteArray).extract k (⟨L.toArray⟩ : ByteArray).size = ⟨(L.drop k).toArray⟩ := by
  apply ByteArray.ext
  rw [ByteArray.data_extract]
  simp only [ByteArray.size, List.size_toArray, List.extract_toArray]
  congr 1
  rw [List.extract_eq_take_drop, List.take_of_length_le (by rw [List.length_drop]; exact Nat.le_refl _)]
theorem numL_two (n : Nat) (h : n < 65536) : numL (headT n) = n := by
  unfold headT numL
  simp only [List.foldl_cons, List.foldl_nil, UInt8.toNat_ofNat']
  omega
theorem got_num (k : Nat) (h1 : 1 ≤ k) (h8 : k ≤ 8) (v : Nat) (hv : v < 9223372036854775808) (hk : v < 2 ^ (8 * k)) (L : List UInt8) : gotNum ⟨(numB v k ++ L).toArray⟩ k = .num v ⟨L.toArray⟩ := by
  have e : (⟨(numB v k ++ L).toArray⟩ : ByteArray).data.toList.take (k : Int).toNat = numB v k := by
    show (numB v k ++ L).take (k : Int).toNat = _
    rw [Int.toNat_natCast, List.take_append_of_le_length (by rw [numB_len]; exact Nat.le_refl _), List.take_of_length_le (by rw [numB_len]; exact Nat.le_refl _)]
  have hs : (k : Int) ≤ (⟨(numB v k ++ L).toArray⟩ : ByteArray).size := by
    rw [arr_size, List.length_append, numB_len]
    omega
  unfold gotNum
  rw [if_pos ⟨by omega, by omega⟩, if_pos hs, e, numB_num v k hv hk, if_pos hv, Int.toNat_natCast, ext_drop, List.drop_append_of_le_length (by rw [numB_len]; exact Nat.le_refl _), List.drop_of_length_le (by rw [numB_len]; exact Nat.le_refl _), List.nil_append]
theorem got_text (t : ByteArray) (h : t.size ≤ 3900) (L : List UInt8) : gotText ⟨(textL t ++ L).toArray⟩ 3900 = .txt t ⟨L.toArray⟩ := by
  have e : (⟨(textL t ++ L).toArray⟩ : ByteArray).data.toList.take 2 = headT t.size := rfl
  have e2 : (⟨(textL t ++ L).toArray⟩ : ByteArray).extract 2 (⟨(textL t ++ L).toArray⟩ : ByteArray).size = ⟨(t.data.toList ++ L).toArray⟩ := by
    rw [ext_drop]
    rfl
  have hs : (⟨(textL t ++ L).toArray⟩ : ByteArray).size = t.size + 2 + L.length := by rw [arr_size, List.length_append, textL_len]
  have hl : t.data.toList.length = t.size := by rw [Array.length_toList]; rfl
  unfold gotText
  rw [if_pos (by omega), e, numL_two t.size (by omega), if_pos (by omega), if_pos (by omega), e2, ext_take, ext_drop, List.take_append_of_le_length (by omega), List.take_of_length_le (by omega), List.drop_append_of_le_length (by omega), List.drop_of_length_le (by omega), List.nil_append]
theorem kids_back (size : Int) : ∀ (ks acc : List Int) (L : List UInt8), (∀ k ∈ ks, nameB k size = true ∧ k < 4294967296) → kidsP size ks.length ⟨(kidsB ks ++ L).toArray⟩ acc = .ok (acc ++ ks, ⟨L.toArray⟩)
  | [], acc, L, _ => by rw [List.append_nil]; rfl
  | k :: ks, acc, L, h => by
    obtain ⟨h1, h2⟩ := h k List.mem_cons_self
    have h3 : 2 ≤ k := by
      unfold nameB at h1
      simp at h1
      exact h1.1
    obtain ⟨m, rfl⟩ := Int.eq_ofNat_of_zero_le (show 0 ≤ k by omega)
    have hg := got_num 4 (by omega) (by omega) m (by omega) (by omega) (kidsB ks ++ L)
    show kidsP size (ks.length + 1) ⟨(numB m 4 ++ kidsB ks ++ L).toArray⟩ acc = _
    rw [List.append_assoc]
    unfold kidsP
    rw [show gotNum ⟨(numB m 4 ++ (kidsB ks ++ L)).toArray⟩ 4 = .num m ⟨(kidsB ks ++ L).toArray⟩ from hg]
    show (if nameB m size = true then kidsP size ks.length ⟨(kidsB ks ++ L).toArray⟩ (acc ++ [(m : Int)]) else _) = _
    rw [if_pos h1, kids_back size ks _ L (fun x hx => h x (List.mem_cons_of_mem _ hx)), List.append_assoc]
    rfl
theorem block_back (size : Int) (ks : List Int) (t : ByteArray) (hk : ∀ k ∈ ks, nameB k size = true ∧ k < 4294967296) (hl : ks.length ≤ 16) (ht : t.size ≤ 3900) : blockP size ⟨(blockL ks t).toArray⟩ = .ok ((ks, t), ⟨#[]⟩) := by
  have hg := got_num 1 (by omega) (by omega) ks.length (by omega) (by omega) (kidsB ks ++ textL t)
  unfold blockP blockL
  rw [List.append_assoc, show gotNum ⟨(numB ks.length 1 ++ (kidsB ks ++ textL t)).toArray⟩ 1 = .num ks.length ⟨(kidsB ks ++ textL t).toArray⟩ from hg]
  show (if (ks.length : Int) ≤ 16 then tailP (kidsP size (ks.length : Int).toNat ⟨(kidsB ks ++ textL t).toArray⟩ []) else _) = _
  rw [if_pos (by omega), Int.toNat_natCast, kids_back size ks [] (textL t) hk]
  show textP ks ⟨(textL t).toArray⟩ = _
  have h2 := got_text t ht []
  rw [List.append_nil] at h2
  unfold textP
  rw [h2]
theorem begin_back (size : Nat) (g : Nat) (ro : Nat) (t : ByteArray) (hg : 1 ≤ g ∧ g ≤ 1099511627776) (hr : ro = 0 ∨ nameB ro size = true) (hs : size < 4294967296) (hro : ro < 4294967296) (ht : t.size ≤ 3900) : beginP size ⟨(beginL g ro size t).toArray⟩ = .ok (((g : Int), (ro : Int), t), ⟨#[]⟩) := by
  have h1 := got_num 6 (by omega) (by omega) g (by omega) (by omega) (numB ro 4 ++ (numB size 4 ++ textL t))
  have h2 := got_num 4 (by omega) (by omega) ro (by omega) (by omega) (numB size 4 ++ textL t)
  have h3 := got_num 4 (by omega) (by omega) size (by omega) (by omega) (textL t)
  have h4 := got_text t ht []
  rw [List.append_nil] at h4
  have h0 : gotRaw ⟨(beginL g ro size t).toArray⟩ 1 = .txt ⟨#[83]⟩ ⟨(numB g 6 ++ (numB ro 4 ++ (numB size 4 ++ textL t))).toArray⟩ := by
    have e : beginL g ro size t = [83] ++ (numB g 6 ++ (numB ro 4 ++ (numB size 4 ++ textL t))) := by unfold beginL; simp
    rw [e]
    unfold gotRaw
    rw [if_pos ⟨by omega, by rw [arr_size]; simp; omega⟩, show (1 : Int).toNat = 1 from rfl, ext_take, ext_drop]
    rfl
  unfold beginP
  rw [h0]
  show (if ((⟨#[83]⟩ : ByteArray).toList == [83]) = true then bg2 size ⟨(numB g 6 ++ (numB ro 4 ++ (numB size 4 ++ textL t))).toArray⟩ else _) = _
  rw [if_pos (by rw [ByteArray.toList_eq]; rfl)]
  unfold bg2
  rw [show gotNum ⟨(numB g 6 ++ (numB ro 4 ++ (numB size 4 ++ textL t))).toArray⟩ 6 = _ from h1]
  show (if (decide ((1 : Int) ≤ g) && decide ((g : Int) ≤ 1099511627776)) = true then bg3 size g ⟨(numB ro 4 ++ (numB size 4 ++ textL t)).toArray⟩ else _) = _
  rw [if_pos (by simp; omega)]
  unfold bg3
  rw [show gotNum ⟨(numB ro 4 ++ (numB size 4 ++ textL t)).toArray⟩ 4 = _ from h2]
  show (if ((ro : Int) == 0 || nameB ro size) = true then bg4 size g ro ⟨(numB size 4 ++ textL t).toArray⟩ else _) = _
  rw [if_pos (by rcases hr with e | e <;> simp [e])]
  unfold bg4
  rw [show gotNum ⟨(numB size 4 ++ textL t).toArray⟩ 4 = _ from h3]
  show (if ((size : Int) == size) = true then bg5 g ro ⟨(textL t).toArray⟩ else _) = _
  rw [if_pos (by simp)]
  unfold bg5
  rw [h4]
theorem seal_head (s : ByteArray) : CrcW.headB (CrcW.sealB s) = s := by
  unfold CrcW.headB
  rw [CrcW.sealB_size, Nat.add_sub_cancel]
  unfold CrcW.sealB
  rw [ByteArray.extract_append_eq_left rfl]
theorem seal_open (s : ByteArray) : CrcW.openB (CrcW.sealB s) = true := by
  unfold CrcW.openB
  rw [seal_head]
  simp
theorem parOf_seal {α : Type} (s : ByteArray) (a : α) (r : ByteArray) (hr : r = ⟨#[]⟩) : parOf (CrcW.sealB s) (.ok (a, r)) = some a := by
  subst hr
  have e : lookB (CrcW.sealB s) (.ok (a, (⟨#[]⟩ : ByteArray))) = true := by
    have h0 : Oct.endP (.ok (a, (⟨#[]⟩ : ByteArray)) : Oct.Par α) = 0 := by
      show Oct.why ⟨#[]⟩ false 0 = 0
      unfold Oct.why
      rw [ByteArray.toList_eq]
      rfl
    unfold lookB
    rw [seal_open, CrcW.sealB_size, h0]
    simp
  unfold parOf
  rw [if_pos e]
/-- A block that was laid is told. -/
theorem parseB_back (size : Int) (ks : List Int) (t : ByteArray) (hk : ∀ k ∈ ks, nameB k size = true ∧ k < 4294967296) (hl : ks.length ≤ 16) (ht : t.size ≤ 3900) : parseB size (blockB ks t) = some (ks, t) := by
  unfold parseB blockB
  rw [seal_head, block_back size ks t hk hl ht]
  exact parOf_seal _ _ _ rfl
/-- A beginning that was laid is told. -/
theorem parseG_back (size : Nat) (g : Nat) (ro : Nat) (t : ByteArray) (hg : 1 ≤ g ∧ g ≤ 1099511627776) (hr : ro = 0 ∨ nameB ro size = true) (hs : size < 4294967296) (hro : ro < 4294967296) (ht : t.size ≤ 3900) : parseG size (beginB g ro size t) = some ((g : Int), (ro : Int), t) := by
  unfold parseG beginB
  rw [seal_head, begin_back size g ro t hg hr hs hro ht]
  exact parOf_seal _ _ _ rfl
end Go.Proofs.YthejlenafjnmkaaGreat.Sto
/- A store on a device that nothing befalls: what Format and Commit come to. -/
namespace Go.Proofs.YthejlenafjnmkaaGreat.Sto
open Go.RowKit

/-- A device that is on, and whose power does not end. -/
structure Calm (d : Dv.St) : Prop where
  on : d.on = true
  fuse : d.fuse = -1
theorem act_calm {d : Dv.St} (h : Calm d) : Dv.act d = d ∧ Dv.actE d = 0 := by
  unfold Dv.act Dv.actE
  rw [h.fuse]
  exact ⟨by rw [if_neg (by decide), if_neg (by decide)], if_neg (by decide)⟩
theorem wr_calm {d : Dv.St} (h : Calm d) {i : Int} {s : ByteArray} (h0 : 0 ≤ i) (h1 : i < d.size) (hs : s.size ≤ 4096) : Dv.wrE d i s = 0 ∧ Dv.wrD d i s = Dv.putD d i s := by
  have hi : Dv.inside d i = true := by
    unfold Dv.inside
    simp [h0, h1]
  have e := act_calm h
  unfold Dv.wrE Dv.wrD Dv.writeD
  rw [if_neg (by rw [h.on]; decide), if_neg (by rw [hi]; intro k; rcases k with k | k; cases k; omega), if_pos ⟨h.on, hi, hs⟩, if_neg (by rw [h.fuse]; decide), e.1]
  exact ⟨e.2, rfl⟩
theorem Calm.put {d : Dv.St} (h : Calm d) (i : Int) (s : ByteArray) : Calm (Dv.putD d i s) := ⟨h.on, h.fuse⟩
def calmFl (d : Dv.St) : Dv.St := { d with kept := fun z => (d.dirty z).or (d.kept z), dirty := fun _ => none }
theorem fl_calm {d : Dv.St} (h : Calm d) : Dv.flE d = 0 ∧ Dv.flD d = calmFl d := by
  have e := act_calm h
  unfold Dv.flE Dv.flD Dv.flushD
  rw [if_pos h.on, if_pos h.on, if_neg (by rw [h.fuse]; decide), e.1]
  exact ⟨e.2, rfl⟩
theorem Calm.fl {d : Dv.St} (h : Calm d) : Calm (calmFl d) := ⟨h.on, h.fuse⟩
theorem rd_calm {d : Dv.St} (h : Calm d) {i : Int} (h0 : 0 ≤ i) (h1 : i < d.size) : Dv.rdE d i = 0 ∧ Dv.rdS d i = Dv.readS d i := by
  have hi : Dv.inside d i = true := by
    unfold Dv.inside
    simp [h0, h1]
  unfold Dv.rdE Dv.rdS
  rw [if_neg (by rw [h.on]; decide), if_neg (by rw [hi]; decide), if_pos ⟨h.on, hi⟩]
  exact ⟨rfl, rfl⟩
theorem beginB_size (g ro size : Int) (t : ByteArray) : (beginB g ro size t).size = t.size + 25 := by
  unfold beginB
  rw [CrcW.sealB_size, arr_size]
  unfold beginL
  simp only [List.length_append, numB_len, textL_len, List.length_cons, List.length_nil]
  omega
theorem lay_calm {d : Dv.St} (h : Calm d) (hs : 2 ≤ d.size) (g ro : Int) (t : ByteArray) (ht : t.size ≤ 3900) : layE d g ro t = 0 ∧ layD d g ro t = Dv.putD (calmFl d) (g % 2) (beginB g ro d.size t) := by
  obtain ⟨e1, e2⟩ := fl_calm h
  have e3 := wr_calm h.fl (i := g % 2) (s := beginB g ro d.size t) (by omega) (by show g % 2 < d.size; omega) (by rw [beginB_size]; omega)
  unfold layE layD
  rw [if_pos e1, if_pos e1, e2]
  exact e3
/-- What a new store's device holds. -/
def fmtZ (note : ByteArray) (d : Dv.St) : Dv.St := calmFl (Dv.putD (calmFl (Dv.putD (Dv.putD d 0 ⟨#[]⟩) 1 ⟨#[]⟩)) 1 (beginB 1 0 d.size note))
theorem fmt_calm {d : Dv.St} (h : Calm d) (hs : 2 ≤ d.size) (note : ByteArray) (hn : note.size ≤ 3900) : fmtV note d = (true, 0, fmtZ note d) := by
  obtain ⟨e1, e2⟩ := wr_calm h (i := 0) (s := ⟨#[]⟩) (by omega) (by omega) (by decide)
  obtain ⟨e3, e4⟩ := wr_calm (h.put 0 ⟨#[]⟩) (i := 1) (s := ⟨#[]⟩) (by omega) (by show (1 : Int) < d.size; omega) (by decide)
  obtain ⟨e5, e6⟩ := lay_calm ((h.put 0 ⟨#[]⟩).put 1 ⟨#[]⟩) hs 1 0 note hn
  obtain ⟨e7, e8⟩ := fl_calm (((h.put 0 ⟨#[]⟩).put 1 ⟨#[]⟩).fl.put 1 (beginB 1 0 d.size note))
  have ew : wipe [0, 1] d = (0, Dv.putD (Dv.putD d 0 ⟨#[]⟩) 1 ⟨#[]⟩) := by
    unfold wipe
    rw [if_pos e1, e2]
    unfold wipe
    rw [if_pos e3, e4]
    rfl
  unfold fmtV fmtWiped
  rw [ew, if_pos rfl]
  unfold fmtLaid
  rw [if_pos e5, e6]
  show (true, Dv.flE (Dv.putD (calmFl (Dv.putD (Dv.putD d 0 ⟨#[]⟩) 1 ⟨#[]⟩)) 1 (beginB 1 0 d.size note)), Dv.flD (Dv.putD (calmFl (Dv.putD (Dv.putD d 0 ⟨#[]⟩) 1 ⟨#[]⟩)) 1 (beginB 1 0 d.size note))) = _
  rw [e7, e8]
  rfl
theorem commit_calm {s : SV} (h : Calm s.dev) (hs : 2 ≤ s.dev.size) (ro : Int) (t : ByteArray) (ht : t.size ≤ 3900) :
    commitV s ro t = ⟨s.gen + 1, ro, t, s.nodes, keptOf s ro, calmFl (Dv.putD (calmFl s.dev) ((s.gen + 1) % 2) (beginB (s.gen + 1) ro s.dev.size t))⟩ ∧ commitE s ro t = 0 := by
  obtain ⟨e1, e2⟩ := lay_calm h hs (s.gen + 1) ro t ht
  obtain ⟨e3, e4⟩ := fl_calm (h.fl.put ((s.gen + 1) % 2) (beginB (s.gen + 1) ro s.dev.size t))
  have e5 : commitE s ro t = 0 := by
    unfold commitE
    rw [if_pos e1, e2]
    exact e3
  have e6 : commitD s ro t = calmFl (Dv.putD (calmFl s.dev) ((s.gen + 1) % 2) (beginB (s.gen + 1) ro s.dev.size t)) := by
    unfold commitD
    rw [if_pos e1, e2]
    exact e4
  refine ⟨?_, e5⟩
  unfold commitV
  rw [if_pos e5, e6]
end Go.Proofs.YthejlenafjnmkaaGreat.Sto
/- The package's example, in pure terms. -/
namespace Go.Proofs.YthejlenafjnmkaaGreat.Sto
open Go.RowKit

def oneN : Int → Option NodeV := fun z => if z = 2 then some ⟨[], 1, 0, 0⟩ else none
def twoN : Int → Option NodeV := fun z => if z = 2 then some ⟨[], 1, 1, 0⟩ else if z = 3 then some ⟨[2], 2, 0, 0⟩ else none
theorem one_nodes {s : SV} (h : s.nodes = fun _ => none) : (addV s 2 []).nodes = oneN := by
  funext z
  show insN s.nodes 2 (newNode s []) z = oneN z
  unfold insN oneN newNode
  rw [h]
  rfl
theorem two_nodes {s : SV} (h : s.nodes = oneN) : (addV s 3 [2]).nodes = twoN := by
  funext z
  show bump1 (insN s.nodes 3 (newNode s [2])) 2 z = twoN z
  unfold newNode
  rw [h]
  unfold bump1 insN twoN oneN
  by_cases e : z = 2
  · subst e
    simp [wrap64]
  · by_cases e3 : z = 3
    · subst e3
      rfl
    · simp [e, e3]
theorem two_down : Down twoN := by
  intro z n hz
  unfold twoN at hz
  split at hz
  · injection hz with hz
    subst hz
    exact ⟨by decide, by decide, fun k hk => by cases hk⟩
  · split at hz
    · injection hz with hz
      subst hz
      refine ⟨by decide, by decide, fun k hk => ?_⟩
      rw [List.mem_singleton.1 hk]
      exact ⟨⟨[], 1, 1, 0⟩, rfl, by decide⟩
    · cases hz
theorem two_low {s : SV} (h : s.nodes = twoN) : Low s := by
  intro z n hz
  rw [h] at hz
  unfold twoN at hz
  split at hz
  · injection hz with hz
    subst hz
    exact ⟨by decide, by decide⟩
  · split at hz
    · injection hz with hz
      subst hz
      exact ⟨by decide, by decide⟩
    · cases hz
def tA : ByteArray := ⟨#[97]⟩
def tB : ByteArray := ⟨#[98]⟩
def tN : ByteArray := ⟨#[110]⟩
def aZ : Dv.St := fmtZ ⟨#[]⟩ (Dv.newSt 8)
theorem a_calm : Calm aZ := ((((Calm.put ⟨rfl, rfl⟩ 0 _).put 1 _).fl).put 1 _).fl
theorem a_fmt : fmtV ⟨#[]⟩ (Dv.newSt 8) = (true, 0, aZ) := fmt_calm ⟨rfl, rfl⟩ (by decide) _ (by decide)
def aS0 : SV := bareV 1 0 ⟨#[]⟩ aZ
def aS1 : SV := addV { aS0 with dev := Dv.putD aZ 2 (blockB [] tA) } 2 []
theorem a_put1 : putV aS0 [] tA = (2, 0, aS1) := by
  obtain ⟨e1, e2⟩ := wr_calm a_calm (i := 2) (s := blockB [] tA) (by decide) (by decide) (by rw [blockB_size]; decide)
  unfold putV
  rw [if_pos (show canB aS0 [] tA = true by decide), show least aS0 = some 2 by rfl]
  unfold putAt
  show (if Dv.wrE aZ 2 (blockB [] tA) = 0 then _ else _) = _
  rw [if_pos e1]
  show ((2 : Int), (0 : Int), addV { aS0 with dev := Dv.wrD aZ 2 (blockB [] tA) } 2 []) = _
  rw [e2]
  rfl
theorem a_nodes1 : aS1.nodes = oneN := one_nodes rfl
def aS2 : SV := addV { aS1 with dev := Dv.putD aS1.dev 3 (blockB [2] tB) } 3 [2]
theorem a_nodes2 : aS2.nodes = twoN := two_nodes a_nodes1
theorem a_put2 : putV aS1 [2] tB = (3, 0, aS2) := by
  obtain ⟨e1, e2⟩ := wr_calm (a_calm.put 2 (blockB [] tA)) (i := 3) (s := blockB [2] tB) (by decide) (by decide) (by rw [blockB_size]; decide)
  have hc : canB aS1 [2] tB = true := by
    unfold canB allB aboveV
    rw [a_nodes1]
    decide
  have hl : least aS1 = some 3 := by
    show leastFrom aS1 6 2 = some 3
    unfold leastFrom
    rw [if_neg (show ¬ freeB aS1 ((2 : Nat) : Int) = true by unfold freeB; rw [a_nodes1]; decide)]
    unfold leastFrom
    rw [if_pos (show freeB aS1 ((2 + 1 : Nat) : Int) = true by unfold freeB; rw [a_nodes1]; rfl)]
  unfold putV
  rw [if_pos hc, hl]
  unfold putAt
  show (if Dv.wrE aS1.dev 3 (blockB [2] tB) = 0 then _ else _) = _
  rw [if_pos (show Dv.wrE aS1.dev 3 (blockB [2] tB) = 0 from e1)]
  show ((3 : Int), (0 : Int), addV { aS1 with dev := Dv.wrD aS1.dev 3 (blockB [2] tB) } 3 [2]) = _
  rw [show Dv.wrD aS1.dev 3 (blockB [2] tB) = Dv.putD aS1.dev 3 (blockB [2] tB) from e2]
  rfl
def aS3 : SV := { aS2 with nodes := heldN aS2.nodes 3 1 }
theorem a_calm3 : Calm aS3.dev := (a_calm.put 2 (blockB [] tA)).put 3 (blockB [2] tB)
def aD4 : Dv.St := calmFl (Dv.putD (calmFl aS3.dev) 0 (beginB 2 3 8 tN))
theorem a_commit : commitE aS3 3 tN = 0 ∧ commitV aS3 3 tN = ⟨2, 3, tN, aS3.nodes, keptOf aS3 3, aD4⟩ := by
  obtain ⟨e1, e2⟩ := commit_calm a_calm3 (by decide) 3 tN (by decide)
  exact ⟨e2, e1⟩
/-- The device behind a crash, and a start. -/
def aD5 : Dv.St := Dv.startD (Dv.crashD aD4 [])
theorem a_calm5 : Calm aD5 := ⟨rfl, rfl⟩
theorem a_re (i : Int) (h0 : 0 ≤ i) (h1 : i < 8) : Dv.rdE aD5 i = 0 := (rd_calm a_calm5 h0 (show i < aD5.size from h1)).1
theorem a_rd0 : Dv.rdS aD5 0 = beginB 2 3 8 tN := (rd_calm a_calm5 (by decide) (by decide)).2.trans rfl
theorem a_rd1 : Dv.rdS aD5 1 = beginB 1 0 8 ⟨#[]⟩ := (rd_calm a_calm5 (by decide) (by decide)).2.trans rfl
theorem a_rd2 : Dv.rdS aD5 2 = blockB [] tA := (rd_calm a_calm5 (by decide) (by decide)).2.trans rfl
theorem a_rd3 : Dv.rdS aD5 3 = blockB [2] tB := (rd_calm a_calm5 (by decide) (by decide)).2.trans rfl
theorem a_new : newV aD5 = ((2, 3, tN), 0) := by
  have g0 : parseG aD5.size (beginB 2 3 8 tN) = some (2, 3, tN) := parseG_back 8 2 3 tN (by decide) (.inr (by decide)) (by decide) (by decide) (by decide)
  have g1 : parseG aD5.size (beginB 1 0 8 ⟨#[]⟩) = some (1, 0, ⟨#[]⟩) := parseG_back 8 1 0 ⟨#[]⟩ (by decide) (.inl rfl) (by decide) (by decide) (by decide)
  unfold newV
  unfold scanV
  rw [if_pos (a_re 0 (by decide) (by decide)), a_rd0, g0]
  unfold scanV
  rw [if_pos (a_re 1 (by decide) (by decide)), a_rd1, g1]
  rfl
def aB : SV := bareV 2 3 tN aD5
def aL1 : SV := addV aB 2 []
def aL : SV := addV aL1 3 [2]
theorem a_nodesL : aL.nodes = twoN := two_nodes (one_nodes rfl)
theorem a_load : loadV 64 aB 3 = (0, aL) := by
  have p3 : parseB aB.dev.size (blockB [2] tB) = some ([2], tB) := parseB_back 8 [2] tB (fun k hk => by rw [List.mem_singleton.1 hk]; decide) (by decide) (by decide)
  have p2 : parseB aB.dev.size (blockB [] tA) = some ([], tA) := parseB_back 8 [] tA (fun k hk => by cases hk) (by decide) (by decide)
  have r3 : readV aB 3 = (some ([2], tB), 0) := by
    unfold readV
    rw [if_pos (show Dv.rdE aB.dev 3 = 0 from a_re 3 (by decide) (by decide)), show Dv.rdS aB.dev 3 = blockB [2] tB from a_rd3, p3]
    rfl
  have r2 : readV aB 2 = (some ([], tA), 0) := by
    unfold readV
    rw [if_pos (show Dv.rdE aB.dev 2 = 0 from a_re 2 (by decide) (by decide)), show Dv.rdS aB.dev 2 = blockB [] tA from a_rd2, p2]
    rfl
  have l2 : loadV 63 aB 2 = (0, aL1) := by
    unfold loadV
    rw [if_neg (show ¬ (aB.nodes 2).isSome = true by decide), r2]
    rfl
  have h1 : aL1.nodes = oneN := one_nodes rfl
  unfold loadV
  rw [if_neg (show ¬ (aB.nodes 3).isSome = true by decide), r3]
  show loadOut 3 [2] (loadKids (loadV 63) [2] aB) = _
  unfold loadKids
  rw [l2]
  show (if 64 < aboveV aL1.nodes [2] then ((5 : Int), aL1) else (0, addV aL1 3 [2])) = _
  rw [if_neg (show ¬ 64 < aboveV aL1.nodes [2] by rw [h1]; decide)]
  rfl
theorem a_open : openV aD5 = (some (rootV aL), 0) := by
  unfold openV
  rw [a_new]
  show openR (bareV 2 3 tN aD5) = _
  unfold openR
  rw [if_neg (show ¬ (bareV 2 3 tN aD5).root = 0 by decide)]
  show openL (loadV 64 aB 3) = _
  rw [a_load]
  rfl
end Go.Proofs.YthejlenafjnmkaaGreat.Sto

/- The package's example: how many blocks are free. -/
namespace Go.Proofs.YthejlenafjnmkaaGreat.Sto
open Go.RowKit

theorem same_len {a b : List Int} (ha : a.Nodup) (hb : b.Nodup) (h : ∀ z, z ∈ a ↔ z ∈ b) : a.length = b.length := ((List.perm_ext_iff_of_nodup ha hb).2 h).length_eq
theorem free_val {s : SV} {e : Ending} (h : FreeIs s e) (ks ls : List Int) (h1 : ks.Nodup) (h2 : ls.Nodup) (h3 : ∀ z, (s.nodes z).isSome = true ↔ z ∈ ks) (h4 : ∀ z, (s.kept z = true ∧ (s.nodes z).isSome = false) ↔ z ∈ ls) (v : Int)
    (hv : wrap64 ((s.dev.size : Int) - 2 - ks.length - ls.length) = v) : e = .returned (.int .i64 v) := by
  obtain ⟨ks', ls', k1, k2, k3, k4, rfl⟩ := h
  rw [same_len k1 h1 (fun z => (k2 z).trans (h3 z)), same_len k3 h2 (fun z => (k4 z).trans (h4 z)), hv]
theorem a_free0 {e : Ending} (h : FreeIs aS0 e) : e = .returned (.int .i64 6) :=
  free_val h [] [] List.nodup_nil List.nodup_nil (fun z => ⟨(fun h => by cases h), (fun h => by cases h)⟩) (fun z => ⟨(fun h => by cases h.1), (fun h => by cases h)⟩) 6 (show wrap64 6 = 6 by simp [wrap64])
theorem twoN_some (z : Int) : (twoN z).isSome = true ↔ z ∈ [(2 : Int), 3] := by
  unfold twoN
  by_cases e : z = 2
  · simp [e]
  · by_cases e3 : z = 3
    · simp [e3]
    · simp [e, e3]
theorem a_kept : keepV (heldN twoN 3 1) 64 (fun _ => false) 3 = fun z => z == 2 || (z == 3 || false) := by
  funext z
  rfl
theorem a_free {e : Ending} (h : FreeIs (rootV aL) e) : e = .returned (.int .i64 4) := by
  have hn : (rootV aL).nodes = heldN twoN 3 1 := by
    show heldN aL.nodes 3 1 = _
    rw [a_nodesL]
  have hk : (rootV aL).kept = fun z => z == 2 || (z == 3 || false) := by
    show keepV (heldN aL.nodes 3 1) 64 (fun _ => false) 3 = _
    rw [a_nodesL]
    exact a_kept
  refine free_val h [2, 3] [] (by decide) List.nodup_nil (fun z => ?_) (fun z => ⟨fun h => ?_, fun h => by cases h⟩) 4 (show wrap64 4 = 4 by simp [wrap64])
  · rw [hn, heldN_some]
    exact twoN_some z
  · rw [hn, heldN_some, hk] at h
    have h1 := h.1
    have h2 := h.2
    have h3 : z ∈ [(2 : Int), 3] := by
      simp at h1
      simp
      exact h1
    rw [(twoN_some z).2 h3] at h2
    cases h2
end Go.Proofs.YthejlenafjnmkaaGreat.Sto

/- The package's example: what its walk needs besides. -/
namespace Go.Proofs.YthejlenafjnmkaaGreat.Sto
open Go.RowKit
open Oct (Has Chg)
open Rws
open Mem (IMap)

/-- What lies on a device is of a bounded size. -/
def Bnd (d : Dv.St) : Prop := ∀ z s, (d.dirty z = some s ∨ d.kept z = some s) → s.size ≤ 4104
theorem Bnd.new (n : Nat) : Bnd (Dv.newSt n) := fun z s h => by rcases h with h | h <;> cases h
theorem Bnd.put {d : Dv.St} (h : Bnd d) {i : Int} {s : ByteArray} (hs : s.size ≤ 4104) : Bnd (Dv.putD d i s) := fun z t k => by
  rcases k with k | k
  · have k : (if z = i then some s else d.dirty z) = some t := k
    split at k
    · injection k with k
      rw [← k]
      exact hs
    · exact h z t (.inl k)
  · exact h z t (.inr k)
theorem Bnd.fl {d : Dv.St} (h : Bnd d) : Bnd (calmFl d) := fun z t k => by
  rcases k with k | k
  · cases k
  · have k : (d.dirty z).or (d.kept z) = some t := k
    cases hd : d.dirty z with
    | none => rw [hd] at k; exact h z t (.inr k)
    | some x => rw [hd] at k; exact h z t (.inl (hd.trans k))
theorem Bnd.crash {d : Dv.St} (h : Bnd d) : Bnd (Dv.crashD d []) := fun z t k => by
  rcases k with k | k
  · cases k
  · exact h z t (.inr k)
theorem Bnd.start {d : Dv.St} (h : Bnd d) : Bnd (Dv.startD d) := fun z t k => by
  unfold Dv.startD at k
  split at k
  · exact h z t k
  · rcases k with k | k
    · cases k
    · exact h z t (.inr k)
theorem Bnd.rd {d : Dv.St} (h : Bnd d) (i : Int) : (Dv.rdS d i).size ≤ 4104 := by
  unfold Dv.rdS Dv.readS
  split
  · cases hd : d.dirty i with
    | none =>
      cases hk : d.kept i with
      | none => decide
      | some x => exact h i x (.inr hk)
    | some x => exact h i x (.inl hd)
  · decide
theorem a_bnd5 : Bnd aD5 := by
  refine (Bnd.crash (Bnd.fl (Bnd.put (Bnd.fl (Bnd.put (Bnd.put (Bnd.fl (Bnd.put (Bnd.fl (Bnd.put (Bnd.put (Bnd.new 8) ?_) ?_)) ?_)) ?_) ?_)) ?_))).start
  · decide
  · decide
  · rw [beginB_size]; decide
  · rw [blockB_size]; decide
  · rw [blockB_size]; decide
  · rw [beginB_size]; decide
theorem a_get : getV (rootV aL) 2 = (some ([], tA), 0) := by
  have p2 : parseB (rootV aL).dev.size (blockB [] tA) = some ([], tA) := parseB_back 8 [] tA (fun k hk => by cases hk) (by decide) (by decide)
  unfold getV
  rw [if_pos (show ((rootV aL).nodes 2).isSome = true by show (heldN aL.nodes 3 1 2).isSome = true; rw [a_nodesL]; decide)]
  unfold readV
  rw [if_pos (show Dv.rdE (rootV aL).dev 2 = 0 from a_re 2 (by decide) (by decide)), show Dv.rdS (rootV aL).dev 2 = blockB [] tA from a_rd2, p2]
  rfl
theorem put_not {w : World} {p : Nat} {F : Fr} {s : SV} (h : StoIs w p F s) {g : Nat} {t : TypeId} {cs : Array Value} (hg : Has w g t cs) (hne : t ≠ 109) (hnd : t ≠ 76) : ¬ PutS F s g := by
  rintro (e | e | e | e)
  · exact add_not h hg hne e
  · have hdo : Has w F.d _ _ := h.dev.obj
    exact has_ne hg hdo hnd e
  · exact map_ne h.dev.kept hg e.symm
  · exact map_ne h.dev.dirt hg e.symm
/-- All of a store lies above B. -/
structure Fresh (B p : Nat) (F : Fr) (s : SV) : Prop where
  p : B ≤ p
  t : B ≤ F.t
  k : B ≤ F.k
  d : B ≤ F.d
  dk : B ≤ F.dk
  dd : B ≤ F.dd
  g : ∀ z, (s.nodes z).isSome = true → B ≤ F.g z
theorem Fresh.own {B p : Nat} {F : Fr} {s : SV} (h : Fresh B p F s) : ∀ k, Dv.Own F.d F.dk F.dd k → B ≤ k := by
  rintro k (e | e | e)
  · rw [e]; exact h.d
  · rw [e]; exact h.dk
  · rw [e]; exact h.dd
theorem Fresh.put {B p : Nat} {F : Fr} {s : SV} (h : Fresh B p F s) : ∀ k, PutS F s k → B ≤ k := by
  rintro k ((e | ⟨z, e1, e2⟩) | e)
  · rw [e]; exact h.t
  · rw [e2]; exact h.g z e1
  · exact h.own k e
theorem Fresh.com {B p : Nat} {F : Fr} {s : SV} (h : Fresh B p F s) : ∀ k, ComS p F k → B ≤ k := by
  rintro k (e | e | e)
  · rw [e]; exact h.p
  · rw [e]; exact h.k
  · exact h.own k e
end Go.Proofs.YthejlenafjnmkaaGreat.Sto
/- The package's example holds. -/
namespace Go.Proofs.YthejlenafjnmkaaGreat.Sto
open Go.RowKit
open Oct (Has Chg)
open Rws
open Mem (IMap)

theorem a_nd2 : aS2.nodes 3 = some ⟨[2], 2, 0, 0⟩ := by rw [a_nodes2]; rfl
theorem a_nd3 : aS3.nodes 3 = some ⟨[2], 2, 0, 1⟩ := by
  show heldN aS2.nodes 3 1 3 = _
  unfold heldN
  rw [if_pos rfl, a_nd2]
  rfl
theorem a_down3 : Down aS3.nodes := by
  show Down (heldN aS2.nodes 3 1)
  rw [a_nodes2]
  exact heldN_down two_down 3 1
theorem a_low3 : Low aS3 := by
  intro z n hz
  have hz : heldN twoN 3 1 z = some n := by rw [← a_nodes2]; exact hz
  unfold heldN at hz
  split at hz
  · cases hn : twoN z with
    | none => rw [hn] at hz; cases hz
    | some m =>
      rw [hn] at hz
      injection hz with hz
      subst hz
      exact two_low a_nodes2 z m (by rw [a_nodes2]; exact hn)
  · exact two_low a_nodes2 z n (by rw [a_nodes2]; exact hz)
theorem a_low1 : Low aS1 := by
  intro z n hz
  rw [a_nodes1] at hz
  unfold oneN at hz
  split at hz
  · injection hz with hz
    subst hz
    exact ⟨by decide, by decide⟩
  · cases hz
set_option maxRecDepth 100000 in
set_option maxHeartbeats 8000000 in
theorem awake_any (w : World) :
    Calls Tryz.prog 6 #[] w fun e w' => e = .returned (.bool true) ∧ Below w.heap.size w w' := by
  have HN := Lib.hid (Dv.new_good 8 (by omega) (by omega) w)
  go_enter Tryz.func6, Tryz.ntmps6
  go_wp2_with fail
  refine HN.out.mono ?_
  rintro e w1 ⟨rfl, hd1, hb1, hz1⟩
  have HF := Lib.hid (format_dev (w.heap.size + 2) w.heap.size (w.heap.size + 1) (Dv.newSt 8) ⟨#[]⟩ (by decide) (by decide) w1 hd1 _ a_fmt)
  have HB1 := Lib.hid hb1
  clear hd1 hb1 hz1 HN
  go_wp2_with fail
  refine HF.out.mono ?_
  rintro e w2 ⟨hq, hc2⟩
  obtain ⟨p, F, rfl, hL⟩ : ∃ p F, e = .returned (.tuple #[.pointer (some ⟨p, 0, none⟩), .int .i64 0]) ∧ Laid w1.heap.size (bareV 1 0 ⟨#[]⟩ aZ) (w.heap.size + 2) w.heap.size (w.heap.size + 1) p F w2 := hq
  have hs1 := HB1.out.size
  have HI2 := Lib.hid (show StoIs w2 p F aS0 from hL.is)
  have HFR2 := Lib.hid (show Fresh w.heap.size p F aS0 from ⟨Nat.le_trans hs1 hL.p, Nat.le_trans hs1 hL.t, Nat.le_trans hs1 hL.k, by rw [hL.d]; omega, by rw [hL.dk]; omega, by rw [hL.dd]; omega, fun z hz => by cases hz⟩)
  have HEQ := Lib.hid (And.intro hL.d (And.intro hL.dk hL.dd))
  have HB2 := Lib.hid (below_chg HB1.out hs1 hc2 (fun k hk => by
    rcases hk with e | e | e
    · rw [e]; omega
    · rw [e]; omega
    · rw [e]; omega))
  have HFREE := Lib.hid (free_any p F aS0 w2 HI2.out)
  clear hL hc2 hs1 HB1 HF
  go_wp2_with fail
  refine HFREE.out.mono ?_
  rintro e w3 ⟨hq, hb3⟩
  obtain rfl := a_free0 hq
  have HI3 := Lib.hid (HI2.out.below hb3)
  have HB3 := Lib.hid (HB2.out.trans (hb3.mono HB2.out.size))
  have HP1 := Lib.hid (show Calls Tryz.prog 28 #[.pointer (some ⟨p, 0, none⟩), .slice none 0 0, .string ⟨#[97]⟩] w3 _ from put_sto p F aS0 (fun z n hz => by cases hz) none 0 0 [] tA w3 HI3.out ⟨rfl, fun h => absurd h (by omega)⟩ (fun h => absurd h (by omega)) _ a_put1)
  clear hq hb3 HFREE HI2 HB2
  go_wp2_with fail
  refine HP1.out.mono ?_
  rintro e w4 ⟨rfl, ⟨F1, hI4, e1, e2, e3, e4, e5, hg4⟩, hc4⟩
  have HB4 := Lib.hid (below_chg HB3.out HB3.out.size hc4 HFR2.out.put)
  have HI4 := Lib.hid (show StoIs w4 p F1 aS1 from hI4)
  have HFR4 := Lib.hid (show Fresh w.heap.size p F1 aS1 from ⟨HFR2.out.p, by rw [e1]; exact HFR2.out.t, by rw [e2]; exact HFR2.out.k, by rw [e3]; exact HFR2.out.d, by rw [e4]; exact HFR2.out.dk, by rw [e5]; exact HFR2.out.dd, fun z hz => by
    rcases hg4 z hz with ⟨h1, h2⟩ | h1
    · rw [h2]; exact HFR2.out.g z h1
    · exact Nat.le_trans HB3.out.size h1⟩)
  have HEQ4 := Lib.hid (show F1.d = w.heap.size + 2 ∧ F1.dk = w.heap.size ∧ F1.dd = w.heap.size + 1 from ⟨e3.trans HEQ.out.1, e4.trans HEQ.out.2.1, e5.trans HEQ.out.2.2⟩)
  clear hI4 e1 e2 e3 e4 e5 hg4 hc4 HP1 HI3 HB3 HFR2 HEQ
  have HR5 := Lib.hid (Has.fresh w4 3 #[.int .i64 2])
  have HI5 := Lib.hid (HI4.out.below ((Below.refl w4.heap.size w4).alloc (Nat.le_refl _) (.cells #[.int .i64 2] 3)))
  have HB5 := Lib.hid (HB4.out.alloc HB4.out.size (.cells #[.int .i64 2] 3))
  have HP2 := Lib.hid (show Calls Tryz.prog 28 #[.pointer (some ⟨p, 0, none⟩), .slice (some ⟨w4.heap.size, 0, none⟩) 1 1, .string ⟨#[98]⟩] (w4.alloc (.cells #[.int .i64 2] 3)) _ from put_sto p F1 aS1 a_low1 (some ⟨w4.heap.size, 0, none⟩) 1 1 [2] tB _ HI5.out ⟨rfl, fun _ => ⟨w4.heap.size, 0, rfl, by simp, fun i hi => by
    obtain rfl : i = 0 := by simp at hi; omega
    simp⟩⟩ (fun _ b off e => by
    injection e with e
    injection e with e
    rw [← e]
    exact put_not HI5.out HR5.out (by decide) (by decide)) _ a_put2)
  dsimp only
  go_wp2_with fail
  refine HP2.out.mono ?_
  rintro e w6 ⟨rfl, ⟨F2, hI6, e1, e2, e3, e4, e5, hg6⟩, hc6⟩
  have HB6 := Lib.hid (below_chg HB5.out HB5.out.size hc6 HFR4.out.put)
  have HI6 := Lib.hid (show StoIs w6 p F2 aS2 from hI6)
  have HFR6 := Lib.hid (show Fresh w.heap.size p F2 aS2 from ⟨HFR4.out.p, by rw [e1]; exact HFR4.out.t, by rw [e2]; exact HFR4.out.k, by rw [e3]; exact HFR4.out.d, by rw [e4]; exact HFR4.out.dk, by rw [e5]; exact HFR4.out.dd, fun z hz => by
    rcases hg6 z hz with ⟨h1, h2⟩ | h1
    · rw [h2]; exact HFR4.out.g z h1
    · exact Nat.le_trans HB5.out.size h1⟩)
  have HEQ6 := Lib.hid (show F2.d = w.heap.size + 2 ∧ F2.dk = w.heap.size ∧ F2.dd = w.heap.size + 1 from ⟨e3.trans HEQ4.out.1, e4.trans HEQ4.out.2.1, e5.trans HEQ4.out.2.2⟩)
  have HHO := Lib.hid (hold_sto p F2 aS2 3 _ a_nd2 (by decide) (by decide) w6 HI6.out)
  clear hI6 e1 e2 e3 e4 e5 hg6 hc6 HP2 HI5 HB5 HR5 HFR4 HEQ4 HI4 HB4
  dsimp only
  go_wp2_with fail
  refine HHO.out.mono ?_
  rintro e w7 ⟨rfl, hI7, hc7⟩
  have HI7 := Lib.hid (show StoIs w7 p F2 aS3 from hI7)
  have HB7 := Lib.hid (below_chg HB6.out HB6.out.size hc7 (fun k hk => by rw [hk]; exact HFR6.out.g 3 (by rw [a_nd2]; rfl)))
  have HCO := Lib.hid (show Calls Tryz.prog 30 #[.pointer (some ⟨p, 0, none⟩), .int .i64 3, .string ⟨#[110]⟩] w7 _ from commit_sto p F2 aS3 a_low3 a_down3 3 _ a_nd3 (by decide) tN (by decide) (by decide) (by decide) w7 HI7.out)
  clear hI7 hc7 HHO HI6 HB6
  go_wp2_with fail
  refine HCO.out.mono ?_
  rintro e w8 ⟨rfl, hI8, hc8⟩
  rw [a_commit.1]
  rw [a_commit.2] at hI8
  have HB8 := Lib.hid (below_chg HB7.out HB7.out.size hc8 HFR6.out.com)
  have HD8 := Lib.hid (show Dv.DevIs w8 (w.heap.size + 2) w.heap.size (w.heap.size + 1) aD4 by
    have h := hI8.dev
    rw [HEQ6.out.1, HEQ6.out.2.1, HEQ6.out.2.2] at h
    exact h)
  have HCR := Lib.hid (Dv.crash_any (w.heap.size + 2) w.heap.size (w.heap.size + 1) aD4 none 0 0 [] w8 (by decide) ⟨rfl, fun h => absurd h (by omega)⟩ HD8.out)
  clear hI8 hc8 HCO HI7 HB7 HFR6 HEQ6
  have hown : ∀ k, Dv.Own (w.heap.size + 2) w.heap.size (w.heap.size + 1) k → w.heap.size ≤ k := by
    rintro k (e | e | e)
    · rw [e]; omega
    · rw [e]; omega
    · rw [e]; omega
  have HOW := Lib.hid hown
  clear hown
  go_wp2_with fail
  refine HCR.out.mono ?_
  rintro e w9 ⟨rfl, hd9, hc9⟩
  have HB9 := Lib.hid (below_chg HB8.out HB8.out.size (Oct.Chg.of hc9) HOW.out)
  have HST := Lib.hid (Dv.start_any (w.heap.size + 2) w.heap.size (w.heap.size + 1) _ w9 hd9)
  clear hd9 hc9 HCR HD8 HB8
  go_wp2_with fail
  refine HST.out.mono ?_
  rintro e w10 ⟨rfl, hd10, hc10, hz10⟩
  have HB10 := Lib.hid (below_chg HB9.out HB9.out.size (Oct.Chg.of hc10) HOW.out)
  have HOP := Lib.hid (open_dev (w.heap.size + 2) w.heap.size (w.heap.size + 1) aD5 (by decide) a_bnd5.rd (fun b hb _ s1 h1 => by
    rw [a_new] at hb
    injection hb with hb _
    subst hb
    have h1 : loadV 64 aB 3 = (0, s1) := h1
    rw [a_load] at h1
    injection h1 with _ h1
    rw [← h1, a_nodesL]
    exact two_down) w10 hd10 _ a_open)
  clear hd10 hc10 hz10 HST HB9
  go_wp2_with fail
  refine HOP.out.mono ?_
  rintro e w11 ⟨hq, hb11⟩
  obtain ⟨q, F3, rfl, hL⟩ : ∃ p F, e = .returned (.tuple #[.pointer (some ⟨p, 0, none⟩), .int .i64 0]) ∧ Laid w10.heap.size (rootV aL) (w.heap.size + 2) w.heap.size (w.heap.size + 1) p F w11 := hq
  have HI11 := Lib.hid hL.is
  have HB11 := Lib.hid (HB10.out.trans (hb11.mono HB10.out.size))
  have HRT := Lib.hid (show Calls Tryz.prog 31 #[.pointer (some ⟨q, 0, none⟩)] w11 fun e w' => e = .returned (.tuple #[.int .i64 3, .string ⟨#[110]⟩, .int .i64 2]) ∧ Below w11.heap.size w11 w' from root_sto q F3 (rootV aL) w11 HI11.out)
  clear hL hb11 HOP HB10
  go_wp2_with fail
  refine HRT.out.mono ?_
  rintro e w12 ⟨rfl, hb12⟩
  have HI12 := Lib.hid (HI11.out.below hb12)
  have HB12 := Lib.hid (HB11.out.trans (hb12.mono HB11.out.size))
  have HGT := Lib.hid (get_sto q F3 (rootV aL) 2 w12 HI12.out (a_bnd5.rd 2) _ 0 a_get)
  clear hb12 HRT HI11 HB11
  go_wp2_with fail
  refine HGT.out.mono ?_
  rintro e w13 ⟨hq, hb13⟩
  obtain ⟨v, rfl, hov⟩ : ∃ v, e = .returned (.tuple #[.agg #[v, .string ⟨#[97]⟩], .int .i64 0]) ∧ OwnI w13 w12.heap.size v [] := hq
  obtain ⟨A5, c5, rfl⟩ := own_sl hov
  have HI13 := Lib.hid (HI12.out.below hb13)
  have HB13 := Lib.hid (HB12.out.trans (hb13.mono HB12.out.size))
  clear hb13 hov HGT HI12 HB12
  have HI14 := Lib.hid (HI13.out.below ((Below.refl w13.heap.size w13).alloc (Nat.le_refl _) (.cells #[.slice A5 ([] : List Int).length c5, .string ⟨#[97]⟩] 51)))
  have HB14 := Lib.hid (HB13.out.alloc HB13.out.size (.cells #[.slice A5 ([] : List Int).length c5, .string ⟨#[97]⟩] 51))
  have HFE := Lib.hid (free_any q F3 (rootV aL) _ HI14.out)
  go_wp2_with fail
  refine HFE.out.mono ?_
  rintro e w15 ⟨hq, hb15⟩
  obtain rfl := a_free hq
  have HB15 := Lib.hid (HB14.out.trans (hb15.mono HB14.out.size))
  clear hq hb15 HFE HI14 HB14 HI13 HB13
  go_wp2
  go_ret
  exact ⟨rfl, HB15.out⟩
end Go.Proofs.YthejlenafjnmkaaGreat.Sto
