/- The document's eye, whether looking has ended or not; what sealed bytes tell of a block and of a beginning, by the document: contracts. -/
import Derived.Test.YthejlenafjnmkaaGreatRdEye2
import Derived.Test.YthejlenafjnmkaaGreatT13
import Derived.Deep.RegionLaw
import Derived.Deep.AppendLies

namespace Go.Proofs.YthejlenafjnmkaaGreat.Sto
open Go.RowKit
open Oct (Has Chg gotNum gotText gotRaw)
open Vc (Rye)
set_option linter.unusedVariables false

/-- What is left of what is looked at; none: looking has ended. -/
abbrev ES := Option ByteArray
def rnE : ES → Int → Int × ES
  | none, _ => (0, none)
  | some r, k => match gotNum r k with
    | .num v q => (v, some q)
    | .txt _ _ => (0, none)
    | .bad _ _ => (0, none)
def rtE : ES → Int → ByteArray × ES
  | none, _ => (⟨#[]⟩, none)
  | some r, k => match gotText r k with
    | .txt t q => (t, some q)
    | .num _ _ => (⟨#[]⟩, none)
    | .bad _ _ => (⟨#[]⟩, none)
def rwE : ES → Int → ByteArray × ES
  | none, _ => (⟨#[]⟩, none)
  | some r, k => match gotRaw r k with
    | .txt t q => (t, some q)
    | .num _ _ => (⟨#[]⟩, none)
    | .bad _ _ => (⟨#[]⟩, none)
def endE : ES → Bool
  | none => false
  | some r => decide (r.size = 0)
def RyeS (w : World) (x : Nat) (B : ByteArray) : ES → Prop
  | some r => ∃ a, a ≤ B.size ∧ r = B.extract a B.size ∧ Rye w x B a false 0
  | none => ∃ a y, y ≠ 0 ∧ Rye w x B a true y
theorem RyeS.over {S : Nat → Prop} {w w' : World} {x : Nat} {B : ByteArray} {st : ES} (h : RyeS w x B st) (hc : Chg S w w') (hs : ¬ S x) : RyeS w' x B st := by
  cases st with
  | some r =>
    obtain ⟨a, h1, h2, h3⟩ := h
    exact ⟨a, h1, h2, Oct.Has.over h3 hc hs⟩
  | none =>
    obtain ⟨a, y, h1, h2⟩ := h
    exact ⟨a, y, h1, Oct.Has.over h2 hc hs⟩
theorem RyeS.bound {w : World} {x : Nat} {B : ByteArray} {st : ES} (h : RyeS w x B st) : x < w.heap.size := by
  cases st with
  | some r =>
    obtain ⟨a, h1, h2, h3⟩ := h
    exact Oct.Has.bound h3
  | none =>
    obtain ⟨a, y, h1, h2⟩ := h
    exact Oct.Has.bound h2
theorem rnum_s (x : Nat) (k : Int) (B : ByteArray) (hB : B.size ≤ 8192) (st : ES) (w : World) (h : RyeS w x B st) :
    Calls Tryz.prog 88 #[.pointer (some ⟨x, 0, none⟩), .int .i64 k] w fun e w' => e = .returned (.int .i64 (rnE st k).1) ∧ RyeS w' x B (rnE st k).2 ∧ Chg (· = x) w w' := by
  cases st with
  | none =>
    obtain ⟨a, y, hy, h⟩ := h
    refine (Vc.rnum_done x a k B y w h).mono ?_
    rintro e w' ⟨rfl, rfl⟩
    exact ⟨rfl, ⟨a, y, hy, h⟩, Chg.refl _ _⟩
  | some r =>
    obtain ⟨a, ha, rfl, h⟩ := h
    refine (Vc.rnum_got x a k B hB ha w h).mono ?_
    intro e w' hd
    cases hg : gotNum (B.extract a B.size) k with
    | num v q =>
      rw [hg] at hd
      obtain ⟨a2, rfl, h1, h2, h3, h4⟩ := hd
      have e : rnE (some (B.extract a B.size)) k = (v, some q) := by simp only [rnE, hg]
      rw [e]
      exact ⟨rfl, ⟨a2, h1, h2, h3⟩, h4⟩
    | txt t q => exact (gotNum_txt hg).elim
    | bad q y =>
      rw [hg] at hd
      obtain ⟨a2, rfl, h3, h4⟩ := hd
      have e : rnE (some (B.extract a B.size)) k = (0, none) := by simp only [rnE, hg]
      rw [e]
      exact ⟨rfl, ⟨a2, y, num_why hg, h3⟩, h4⟩
theorem rraw_s (x : Nat) (k : Int) (B : ByteArray) (hB : B.size ≤ 8192) (st : ES) (w : World) (h : RyeS w x B st) :
    Calls Tryz.prog 87 #[.pointer (some ⟨x, 0, none⟩), .int .i64 k] w fun e w' => e = .returned (.string (rwE st k).1) ∧ RyeS w' x B (rwE st k).2 ∧ Chg (· = x) w w' := by
  cases st with
  | none =>
    obtain ⟨a, y, hy, h⟩ := h
    refine (Vc.rraw_done x a k B y w h).mono ?_
    rintro e w' ⟨rfl, rfl⟩
    exact ⟨rfl, ⟨a, y, hy, h⟩, Chg.refl _ _⟩
  | some r =>
    obtain ⟨a, ha, rfl, h⟩ := h
    refine (Vc.rraw_got x a k B hB ha w h).mono ?_
    intro e w' hd
    cases hg : gotRaw (B.extract a B.size) k with
    | txt v q =>
      rw [hg] at hd
      obtain ⟨a2, rfl, h1, h2, h3, h4⟩ := hd
      have e : rwE (some (B.extract a B.size)) k = (v, some q) := by simp only [rwE, hg]
      rw [e]
      exact ⟨rfl, ⟨a2, h1, h2, h3⟩, h4⟩
    | num t q => exact (gotRaw_num hg).elim
    | bad q y =>
      rw [hg] at hd
      obtain ⟨a2, rfl, h3, h4⟩ := hd
      have e : rwE (some (B.extract a B.size)) k = (⟨#[]⟩, none) := by simp only [rwE, hg]
      rw [e]
      exact ⟨rfl, ⟨a2, y, raw_why hg, h3⟩, h4⟩
theorem rtext_done (x a : Nat) (k : Int) (hk : 0 ≤ k) (B : ByteArray) (y : Int) (w : World) (h : Rye w x B a true y) :
    Calls Tryz.prog 89 #[.pointer (some ⟨x, 0, none⟩), .int .i64 k] w fun e w' => e = .returned (.string ⟨#[]⟩) ∧ w = w' := by
  have HN := Lib.hid (Vc.rnum_done x a 2 B y w h)
  have HR := Lib.hid (Vc.rraw_done x a 0 B y w h)
  have dm : ¬ k < 0 := by omega
  clear h
  go_enter Tryz.func89, Tryz.ntmps89
  go_wp2_with fail
  refine HN.out.mono ?_
  rintro e w1 ⟨rfl, rfl⟩
  go_wp2_with fail
  refine HR.out.mono ?_
  rintro e w1 ⟨rfl, rfl⟩
  go_wp2
  go_ret
  exact ⟨rfl, rfl⟩
theorem rtext_s (x : Nat) (k : Int) (hk : 0 ≤ k) (B : ByteArray) (hB : B.size ≤ 8192) (st : ES) (w : World) (h : RyeS w x B st) :
    Calls Tryz.prog 89 #[.pointer (some ⟨x, 0, none⟩), .int .i64 k] w fun e w' => e = .returned (.string (rtE st k).1) ∧ RyeS w' x B (rtE st k).2 ∧ Chg (· = x) w w' := by
  cases st with
  | none =>
    obtain ⟨a, y, hy, h⟩ := h
    refine (rtext_done x a k hk B y w h).mono ?_
    rintro e w' ⟨rfl, rfl⟩
    exact ⟨rfl, ⟨a, y, hy, h⟩, Chg.refl _ _⟩
  | some r =>
    obtain ⟨a, ha, rfl, h⟩ := h
    refine (Vc.rtext_got x a k B hB ha w h).mono ?_
    intro e w' hd
    cases hg : gotText (B.extract a B.size) k with
    | txt v q =>
      rw [hg] at hd
      obtain ⟨a2, rfl, h1, h2, h3, h4⟩ := hd
      have e : rtE (some (B.extract a B.size)) k = (v, some q) := by simp only [rtE, hg]
      rw [e]
      exact ⟨rfl, ⟨a2, h1, h2, h3⟩, h4⟩
    | num t q => exact (gotText_num hg).elim
    | bad q y =>
      rw [hg] at hd
      obtain ⟨a2, rfl, h3, h4⟩ := hd
      have e : rtE (some (B.extract a B.size)) k = (⟨#[]⟩, none) := by simp only [rtE, hg]
      rw [e]
      exact ⟨rfl, ⟨a2, y, text_why hg, h3⟩, h4⟩
theorem rend_s (x : Nat) (B : ByteArray) (st : ES) (w : World) (h : RyeS w x B st) :
    Calls Tryz.prog 90 #[.pointer (some ⟨x, 0, none⟩)] w fun e w' => ∃ E : Int, e = .returned (.int .i64 E) ∧ (E != 0) = !endE st ∧ Chg (· = x) w w' := by
  cases st with
  | none =>
    obtain ⟨a, y, hy, h⟩ := h
    refine (Vc.rend_done x a B y w h).mono ?_
    rintro e w' ⟨rfl, hc⟩
    exact ⟨y, rfl, by simp [endE, hy], hc⟩
  | some r =>
    obtain ⟨a, ha, rfl, h⟩ := h
    refine (Vc.rend_open x a B w h).mono ?_
    rintro e w' ⟨rfl, hc⟩
    refine ⟨_, rfl, ?_, hc⟩
    have hz := Vc.ext_size B a ha
    show _ = !decide ((B.extract a B.size).size = 0)
    rw [hz]
    by_cases hlt : a < B.size
    · rw [if_pos hlt, decide_eq_false (by omega)]
      rfl
    · rw [if_neg hlt, decide_eq_true (by omega)]
      rfl
/-- What sealed bytes hold, and whether they may be opened. -/
def hdE (s : ByteArray) : ByteArray := if 8 ≤ s.size then CrcW.headB s else ⟨#[]⟩
def okE (s : ByteArray) : Bool := decide (8 ≤ s.size) && CrcW.openB s
theorem hdE_size (s : ByteArray) (hs : s.size ≤ 4104) : (hdE s).size ≤ 8192 := by
  unfold hdE
  split
  · have := CrcW.headB_size s
    have : (CrcW.headB s).size = s.size - 8 := this
    omega
  · exact Nat.zero_le _
theorem ropen_any (s : ByteArray) (hs : s.size ≤ 4104) (w : World) :
    Calls Tryz.prog 86 #[.string s] w fun e w' => e = .returned (.tuple #[.string (hdE s), .bool (okE s)]) ∧ Below w.heap.size w w' := by
  unfold hdE okE
  by_cases h8 : 8 ≤ s.size
  · rw [if_pos h8, decide_eq_true h8]
    exact CrcW.ropen_long s h8 hs w
  · rw [if_neg h8, decide_eq_false h8]
    refine (CrcW.ropen_short s (by omega) w).mono ?_
    rintro e w' ⟨rfl, rfl⟩
    exact ⟨rfl, Below.refl _ _⟩
/-- The document's way to read a block. -/
def kidsE : Nat → ES → List Int → List Int × ES
  | 0, st, acc => (acc, st)
  | k + 1, st, acc => kidsE k (rnE st 4).2 (acc ++ [(rnE st 4).1])
def blkE (size : Int) (n : Int) (ks : List Int × ES) : Option (List Int × ByteArray) :=
  if endE (rtE ks.2 3900).2 = true ∧ n ≤ 16 ∧ (ks.1.all fun k => nameB k size) = true then some (ks.1, (rtE ks.2 3900).1) else none
def blockE (size : Int) (st : ES) : Option (List Int × ByteArray) := blkE size (rnE st 1).1 (kidsE (min (rnE st 1).1 16).toNat (rnE st 1).2 [])
theorem kidsE_none : ∀ (k : Nat) (acc : List Int), (kidsE k none acc).2 = none
  | 0, _ => rfl
  | k + 1, acc => kidsE_none k (acc ++ [0])
theorem kidsE_more : ∀ (k : Nat) (st : ES) (acc : List Int), ∀ x ∈ acc, x ∈ (kidsE k st acc).1
  | 0, _, _, x, hx => hx
  | k + 1, st, acc, x, hx => kidsE_more k _ _ x (List.mem_append_left _ hx)
def okOf {α : Type} : Oct.Par α → Option α
  | .ok (a, q) => if q.size = 0 then some a else none
  | .error _ => none
theorem blkE_none {size n : Int} {ks : List Int × ES} (h : ks.2 = none ∨ ∃ x ∈ ks.1, nameB x size = false) : blkE size n ks = none := by
  unfold blkE
  refine if_neg ?_
  rintro ⟨h1, h2, h3⟩
  rcases h with h | ⟨x, hx, hn⟩
  · rw [h] at h1
    cases h1
  · have := List.all_eq_true.1 h3 x hx
    rw [hn] at this
    cases this
theorem kids_e (size n : Int) (hn : n ≤ 16) : ∀ (k : Nat) (r : ByteArray) (acc : List Int), (∀ x ∈ acc, nameB x size = true) → okOf (tailP (kidsP size k r acc)) = blkE size n (kidsE k (some r) acc)
  | 0, r, acc, ha => by
    show okOf (textP acc r) = blkE size n (acc, some r)
    unfold textP blkE
    have hall : (acc.all fun k => nameB k size) = true := List.all_eq_true.2 ha
    cases hg : gotText r 3900 with
    | txt t q =>
      have e : rtE (some r) 3900 = (t, some q) := by simp only [rtE, hg]
      show (if q.size = 0 then some (acc, t) else none) = _
      rw [e]
      by_cases h0 : q.size = 0
      · rw [if_pos h0, if_pos ⟨by simp [endE, h0], hn, hall⟩]
      · rw [if_neg h0, if_neg (by rintro ⟨h1, _⟩; simp [endE, h0] at h1)]
    | num t q => exact (gotText_num hg).elim
    | bad q y =>
      have e : rtE (some r) 3900 = (⟨#[]⟩, none) := by simp only [rtE, hg]
      rw [e]
      exact (if_neg (by rintro ⟨h1, _⟩; cases h1)).symm
  | k + 1, r, acc, ha => by
    unfold kidsP kidsE
    cases hg : gotNum r 4 with
    | num v q =>
      have e : rnE (some r) 4 = (v, some q) := by simp only [rnE, hg]
      rw [e]
      by_cases hv : nameB v size = true
      · simp only [if_pos hv]
        exact kids_e size n hn k q (acc ++ [v]) fun x hx => by
          rcases List.mem_append.1 hx with hx | hx
          · exact ha x hx
          · rw [List.mem_singleton.1 hx]; exact hv
      · simp only [if_neg hv]
        exact (blkE_none (.inr ⟨v, kidsE_more k _ _ v (by simp), by simpa using hv⟩)).symm
    | txt t q => exact (gotNum_txt hg).elim
    | bad q y =>
      have e : rnE (some r) 4 = (0, none) := by simp only [rnE, hg]
      rw [e]
      exact (blkE_none (.inl (kidsE_none _ _))).symm
theorem block_e (size : Int) (r : ByteArray) : okOf (blockP size r) = blockE size (some r) := by
  unfold blockP blockE
  cases hg : gotNum r 1 with
  | num v q =>
    have e : rnE (some r) 1 = (v, some q) := by simp only [rnE, hg]
    rw [e]
    obtain ⟨m, rfl, _⟩ := gotNum_nat hg
    by_cases hv : (m : Int) ≤ 16
    · simp only [if_pos hv]
      rw [show (min (m : Int) 16).toNat = (m : Int).toNat by omega]
      exact kids_e size m hv _ q [] (by simp)
    · simp only [if_neg hv]
      exact (if_neg (by rintro ⟨_, h2, _⟩; exact hv h2)).symm
  | txt t q => exact (gotNum_txt hg).elim
  | bad q y =>
    have e : rnE (some r) 1 = (0, none) := by simp only [rnE, hg]
    rw [e]
    exact (blkE_none (.inl (kidsE_none _ _))).symm
theorem empty_is (r : ByteArray) : r.toList.isEmpty = decide (r.size = 0) := by
  rw [ByteArray.toList_eq]
  show r.data.toList.isEmpty = decide (r.data.size = 0)
  rw [← Array.length_toList]
  cases r.data.toList <;> simp
theorem parOf_e {α : Type} (bytes : ByteArray) (X : Oct.Par α) (hX : ∀ r y, X = .error (r, y) → y ≠ 0) : parOf bytes X = if okE bytes = true then okOf X else none := by
  unfold parOf lookB okE
  cases X with
  | ok a =>
    obtain ⟨a, q⟩ := a
    by_cases hq : q.size = 0
    · have e : (Oct.endP (.ok (a, q) : Oct.Par α) == 0) = true := by
        show (Oct.why q false 0 == 0) = true
        unfold Oct.why
        rw [if_neg (by decide), if_pos ((empty_is q).trans (decide_eq_true hq))]
        rfl
      rw [e]
      simp [okOf, hq]
    · have e : (Oct.endP (.ok (a, q) : Oct.Par α) == 0) = false := by
        show (Oct.why q false 0 == 0) = false
        unfold Oct.why
        rw [if_neg (by decide), if_neg (by rw [empty_is q]; simpa using hq)]
        rfl
      rw [e]
      simp [okOf, hq]
  | error a =>
    obtain ⟨q, y⟩ := a
    simp [okOf]
theorem parseB_e (size : Int) (bytes : ByteArray) : parseB size bytes = if okE bytes = true then blockE size (some (hdE bytes)) else none := by
  unfold parseB
  rw [parOf_e bytes _ (fun r y h => block_why h)]
  by_cases h : okE bytes = true
  · rw [if_pos h, if_pos h, block_e]
    have h8 : 8 ≤ bytes.size := by
      unfold okE at h
      simp at h
      exact h.1
    rw [show hdE bytes = CrcW.headB bytes from if_pos h8]
  · rw [if_neg h, if_neg h]
end Go.Proofs.YthejlenafjnmkaaGreat.Sto
/- The document's Block: contract. -/
namespace Go.Proofs.YthejlenafjnmkaaGreat.Sto
open Go.RowKit
open Oct (Has Chg gotNum gotText gotRaw)
open Vc (Rye)
set_option linter.unusedVariables false

/-- On the way: the eye at x, the block that is told at b, the answer's at a. -/
structure RMid (w : World) (x b a : Nat) (B : ByteArray) (st : ES) (acc : List Int) (w' : World) : Prop where
  eye : RyeS w' x B st
  blk : ∃ A c, Has w' b 51 #[.slice A acc.length c, .string ⟨#[]⟩] ∧ OwnI w' w.heap.size (.slice A acc.length c) acc
  ans : Has w' a 51 #[.slice none 0 0, .string ⟨#[]⟩]
  below : Below w.heap.size w w'
  ord : w.heap.size ≤ a ∧ a < x ∧ x < b
theorem own_far {w : World} {b n g : Nat} {e t : TypeId} {v : Value} {xs : List Value} {cs : Array Value} (h : w.ownsRow b e 1 v n xs) (hg : Has w g t cs) (hne : e ≠ t) : some g = v.ownBlock → False := by
  rcases h.2 with ⟨rfl, _⟩ | ⟨q, cap, cur, rfl, _, hh, _⟩
  · intro e
    cases e
  · intro e
    simp [Value.ownBlock] at e
    subst e
    unfold Oct.Has at hg
    rw [hg] at hh
    injection hh with hh
    injection hh with _ hh
    exact hne hh.symm
theorem RyeS.grown {w w' : World} {x : Nat} {B : ByteArray} {st : ES} {row : Option Nat} (h : RyeS w x B st) (hg : w.grownBy w' row) (hr : some x = row → False) : RyeS w' x B st := by
  cases st with
  | some r =>
    obtain ⟨a, h1, h2, h3⟩ := h
    exact ⟨a, h1, h2, has_grown h3 hg hr⟩
  | none =>
    obtain ⟨a, y, h1, h2⟩ := h
    exact ⟨a, y, h1, has_grown h2 hg hr⟩
theorem RyeS.typed {w : World} {x : Nat} {B : ByteArray} {st : ES} (h : RyeS w x B st) : ∃ cs, Has w x 141 cs := by
  cases st with
  | some r =>
    obtain ⟨a, h1, h2, h3⟩ := h
    exact ⟨_, h3⟩
  | none =>
    obtain ⟨a, y, h1, h2⟩ := h
    exact ⟨_, h2⟩
theorem RMid.step {w w3 w5 : World} {x b a : Nat} {B : ByteArray} {st : ES} {acc : List Int} {A : Option Addr} {c g5 cap5 : Nat} {v : Int} (hr : RyeS w3 x B st) (hb : Has w3 b 51 #[.slice A acc.length c, .string ⟨#[]⟩]) (ho : OwnI w3 w.heap.size (.slice A acc.length c) acc)
    (ha : Has w3 a 51 #[.slice none 0 0, .string ⟨#[]⟩]) (hl : Below w.heap.size w w3) (hord : w.heap.size ≤ a ∧ a < x ∧ x < b)
    (o5 : w5.ownsRow w.heap.size 3 1 (.slice (some ⟨g5, 0, none⟩) (acc.length + 1) cap5) (acc.length + 1) (acc.map (Value.int .i64) ++ [.int .i64 v])) (b5 : (w3.alloc (.cells #[.int .i64 v] 3)).grownBy w5 (Value.slice A acc.length c).ownBlock) :
    RMid w x b a B st (acc ++ [v]) (w5.setCell ⟨b, 0, none⟩ (.slice (some ⟨g5, 0, none⟩) (acc.length + 1) cap5)) ∧ Has w5 b 51 #[.slice A acc.length c, .string ⟨#[]⟩] := by
  obtain ⟨cs, hx⟩ := hr.typed
  have hb5 := has_grown (hb.past (.cells #[.int .i64 v] 3)) b5 (own_far ho hb (by decide))
  have ha5 := has_grown (ha.past (.cells #[.int .i64 v] 3)) b5 (own_far ho ha (by decide))
  have hr5 := (hr.over ((Chg.refl (fun _ => False) w3).alloc (.cells #[.int .i64 v] 3)) (fun h => h)).grown b5 (own_far ho hx (by decide))
  have hl5 : Below w.heap.size w w5 := (hl.alloc hl.size (.cells #[.int .i64 v] 3)).grown b5 (by simp; exact Nat.le_trans hl.size (Nat.le_succ _)) (fun q hq => (World.ownsRow.lt ho q hq).1)
  have hne : b ≠ a ∧ b ≠ x := by omega
  refine ⟨⟨hr5.over ((Chg.refl (· = b) w5).setCell (p := ⟨b, 0, none⟩) (.inl rfl) _) (by omega), ⟨some ⟨g5, 0, none⟩, cap5, ?_, ?_⟩, ha5.keep (p := ⟨b, 0, none⟩) (show a ≠ b by omega) _, hl5.setCell (p := ⟨b, 0, none⟩) (show w.heap.size ≤ b by omega) _, hord⟩, hb5⟩
  · rw [List.length_append]
    exact Has.put hb5 0 _
  · have h6 : OwnI w5 w.heap.size (.slice (some ⟨g5, 0, none⟩) (acc ++ [v]).length cap5) (acc ++ [v]) := by
      unfold OwnI
      rw [List.length_append, List.map_append]
      exact o5
    exact own_apart h6 hb5 ((Chg.refl (· = b) w5).setCell (p := ⟨b, 0, none⟩) (.inl rfl) _) (by decide)
theorem named_two (v size : Int) (h : nameB v size = true) : ¬ v < 2 ∧ ¬ size ≤ v := by
  unfold nameB at h
  simp at h
  omega
theorem named_not (v size : Int) (h : nameB v size = false) : v < 2 ∨ size ≤ v := by
  unfold nameB at h
  simp at h
  omega
set_option maxRecDepth 100000 in
set_option maxHeartbeats 4000000 in
theorem rblock_of (bytes : ByteArray) (hs : bytes.size ≤ 4104) (size : Int) (w : World) (o : Option (List Int × ByteArray)) (ho : parseB size bytes = o) :
    Calls Tryz.prog 53 #[.string bytes, .int .i64 size] w fun e w' => BOut o w.heap.size e w' ∧ Below w.heap.size w w' := by
  obtain ⟨i0, hi, hz0, hz1, hz2⟩ := info_parts info_i
  have HI := Lib.hid (And.intro hi (And.intro hz0 (And.intro hz1 hz2)))
  clear hi hz0 hz1 hz2
  have HO := Lib.hid ((parseB_e size bytes).symm.trans ho)
  have HOP := Lib.hid (fun W => ropen_any bytes hs W)
  have HBS := Lib.hid (hdE_size bytes hs)
  generalize hdE bytes = B at *
  generalize okE bytes = ok at *
  clear ho
  have hr0 := Has.fresh w 51 #[.slice none 0 0, .string ⟨#[]⟩]
  have hb0 := (Below.refl w.heap.size w).alloc (Nat.le_refl _) (.cells #[.slice none 0 0, .string ⟨#[]⟩] 51)
  have HR0 := Lib.hid hr0
  have HB0 := Lib.hid hb0
  have hz0 : (w.alloc (.cells #[.slice none 0 0, .string ⟨#[]⟩] 51)).heap.size = w.heap.size + 1 := by simp
  have HZ0 := Lib.hid hz0
  clear hr0 hb0 hz0
  go_enter Tryz.func53, Tryz.ntmps53
  go_wp2_with fail
  refine (HOP.out _).mono ?_
  rintro e w1 ⟨rfl, hb1⟩
  have hz1 := hb1.size
  have hr1 := has_blw HR0.out hb1
  have hbw1 := HB0.out.trans (hb1.mono (by rw [HZ0.out]; omega))
  rw [HZ0.out] at hz1
  have hx1 := Has.fresh w1 141 #[.string B, .int .i64 ((0 : Nat) : Int), .bool false, .int .i64 0]
  have HE1 := Lib.hid (show RyeS (w1.alloc (.cells #[.string B, .int .i64 0, .bool false, .int .i64 0] 141)) w1.heap.size B (some B) from ⟨0, Nat.zero_le _, by simp, hx1⟩)
  have HR1 := Lib.hid (hr1.past (.cells #[.string B, .int .i64 0, .bool false, .int .i64 0] 141))
  have HB1 := Lib.hid (hbw1.alloc hbw1.size (.cells #[.string B, .int .i64 0, .bool false, .int .i64 0] 141))
  have HZ1 := Lib.hid hz1
  have HX1 := Lib.hid (World.size_alloc w1 (.cells #[.string B, .int .i64 0, .bool false, .int .i64 0] 141))
  clear hb1 hz1 hr1 hbw1 hx1 HOP HR0 HB0 HZ0
  have HN := Lib.hid (rnum_s w1.heap.size 1 B HBS.out (some B) _ HE1.out)
  go_wp2_with fail
  refine HN.out.mono ?_
  rintro e w2 ⟨rfl, h1, h2⟩
  have hz2 := h2.size
  rw [HX1.out] at hz2
  have hs2 := HZ1.out
  have HM0 : RMid w w1.heap.size w2.heap.size w.heap.size B (rnE (some B) 1).2 [] (w2.alloc (.cells #[.slice none 0 0, .string ⟨#[]⟩] 51)) :=
    ⟨h1.over ((Chg.refl (fun _ => False) w2).alloc _) (fun h => h), ⟨none, 0, Has.fresh w2 _ _, World.ownsRow_nil _ _ _ _⟩, (HR1.out.over h2 (by omega)).past _,
      ((HB1.out.trans (h2.below HB1.out.size (fun k hk => by omega)))).alloc (by omega) _, by omega⟩
  have HM1 := Lib.hid HM0
  have HOB := Lib.hid (show (if ok = true then blkE size (rnE (some B) 1).1 (kidsE ((min (rnE (some B) 1).1 16).toNat - 0) (rnE (some B) 1).2 []) else none) = o from HO.out)
  have hlow : 0 ≤ (rnE (some B) 1).1 := by
    cases hg : gotNum B 1 with
    | num v q =>
      obtain ⟨m, rfl, hm⟩ := gotNum_nat hg
      simp only [rnE, hg]
      omega
    | txt t q => simp [rnE, hg]
    | bad q y => simp [rnE, hg]
  have HIS := HBS.out
  generalize (rnE (some B) 1).1 = n at *
  generalize (rnE (some B) 1).2 = st1 at *
  generalize w1.heap.size = x at *
  obtain ⟨b, hbb⟩ : ∃ b, b = w2.heap.size := ⟨_, rfl⟩
  rw [← hbb] at HM1
  obtain ⟨n9, hn9⟩ : ∃ n9 : Int, n9 = n := ⟨_, rfl⟩
  obtain ⟨m, hm⟩ : ∃ m : Nat, min n 16 = (m : Int) := ⟨(min n 16).toNat, by omega⟩
  have hm16 : m ≤ 16 := by omega
  have HMN := Lib.hid hm16
  have HOC := Lib.hid (show (if ok = true then blkE size n9 (kidsE (m - 0) st1 []) else none) = o by rw [hn9, ← HOB.out, hm]; rfl)
  obtain ⟨W2, hW2⟩ : ∃ W2 : World, W2 = w2.alloc (.cells #[.slice none 0 0, .string ⟨#[]⟩] 51) := ⟨_, rfl⟩
  rw [← hW2] at HM1
  have HW2 := Lib.hid hW2
  have HBB := Lib.hid hbb
  have HZ2 := Lib.hid hz2
  have hmin : n ≤ 16 ∧ n = (m : Int) ∨ 16 < n ∧ m = 16 := by omega
  have HN9 := Lib.hid hn9
  clear HO HOB HM0 h1 h2 hz2 hs2 HE1 HR1 HB1 HZ1 HX1 HN hm hW2 hbb HIS hn9
  rcases hmin with ⟨ha, hb⟩ | ⟨ha, hb⟩
  · subst hb
    have t16 : ¬ (16 : Int) < (m : Int) := by omega
    have HT9 := Lib.hid (show n9 ≤ 16 by rw [HN9.out]; omega)
    clear hlow hm16 HN9
    go_wp2_with fail
    rw [← HBB.out, ← HW2.out]
    go_loopw [26] (fun i wr => ∃ (j : Nat) (acc : List Int) (st : ES), j ≤ m ∧ i = .int .i64 j ∧ Hid (acc.length = j) ∧ Hid ((if ok = true then blkE size n9 (kidsE (m - j) st acc) else none) = o) ∧ Hid (RMid w x b w.heap.size B st acc wr)) (fun i _ => m - (intOf i).toNat)
    case atStart => exact ⟨0, [], st1, Nat.zero_le _, rfl, Lib.hid rfl, HOC, HM1⟩
    case round =>
      obtain ⟨j, acc, st, hj, rfl, HA, HXJ, HMJ⟩ := hrel
      clear HOC HM1 HW2
      have hm16 := HMN.out
      by_cases hlt : j < m
      · obtain ⟨k, hk⟩ : ∃ k, m - j = k + 1 := ⟨m - j - 1, by omega⟩
        have HK := Lib.hid (show m - (j + 1) = k by omega)
        rw [hk] at HXJ
        clear hk
        have HXN := Lib.hid (show (if ok = true then blkE size n9 (kidsE k (rnE st 4).2 (acc ++ [(rnE st 4).1])) else none) = o from HXJ.out)
        have HC0 := Lib.hid ((Chg.refl (fun _ => False) wr).drew)
        have HN4 := Lib.hid (rnum_s x 4 B HBS.out st wr.drew (HMJ.out.eye.over HC0.out (fun h => h)))
        generalize (rnE st 4).1 = v at *
        generalize (rnE st 4).2 = st2 at *
        obtain ⟨A, c, hb, ho⟩ := HMJ.out.blk
        have hb0 := hb.over HC0.out (fun h => h)
        have k1 := Has.at_ hb0 0
        simp at k1
        have hord := HMJ.out.ord
        have hbb := hb0.bound
        have hxx := (HMJ.out.eye).bound
        have HORD := Lib.hid hord
        have HBD := Lib.hid (show w.heap.size < b by omega)
        have HB0 := Lib.hid hb0
        have HOW := Lib.hid (own_chg ho HC0.out (fun k _ h => h))
        have HAN := Lib.hid (HMJ.out.ans.over HC0.out (fun h => h))
        have HBL := Lib.hid (HMJ.out.below.drew)
        have H1 := Lib.hid (show ∀ u ∈ [(.int .i64 v : Value)], u.oneCell' = true by intro u hu; rw [List.mem_singleton.1 hu]; rfl)
        have H2 := Lib.hid (show acc.length + 1 ≤ maxLen by rw [HA.out]; have := HMN.out; unfold maxLen; omega)
        have H3 := Lib.hid (show (acc.length + 1) * 8 ≤ 140737488355328 by rw [HA.out]; have := HMN.out; omega)
        obtain ⟨ecs, hec⟩ := (HMJ.out.eye.over HC0.out (fun h => h)).typed
        have HEC := Lib.hid hec
        have HXA := Lib.hid (show x < wr.drew.heap.size from hxx)
        clear hec hb ho hb0 hord hbb hxx HMJ HXJ HC0
        go_wp2_with fail
        go_region_law ((first | (go_simp; go_at_call 88; refine HN4.out.mono ?_; rintro e w3 ⟨rfl, h1, h2⟩; have hb3 := HB0.out.over h2 (by have := HORD.out; omega); have k1 := Has.at_ hb3 0; have k4 := Has.at_ (hb3.past (.cells #[.int .i64 v] 3)) 0; simp at k1 k4; have HR3 := Lib.hid h1; have HC3 := Lib.hid h2) | (have hb3 := HB0.out.over HC3.out (by have := HORD.out; omega); have ho3 := own_apart HOW.out HEC.out HC3.out (by decide); have hl3 := HBL.out.trans (HC3.out.below HBL.out.size (fun k hk => by have := HORD.out; omega)); have ha3 := HAN.out.over HC3.out (by have := HORD.out; omega); refine step_append_lies _ (by rfl) (.tmp 29) (.tmp 32) 40 (by rfl) w.heap.size 3 i0 (.int .i64 0) 1 8 Tryz.underlying40 HI.out.1 HI.out.2.1 HI.out.2.2.1 HI.out.2.2.2 rfl (by decide) (.slice A acc.length c) acc.length (acc.map (Value.int .i64)) (by rfl) (World.ownsRow.alloc ho3 _) ⟨w3.heap.size, 0, none⟩ 1 1 [.int .i64 v] (by rfl) rfl (cell_one_new w3 _ _) H1.out (by decide) H2.out H3.out (by have := hl3.size; simp; omega) _ rfl ?_; intro g5 cap5 w5 o5 b5 at5 lt5; have hst := RMid.step HR3.out hb3 ho3 ha3 hl3 HORD.out o5 b5; have i1 := Has.at_ hst.2 0; have i2 := Has.free hst.2 0; simp at i1; have HM5 := Lib.hid hst.1; clear hst o5 b5 hb3 ho3 ha3 hl3)))
        all_goals
          go_wp2
          go_roundw
          case rel => exact ⟨j + 1, acc ++ [v], st2, by omega, by go_num, Lib.hid (by rw [List.length_append, HA.out]; rfl), Lib.hid (by rw [HK.out]; exact HXN.out), HM5⟩
          case measure => simp [intOf]; omega
      · obtain rfl : j = m := by omega
        rw [Nat.sub_self] at HXJ
        have hT := rtext_s x 3900 (by decide) B HBS.out st wr HMJ.out.eye
        have hXU : (if ok = true then (if endE (rtE st 3900).2 = true ∧ n9 ≤ 16 ∧ (acc.all fun k => nameB k size) = true then some (acc, (rtE st 3900).1) else none) else none) = o := HXJ.out
        generalize (rtE st 3900).1 = t at hT hXU
        generalize (rtE st 3900).2 = st2 at hT hXU
        have HT := Lib.hid hT
        have HXU := Lib.hid hXU
        clear hT hXU HXJ
        have HORD := Lib.hid HMJ.out.ord
        obtain ⟨A, c, hb, ho⟩ := HMJ.out.blk
        obtain ⟨ecs, hec⟩ := HMJ.out.eye.typed
        go_wp2_with fail
        refine HT.out.mono ?_
        rintro e w3 ⟨rfl, h1, h2⟩
        have hb3 := hb.over h2 (by have := HORD.out; omega)
        have ho3 := own_apart ho hec h2 (by decide)
        have ha3 := HMJ.out.ans.over h2 (by have := HORD.out; omega)
        have hl3 := HMJ.out.below.trans (h2.below HMJ.out.below.size (fun k hk => by have := HORD.out; omega))
        have i1 := Has.at_ hb3 1
        have f1 := Has.free hb3 1
        simp at i1
        have hb4 : Has (w3.setCell ⟨b, 1, none⟩ (.string t)) b 51 #[.slice A acc.length c, .string t] := Has.put hb3 1 _
        have hc4 : Chg (· = b) w3 (w3.setCell ⟨b, 1, none⟩ (.string t)) := (Chg.refl (· = b) w3).setCell (p := ⟨b, 1, none⟩) (.inl rfl) _
        have HB4 := Lib.hid hb4
        have HO4 := Lib.hid (own_apart ho3 hb3 hc4 (by decide))
        have HA4 := Lib.hid (ha3.over hc4 (by have := HORD.out; omega))
        have HL4 := Lib.hid (hl3.setCell (p := ⟨b, 1, none⟩) (show w.heap.size ≤ b by have := HORD.out; omega) (.string t))
        have hr4 := h1.over hc4 (by have := HORD.out; omega)
        have HTY := Lib.hid hr4.typed
        have HE := Lib.hid (rend_s x B st2 _ hr4)
        clear hb ho hec h1 h2 hb3 ho3 ha3 hl3 hb4 hc4 hr4 HMJ HT
        cases ok with
        | false =>
          have HA5 := HA4
          have HL5 := HL4
          have hge : o = none := HXU.out.symm.trans (if_neg (by decide))
          subst hge
          have j0 := Has.at_ HA5.out 0
          have j1 := Has.at_ HA5.out 1
          have f0 := Has.free HA5.out 0
          have f1 := Has.free HA5.out 1
          simp at j0 j1
          have h22 := Has.put (Has.put HA5.out 0 (.slice none 0 0)) 1 (.string ⟨#[]⟩)
          have j2 := Has.at_ h22 0
          have j3 := Has.at_ h22 1
          simp at j2 j3
          have HB6 := Lib.hid ((HL5.out.setCell (p := ⟨w.heap.size, 0, none⟩) (Nat.le_refl _) (.slice none 0 0)).setCell (p := ⟨w.heap.size, 1, none⟩) (Nat.le_refl _) (.string ⟨#[]⟩))
          clear h22
          go_wp2
          exact bodyPost_ret (v := .tuple #[.agg #[.slice none 0 0, .string ⟨#[]⟩], .bool false]) (by simp [results, Tryz.results53, go_sem, j2, j3]) rfl ⟨rfl, HB6.out⟩
        | true =>
          have HXV := Lib.hid (show (if endE st2 = true ∧ n9 ≤ 16 ∧ (acc.all fun k => nameB k size) = true then some (acc, t) else none) = o from HXU.out)
          clear HXU
          go_wp2_with fail
          refine HE.out.mono ?_
          rintro e w5 ⟨E, rfl, hE, hc5⟩
          obtain ⟨ecs, hec⟩ := HTY.out
          have HB5 := Lib.hid (HB4.out.over hc5 (by have := HORD.out; omega))
          have HO5 := Lib.hid (own_apart HO4.out hec hc5 (by decide))
          have HA5 := Lib.hid (HA4.out.over hc5 (by have := HORD.out; omega))
          have HL5 := Lib.hid (HL4.out.trans (hc5.below HL4.out.size (fun k hk => by have := HORD.out; omega)))
          clear hec hc5 i1 f1 HE HTY HB4 HO4 HA4 HL4
          cases hend : endE st2 with
          | false =>
            rw [hend] at hE
            have hE2 : (E != 0) = true := hE
            clear hE
            have hge : o = none := HXV.out.symm.trans (if_neg (by rintro ⟨h, _⟩; rw [hend] at h; cases h))
            subst hge
            have j0 := Has.at_ HA5.out 0
            have j1 := Has.at_ HA5.out 1
            have f0 := Has.free HA5.out 0
            have f1 := Has.free HA5.out 1
            simp at j0 j1
            have h22 := Has.put (Has.put HA5.out 0 (.slice none 0 0)) 1 (.string ⟨#[]⟩)
            have j2 := Has.at_ h22 0
            have j3 := Has.at_ h22 1
            simp at j2 j3
            have HB6 := Lib.hid ((HL5.out.setCell (p := ⟨w.heap.size, 0, none⟩) (Nat.le_refl _) (.slice none 0 0)).setCell (p := ⟨w.heap.size, 1, none⟩) (Nat.le_refl _) (.string ⟨#[]⟩))
            clear h22
            go_wp2
            exact bodyPost_ret (v := .tuple #[.agg #[.slice none 0 0, .string ⟨#[]⟩], .bool false]) (by simp [results, Tryz.results53, go_sem, j2, j3]) rfl ⟨rfl, HB6.out⟩
          | true =>
            rw [hend] at hE
            have hE2 : (E != 0) = false := hE
            clear hE
            have HRW := Lib.hid (row_of_own HO5.out rfl)
            have i1 := Has.at_ HB5.out 0
            simp at i1
            have HXW := Lib.hid (show (if (acc.all fun k => nameB k size) = true then some (acc, t) else none) = o by
              rw [← HXV.out]
              by_cases hq : (acc.all fun k => nameB k size) = true
              · rw [if_pos hq, if_pos ⟨hend, HT9.out, hq⟩]
              · rw [if_neg hq, if_neg (fun h => hq h.2.2)])
            have HLE := Lib.hid (show acc.length ≤ 16 by rw [HA.out]; exact HMN.out)
            clear hend HXV HA
            go_wp2_with fail
            go_loopw [54] (fun i wr => ∃ q : Nat, q ≤ acc.length ∧ i = .int .i64 q ∧ Hid (∀ y ∈ acc.take q, nameB y size = true) ∧ wr = w5) (fun i _ => acc.length - (intOf i).toNat)
            case atStart => exact ⟨0, Nat.zero_le _, rfl, Lib.hid (by simp), rfl⟩
            case round =>
              obtain ⟨q, hq, rfl, HALL, rfl⟩ := hrel
              have hle16 := HLE.out
              by_cases hlq : q < acc.length
              · obtain ⟨gb, off, rfl, hbl, hcl⟩ := HRW.out.2 (by omega)
                have c1 := hcl q hlq
                have HNX := Lib.hid (List.take_succ_eq_append_getElem hlq)
                have HME := Lib.hid (List.getElem_mem hlq)
                clear hcl hbl
                obtain ⟨z, hz⟩ : ∃ z, acc[q] = z := ⟨_, rfl⟩
                rw [hz] at c1 HNX HME
                clear hz
                cases hnm : nameB z size with
                | false =>
                  have hge : o = none := HXW.out.symm.trans (if_neg (fun h => by have := List.all_eq_true.1 h z HME.out; rw [hnm] at this; cases this))
                  rcases named_not z size hnm with k1 | k1
                  · have k3 : decide (z < 2) = true := decide_eq_true k1
                    subst hge
                    have j0 := Has.at_ HA5.out 0
                    have j1 := Has.at_ HA5.out 1
                    have f0 := Has.free HA5.out 0
                    have f1 := Has.free HA5.out 1
                    simp at j0 j1
                    have h22 := Has.put (Has.put HA5.out 0 (.slice none 0 0)) 1 (.string ⟨#[]⟩)
                    have j2 := Has.at_ h22 0
                    have j3 := Has.at_ h22 1
                    simp at j2 j3
                    have HB6 := Lib.hid ((HL5.out.setCell (p := ⟨w.heap.size, 0, none⟩) (Nat.le_refl _) (.slice none 0 0)).setCell (p := ⟨w.heap.size, 1, none⟩) (Nat.le_refl _) (.string ⟨#[]⟩))
                    clear h22
                    go_wp2
                    exact bodyPost_ret (v := .tuple #[.agg #[.slice none 0 0, .string ⟨#[]⟩], .bool false]) (by simp [results, Tryz.results53, go_sem, j2, j3]) rfl ⟨rfl, HB6.out⟩
                  · by_cases k2 : z < 2
                    · have k3 : decide (z < 2) = true := decide_eq_true k2
                      subst hge
                      have j0 := Has.at_ HA5.out 0
                      have j1 := Has.at_ HA5.out 1
                      have f0 := Has.free HA5.out 0
                      have f1 := Has.free HA5.out 1
                      simp at j0 j1
                      have h22 := Has.put (Has.put HA5.out 0 (.slice none 0 0)) 1 (.string ⟨#[]⟩)
                      have j2 := Has.at_ h22 0
                      have j3 := Has.at_ h22 1
                      simp at j2 j3
                      have HB6 := Lib.hid ((HL5.out.setCell (p := ⟨w.heap.size, 0, none⟩) (Nat.le_refl _) (.slice none 0 0)).setCell (p := ⟨w.heap.size, 1, none⟩) (Nat.le_refl _) (.string ⟨#[]⟩))
                      clear h22
                      go_wp2
                      exact bodyPost_ret (v := .tuple #[.agg #[.slice none 0 0, .string ⟨#[]⟩], .bool false]) (by simp [results, Tryz.results53, go_sem, j2, j3]) rfl ⟨rfl, HB6.out⟩
                    · have k3 : decide (z < 2) = false := decide_eq_false k2
                      have k4 : decide (size ≤ z) = true := decide_eq_true k1
                      subst hge
                      have j0 := Has.at_ HA5.out 0
                      have j1 := Has.at_ HA5.out 1
                      have f0 := Has.free HA5.out 0
                      have f1 := Has.free HA5.out 1
                      simp at j0 j1
                      have h22 := Has.put (Has.put HA5.out 0 (.slice none 0 0)) 1 (.string ⟨#[]⟩)
                      have j2 := Has.at_ h22 0
                      have j3 := Has.at_ h22 1
                      simp at j2 j3
                      have HB6 := Lib.hid ((HL5.out.setCell (p := ⟨w.heap.size, 0, none⟩) (Nat.le_refl _) (.slice none 0 0)).setCell (p := ⟨w.heap.size, 1, none⟩) (Nat.le_refl _) (.string ⟨#[]⟩))
                      clear h22
                      go_wp2
                      exact bodyPost_ret (v := .tuple #[.agg #[.slice none 0 0, .string ⟨#[]⟩], .bool false]) (by simp [results, Tryz.results53, go_sem, j2, j3]) rfl ⟨rfl, HB6.out⟩
                | true =>
                  obtain ⟨k1, k2⟩ := named_two z size hnm
                  have HAN := Lib.hid (show ∀ y ∈ acc.take (q + 1), nameB y size = true by
                    rw [HNX.out]
                    intro y hy
                    rcases List.mem_append.1 hy with hy | hy
                    · exact HALL.out y hy
                    · rw [List.mem_singleton.1 hy]
                      exact hnm)
                  clear hnm
                  go_wp2
                  go_roundw
                  case rel => exact ⟨q + 1, by omega, by go_num, HAN, by first | trivial | rfl⟩
                  case measure => simp [intOf]; omega
              · obtain rfl : q = acc.length := by omega
                have hall : (acc.all fun k => nameB k size) = true := List.all_eq_true.2 fun y hy => HALL.out y (by rw [List.take_of_length_le (Nat.le_refl _)]; exact hy)
                have hge : o = some (acc, t) := HXW.out.symm.trans (if_pos hall)
                subst hge
                have i2 := Has.at_ HB5.out 1
                have j0 := Has.at_ HA5.out 0
                have j1 := Has.at_ HA5.out 1
                have f0 := Has.free HA5.out 0
                have f1 := Has.free HA5.out 1
                simp at i2 j0 j1
                have h22 := Has.put (Has.put HA5.out 0 (.slice A acc.length c)) 1 (.string t)
                have j2 := Has.at_ h22 0
                have j3 := Has.at_ h22 1
                simp at j2 j3
                have HB6 := Lib.hid ((HL5.out.setCell (p := ⟨w.heap.size, 0, none⟩) (Nat.le_refl _) (.slice A acc.length c)).setCell (p := ⟨w.heap.size, 1, none⟩) (Nat.le_refl _) (.string t))
                have HO6 := Lib.hid (own_apart HO5.out HA5.out (((Chg.refl (· = w.heap.size) _).setCell (p := ⟨w.heap.size, 0, none⟩) (.inl rfl) (.slice A acc.length c)).setCell (p := ⟨w.heap.size, 1, none⟩) (.inl rfl) (.string t)) (by decide))
                clear h22 hall
                go_wp2
                exact bodyPost_ret (v := .tuple #[.agg #[.slice A acc.length c, .string t], .bool true]) (by simp [results, Tryz.results53, go_sem, j2, j3]) rfl ⟨⟨_, rfl, HO6.out⟩, HB6.out⟩
  · have HT9 := Lib.hid (show ¬ n9 ≤ 16 by rw [HN9.out]; omega)
    have HB2 := Lib.hid (show (16 : Int) = (m : Int) by omega)
    have t15 : ¬ n < 16 := by omega
    have t14 : ¬ n ≤ 16 := by omega
    clear hlow hm16 HN9 hb
    go_wp2_with fail
    rw [← HBB.out, ← HW2.out, HB2.out]
    go_loopw [26] (fun i wr => ∃ (j : Nat) (acc : List Int) (st : ES), j ≤ m ∧ i = .int .i64 j ∧ Hid (acc.length = j) ∧ Hid ((if ok = true then blkE size n9 (kidsE (m - j) st acc) else none) = o) ∧ Hid (RMid w x b w.heap.size B st acc wr)) (fun i _ => m - (intOf i).toNat)
    case atStart => exact ⟨0, [], st1, Nat.zero_le _, rfl, Lib.hid rfl, HOC, HM1⟩
    case round =>
      obtain ⟨j, acc, st, hj, rfl, HA, HXJ, HMJ⟩ := hrel
      clear HOC HM1 HW2
      have hm16 := HMN.out
      by_cases hlt : j < m
      · obtain ⟨k, hk⟩ : ∃ k, m - j = k + 1 := ⟨m - j - 1, by omega⟩
        have HK := Lib.hid (show m - (j + 1) = k by omega)
        rw [hk] at HXJ
        clear hk
        have HXN := Lib.hid (show (if ok = true then blkE size n9 (kidsE k (rnE st 4).2 (acc ++ [(rnE st 4).1])) else none) = o from HXJ.out)
        have HC0 := Lib.hid ((Chg.refl (fun _ => False) wr).drew)
        have HN4 := Lib.hid (rnum_s x 4 B HBS.out st wr.drew (HMJ.out.eye.over HC0.out (fun h => h)))
        generalize (rnE st 4).1 = v at *
        generalize (rnE st 4).2 = st2 at *
        obtain ⟨A, c, hb, ho⟩ := HMJ.out.blk
        have hb0 := hb.over HC0.out (fun h => h)
        have k1 := Has.at_ hb0 0
        simp at k1
        have hord := HMJ.out.ord
        have hbb := hb0.bound
        have hxx := (HMJ.out.eye).bound
        have HORD := Lib.hid hord
        have HBD := Lib.hid (show w.heap.size < b by omega)
        have HB0 := Lib.hid hb0
        have HOW := Lib.hid (own_chg ho HC0.out (fun k _ h => h))
        have HAN := Lib.hid (HMJ.out.ans.over HC0.out (fun h => h))
        have HBL := Lib.hid (HMJ.out.below.drew)
        have H1 := Lib.hid (show ∀ u ∈ [(.int .i64 v : Value)], u.oneCell' = true by intro u hu; rw [List.mem_singleton.1 hu]; rfl)
        have H2 := Lib.hid (show acc.length + 1 ≤ maxLen by rw [HA.out]; have := HMN.out; unfold maxLen; omega)
        have H3 := Lib.hid (show (acc.length + 1) * 8 ≤ 140737488355328 by rw [HA.out]; have := HMN.out; omega)
        obtain ⟨ecs, hec⟩ := (HMJ.out.eye.over HC0.out (fun h => h)).typed
        have HEC := Lib.hid hec
        have HXA := Lib.hid (show x < wr.drew.heap.size from hxx)
        clear hec hb ho hb0 hord hbb hxx HMJ HXJ HC0
        go_wp2_with fail
        go_region_law ((first | (go_simp; go_at_call 88; refine HN4.out.mono ?_; rintro e w3 ⟨rfl, h1, h2⟩; have hb3 := HB0.out.over h2 (by have := HORD.out; omega); have k1 := Has.at_ hb3 0; have k4 := Has.at_ (hb3.past (.cells #[.int .i64 v] 3)) 0; simp at k1 k4; have HR3 := Lib.hid h1; have HC3 := Lib.hid h2) | (have hb3 := HB0.out.over HC3.out (by have := HORD.out; omega); have ho3 := own_apart HOW.out HEC.out HC3.out (by decide); have hl3 := HBL.out.trans (HC3.out.below HBL.out.size (fun k hk => by have := HORD.out; omega)); have ha3 := HAN.out.over HC3.out (by have := HORD.out; omega); refine step_append_lies _ (by rfl) (.tmp 29) (.tmp 32) 40 (by rfl) w.heap.size 3 i0 (.int .i64 0) 1 8 Tryz.underlying40 HI.out.1 HI.out.2.1 HI.out.2.2.1 HI.out.2.2.2 rfl (by decide) (.slice A acc.length c) acc.length (acc.map (Value.int .i64)) (by rfl) (World.ownsRow.alloc ho3 _) ⟨w3.heap.size, 0, none⟩ 1 1 [.int .i64 v] (by rfl) rfl (cell_one_new w3 _ _) H1.out (by decide) H2.out H3.out (by have := hl3.size; simp; omega) _ rfl ?_; intro g5 cap5 w5 o5 b5 at5 lt5; have hst := RMid.step HR3.out hb3 ho3 ha3 hl3 HORD.out o5 b5; have i1 := Has.at_ hst.2 0; have i2 := Has.free hst.2 0; simp at i1; have HM5 := Lib.hid hst.1; clear hst o5 b5 hb3 ho3 ha3 hl3)))
        all_goals
          go_wp2
          go_roundw
          case rel => exact ⟨j + 1, acc ++ [v], st2, by omega, by go_num, Lib.hid (by rw [List.length_append, HA.out]; rfl), Lib.hid (by rw [HK.out]; exact HXN.out), HM5⟩
          case measure => simp [intOf]; omega
      · obtain rfl : j = m := by omega
        rw [Nat.sub_self] at HXJ
        have hT := rtext_s x 3900 (by decide) B HBS.out st wr HMJ.out.eye
        have hXU : (if ok = true then (if endE (rtE st 3900).2 = true ∧ n9 ≤ 16 ∧ (acc.all fun k => nameB k size) = true then some (acc, (rtE st 3900).1) else none) else none) = o := HXJ.out
        generalize (rtE st 3900).1 = t at hT hXU
        generalize (rtE st 3900).2 = st2 at hT hXU
        have HT := Lib.hid hT
        have HXU := Lib.hid hXU
        clear hT hXU HXJ
        have HORD := Lib.hid HMJ.out.ord
        obtain ⟨A, c, hb, ho⟩ := HMJ.out.blk
        obtain ⟨ecs, hec⟩ := HMJ.out.eye.typed
        go_wp2_with fail
        refine HT.out.mono ?_
        rintro e w3 ⟨rfl, h1, h2⟩
        have hb3 := hb.over h2 (by have := HORD.out; omega)
        have ho3 := own_apart ho hec h2 (by decide)
        have ha3 := HMJ.out.ans.over h2 (by have := HORD.out; omega)
        have hl3 := HMJ.out.below.trans (h2.below HMJ.out.below.size (fun k hk => by have := HORD.out; omega))
        have i1 := Has.at_ hb3 1
        have f1 := Has.free hb3 1
        simp at i1
        have hb4 : Has (w3.setCell ⟨b, 1, none⟩ (.string t)) b 51 #[.slice A acc.length c, .string t] := Has.put hb3 1 _
        have hc4 : Chg (· = b) w3 (w3.setCell ⟨b, 1, none⟩ (.string t)) := (Chg.refl (· = b) w3).setCell (p := ⟨b, 1, none⟩) (.inl rfl) _
        have HB4 := Lib.hid hb4
        have HO4 := Lib.hid (own_apart ho3 hb3 hc4 (by decide))
        have HA4 := Lib.hid (ha3.over hc4 (by have := HORD.out; omega))
        have HL4 := Lib.hid (hl3.setCell (p := ⟨b, 1, none⟩) (show w.heap.size ≤ b by have := HORD.out; omega) (.string t))
        have hr4 := h1.over hc4 (by have := HORD.out; omega)
        have HTY := Lib.hid hr4.typed
        have HE := Lib.hid (rend_s x B st2 _ hr4)
        clear hb ho hec h1 h2 hb3 ho3 ha3 hl3 hb4 hc4 hr4 HMJ HT
        cases ok with
        | false =>
          have HA5 := HA4
          have HL5 := HL4
          have hge : o = none := HXU.out.symm.trans (if_neg (by decide))
          subst hge
          have j0 := Has.at_ HA5.out 0
          have j1 := Has.at_ HA5.out 1
          have f0 := Has.free HA5.out 0
          have f1 := Has.free HA5.out 1
          simp at j0 j1
          have h22 := Has.put (Has.put HA5.out 0 (.slice none 0 0)) 1 (.string ⟨#[]⟩)
          have j2 := Has.at_ h22 0
          have j3 := Has.at_ h22 1
          simp at j2 j3
          have HB6 := Lib.hid ((HL5.out.setCell (p := ⟨w.heap.size, 0, none⟩) (Nat.le_refl _) (.slice none 0 0)).setCell (p := ⟨w.heap.size, 1, none⟩) (Nat.le_refl _) (.string ⟨#[]⟩))
          clear h22
          go_wp2
          exact bodyPost_ret (v := .tuple #[.agg #[.slice none 0 0, .string ⟨#[]⟩], .bool false]) (by simp [results, Tryz.results53, go_sem, j2, j3]) rfl ⟨rfl, HB6.out⟩
        | true =>
          have HXV := Lib.hid (show (if endE st2 = true ∧ n9 ≤ 16 ∧ (acc.all fun k => nameB k size) = true then some (acc, t) else none) = o from HXU.out)
          clear HXU
          go_wp2_with fail
          refine HE.out.mono ?_
          rintro e w5 ⟨E, rfl, hE, hc5⟩
          obtain ⟨ecs, hec⟩ := HTY.out
          have HB5 := Lib.hid (HB4.out.over hc5 (by have := HORD.out; omega))
          have HO5 := Lib.hid (own_apart HO4.out hec hc5 (by decide))
          have HA5 := Lib.hid (HA4.out.over hc5 (by have := HORD.out; omega))
          have HL5 := Lib.hid (HL4.out.trans (hc5.below HL4.out.size (fun k hk => by have := HORD.out; omega)))
          clear hec hc5 i1 f1 HE HTY HB4 HO4 HA4 HL4
          cases hend : endE st2 with
          | false =>
            rw [hend] at hE
            have hE2 : (E != 0) = true := hE
            clear hE
            have hge : o = none := HXV.out.symm.trans (if_neg (by rintro ⟨h, _⟩; rw [hend] at h; cases h))
            subst hge
            have j0 := Has.at_ HA5.out 0
            have j1 := Has.at_ HA5.out 1
            have f0 := Has.free HA5.out 0
            have f1 := Has.free HA5.out 1
            simp at j0 j1
            have h22 := Has.put (Has.put HA5.out 0 (.slice none 0 0)) 1 (.string ⟨#[]⟩)
            have j2 := Has.at_ h22 0
            have j3 := Has.at_ h22 1
            simp at j2 j3
            have HB6 := Lib.hid ((HL5.out.setCell (p := ⟨w.heap.size, 0, none⟩) (Nat.le_refl _) (.slice none 0 0)).setCell (p := ⟨w.heap.size, 1, none⟩) (Nat.le_refl _) (.string ⟨#[]⟩))
            clear h22
            go_wp2
            exact bodyPost_ret (v := .tuple #[.agg #[.slice none 0 0, .string ⟨#[]⟩], .bool false]) (by simp [results, Tryz.results53, go_sem, j2, j3]) rfl ⟨rfl, HB6.out⟩
          | true =>
            rw [hend] at hE
            have hE2 : (E != 0) = false := hE
            clear hE
            have hge : o = none := HXV.out.symm.trans (if_neg (by rintro ⟨_, h, _⟩; exact absurd h (by have := HT9.out; omega)))
            subst hge
            have j0 := Has.at_ HA5.out 0
            have j1 := Has.at_ HA5.out 1
            have f0 := Has.free HA5.out 0
            have f1 := Has.free HA5.out 1
            simp at j0 j1
            have h22 := Has.put (Has.put HA5.out 0 (.slice none 0 0)) 1 (.string ⟨#[]⟩)
            have j2 := Has.at_ h22 0
            have j3 := Has.at_ h22 1
            simp at j2 j3
            have HB6 := Lib.hid ((HL5.out.setCell (p := ⟨w.heap.size, 0, none⟩) (Nat.le_refl _) (.slice none 0 0)).setCell (p := ⟨w.heap.size, 1, none⟩) (Nat.le_refl _) (.string ⟨#[]⟩))
            clear h22
            go_wp2
            exact bodyPost_ret (v := .tuple #[.agg #[.slice none 0 0, .string ⟨#[]⟩], .bool false]) (by simp [results, Tryz.results53, go_sem, j2, j3]) rfl ⟨rfl, HB6.out⟩
end Go.Proofs.YthejlenafjnmkaaGreat.Sto
/- The document's Begins: contract. -/
namespace Go.Proofs.YthejlenafjnmkaaGreat.Sto
open Go.RowKit
open Oct (Has Chg gotNum gotText gotRaw)
open Vc (Rye)
set_option linter.unusedVariables false

def bgE5 (size g ro sz : Int) (kd : ByteArray) (p : ByteArray × ES) : Option BgV :=
  if endE p.2 = true ∧ (kd.toList == [83]) = true ∧ sz = size ∧ 1 ≤ g ∧ g ≤ 1099511627776 ∧ ro ≠ 1 ∧ ro < size then some (g, ro, p.1) else none
def bgE4 (size : Int) (kd : ByteArray) (g ro : Int) (p : Int × ES) : Option BgV := bgE5 size g ro p.1 kd (rtE p.2 3900)
def bgE3 (size : Int) (kd : ByteArray) (g : Int) (p : Int × ES) : Option BgV := bgE4 size kd g p.1 (rnE p.2 4)
def bgE2 (size : Int) (kd : ByteArray) (p : Int × ES) : Option BgV := bgE3 size kd p.1 (rnE p.2 4)
def bgE1 (size : Int) (p : ByteArray × ES) : Option BgV := bgE2 size p.1 (rnE p.2 6)
/-- The document's way to read a beginning. -/
def beginE (size : Int) (st : ES) : Option BgV := bgE1 size (rwE st 1)
theorem bgE5_no {size g ro sz : Int} {kd : ByteArray} {p : ByteArray × ES} (h : ¬ (endE p.2 = true ∧ (kd.toList == [83]) = true ∧ sz = size ∧ 1 ≤ g ∧ g ≤ 1099511627776 ∧ ro ≠ 1 ∧ ro < size)) : bgE5 size g ro sz kd p = none := if_neg h
theorem b5_e {size g ro : Int} {kd r : ByteArray} (hk : (kd.toList == [83]) = true) (hg : 1 ≤ g ∧ g ≤ 1099511627776) (hr : ro ≠ 1 ∧ ro < size) : okOf (bg5 g ro r) = bgE5 size g ro size kd (rtE (some r) 3900) := by
  unfold bg5 bgE5
  cases hq : gotText r 3900 with
  | txt t q =>
    have e : rtE (some r) 3900 = (t, some q) := by simp only [rtE, hq]
    rw [e]
    show (if q.size = 0 then some (g, ro, t) else none) = _
    by_cases h0 : q.size = 0
    · rw [if_pos h0, if_pos ⟨by simp [endE, h0], hk, rfl, hg.1, hg.2, hr.1, hr.2⟩]
    · rw [if_neg h0, if_neg (by rintro ⟨h1, _⟩; simp [endE, h0] at h1)]
  | num t q => exact (gotText_num hq).elim
  | bad q y =>
    have e : rtE (some r) 3900 = (⟨#[]⟩, none) := by simp only [rtE, hq]
    rw [e]
    exact (if_neg (by rintro ⟨h1, _⟩; cases h1)).symm
theorem b4_e {size g ro : Int} {kd r : ByteArray} (hk : (kd.toList == [83]) = true) (hg : 1 ≤ g ∧ g ≤ 1099511627776) (hr : ro ≠ 1 ∧ ro < size) : okOf (bg4 size g ro r) = bgE4 size kd g ro (rnE (some r) 4) := by
  unfold bg4
  cases hq : gotNum r 4 with
  | num v q =>
    have e : rnE (some r) 4 = (v, some q) := by simp only [rnE, hq]
    rw [e]
    by_cases hv : v = size
    · subst hv
      simp only [beq_self_eq_true, if_true]
      exact b5_e hk hg hr
    · have hv2 : (v == size) = false := beq_eq_false_iff_ne.2 hv
      simp only [hv2, Bool.false_eq_true, if_false]
      refine (bgE5_no ?_).symm
      rintro ⟨_, _, h, _⟩
      exact hv h
  | txt t q => exact (gotNum_txt hq).elim
  | bad q y =>
    have e : rnE (some r) 4 = (0, none) := by simp only [rnE, hq]
    rw [e]
    show none = _
    unfold bgE4
    refine (bgE5_no ?_).symm
    rintro ⟨h1, _⟩
    cases h1
theorem b3_e {size g : Int} {kd r : ByteArray} (hz : 0 < size) (hk : (kd.toList == [83]) = true) (hg : 1 ≤ g ∧ g ≤ 1099511627776) : okOf (bg3 size g r) = bgE3 size kd g (rnE (some r) 4) := by
  unfold bg3
  cases hq : gotNum r 4 with
  | num v q =>
    have e : rnE (some r) 4 = (v, some q) := by simp only [rnE, hq]
    rw [e]
    obtain ⟨m, rfl, _⟩ := gotNum_nat hq
    by_cases hv : ((m : Int) == 0 || nameB m size) = true
    · simp only [hv, if_true]
      refine b4_e hk hg ?_
      unfold nameB at hv
      simp at hv
      omega
    · simp only [hv]
      refine (bgE5_no ?_).symm
      rintro ⟨_, _, _, _, _, h1, h2⟩
      apply hv
      unfold nameB
      simp
      omega
  | txt t q => exact (gotNum_txt hq).elim
  | bad q y =>
    have e : rnE (some r) 4 = (0, none) := by simp only [rnE, hq]
    rw [e]
    show none = _
    unfold bgE3 bgE4
    refine (bgE5_no ?_).symm
    rintro ⟨h1, _⟩
    cases h1
theorem b2_e {size : Int} {kd r : ByteArray} (hz : 0 < size) (hk : (kd.toList == [83]) = true) : okOf (bg2 size r) = bgE2 size kd (rnE (some r) 6) := by
  unfold bg2
  cases hq : gotNum r 6 with
  | num v q =>
    have e : rnE (some r) 6 = (v, some q) := by simp only [rnE, hq]
    rw [e]
    by_cases hv : (decide (1 ≤ v) && decide (v ≤ 1099511627776)) = true
    · simp only [hv, if_true]
      exact b3_e hz hk (by simpa using hv)
    · simp only [hv]
      refine (bgE5_no ?_).symm
      rintro ⟨_, _, _, h1, h2, _⟩
      apply hv
      simp
      exact ⟨h1, h2⟩
  | txt t q => exact (gotNum_txt hq).elim
  | bad q y =>
    have e : rnE (some r) 6 = (0, none) := by simp only [rnE, hq]
    rw [e]
    show none = _
    unfold bgE2 bgE3 bgE4
    refine (bgE5_no ?_).symm
    rintro ⟨h1, _⟩
    cases h1
theorem begin_e {size : Int} (hz : 0 < size) (r : ByteArray) : okOf (beginP size r) = beginE size (some r) := by
  unfold beginP beginE
  cases hq : gotRaw r 1 with
  | txt t q =>
    have e : rwE (some r) 1 = (t, some q) := by simp only [rwE, hq]
    rw [e]
    by_cases hv : (t.toList == [83]) = true
    · simp only [hv, if_true]
      exact b2_e hz hv
    · simp only [hv]
      refine (bgE5_no ?_).symm
      rintro ⟨_, h1, _⟩
      exact hv h1
  | num t q => exact (gotRaw_num hq).elim
  | bad q y =>
    have e : rwE (some r) 1 = (⟨#[]⟩, none) := by simp only [rwE, hq]
    rw [e]
    show none = _
    unfold bgE1 bgE2 bgE3 bgE4
    refine (bgE5_no ?_).symm
    rintro ⟨h1, _⟩
    cases h1
theorem parseG_e {size : Int} (hz : 0 < size) (bytes : ByteArray) : parseG size bytes = if okE bytes = true then beginE size (some (hdE bytes)) else none := by
  unfold parseG
  rw [parOf_e bytes _ (fun r y h => begin_why h)]
  by_cases h : okE bytes = true
  · rw [if_pos h, if_pos h, begin_e hz]
    have h8 : 8 ≤ bytes.size := by
      unfold okE at h
      simp at h
      exact h.1
    rw [show hdE bytes = CrcW.headB bytes from if_pos h8]
  · rw [if_neg h, if_neg h]

theorem endE_ne {E : Int} {st : ES} (h : (E != 0) = !endE st) : (endE st = true → E = 0) ∧ (endE st = false → ¬ E = 0) := by
  constructor
  · intro e
    rw [e] at h
    simpa using h
  · intro e
    rw [e] at h
    simpa using h
set_option maxRecDepth 100000 in
set_option maxHeartbeats 4000000 in
theorem rbegins (bytes : ByteArray) (hs : bytes.size ≤ 4104) (size : Int) (hz : 0 < size) (w : World) (o : Option BgV) (ho : parseG size bytes = o) :
    Calls Tryz.prog 51 #[.string bytes, .int .i64 size] w fun e w' => GOut o e ∧ Below w.heap.size w w' := by
  have HO := Lib.hid ((parseG_e hz bytes).symm.trans ho)
  have HOP := Lib.hid (fun W => ropen_any bytes hs W)
  have HBS := Lib.hid (hdE_size bytes hs)
  have HZ := Lib.hid hz
  generalize hdE bytes = B at *
  generalize okE bytes = ok at *
  clear ho hz hs
  have HR0 := Lib.hid (Has.fresh w 90 #[.int .i64 0, .int .i64 0, .string ⟨#[]⟩])
  have HB0 := Lib.hid ((Below.refl w.heap.size w).alloc (Nat.le_refl _) (.cells #[.int .i64 0, .int .i64 0, .string ⟨#[]⟩] 90))
  have HZ0 := Lib.hid (show (w.alloc (.cells #[.int .i64 0, .int .i64 0, .string ⟨#[]⟩] 90)).heap.size = w.heap.size + 1 by simp)
  go_enter Tryz.func51, Tryz.ntmps51
  go_wp2_with fail
  refine (HOP.out _).mono ?_
  rintro e w1 ⟨rfl, hb1⟩
  have hz1 := hb1.size
  have hr1 := has_blw HR0.out hb1
  have hbw1 := HB0.out.trans (hb1.mono (by rw [HZ0.out]; omega))
  rw [HZ0.out] at hz1
  have hx1 := Has.fresh w1 141 #[.string B, .int .i64 ((0 : Nat) : Int), .bool false, .int .i64 0]
  have HE1 := Lib.hid (show RyeS (w1.alloc (.cells #[.string B, .int .i64 0, .bool false, .int .i64 0] 141)) w1.heap.size B (some B) from ⟨0, Nat.zero_le _, by simp, hx1⟩)
  have HR1 := Lib.hid (hr1.past (.cells #[.string B, .int .i64 0, .bool false, .int .i64 0] 141))
  have HB1 := Lib.hid (hbw1.alloc hbw1.size (.cells #[.string B, .int .i64 0, .bool false, .int .i64 0] 141))
  have HZ1 := Lib.hid (show w.heap.size < w1.heap.size by omega)
  have HX1 := Lib.hid (World.size_alloc w1 (.cells #[.string B, .int .i64 0, .bool false, .int .i64 0] 141))
  clear hb1 hz1 hr1 hbw1 hx1 HOP HR0 HB0 HZ0
  have hN := rraw_s w1.heap.size 1 B HBS.out (some B) _ HE1.out
  have hO : (if ok = true then bgE1 size (rwE (some B) 1) else none) = o := HO.out
  obtain ⟨⟨kd, s1⟩, hk⟩ : ∃ p, rwE (some B) 1 = p := ⟨_, rfl⟩
  rw [hk] at hN hO
  have HN := Lib.hid hN
  have HO1 := Lib.hid hO
  clear hN hO hk HO
  go_wp2_with fail
  refine HN.out.mono ?_
  rintro e w2 ⟨rfl, h1, h2⟩
  have HR2 := Lib.hid (HR1.out.over h2 (by have := HZ1.out; omega))
  have HB2 := Lib.hid (HB1.out.trans (h2.below HB1.out.size (fun k hk => by have := HZ1.out; omega)))
  have hs2 := h2.size
  rw [HX1.out] at hs2
  have HS2 := Lib.hid hs2
  clear hs2 HX1 HR1 HB1 HE1 HN h2
  have hN := rnum_s w1.heap.size 6 B HBS.out s1 w2 h1
  have hO : (if ok = true then bgE2 size kd (rnE s1 6) else none) = o := HO1.out
  obtain ⟨⟨g, s2⟩, hk⟩ : ∃ p, rnE s1 6 = p := ⟨_, rfl⟩
  rw [hk] at hN hO
  have HN := Lib.hid hN
  have HO2 := Lib.hid hO
  clear hN hO hk HO1 h1
  go_wp2_with fail
  refine HN.out.mono ?_
  rintro e w3 ⟨rfl, h1, h2⟩
  have hs3 := h2.size
  have HS3 := Lib.hid (Nat.lt_of_lt_of_le (Nat.lt_of_succ_le HS2.out) hs3)
  have HS := Lib.hid (Has.fresh w3 90 #[.int .i64 g, .int .i64 0, .string ⟨#[]⟩])
  have HC3 := Lib.hid ((Chg.refl (fun _ => False) w3).alloc (.cells #[.int .i64 g, .int .i64 0, .string ⟨#[]⟩] 90))
  have HE3 := Lib.hid (h1.over HC3.out (fun h => h))
  have HR3 := Lib.hid ((HR2.out.over h2 (by have := HZ1.out; omega)).past (.cells #[.int .i64 g, .int .i64 0, .string ⟨#[]⟩] 90))
  have hb3 := HB2.out.trans (h2.below HB2.out.size (fun k hk => by have := HZ1.out; omega))
  have HB3 := Lib.hid (hb3.alloc hb3.size (.cells #[.int .i64 g, .int .i64 0, .string ⟨#[]⟩] 90))
  have HZ3 := Lib.hid (show w.heap.size < w3.heap.size ∧ w1.heap.size < w3.heap.size from ⟨by have := HZ1.out; have := HS3.out; omega, HS3.out⟩)
  clear hs3 HS2 HS3 HR2 HB2 HN h1 h2 hb3 HC3
  have hN := rnum_s w1.heap.size 4 B HBS.out s2 _ HE3.out
  have hO : (if ok = true then bgE3 size kd g (rnE s2 4) else none) = o := HO2.out
  obtain ⟨⟨ro, s3⟩, hk⟩ : ∃ p, rnE s2 4 = p := ⟨_, rfl⟩
  rw [hk] at hN hO
  have HN := Lib.hid hN
  have HO3 := Lib.hid hO
  clear hN hO hk HO2
  go_wp2_with fail
  refine HN.out.mono ?_
  rintro e w4 ⟨rfl, h1, h2⟩
  have hs4 := HS.out.over h2 (by have := HZ3.out; omega)
  have hr4 := HR3.out.over h2 (by have := HZ1.out; omega)
  have hb4 := HB3.out.trans (h2.below HB3.out.size (fun k hk => by have := HZ1.out; omega))
  have i0 := Has.at_ hs4 1
  have i1 := Has.free hs4 1
  simp at i0
  have hc4 : Chg (· = w3.heap.size) w4 (w4.setCell ⟨w3.heap.size, 1, none⟩ (.int .i64 ro)) := (Chg.refl (· = w3.heap.size) w4).setCell (p := ⟨w3.heap.size, 1, none⟩) (.inl rfl) _
  have HS4 := Lib.hid (show Has (w4.setCell ⟨w3.heap.size, 1, none⟩ (.int .i64 ro)) w3.heap.size 90 #[.int .i64 g, .int .i64 ro, .string ⟨#[]⟩] from Has.put hs4 1 _)
  have HE4 := Lib.hid (h1.over hc4 (by have := HZ3.out; omega))
  have HR4 := Lib.hid (hr4.over hc4 (by have := HZ3.out; omega))
  have HB4 := Lib.hid (hb4.setCell (p := ⟨w3.heap.size, 1, none⟩) (show w.heap.size ≤ w3.heap.size by have := HZ3.out; omega) (.int .i64 ro))
  clear hs4 hr4 hb4 hc4 h1 h2 HN HS HE3 HR3 HB3
  have hN := rnum_s w1.heap.size 4 B HBS.out s3 _ HE4.out
  have hO : (if ok = true then bgE4 size kd g ro (rnE s3 4) else none) = o := HO3.out
  obtain ⟨⟨sz, s4⟩, hk⟩ : ∃ p, rnE s3 4 = p := ⟨_, rfl⟩
  rw [hk] at hN hO
  have HN := Lib.hid hN
  have HO4 := Lib.hid hO
  clear hN hO hk HO3
  go_wp2_with fail
  refine HN.out.mono ?_
  rintro e w5 ⟨rfl, h1, h2⟩
  have HS5 := Lib.hid (HS4.out.over h2 (by have := HZ3.out; omega))
  have HR5 := Lib.hid (HR4.out.over h2 (by have := HZ1.out; omega))
  have HB5 := Lib.hid (HB4.out.trans (h2.below HB4.out.size (fun k hk => by have := HZ1.out; omega)))
  clear i0 i1 h2 HN HS4 HE4 HR4 HB4
  have hN := rtext_s w1.heap.size 3900 (by decide) B HBS.out s4 _ h1
  have hO : (if ok = true then bgE5 size g ro sz kd (rtE s4 3900) else none) = o := HO4.out
  obtain ⟨⟨t, s5⟩, hk⟩ : ∃ p, rtE s4 3900 = p := ⟨_, rfl⟩
  rw [hk] at hN hO
  have HN := Lib.hid hN
  have HO5 := Lib.hid hO
  clear hN hO hk HO4 h1
  go_wp2_with fail
  refine HN.out.mono ?_
  rintro e w6 ⟨rfl, h1, h2⟩
  have hs6 := HS5.out.over h2 (by have := HZ3.out; omega)
  have hr6 := HR5.out.over h2 (by have := HZ1.out; omega)
  have hb6 := HB5.out.trans (h2.below HB5.out.size (fun k hk => by have := HZ1.out; omega))
  have i0 := Has.at_ hs6 2
  have i1 := Has.free hs6 2
  simp at i0
  have hc6 : Chg (· = w3.heap.size) w6 (w6.setCell ⟨w3.heap.size, 2, none⟩ (.string t)) := (Chg.refl (· = w3.heap.size) w6).setCell (p := ⟨w3.heap.size, 2, none⟩) (.inl rfl) _
  have HS6 := Lib.hid (show Has (w6.setCell ⟨w3.heap.size, 2, none⟩ (.string t)) w3.heap.size 90 #[.int .i64 g, .int .i64 ro, .string t] from Has.put hs6 2 _)
  have HE6 := Lib.hid (rend_s w1.heap.size B s5 _ (h1.over hc6 (by have := HZ3.out; omega)))
  have HA4 := Lib.hid (hr6.over hc6 (by have := HZ3.out; omega))
  have HL4 := Lib.hid (hb6.setCell (p := ⟨w3.heap.size, 2, none⟩) (show w.heap.size ≤ w3.heap.size by have := HZ3.out; omega) (.string t))
  clear hs6 hr6 hb6 hc6 h1 h2 HN HS5 HR5 HB5
  cases ok with
  | false =>
    have HA5 := HA4
    have HL5 := HL4
    have hge : o = none := HO5.out.symm.trans (if_neg (by decide))
    subst hge
    have j0 := Has.at_ HA5.out 0
    have j1 := Has.at_ HA5.out 1
    have j2 := Has.at_ HA5.out 2
    have f0 := Has.free HA5.out 0
    have f1 := Has.free HA5.out 1
    have f2 := Has.free HA5.out 2
    simp at j0 j1 j2
    have h22 := put3 HA5.out (.int .i64 0) (.int .i64 0) (.string ⟨#[]⟩)
    have k0 := Has.at_ h22 0
    have k1 := Has.at_ h22 1
    have k2 := Has.at_ h22 2
    simp at k0 k1 k2
    have HB6 := Lib.hid (below3 HL5.out (Nat.le_refl _) (.int .i64 0) (.int .i64 0) (.string ⟨#[]⟩))
    clear h22
    go_wp2
    exact bodyPost_ret (v := .tuple #[.agg #[.int .i64 0, .int .i64 0, .string ⟨#[]⟩], .bool false]) (by simp [results, Tryz.results51, go_sem, k0, k1, k2]) rfl ⟨rfl, HB6.out⟩
  | true =>
    have HXV := Lib.hid (show (if endE s5 = true ∧ (kd.toList == [83]) = true ∧ sz = size ∧ 1 ≤ g ∧ g ≤ 1099511627776 ∧ ro ≠ 1 ∧ ro < size then some (g, ro, t) else none) = o from HO5.out)
    clear HO5
    go_wp2_with fail
    refine HE6.out.mono ?_
    rintro e w7 ⟨E, rfl, hE, hc7⟩
    have HA5 := Lib.hid (HA4.out.over hc7 (by have := HZ1.out; omega))
    have HL5 := Lib.hid (HL4.out.trans (hc7.below HL4.out.size (fun k hk => by have := HZ1.out; omega)))
    have hs7 := HS6.out.over hc7 (by have := HZ3.out; omega)
    have s0 := Has.at_ hs7 0
    have s1' := Has.at_ hs7 1
    have s2' := Has.at_ hs7 2
    simp at s0 s1' s2'
    have HQ := Lib.hid (endE_ne hE)
    clear hE hc7 hs7 HS6 HE6 HA4 HL4 i0 i1
    by_cases hend : endE s5 = true
    · have hE2 : E = 0 := HQ.out.1 hend
      clear HQ
      by_cases hkd : (kd.toList == [83]) = true
      · by_cases hsz : sz = size
        · by_cases hg1 : 1 ≤ g
          · have hgn : ¬ g < 1 := by omega
            by_cases hg2 : g ≤ 1099511627776
            · have hgm : ¬ 1099511627776 < g := by omega
              by_cases hr1 : ro ≠ 1
              · have hro : (ro == 1) = false := beq_eq_false_iff_ne.2 hr1
                by_cases hr2 : ro < size
                · have hrn : ¬ size ≤ ro := by omega
                  have hge : o = some (g, ro, t) := HXV.out.symm.trans (if_pos ⟨hend, hkd, hsz, hg1, hg2, hr1, hr2⟩)
                  subst hge
                  have j0 := Has.at_ HA5.out 0
                  have j1 := Has.at_ HA5.out 1
                  have j2 := Has.at_ HA5.out 2
                  have f0 := Has.free HA5.out 0
                  have f1 := Has.free HA5.out 1
                  have f2 := Has.free HA5.out 2
                  simp at j0 j1 j2
                  have h22 := put3 HA5.out (.int .i64 g) (.int .i64 ro) (.string t)
                  have k0 := Has.at_ h22 0
                  have k1 := Has.at_ h22 1
                  have k2 := Has.at_ h22 2
                  simp at k0 k1 k2
                  have HB6 := Lib.hid (below3 HL5.out (Nat.le_refl _) (.int .i64 g) (.int .i64 ro) (.string t))
                  clear h22
                  go_wp2
                  exact bodyPost_ret (v := .tuple #[.agg #[.int .i64 g, .int .i64 ro, .string t], .bool true]) (by simp [results, Tryz.results51, go_sem, k0, k1, k2]) rfl ⟨rfl, HB6.out⟩
                · have hrx : size ≤ ro := by omega
                  have hge : o = none := HXV.out.symm.trans (if_neg (by rintro ⟨_, _, _, _, _, _, h⟩; exact hr2 h))
                  subst hge
                  have j0 := Has.at_ HA5.out 0
                  have j1 := Has.at_ HA5.out 1
                  have j2 := Has.at_ HA5.out 2
                  have f0 := Has.free HA5.out 0
                  have f1 := Has.free HA5.out 1
                  have f2 := Has.free HA5.out 2
                  simp at j0 j1 j2
                  have h22 := put3 HA5.out (.int .i64 0) (.int .i64 0) (.string ⟨#[]⟩)
                  have k0 := Has.at_ h22 0
                  have k1 := Has.at_ h22 1
                  have k2 := Has.at_ h22 2
                  simp at k0 k1 k2
                  have HB6 := Lib.hid (below3 HL5.out (Nat.le_refl _) (.int .i64 0) (.int .i64 0) (.string ⟨#[]⟩))
                  clear h22
                  go_wp2
                  exact bodyPost_ret (v := .tuple #[.agg #[.int .i64 0, .int .i64 0, .string ⟨#[]⟩], .bool false]) (by simp [results, Tryz.results51, go_sem, k0, k1, k2]) rfl ⟨rfl, HB6.out⟩
              · have hrx : ro = 1 := by omega
                have hge : o = none := HXV.out.symm.trans (if_neg (by rintro ⟨_, _, _, _, _, h, _⟩; exact hr1 h))
                subst hge
                have j0 := Has.at_ HA5.out 0
                have j1 := Has.at_ HA5.out 1
                have j2 := Has.at_ HA5.out 2
                have f0 := Has.free HA5.out 0
                have f1 := Has.free HA5.out 1
                have f2 := Has.free HA5.out 2
                simp at j0 j1 j2
                have h22 := put3 HA5.out (.int .i64 0) (.int .i64 0) (.string ⟨#[]⟩)
                have k0 := Has.at_ h22 0
                have k1 := Has.at_ h22 1
                have k2 := Has.at_ h22 2
                simp at k0 k1 k2
                have HB6 := Lib.hid (below3 HL5.out (Nat.le_refl _) (.int .i64 0) (.int .i64 0) (.string ⟨#[]⟩))
                clear h22
                go_wp2
                exact bodyPost_ret (v := .tuple #[.agg #[.int .i64 0, .int .i64 0, .string ⟨#[]⟩], .bool false]) (by simp [results, Tryz.results51, go_sem, k0, k1, k2]) rfl ⟨rfl, HB6.out⟩
            · have hgx : 1099511627776 < g := by omega
              have hge : o = none := HXV.out.symm.trans (if_neg (by rintro ⟨_, _, _, _, h, _⟩; exact hg2 h))
              subst hge
              have j0 := Has.at_ HA5.out 0
              have j1 := Has.at_ HA5.out 1
              have j2 := Has.at_ HA5.out 2
              have f0 := Has.free HA5.out 0
              have f1 := Has.free HA5.out 1
              have f2 := Has.free HA5.out 2
              simp at j0 j1 j2
              have h22 := put3 HA5.out (.int .i64 0) (.int .i64 0) (.string ⟨#[]⟩)
              have k0 := Has.at_ h22 0
              have k1 := Has.at_ h22 1
              have k2 := Has.at_ h22 2
              simp at k0 k1 k2
              have HB6 := Lib.hid (below3 HL5.out (Nat.le_refl _) (.int .i64 0) (.int .i64 0) (.string ⟨#[]⟩))
              clear h22
              go_wp2
              exact bodyPost_ret (v := .tuple #[.agg #[.int .i64 0, .int .i64 0, .string ⟨#[]⟩], .bool false]) (by simp [results, Tryz.results51, go_sem, k0, k1, k2]) rfl ⟨rfl, HB6.out⟩
          · have hgx : g < 1 := by omega
            have hge : o = none := HXV.out.symm.trans (if_neg (by rintro ⟨_, _, _, h, _⟩; exact hg1 h))
            subst hge
            have j0 := Has.at_ HA5.out 0
            have j1 := Has.at_ HA5.out 1
            have j2 := Has.at_ HA5.out 2
            have f0 := Has.free HA5.out 0
            have f1 := Has.free HA5.out 1
            have f2 := Has.free HA5.out 2
            simp at j0 j1 j2
            have h22 := put3 HA5.out (.int .i64 0) (.int .i64 0) (.string ⟨#[]⟩)
            have k0 := Has.at_ h22 0
            have k1 := Has.at_ h22 1
            have k2 := Has.at_ h22 2
            simp at k0 k1 k2
            have HB6 := Lib.hid (below3 HL5.out (Nat.le_refl _) (.int .i64 0) (.int .i64 0) (.string ⟨#[]⟩))
            clear h22
            go_wp2
            exact bodyPost_ret (v := .tuple #[.agg #[.int .i64 0, .int .i64 0, .string ⟨#[]⟩], .bool false]) (by simp [results, Tryz.results51, go_sem, k0, k1, k2]) rfl ⟨rfl, HB6.out⟩
        · have hge : o = none := HXV.out.symm.trans (if_neg (by rintro ⟨_, _, h, _⟩; exact hsz h))
          subst hge
          have j0 := Has.at_ HA5.out 0
          have j1 := Has.at_ HA5.out 1
          have j2 := Has.at_ HA5.out 2
          have f0 := Has.free HA5.out 0
          have f1 := Has.free HA5.out 1
          have f2 := Has.free HA5.out 2
          simp at j0 j1 j2
          have h22 := put3 HA5.out (.int .i64 0) (.int .i64 0) (.string ⟨#[]⟩)
          have k0 := Has.at_ h22 0
          have k1 := Has.at_ h22 1
          have k2 := Has.at_ h22 2
          simp at k0 k1 k2
          have HB6 := Lib.hid (below3 HL5.out (Nat.le_refl _) (.int .i64 0) (.int .i64 0) (.string ⟨#[]⟩))
          clear h22
          go_wp2
          exact bodyPost_ret (v := .tuple #[.agg #[.int .i64 0, .int .i64 0, .string ⟨#[]⟩], .bool false]) (by simp [results, Tryz.results51, go_sem, k0, k1, k2]) rfl ⟨rfl, HB6.out⟩
      · have hkf : (kd.toList == [83]) = false := by simpa using hkd
        have hge : o = none := HXV.out.symm.trans (if_neg (by rintro ⟨_, h, _⟩; exact hkd h))
        subst hge
        have j0 := Has.at_ HA5.out 0
        have j1 := Has.at_ HA5.out 1
        have j2 := Has.at_ HA5.out 2
        have f0 := Has.free HA5.out 0
        have f1 := Has.free HA5.out 1
        have f2 := Has.free HA5.out 2
        simp at j0 j1 j2
        have h22 := put3 HA5.out (.int .i64 0) (.int .i64 0) (.string ⟨#[]⟩)
        have k0 := Has.at_ h22 0
        have k1 := Has.at_ h22 1
        have k2 := Has.at_ h22 2
        simp at k0 k1 k2
        have HB6 := Lib.hid (below3 HL5.out (Nat.le_refl _) (.int .i64 0) (.int .i64 0) (.string ⟨#[]⟩))
        clear h22
        go_wp2
        exact bodyPost_ret (v := .tuple #[.agg #[.int .i64 0, .int .i64 0, .string ⟨#[]⟩], .bool false]) (by simp [results, Tryz.results51, go_sem, k0, k1, k2]) rfl ⟨rfl, HB6.out⟩
    · have hE2 : ¬ E = 0 := HQ.out.2 (by simpa using hend)
      clear HQ
      have hge : o = none := HXV.out.symm.trans (if_neg (by rintro ⟨h, _⟩; exact hend h))
      subst hge
      have j0 := Has.at_ HA5.out 0
      have j1 := Has.at_ HA5.out 1
      have j2 := Has.at_ HA5.out 2
      have f0 := Has.free HA5.out 0
      have f1 := Has.free HA5.out 1
      have f2 := Has.free HA5.out 2
      simp at j0 j1 j2
      have h22 := put3 HA5.out (.int .i64 0) (.int .i64 0) (.string ⟨#[]⟩)
      have k0 := Has.at_ h22 0
      have k1 := Has.at_ h22 1
      have k2 := Has.at_ h22 2
      simp at k0 k1 k2
      have HB6 := Lib.hid (below3 HL5.out (Nat.le_refl _) (.int .i64 0) (.int .i64 0) (.string ⟨#[]⟩))
      clear h22
      go_wp2
      exact bodyPost_ret (v := .tuple #[.agg #[.int .i64 0, .int .i64 0, .string ⟨#[]⟩], .bool false]) (by simp [results, Tryz.results51, go_sem, k0, k1, k2]) rfl ⟨rfl, HB6.out⟩
end Go.Proofs.YthejlenafjnmkaaGreat.Sto
