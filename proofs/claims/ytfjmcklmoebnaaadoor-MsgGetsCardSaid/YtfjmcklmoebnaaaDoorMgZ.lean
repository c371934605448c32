/- What the document's eye sees of a vector and of a mark; what its Get comes to. -/
import Derived.Test.YtfjmcklmoebnaaaDoorMgS
import Derived.Test.YtfjmcklmoebnaaaDoorMgF
namespace Go.Proofs.YtfjmcklmoebnaaaDoor.Mg
open Go.RowKit Go.Proofs.YtfjmcklmoebnaaaDoor.Mem Go.Proofs.YtfjmcklmoebnaaaDoor.Nt
open Go.Proofs.YtfjmcklmoebnaaaDoor.Vc (vecC seeV)
set_option linter.unusedVariables false set_option linter.unusedSimpArgs false

def RelE {α : Type} (X : ParX α) (p : α × ES) : Prop := match X with | .ok (a, q) => p = (a, some q) | .error _ => p.2 = none
theorem bnd_rel {α β : Type} {X : ParX α} {p : α × ES} {f : α → ByteArray → ParX β} {g : α → ES → β × ES} (h : RelE X p) (hf : ∀ a q, RelE (f a q) (g a (some q))) (hn : ∀ a, (g a none).2 = none) : RelE (bnd X f) (g p.1 p.2) := by
  cases X with
  | error y =>
    have h : p.2 = none := h
    show (g p.1 p.2).2 = none
    rw [h]
    exact hn _
  | ok a =>
    obtain ⟨a, q⟩ := a
    have h : p = (a, some q) := h
    rw [h]
    exact hf a q
theorem ok_rel {α : Type} (a : α) (q : ByteArray) : RelE (.ok (a, q) : ParX α) (a, some q) := rfl
theorem rn_rel (r : ByteArray) (k : Int) : RelE (gN r k) (rnE (some r) k) := by
  rw [rn_of]
  cases gN r k with
  | ok a => rfl
  | error y => rfl
theorem rt_rel (r : ByteArray) (k : Int) : RelE (gT r k) (rtE (some r) k) := by
  rw [rt_of]
  cases gT r k with
  | ok a => rfl
  | error y => rfl
theorem rm_rel (r : ByteArray) : RelE (gM r) (rmE (some r)) :=
  bnd_rel (g := fun a st => ((a, (rnE st 6).1), (rnE st 6).2)) (rn_rel r 6) (fun a q => bnd_rel (g := fun b st => ((a, b), st)) (rn_rel q 6) (fun b q => ok_rel _ _) (fun b => rfl)) (fun a => rfl)
theorem stE_none (k : Nat) : stE none k = none := by
  induction k with
  | zero => rfl
  | succ k ih => show (rnE (stE none k) 6).2 = none; rw [ih]; rfl
theorem gN6_of (r : ByteArray) : gN r 6 = if 6 ≤ r.size then .ok (((Oct.numL (r.data.toList.take 6) : Nat) : Int), r.extract 6 r.size) else .error 201 := by
  unfold gN Oct.gotNum
  have hlt := Oct.numL_lt (r.data.toList.take 6)
  have hle : (r.data.toList.take 6).length ≤ 6 := by rw [List.length_take]; omega
  have h3 : (256 : Nat) ^ (r.data.toList.take 6).length ≤ 256 ^ 6 := Nat.pow_le_pow_right (by omega) hle
  have h4 : (256 : Nat) ^ 6 = 281474976710656 := by decide
  rw [if_pos ⟨by omega, by omega⟩]
  by_cases h : 6 ≤ r.size
  · rw [if_pos h, if_pos (by omega)]
    show (match (if Oct.numL (r.data.toList.take 6) < 9223372036854775808 then _ else _ : Oct.Got) with | .num v q => _ | .bad _ y => _ | .txt _ _ => _) = _
    rw [if_pos (by omega)]
    rfl
  · rw [if_neg h, if_neg (by omega)]
theorem st_at (r : ByteArray) : ∀ k : Nat, 6 * k ≤ r.size → stE (some r) k = some (r.extract (6 * k) r.size)
  | 0, _ => by
    show some r = some (r.extract 0 r.size)
    rw [ByteArray.extract_zero_size]
  | k + 1, h => by
    show (rnE (stE (some r) k) 6).2 = _
    rw [st_at r k (by omega), rn_of, gN6_of, if_pos (by rw [Vc.ext_size r _ (by omega)]; omega)]
    show some _ = some _
    rw [Vc.ext_ext r (6 * k) 6 (by omega)]
    rfl
theorem z_at (r : ByteArray) (k : Nat) (h : 6 * (k + 1) ≤ r.size) : zE (some r) k = seeV r k := by
  unfold zE
  rw [st_at r k (by omega), rn_of, gN6_of, if_pos (by rw [Vc.ext_size r _ (by omega)]; omega), Vc.ext_list]
  rfl
theorem st_short (r : ByteArray) : ∀ k : Nat, r.size < 6 * k → stE (some r) k = none
  | 0, h => by omega
  | k + 1, h => by
    show (rnE (stE (some r) k) 6).2 = none
    by_cases hk : r.size < 6 * k
    · rw [st_short r k hk]; rfl
    · rw [st_at r k (by omega), rn_of, gN6_of, if_neg (by rw [Vc.ext_size r _ (by omega)]; omega)]
def zF (st : ES) : Nat → Int := match st with | some r => if 48 ≤ r.size then seeV r else zE (some r) | none => zE none
theorem zF_at (st : ES) {i : Nat} (hi : i < 8) : zF st i = zE st i := by
  cases st with
  | none => rfl
  | some r =>
    unfold zF
    by_cases h : 48 ≤ r.size
    · simp only [if_pos h]
      exact (z_at r i (by omega)).symm
    · simp only [if_neg h]
theorem zF_vec (st : ES) : vecC (zF st) = vecC (zE st) := by
  unfold vecC
  rw [zF_at st (by omega : 0 < 8), zF_at st (by omega : 1 < 8), zF_at st (by omega : 2 < 8), zF_at st (by omega : 3 < 8), zF_at st (by omega : 4 < 8), zF_at st (by omega : 5 < 8), zF_at st (by omega : 6 < 8), zF_at st (by omega : 7 < 8)]
theorem zF_good (st : ES) : Vc.goodB (zF st) = Vc.goodB (zE st) := by
  rw [Bool.eq_iff_iff, Vc.goodB_iff, Vc.goodB_iff]
  exact ⟨fun h i hi => by rw [← zF_at st hi]; exact h i hi, fun h i hi => by rw [zF_at st hi]; exact h i hi⟩
def rwV (st : ES) : (Nat → Int) × ES := (zF st, (rvE st).2)
theorem rv_rel (r : ByteArray) : RelE (gV r) (rwV (some r)) := by
  unfold gV
  by_cases h : 48 ≤ r.size
  · have e : zF (some r) = seeV r := if_pos h
    by_cases hg : Vc.goodB (seeV r) = true
    · rw [if_pos ⟨h, hg⟩]
      show (zF (some r), (rvE (some r)).2) = (seeV r, some _)
      have e2 : (rvE (some r)).2 = stE (some r) 8 := if_pos (by rw [← zF_good, e]; exact hg)
      rw [e, e2, st_at r 8 (by omega)]
    · rw [if_neg (fun k => hg k.2)]
      show (rvE (some r)).2 = none
      exact if_neg (by rw [← zF_good, e]; exact hg)
  · rw [if_neg (fun k => h k.1)]
    show (if Vc.goodB (zE (some r)) = true then stE (some r) 8 else none) = none
    rw [st_short r 8 (by omega)]
    split <;> rfl
theorem rwV_none (st : ES) (h : st = none) : (rwV st).2 = none := by
  subst h
  show (if Vc.goodB (zE none) = true then stE none 8 else none) = none
  rw [stE_none]
  split <;> rfl
def tE5 (m : MsgP) (st : ES) : MsgP × ES := ({ m with data := (rtE st 512).1 }, (rtE st 512).2)
def tE4 (m : MsgP) (st : ES) : MsgP × ES := if m.kind = 2 then tE5 { m with tot := (rnE st 2).1 } (rnE st 2).2 else (m, st)
def tE3 (m : MsgP) (st : ES) : MsgP × ES := tE4 { m with ix := (rnE st 2).1 } (rnE st 2).2
def tE2 (m : MsgP) (st : ES) : MsgP × ES := if m.kind = 4 then ({ m with mark := (rmE st).1 }, (rmE st).2) else tE3 { m with mark := (rmE st).1 } (rmE st).2
def tE1 (m : MsgP) (st : ES) : MsgP × ES := if m.kind = 1 ∨ m.kind = 2 then tE2 { m with base := (rmE st).1 } (rmE st).2 else if m.kind = 4 then tE2 m st else (m, st)
def hE4 (k f t : Int) (v : Int) (st : ES) : MsgP × ES := tE1 { hdM k f t v with seen := (rwV st).1 } (rwV st).2
def hE3 (k f : Int) (t : Int) (st : ES) : MsgP × ES := hE4 k f t (rnE st 1).1 (rnE st 1).2
def hE2 (k : Int) (f : Int) (st : ES) : MsgP × ES := hE3 k f (rnE st 1).1 (rnE st 1).2
def hE1 (k : Int) (st : ES) : MsgP × ES := hE2 k (rnE st 1).1 (rnE st 1).2
def getE (b : ByteArray) : MsgP × ES := hE1 (rnE (some b) 1).1 (rnE (some b) 1).2
theorem tE4_none (m : MsgP) : (tE4 m none).2 = none := by unfold tE4; split <;> rfl
theorem tE3_none (m : MsgP) : (tE3 m none).2 = none := tE4_none _
theorem tE2_none (m : MsgP) : (tE2 m none).2 = none := by
  unfold tE2
  split
  · rfl
  · exact tE3_none _
theorem tE1_none (m : MsgP) : (tE1 m none).2 = none := by
  unfold tE1
  split
  · exact tE2_none _
  · split
    · exact tE2_none _
    · rfl
theorem hE4_none (k f t v : Int) : (hE4 k f t v none).2 = none := by
  unfold hE4
  rw [rwV_none none rfl]
  exact tE1_none _
theorem tl5_rel (m : MsgP) (r : ByteArray) : RelE (tl5 m r) (tE5 m (some r)) := by
  refine bnd_rel (g := fun (d : ByteArray) (st : ES) => (({ m with data := d } : MsgP), st)) (rt_rel r 512) ?_ ?_
  · intro a q
    exact rfl
  · intro a
    rfl
theorem tl4_rel (m : MsgP) (r : ByteArray) : RelE (tl4 m r) (tE4 m (some r)) := by
  unfold tl4 tE4
  by_cases h : m.kind = 2
  · rw [if_pos h, if_pos h]
    exact bnd_rel (g := fun n st => tE5 { m with tot := n } st) (rn_rel r 2) (fun a q => tl5_rel _ _) (fun a => rfl)
  · rw [if_neg h, if_neg h]
    exact ok_rel _ _
theorem tl3_rel (m : MsgP) (r : ByteArray) : RelE (tl3 m r) (tE3 m (some r)) := bnd_rel (g := fun n st => tE4 { m with ix := n } st) (rn_rel r 2) (fun a q => tl4_rel _ _) (fun a => tE4_none _)
theorem tl2_rel (m : MsgP) (r : ByteArray) : RelE (tl2 m r) (tE2 m (some r)) := by
  unfold tl2 tE2
  by_cases h : m.kind = 4
  · simp only [if_pos h]
    exact bnd_rel (g := fun k st => ({ m with mark := k }, st)) (rm_rel r) (fun a q => ok_rel _ _) (fun a => rfl)
  · simp only [if_neg h]
    exact bnd_rel (g := fun k st => tE3 { m with mark := k } st) (rm_rel r) (fun a q => tl3_rel _ _) (fun a => tE3_none _)
theorem tl1_rel (m : MsgP) (r : ByteArray) : RelE (tl1 m r) (tE1 m (some r)) := by
  unfold tl1 tE1
  by_cases h : m.kind = 1 ∨ m.kind = 2
  · rw [if_pos h, if_pos h]
    exact bnd_rel (g := fun k st => tE2 { m with base := k } st) (rm_rel r) (fun a q => tl2_rel _ _) (fun a => tE2_none _)
  · rw [if_neg h, if_neg h]
    by_cases h4 : m.kind = 4
    · rw [if_pos h4, if_pos h4]
      exact tl2_rel _ _
    · rw [if_neg h4, if_neg h4]
      exact ok_rel _ _
theorem see_rel (b : ByteArray) : RelE (seeP b) (getE b) :=
  bnd_rel (g := hE1) (rn_rel b 1) (fun k q => bnd_rel (g := hE2 k) (rn_rel q 1) (fun f q => bnd_rel (g := hE3 k f) (rn_rel q 1) (fun t q => bnd_rel (g := hE4 k f t) (rn_rel q 1) (fun v q => bnd_rel (g := fun z st => tE1 { hdM k f t v with seen := z } st) (rv_rel q) (fun z q => tl1_rel _ _) (fun z => tE1_none _)) (fun v => hE4_none _ _ _ _)) (fun t => hE4_none _ _ _ _)) (fun f => hE4_none _ _ _ _)) (fun k => hE4_none _ _ _ _)
theorem getE_yes {s : ByteArray} {m : MsgP} {st : ES} (ho : CrcW.openB s = true) (h : getE (CrcW.headB s) = (m, st)) (he : endE st = true) (hk : OkM m) : getR s = (m, 0) := by
  have hr := see_rel (CrcW.headB s)
  rw [h] at hr
  cases hx : seeP (CrcW.headB s) with
  | error y =>
    rw [hx] at hr
    have hr : st = none := hr
    rw [hr] at he
    cases he
  | ok a =>
    obtain ⟨k, q⟩ := a
    rw [hx] at hr
    have hr : (m, st) = (k, some q) := hr
    injection hr with e1 e2
    subst e1 e2
    refine get_all ho hx ⟨?_, hk⟩
    have hz : q.size = 0 := by simpa [endE] using he
    rw [ByteArray.toList_eq]
    have : q.data.toList = [] := List.length_eq_zero_iff.1 hz
    rw [this]
    rfl
theorem getE_no {s : ByteArray} {m : MsgP} {st : ES} (h : getE (CrcW.headB s) = (m, st)) (hn : endE st = false ∨ ¬ OkM m) : getR s = (msg0, 201) := by
  have hr := see_rel (CrcW.headB s)
  rw [h] at hr
  cases hx : seeP (CrcW.headB s) with
  | error y => exact get_err hx
  | ok a =>
    obtain ⟨k, q⟩ := a
    rw [hx] at hr
    have hr : (m, st) = (k, some q) := hr
    injection hr with e1 e2
    subst e1 e2
    refine get_more hx (fun hh => ?_)
    rcases hn with hn | hn
    · have h3 := hh.1
      rw [ByteArray.toList_eq] at h3
      have h4 : q.data.toList = [] := by simpa using h3
      have h5 : q.size = 0 := by
        have : q.size = q.data.toList.length := rfl
        rw [this, h4]
        rfl
      have h6 : endE (some q) = true := by simp [endE, h5]
      rw [h6] at hn
      cases hn
    · exact hn hh.2
end Go.Proofs.YtfjmcklmoebnaaaDoor.Mg
