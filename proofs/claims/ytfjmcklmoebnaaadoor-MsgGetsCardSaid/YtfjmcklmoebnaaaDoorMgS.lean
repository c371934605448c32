/- The document's eye, whether looking has ended or not; what it sees of a vector, of a mark. -/
import Derived.Test.YtfjmcklmoebnaaaDoorMgW
import Derived.Test.YtfjmcklmoebnaaaDoorMgEye
namespace Go.Proofs.YtfjmcklmoebnaaaDoor.Mg
open Go.RowKit
open Go.Proofs.YtfjmcklmoebnaaaDoor.Oct (Has Chg gotNum gotText gotRaw)
open Go.Proofs.YtfjmcklmoebnaaaDoor.Ry (Rye)
open Go.Proofs.YtfjmcklmoebnaaaDoor.Vc (vecC)
set_option linter.unusedVariables false set_option linter.unusedSimpArgs false

theorem gotNum_txt {r : ByteArray} {k : Int} {t q : ByteArray} (h : gotNum r k = .txt t q) : False := by
  unfold gotNum at h
  repeat' split at h
  all_goals cases h
theorem gotText_num {r : ByteArray} {n v : Int} {q : ByteArray} (h : gotText r n = .num v q) : False := by
  unfold gotText at h
  repeat' split at h
  all_goals cases h
theorem num_why {r : ByteArray} {k : Int} {q : ByteArray} {y : Int} (h : gotNum r k = .bad q y) : y ≠ 0 := gN_why (r := r) (k := k) y (by unfold gN; rw [h])
theorem text_why {r : ByteArray} {k : Int} {q : ByteArray} {y : Int} (h : gotText r k = .bad q y) : y ≠ 0 := gT_why (r := r) (k := k) y (by unfold gT; rw [h])
/-- What is left of what is looked at; none: looking has ended. -/
abbrev ES := Option ByteArray
def rnE : ES → Int → Int × ES
  | none, _ => (0, none)
  | some r, k => match gotNum r k with
    | .num v q => (v, some q)
    | .txt _ _ => (0, none)
    | .bad _ _ => (0, none)
def rtE : ES → Int → ByteArray × ES
  | none, _ => (⟨#[]⟩, none)
  | some r, k => match gotText r k with
    | .txt t q => (t, some q)
    | .num _ _ => (⟨#[]⟩, none)
    | .bad _ _ => (⟨#[]⟩, none)
def rwE : ES → Int → ByteArray × ES
  | none, _ => (⟨#[]⟩, none)
  | some r, k => match gotRaw r k with
    | .txt t q => (t, some q)
    | .num _ _ => (⟨#[]⟩, none)
    | .bad _ _ => (⟨#[]⟩, none)
def endE : ES → Bool
  | none => false
  | some r => decide (r.size = 0)
def RyeS (w : World) (x : Nat) (B : ByteArray) : ES → Prop
  | some r => ∃ a, a ≤ B.size ∧ r = B.extract a B.size ∧ Rye w x B a false 0
  | none => ∃ a y, y ≠ 0 ∧ Rye w x B a true y
theorem RyeS.over {S : Nat → Prop} {w w' : World} {x : Nat} {B : ByteArray} {st : ES} (h : RyeS w x B st) (hc : Chg S w w') (hs : ¬ S x) : RyeS w' x B st := by
  cases st with
  | some r =>
    obtain ⟨a, h1, h2, h3⟩ := h
    exact ⟨a, h1, h2, Oct.Has.over h3 hc hs⟩
  | none =>
    obtain ⟨a, y, h1, h2⟩ := h
    exact ⟨a, y, h1, Oct.Has.over h2 hc hs⟩
theorem RyeS.bound {w : World} {x : Nat} {B : ByteArray} {st : ES} (h : RyeS w x B st) : x < w.heap.size := by
  cases st with
  | some r =>
    obtain ⟨a, h1, h2, h3⟩ := h
    exact Oct.Has.bound h3
  | none =>
    obtain ⟨a, y, h1, h2⟩ := h
    exact Oct.Has.bound h2
theorem rnum_s (x : Nat) (k : Int) (B : ByteArray) (hB : B.size ≤ 1048576) (st : ES) (w : World) (h : RyeS w x B st) :
    Calls Tryd.prog 49 #[.pointer (some ⟨x, 0, none⟩), .int .i64 k] w fun e w' => e = .returned (.int .i64 (rnE st k).1) ∧ RyeS w' x B (rnE st k).2 ∧ Chg (· = x) w w' := by
  cases st with
  | none =>
    obtain ⟨a, y, hy, h⟩ := h
    refine (Ry.rnum_done x a k B y w h).mono ?_
    rintro e w' ⟨rfl, rfl⟩
    exact ⟨rfl, ⟨a, y, hy, h⟩, Chg.refl _ _⟩
  | some r =>
    obtain ⟨a, ha, rfl, h⟩ := h
    refine (Ry.rnum_got x a k B hB ha w h).mono ?_
    intro e w' hd
    cases hg : gotNum (B.extract a B.size) k with
    | num v q =>
      rw [hg] at hd
      obtain ⟨a2, rfl, h1, h2, h3, h4⟩ := hd
      have e : rnE (some (B.extract a B.size)) k = (v, some q) := by simp only [rnE, hg]
      rw [e]
      exact ⟨rfl, ⟨a2, h1, h2, h3⟩, h4⟩
    | txt t q => exact (gotNum_txt hg).elim
    | bad q y =>
      rw [hg] at hd
      obtain ⟨a2, rfl, h3, h4⟩ := hd
      have e : rnE (some (B.extract a B.size)) k = (0, none) := by simp only [rnE, hg]
      rw [e]
      exact ⟨rfl, ⟨a2, y, num_why hg, h3⟩, h4⟩
theorem rtext_done (x a : Nat) (k : Int) (hk : 0 ≤ k) (B : ByteArray) (y : Int) (w : World) (h : Rye w x B a true y) :
    Calls Tryd.prog 52 #[.pointer (some ⟨x, 0, none⟩), .int .i64 k] w fun e w' => e = .returned (.string ⟨#[]⟩) ∧ w = w' := by
  have HN := Lib.hid (Ry.rnum_done x a 2 B y w h)
  have HR := Lib.hid (Ry.rraw_done x a 0 B y w h)
  have dm : ¬ k < 0 := by omega
  clear h
  go_enter Tryd.func52, Tryd.ntmps52
  go_wp2_with fail
  refine HN.out.mono ?_
  rintro e w1 ⟨rfl, rfl⟩
  go_wp2_with fail
  refine HR.out.mono ?_
  rintro e w1 ⟨rfl, rfl⟩
  go_wp2
  go_ret
  exact ⟨rfl, rfl⟩
theorem rtext_s (x : Nat) (k : Int) (hk : 0 ≤ k) (B : ByteArray) (hB : B.size ≤ 1048576) (st : ES) (w : World) (h : RyeS w x B st) :
    Calls Tryd.prog 52 #[.pointer (some ⟨x, 0, none⟩), .int .i64 k] w fun e w' => e = .returned (.string (rtE st k).1) ∧ RyeS w' x B (rtE st k).2 ∧ Chg (· = x) w w' := by
  cases st with
  | none =>
    obtain ⟨a, y, hy, h⟩ := h
    refine (rtext_done x a k hk B y w h).mono ?_
    rintro e w' ⟨rfl, rfl⟩
    exact ⟨rfl, ⟨a, y, hy, h⟩, Chg.refl _ _⟩
  | some r =>
    obtain ⟨a, ha, rfl, h⟩ := h
    refine (Ry.rtext_got x a k B hB ha w h).mono ?_
    intro e w' hd
    cases hg : gotText (B.extract a B.size) k with
    | txt v q =>
      rw [hg] at hd
      obtain ⟨a2, rfl, h1, h2, h3, h4⟩ := hd
      have e : rtE (some (B.extract a B.size)) k = (v, some q) := by simp only [rtE, hg]
      rw [e]
      exact ⟨rfl, ⟨a2, h1, h2, h3⟩, h4⟩
    | num t q => exact (gotText_num hg).elim
    | bad q y =>
      rw [hg] at hd
      obtain ⟨a2, rfl, h3, h4⟩ := hd
      have e : rtE (some (B.extract a B.size)) k = (⟨#[]⟩, none) := by simp only [rtE, hg]
      rw [e]
      exact ⟨rfl, ⟨a2, y, text_why hg, h3⟩, h4⟩
theorem rend_s (x : Nat) (B : ByteArray) (st : ES) (w : World) (h : RyeS w x B st) :
    Calls Tryd.prog 53 #[.pointer (some ⟨x, 0, none⟩)] w fun e w' => ∃ E : Int, e = .returned (.int .i64 E) ∧ (E != 0) = !endE st ∧ Chg (· = x) w w' := by
  cases st with
  | none =>
    obtain ⟨a, y, hy, h⟩ := h
    refine (Ry.rend_done x a B y w h).mono ?_
    rintro e w' ⟨rfl, hc⟩
    exact ⟨y, rfl, by simp [endE, hy], hc⟩
  | some r =>
    obtain ⟨a, ha, rfl, h⟩ := h
    refine (Ry.rend_open x a B w h).mono ?_
    rintro e w' ⟨rfl, hc⟩
    refine ⟨_, rfl, ?_, hc⟩
    have hz := Ry.ext_size B a ha
    show _ = !decide ((B.extract a B.size).size = 0)
    rw [hz]
    by_cases hlt : a < B.size
    · rw [if_pos hlt, decide_eq_false (by omega)]
      rfl
    · rw [if_neg hlt, decide_eq_true (by omega)]
      rfl

theorem rn_of (r : ByteArray) (k : Int) : rnE (some r) k = (match gN r k with | .ok (v, q) => (v, some q) | .error _ => (0, none)) := by
  unfold gN
  cases hg : gotNum r k with
  | num v q => simp only [rnE, hg]
  | txt t q => exact (gotNum_txt hg).elim
  | bad q y => simp only [rnE, hg]
theorem rt_of (r : ByteArray) (k : Int) : rtE (some r) k = (match gT r k with | .ok (v, q) => (v, some q) | .error _ => (⟨#[]⟩, none)) := by
  unfold gT
  cases hg : gotText r k with
  | txt v q => simp only [rtE, hg]
  | num t q => exact (gotText_num hg).elim
  | bad q y => simp only [rtE, hg]
def stE (st : ES) : Nat → ES
  | 0 => st
  | k + 1 => (rnE (stE st k) 6).2
def zE (st : ES) (k : Nat) : Int := (rnE (stE st k) 6).1
def rvE (st : ES) : (Nat → Int) × ES := (zE st, if Vc.goodB (zE st) = true then stE st 8 else none)
def rmE (st : ES) : (Int × Int) × ES := (((rnE st 6).1, (rnE (rnE st 6).2 6).1), (rnE (rnE st 6).2 6).2)
theorem rfail_s (x : Nat) (B : ByteArray) (st : ES) (w : World) (h : RyeS w x B st) : Calls Tryd.prog 72 #[.pointer (some ⟨x, 0, none⟩), .int .i64 201] w fun e w' => e = .returned (.tuple #[]) ∧ RyeS w' x B none ∧ Chg (· = x) w w' := by
  cases st with
  | none =>
    obtain ⟨a, y, hy, h⟩ := h
    refine (Ry.rfail_done x B a y 201 w h).mono ?_
    rintro e w' ⟨rfl, rfl⟩
    exact ⟨rfl, ⟨a, y, hy, h⟩, Chg.refl _ _⟩
  | some r =>
    obtain ⟨a, ha, rfl, h⟩ := h
    refine (Ry.rfail_any x B a 201 w h).mono ?_
    rintro e w' ⟨rfl, h1, h2⟩
    exact ⟨rfl, ⟨a, 201, by decide, h1⟩, h2⟩
end Go.Proofs.YtfjmcklmoebnaaaDoor.Mg
