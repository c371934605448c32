/- The document's eye, whether looking has ended or not. -/
import Derived.Test.YtepnckglnciinaaSnB
import Derived.Test.YtepnckglnciinaaRfEye
namespace Go.Proofs.Ytepnckglnciinaa.Sm
open Go.RowKit
open Go.Proofs.Ytepnckglnciinaa.Oct (Has Chg gotNum gotText gotRaw)
open Go.Proofs.Ytepnckglnciinaa.Vc (Rye)
set_option linter.unusedVariables false

/-- What is left of what is looked at; none: looking has ended. -/
abbrev ES := Option ByteArray
def rnE : ES → Int → Int × ES
  | none, _ => (0, none)
  | some r, k => match gotNum r k with
    | .num v q => (v, some q)
    | .txt _ _ => (0, none)
    | .bad _ _ => (0, none)
def rtE : ES → Int → ByteArray × ES
  | none, _ => (⟨#[]⟩, none)
  | some r, k => match gotText r k with
    | .txt t q => (t, some q)
    | .num _ _ => (⟨#[]⟩, none)
    | .bad _ _ => (⟨#[]⟩, none)
def rwE : ES → Int → ByteArray × ES
  | none, _ => (⟨#[]⟩, none)
  | some r, k => match gotRaw r k with
    | .txt t q => (t, some q)
    | .num _ _ => (⟨#[]⟩, none)
    | .bad _ _ => (⟨#[]⟩, none)
def endE : ES → Bool
  | none => false
  | some r => decide (r.size = 0)
def RyeS (w : World) (x : Nat) (B : ByteArray) : ES → Prop
  | some r => ∃ a, a ≤ B.size ∧ r = B.extract a B.size ∧ Rye w x B a false 0
  | none => ∃ a y, y ≠ 0 ∧ Rye w x B a true y
theorem RyeS.over {S : Nat → Prop} {w w' : World} {x : Nat} {B : ByteArray} {st : ES} (h : RyeS w x B st) (hc : Chg S w w') (hs : ¬ S x) : RyeS w' x B st := by
  cases st with
  | some r =>
    obtain ⟨a, h1, h2, h3⟩ := h
    exact ⟨a, h1, h2, Oct.Has.over h3 hc hs⟩
  | none =>
    obtain ⟨a, y, h1, h2⟩ := h
    exact ⟨a, y, h1, Oct.Has.over h2 hc hs⟩
theorem RyeS.bound {w : World} {x : Nat} {B : ByteArray} {st : ES} (h : RyeS w x B st) : x < w.heap.size := by
  cases st with
  | some r =>
    obtain ⟨a, h1, h2, h3⟩ := h
    exact Oct.Has.bound h3
  | none =>
    obtain ⟨a, y, h1, h2⟩ := h
    exact Oct.Has.bound h2
theorem rnum_s (x : Nat) (k : Int) (B : ByteArray) (hB : B.size ≤ 1048576) (st : ES) (w : World) (h : RyeS w x B st) :
    Calls Try.prog 56 #[.pointer (some ⟨x, 0, none⟩), .int .i64 k] w fun e w' => e = .returned (.int .i64 (rnE st k).1) ∧ RyeS w' x B (rnE st k).2 ∧ Chg (· = x) w w' := by
  cases st with
  | none =>
    obtain ⟨a, y, hy, h⟩ := h
    refine (Vc.rnum_done x a k B y w h).mono ?_
    rintro e w' ⟨rfl, rfl⟩
    exact ⟨rfl, ⟨a, y, hy, h⟩, Chg.refl _ _⟩
  | some r =>
    obtain ⟨a, ha, rfl, h⟩ := h
    refine (Vc.rnum_got x a k B hB ha w h).mono ?_
    intro e w' hd
    cases hg : gotNum (B.extract a B.size) k with
    | num v q =>
      rw [hg] at hd
      obtain ⟨a2, rfl, h1, h2, h3, h4⟩ := hd
      have e : rnE (some (B.extract a B.size)) k = (v, some q) := by simp only [rnE, hg]
      rw [e]
      exact ⟨rfl, ⟨a2, h1, h2, h3⟩, h4⟩
    | txt t q => exact (gotNum_txt hg).elim
    | bad q y =>
      rw [hg] at hd
      obtain ⟨a2, rfl, h3, h4⟩ := hd
      have e : rnE (some (B.extract a B.size)) k = (0, none) := by simp only [rnE, hg]
      rw [e]
      exact ⟨rfl, ⟨a2, y, num_why hg, h3⟩, h4⟩
theorem rtext_done (x a : Nat) (k : Int) (hk : 0 ≤ k) (B : ByteArray) (y : Int) (w : World) (h : Rye w x B a true y) :
    Calls Try.prog 57 #[.pointer (some ⟨x, 0, none⟩), .int .i64 k] w fun e w' => e = .returned (.string ⟨#[]⟩) ∧ w = w' := by
  have HN := Lib.hid (Vc.rnum_done x a 2 B y w h)
  have HR := Lib.hid (Vc.rraw_done x a 0 B y w h)
  have dm : ¬ k < 0 := by omega
  clear h
  go_enter Try.func57, Try.ntmps57
  go_wp2_with fail
  refine HN.out.mono ?_
  rintro e w1 ⟨rfl, rfl⟩
  go_wp2_with fail
  refine HR.out.mono ?_
  rintro e w1 ⟨rfl, rfl⟩
  go_wp2
  go_ret
  exact ⟨rfl, rfl⟩
theorem rtext_s (x : Nat) (k : Int) (hk : 0 ≤ k) (B : ByteArray) (hB : B.size ≤ 1048576) (st : ES) (w : World) (h : RyeS w x B st) :
    Calls Try.prog 57 #[.pointer (some ⟨x, 0, none⟩), .int .i64 k] w fun e w' => e = .returned (.string (rtE st k).1) ∧ RyeS w' x B (rtE st k).2 ∧ Chg (· = x) w w' := by
  cases st with
  | none =>
    obtain ⟨a, y, hy, h⟩ := h
    refine (rtext_done x a k hk B y w h).mono ?_
    rintro e w' ⟨rfl, rfl⟩
    exact ⟨rfl, ⟨a, y, hy, h⟩, Chg.refl _ _⟩
  | some r =>
    obtain ⟨a, ha, rfl, h⟩ := h
    refine (Vc.rtext_got x a k B hB ha w h).mono ?_
    intro e w' hd
    cases hg : gotText (B.extract a B.size) k with
    | txt v q =>
      rw [hg] at hd
      obtain ⟨a2, rfl, h1, h2, h3, h4⟩ := hd
      have e : rtE (some (B.extract a B.size)) k = (v, some q) := by simp only [rtE, hg]
      rw [e]
      exact ⟨rfl, ⟨a2, h1, h2, h3⟩, h4⟩
    | num t q => exact (gotText_num hg).elim
    | bad q y =>
      rw [hg] at hd
      obtain ⟨a2, rfl, h3, h4⟩ := hd
      have e : rtE (some (B.extract a B.size)) k = (⟨#[]⟩, none) := by simp only [rtE, hg]
      rw [e]
      exact ⟨rfl, ⟨a2, y, text_why hg, h3⟩, h4⟩
theorem rend_s (x : Nat) (B : ByteArray) (st : ES) (w : World) (h : RyeS w x B st) :
    Calls Try.prog 58 #[.pointer (some ⟨x, 0, none⟩)] w fun e w' => ∃ E : Int, e = .returned (.int .i64 E) ∧ (E != 0) = !endE st ∧ Chg (· = x) w w' := by
  cases st with
  | none =>
    obtain ⟨a, y, hy, h⟩ := h
    refine (Vc.rend_done x a B y w h).mono ?_
    rintro e w' ⟨rfl, hc⟩
    exact ⟨y, rfl, by simp [endE, hy], hc⟩
  | some r =>
    obtain ⟨a, ha, rfl, h⟩ := h
    refine (Vc.rend_open x a B w h).mono ?_
    rintro e w' ⟨rfl, hc⟩
    refine ⟨_, rfl, ?_, hc⟩
    have hz := Vc.ext_size B a ha
    show _ = !decide ((B.extract a B.size).size = 0)
    rw [hz]
    by_cases hlt : a < B.size
    · rw [if_pos hlt, decide_eq_false (by omega)]
      rfl
    · rw [if_neg hlt, decide_eq_true (by omega)]
      rfl
end Go.Proofs.Ytepnckglnciinaa.Sm
