/- One asking of an eye, in all its outcomes. -/
import Derived.Test.YtfjmcklmoebnaaaDoorOctFail2
import Derived.Test.YtfjmcklmoebnaaaDoorOctCatch
namespace Go.Proofs.YtfjmcklmoebnaaaDoor.Oct
open Go.RowKit

/-- What an asking comes to: a number, a text, nothing, each with what is left; or the end, with what was left and why. -/
inductive Got where
  | num (v : Int) (r : ByteArray)
  | txt (t : ByteArray) (r : ByteArray)
  | bad (r : ByteArray) (y : Int)
/-- What a call has done that came to that. -/
def Did (g : Got) (q s : Nat) (w : World) (e : Ending) (w' : World) : Prop :=
  match g with
  | .num v r => e = .returned (.int .i64 v) ∧ Looks w' q s r ∧ Chg (· = s) w w'
  | .txt t r => e = .returned (.string t) ∧ Looks w' q s r ∧ Chg (· = s) w w'
  | .bad r y => e = .panicked (own s) ∧ Sight w' s r true y ∧ Chg (· = s) w w'
def gotRaw (r : ByteArray) (n : Int) : Got := if 0 ≤ n ∧ n ≤ r.size then .txt (r.extract 0 n.toNat) (r.extract n.toNat r.size) else .bad r 201
def gotNum (r : ByteArray) (k : Int) : Got :=
  if 1 ≤ k ∧ k ≤ 8 then
    if k ≤ r.size then
      if numL (r.data.toList.take k.toNat) < 9223372036854775808 then .num (numL (r.data.toList.take k.toNat) : Nat) (r.extract k.toNat r.size) else .bad (r.extract k.toNat r.size) 201
    else .bad r 201
  else .bad r 22
def gotText (r : ByteArray) (most : Int) : Got :=
  if 2 ≤ r.size then
    if (numL (r.data.toList.take 2) : Nat) ≤ most then
      if 2 + numL (r.data.toList.take 2) ≤ r.size then .txt ((r.extract 2 r.size).extract 0 (numL (r.data.toList.take 2))) ((r.extract 2 r.size).extract (numL (r.data.toList.take 2)) (r.extract 2 r.size).size) else .bad (r.extract 2 r.size) 201
    else .bad (r.extract 2 r.size) 203
  else .bad r 201
theorem raw_got (q s : Nat) (n : Int) (r : ByteArray) (hqs : q ≠ s) (w : World) (h : Looks w q s r) :
    Calls Tryd.prog 84 #[.pointer (some ⟨q, 0, none⟩), .int .i64 n] w (Did (gotRaw r n) q s w) := by
  by_cases hn : 0 ≤ n ∧ n ≤ r.size
  · have e : gotRaw r n = .txt (r.extract 0 n.toNat) (r.extract n.toNat r.size) := if_pos hn
    obtain ⟨m, rfl⟩ := Int.eq_ofNat_of_zero_le hn.1
    rw [e]
    exact raw_ok q s m r (by omega) hqs w h
  · have e : gotRaw r n = .bad r 201 := if_neg hn
    rw [e]
    exact raw_fail q s n r (by omega) w h
theorem num_got (q s : Nat) (k : Int) (r : ByteArray) (hqs : q ≠ s) (w : World) (h : Looks w q s r) :
    Calls Tryd.prog 68 #[.pointer (some ⟨q, 0, none⟩), .int .i64 k] w (Did (gotNum r k) q s w) := by
  unfold gotNum
  by_cases hk : 1 ≤ k ∧ k ≤ 8
  · rw [if_pos hk]
    obtain ⟨m, rfl⟩ := Int.eq_ofNat_of_zero_le (show 0 ≤ k by omega)
    by_cases hr : (m : Int) ≤ r.size
    · rw [if_pos hr]
      by_cases hv : numL (r.data.toList.take (m : Int).toNat) < 9223372036854775808
      · rw [if_pos hv]
        exact num_ok q s m r (by omega) (by omega) (by omega) hv hqs w h
      · rw [if_neg hv]
        exact num_big q s m r (by omega) (by omega) (by omega) (Nat.le_of_not_lt hv) hqs w h
    · rw [if_neg hr]
      exact num_short q s m r (by omega) (by omega) (by omega) w h
  · rw [if_neg hk]
    exact num_width q s k r (by omega) w h
theorem text_got (q s : Nat) (most : Int) (r : ByteArray) (hqs : q ≠ s) (w : World) (h : Looks w q s r) :
    Calls Tryd.prog 71 #[.pointer (some ⟨q, 0, none⟩), .int .i64 most] w (Did (gotText r most) q s w) := by
  unfold gotText
  by_cases h2 : 2 ≤ r.size
  · rw [if_pos h2]
    by_cases hm : (numL (r.data.toList.take 2) : Nat) ≤ most
    · rw [if_pos hm]
      by_cases hc : 2 + numL (r.data.toList.take 2) ≤ r.size
      · rw [if_pos hc]
        exact text_there q s most r h2 hm hc hqs w h
      · rw [if_neg hc]
        exact text_cut q s most r h2 hm (by omega) hqs w h
    · rw [if_neg hm]
      exact text_long q s most r h2 (by omega) hqs w h
  · rw [if_neg h2]
    exact text_short q s most r (by omega) w h
end Go.Proofs.YtfjmcklmoebnaaaDoor.Oct
