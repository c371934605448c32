/- Join: the path of names; what was split is joined as it was. -/
import Derived.Test.YtlmgikgpmcdakaaDoorNmWPar
import Derived.Lib.Join
import Derived.Lib.IndexMore
namespace Go.Proofs.YtlmgikgpmcdakaaDoor.Nm
open Go.RowKit Go.Proofs.YtlmgikgpmcdakaaDoor.Mem Go.Proofs.YtlmgikgpmcdakaaDoor.Rws

theorem inter_cons (y z : List UInt8) (Y : List (List UInt8)) : ([47] : List UInt8).intercalate (y :: z :: Y) = y ++ 47 :: ([47] : List UInt8).intercalate (z :: Y) := by
  simp [List.intercalate]
theorem inter_one (y : List UInt8) : ([47] : List UInt8).intercalate [y] = y := by simp [List.intercalate]
theorem splitK_ne (k : Nat) (l : List UInt8) : ∃ z Y, Lib.splitK [47] 0 k l = z :: Y := by
  cases k with
  | zero => exact ⟨l, [], rfl⟩
  | succ k =>
    unfold Lib.splitK
    split
    · exact ⟨l, [], rfl⟩
    · exact ⟨_, _, rfl⟩
theorem at_hit (l : List UInt8) (i : Nat) (h : Lib.occAt l [47] i = true) : l = l.take i ++ 47 :: l.drop (i + 1) := by
  have h2 : ([47] : List UInt8).isPrefixOf (l.drop i) = true := h
  cases hd : l.drop i with
  | nil => rw [hd] at h2; cases h2
  | cons b t =>
    rw [hd] at h2
    have hb : b = 47 := by
      simp [List.isPrefixOf] at h2
      exact h2.symm
    subst hb
    have e : l.drop (i + 1) = t := by
      have := congrArg (List.drop 1) hd
      rw [List.drop_drop] at this
      simpa using this
    rw [e, ← hd, List.take_append_drop]
theorem join_splitK : ∀ (k : Nat) (l : List UInt8), ([47] : List UInt8).intercalate (Lib.splitK [47] 0 k l) = l
  | 0, l => inter_one l
  | k + 1, l => by
    unfold Lib.splitK
    rcases Lib.index_spec l [47] with ⟨h, _⟩ | ⟨i, h, _, ho, _⟩
    · rw [h]
      exact inter_one l
    · rw [if_neg (by rw [h]; simp), h]
      simp only [Int.toNat_natCast, Nat.add_zero, List.length_singleton]
      have ih := join_splitK k (l.drop (i + 1))
      obtain ⟨z, Y, e⟩ := splitK_ne k (l.drop (i + 1))
      rw [e] at ih ⊢
      rw [inter_cons, ih]
      exact (at_hit l i ho).symm
theorem join_pieces (r : ByteArray) : Lib.join ((pieces r).map (·.data.toList)) [47] = r.data.toList := by
  unfold pieces
  rw [Lib.splitB_data]
  exact join_splitK _ _
/-- The path of names. -/
def joinB (l : List ByteArray) : ByteArray := ⟨(47 :: Lib.join (l.map (·.data.toList)) [47]).toArray⟩
def joinErr (l : List ByteArray) : Int := if 8 < l.length then 36 else if splitErr (joinB l) ≠ 0 then splitErr (joinB l) else if splitL (joinB l) = l then 0 else 22
theorem prefix_cons (l : List UInt8) (h : Lib.hasPrefix l [47] = true) : l = 47 :: Lib.trimPrefix l [47] := by
  unfold Lib.trimPrefix
  rw [if_pos h]
  cases l with
  | nil => cases h
  | cons b t =>
    have : b = 47 := by
      unfold Lib.hasPrefix at h
      simp [List.isPrefixOf] at h
      exact h.symm
    subst this
    rfl
theorem err_prefix (s : ByteArray) (h : splitErr s = 0) : Lib.hasPrefix s.data.toList [47] = true := by
  unfold splitErr at h
  split at h
  · cases h
  · split at h
    · cases h
    · next hn => simpa using hn
theorem join_split (s : ByteArray) (h : splitErr s = 0) : joinB (splitL s) = s ∧ joinErr (splitL s) = 0 := by
  have hp := prefix_cons _ (err_prefix s h)
  have hj : joinB (splitL s) = s := by
    apply bytes_ext
    rw [hp]
    show 47 :: Lib.join ((splitL s).map (·.data.toList)) [47] = _
    congr 1
    by_cases h0 : (behind s).size = 0
    · have : splitL s = [] := by unfold splitL; rw [if_neg]; rintro ⟨_, b⟩; exact b h0
      rw [this]
      have hb : (Lib.trimPrefix s.data.toList [47]).toArray.size = 0 := h0
      have hb2 : (Lib.trimPrefix s.data.toList [47]).length = 0 := by simpa using hb
      rw [List.length_eq_zero_iff.1 hb2]
      rfl
    · have : splitL s = pieces (behind s) := by unfold splitL; rw [if_pos ⟨h, h0⟩]
      rw [this, join_pieces]
      rfl
  refine ⟨hj, ?_⟩
  unfold joinErr
  rw [hj, if_neg (by have := splitL_le s; omega), if_neg (by simp [h]), if_pos rfl]
theorem join_back (l : List ByteArray) (h : joinErr l = 0) : splitErr (joinB l) = 0 ∧ splitL (joinB l) = l := by
  unfold joinErr at h
  split at h
  · cases h
  · split at h
    · next hn => exact absurd h hn
    · next hn =>
      split at h
      · next hl => exact ⟨by simpa using hn, hl⟩
      · cases h
theorem strs_row {B : Nat} {L : List ByteArray} {v : Value} {w : World} (h : Strs B L v w) : ∃ A, v = .slice A L.length L.length ∧ TxtRow w A L.length L ∧ (A = none → L.length = 0) := by
  rcases h with ⟨rfl, rfl⟩ | ⟨_, g, _, rfl, hx⟩
  · exact ⟨none, rfl, ⟨rfl, fun h => absurd h (by simp)⟩, fun _ => rfl⟩
  · exact ⟨_, rfl, txt_of hx, fun h => by cases h⟩
theorem joined_any (A : Option Addr) (n c : Nat) (l : List ByteArray) (hnc : n ≤ c) (hlen : (Lib.join (l.map (·.data.toList)) [47]).length ≤ 10000) (hn : n ≤ 1000) (w : World) (h : TxtRow w A n l) :
    Calls Tryd.prog 32 #[.slice A n c, .string ⟨#[47]⟩] w fun e w' => e = .returned (.string ⟨(Lib.join (l.map (·.data.toList)) [47]).toArray⟩) ∧ Below w.heap.size w w' := by
  have hl := h.1
  by_cases h0 : n = 0
  · subst h0
    have e1 : l = [] := List.length_eq_zero_iff.1 hl
    subst e1
    exact (Tryd.strings_Join_none A c ⟨#[47]⟩ w).mono fun e w' ⟨he, hw⟩ => ⟨he, by rw [hw]; exact Below.refl _ _⟩
  · obtain ⟨b, off, rfl, hb, hx⟩ := h.2 (by omega)
    subst hl
    exact Tryd.strings_Join b off c l ⟨#[47]⟩ w (fun j x hj => by
      obtain ⟨hj2, rfl⟩ := List.getElem?_eq_some_iff.1 hj
      exact hx j hj2) hb (by omega) hnc (Nat.le_trans hlen (by omega))
set_option maxRecDepth 100000 in
theorem join_any (A : Option Addr) (n c : Nat) (l : List ByteArray) (hnc : n ≤ c) (hlen : (Lib.join (l.map (·.data.toList)) [47]).length ≤ 10000) (w : World) (h : TxtRow w A n l) (hT : Tabs w) :
    Calls Tryd.prog 20 #[.slice A n c] w fun e w' => e = .returned (.tuple #[.string (if joinErr l = 0 then joinB l else ⟨#[]⟩), .int .i64 (joinErr l)]) ∧ Below w.heap.size w w' := by
  have hl := h.1
  by_cases h8 : 8 < n
  · have hE : joinErr l = 36 := by unfold joinErr; rw [if_pos (by omega)]
    have h8i : 8 < (n : Int) := by omega
    rw [hE, if_neg (by decide)]
    go_enter Tryd.func20, Tryd.ntmps20
    go_wp2
    go_ret2
    exact ⟨rfl, Below.refl _ _⟩
  · have h8i : ¬ 8 < (n : Int) := by omega
    have J := Lib.hid (joined_any A n c l hnc hlen (by omega) w h)
    have hsz : (⟨(Lib.join (l.map (·.data.toList)) [47]).toArray⟩ : ByteArray).size ≤ 10000 := by show Array.size _ ≤ _; simpa using hlen
    have hcat : (⟨#[47]⟩ : ByteArray) ++ ⟨(Lib.join (l.map (·.data.toList)) [47]).toArray⟩ = joinB l := by
      apply bytes_ext
      simp [joinB]
    have hbs : (joinB l).size ≤ 4294967280 := by
      show Array.size _ ≤ _
      simp
      omega
    have S := Lib.hid (fun w h => split_any (joinB l) hbs w h)
    have HC := Lib.hid hcat
    generalize (⟨(Lib.join (l.map (·.data.toList)) [47]).toArray⟩ : ByteArray) = X at *
    clear hcat
    have hlc : l.length ≤ 9223372036854775807 := by omega
    have hncc : n ≤ 9223372036854775807 := by omega
    have hE0 : joinErr l = if splitErr (joinB l) ≠ 0 then splitErr (joinB l) else if splitL (joinB l) = l then 0 else 22 := by unfold joinErr; rw [if_neg (by omega)]
    clear hl
    by_cases hz : splitErr (joinB l) = 0
    · have hE : joinErr l = if splitL (joinB l) = l then 0 else 22 := by rw [hE0, if_neg (by simp [hz])]
      by_cases hq : splitL (joinB l) = l
      · rw [if_pos hq] at hE
        rw [hE, if_pos rfl]
        go_enter Tryd.func20, Tryd.ntmps20
        go_wp2_with fail
        refine J.out.mono ?_
        rintro e w1 ⟨rfl, hb⟩
        go_wp2_with fail
        rw [HC.out]
        refine (S.out _ (hT.self hb)).mono ?_
        rintro e w2 ⟨⟨v, rfl, hs⟩, hb2⟩
        rw [hz]
        obtain ⟨A2, rfl, hr, _⟩ := strs_row hs
        rw [hq] at hr ⊢
        have hb3 := hb.trans (hb2.mono hb.size)
        go_wp2_with fail
        refine (eqs A2 A l.length n l.length c l l hlc hncc w2 hr (h.below hb3)).mono ?_
        rintro e w3 ⟨rfl, q, rfl⟩
        rw [decide_eq_true rfl]
        go_wp2_with fail
        go_ret2
        exact ⟨rfl, below_drewN hb3 q⟩
      · rw [if_neg hq] at hE
        rw [hE, if_neg (by decide)]
        go_enter Tryd.func20, Tryd.ntmps20
        go_wp2_with fail
        refine J.out.mono ?_
        rintro e w1 ⟨rfl, hb⟩
        go_wp2_with fail
        rw [HC.out]
        refine (S.out _ (hT.self hb)).mono ?_
        rintro e w2 ⟨⟨v, rfl, hs⟩, hb2⟩
        rw [hz]
        obtain ⟨A2, rfl, hr, _⟩ := strs_row hs
        have hb3 := hb.trans (hb2.mono hb.size)
        have h8b := Lib.hid (Nat.le_trans (splitL_le (joinB l)) (by decide : 8 ≤ 9223372036854775807))
        go_wp2_with fail
        refine (eqs A2 A _ n _ c (splitL (joinB l)) l h8b.out hncc w2 hr (h.below hb3)).mono ?_
        rintro e w3 ⟨rfl, q, rfl⟩
        rw [decide_eq_false hq]
        go_wp2_with fail
        go_ret2
        exact ⟨rfl, below_drewN hb3 q⟩
    · have hE : joinErr l = splitErr (joinB l) := by rw [hE0, if_pos hz]
      rw [hE, if_neg hz]
      go_enter Tryd.func20, Tryd.ntmps20
      go_wp2_with fail
      refine J.out.mono ?_
      rintro e w1 ⟨rfl, hb⟩
      go_wp2_with fail
      rw [HC.out]
      refine (S.out _ (hT.self hb)).mono ?_
      rintro e w2 ⟨⟨v, rfl, hs⟩, hb2⟩
      generalize hM : splitErr (joinB l) = m at *
      have HM := Lib.hid hM
      clear hM
      go_wp2_with fail
      go_ret2
      exact ⟨by rw [HM.out]; rfl, hb.trans (hb2.mono hb.size)⟩
end Go.Proofs.YtlmgikgpmcdakaaDoor.Nm
