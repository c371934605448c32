/- Split: the names of a path. -/
import Derived.Test.YtlmgikgpmcdakaaDoorNmH
import Derived.Lib.SplitLaws
namespace Go.Proofs.YtlmgikgpmcdakaaDoor.Nm
open Go.RowKit Go.Proofs.YtlmgikgpmcdakaaDoor.Mem

/-- What stands between slashes. -/
def slash : ByteArray := ⟨#[47]⟩
def pieces (s : ByteArray) : List ByteArray := Lib.splitB slash 0 (Lib.countB s slash) s
theorem pieces_length (s : ByteArray) : (pieces s).length = Lib.countB s slash + 1 := Lib.splitB_all slash (by decide) 0 _ s rfl
theorem piece_le (sep : ByteArray) : ∀ (k : Nat) (s x : ByteArray), x ∈ Lib.splitB sep 0 k s → x.size ≤ s.size
  | 0, s, x, h => by
    rw [Lib.splitB_zero] at h
    rw [List.mem_singleton.1 h]
    exact Nat.le_refl _
  | k + 1, s, x, h => by
    unfold Lib.splitB at h
    split at h
    · rw [List.mem_singleton.1 h]
      exact Nat.le_refl _
    · rcases List.mem_cons.1 h with h | h
      · rw [h]; simp; omega
      · have := piece_le sep k _ x h
        simp at this
        omega
/-- The first error of some names. -/
def firstBad (l : List ByteArray) : Int := match l.find? (fun s => goodM s.data.toList != 0) with
  | some s => goodM s.data.toList
  | none => 0
theorem firstBad_step (l : List ByteArray) (k : Nat) (hk : k < l.length) (h : ∀ j (hj : j < l.length), j < k → goodM (l[j]).data.toList = 0) (hn : goodM (l[k]).data.toList ≠ 0) : firstBad l = goodM (l[k]).data.toList := by
  unfold firstBad
  have : l.find? (fun s => goodM s.data.toList != 0) = some l[k] := by
    rw [List.find?_eq_some_iff_getElem]
    refine ⟨by simpa using hn, k, hk, rfl, fun j hj => ?_⟩
    simpa using h j (by omega) hj
  rw [this]
theorem firstBad_none (l : List ByteArray) (h : ∀ j (hj : j < l.length), goodM (l[j]).data.toList = 0) : firstBad l = 0 := by
  unfold firstBad
  have : l.find? (fun s => goodM s.data.toList != 0) = none := by
    rw [List.find?_eq_none]
    intro x hx
    obtain ⟨j, hj, rfl⟩ := List.mem_iff_getElem.1 hx
    simpa using h j hj
  rw [this]
/-- Behind the first slash. -/
def behind (p : ByteArray) : ByteArray := ⟨(Lib.trimPrefix p.data.toList [47]).toArray⟩
/-- What Split answers: an error, and names. -/
def splitErr (p : ByteArray) : Int :=
  if 120 < p.size then 36 else if Lib.hasPrefix p.data.toList [47] = false then 22 else if (behind p).size = 0 then 0
  else if 8 < (pieces (behind p)).length then 36 else firstBad (pieces (behind p))
def splitL (p : ByteArray) : List ByteArray := if splitErr p = 0 ∧ (behind p).size ≠ 0 then pieces (behind p) else []
/-- A value that is these texts, in a block of its own from B on; none: it is nil. -/
def Strs (B : Nat) (l : List ByteArray) (v : Value) (w : World) : Prop :=
  (l = [] ∧ v = .slice none 0 0) ∨ (l ≠ [] ∧ ∃ g, B ≤ g ∧ v = .slice (some ⟨g, 0, none⟩) l.length l.length ∧ Has w g 9 (l.map Value.string).toArray)
def SplitEnds (p : ByteArray) (B : Nat) (e : Ending) (w : World) : Prop := ∃ v, e = .returned (.tuple #[v, .int .i64 (splitErr p)]) ∧ Strs B (splitL p) v w
theorem ends_nil (p : ByteArray) (B : Nat) (w : World) (n : Int) (h : splitErr p = n) (hn : n ≠ 0 ∨ (behind p).size = 0) (v : Value) (hv : v = .tuple #[.slice none 0 0, .int .i64 n]) : SplitEnds p B (.returned v) w :=
  ⟨_, by rw [h, hv], .inl ⟨by
    unfold splitL
    rw [if_neg]
    rintro ⟨a, b⟩
    rcases hn with hn | hn
    · exact hn (h.symm.trans a)
    · exact b hn, rfl⟩⟩
theorem split_any (p : ByteArray) (hp : p.size ≤ 4294967280) (w : World) (h : Tabs w) :
    Calls Tryd.prog 11 #[.string p] w fun e w' => SplitEnds p w.heap.size e w' ∧ Below w.heap.size w w' := by
  by_cases h120 : 120 < p.size
  · have hE : splitErr p = 36 := by unfold splitErr; rw [if_pos h120]
    go_enter Tryd.func11, Tryd.ntmps11
    go_wp2
    go_ret2
    exact ⟨ends_nil p _ _ 36 hE (.inl (by omega)) _ rfl, Below.refl _ _⟩
  · have C1 := Lib.hid (Tryd.strings_CutPrefix p ⟨#[47]⟩ w)
    cases hpre : Lib.hasPrefix p.data.toList [47] with
    | false =>
      have hE : splitErr p = 22 := by unfold splitErr; rw [if_neg h120, if_pos hpre]
      go_enter Tryd.func11, Tryd.ntmps11
      go_wp2_with fail
      refine C1.out.mono ?_
      rintro e w1 ⟨rfl, rfl⟩
      go_wp2
      go_ret2
      exact ⟨ends_nil p _ _ 22 hE (.inl (by omega)) _ rfl, Below.refl _ _⟩
    | true =>
      by_cases h0 : (behind p).size = 0
      · have hE : splitErr p = 0 := by unfold splitErr; rw [if_neg h120, hpre, if_neg (by simp), if_pos h0]
        have hb : behind p = ⟨#[]⟩ := by
          generalize behind p = R at *
          cases R with
          | mk d => congr 1; exact Array.size_eq_zero_iff.1 h0
        have hemp : (behind p).toList.isEmpty = true := by rw [hb, ByteArray.toList_eq]; rfl
        have HT := Lib.hid (show (⟨(Lib.trimPrefix p.data.toList [47]).toArray⟩ : ByteArray) = behind p from rfl)
        go_enter Tryd.func11, Tryd.ntmps11
        go_wp2_with fail
        refine C1.out.mono ?_
        rintro e w1 ⟨rfl, rfl⟩
        rw [HT.out, hpre]
        go_wp2
        go_ret2
        exact ⟨ends_nil p _ _ 0 hE (.inr h0) _ rfl, Below.refl _ _⟩
      · have hemp : (behind p).toList.isEmpty = false := by
          rw [← decide_eq_emptyBytes]
          exact decide_eq_false (fun h => h0 (by rw [h]; rfl))
        have HT := Lib.hid (show (⟨(Lib.trimPrefix p.data.toList [47]).toArray⟩ : ByteArray) = behind p from rfl)
        have hlen : (behind p).size ≤ p.size := by
          have := trim_le p.data.toList [47]
          show (Lib.trimPrefix p.data.toList [47]).toArray.size ≤ _
          simp at this ⊢
          omega
        obtain ⟨m, hm⟩ := h.ml
        have C2 := Lib.hid (Tryd.strings_Split (behind p) ⟨#[47]⟩ m w (by omega) hm (by decide))
        have hpl := pieces_length (behind p)
        rw [show Lib.countB (behind p) ⟨#[47]⟩ = Lib.countB (behind p) slash from rfl, show Lib.splitB ⟨#[47]⟩ 0 (Lib.countB (behind p) slash) (behind p) = pieces (behind p) from rfl, ← hpl] at C2
        by_cases h8 : 8 < (pieces (behind p)).length
        · have hE : splitErr p = 36 := by unfold splitErr; rw [if_neg h120, hpre, if_neg (by simp), if_neg h0, if_pos h8]
          have h8' : 8 < ((pieces (behind p)).length : Int) := by omega
          go_enter Tryd.func11, Tryd.ntmps11
          go_wp2_with fail
          refine C1.out.mono ?_
          rintro e w1 ⟨rfl, rfl⟩
          rw [HT.out, hpre]
          go_wp2_with fail
          refine C2.out.mono ?_
          rintro e w1 ⟨rfl, rfl⟩
          go_wp2
          go_ret2
          exact ⟨ends_nil p _ _ 36 hE (.inl (by omega)) _ rfl, (Below.refl _ _).alloc (Nat.le_refl _) _⟩
        · have hE : splitErr p = firstBad (pieces (behind p)) := by unfold splitErr; rw [if_neg h120, hpre, if_neg (by simp), if_neg h0, if_neg h8]
          have h8' : ¬ 8 < ((pieces (behind p)).length : Int) := by omega
          have hsz : ∀ x ∈ pieces (behind p), x.size ≤ 4294967280 := fun x hx => Nat.le_trans (piece_le _ _ _ x hx) (by omega)
          have HSZ := Lib.hid hsz
          have HE := Lib.hid hE
          have HL := Lib.hid (show firstBad (pieces (behind p)) = 0 → splitL p = pieces (behind p) from fun hx => by unfold splitL; rw [if_pos ⟨hE.trans hx, h0⟩])
          have hh := Has.fresh w 9 ((pieces (behind p)).map Value.string).toArray
          have hb := (Below.refl w.heap.size w).alloc (Nat.le_refl _) (.cells ((pieces (behind p)).map Value.string).toArray 9)
          have HLN := Lib.hid (show 0 < (pieces (behind p)).length by omega)
          clear hpl hm hsz hE
          go_enter Tryd.func11, Tryd.ntmps11
          go_wp2_with fail
          refine C1.out.mono ?_
          rintro e w1 ⟨rfl, rfl⟩
          rw [HT.out, hpre]
          go_wp2_with fail
          refine C2.out.mono ?_
          rintro e w2 ⟨rfl, rfl⟩
          generalize pieces (behind p) = l at *
          generalize w1.alloc (.cells (l.map Value.string).toArray 9) = w2 at *
          go_wp2_with fail
          have hlen8 : l.length ≤ 8 := by omega
          have hl0 : l ≠ [] := by rintro rfl; exact absurd HLN.out (by simp)
          go_loopw [29] (fun i wr => ∃ k : Nat, i = .int .i64 k ∧ k ≤ l.length ∧ (∀ j (hj : j < l.length), j < k → goodM (l[j]).data.toList = 0) ∧ Has wr w1.heap.size 9 (l.map Value.string).toArray ∧ Below w1.heap.size w1 wr ∧ w1.heap.size < wr.heap.size) (fun i _ => l.length - (intOf i).toNat)
          case atStart => exact ⟨0, rfl, by omega, fun _ _ h => absurd h (Nat.not_lt_zero _), hh, hb, hh.bound⟩
          case round =>
            obtain ⟨k, rfl, hk, hg, hx, hbr, hbd⟩ := hrel
            by_cases hlt : k < l.length
            · have hc := Has.at_ hx k
              rw [List.getElem?_toArray, List.getElem?_map, List.getElem?_eq_getElem hlt] at hc
              simp only [Option.map_some] at hc
              have HG := Lib.hid (good_any l[k] (HSZ.out _ (List.getElem_mem hlt)) wr)
              have HGG := Lib.hid hg
              have HX := Lib.hid hx
              have HB := Lib.hid hbr
              have HF := Lib.hid (firstBad_step l k hlt hg)
              clear hg hx hbr
              go_wp2_with fail
              refine HG.out.mono ?_
              rintro e w3 ⟨rfl, hb3⟩
              have HX3 := Lib.hid (HX.out.over (S := fun _ => False) (Chg.of_below hb3 _) (fun h => h))
              have HB3 := Lib.hid (HB.out.trans (hb3.mono HB.out.size))
              have HS3 := Lib.hid (Nat.lt_of_lt_of_le hbd hb3.size)
              clear hb3 HG
              by_cases hz : goodM (l[k]).data.toList = 0
              · rw [hz]
                go_wp2
                go_roundw
                case rel => exact ⟨k + 1, by go_num, by omega, fun j hj h => by
                    by_cases hjk : j < k
                    · exact HGG.out j hj hjk
                    · obtain rfl : j = k := by omega
                      exact hz, HX3.out, HB3.out, HS3.out⟩
                case measure => simp [intOf]; omega
              · have hf := HF.out hz
                generalize goodM (l[k]).data.toList = n at *
                go_wp2
                go_ret2
                exact ⟨ends_nil p _ _ n (HE.out.trans hf) (.inl hz) _ rfl, HB3.out⟩
            · obtain rfl : k = l.length := by omega
              have hF := firstBad_none l (fun j hj => hg j hj hj)
              have HEE := Lib.hid (HE.out.trans hF)
              have HLL := Lib.hid (HL.out hF)
              have HX := Lib.hid hx
              have HB := Lib.hid hbr
              clear hg hx hbr hF
              go_wp2
              go_ret2
              exact ⟨⟨_, by rw [HEE.out]; rfl, .inr ⟨by rw [HLL.out]; exact hl0, _, Nat.le_refl _, by rw [HLL.out]; rfl, by rw [HLL.out]; exact HX.out⟩⟩, HB.out⟩
end Go.Proofs.YtlmgikgpmcdakaaDoor.Nm
