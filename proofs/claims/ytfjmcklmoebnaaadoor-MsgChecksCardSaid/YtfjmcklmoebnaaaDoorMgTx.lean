import Derived.Test.YtfjmcklmoebnaaaDoorMgK

/- The program's Text of any message. -/
namespace Go.Proofs.YtfjmcklmoebnaaaDoor.Mg
open Go.RowKit Go.Proofs.YtfjmcklmoebnaaaDoor.Mem Go.Proofs.YtfjmcklmoebnaaaDoor.Nt
open Go.Proofs.YtfjmcklmoebnaaaDoor.Vc (vecC)
set_option linter.unusedVariables false set_option linter.unusedSimpArgs false

def partsM (m : MsgP) : List ByteArray :=
  if m.kind = 1 then (parts0 m ⟨#[97, 115, 107]⟩ ++ [((⟨#[98, 97, 115, 101, 61]⟩ : ByteArray) ++ pairB m.base.1 ⟨#[46]⟩ m.base.2)] ++ [((⟨#[109, 97, 114, 107, 61]⟩ : ByteArray) ++ pairB m.mark.1 ⟨#[46]⟩ m.mark.2)] ++ [((⟨#[102, 114, 111, 109, 61]⟩ : ByteArray) ++ itoaB m.ix)]) else if m.kind = 2 then (parts0 m ⟨#[112, 97, 114, 116]⟩ ++ [((⟨#[98, 97, 115, 101, 61]⟩ : ByteArray) ++ pairB m.base.1 ⟨#[46]⟩ m.base.2)] ++ [((⟨#[109, 97, 114, 107, 61]⟩ : ByteArray) ++ pairB m.mark.1 ⟨#[46]⟩ m.mark.2)] ++ [((⟨#[112, 97, 114, 116, 61]⟩ : ByteArray) ++ pairB m.ix ⟨#[47]⟩ m.tot), ((⟨#[98, 121, 116, 101, 115, 61]⟩ : ByteArray) ++ itoaB (m.data.size : Int))]) else if m.kind = 3 then (parts0 m ⟨#[115, 97, 109, 101]⟩) else if m.kind = 4 then (parts0 m ⟨#[103, 111, 110, 101]⟩ ++ [((⟨#[109, 97, 114, 107, 61]⟩ : ByteArray) ++ pairB m.mark.1 ⟨#[46]⟩ m.mark.2)]) else (parts0 m ⟨#[110, 111, 110, 101]⟩)
def saidM (m : MsgP) : ByteArray := joinB (partsM m) ⟨#[32]⟩
theorem text_any (m : MsgP) (hm : FitM m) (w : World) (hT : Tabs w) : Calls Tryd.prog 13 #[.agg (msgC m)] w fun e w' => e = .returned (.string (saidM m)) ∧ Below w.heap.size w w' := by
  by_cases h1 : m.kind = 1
  · have e : saidM m = joinB (parts0 m ⟨#[97, 115, 107]⟩ ++ [((⟨#[98, 97, 115, 101, 61]⟩ : ByteArray) ++ pairB m.base.1 ⟨#[46]⟩ m.base.2)] ++ [((⟨#[109, 97, 114, 107, 61]⟩ : ByteArray) ++ pairB m.mark.1 ⟨#[46]⟩ m.mark.2)] ++ [((⟨#[102, 114, 111, 109, 61]⟩ : ByteArray) ++ itoaB m.ix)]) ⟨#[32]⟩ := by unfold saidM partsM; rw [if_pos h1]
    rw [e]; exact text_k1 m hm h1 w hT
  · by_cases h2 : m.kind = 2
    · have e : saidM m = joinB (parts0 m ⟨#[112, 97, 114, 116]⟩ ++ [((⟨#[98, 97, 115, 101, 61]⟩ : ByteArray) ++ pairB m.base.1 ⟨#[46]⟩ m.base.2)] ++ [((⟨#[109, 97, 114, 107, 61]⟩ : ByteArray) ++ pairB m.mark.1 ⟨#[46]⟩ m.mark.2)] ++ [((⟨#[112, 97, 114, 116, 61]⟩ : ByteArray) ++ pairB m.ix ⟨#[47]⟩ m.tot), ((⟨#[98, 121, 116, 101, 115, 61]⟩ : ByteArray) ++ itoaB (m.data.size : Int))]) ⟨#[32]⟩ := by unfold saidM partsM; rw [if_neg h1, if_pos h2]
      rw [e]; exact text_k2 m hm h2 w hT
    · by_cases h3 : m.kind = 3
      · have e : saidM m = joinB (parts0 m ⟨#[115, 97, 109, 101]⟩) ⟨#[32]⟩ := by unfold saidM partsM; rw [if_neg h1, if_neg h2, if_pos h3]
        rw [e]; exact text_k3 m hm h3 w hT
      · by_cases h4 : m.kind = 4
        · have e : saidM m = joinB (parts0 m ⟨#[103, 111, 110, 101]⟩ ++ [((⟨#[109, 97, 114, 107, 61]⟩ : ByteArray) ++ pairB m.mark.1 ⟨#[46]⟩ m.mark.2)]) ⟨#[32]⟩ := by unfold saidM partsM; rw [if_neg h1, if_neg h2, if_neg h3, if_pos h4]
          rw [e]; exact text_k4 m hm h4 w hT
        · have e : saidM m = joinB (parts0 m ⟨#[110, 111, 110, 101]⟩) ⟨#[32]⟩ := by unfold saidM partsM; rw [if_neg h1, if_neg h2, if_neg h3, if_neg h4]
          rw [e]; exact text_k0 m hm ⟨h1, h2, h3, h4⟩ w hT
end Go.Proofs.YtfjmcklmoebnaaaDoor.Mg
/- Texts joined: one more at the end. -/
namespace Go.Proofs.YtfjmcklmoebnaaaDoor.Mg
open Go.RowKit Go.Proofs.YtfjmcklmoebnaaaDoor.Mem
set_option linter.unusedVariables false set_option linter.unusedSimpArgs false

theorem join_snoc (sep b : List UInt8) : ∀ xs : List (List UInt8), xs ≠ [] → Lib.join (xs ++ [b]) sep = Lib.join xs sep ++ sep ++ b
  | [], h => absurd rfl h
  | [x], _ => by simp [Lib.join]
  | x :: y :: xs, _ => by
    have ih := join_snoc sep b (y :: xs) (by simp)
    simp only [List.cons_append, Lib.join] at ih ⊢
    simp [ih]
theorem txt_app (a b : List UInt8) : txt (a ++ b) = txt a ++ txt b := by
  apply ByteArray.ext
  simp [txt]
theorem txt_of (b : ByteArray) : txt b.data.toList = b := by
  apply ByteArray.ext
  simp [txt]
theorem joinB_snoc (xs : List ByteArray) (b sep : ByteArray) (h : xs ≠ []) : joinB (xs ++ [b]) sep = joinB xs sep ++ sep ++ b := by
  unfold joinB
  rw [List.map_append, List.map_cons, List.map_nil, join_snoc _ _ _ (by simpa using h), txt_app, txt_app, txt_of, txt_of]
theorem joinB_one (b sep : ByteArray) : joinB [b] sep = b := by
  unfold joinB
  simp [Lib.join, txt_of]
end Go.Proofs.YtfjmcklmoebnaaaDoor.Mg
