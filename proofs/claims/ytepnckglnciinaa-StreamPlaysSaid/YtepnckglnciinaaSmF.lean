/- Whether changes stand by rising keys, and may be: the program's answer. -/
import Derived.Test.YtepnckglnciinaaSmE
namespace Go.Proofs.Ytepnckglnciinaa.Sm
open Go.RowKit Go.Proofs.Ytepnckglnciinaa.Oct
set_option linter.unusedVariables false

/-- A change may be, behind a key. -/
def okC (last : ByteArray) (c : ChgP) : Prop := Op.bytesLess c.key.toList last.toList = false ∧ (c.key.toList == last.toList) = false ∧ c.key.size ≤ 64 ∧ c.val.size ≤ 300 ∧ (c.gone = true → c.val.toList.isEmpty = true)
def SortP : ByteArray → List ChgP → Prop
  | _, [] => True
  | last, c :: r => okC last c ∧ SortP c.key r
def Tolds (P : Prop) (e : Ending) : Prop := ∃ b : Bool, e = .returned (.bool b) ∧ (b = true ↔ P)
theorem told_t {P : Prop} (h : P) : Tolds P (.returned (.bool true)) := ⟨true, rfl, fun _ => h, fun _ => rfl⟩
theorem told_f {P : Prop} (h : ¬ P) : Tolds P (.returned (.bool false)) := ⟨false, rfl, fun e => (by cases e), fun k => absurd k h⟩
theorem drop_cons {cs : List ChgP} {j : Nat} {c : ChgP} (h : cs[j]? = some c) : cs.drop j = c :: cs.drop (j + 1) := by
  obtain ⟨hj, e⟩ := List.getElem?_eq_some_iff.1 h
  rw [List.drop_eq_getElem_cons hj, e]
set_option maxRecDepth 100000 in
set_option maxHeartbeats 4000000 in
theorem sorted_any (A : Option Addr) (n cap : Nat) (cs : List ChgP) (w : World) (h : CRow w A n cs) (hn : n ≤ 1000000) : Calls Try.prog 31 #[.slice A n cap] w fun e w' => Tolds (SortP ⟨#[]⟩ cs) e ∧ Below w.heap.size w w' := by
  have HR := Lib.hid h
  have HLNN := Lib.hid h.len
  have halc := alloc_ch
  clear h
  go_enter Try.func31, Try.ntmps31
  go_wp2
  go_loopw [3, 8] (fun s i wr => ∃ j : Nat, ∃ last : ByteArray, j ≤ n ∧ i = .int .i64 j ∧ s = .string last ∧ Hid (SortP ⟨#[]⟩ cs ↔ SortP last (cs.drop j)) ∧ Hid (Below w.heap.size w wr)) (fun _ i _ => n - (intOf i).toNat)
  case atStart => exact ⟨0, _, by omega, rfl, rfl, Lib.hid Iff.rfl, Lib.hid (Below.refl _ _)⟩
  case round =>
    obtain ⟨j, last, hj, rfl, rfl, HP, HB⟩ := hrel
    by_cases hlt : j < n
    · have HLT := Lib.hid (show j + 1 ≤ n from hlt)
      obtain ⟨c, hc⟩ : ∃ c, cs[j]? = some c := ⟨_, List.getElem?_eq_getElem (by rw [HLNN.out]; exact hlt)⟩
      obtain ⟨b, off, rfl, hbl, hrg⟩ := (HR.out.below HB.out).cells j c hc
      have HRG := Lib.hid hrg
      have HX := Lib.hid (Has.fresh wr 53 (chC c))
      have HB1 := Lib.hid (HB.out.alloc HB.out.size (.cells (chC c) 53))
      have HNO := Lib.hid (show ¬ okC last c → ¬ SortP ⟨#[]⟩ cs from fun h1 h2 => by have h3 := HP.out.1 h2; rw [drop_cons hc] at h3; exact h1 h3.1)
      have HYES := Lib.hid (show okC last c → (SortP ⟨#[]⟩ cs ↔ SortP c.key (cs.drop (j + 1))) from fun h1 => by rw [HP.out, drop_cons hc]; exact ⟨fun h => h.2, fun h => ⟨h1, h⟩⟩)
      have x0 : (wr.alloc (.cells (chC c) 53)).cell? ⟨wr.heap.size, 0, none⟩ = some (.string c.key) := HX.out.at_ 0
      have x1 : (wr.alloc (.cells (chC c) 53)).cell? ⟨wr.heap.size, 1, none⟩ = some (.string c.val) := HX.out.at_ 1
      have x2 : (wr.alloc (.cells (chC c) 53)).cell? ⟨wr.heap.size, 2, none⟩ = some (.bool c.gone) := HX.out.at_ 2
      have hlti : (j : Int) < n := by omega
      clear hrg hc
      by_cases q1 : Op.bytesLess c.key.toList last.toList = true
      · skip
        have HF := Lib.hid (HNO.out (fun h => by have := h.1; rw [q1] at this; cases this))
        go_wp2_with (first | ((with_reducible refine Who.wpList_loadC 53 (.tmp 10) rfl b (off + j * 3) (chC c) ?_); refine And.intro ⟨by rfl, by rfl, ⟨_, Try.underlying53, rfl⟩, info_ch⟩ (And.intro HRG.out ?_); (try simp only [Act.put, List.setIfInBounds_toArray, List.set_cons_zero, List.set_cons_succ])) | ((with_reducible refine Who.wpList_newC 53 5 (.tmp 11) rfl rfl rfl (chC ch0) (chC c) ?_); refine And.intro ⟨rfl, rfl, rfl, halc, by rfl, by rfl, info_ch, rfl, chC_one _⟩ ?_; (try simp only [Act.put, List.setIfInBounds_toArray, List.set_cons_zero, List.set_cons_succ])))
        go_ret
        exact ⟨told_f HF.out, HB1.out⟩
      replace q1 : Op.bytesLess c.key.toList last.toList = false := by simpa using q1
      by_cases q2 : (c.key.toList == last.toList) = true
      · skip
        have HF := Lib.hid (HNO.out (fun h => by have := h.2.1; rw [q2] at this; cases this))
        go_wp2_with (first | ((with_reducible refine Who.wpList_loadC 53 (.tmp 10) rfl b (off + j * 3) (chC c) ?_); refine And.intro ⟨by rfl, by rfl, ⟨_, Try.underlying53, rfl⟩, info_ch⟩ (And.intro HRG.out ?_); (try simp only [Act.put, List.setIfInBounds_toArray, List.set_cons_zero, List.set_cons_succ])) | ((with_reducible refine Who.wpList_newC 53 5 (.tmp 11) rfl rfl rfl (chC ch0) (chC c) ?_); refine And.intro ⟨rfl, rfl, rfl, halc, by rfl, by rfl, info_ch, rfl, chC_one _⟩ ?_; (try simp only [Act.put, List.setIfInBounds_toArray, List.set_cons_zero, List.set_cons_succ])))
        go_ret
        exact ⟨told_f HF.out, HB1.out⟩
      replace q2 : (c.key.toList == last.toList) = false := by simpa using q2
      by_cases q3 : (64 : Int) < c.key.size
      · skip
        have HF := Lib.hid (HNO.out (fun h => by have := h.2.2.1; omega))
        go_wp2_with (first | ((with_reducible refine Who.wpList_loadC 53 (.tmp 10) rfl b (off + j * 3) (chC c) ?_); refine And.intro ⟨by rfl, by rfl, ⟨_, Try.underlying53, rfl⟩, info_ch⟩ (And.intro HRG.out ?_); (try simp only [Act.put, List.setIfInBounds_toArray, List.set_cons_zero, List.set_cons_succ])) | ((with_reducible refine Who.wpList_newC 53 5 (.tmp 11) rfl rfl rfl (chC ch0) (chC c) ?_); refine And.intro ⟨rfl, rfl, rfl, halc, by rfl, by rfl, info_ch, rfl, chC_one _⟩ ?_; (try simp only [Act.put, List.setIfInBounds_toArray, List.set_cons_zero, List.set_cons_succ])))
        go_ret
        exact ⟨told_f HF.out, HB1.out⟩
      by_cases q4 : (300 : Int) < c.val.size
      · skip
        have HF := Lib.hid (HNO.out (fun h => by have := h.2.2.2.1; omega))
        go_wp2_with (first | ((with_reducible refine Who.wpList_loadC 53 (.tmp 10) rfl b (off + j * 3) (chC c) ?_); refine And.intro ⟨by rfl, by rfl, ⟨_, Try.underlying53, rfl⟩, info_ch⟩ (And.intro HRG.out ?_); (try simp only [Act.put, List.setIfInBounds_toArray, List.set_cons_zero, List.set_cons_succ])) | ((with_reducible refine Who.wpList_newC 53 5 (.tmp 11) rfl rfl rfl (chC ch0) (chC c) ?_); refine And.intro ⟨rfl, rfl, rfl, halc, by rfl, by rfl, info_ch, rfl, chC_one _⟩ ?_; (try simp only [Act.put, List.setIfInBounds_toArray, List.set_cons_zero, List.set_cons_succ])))
        go_ret
        exact ⟨told_f HF.out, HB1.out⟩
      cases hg : c.gone with
      | false =>
        rw [hg] at x2
        have HOK := Lib.hid (HYES.out ⟨q1, q2, by omega, by omega, fun h => by rw [hg] at h; cases h⟩)
        go_wp2_with (first | ((with_reducible refine Who.wpList_loadC 53 (.tmp 10) rfl b (off + j * 3) (chC c) ?_); refine And.intro ⟨by rfl, by rfl, ⟨_, Try.underlying53, rfl⟩, info_ch⟩ (And.intro HRG.out ?_); (try simp only [Act.put, List.setIfInBounds_toArray, List.set_cons_zero, List.set_cons_succ])) | ((with_reducible refine Who.wpList_newC 53 5 (.tmp 11) rfl rfl rfl (chC ch0) (chC c) ?_); refine And.intro ⟨rfl, rfl, rfl, halc, by rfl, by rfl, info_ch, rfl, chC_one _⟩ ?_; (try simp only [Act.put, List.setIfInBounds_toArray, List.set_cons_zero, List.set_cons_succ])))
        go_roundw
        case rel => exact ⟨j + 1, _, HLT.out, by go_num, rfl, HOK, HB1⟩
        case measure => have := HLT.out; simp [intOf]; omega
      | true =>
        rw [hg] at x2
        cases q6 : c.val.toList.isEmpty with
        | true =>
          have HOK := Lib.hid (HYES.out ⟨q1, q2, by omega, by omega, fun _ => q6⟩)
          go_wp2_with (first | ((with_reducible refine Who.wpList_loadC 53 (.tmp 10) rfl b (off + j * 3) (chC c) ?_); refine And.intro ⟨by rfl, by rfl, ⟨_, Try.underlying53, rfl⟩, info_ch⟩ (And.intro HRG.out ?_); (try simp only [Act.put, List.setIfInBounds_toArray, List.set_cons_zero, List.set_cons_succ])) | ((with_reducible refine Who.wpList_newC 53 5 (.tmp 11) rfl rfl rfl (chC ch0) (chC c) ?_); refine And.intro ⟨rfl, rfl, rfl, halc, by rfl, by rfl, info_ch, rfl, chC_one _⟩ ?_; (try simp only [Act.put, List.setIfInBounds_toArray, List.set_cons_zero, List.set_cons_succ])))
          go_roundw
          case rel => exact ⟨j + 1, _, HLT.out, by go_num, rfl, HOK, HB1⟩
          case measure => have := HLT.out; simp [intOf]; omega
        | false =>
          have HF := Lib.hid (HNO.out (fun h => by have := h.2.2.2.2 hg; rw [q6] at this; cases this))
          go_wp2_with (first | ((with_reducible refine Who.wpList_loadC 53 (.tmp 10) rfl b (off + j * 3) (chC c) ?_); refine And.intro ⟨by rfl, by rfl, ⟨_, Try.underlying53, rfl⟩, info_ch⟩ (And.intro HRG.out ?_); (try simp only [Act.put, List.setIfInBounds_toArray, List.set_cons_zero, List.set_cons_succ])) | ((with_reducible refine Who.wpList_newC 53 5 (.tmp 11) rfl rfl rfl (chC ch0) (chC c) ?_); refine And.intro ⟨rfl, rfl, rfl, halc, by rfl, by rfl, info_ch, rfl, chC_one _⟩ ?_; (try simp only [Act.put, List.setIfInBounds_toArray, List.set_cons_zero, List.set_cons_succ])))
          go_ret
          exact ⟨told_f HF.out, HB1.out⟩
    · have hlti : ¬ (j : Int) < n := by omega
      obtain rfl : j = n := by omega
      have HF := Lib.hid (show SortP ⟨#[]⟩ cs from HP.out.2 (by rw [← HLNN.out, List.drop_length]; trivial))
      go_wp2
      go_ret
      exact ⟨told_t HF.out, HB.out⟩
end Go.Proofs.Ytepnckglnciinaa.Sm
