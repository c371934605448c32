/- slices.Index and slices.Contains at numbers: contracts. -/
import Derived.Test.YtdedbbbgpjhjhacDevM
namespace Go.Proofs.Ytdedbbbgpjhjhac.Dv
open Go.RowKit
open Mem
open Rws

set_option maxRecDepth 100000 in
theorem index_any (A : Option Addr) (n c : Nat) (l : List Int) (x : Int) (hn : n ≤ 9223372036854775807) (w : World) (h : NumRow w A n l) :
    Calls Try.prog 46 #[.slice A n c, .int .i64 x] w fun e w' => ∃ r : Int, e = .returned (.int .i64 r) ∧ decide (0 ≤ r) = decide (x ∈ l) ∧ Below w.heap.size w w' := by
  have HR := Lib.hid h
  clear h
  go_enter Try.func46, Try.ntmps46
  go_wp2
  go_loopw [8] (fun z wr => ∃ j : Nat, j ≤ n ∧ z = .int .i64 j ∧ x ∉ l.take j ∧ Below w.heap.size w wr) (fun z _ => n - (intOf z).toNat)
  case atStart => exact ⟨0, Nat.zero_le _, rfl, by simp, Below.refl _ _⟩
  case round =>
    obtain ⟨j, hj, rfl, ht, hb⟩ := hrel
    have HB := Lib.hid hb
    have HT := Lib.hid ht
    clear hb ht
    by_cases hlt : j < n
    · obtain ⟨b, off, rfl, hbl, hcl⟩ := (HR.out.below HB.out).2 (by omega)
      have j1 : j < l.length := by rw [HR.out.1]; exact hlt
      have c1 := hcl j j1
      have HN := Lib.hid (List.take_succ_eq_append_getElem j1)
      have HE := Lib.hid (List.getElem_mem j1)
      clear hcl hbl
      generalize l[j] = y at *
      clear j1
      by_cases hxy : x = y
      · have t1 : (x == y) = true := by rw [hxy]; simp
        have HF := Lib.hid (show decide (0 ≤ (j : Int)) = decide (x ∈ l) by rw [decide_eq_true (by omega), decide_eq_true (by rw [hxy]; exact HE.out)])
        clear hxy HE HN
        go_wp2
        go_ret
        exact ⟨j, rfl, HF.out, HB.out⟩
      · have t1 : (x == y) = false := beq_eq_false_iff_ne.2 hxy
        have HM := Lib.hid (show x ∉ l.take (j + 1) by rw [HN.out, List.mem_append, List.mem_singleton]; exact fun k => by rcases k with k | k; exact HT.out k; exact hxy k)
        clear hxy HE HN
        go_wp2
        go_roundw
        case rel => exact ⟨j + 1, by omega, by go_num, HM.out, HB.out⟩
        case measure => simp [intOf]; omega
    · obtain rfl : j = n := by omega
      have hm := HT.out
      rw [List.take_of_length_le (by rw [HR.out.1]; exact Nat.le_refl _)] at hm
      have HM := Lib.hid hm
      clear hm
      go_wp2
      go_ret
      exact ⟨-1, rfl, by rw [decide_eq_false HM.out]; rfl, HB.out⟩
set_option maxRecDepth 100000 in
theorem contains_any (A : Option Addr) (n c : Nat) (l : List Int) (x : Int) (hn : n ≤ 9223372036854775807) (w : World) (h : NumRow w A n l) :
    Calls Try.prog 28 #[.slice A n c, .int .i64 x] w fun e w' => e = .returned (.bool (decide (x ∈ l))) ∧ Below w.heap.size w w' := by
  have HI := Lib.hid (index_any A n c l x hn w h)
  clear h hn
  go_enter Try.func28, Try.ntmps28
  go_wp2_with fail
  refine HI.out.mono ?_
  rintro e w1 ⟨r, rfl, hr, hb⟩
  have HR := Lib.hid hr
  clear hr
  go_wp2
  go_ret
  exact ⟨by rw [← HR.out]; rfl, hb⟩
end Go.Proofs.Ytdedbbbgpjhjhac.Dv
