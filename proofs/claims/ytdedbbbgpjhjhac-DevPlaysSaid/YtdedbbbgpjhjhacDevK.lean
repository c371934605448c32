/- slices.Equal at numbers and texts, slices.Contains at numbers: contracts. -/
import Derived.Test.YtdedbbbgpjhjhacDevJ
namespace Go.Proofs.Ytdedbbbgpjhjhac.Dv
open Go.RowKit
open Mem
open Rws

theorem txt_same {x y : ByteArray} (h : x = y) : (x.toList == y.toList) = true := by subst h; simp
theorem txt_other {x y : ByteArray} (h : ¬ x = y) : (x.toList == y.toList) = false := by
  refine beq_eq_false_iff_ne.2 fun e => h ?_
  rw [ByteArray.toList_eq, ByteArray.toList_eq] at e
  obtain ⟨⟨d⟩⟩ := x
  obtain ⟨⟨k⟩⟩ := y
  simp at e
  rw [e]
theorem take_snoc_eq {α : Type} {l k : List α} {j : Nat} (h1 : j < l.length) (h2 : j < k.length) (h : l.take j = k.take j) (he : l[j] = k[j]) : l.take (j + 1) = k.take (j + 1) := by
  rw [List.take_succ_eq_append_getElem h1, List.take_succ_eq_append_getElem h2, h, he]
set_option maxRecDepth 100000 in
theorem eqi_any (A B : Option Addr) (n m c d : Nat) (l k : List Int) (hn : n ≤ 9223372036854775807) (w : World) (h : NumRow w A n l) (h2 : NumRow w B m k) :
    Calls Try.prog 17 #[.slice A n c, .slice B m d] w fun e w' => e = .returned (.bool (decide (l = k))) ∧ Below w.heap.size w w' := by
  have HR := Lib.hid h
  have HR2 := Lib.hid h2
  clear h h2
  go_enter Try.func17, Try.ntmps17
  by_cases hnm : n = m
  · subst hnm
    go_wp2
    go_loopw [13] (fun z wr => ∃ j : Nat, j ≤ n ∧ z = .int .i64 j ∧ l.take j = k.take j ∧ Below w.heap.size w wr) (fun z _ => n - (intOf z).toNat)
    case atStart => exact ⟨0, Nat.zero_le _, rfl, rfl, Below.refl _ _⟩
    case round =>
      obtain ⟨j, hj, rfl, ht, hb⟩ := hrel
      have HB := Lib.hid hb
      have HT := Lib.hid ht
      clear hb ht
      by_cases hlt : j < n
      · obtain ⟨b, off, rfl, hbl, hcl⟩ := (HR.out.below HB.out).2 (by omega)
        obtain ⟨b2, off2, rfl, hbl2, hcl2⟩ := (HR2.out.below HB.out).2 (by omega)
        have j1 : j < l.length := by rw [HR.out.1]; exact hlt
        have j2 : j < k.length := by rw [HR2.out.1]; exact hlt
        have c1 := hcl j j1
        have c2 := hcl2 j j2
        have HN := Lib.hid (take_snoc_eq j1 j2 HT.out)
        have HE := Lib.hid (show l[j] ≠ k[j] → decide (l = k) = false from fun he => decide_eq_false fun e => he (by subst e; rfl))
        clear hcl hcl2 hbl hbl2
        generalize l[j] = x at *
        generalize k[j] = y at *
        clear j1 j2
        by_cases hxy : x = y
        · have HN := Lib.hid (HN.out hxy)
          have t1 : (x != y) = false := by rw [hxy]; simp
          clear hxy HE
          go_wp2_with fail
          go_quiet (fail)
          go_wp2
          go_roundw
          case rel => exact ⟨j + 1, by omega, by go_num, HN.out, below_drewN HB.out _⟩
          case measure => simp [intOf]; omega
        · have t1 : (x != y) = true := by simpa using hxy
          have HF := Lib.hid (HE.out hxy)
          clear hxy HE
          go_wp2_with fail
          go_quiet (fail)
          go_wp2
          go_ret
          exact ⟨by rw [HF.out]; rfl, below_drewN HB.out _⟩
      · obtain rfl : j = n := by omega
        have he : decide (l = k) = true := by
          have := HT.out
          rw [List.take_of_length_le (by rw [HR.out.1]; exact Nat.le_refl _), List.take_of_length_le (by rw [HR2.out.1]; exact Nat.le_refl _)] at this
          exact decide_eq_true this
        have HF := Lib.hid he
        clear he
        go_wp2
        go_ret
        exact ⟨by rw [HF.out]; rfl, HB.out⟩
  · have t1 : ((n : Int) == (m : Int)) = false := beq_eq_false_iff_ne.2 (by omega)
    have he : decide (l = k) = false := decide_eq_false fun e => hnm (by rw [← HR.out.1, ← HR2.out.1, e])
    rw [he]
    clear he hnm
    go_wp2
    go_ret
    exact ⟨rfl, Below.refl _ _⟩
set_option maxRecDepth 100000 in
theorem eqs_any (A B : Option Addr) (n m c d : Nat) (l k : List ByteArray) (hn : n ≤ 9223372036854775807) (w : World) (h : TxtRow w A n l) (h2 : TxtRow w B m k) :
    Calls Try.prog 34 #[.slice A n c, .slice B m d] w fun e w' => e = .returned (.bool (decide (l = k))) ∧ Below w.heap.size w w' := by
  have HR := Lib.hid h
  have HR2 := Lib.hid h2
  clear h h2
  go_enter Try.func34, Try.ntmps34
  by_cases hnm : n = m
  · subst hnm
    go_wp2
    go_loopw [13] (fun z wr => ∃ j : Nat, j ≤ n ∧ z = .int .i64 j ∧ l.take j = k.take j ∧ Below w.heap.size w wr) (fun z _ => n - (intOf z).toNat)
    case atStart => exact ⟨0, Nat.zero_le _, rfl, rfl, Below.refl _ _⟩
    case round =>
      obtain ⟨j, hj, rfl, ht, hb⟩ := hrel
      have HB := Lib.hid hb
      have HT := Lib.hid ht
      clear hb ht
      by_cases hlt : j < n
      · obtain ⟨b, off, rfl, hbl, hcl⟩ := (HR.out.below HB.out).2 (by omega)
        obtain ⟨b2, off2, rfl, hbl2, hcl2⟩ := (HR2.out.below HB.out).2 (by omega)
        have j1 : j < l.length := by rw [HR.out.1]; exact hlt
        have j2 : j < k.length := by rw [HR2.out.1]; exact hlt
        have c1 := hcl j j1
        have c2 := hcl2 j j2
        have HN := Lib.hid (take_snoc_eq j1 j2 HT.out)
        have HE := Lib.hid (show l[j] ≠ k[j] → decide (l = k) = false from fun he => decide_eq_false fun e => he (by subst e; rfl))
        clear hcl hcl2 hbl hbl2
        generalize l[j] = x at *
        generalize k[j] = y at *
        clear j1 j2
        by_cases hxy : x = y
        · have HN := Lib.hid (HN.out hxy)
          have t1 : (x.toList == y.toList) = true := txt_same hxy
          clear hxy HE
          go_wp2_with fail
          go_quiet (fail)
          go_wp2
          go_roundw
          case rel => exact ⟨j + 1, by omega, by go_num, HN.out, below_drewN HB.out _⟩
          case measure => simp [intOf]; omega
        · have t1 : (x.toList == y.toList) = false := txt_other hxy
          have HF := Lib.hid (HE.out hxy)
          clear hxy HE
          go_wp2_with fail
          go_quiet (fail)
          go_wp2
          go_ret
          exact ⟨by rw [HF.out]; rfl, below_drewN HB.out _⟩
      · obtain rfl : j = n := by omega
        have he : decide (l = k) = true := by
          have := HT.out
          rw [List.take_of_length_le (by rw [HR.out.1]; exact Nat.le_refl _), List.take_of_length_le (by rw [HR2.out.1]; exact Nat.le_refl _)] at this
          exact decide_eq_true this
        have HF := Lib.hid he
        clear he
        go_wp2
        go_ret
        exact ⟨by rw [HF.out]; rfl, HB.out⟩
  · have t1 : ((n : Int) == (m : Int)) = false := beq_eq_false_iff_ne.2 (by omega)
    have he : decide (l = k) = false := decide_eq_false fun e => hnm (by rw [← HR.out.1, ← HR2.out.1, e])
    rw [he]
    clear he hnm
    go_wp2
    go_ret
    exact ⟨rfl, Below.refl _ _⟩
end Go.Proofs.Ytdedbbbgpjhjhac.Dv
