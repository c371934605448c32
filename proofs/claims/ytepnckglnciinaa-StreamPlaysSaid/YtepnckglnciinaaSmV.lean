/- Rows of changes, the same or not. -/
import Derived.Test.YtepnckglnciinaaSmU
namespace Go.Proofs.Ytepnckglnciinaa.Sm
open Go.RowKit Go.Proofs.Ytepnckglnciinaa.Mem
set_option linter.unusedVariables false

def sameC (x y : ChgP) : Bool := (x.key.toList == y.key.toList) && (x.val.toList == y.val.toList) && (x.gone == y.gone)
set_option maxRecDepth 100000 in
set_option maxHeartbeats 4000000 in
theorem neq_ch (x y : ChgP) (w : World) : (binOp .neq 53 (.agg (chC x)) (.agg (chC y))).run Try.prog w = .ok (.bool (!sameC x y)) w := by
  have u4 := Try.underlying4
  have a4 := Try.isAgg4
  have z4 := Try.sizeOf4
  have u9 := Try.underlying9
  have a9 := Try.isAgg9
  have z9 := Try.sizeOf9
  have hS : Try.prog.underlying 53 = some (.struct (Try.prog.fieldsOf 53)) := by kernel_rfl
  have hp : Try.prog.stoodInHeld 53 = false := by kernel_rfl
  rw [run_neq_struct]
  rw [show (10000 : Nat) = 9999 + 1 from rfl]
  rw [run_equalIn_agg w 9999 53 _ _ hS hp]
  simp only [Program.fieldsOf, Try.underlying53]
  unfold chC sameC
  go_simp
  rcases Classical.em (x.key.toList = y.key.toList) with h0 | h0
  case' inr => simp [h0]
  rcases Classical.em (x.val.toList = y.val.toList) with h1 | h1
  case' inr => simp [h0, h1]
  rcases Classical.em (x.gone = y.gone) with h2 | h2 <;> simp [h0, h1, h2]
theorem sameC_iff (x y : ChgP) : sameC x y = true ↔ x = y := by
  unfold sameC
  obtain ⟨k, v, g⟩ := x
  obtain ⟨k', v', g'⟩ := y
  simp only [Bool.and_eq_true, beq_iff_eq, ChgP.mk.injEq]
  constructor
  · rintro ⟨⟨h1, h2⟩, h3⟩
    rw [ByteArray.toList_eq, ByteArray.toList_eq] at h1 h2
    refine ⟨?_, ?_, h3⟩
    · apply ByteArray.ext; exact Array.toList_inj.1 h1
    · apply ByteArray.ext; exact Array.toList_inj.1 h2
  · rintro ⟨h1, h2, h3⟩
    exact ⟨⟨by rw [h1], by rw [h2]⟩, h3⟩
theorem CRow.pick {w : World} {A : Option Addr} {n : Nat} {cs : List ChgP} (h : CRow w A n cs) {j : Nat} (hj : j < n) : ∃ b off, A = some ⟨b, off, none⟩ ∧ b < w.heap.size ∧ ∃ hl : j < cs.length, w.rangeAt b (off + j * 3) (chC cs[j]).toList := by
  have hl : j < cs.length := by rw [h.len]; exact hj
  obtain ⟨b, off, e, hb, hr⟩ := h.cells j cs[j] (List.getElem?_eq_getElem hl)
  exact ⟨b, off, e, hb, hl, hr⟩
theorem range_below {w w' : World} {b o : Nat} {vs : List Value} (h : w.rangeAt b o vs) (hb : Below w.heap.size w w') (hl : b < w.heap.size) : w'.rangeAt b o vs := fun j v hv => (Below.cell hb (p := ⟨b, o + j, none⟩) hl).trans (h j v hv)
theorem size_ch (x : ChgP) : (Try.prog.info? 53).map (·.size) = some (chC x).size := info_ch
set_option maxRecDepth 100000 in
set_option maxHeartbeats 4000000 in
theorem eqc_any (A B : Option Addr) (n m c d : Nat) (l k : List ChgP) (hn : n ≤ 9223372036854775807) (hm : m ≤ 9223372036854775807) (w : World) (h : CRow w A n l) (h2 : CRow w B m k) :
    Calls Try.prog 30 #[.slice A n c, .slice B m d] w fun e w' => Tolds (l = k) e ∧ Below w.heap.size w w' := by
  have HR := Lib.hid h
  have HR2 := Lib.hid h2
  clear h h2
  go_enter Try.func30, Try.ntmps30
  by_cases hnm : n = m
  · subst hnm
    go_wp2
    go_loopw [13] (fun z wr => ∃ j : Nat, j ≤ n ∧ z = .int .i64 j ∧ l.take j = k.take j ∧ Below w.heap.size w wr) (fun z _ => n - (intOf z).toNat)
    case atStart => exact ⟨0, Nat.zero_le _, rfl, rfl, Below.refl _ _⟩
    case round =>
      obtain ⟨j, hj, rfl, ht, hb⟩ := hrel
      have HB := Lib.hid hb
      have HT := Lib.hid ht
      clear hb ht
      by_cases hlt : j < n
      · obtain ⟨b, off, hA1, hbl, j1, hr⟩ := (HR.out.below HB.out).pick hlt
        obtain ⟨b2, off2, hA2, hbl2, j2, hr2⟩ := (HR2.out.below HB.out).pick hlt
        have HN := Lib.hid (take_snoc_eq j1 j2 HT.out)
        have HE := Lib.hid (show l[j] ≠ k[j] → l ≠ k from fun he e => he (by subst e; rfl))
        generalize l[j] = x at *
        generalize k[j] = y at *
        have hr := Lib.hid hr
        have hr2 := Lib.hid hr2
        rw [hA1, hA2]
        have hbl := Lib.hid hbl
        have hbl2 := Lib.hid hbl2
        clear j1 j2
        have HQ := Lib.hid (fun W => neq_ch x y W)
        have HY := Lib.hid (sameC_iff x y)
        go_wp2_with fail
        refine wp_region_quiet_lit (by kernel_rfl) (by kernel_rfl) ?_
        iterate 3 quiet_step (fail)
        refine wpQuiet_step (fun K hK => ?_)
        rw [if_pos (by rfl)]
        refine Who.quiet_loadA 53 (.tmp 18) rfl b (off + j * 3) (chC x) _ (by rintro _ ⟨q, rfl⟩; exact range_below hr.out (below_drewN (Below.refl wr.heap.size wr) q) hbl.out) rfl Try.underlying53 rfl (size_ch x) ?_
        refine hK _ ?_
        clear hK K
        simp only [Act.put, List.setIfInBounds_toArray, List.set_cons_zero, List.set_cons_succ]
        iterate 3 quiet_step (fail)
        refine wpQuiet_step (fun K hK => ?_)
        rw [if_pos (by rfl)]
        refine Who.quiet_loadA 53 (.tmp 22) rfl b2 (off2 + j * 3) (chC y) _ (by rintro _ ⟨q, rfl⟩; exact range_below hr2.out (below_drewN (Below.refl wr.heap.size wr) q) hbl2.out) rfl Try.underlying53 rfl (size_ch y) ?_
        refine hK _ ?_
        clear hK K
        simp only [Act.put, List.setIfInBounds_toArray, List.set_cons_zero, List.set_cons_succ]
        have hq := fun W => HQ.out W
        iterate 1 quiet_step (fail)
        refine wpQuiet_nil ?_
        intro _ hw'
        obtain ⟨nq, hw''⟩ := hw'
        subst hw''
        cases hs : sameC x y with
        | true =>
          replace HN := Lib.hid (HN.out (HY.out.1 hs))
          clear hq hs
          go_wp2
          go_roundw
          case rel => exact ⟨j + 1, by omega, by go_num, HN.out, below_drewN HB.out _⟩
          case measure => simp [intOf]; omega
        | false =>
          have HF := Lib.hid (HE.out (fun e => by have h := HY.out.2 e; rw [hs] at h; cases h))
          clear hq hs
          go_wp2
          go_ret
          exact ⟨told_f HF.out, below_drewN HB.out _⟩
      · obtain rfl : j = n := by omega
        have he : l = k := by
          have := HT.out
          rw [List.take_of_length_le (by rw [HR.out.len]; exact Nat.le_refl _), List.take_of_length_le (by rw [HR2.out.len]; exact Nat.le_refl _)] at this
          exact this
        have HF := Lib.hid he
        clear he
        go_wp2
        go_ret
        exact ⟨told_t HF.out, HB.out⟩
  · have t1 : ((n : Int) == (m : Int)) = false := beq_eq_false_iff_ne.2 (by omega)
    have he : l ≠ k := fun e => hnm (by rw [← HR.out.len, ← HR2.out.len, e])
    have HF := Lib.hid he
    clear he hnm
    go_wp2
    go_ret
    exact ⟨told_f HF.out, Below.refl _ _⟩
end Go.Proofs.Ytepnckglnciinaa.Sm
