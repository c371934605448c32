/- Which parts are sent at once: the program's answer, and the document's. -/
import Derived.Test.YtepnckglnciinaaSmA
namespace Go.Proofs.Ytepnckglnciinaa.Sm
open Go.RowKit Go.Proofs.Ytepnckglnciinaa.Mem
set_option linter.unusedVariables false

def rangeL (f : Int) (n : Nat) : List Int := (List.range n).map fun (k : Nat) => f + (k : Int)
theorem rangeL_len (f : Int) (n : Nat) : (rangeL f n).length = n := by simp [rangeL]
theorem rangeL_snoc (f : Int) (n : Nat) : rangeL f (n + 1) = rangeL f n ++ [f + (n : Int)] := by simp [rangeL, List.range_succ]
def winN (f t : Int) : Nat := if 0 ≤ f ∧ f < t then min (4 - f % 4).toNat (t - f).toNat else 0
def winL (f t : Int) : List Int := rangeL f (winN f t)
theorem winN_low {f t : Int} (h : f < 0) : winN f t = 0 := by unfold winN; rw [if_neg (by omega)]
theorem winN_end {f t : Int} {j : Nat} (h0 : 0 ≤ f) (h1 : f % 4 + j ≤ 3) (h2 : j = 0 ∨ f + j ≤ t) (h3 : ¬ f + j < t) : winN f t = j := by
  unfold winN
  by_cases h : f < t
  · rw [if_pos ⟨h0, h⟩]
    omega
  · rw [if_neg (by omega)]
    omega
theorem winN_cut {f t : Int} {j : Nat} (h0 : 0 ≤ f) (h1 : f % 4 + j ≤ 3) (h3 : f + j < t) (h4 : (f + j) % 4 = 3) : winN f t = j + 1 := by
  unfold winN
  rw [if_pos ⟨h0, by omega⟩]
  omega
theorem winN_le (f t : Int) : winN f t ≤ 4 := by
  unfold winN
  split
  · have := Int.emod_nonneg f (show (4 : Int) ≠ 0 by decide)
    omega
  · omega
def WinIs (w : World) (l : List Int) (e : Ending) (w' : World) : Prop := ∃ u, e = .returned u ∧ OwnI w' w.heap.size u l ∧ Below w.heap.size w w'
structure WinI (w wr : World) (f : Int) (u : Value) (j : Nat) : Prop where
  row : wr.ownsRow w.heap.size 3 1 u j ((rangeL f j).map (Value.int .i64))
  below : Below w.heap.size w wr
theorem WinI.out {w wr : World} {f : Int} {u : Value} {j : Nat} (h : WinI w wr f u j) : OwnI wr w.heap.size u (rangeL f j) := by
  unfold OwnI
  rw [rangeL_len]
  exact h.row
theorem WinI.step {w wr w' : World} {f : Int} {u : Value} {j g' cap : Nat} (h : WinI w wr f u j) (x : Value)
    (ho : w'.ownsRow w.heap.size 3 1 (.slice (some ⟨g', 0, none⟩) (j + 1) cap) (j + 1) ((rangeL f j).map (Value.int .i64) ++ [.int .i64 (f + j)])) (hg2 : (wr.alloc (.cells #[x] 3)).grownBy w' u.ownBlock) : WinI w w' f (.slice (some ⟨g', 0, none⟩) (j + 1) cap) (j + 1) := by
  refine ⟨?_, (h.below.alloc h.below.size (.cells #[x] 3)).grown hg2 (Nat.le_trans h.below.size (by simp)) (fun q hq => (World.ownsRow.lt h.row q hq).1)⟩
  rw [rangeL_snoc, List.map_append]
  exact ho
set_option maxRecDepth 100000 in
set_option maxHeartbeats 4000000 in
theorem window_any (f t : Int) (hf : -9223372036854775808 ≤ f ∧ f ≤ 9223372036854775807) (ht : -9223372036854775808 ≤ t ∧ t ≤ 9223372036854775807) (w : World) : Calls Try.prog 15 #[.int .i64 f, .int .i64 t] w (WinIs w (winL f t)) := by
  obtain ⟨i0, hi, hz0, hz1, hz2⟩ := info_parts info_i
  have HII := Lib.hid (And.intro hi (And.intro hz0 (And.intro hz1 hz2)))
  clear hi hz0 hz1 hz2
  go_enter Try.func15, Try.ntmps15
  by_cases h0 : f < 0
  · have HW := Lib.hid (show winL f t = [] by unfold winL; rw [winN_low h0]; rfl)
    go_wp2
    go_ret
    exact ⟨_, rfl, by rw [HW.out]; exact own1_nil _ _ _, Below.refl _ _⟩
  · have H0 := Lib.hid (show 0 ≤ f by omega)
    have HT := Lib.hid ht
    have HF := Lib.hid hf
    go_wp2
    go_loopw [5, 6] (fun s i wr => ∃ j : Nat, ∃ u : Value, j ≤ 3 ∧ i = .int .i64 (f + (j : Int)) ∧ s = u ∧ Hid (f % 4 + (j : Int) ≤ 3 ∧ (j = 0 ∨ f + (j : Int) ≤ t)) ∧ Hid (WinI w wr f u j)) (fun _ i _ => (t - intOf i).toNat)
    case atStart => exact ⟨0, _, by omega, by simp, rfl, Lib.hid ⟨by have := Int.emod_lt_of_pos f (show (0 : Int) < 4 by decide); omega, .inl rfl⟩, Lib.hid ⟨own1_nil _ _ _, Below.refl _ _⟩⟩
    case round =>
      obtain ⟨j, u, hj, rfl, rfl, HJ, HI⟩ := hrel
      obtain ⟨Au, cu, rfl⟩ := own1_sl HI.out.row
      by_cases hlt : f + (j : Int) < t
      · have HLT := Lib.hid hlt
        have HO := Lib.hid HI.out.row
        have HS := Lib.hid (show w.heap.size ≤ (wr.alloc (.cells #[.int .i64 (f + (j : Int))] 3)).heap.size from Nat.le_trans HI.out.below.size (by simp))
        have a1 : IntKind.i64.wrap (f + (j : Int) + 1) = f + (j : Int) + 1 := by rw [IntKind.wrap_i64]; have := HT.out; have := H0.out; omega
        have hmod : (f + (j : Int)).tmod 4 = (f + (j : Int)) % 4 := Int.tmod_eq_emod_of_nonneg (by have := H0.out; omega)
        clear hf ht
        by_cases h3 : (f + (j : Int)) % 4 = 3
        · have HE := Lib.hid (show winL f t = rangeL f (j + 1) by unfold winL; rw [winN_cut H0.out HJ.out.1 HLT.out (by omega)])
          go_wp2_with (at_builtin; refine wpList_append_lies _ rfl (.tmp 15) (.tmp 17) 29 rfl w.heap.size 3 i0 (.int .i64 0) 1 8 Try.underlying29 HII.out.1 HII.out.2.1 HII.out.2.2.1 HII.out.2.2.2 rfl (by decide) (.slice Au j cu) j ((rangeL f j).map (Value.int .i64)) rfl (World.ownsRow.alloc HO.out _) ⟨wr.heap.size, 0, none⟩ 1 1 [.int .i64 (f + (j : Int))] rfl rfl ?c1 ?c2 (by decide) (by unfold maxLen; omega) (by omega) HS.out _ rfl ?_)
          case c1 => exact World.news_of_block (Has.fresh wr 3 #[.int .i64 (f + (j : Int))])
          case c2 => exact fun u hu => by simp at hu; subst hu; rfl
          intro g' cap w1 ho hg2 hor hlt2
          have HQ := Lib.hid (WinI.step HI.out _ ho hg2)
          clear ho hg2 hor hlt2
          go_wp2
          go_ret
          exact ⟨_, rfl, by rw [HE.out]; exact HQ.out.out, HQ.out.below⟩
        · have HM := Lib.hid (show f % 4 + ((j + 1 : Nat) : Int) ≤ 3 by have := HJ.out.1; omega)
          go_wp2_with (at_builtin; refine wpList_append_lies _ rfl (.tmp 15) (.tmp 17) 29 rfl w.heap.size 3 i0 (.int .i64 0) 1 8 Try.underlying29 HII.out.1 HII.out.2.1 HII.out.2.2.1 HII.out.2.2.2 rfl (by decide) (.slice Au j cu) j ((rangeL f j).map (Value.int .i64)) rfl (World.ownsRow.alloc HO.out _) ⟨wr.heap.size, 0, none⟩ 1 1 [.int .i64 (f + (j : Int))] rfl rfl ?c1 ?c2 (by decide) (by unfold maxLen; omega) (by omega) HS.out _ rfl ?_)
          case c1 => exact World.news_of_block (Has.fresh wr 3 #[.int .i64 (f + (j : Int))])
          case c2 => exact fun u hu => by simp at hu; subst hu; rfl
          intro g' cap w1 ho hg2 hor hlt2
          have HQ := Lib.hid (WinI.step HI.out _ ho hg2)
          clear ho hg2 hor hlt2
          go_wp2
          go_roundw
          case rel => exact ⟨j + 1, _, by have := HM.out; have := Int.emod_nonneg f (show (4 : Int) ≠ 0 by decide); omega, by simp; omega, rfl, Lib.hid ⟨HM.out, .inr (by have := HLT.out; omega)⟩, HQ⟩
          case measure => have := HLT.out; simp [intOf]; omega
      · have HE := Lib.hid (show winL f t = rangeL f j by unfold winL; rw [winN_end H0.out HJ.out.1 HJ.out.2 hlt])
        go_wp2
        go_ret
        exact ⟨_, rfl, by rw [HE.out]; exact HI.out.out, HI.out.below⟩
end Go.Proofs.Ytepnckglnciinaa.Sm
