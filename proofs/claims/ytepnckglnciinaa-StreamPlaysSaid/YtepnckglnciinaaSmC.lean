/- Which parts are sent at once: the document's answer. -/
import Derived.Test.YtepnckglnciinaaSmB
namespace Go.Proofs.Ytepnckglnciinaa.Sm
open Go.RowKit Go.Proofs.Ytepnckglnciinaa.Mem
set_option linter.unusedVariables false

theorem winN_on {f t : Int} {k : Nat} (h0 : 0 ≤ f) (h1 : f < t) (h2 : (k : Int) < t - f) (h3 : f % 4 + (k : Int) < 4) : k < winN f t := by
  unfold winN
  rw [if_pos ⟨h0, h1⟩]
  omega
theorem winN_off {f t : Int} {k : Nat} (h : ¬ (0 ≤ f ∧ f < t ∧ (k : Int) < t - f ∧ f % 4 + (k : Int) < 4)) : winN f t ≤ k := by
  unfold winN
  by_cases h0 : 0 ≤ f ∧ f < t
  · rw [if_pos h0]
    have := Int.emod_nonneg f (show (4 : Int) ≠ 0 by decide)
    omega
  · rw [if_neg h0]
    omega
set_option maxRecDepth 100000 in
set_option maxHeartbeats 4000000 in
theorem rwindow_any (f t : Int) (hf : -9223372036854775808 ≤ f ∧ f ≤ 9223372036854775807) (ht : -9223372036854775808 ≤ t ∧ t ≤ 9223372036854775807) (w : World) : Calls Try.prog 16 #[.int .i64 f, .int .i64 t] w (WinIs w (winL f t)) := by
  obtain ⟨i0, hi, hz0, hz1, hz2⟩ := info_parts info_i
  have HII := Lib.hid (And.intro hi (And.intro hz0 (And.intro hz1 hz2)))
  have HT := Lib.hid ht
  have HF := Lib.hid hf
  clear hi hz0 hz1 hz2 ht hf
  go_enter Try.func16, Try.ntmps16
  go_wp2
  go_loopw [5, 7] (fun s i wr => ∃ k : Nat, ∃ u : Value, k ≤ 4 ∧ i = .int .i64 (k : Int) ∧ s = u ∧ Hid (WinI w wr f u (min k (winN f t)))) (fun _ i _ => 4 - (intOf i).toNat)
  case atStart => exact ⟨0, _, by omega, rfl, rfl, Lib.hid (by rw [Nat.zero_min]; exact ⟨own1_nil _ _ _, Below.refl _ _⟩)⟩
  case round =>
    obtain ⟨k, u, hk, rfl, rfl, HI⟩ := hrel
    obtain ⟨j, hj⟩ : ∃ j, j = min k (winN f t) := ⟨_, rfl⟩
    rw [← hj] at HI
    have HJ := Lib.hid hj
    clear hj
    obtain ⟨Au, cu, rfl⟩ := own1_sl HI.out.row
    by_cases hlt : k < 4
    · have HLT := Lib.hid hlt
      have hlti : (k : Int) < 4 := by omega
      have no : ∀ (h : ¬ (0 ≤ f ∧ f < t ∧ (k : Int) < t - f ∧ f % 4 + (k : Int) < 4)), Hid (WinI w wr f (.slice Au j cu) (min (k + 1) (winN f t))) := fun h => Lib.hid (by
        have h1 := winN_off h
        have h2 := HJ.out
        rw [show min (k + 1) (winN f t) = j by omega]
        exact HI.out)
      have NO := Lib.hid no
      clear no
      have SKIP : True := trivial
      by_cases h0 : 0 ≤ f
      · by_cases h1 : f < t
        · have a1 : IntKind.i64.wrap (t - f) = t - f := by rw [IntKind.wrap_i64]; have := HT.out; omega
          have hmod : f.tmod 4 = f % 4 := Int.tmod_eq_emod_of_nonneg h0
          by_cases h2 : (k : Int) < t - f
          · have a2 : IntKind.i64.wrap (f + (k : Int)) = f + (k : Int) := by rw [IntKind.wrap_i64]; have := HT.out; omega
            have a3 : IntKind.i64.wrap (f % 4 + (k : Int)) = f % 4 + (k : Int) := by rw [IntKind.wrap_i64]; have := Int.emod_nonneg f (show (4 : Int) ≠ 0 by decide); have := Int.emod_lt_of_pos f (show (0 : Int) < 4 by decide); omega
            by_cases h3 : f % 4 + (k : Int) < 4
            · have hw := winN_on h0 h1 h2 (by omega)
              have hjk : j = k := by have := HJ.out; omega
              subst hjk
              have HW := Lib.hid hw
              have HO := Lib.hid HI.out.row
              have HS := Lib.hid (show w.heap.size ≤ (wr.alloc (.cells #[.int .i64 (f + (j : Int))] 3)).heap.size from Nat.le_trans HI.out.below.size (by simp))
              clear hw
              go_wp2_with (at_builtin; refine wpList_append_lies _ rfl (.tmp 31) (.tmp 35) 29 rfl w.heap.size 3 i0 (.int .i64 0) 1 8 Try.underlying29 HII.out.1 HII.out.2.1 HII.out.2.2.1 HII.out.2.2.2 rfl (by decide) (.slice Au j cu) j ((rangeL f j).map (Value.int .i64)) rfl (World.ownsRow.alloc HO.out _) ⟨wr.heap.size, 0, none⟩ 1 1 [.int .i64 (f + (j : Int))] rfl rfl ?c1 ?c2 (by decide) (by unfold maxLen; omega) (by omega) HS.out _ rfl ?_)
              case c1 => exact World.news_of_block (Has.fresh wr 3 #[.int .i64 (f + (j : Int))])
              case c2 => exact fun u hu => by simp at hu; subst hu; rfl
              intro g' cap w1 ho hg2 hor hlt2
              have HQ := Lib.hid (WinI.step HI.out _ ho hg2)
              clear ho hg2 hor hlt2
              go_wp2
              go_roundw
              case rel => exact ⟨j + 1, _, HLT.out, by go_num, rfl, Lib.hid (by have h1 := HW.out; rw [show min (j + 1) (winN f t) = j + 1 by omega]; exact HQ.out)⟩
              case measure => have := HLT.out; simp [intOf]; omega
            · have HN := NO.out (by omega)
              go_wp2
              go_roundw
              case rel => exact ⟨k + 1, _, HLT.out, by go_num, rfl, HN⟩
              case measure => have := HLT.out; simp [intOf]; omega
          · have HN := NO.out (by omega)
            go_wp2
            go_roundw
            case rel => exact ⟨k + 1, _, HLT.out, by go_num, rfl, HN⟩
            case measure => have := HLT.out; simp [intOf]; omega
        · have HN := NO.out (by omega)
          go_wp2
          go_roundw
          case rel => exact ⟨k + 1, _, HLT.out, by go_num, rfl, HN⟩
          case measure => have := HLT.out; simp [intOf]; omega
      · have HN := NO.out (by omega)
        go_wp2
        go_roundw
        case rel => exact ⟨k + 1, _, HLT.out, by go_num, rfl, HN⟩
        case measure => have := HLT.out; simp [intOf]; omega
    · have hlti : ¬ (k : Int) < 4 := by omega
      have HE := Lib.hid (show winL f t = rangeL f j by unfold winL; have h1 := winN_le f t; have h2 := HJ.out; rw [show j = winN f t by omega])
      go_wp2
      go_ret
      exact ⟨_, rfl, by rw [HE.out]; exact HI.out.out, HI.out.below⟩
end Go.Proofs.Ytepnckglnciinaa.Sm
