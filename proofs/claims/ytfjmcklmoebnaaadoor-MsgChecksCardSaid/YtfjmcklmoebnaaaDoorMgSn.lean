/- The document's vector as text: what the program's is. -/
import Derived.Test.YtfjmcklmoebnaaaDoorMgTx
import Derived.Test.YtfjmcklmoebnaaaDoorMgDg
namespace Go.Proofs.YtfjmcklmoebnaaaDoor.Mg
open Go.RowKit Go.Proofs.YtfjmcklmoebnaaaDoor.Mem Go.Proofs.YtfjmcklmoebnaaaDoor.Nt
open Go.Proofs.YtfjmcklmoebnaaaDoor.Vc (vecC)
set_option linter.unusedVariables false set_option linter.unusedSimpArgs false

def moB (x : Nat → Int) (i : Nat) : Nat → Bool
  | 0 => false
  | k + 1 => moB x i k || (decide (i ≤ k) && x k != 0)
theorem moB_step {x : Nat → Int} {i k : Nat} (h : i ≤ k) : moB x i (k + 1) = (moB x i k || x k != 0) := by
  show (moB x i k || (decide (i ≤ k) && x k != 0)) = _
  rw [decide_eq_true h, Bool.true_and]
theorem moB_none {x : Nat → Int} {i : Nat} : ∀ k, k ≤ i → moB x i k = false
  | 0, _ => rfl
  | k + 1, h => by
    show (moB x i k || (decide (i ≤ k) && x k != 0)) = false
    rw [moB_none k (by omega), decide_eq_false (by omega : ¬ i ≤ k)]
    rfl
theorem moB_last {x : Nat → Int} {i : Nat} : ∀ k, moB x i k = decide (i < lastTo x k)
  | 0 => by simp [moB, lastTo]
  | k + 1 => by
    show (moB x i k || (decide (i ≤ k) && x k != 0)) = decide (i < if x k = 0 then lastTo x k else k + 1)
    rw [moB_last k]
    by_cases hx : x k = 0
    · rw [if_pos hx, hx]; simp
    · rw [if_neg hx]
      have h1 : (x k != 0) = true := by simpa using hx
      rw [h1, Bool.and_true]
      have h2 := lastTo_le x k
      by_cases hi : i ≤ k
      · simp [hi, Nat.lt_succ_of_le hi]
      · have h3 : ¬ i < lastTo x k := by omega
        have h4 : ¬ i < k + 1 := by omega
        simp [hi, h3, h4]
def upTo (x : Nat → Int) (i : Nat) : ByteArray := joinB (nums x (if i < lastTo x 8 then i else lastTo x 8)) ⟨#[44]⟩
theorem joinB_nil (sep : ByteArray) : joinB [] sep = ⟨#[]⟩ := by
  unfold joinB
  rw [List.map_nil, Lib.join_nil]
  rfl
theorem upTo_0 (x : Nat → Int) : upTo x 0 = ⟨#[]⟩ := by
  unfold upTo
  have : (if 0 < lastTo x 8 then 0 else lastTo x 8) = 0 := by split <;> omega
  rw [this]
  exact joinB_nil _
theorem upTo_8 (x : Nat → Int) : upTo x 8 = seenB x := by
  unfold upTo seenB
  have := lastTo_le x 8
  rw [if_neg (by omega)]
theorem upTo_stay {x : Nat → Int} {i : Nat} (h : ¬ i < lastTo x 8) : upTo x (i + 1) = upTo x i := by
  unfold upTo
  rw [if_neg h, if_neg (by omega)]
theorem upTo_first {x : Nat → Int} (h : 0 < lastTo x 8) : upTo x 1 = itoaB (x 0) := by
  unfold upTo
  have : (if 1 < lastTo x 8 then 1 else lastTo x 8) = 1 := by split <;> omega
  rw [this]
  exact joinB_one _ _
theorem upTo_step {x : Nat → Int} {i : Nat} (h : i < lastTo x 8) (h0 : 0 < i) : upTo x (i + 1) = upTo x i ++ ⟨#[44]⟩ ++ itoaB (x i) := by
  unfold upTo
  have : (if i + 1 < lastTo x 8 then i + 1 else lastTo x 8) = i + 1 := by split <;> omega
  rw [this, if_pos h, nums_snoc]
  exact joinB_snoc _ _ _ (fun e => by have := congrArg List.length e; rw [nums_len] at this; simp at this; omega)
theorem upTo_small {x : Nat → Int} (hx : ∀ i, i < 8 → fitI (x i)) (i : Nat) : (upTo x i).size ≤ 1000000 := by
  unfold upTo
  have h8 := lastTo_le x 8
  have h := (nums_small x hx (k := if i < lastTo x 8 then i else lastTo x 8) (by split <;> omega)).2
  show (Lib.join _ _).toArray.size ≤ _
  rw [List.size_toArray]
  exact h
structure RsI (w wr : World) (x : Nat → Int) (s : ByteArray) (i : Nat) : Prop where
  below : Below w.heap.size w wr
  is : s = upTo x i
  has : Has wr w.heap.size 25 (vecC x)
theorem RsI.step {w wr w2 : World} {x : Nat → Int} {s s2 : ByteArray} {i j : Nat} (h : RsI w wr x s i) (hb : Below wr.heap.size wr w2) (hs : s2 = upTo x j) : RsI w w2 x s2 j := ⟨h.below.trans (hb.mono h.below.size), hs, h.has.below hb⟩

set_option maxRecDepth 100000 in
set_option maxHeartbeats 2000000 in
theorem rseen_any (x : Nat → Int) (hx : ∀ i, i < 8 → fitI (x i)) (w : World) : Calls Tryd.prog 16 #[.agg (vecC x)] w fun e w' => e = .returned (.string (seenB x)) ∧ Below w.heap.size w w' := by
  have HX8 := Lib.hid hx
  have HI0 := Lib.hid (show RsI w (w.alloc (.cells (vecC x) 25)) x ⟨#[]⟩ 0 from ⟨(Below.refl w.heap.size w).alloc (Nat.le_refl _) _, (upTo_0 x).symm, Has.fresh w _ _⟩)
  clear hx
  go_enter Tryd.func16, Tryd.ntmps16
  go_wp2
  go_loopw [3, 7] (fun a i wr => ∃ j : Nat, ∃ s : ByteArray, j ≤ 8 ∧ i = .int .i64 j ∧ a = .string s ∧ Hid (RsI w wr x s j)) (fun _ i _ => 8 - (intOf i).toNat)
  case atStart => exact ⟨0, _, by omega, rfl, rfl, HI0⟩
  case round =>
    obtain ⟨j, s, hj, rfl, rfl, HI⟩ := hrel
    obtain ⟨wd, hwd⟩ : ∃ wd : World, wd = wr := ⟨_, rfl⟩
    subst hwd
    by_cases hlt : j < 8
    · have k1 : (j : Int) < 8 := by omega
      have HJ := Lib.hid hlt
      have HXA := Lib.hid (show ∀ k, k < 8 → wd.cell? ⟨w.heap.size, k, none⟩ = some (.int .i64 (x k)) from fun k hk => (HI.out.has.at_ k).trans (Vc.vecC_at x hk))
      clear hlt hj
      go_wp2
      go_loop [5, 6] (fun b k => ∃ n : Nat, ∃ v : Bool, n ≤ 8 ∧ j ≤ n ∧ k = .int .i64 n ∧ b = .bool v ∧ Hid (v = moB x j n)) (fun _ k => 8 - (intOf k).toNat)
      case atStart => exact ⟨j, false, by have := HJ.out; omega, by omega, rfl, rfl, Lib.hid (moB_none j (Nat.le_refl _)).symm⟩
      case round =>
        obtain ⟨n, v, hn, hjn, rfl, rfl, HV⟩ := hrel
        by_cases hn8 : n < 8
        · have k2 : (n : Int) < 8 := by omega
          have HN := Lib.hid hn8
          have HJN := Lib.hid hjn
          have xn := HXA.out n hn8
          have HST := Lib.hid (moB_step (x := x) hjn)
          clear hn8 hn hjn
          cases v with
          | true =>
            have HW := Lib.hid (show true = moB x j (n + 1) by rw [HST.out, ← HV.out]; rfl)
            go_wp2
            go_round
            case rel => exact ⟨n + 1, true, by have := HN.out; omega, by have := HJN.out; omega, by go_num, rfl, HW⟩
            case measure => have := HN.out; simp [intOf]; omega
          | false =>
            by_cases hz : x n = 0
            · have HW := Lib.hid (show false = moB x j (n + 1) by rw [HST.out, ← HV.out, hz]; rfl)
              rw [hz] at xn
              clear hz
              go_wp2
              go_round
              case rel => exact ⟨n + 1, false, by have := HN.out; omega, by have := HJN.out; omega, by go_num, rfl, HW⟩
              case measure => have := HN.out; simp [intOf]; omega
            · have hz2 : (x n == 0) = false := beq_eq_false_iff_ne.2 hz
              have HW := Lib.hid (show true = moB x j (n + 1) by rw [HST.out, ← HV.out]; simpa using hz)
              have HZ := Lib.hid (show (x n != 0) = true by simpa using hz)
              go_wp2
              go_round
              case rel => exact ⟨n + 1, true, by have := HN.out; omega, by have := HJN.out; omega, by go_num, by rw [HZ.out], HW⟩
              case measure => have := HN.out; simp [intOf]; omega
        · obtain rfl : n = 8 := by omega
          have HL := Lib.hid (show v = decide (j < lastTo x 8) by rw [HV.out, moB_last])
          have HD := Lib.hid (fun W => digits_any (x j) (HX8.out j HJ.out) W)
          have xj := HXA.out j HJ.out
          have s1 := itoaB_size (HX8.out j HJ.out)
          have s2 : s.size ≤ 1000000 := by rw [HI.out.is]; exact upTo_small HX8.out j
          have z1 : (⟨#[44]⟩ : ByteArray).size = 1 := rfl
          clear hn hjn HV
          cases v with
          | false =>
            have HQ := Lib.hid (show RsI w wd x s (j + 1) from HI.out.step (Below.refl _ _) (by rw [upTo_stay (of_decide_eq_false HL.out.symm), HI.out.is]))
            clear s1 s2 z1 xj
            go_wp2
            go_roundw
            case rel => exact ⟨j + 1, _, by have := HJ.out; omega, by go_num, rfl, HQ⟩
            case measure => have := HJ.out; simp [intOf]; omega
          | true =>
            have hL : j < lastTo x 8 := of_decide_eq_true HL.out.symm
            by_cases hj0 : 0 < j
            · have k3 : (0 : Int) < j := by omega
              have a1 := fun W => run_string_add_sum (P := Tryd.prog) W s ⟨#[44]⟩ (by omega)
              have a2 := fun W => run_string_add_sum (P := Tryd.prog) W (s ++ ⟨#[44]⟩) (itoaB (x j)) (by rw [ByteArray.size_append]; omega)
              have HQ := Lib.hid (fun w2 (hb : Below wd.heap.size wd w2) => show RsI w w2 x (s ++ ⟨#[44]⟩ ++ itoaB (x j)) (j + 1) from HI.out.step hb (by rw [upTo_step hL hj0, HI.out.is]))
              clear s1 s2 z1 hL hj0
              go_wp2_with fail
              refine (HD.out _).mono ?_
              rintro e w2 ⟨rfl, hb⟩
              have HR := Lib.hid (HQ.out w2 hb)
              clear hb xj
              go_wp2
              go_roundw
              case rel => exact ⟨j + 1, _, by have := HJ.out; omega, by go_num, rfl, HR⟩
              case measure => have := HJ.out; simp [intOf]; omega
            · obtain rfl : j = 0 := by omega
              have a2 := fun W => run_string_add_sum (P := Tryd.prog) W s (itoaB (x 0)) (by omega)
              have HQ := Lib.hid (fun w2 (hb : Below wd.heap.size wd w2) => show RsI w w2 x (s ++ itoaB (x 0)) 1 from HI.out.step hb (by rw [upTo_first hL, HI.out.is, upTo_0]; exact ByteArray.empty_append))
              clear s1 s2 z1 hL hj0
              go_wp2_with fail
              refine (HD.out _).mono ?_
              rintro e w2 ⟨rfl, hb⟩
              have HR := Lib.hid (HQ.out w2 hb)
              clear hb xj
              go_wp2
              go_roundw
              case rel => exact ⟨1, _, by omega, by go_num, rfl, HR⟩
              case measure => simp [intOf]
    · obtain rfl : j = 8 := by omega
      have HS := Lib.hid HI.out.is
      have HB := Lib.hid HI.out.below
      go_wp2
      go_ret
      exact ⟨by rw [show seenB x = upTo x 8 from (upTo_8 x).symm, ← HS.out]; rfl, HB.out⟩
end Go.Proofs.YtfjmcklmoebnaaaDoor.Mg
