/- NamesWithin, walked. -/
import Derived.Test.YtlmgikgpmcdakaaDoorNmL
import Derived.Deep.QuietTactic
namespace Go.Proofs.YtlmgikgpmcdakaaDoor.Nm
open Go.RowKit Go.Proofs.YtlmgikgpmcdakaaDoor.Mem Go.Proofs.YtlmgikgpmcdakaaDoor.Rws

theorem txt_same {x y : ByteArray} (h : x = y) : (x.toList == y.toList) = true := by subst h; simp
def okB (l top : List ByteArray) (k : Nat) : Bool := decide (top.length ≤ l.length) && decide (l.take k = top.take k)
theorem okB_end (l top : List ByteArray) : okB l top top.length = withinB l top := by unfold okB withinB; rw [List.take_length]
theorem okB_off (l top : List ByteArray) (k : Nat) (h : okB l top k = false) : okB l top (k + 1) = false := by
  unfold okB at *
  by_cases h1 : top.length ≤ l.length
  · rw [decide_eq_true h1] at h ⊢
    simp only [Bool.true_and, decide_eq_false_iff_not] at h ⊢
    intro e
    apply h
    have := congrArg (List.take k) e
    rw [List.take_take, List.take_take] at this
    rwa [Nat.min_eq_left (by omega)] at this
  · rw [decide_eq_false h1]; rfl
theorem okB_on (l top : List ByteArray) (k : Nat) (hk : k < top.length) (h : okB l top k = true) : ∃ hl : k < l.length, okB l top (k + 1) = decide (l[k] = top[k]) := by
  unfold okB at *
  rw [Bool.and_eq_true] at h
  have h1 := of_decide_eq_true h.1
  have h2 := of_decide_eq_true h.2
  refine ⟨by omega, ?_⟩
  rw [decide_eq_true h1, List.take_succ_eq_append_getElem (by omega : k < l.length), List.take_succ_eq_append_getElem hk, h2, Bool.true_and]
  by_cases e : l[k] = top[k]
  · rw [e, decide_eq_true rfl, decide_eq_true rfl]
  · rw [decide_eq_false e, decide_eq_false]
    intro h
    have := List.append_cancel_left h
    injection this with h _
    exact e h
set_option maxHeartbeats 2000000 in
theorem within_walk (W : World) (A : Option Addr) (n c : Nat) (l : List ByteArray) (B : Option Addr) (m d : Nat) (k : List ByteArray)
    (h : TxtRow W A n l) (_ : A = none → n = 0 ∧ c = 0) (hnc : n ≤ c) (hcm : c ≤ maxLen) (_ : ∀ x ∈ l, x.size ≤ maxLen)
    (h2 : TxtRow W B m k) (_ : B = none → m = 0 ∧ d = 0) (hmd : m ≤ d) (hdm : d ≤ maxLen) (_ : ∀ x ∈ k, x.size ≤ maxLen) (hT : Tabs W) :
    Calls Tryd.prog 5 #[.slice A n c, .slice B m d] W fun e w' => e = .returned (.bool true) ∧ Below W.heap.size W w' := by
  have hm : m ≤ 9223372036854775807 := Nat.le_trans hmd hdm
  have hn : n ≤ 9223372036854775807 := Nat.le_trans hnc hcm
  have S1 := Lib.hid (short_any A n c l hn W h)
  have S2 := Lib.hid (short_any B m d k hm W h2)
  have AW := Lib.hid (awake_true W hT)
  have WA := Lib.hid (within_any A B n m c d l k hnc hm W h h2)
  have AW2 := Lib.hid (fun w h => awake_true w h)
  have HT := Lib.hid hT
  cases hs1 : shortB l with
  | false =>
    rw [hs1] at S1
    clear hT
    go_enter Tryd.func5, Tryd.ntmps5
    go_wp2_with fail
    refine S1.out.mono ?_
    rintro e w1 ⟨rfl, hw⟩
    rw [hw]
    go_wp2_with fail
    refine AW.out.mono ?_
    rintro e w2 ⟨rfl, hb⟩
    go_wp2
    go_ret
    exact ⟨rfl, hb⟩
  | true =>
    cases hs2 : shortB k with
    | false =>
      rw [hs1] at S1
      rw [hs2] at S2
      clear hT
      go_enter Tryd.func5, Tryd.ntmps5
      go_wp2_with fail
      refine S1.out.mono ?_
      rintro e w1 ⟨rfl, hw⟩
      rw [hw]
      go_wp2_with fail
      refine S2.out.mono ?_
      rintro e w1 ⟨rfl, hw⟩
      rw [hw]
      go_wp2_with fail
      refine AW.out.mono ?_
      rintro e w2 ⟨rfl, hb⟩
      go_wp2
      go_ret
      exact ⟨rfl, hb⟩
    | true =>
      rw [hs1] at S1
      rw [hs2] at S2
      clear hT
      have hl := h.1
      have hk := h2.1
      go_enter Tryd.func5, Tryd.ntmps5
      go_wp2_with fail
      refine S1.out.mono ?_
      rintro e w1 ⟨rfl, hw⟩
      rw [hw]
      go_wp2_with fail
      refine S2.out.mono ?_
      rintro e w1 ⟨rfl, hw⟩
      rw [hw]
      go_wp2_with fail
      have ho : (Value.bool (decide (m ≤ n))) = .bool (okB l k 0) := by unfold okB; rw [hl, hk]; simp
      rw [ho]
      have hst := Below.refl W.heap.size W
      clear S1 S2 AW WA ho
      go_loopw [5, 23] (fun o i wr => ∃ j : Nat, i = .int .i64 j ∧ j ≤ m ∧ o = .bool (okB l k j) ∧ Below W.heap.size W wr) (fun _ i _ => m - (intOf i).toNat)
      case atStart => exact ⟨0, rfl, by omega, rfl, hst⟩
      case round =>
        obtain ⟨j, rfl, hj, rfl, hbw⟩ := hrel
        have HBW := Lib.hid hbw
        replace h := h.below hbw
        replace h2 := h2.below hbw
        clear hbw
        by_cases hlt : j < m
        · cases ho : okB l k j with
          | false =>
            have HO := Lib.hid (okB_off l k j ho)
            go_wp2_with fail
            go_quiet (fail)
            go_wp2_with fail
            go_roundw
            case rel => exact ⟨j + 1, by go_num, by omega, by rw [HO.out], below_drewN HBW.out _⟩
            case measure => simp [intOf]; omega
          | true =>
            obtain ⟨hjl, hon⟩ := okB_on l k j (by omega) ho
            obtain ⟨b, off, rfl, hc⟩ := short_cell h j hjl
            obtain ⟨b2, off2, rfl, hc2⟩ := short_cell h2 j (by omega)
            have hjn : j < n := by omega
            have hji : (j : Int) < n := by omega
            have HON := Lib.hid hon
            clear hon
            generalize l[j] = x at *
            generalize k[j]'(by omega) = y at *
            by_cases hxy : x = y
            · have hq := txt_same hxy
              have HO := Lib.hid (HON.out.trans (decide_eq_true hxy))
              clear hxy
              go_wp2_with fail
              go_quiet (fail)
              go_wp2_with fail
              go_roundw
              case rel => exact ⟨j + 1, by go_num, by omega, by rw [HO.out], below_drewN HBW.out _⟩
              case measure => simp [intOf]; omega
            · have hq := txt_other hxy
              have HO := Lib.hid (HON.out.trans (decide_eq_false hxy))
              clear hxy
              go_wp2_with fail
              go_quiet (fail)
              go_wp2_with fail
              go_roundw
              case rel => exact ⟨j + 1, by go_num, by omega, by rw [HO.out], below_drewN HBW.out _⟩
              case measure => simp [intOf]; omega
        · obtain rfl : j = m := by omega
          have hr : okB l k j = withinB l k := by rw [← hk]; exact okB_end l k
          rw [hr]
          have WA := Lib.hid (within_any A B n j c d l k hnc hm _ h h2)
          generalize withinB l k = b at *
          go_wp2_with fail
          refine WA.out.mono ?_
          rintro e w1 ⟨rfl, q2, hw⟩
          have hb1 := below_drewN HBW.out q2
          subst hw
          go_wp2_with fail
          refine (AW2.out _ (HT.out.self hb1)).mono ?_
          rintro e w2 ⟨rfl, hb⟩
          go_wp2
          go_ret
          exact ⟨rfl, hb1.trans (hb.mono hb1.size)⟩
end Go.Proofs.YtlmgikgpmcdakaaDoor.Nm
