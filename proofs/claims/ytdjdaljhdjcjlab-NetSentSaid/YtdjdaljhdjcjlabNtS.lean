/- slices.Index and slices.Contains of messages. -/
import Derived.Test.YtdjdaljhdjcjlabNtM
namespace Go.Proofs.Ytdjdaljhdjcjlab.Nt
open Go.RowKit Go.Proofs.Ytdjdaljhdjcjlab.Mem Go.Proofs.Ytdjdaljhdjcjlab.Vc
set_option linter.unusedVariables false

def IndexIs (ms : List MsgP) (m : MsgP) (w : World) (e : Ending) (w' : World) : Prop := ∃ k : Int, e = .returned (.int .i64 k) ∧ (0 ≤ k ↔ ∃ x ∈ ms, sameM m x = true) ∧ Below w.heap.size w w'
set_option maxRecDepth 100000 in
set_option maxHeartbeats 4000000 in
theorem index_any (B : Nat) (v : Value) (ms : List MsgP) (m : MsgP) (w : World) (h : MOwn w B v ms) (hl : ms.length ≤ 100000) : Calls Try.prog 20 #[v, .agg (msgC m)] w (IndexIs ms m w) := by
  obtain ⟨A, c, rfl, hsl⟩ := h.sl
  have HSL := Lib.hid hsl
  have HB0 := Lib.hid ((Below.refl w.heap.size w).alloc (Nat.le_refl _) (.cells (msgC m) 33))
  have HM0 := Lib.hid (Has.fresh w 33 (msgC m))
  obtain ⟨n, hn⟩ : ∃ n, n = ms.length := ⟨_, rfl⟩
  rw [← hn]
  have HN := Lib.hid hn
  have hn1 : n ≤ 100000 := by omega
  clear h hsl hn hl
  go_enter Try.func20, Try.ntmps20
  go_wp2
  go_loopw [8] (fun i wr => ∃ j : Nat, j ≤ n ∧ i = .int .i64 j ∧ Hid (∀ q x, q < j → ms[q]? = some x → sameM m x = false) ∧ Hid (Has wr w.heap.size 33 (msgC m)) ∧ Hid (Below w.heap.size w wr)) (fun i _ => n - (intOf i).toNat)
  case atStart => exact ⟨0, by omega, rfl, Lib.hid (fun q x h => absurd h (by omega)), HM0, HB0⟩
  case round =>
    obtain ⟨j, hj, rfl, HF, HM, HB⟩ := hrel
    by_cases hlt : j < n
    · have hlti : (j : Int) < n := by omega
      have HLT := Lib.hid (show j + 1 ≤ n from hlt)
      obtain ⟨x, hx⟩ : ∃ x, ms[j]? = some x := ⟨_, List.getElem?_eq_getElem (by rw [← HN.out]; exact hlt)⟩
      obtain ⟨b, rfl, hb, _, _, hr⟩ := HSL.out j x hx
      have HR := Lib.hid (show wr.rangeAt b (j * 19) (msgC x).toList from fun i u hu => (Below.cell HB.out (p := ⟨b, j * 19 + i, none⟩) hb).trans (hr i u hu))
      have HX := Lib.hid hx
      clear hr hx hb
      go_wp2
      refine wp_region_held_drew (S := fun w' => Has w' w.heap.size 33 (msgC m) ∧ w'.rangeAt b (j * 19) (msgC x).toList) (by kernel_rfl) (by exact ⟨HM.out, HR.out⟩) (fun hHeld => ?_)
      refine Vc.wpAnyH_read (i := 0) (d := some 11) (v := (.agg (msgC m))) (by rfl) (by rfl) (by kernel_rfl) (by kernel_rfl) (by kernel_rfl) (fun _ _ _ h => h) (by rfl) ?hy0 (by assumption) ?rest0
      case hy0 =>
        intro w' hSw
        exact Who.exec_loadA _ rfl rfl (Who.has_range hSw.1) Try.underlying33 rfl (info_size m)
      (try simp only [Act.put, List.setIfInBounds_toArray, List.set_cons_zero, List.set_cons_succ])
      refine Vc.wpAnyH_read (i := 1) (d := some 12) (v := ?v1) (by rfl) (by rfl) (by kernel_rfl) (by kernel_rfl) (by kernel_rfl) (fun _ _ _ h => h) (by rfl) ?hy1 (by assumption) ?rest1
      case hy1 =>
        intro w' hSw
        try dsimp only at hSw
        go_simp
        try with_reducible rfl
      (try simp only [Act.put, List.setIfInBounds_toArray, List.set_cons_zero, List.set_cons_succ])
      refine Vc.wpAnyH_read (i := 2) (d := some 13) (v := ?v2) (by rfl) (by rfl) (by kernel_rfl) (by kernel_rfl) (by kernel_rfl) (fun _ _ _ h => h) (by rfl) ?hy2 (by assumption) ?rest2
      case hy2 =>
        intro w' hSw
        try dsimp only at hSw
        go_simp
        try with_reducible rfl
      (try simp only [Act.put, List.setIfInBounds_toArray, List.set_cons_zero, List.set_cons_succ])
      refine Vc.wpAnyH_read (i := 3) (d := some 14) (v := ?v3) (by rfl) (by rfl) (by kernel_rfl) (by kernel_rfl) (by kernel_rfl) (fun _ _ _ h => h) (by rfl) ?hy3 (by assumption) ?rest3
      case hy3 =>
        intro w' hSw
        try dsimp only at hSw
        go_simp
        try with_reducible rfl
      (try simp only [Act.put, List.setIfInBounds_toArray, List.set_cons_zero, List.set_cons_succ])
      refine Vc.wpAnyH_read (i := 4) (d := some 15) (v := (.agg (msgC x))) (by rfl) (by rfl) (by kernel_rfl) (by kernel_rfl) (by kernel_rfl) (fun _ _ _ h => h) (by rfl) ?hy4 (by assumption) ?rest4
      case hy4 =>
        intro w' hSw
        exact Who.exec_loadA _ rfl rfl hSw.2 Try.underlying33 rfl (info_size x)
      (try simp only [Act.put, List.setIfInBounds_toArray, List.set_cons_zero, List.set_cons_succ])
      refine Vc.wpAnyH_read (i := 5) (d := some 16) (v := (.bool (sameM m x))) (by rfl) (by rfl) (by kernel_rfl) (by kernel_rfl) (by kernel_rfl) (fun _ _ _ h => h) (by rfl) ?hy5 (by assumption) ?rest5
      case hy5 =>
        intro w' hSw
        have hq := eql_msg m x
        go_simp
        try rw [hq]
        try rfl
      (try simp only [Act.put, List.setIfInBounds_toArray, List.set_cons_zero, List.set_cons_succ])
      refine wpAnyH_done (by kernel_rfl) ?_ _
      cases hs : sameM m x with
      | true =>
        have HS := Lib.hid hs
        clear hs
        go_wp2
        go_ret
        exact ⟨(j : Int), rfl, ⟨fun _ => ⟨x, List.mem_of_getElem? HX.out, HS.out⟩, fun _ => by omega⟩, HB.out.drew⟩
      | false =>
        have HS := Lib.hid hs
        clear hs
        go_wp2
        go_roundw
        case rel => exact ⟨j + 1, HLT.out, by go_num, Lib.hid (fun q y hq hy => by
          by_cases e : q = j
          · subst e
            have e2 := HX.out.symm.trans hy
            injection e2 with e2
            rw [← e2]
            exact HS.out
          · exact HF.out q y (by omega) hy), Lib.hid HM.out.drew, Lib.hid HB.out.drew⟩
        case measure => have := HLT.out; simp [intOf]; omega
    · have hlti : ¬ (j : Int) < n := by omega
      obtain rfl : j = n := by omega
      go_wp2
      go_ret
      exact ⟨-1, rfl, ⟨fun h => absurd h (by decide), fun ⟨x, hx, hs⟩ => by
        obtain ⟨q, hq⟩ := List.getElem?_of_mem hx
        have h2 : q < j := by have := (List.getElem?_eq_some_iff.1 hq).1; rw [← HN.out] at this; exact this
        rw [HF.out q x h2 hq] at hs
        cases hs⟩, HB.out⟩
set_option maxRecDepth 100000 in
theorem contains_any (B : Nat) (v : Value) (ms : List MsgP) (m : MsgP) (w : World) (h : MOwn w B v ms) (hl : ms.length ≤ 100000) : Calls Try.prog 10 #[v, .agg (msgC m)] w fun e w' => Told (∃ x ∈ ms, sameM m x = true) e ∧ Below w.heap.size w w' := by
  have HB := Lib.hid ((Below.refl w.heap.size w).alloc (Nat.le_refl _) (.cells (msgC m) 33))
  have HM := Lib.hid (Has.fresh w 33 (msgC m))
  have HI := Lib.hid (index_any B v ms m _ (h.below HB.out) hl)
  obtain ⟨A, c, rfl, _⟩ := h.sl
  clear h
  go_enter Try.func10, Try.ntmps10
  go_wp2_with ((with_reducible refine Who.wpList_loadC 33 (.tmp 3) rfl w.heap.size 0 (msgC m) ?_); refine And.intro ⟨by rfl, by rfl, ⟨_, Try.underlying33, rfl⟩, info_size _⟩ (And.intro (Who.has_range HM.out) ?_); (try simp only [Act.put, List.setIfInBounds_toArray, List.set_cons_zero, List.set_cons_succ]))
  with_reducible refine HI.out.mono ?_
  rintro e w2 ⟨k, rfl, hk, hb⟩
  have HK := Lib.hid hk
  have HB2 := Lib.hid (HB.out.trans (hb.mono HB.out.size))
  clear hk hb
  by_cases q : 0 ≤ k
  · have Q := Lib.hid q
    go_wp2
    go_ret
    exact ⟨told_yes (HK.out.1 Q.out), HB2.out⟩
  · have Q := Lib.hid q
    have e1 : decide (0 ≤ k) = false := decide_eq_false q
    go_wp2
    go_ret
    exact ⟨told_no (fun h => by have h1 := HK.out.2 h; have h2 := Q.out; omega), HB2.out⟩
end Go.Proofs.Ytdjdaljhdjcjlab.Nt
