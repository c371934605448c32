/- Messages on their way: the law's example. -/
import Derived.Test.YtjbbifmjhagfiaaNtO
namespace Go.Proofs.Ytjbbifmjhagfiaa.Nt
open Go.RowKit Go.Proofs.Ytjbbifmjhagfiaa.Mem Go.Proofs.Ytjbbifmjhagfiaa.Vc
set_option linter.unusedVariables false

theorem NetIs.lt {w : World} {B g : Nat} {v : Value} {V : NetV} (h : NetIs w B g v V) : ∀ k, v.ownBlock = some k → B ≤ k ∧ k < w.heap.size := fun k hk => World.ownsRow.lt h.row k hk
theorem NStep.below {W w w' : World} {g : Nat} {v v' : Value} {V : NetV} (hb : Below W.heap.size W w) (h : NetIs w W.heap.size g v V) (hst : NStep w w' g v v') : Below W.heap.size W w' :=
  hb.trans (hst.1.below hb.size (fun k hk hs => by
    rcases hs with e | e
    · have := h.lo; omega
    · have := (h.lt k e).1; omega))
abbrev m1 : MsgP := sameP 1
abbrev m2 : MsgP := sameP 2
theorem s1 : sendV ⟨[], 0, 0⟩ (sameP 1) = (⟨[sameP 1], 1, 0⟩, 0) := by rw [send_room (sameP_ok (by decide) (by decide)) (by decide)]; rfl
theorem s2 : sendV ⟨[sameP 1], 1, 0⟩ (sameP 2) = (⟨[sameP 1, sameP 2], 2, 0⟩, 0) := by rw [send_room (sameP_ok (by decide) (by decide)) (by simp)]; rfl
theorem p3 : peekM ⟨[sameP 1, sameP 2], 2, 0⟩ 1 = (sameP 2, 0) := peek_in (j := 1) rfl rfl
theorem t3 : takeV ⟨[sameP 1, sameP 2], 2, 0⟩ 1 = ⟨[sameP 1], 2, 0⟩ := by rw [take_yes (by rw [p3])]; rfl
theorem p4 : peekM ⟨[sameP 1], 2, 0⟩ 0 = (sameP 1, 0) := peek_in (j := 0) rfl rfl
theorem d4 : doubleV ⟨[sameP 1], 2, 0⟩ 0 = (⟨[sameP 1, sameP 1], 2, 0⟩, 0) := by rw [double_yes (by rw [p4]), p4, put_room (by simp)]; rfl
theorem p5 : peekM ⟨[sameP 1, sameP 1], 2, 0⟩ 0 = (sameP 1, 0) := peek_in (j := 0) rfl rfl
theorem l5 : loseV ⟨[sameP 1, sameP 1], 2, 0⟩ 0 = (⟨[sameP 1], 2, 1⟩, 0) := by rw [lose_yes (by rw [p5]), take_yes (by rw [p5])]; rfl
theorem few {l : List MsgP} {a b : Int} (h : 0 ≤ a) (h2 : a ≤ 5) (h3 : 0 ≤ b) (h4 : b ≤ 5) : NetV.Few ⟨l, a, b⟩ := ⟨h, by show a ≤ 1000000; omega, h3, by show b ≤ 1000000; omega⟩
set_option maxRecDepth 100000 in
set_option maxHeartbeats 4000000 in
theorem awake_any (W : World) : Calls Try.prog 11 #[] W fun e w' => e = .returned (.bool true) ∧ Below W.heap.size W w' := by
  have hal := alloc_msg
  have HNEW := Lib.hid (fun w => new_any w)
  have HS1 := Lib.hid (fun w => same_any 1 w)
  have HS2 := Lib.hid (fun w => same_any 2 w)
  go_enter Try.func11, Try.ntmps11
  go_wp2_with fail
  with_reducible refine (HNEW.out _).mono ?_
  rintro e w1 ⟨rfl, hn, hb, hs⟩
  obtain ⟨g, hg⟩ : ∃ g, g = W.heap.size := ⟨_, rfl⟩
  have HB1 := Lib.hid hb
  have HN1 := Lib.hid (show NetIs w1 W.heap.size g (.slice none 0 0) ⟨[], 0, 0⟩ from hg ▸ hn)
  rw [← hg]
  have HG := Lib.hid hg
  clear hn hb hs hg
  go_wp2_with fail
  with_reducible refine (HS1.out _).mono ?_
  rintro e w2 ⟨rfl, hb⟩
  have HN2 := Lib.hid (HN1.out.below hb)
  have HB2 := Lib.hid (HB1.out.trans (hb.mono HB1.out.size))
  clear hb
  go_wp2_with fail
  refine (send_any W.heap.size g _ _ (sameP 1) _ HB2.out.size (few (by decide) (by decide) (by decide) (by decide)) HN2.out).mono ?_
  rintro e w3 ⟨rfl, v3, hn, hst⟩
  rw [s1] at hn ⊢
  have HN3 := Lib.hid hn
  have HB3 := Lib.hid (NStep.below HB2.out HN2.out hst)
  clear hn hst
  go_wp2_with fail
  with_reducible refine (HS2.out _).mono ?_
  rintro e w4 ⟨rfl, hb⟩
  have HN4 := Lib.hid (HN3.out.below hb)
  have HB4 := Lib.hid (HB3.out.trans (hb.mono HB3.out.size))
  clear hb
  go_wp2_with fail
  refine (send_any W.heap.size g _ _ (sameP 2) _ HB4.out.size (few (by decide) (by decide) (by decide) (by decide)) HN4.out).mono ?_
  rintro e w5 ⟨rfl, v5, hn, hst⟩
  rw [s2] at hn ⊢
  have HN5 := Lib.hid hn
  have HB5 := Lib.hid (NStep.below HB4.out HN4.out hst)
  clear hn hst
  go_wp2_with fail
  refine (take_any W.heap.size g _ _ 1 _ HB5.out.size HN5.out).mono ?_
  rintro e w6 ⟨rfl, v6, hn, hst⟩
  rw [t3] at hn
  rw [p3]
  dsimp only
  have HB6 := Lib.hid (NStep.below HB5.out HN5.out hst)
  have HM := Lib.hid (Has.fresh w6 36 (msgC (sameP 2)))
  have ha := (Below.refl w6.heap.size w6).alloc (Nat.le_refl _) (.cells (msgC (sameP 2)) 36)
  have HN7 := Lib.hid (hn.below ha)
  have HB7 := Lib.hid (HB6.out.trans (ha.mono HB6.out.size))
  have HQ := Lib.hid (show g ≠ w6.heap.size from fun e => by have := hn.head.bound; omega)
  have HL := Lib.hid hn.lt
  clear hn hst ha
  go_wp2_with ((with_reducible refine Who.wpList_newC 36 4 (.tmp 21) rfl rfl rfl (msgC msg0) (msgC (sameP 2)) ?_); refine And.intro ⟨rfl, rfl, rfl, hal, by rfl, by rfl, info_size _, rfl, msgC_one _⟩ ?_; (try simp only [Act.put, List.setIfInBounds_toArray, List.set_cons_zero, List.set_cons_succ]))
  refine (double_any W.heap.size g _ _ 0 _ HB7.out.size HN7.out).mono ?_
  rintro e w8 ⟨rfl, v8, hn, hst⟩
  rw [d4] at hn ⊢
  have HN8 := Lib.hid hn
  have HB8 := Lib.hid (NStep.below HB7.out HN7.out hst)
  have HM8 := Lib.hid (HM.out.over hst.1 (fun e => by rcases e with e | e; exact HQ.out e.symm; have := (HL.out _ e).2; omega))
  have HO8 := Lib.hid (show v8.ownBlock ≠ some w6.heap.size from fun e => by
    rcases hst.2 _ e with h | h
    · have := (HL.out _ h).2; omega
    · simp at h; omega)
  clear hn hst
  go_wp2_with fail
  refine (lose_any W.heap.size g _ _ 0 _ HB8.out.size (few (by decide) (by decide) (by decide) (by decide)) HN8.out).mono ?_
  rintro e w9 ⟨rfl, v9, hn, hst⟩
  rw [l5] at hn ⊢
  have HN9 := Lib.hid hn
  have HB9 := Lib.hid (NStep.below HB8.out HN8.out hst)
  have HM9 := Lib.hid (HM8.out.over hst.1 (fun e => by rcases e with e | e; exact HQ.out e.symm; exact HO8.out e))
  clear hn hst
  go_wp2_with fail
  refine (count_any W.heap.size g _ _ _ HN9.out).mono ?_
  rintro e w10 ⟨rfl, nd, rfl⟩
  have HB10 : Hid (Below W.heap.size W (w9.drewN nd)) := ⟨HB9.out.os, HB9.out.tape, HB9.out.output, HB9.out.size, HB9.out.block⟩
  have c2 : (w9.drewN nd).cell? ⟨w6.heap.size, 2, none⟩ = some (.int .i64 2) := HM9.out.at_ 2
  go_wp2
  go_ret
  exact ⟨rfl, HB10.out⟩
end Go.Proofs.Ytjbbifmjhagfiaa.Nt
