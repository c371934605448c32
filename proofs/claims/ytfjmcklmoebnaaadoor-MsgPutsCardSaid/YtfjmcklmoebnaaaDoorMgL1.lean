/- Any message as bytes: the law MsgPuts walked. -/
import Derived.Test.YtfjmcklmoebnaaaDoorMgX
import Derived.Test.YtfjmcklmoebnaaaDoorMgC
namespace Go.Proofs.YtfjmcklmoebnaaaDoor.Mg
open Go.RowKit Go.Proofs.YtfjmcklmoebnaaaDoor.Mem Go.Proofs.YtfjmcklmoebnaaaDoor.Nt
open Go.Proofs.YtfjmcklmoebnaaaDoor.Vc (vecC)
set_option linter.unusedVariables false

set_option maxRecDepth 100000 in
set_option maxHeartbeats 2000000 in
theorem puts_walk (W : World) (m : MsgP) (hm : FitM m) (hT : Tabs W) : Calls Tryd.prog 4 #[.agg (msgC m)] W fun e w' => e = .returned (.bool true) ∧ Below W.heap.size W w' := by
  obtain ⟨R, hR⟩ : ∃ R, R = putR m := ⟨_, rfl⟩
  obtain ⟨P, E⟩ := R
  have HP := Lib.hid (show ∀ V, Calls Tryd.prog 17 #[.agg (msgC m)] V fun e w' => e = .returned (.tuple #[.string P, .int .i64 E]) ∧ Below V.heap.size V w' from fun V => (put_any m V).mono fun e w' h => ⟨by rw [h.1, ← hR], h.2⟩)
  have HQ := Lib.hid (show ∀ V, Calls Tryd.prog 18 #[.agg (msgC m)] V fun e w' => e = .returned (.tuple #[.string P, .int .i64 E]) ∧ Below V.heap.size V w' from fun V => (rput_any m V).mono fun e w' h => ⟨by rw [h.1, ← hR], h.2⟩)
  have hb0 := (Below.refl W.heap.size W).alloc (Nat.le_refl _) (.cells (msgC m) 27)
  have HB0 := Lib.hid hb0
  have HA0 := Lib.hid (Has.fresh W 27 (msgC m))
  have HT := Lib.hid hT
  have x0 : (W.alloc (.cells (msgC m) 27)).cell? ⟨W.heap.size, 18, none⟩ = some (.string m.data) := HA0.out.at_ 18
  have hs := hm.2.2.2.2.2
  clear hR hb0 hT hm
  go_enter Tryd.func4, Tryd.ntmps4
  by_cases h4 : (4096 : Int) < m.data.size
  · clear hs
    go_wp2_with fail
    refine (awake_any _ (HT.out.self HB0.out)).mono ?_
    rintro e wz ⟨rfl, hb⟩
    have HBZ := Lib.hid (HB0.out.trans (hb.mono HB0.out.size))
    clear hb
    go_wp2
    go_ret
    exact ⟨rfl, HBZ.out⟩
  · clear hs
    go_wp2_with ((with_reducible refine Who.wpList_loadC 27 (.tmp 1) rfl W.heap.size 0 (msgC m) ?_); refine And.intro ⟨by rfl, by rfl, ⟨_, Tryd.underlying27, rfl⟩, info_size _⟩ (And.intro (Who.has_range HA0.out) ?_); (try simp only [Act.put, List.setIfInBounds_toArray, List.set_cons_zero, List.set_cons_succ]))
    refine (HP.out _).mono ?_
    rintro e w1 ⟨rfl, hb⟩
    have HA1 := Lib.hid (HA0.out.below hb)
    have HB1 := Lib.hid (HB0.out.trans (hb.mono HB0.out.size))
    clear hb x0 h4
    go_wp2_with ((with_reducible refine Who.wpList_loadC 27 (.tmp 1) rfl W.heap.size 0 (msgC m) ?_); refine And.intro ⟨by rfl, by rfl, ⟨_, Tryd.underlying27, rfl⟩, info_size _⟩ (And.intro (Who.has_range HA1.out) ?_); (try simp only [Act.put, List.setIfInBounds_toArray, List.set_cons_zero, List.set_cons_succ]))
    refine (HQ.out _).mono ?_
    rintro e w2 ⟨rfl, hb⟩
    have HB2 := Lib.hid (HB1.out.trans (hb.mono HB1.out.size))
    clear hb
    go_wp2_with fail
    refine (awake_any _ (HT.out.self HB2.out)).mono ?_
    rintro e wz ⟨rfl, hb⟩
    have HBZ := Lib.hid (HB2.out.trans (hb.mono HB2.out.size))
    clear hb
    go_wp2
    go_ret
    exact ⟨rfl, HBZ.out⟩
end Go.Proofs.YtfjmcklmoebnaaaDoor.Mg
