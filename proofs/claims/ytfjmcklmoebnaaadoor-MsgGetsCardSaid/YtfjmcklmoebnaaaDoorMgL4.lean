/- The message of any bytes: the law MsgGets walked. -/
import Derived.Test.YtfjmcklmoebnaaaDoorMgX
import Derived.Test.YtfjmcklmoebnaaaDoorMgH
namespace Go.Proofs.YtfjmcklmoebnaaaDoor.Mg
open Go.RowKit Go.Proofs.YtfjmcklmoebnaaaDoor.Mem Go.Proofs.YtfjmcklmoebnaaaDoor.Nt
open Go.Proofs.YtfjmcklmoebnaaaDoor.Vc (vecC)
set_option linter.unusedVariables false set_option linter.unusedSimpArgs false

set_option maxRecDepth 100000 in
set_option maxHeartbeats 2000000 in
theorem gets_walk (W : World) (s : ByteArray) (hs : s.size ≤ maxLen) (hT : Tabs W) : Calls Tryd.prog 5 #[.string s] W fun e w' => e = .returned (.bool true) ∧ Below W.heap.size W w' := by
  have hal := alloc_msg
  have HT := Lib.hid hT
  have HB0 := Lib.hid (Below.refl W.heap.size W)
  clear hT hs
  by_cases h4 : (4096 : Int) < s.size
  · go_enter Tryd.func5, Tryd.ntmps5
    go_wp2_with fail
    refine (awake_any _ (HT.out.self HB0.out)).mono ?_
    rintro e wz ⟨rfl, hb⟩
    have HBZ := Lib.hid (HB0.out.trans (hb.mono HB0.out.size))
    clear hb
    go_wp2
    go_ret
    exact ⟨rfl, HBZ.out⟩
  · obtain ⟨R, hR⟩ : ∃ R, R = getR s := ⟨_, rfl⟩
    obtain ⟨k, E⟩ := R
    have HG := Lib.hid (show ∀ V, Calls Tryd.prog 19 #[.string s] V fun e w' => e = .returned (.tuple #[.agg (msgC k), .int .i64 E]) ∧ Below V.heap.size V w' from fun V => (get_any s (by omega) V).mono fun e w' h => ⟨by rw [h.1, ← hR], h.2⟩)
    have HQ := Lib.hid (show ∀ V, Calls Tryd.prog 20 #[.string s] V fun e w' => e = .returned (.tuple #[.agg (msgC k), .int .i64 E]) ∧ Below V.heap.size V w' from fun V => (rget_any s (by omega) V).mono fun e w' h => ⟨by rw [h.1, ← hR], h.2⟩)
    have heq : ∀ V, (binOp .eql 27 (.agg (msgC k)) (.agg (msgC k))).run Tryd.prog V = .ok (.bool true) V := fun V => by rw [eql_msg, sameM_of rfl]
    clear hR
    go_enter Tryd.func5, Tryd.ntmps5
    go_wp2_with fail
    refine (HG.out _).mono ?_
    rintro e w1 ⟨rfl, hb⟩
    have HB1 := Lib.hid ((HB0.out.trans (hb.mono HB0.out.size)).alloc (HB0.out.trans (hb.mono HB0.out.size)).size (.cells (msgC k) 27))
    have HA1 := Lib.hid (Has.fresh w1 27 (msgC k))
    clear hb h4
    go_wp2_with ((with_reducible refine Who.wpList_newC 27 3 (.tmp 14) rfl rfl rfl (msgC msg0) (msgC k) ?_); refine And.intro ⟨rfl, rfl, rfl, hal, by rfl, by rfl, info_size _, rfl, msgC_one _⟩ ?_; (try simp only [Act.put, List.setIfInBounds_toArray, List.set_cons_zero, List.set_cons_succ]); (try simp only [World.size_alloc]))
    refine (HQ.out _).mono ?_
    rintro e w2 ⟨rfl, hb⟩
    have HB2 := Lib.hid ((HB1.out.trans (hb.mono HB1.out.size)).alloc (HB1.out.trans (hb.mono HB1.out.size)).size (.cells (msgC k) 27))
    have HA2 := Lib.hid ((HA1.out.below hb).past (.cells (msgC k) 27))
    have HK2 := Lib.hid (Has.fresh w2 27 (msgC k))
    clear hb
    go_wp2_with (first | ((with_reducible refine Who.wpList_newC 27 5 (.tmp 19) rfl rfl rfl (msgC msg0) (msgC k) ?_); refine And.intro ⟨rfl, rfl, rfl, hal, by rfl, by rfl, info_size _, rfl, msgC_one _⟩ ?_; (try simp only [Act.put, List.setIfInBounds_toArray, List.set_cons_zero, List.set_cons_succ]); (try simp only [World.size_alloc])) | ((with_reducible refine Who.wpList_loadC 27 (.tmp 3) rfl w1.heap.size 0 (msgC k) ?_); refine And.intro ⟨by rfl, by rfl, ⟨_, Tryd.underlying27, rfl⟩, info_size _⟩ (And.intro (Who.has_range HA2.out) ?_); (try simp only [Act.put, List.setIfInBounds_toArray, List.set_cons_zero, List.set_cons_succ])) | ((with_reducible refine Who.wpList_loadC 27 (.tmp 5) rfl w2.heap.size 0 (msgC k) ?_); refine And.intro ⟨by rfl, by rfl, ⟨_, Tryd.underlying27, rfl⟩, info_size _⟩ (And.intro (Who.has_range HK2.out) ?_); (try simp only [Act.put, List.setIfInBounds_toArray, List.set_cons_zero, List.set_cons_succ])))
    refine (awake_any _ (HT.out.self HB2.out)).mono ?_
    rintro e wz ⟨rfl, hb⟩
    have HBZ := Lib.hid (HB2.out.trans (hb.mono HB2.out.size))
    clear hb
    go_wp2
    go_ret
    exact ⟨rfl, HBZ.out⟩
end Go.Proofs.YtfjmcklmoebnaaaDoor.Mg
