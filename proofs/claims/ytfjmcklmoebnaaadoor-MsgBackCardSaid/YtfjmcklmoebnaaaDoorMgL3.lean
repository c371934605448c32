/- A message is got as it was put, and put as it was got: the law MsgBack walked. -/
import Derived.Test.YtfjmcklmoebnaaaDoorMgX
import Derived.Test.YtfjmcklmoebnaaaDoorMgV2
namespace Go.Proofs.YtfjmcklmoebnaaaDoor.Mg
open Go.RowKit Go.Proofs.YtfjmcklmoebnaaaDoor.Mem Go.Proofs.YtfjmcklmoebnaaaDoor.Nt
open Go.Proofs.YtfjmcklmoebnaaaDoor.Vc (vecC)
set_option linter.unusedVariables false

set_option maxRecDepth 100000 in
set_option maxHeartbeats 4000000 in
theorem back_walk (W : World) (m : MsgP) (s : ByteArray) (hm : FitM m) (hs : s.size ≤ maxLen) (hT : Tabs W) : Calls Tryd.prog 6 #[.agg (msgC m), .string s] W fun e w' => e = .returned (.bool true) ∧ Below W.heap.size W w' := by
  have hal := alloc_msg
  have hb0 := (Below.refl W.heap.size W).alloc (Nat.le_refl _) (.cells (msgC m) 27)
  have HB0 := Lib.hid hb0
  have HA0 := Lib.hid (Has.fresh W 27 (msgC m))
  have HT := Lib.hid hT
  have x0 : (W.alloc (.cells (msgC m) 27)).cell? ⟨W.heap.size, 18, none⟩ = some (.string m.data) := HA0.out.at_ 18
  clear hb0 hT hm hs
  by_cases h4 : (4096 : Int) < m.data.size
  · go_enter Tryd.func6, Tryd.ntmps6
    go_wp2_with fail
    refine (awake_any _ (HT.out.self HB0.out)).mono ?_
    rintro e wz ⟨rfl, hb⟩
    have HBZ := Lib.hid (HB0.out.trans (hb.mono HB0.out.size))
    clear hb
    go_wp2
    go_ret
    exact ⟨rfl, HBZ.out⟩
  · by_cases h5 : (4096 : Int) < s.size
    · go_enter Tryd.func6, Tryd.ntmps6
      go_wp2_with fail
      refine (awake_any _ (HT.out.self HB0.out)).mono ?_
      rintro e wz ⟨rfl, hb⟩
      have HBZ := Lib.hid (HB0.out.trans (hb.mono HB0.out.size))
      clear hb
      go_wp2
      go_ret
      exact ⟨rfl, HBZ.out⟩
    · rcases get_cases s with hg | ⟨k, hg, hkok, hpk⟩
      · have HGS := Lib.hid (show ∀ V, Calls Tryd.prog 19 #[.string s] V fun e w' => e = .returned (.tuple #[.agg (msgC msg0), .int .i64 201]) ∧ Below V.heap.size V w' from fun V => (get_any s (by omega) V).mono fun e w' h => ⟨by rw [h.1, hg], h.2⟩)
        clear hg
        by_cases hok : OkM m
        · obtain ⟨S, hS⟩ : ∃ S, S = CrcW.sealB (BA (msgB m)) := ⟨_, rfl⟩
          have HPS := Lib.hid (show ∀ V, Calls Tryd.prog 17 #[.agg (msgC m)] V fun e w' => e = .returned (.tuple #[.string S, .int .i64 0]) ∧ Below V.heap.size V w' from fun V => (put_any m V).mono fun e w' h => ⟨by rw [h.1, putR_yes hok, hS]; rfl, h.2⟩)
          have HGM := Lib.hid (show ∀ V, Calls Tryd.prog 19 #[.string S] V fun e w' => e = .returned (.tuple #[.agg (msgC m), .int .i64 0]) ∧ Below V.heap.size V w' from fun V => (get_any S (by rw [hS]; exact fits_seal m hok) V).mono fun e w' h => ⟨by rw [h.1, hS, (get_back hok).1, (get_back hok).2], h.2⟩)
          have hneq : ∀ V, (binOp .neq 27 (.agg (msgC m)) (.agg (msgC m))).run Tryd.prog V = .ok (.bool false) V := fun V => by rw [neq_msg, sameM_of rfl]; rfl
          clear hok hS
          go_enter Tryd.func6, Tryd.ntmps6
          go_wp2_with ((with_reducible refine Who.wpList_loadC 27 (.tmp 2) rfl W.heap.size 0 (msgC m) ?_); refine And.intro ⟨by rfl, by rfl, ⟨_, Tryd.underlying27, rfl⟩, info_size _⟩ (And.intro (Who.has_range HA0.out) ?_); (try simp only [Act.put, List.setIfInBounds_toArray, List.set_cons_zero, List.set_cons_succ]))
          refine (HPS.out _).mono ?_
          rintro e w1 ⟨rfl, hb⟩
          have HA1 := Lib.hid (HA0.out.below hb)
          have HB1 := Lib.hid (HB0.out.trans (hb.mono HB0.out.size))
          clear hb x0 h4 h5
          go_wp2_with fail
          refine (HGM.out _).mono ?_
          rintro e w2 ⟨rfl, hb⟩
          have HB2 := Lib.hid ((HB1.out.trans (hb.mono HB1.out.size)).alloc (HB1.out.trans (hb.mono HB1.out.size)).size (.cells (msgC m) 27))
          have HA2 := Lib.hid ((HA1.out.below hb).past (.cells (msgC m) 27))
          have HN2 := Lib.hid (Has.fresh w2 27 (msgC m))
          clear hb
          go_wp2_with (first | ((with_reducible refine Who.wpList_newC 27 7 (.tmp 31) rfl rfl rfl (msgC msg0) (msgC m) ?_); refine And.intro ⟨rfl, rfl, rfl, hal, by rfl, by rfl, info_size _, rfl, msgC_one _⟩ ?_; (try simp only [Act.put, List.setIfInBounds_toArray, List.set_cons_zero, List.set_cons_succ]); (try simp only [World.size_alloc])) | ((with_reducible refine Who.wpList_loadC 27 (.tmp 7) rfl w2.heap.size 0 (msgC m) ?_); refine And.intro ⟨by rfl, by rfl, ⟨_, Tryd.underlying27, rfl⟩, info_size _⟩ (And.intro (Who.has_range HN2.out) ?_); (try simp only [Act.put, List.setIfInBounds_toArray, List.set_cons_zero, List.set_cons_succ])) | ((with_reducible refine Who.wpList_loadC 27 (.tmp 2) rfl W.heap.size 0 (msgC m) ?_); refine And.intro ⟨by rfl, by rfl, ⟨_, Tryd.underlying27, rfl⟩, info_size _⟩ (And.intro (Who.has_range HA2.out) ?_); (try simp only [Act.put, List.setIfInBounds_toArray, List.set_cons_zero, List.set_cons_succ])))
          refine (HGS.out _).mono ?_
          rintro e w5 ⟨rfl, hb⟩
          have HB5 := Lib.hid ((HB2.out.trans (hb.mono HB2.out.size)).alloc (HB2.out.trans (hb.mono HB2.out.size)).size (.cells (msgC msg0) 27))
          have HK5 := Lib.hid (Has.fresh w5 27 (msgC msg0))
          clear hb
          have hq : ∀ V, (binOp .eql 27 (.agg (msgC msg0)) (.agg #[.int .i64 0, .int .i64 0, .int .i64 0, .int .i64 0, .int .i64 0, .int .i64 0, .int .i64 0, .int .i64 0, .int .i64 0, .int .i64 0, .int .i64 0, .int .i64 0, .int .i64 0, .int .i64 0, .int .i64 0, .int .i64 0, .int .i64 0, .int .i64 0, .string ⟨#[]⟩])).run Tryd.prog V = .ok (.bool true) V := fun V => (eql_msg msg0 msg0 V).trans (by rw [sameM_of rfl])
          go_wp2_with (first | ((with_reducible refine Who.wpList_newC 27 9 (.tmp 43) rfl rfl rfl (msgC msg0) (msgC msg0) ?_); refine And.intro ⟨rfl, rfl, rfl, hal, by rfl, by rfl, info_size _, rfl, msgC_one _⟩ ?_; (try simp only [Act.put, List.setIfInBounds_toArray, List.set_cons_zero, List.set_cons_succ]); (try simp only [World.size_alloc])) | ((with_reducible refine Who.wpList_loadC 27 (.tmp 9) rfl w5.heap.size 0 (msgC msg0) ?_); refine And.intro ⟨by rfl, by rfl, ⟨_, Tryd.underlying27, rfl⟩, info_size _⟩ (And.intro (Who.has_range HK5.out) ?_); (try simp only [Act.put, List.setIfInBounds_toArray, List.set_cons_zero, List.set_cons_succ])))
          refine (awake_any _ (HT.out.self HB5.out)).mono ?_
          rintro e wz ⟨rfl, hb⟩
          have HBZ := Lib.hid (HB5.out.trans (hb.mono HB5.out.size))
          clear hb
          go_wp2
          go_ret
          exact ⟨rfl, HBZ.out⟩
        · have HPS := Lib.hid (show ∀ V, Calls Tryd.prog 17 #[.agg (msgC m)] V fun e w' => e = .returned (.tuple #[.string ⟨#[]⟩, .int .i64 201]) ∧ Below V.heap.size V w' from fun V => (put_any m V).mono fun e w' h => ⟨by rw [h.1, putR_no hok], h.2⟩)
          clear hok
          go_enter Tryd.func6, Tryd.ntmps6
          go_wp2_with ((with_reducible refine Who.wpList_loadC 27 (.tmp 2) rfl W.heap.size 0 (msgC m) ?_); refine And.intro ⟨by rfl, by rfl, ⟨_, Tryd.underlying27, rfl⟩, info_size _⟩ (And.intro (Who.has_range HA0.out) ?_); (try simp only [Act.put, List.setIfInBounds_toArray, List.set_cons_zero, List.set_cons_succ]))
          refine (HPS.out _).mono ?_
          rintro e w1 ⟨rfl, hb⟩
          have HB1 := Lib.hid (HB0.out.trans (hb.mono HB0.out.size))
          clear hb x0 h4 h5
          go_wp2_with fail
          refine (HGS.out _).mono ?_
          rintro e w5 ⟨rfl, hb⟩
          have HB5 := Lib.hid ((HB1.out.trans (hb.mono HB1.out.size)).alloc (HB1.out.trans (hb.mono HB1.out.size)).size (.cells (msgC msg0) 27))
          have HK5 := Lib.hid (Has.fresh w5 27 (msgC msg0))
          clear hb
          have hq : ∀ V, (binOp .eql 27 (.agg (msgC msg0)) (.agg #[.int .i64 0, .int .i64 0, .int .i64 0, .int .i64 0, .int .i64 0, .int .i64 0, .int .i64 0, .int .i64 0, .int .i64 0, .int .i64 0, .int .i64 0, .int .i64 0, .int .i64 0, .int .i64 0, .int .i64 0, .int .i64 0, .int .i64 0, .int .i64 0, .string ⟨#[]⟩])).run Tryd.prog V = .ok (.bool true) V := fun V => (eql_msg msg0 msg0 V).trans (by rw [sameM_of rfl])
          go_wp2_with (first | ((with_reducible refine Who.wpList_newC 27 9 (.tmp 43) rfl rfl rfl (msgC msg0) (msgC msg0) ?_); refine And.intro ⟨rfl, rfl, rfl, hal, by rfl, by rfl, info_size _, rfl, msgC_one _⟩ ?_; (try simp only [Act.put, List.setIfInBounds_toArray, List.set_cons_zero, List.set_cons_succ]); (try simp only [World.size_alloc])) | ((with_reducible refine Who.wpList_loadC 27 (.tmp 9) rfl w5.heap.size 0 (msgC msg0) ?_); refine And.intro ⟨by rfl, by rfl, ⟨_, Tryd.underlying27, rfl⟩, info_size _⟩ (And.intro (Who.has_range HK5.out) ?_); (try simp only [Act.put, List.setIfInBounds_toArray, List.set_cons_zero, List.set_cons_succ])))
          refine (awake_any _ (HT.out.self HB5.out)).mono ?_
          rintro e wz ⟨rfl, hb⟩
          have HBZ := Lib.hid (HB5.out.trans (hb.mono HB5.out.size))
          clear hb
          go_wp2
          go_ret
          exact ⟨rfl, HBZ.out⟩
      · have HGS := Lib.hid (show ∀ V, Calls Tryd.prog 19 #[.string s] V fun e w' => e = .returned (.tuple #[.agg (msgC k), .int .i64 0]) ∧ Below V.heap.size V w' from fun V => (get_any s (by omega) V).mono fun e w' h => ⟨by rw [h.1, hg], h.2⟩)
        have HPK := Lib.hid (show ∀ V, Calls Tryd.prog 17 #[.agg (msgC k)] V fun e w' => e = .returned (.tuple #[.string s, .int .i64 0]) ∧ Below V.heap.size V w' from fun V => (put_any k V).mono fun e w' h => ⟨by rw [h.1, hpk], h.2⟩)
        have HCK := Lib.hid (show ∀ V, Calls Tryd.prog 9 #[.agg (msgC k)] V fun e w' => e = .returned (.int .i64 0) ∧ Below V.heap.size V w' from fun V => err_yes hkok ▸ check_any k V)
        clear hg hkok hpk
        by_cases hok : OkM m
        · obtain ⟨S, hS⟩ : ∃ S, S = CrcW.sealB (BA (msgB m)) := ⟨_, rfl⟩
          have HPS := Lib.hid (show ∀ V, Calls Tryd.prog 17 #[.agg (msgC m)] V fun e w' => e = .returned (.tuple #[.string S, .int .i64 0]) ∧ Below V.heap.size V w' from fun V => (put_any m V).mono fun e w' h => ⟨by rw [h.1, putR_yes hok, hS]; rfl, h.2⟩)
          have HGM := Lib.hid (show ∀ V, Calls Tryd.prog 19 #[.string S] V fun e w' => e = .returned (.tuple #[.agg (msgC m), .int .i64 0]) ∧ Below V.heap.size V w' from fun V => (get_any S (by rw [hS]; exact fits_seal m hok) V).mono fun e w' h => ⟨by rw [h.1, hS, (get_back hok).1, (get_back hok).2], h.2⟩)
          have hneq : ∀ V, (binOp .neq 27 (.agg (msgC m)) (.agg (msgC m))).run Tryd.prog V = .ok (.bool false) V := fun V => by rw [neq_msg, sameM_of rfl]; rfl
          clear hok hS
          go_enter Tryd.func6, Tryd.ntmps6
          go_wp2_with ((with_reducible refine Who.wpList_loadC 27 (.tmp 2) rfl W.heap.size 0 (msgC m) ?_); refine And.intro ⟨by rfl, by rfl, ⟨_, Tryd.underlying27, rfl⟩, info_size _⟩ (And.intro (Who.has_range HA0.out) ?_); (try simp only [Act.put, List.setIfInBounds_toArray, List.set_cons_zero, List.set_cons_succ]))
          refine (HPS.out _).mono ?_
          rintro e w1 ⟨rfl, hb⟩
          have HA1 := Lib.hid (HA0.out.below hb)
          have HB1 := Lib.hid (HB0.out.trans (hb.mono HB0.out.size))
          clear hb x0 h4 h5
          go_wp2_with fail
          refine (HGM.out _).mono ?_
          rintro e w2 ⟨rfl, hb⟩
          have HB2 := Lib.hid ((HB1.out.trans (hb.mono HB1.out.size)).alloc (HB1.out.trans (hb.mono HB1.out.size)).size (.cells (msgC m) 27))
          have HA2 := Lib.hid ((HA1.out.below hb).past (.cells (msgC m) 27))
          have HN2 := Lib.hid (Has.fresh w2 27 (msgC m))
          clear hb
          go_wp2_with (first | ((with_reducible refine Who.wpList_newC 27 7 (.tmp 31) rfl rfl rfl (msgC msg0) (msgC m) ?_); refine And.intro ⟨rfl, rfl, rfl, hal, by rfl, by rfl, info_size _, rfl, msgC_one _⟩ ?_; (try simp only [Act.put, List.setIfInBounds_toArray, List.set_cons_zero, List.set_cons_succ]); (try simp only [World.size_alloc])) | ((with_reducible refine Who.wpList_loadC 27 (.tmp 7) rfl w2.heap.size 0 (msgC m) ?_); refine And.intro ⟨by rfl, by rfl, ⟨_, Tryd.underlying27, rfl⟩, info_size _⟩ (And.intro (Who.has_range HN2.out) ?_); (try simp only [Act.put, List.setIfInBounds_toArray, List.set_cons_zero, List.set_cons_succ])) | ((with_reducible refine Who.wpList_loadC 27 (.tmp 2) rfl W.heap.size 0 (msgC m) ?_); refine And.intro ⟨by rfl, by rfl, ⟨_, Tryd.underlying27, rfl⟩, info_size _⟩ (And.intro (Who.has_range HA2.out) ?_); (try simp only [Act.put, List.setIfInBounds_toArray, List.set_cons_zero, List.set_cons_succ])))
          refine (HGS.out _).mono ?_
          rintro e w5 ⟨rfl, hb⟩
          have HB5 := Lib.hid ((HB2.out.trans (hb.mono HB2.out.size)).alloc (HB2.out.trans (hb.mono HB2.out.size)).size (.cells (msgC k) 27))
          have HK5 := Lib.hid (Has.fresh w5 27 (msgC k))
          clear hb
          go_wp2_with (first | ((with_reducible refine Who.wpList_newC 27 9 (.tmp 43) rfl rfl rfl (msgC msg0) (msgC k) ?_); refine And.intro ⟨rfl, rfl, rfl, hal, by rfl, by rfl, info_size _, rfl, msgC_one _⟩ ?_; (try simp only [Act.put, List.setIfInBounds_toArray, List.set_cons_zero, List.set_cons_succ]); (try simp only [World.size_alloc])) | ((with_reducible refine Who.wpList_loadC 27 (.tmp 9) rfl w5.heap.size 0 (msgC k) ?_); refine And.intro ⟨by rfl, by rfl, ⟨_, Tryd.underlying27, rfl⟩, info_size _⟩ (And.intro (Who.has_range HK5.out) ?_); (try simp only [Act.put, List.setIfInBounds_toArray, List.set_cons_zero, List.set_cons_succ])))
          refine (HPK.out _).mono ?_
          rintro e w6 ⟨rfl, hb⟩
          have HB6 := Lib.hid (HB5.out.trans (hb.mono HB5.out.size))
          have HK6 := Lib.hid (HK5.out.below hb)
          clear hb
          go_wp2_with ((with_reducible refine Who.wpList_loadC 27 (.tmp 9) rfl w5.heap.size 0 (msgC k) ?_); refine And.intro ⟨by rfl, by rfl, ⟨_, Tryd.underlying27, rfl⟩, info_size _⟩ (And.intro (Who.has_range HK6.out) ?_); (try simp only [Act.put, List.setIfInBounds_toArray, List.set_cons_zero, List.set_cons_succ]))
          refine (HCK.out _).mono ?_
          rintro e w7 ⟨rfl, hb⟩
          have HB7 := Lib.hid (HB6.out.trans (hb.mono HB6.out.size))
          clear hb
          go_wp2_with fail
          refine (awake_any _ (HT.out.self HB7.out)).mono ?_
          rintro e wz ⟨rfl, hb⟩
          have HBZ := Lib.hid (HB7.out.trans (hb.mono HB7.out.size))
          clear hb
          go_wp2
          go_ret
          exact ⟨rfl, HBZ.out⟩
        · have HPS := Lib.hid (show ∀ V, Calls Tryd.prog 17 #[.agg (msgC m)] V fun e w' => e = .returned (.tuple #[.string ⟨#[]⟩, .int .i64 201]) ∧ Below V.heap.size V w' from fun V => (put_any m V).mono fun e w' h => ⟨by rw [h.1, putR_no hok], h.2⟩)
          clear hok
          go_enter Tryd.func6, Tryd.ntmps6
          go_wp2_with ((with_reducible refine Who.wpList_loadC 27 (.tmp 2) rfl W.heap.size 0 (msgC m) ?_); refine And.intro ⟨by rfl, by rfl, ⟨_, Tryd.underlying27, rfl⟩, info_size _⟩ (And.intro (Who.has_range HA0.out) ?_); (try simp only [Act.put, List.setIfInBounds_toArray, List.set_cons_zero, List.set_cons_succ]))
          refine (HPS.out _).mono ?_
          rintro e w1 ⟨rfl, hb⟩
          have HB1 := Lib.hid (HB0.out.trans (hb.mono HB0.out.size))
          clear hb x0 h4 h5
          go_wp2_with fail
          refine (HGS.out _).mono ?_
          rintro e w5 ⟨rfl, hb⟩
          have HB5 := Lib.hid ((HB1.out.trans (hb.mono HB1.out.size)).alloc (HB1.out.trans (hb.mono HB1.out.size)).size (.cells (msgC k) 27))
          have HK5 := Lib.hid (Has.fresh w5 27 (msgC k))
          clear hb
          go_wp2_with (first | ((with_reducible refine Who.wpList_newC 27 9 (.tmp 43) rfl rfl rfl (msgC msg0) (msgC k) ?_); refine And.intro ⟨rfl, rfl, rfl, hal, by rfl, by rfl, info_size _, rfl, msgC_one _⟩ ?_; (try simp only [Act.put, List.setIfInBounds_toArray, List.set_cons_zero, List.set_cons_succ]); (try simp only [World.size_alloc])) | ((with_reducible refine Who.wpList_loadC 27 (.tmp 9) rfl w5.heap.size 0 (msgC k) ?_); refine And.intro ⟨by rfl, by rfl, ⟨_, Tryd.underlying27, rfl⟩, info_size _⟩ (And.intro (Who.has_range HK5.out) ?_); (try simp only [Act.put, List.setIfInBounds_toArray, List.set_cons_zero, List.set_cons_succ])))
          refine (HPK.out _).mono ?_
          rintro e w6 ⟨rfl, hb⟩
          have HB6 := Lib.hid (HB5.out.trans (hb.mono HB5.out.size))
          have HK6 := Lib.hid (HK5.out.below hb)
          clear hb
          go_wp2_with ((with_reducible refine Who.wpList_loadC 27 (.tmp 9) rfl w5.heap.size 0 (msgC k) ?_); refine And.intro ⟨by rfl, by rfl, ⟨_, Tryd.underlying27, rfl⟩, info_size _⟩ (And.intro (Who.has_range HK6.out) ?_); (try simp only [Act.put, List.setIfInBounds_toArray, List.set_cons_zero, List.set_cons_succ]))
          refine (HCK.out _).mono ?_
          rintro e w7 ⟨rfl, hb⟩
          have HB7 := Lib.hid (HB6.out.trans (hb.mono HB6.out.size))
          clear hb
          go_wp2_with fail
          refine (awake_any _ (HT.out.self HB7.out)).mono ?_
          rintro e wz ⟨rfl, hb⟩
          have HBZ := Lib.hid (HB7.out.trans (hb.mono HB7.out.size))
          clear hb
          go_wp2
          go_ret
          exact ⟨rfl, HBZ.out⟩
end Go.Proofs.YtfjmcklmoebnaaaDoor.Mg
