import Derived.Test.YtfjmcklmoebnaaaDoorMgX

/- A message that is gone, as text: the program's. -/
namespace Go.Proofs.YtfjmcklmoebnaaaDoor.Mg
open Go.RowKit Go.Proofs.YtfjmcklmoebnaaaDoor.Mem Go.Proofs.YtfjmcklmoebnaaaDoor.Nt
open Go.Proofs.YtfjmcklmoebnaaaDoor.Vc (vecC)
set_option linter.unusedVariables false set_option linter.unusedSimpArgs false

structure TexI (w : World) (W1 : Nat) (m : MsgP) (C : Array Value) (wr : World) (u : Value) (xs : List ByteArray) : Prop where
  below : Below w.heap.size w wr
  row : OwnS wr (W1 + 1) u xs
  msg : Has wr w.heap.size 27 (msgC m)
  kind : Has wr W1 47 C
  lo : w.heap.size < W1
theorem TexI.low {w wr w2 : World} {W1 : Nat} {m : MsgP} {C : Array Value} {u : Value} {xs : List ByteArray} (h : TexI w W1 m C wr u xs) (hb : Below wr.heap.size wr w2) : TexI w W1 m C w2 u xs := ⟨h.below.trans (hb.mono h.below.size), own1_below h.row hb, h.msg.below hb, h.kind.below hb, h.lo⟩
theorem TexI.step {w w2 w5 : World} {W1 n : Nat} {m : MsgP} {C : Array Value} {u u' : Value} {xs : List ByteArray} {b : ByteArray} (h : TexI w W1 m C w2 u xs) (hn : n = xs.length) (ho : w5.ownsRow (W1 + 1) 9 1 u' (n + 1) (xs.map Value.string ++ [.string b])) (hg : (w2.alloc (.cells #[.string b] 9)).grownBy w5 u.ownBlock) : TexI w W1 m C w5 u' (xs ++ [b]) := by
  have hl := World.ownsRow.lt h.row
  have hlo := h.lo
  have c : Chg (fun k => u.ownBlock = some k) (w2.alloc (.cells #[.string b] 9)) w5 := ⟨hg.os, hg.tape, hg.output, hg.size, fun k hk hn => hg.block k hk (fun e => hn e.symm)⟩
  refine ⟨(h.below.alloc h.below.size _).grown hg (Nat.le_trans h.below.size (by simp)) (fun q hq => by have := (hl q hq).1; omega), ?_, (h.msg.past _).over c (fun e => by have := (hl _ e).1; omega), (h.kind.past _).over c (fun e => by have := (hl _ e).1; omega), hlo⟩
  unfold OwnS
  rw [List.length_append, List.map_append, ← hn]
  exact ho
set_option maxRecDepth 100000 in
set_option maxHeartbeats 2000000 in
theorem text_k4 (m : MsgP) (hm : FitM m) (q : m.kind = 4) (w : World) (hT : Tabs w) : Calls Tryd.prog 13 #[.agg (msgC m)] w fun e w' => e = .returned (.string (joinB (parts0 m ⟨#[103, 111, 110, 101]⟩ ++ [((⟨#[109, 97, 114, 107, 61]⟩ : ByteArray) ++ pairB m.mark.1 ⟨#[46]⟩ m.mark.2)]) ⟨#[32]⟩)) ∧ Below w.heap.size w w' := by
  obtain ⟨i0, hi, hz0, hz1, hz2⟩ := info_parts info_s
  have HII := Lib.hid (And.intro hi (And.intro hz0 (And.intro hz1 hz2)))
  clear hi hz0 hz1 hz2
  have HM := Lib.hid hm
  have HTW := Lib.hid hT
  have HMK := Lib.hid (fun V (h : Tabs V) => markText_any m.mark hm.2.2.1.1 hm.2.2.1.2 V h)
  have s3 := pairB_size (s := ⟨#[46]⟩) hm.2.2.1.1 hm.2.2.1.2
  have z4 : (⟨#[46]⟩ : ByteArray).size = 1 := rfl
  have z5 : (⟨#[109, 97, 114, 107, 61]⟩ : ByteArray).size = 5 := rfl
  have a3 := fun W => run_string_add_sum (P := Tryd.prog) W ⟨#[109, 97, 114, 107, 61]⟩ (pairB m.mark.1 ⟨#[46]⟩ m.mark.2) (by omega)
  have HXS := Lib.hid (show ((⟨#[109, 97, 114, 107, 61]⟩ : ByteArray) ++ pairB m.mark.1 ⟨#[46]⟩ m.mark.2).size ≤ 200 by rw [ByteArray.size_append]; omega)
  clear s3 z4 z5
  have HK := Lib.hid (show ∀ W, Calls Tryd.prog 27 #[.int .i64 4] W fun e w' => e = .returned (.agg #[.string ⟨#[103, 111, 110, 101]⟩, .bool false, .bool true, .bool false, .bool false, .bool false]) ∧ Below W.heap.size W w' from fun W => (show kindC 4 = #[.string ⟨#[103, 111, 110, 101]⟩, .bool false, .bool true, .bool false, .bool false, .bool false] by rfl) ▸ kindOf_any 4 W)
  have HP := Lib.hid (fun V (h : Tabs V) => pair_any m.fr ⟨#[62]⟩ m.to hm.1.2.1 hm.1.2.2.1 (by decide) V h)
  have HIT := Lib.hid (fun V (h : Tabs V) => itoa_any m.vol hm.1.2.2.2 V h)
  have HSE := Lib.hid (fun V (h : Tabs V) => seen_any m.seen hm.2.2.2.2.1 V h)
  have s1 := itoaB_size hm.1.2.2.2
  have s2 := seenB_size hm.2.2.2.2.1
  have z2 : (⟨#[118]⟩ : ByteArray).size = 1 := rfl
  have z3 : (⟨#[115, 101, 101, 110, 61]⟩ : ByteArray).size = 5 := rfl
  have a1 := fun W => run_string_add_sum (P := Tryd.prog) W ⟨#[118]⟩ (itoaB m.vol) (by omega)
  have a2 := fun W => run_string_add_sum (P := Tryd.prog) W ⟨#[115, 101, 101, 110, 61]⟩ (seenB m.seen) (by omega)
  have hb0 := (Below.refl w.heap.size w).alloc (Nat.le_refl _) (.cells (msgC m) 27)
  have HB0 := Lib.hid hb0
  have HG0 := Lib.hid (Has.fresh w 27 (msgC m))
  have HT0 := Lib.hid (hT.self hb0)
  have c0 : (w.alloc (.cells (msgC m) 27)).cell? ⟨w.heap.size, 0, none⟩ = some (.int .i64 4) := q ▸ HG0.out.at_ 0
  have HQ := Lib.hid q
  clear s1 s2 z2 z3 hb0 hT hm q
  go_enter Tryd.func13, Tryd.ntmps13
  go_wp2_with fail
  with_reducible refine (HK.out _).mono ?_
  rintro e w1 ⟨rfl, hb⟩
  have HBw := Lib.hid ((HB0.out.trans (hb.mono HB0.out.size)).alloc (HB0.out.trans (hb.mono HB0.out.size)).size (.cells #[.string ⟨#[103, 111, 110, 101]⟩, .bool false, .bool true, .bool false, .bool false, .bool false] 47))
  have HG1 := Lib.hid ((HG0.out.below hb).past (.cells #[.string ⟨#[103, 111, 110, 101]⟩, .bool false, .bool true, .bool false, .bool false, .bool false] 47))
  have HK1 := Lib.hid (Has.fresh w1 47 #[.string ⟨#[103, 111, 110, 101]⟩, .bool false, .bool true, .bool false, .bool false, .bool false])
  have HT1 := Lib.hid ((HT0.out.self hb).self ((Below.refl w1.heap.size w1).alloc (Nat.le_refl _) (.cells #[.string ⟨#[103, 111, 110, 101]⟩, .bool false, .bool true, .bool false, .bool false, .bool false] 47)))
  have HB1 := Lib.hid ((Below.refl (w1.alloc (.cells #[.string ⟨#[103, 111, 110, 101]⟩, .bool false, .bool true, .bool false, .bool false, .bool false] 47)).heap.size (w1.alloc (.cells #[.string ⟨#[103, 111, 110, 101]⟩, .bool false, .bool true, .bool false, .bool false, .bool false] 47))).drew)
  have HTB := Lib.hid (fun V (h : Below (w1.alloc (.cells #[.string ⟨#[103, 111, 110, 101]⟩, .bool false, .bool true, .bool false, .bool false, .bool false] 47)).heap.size (w1.alloc (.cells #[.string ⟨#[103, 111, 110, 101]⟩, .bool false, .bool true, .bool false, .bool false, .bool false] 47)) V) => HT1.out.self h)
  have HSB := Lib.hid (show ∀ V, Below (w1.alloc (.cells #[.string ⟨#[103, 111, 110, 101]⟩, .bool false, .bool true, .bool false, .bool false, .bool false] 47)).heap.size (w1.alloc (.cells #[.string ⟨#[103, 111, 110, 101]⟩, .bool false, .bool true, .bool false, .bool false, .bool false] 47)) V → V.cell? ⟨w1.heap.size, 0, none⟩ = some (.string ⟨#[103, 111, 110, 101]⟩) ∧ V.cell? ⟨w.heap.size, 1, none⟩ = some (.int .i64 m.fr) ∧ V.cell? ⟨w.heap.size, 2, none⟩ = some (.int .i64 m.to) ∧ V.cell? ⟨w.heap.size, 3, none⟩ = some (.int .i64 m.vol) ∧ V.rangeAt w.heap.size 10 (vecC m.seen).toList from fun V h => ⟨(HK1.out.below h).at_ 0, (HG1.out.below h).at_ 1, (HG1.out.below h).at_ 2, (HG1.out.below h).at_ 3, seen_range (HG1.out.below h)⟩)
  have HLO := Lib.hid (show w.heap.size < w1.heap.size by have := hb.size; rw [World.size_alloc] at this; omega)
  clear hb c0 HK HG0 HT0 HB0
  go_wp2
  refine wp_region_held_drew (S := fun V => V.cell? ⟨w1.heap.size, 0, none⟩ = some (.string ⟨#[103, 111, 110, 101]⟩) ∧ V.cell? ⟨w.heap.size, 1, none⟩ = some (.int .i64 m.fr) ∧ V.cell? ⟨w.heap.size, 2, none⟩ = some (.int .i64 m.to) ∧ V.cell? ⟨w.heap.size, 3, none⟩ = some (.int .i64 m.vol) ∧ V.rangeAt w.heap.size 10 (vecC m.seen).toList) (by kernel_rfl) (HSB.out _ HB1.out) (fun hHeld => ?_)
  refine Vc.wpAnyH_read (i := 0) (d := some 8) (v := ?vz1) (by rfl) (by rfl) (by kernel_rfl) (by kernel_rfl) (by kernel_rfl) (fun _ _ _ h => h) (by rfl) ?hyz1 (by assumption) ?restz1
  case hyz1 =>
    intro w hSw
    obtain ⟨s0, s1, s2, s3, s4⟩ := hSw
    go_simp
    try with_reducible rfl
  (try simp only [Act.put, List.setIfInBounds_toArray, List.set_cons_zero, List.set_cons_succ])
  refine Vc.wpAnyH_read (i := 1) (d := some 9) (v := ?vz2) (by rfl) (by rfl) (by kernel_rfl) (by kernel_rfl) (by kernel_rfl) (fun _ _ _ h => h) (by rfl) ?hyz2 (by assumption) ?restz2
  case hyz2 =>
    intro w hSw
    obtain ⟨s0, s1, s2, s3, s4⟩ := hSw
    go_simp
    try with_reducible rfl
  (try simp only [Act.put, List.setIfInBounds_toArray, List.set_cons_zero, List.set_cons_succ])
  refine Vc.wpAnyH_read (i := 2) (d := some 10) (v := ?vz3) (by rfl) (by rfl) (by kernel_rfl) (by kernel_rfl) (by kernel_rfl) (fun _ _ _ h => h) (by rfl) ?hyz3 (by assumption) ?restz3
  case hyz3 =>
    intro w hSw
    obtain ⟨s0, s1, s2, s3, s4⟩ := hSw
    go_simp
    try with_reducible rfl
  (try simp only [Act.put, List.setIfInBounds_toArray, List.set_cons_zero, List.set_cons_succ])
  refine Vc.wpAnyH_read (i := 3) (d := some 11) (v := ?vz4) (by rfl) (by rfl) (by kernel_rfl) (by kernel_rfl) (by kernel_rfl) (fun _ _ _ h => h) (by rfl) ?hyz4 (by assumption) ?restz4
  case hyz4 =>
    intro w hSw
    obtain ⟨s0, s1, s2, s3, s4⟩ := hSw
    go_simp
    try with_reducible rfl
  (try simp only [Act.put, List.setIfInBounds_toArray, List.set_cons_zero, List.set_cons_succ])
  refine Vc.wpAnyH_read (i := 4) (d := some 12) (v := ?vz5) (by rfl) (by rfl) (by kernel_rfl) (by kernel_rfl) (by kernel_rfl) (fun _ _ _ h => h) (by rfl) ?hyz5 (by assumption) ?restz5
  case hyz5 =>
    intro w hSw
    obtain ⟨s0, s1, s2, s3, s4⟩ := hSw
    go_simp
    try with_reducible rfl
  (try simp only [Act.put, List.setIfInBounds_toArray, List.set_cons_zero, List.set_cons_succ])
  refine Vc.wpAnyH_read (i := 5) (d := some 13) (v := ?vz6) (by rfl) (by rfl) (by kernel_rfl) (by kernel_rfl) (by kernel_rfl) (fun _ _ _ h => h) (by rfl) ?hyz6 (by assumption) ?restz6
  case hyz6 =>
    intro w hSw
    obtain ⟨s0, s1, s2, s3, s4⟩ := hSw
    go_simp
    try with_reducible rfl
  (try simp only [Act.put, List.setIfInBounds_toArray, List.set_cons_zero, List.set_cons_succ])
  refine Vc.wpAnyH_read (i := 7) (d := some 15) (v := ?vz7) (by rfl) (by rfl) (by kernel_rfl) (by kernel_rfl) (by kernel_rfl) (fun _ _ _ h => h) (by rfl) ?hyz7 (by assumption) ?restz7
  case hyz7 =>
    intro w hSw
    obtain ⟨s0, s1, s2, s3, s4⟩ := hSw
    go_simp
    try with_reducible rfl
  (try simp only [Act.put, List.setIfInBounds_toArray, List.set_cons_zero, List.set_cons_succ])
  refine Vc.wpAnyH_read (i := 8) (d := some 16) (v := ?vz8) (by rfl) (by rfl) (by kernel_rfl) (by kernel_rfl) (by kernel_rfl) (fun _ _ _ h => h) (by rfl) ?hyz8 (by assumption) ?restz8
  case hyz8 =>
    intro w hSw
    obtain ⟨s0, s1, s2, s3, s4⟩ := hSw
    go_simp
    try with_reducible rfl
  (try simp only [Act.put, List.setIfInBounds_toArray, List.set_cons_zero, List.set_cons_succ])
  refine Vc.wpAnyH_read (i := 11) (d := some 19) (v := ?vz9) (by rfl) (by rfl) (by kernel_rfl) (by kernel_rfl) (by kernel_rfl) (fun _ _ _ h => h) (by rfl) ?hyz9 (by assumption) ?restz9
  case hyz9 =>
    intro w hSw
    obtain ⟨s0, s1, s2, s3, s4⟩ := hSw
    go_simp
    try with_reducible rfl
  (try simp only [Act.put, List.setIfInBounds_toArray, List.set_cons_zero, List.set_cons_succ])
  refine Vc.wpAnyH_read (i := 12) (d := some 20) (v := .agg (vecC m.seen)) (by rfl) (by rfl) (by kernel_rfl) (by kernel_rfl) (by kernel_rfl) (fun _ _ _ h => h) (by rfl) ?hyz10 (by assumption) ?restz10
  case hyz10 =>
    intro w hSw
    obtain ⟨s0, s1, s2, s3, s4⟩ := hSw
    exact Who.exec_loadA _ rfl rfl s4 Tryd.underlying25 rfl info_vec
  (try simp only [Act.put, List.setIfInBounds_toArray, List.set_cons_zero, List.set_cons_succ])
  refine wpAnyH_ready (rs := [6]) (by kernel_rfl) (by simp) ?_
  refine AllReadyH.cons rfl (fun K hK => ?_) AllReadyH.nil
  go_simp
  go_at_call 28
  refine (HP.out _ (HTB.out _ HB1.out)).mono ?_
  rintro e w2 ⟨rfl, hb⟩
  have HB2 := Lib.hid (HB1.out.trans (hb.mono HB1.out.size))
  clear hb
  refine hK.out _ _ (HSB.out _ HB2.out) (fun hHeld => ?_)
  clear hK K
  (try simp only [Act.put, List.setIfInBounds_toArray, List.set_cons_zero, List.set_cons_succ])
  refine wpAnyH_ready (rs := [9]) (by kernel_rfl) (by simp) ?_
  refine AllReadyH.cons rfl (fun K hK => ?_) AllReadyH.nil
  go_simp
  go_at_call 29
  refine (HIT.out _ (HTB.out _ HB2.out)).mono ?_
  rintro e w3 ⟨rfl, hb⟩
  have HB3 := Lib.hid (HB2.out.trans (hb.mono HB2.out.size))
  clear hb
  refine hK.out _ _ (HSB.out _ HB3.out) (fun hHeld => ?_)
  clear hK K
  (try simp only [Act.put, List.setIfInBounds_toArray, List.set_cons_zero, List.set_cons_succ])
  refine Vc.wpAnyH_read (i := 10) (d := some 18) (v := ?vz11) (by rfl) (by rfl) (by kernel_rfl) (by kernel_rfl) (by kernel_rfl) (fun _ _ _ h => h) (by rfl) ?hyz11 (by assumption) ?restz11
  case hyz11 =>
    intro w hSw
    obtain ⟨s0, s1, s2, s3, s4⟩ := hSw
    go_simp
    try with_reducible rfl
  (try simp only [Act.put, List.setIfInBounds_toArray, List.set_cons_zero, List.set_cons_succ])
  refine wpAnyH_ready (rs := [13]) (by kernel_rfl) (by simp) ?_
  refine AllReadyH.cons rfl (fun K hK => ?_) AllReadyH.nil
  go_simp
  go_at_call 15
  refine (HSE.out _ (HTB.out _ HB3.out)).mono ?_
  rintro e w4 ⟨rfl, hb⟩
  have HB4 := Lib.hid (HB3.out.trans (hb.mono HB3.out.size))
  clear hb
  refine hK.out _ _ (HSB.out _ HB4.out) (fun hHeld => ?_)
  clear hK K
  (try simp only [Act.put, List.setIfInBounds_toArray, List.set_cons_zero, List.set_cons_succ])
  refine Vc.wpAnyH_read (i := 14) (d := some 22) (v := ?vz12) (by rfl) (by rfl) (by kernel_rfl) (by kernel_rfl) (by kernel_rfl) (fun _ _ _ h => h) (by rfl) ?hyz12 (by assumption) ?restz12
  case hyz12 =>
    intro w hSw
    obtain ⟨s0, s1, s2, s3, s4⟩ := hSw
    go_simp
    try with_reducible rfl
  (try simp only [Act.put, List.setIfInBounds_toArray, List.set_cons_zero, List.set_cons_succ])
  refine wpAnyH_ready (rs := [15]) (by kernel_rfl) (by simp) ?_
  refine AllReadyH.cons rfl (fun K hK => ?_) AllReadyH.nil
  have HB5 := Lib.hid (HB4.out.alloc HB4.out.size (.cells #[.string ⟨#[103, 111, 110, 101]⟩, .string (pairB m.fr ⟨#[62]⟩ m.to), .string ((⟨#[118]⟩ : ByteArray) ++ itoaB m.vol), .string ((⟨#[115, 101, 101, 110, 61]⟩ : ByteArray) ++ seenB m.seen)] 9))
  go_simp
  refine hK.out _ _ (HSB.out _ HB5.out) (fun hHeld => ?_)
  clear hK K
  (try simp only [Act.put, List.setIfInBounds_toArray, List.set_cons_zero, List.set_cons_succ])
  refine Vc.wpAnyH_read (i := 16) (d := some 4) (v := ?vz13) (by rfl) (by rfl) (by kernel_rfl) (by kernel_rfl) (by kernel_rfl) (fun _ _ _ h => h) (by rfl) ?hyz13 (by assumption) ?restz13
  case hyz13 =>
    intro w hSw
    obtain ⟨s0, s1, s2, s3, s4⟩ := hSw
    go_simp
    try with_reducible rfl
  (try simp only [Act.put, List.setIfInBounds_toArray, List.set_cons_zero, List.set_cons_succ])
  refine wpAnyH_done (by kernel_rfl) ?_ _
  have HG5 := Lib.hid (HG1.out.below HB5.out)
  have HK5 := Lib.hid (HK1.out.below HB5.out)
  have HY := Lib.hid (Has.fresh w4 9 #[.string ⟨#[103, 111, 110, 101]⟩, .string (pairB m.fr ⟨#[62]⟩ m.to), .string ((⟨#[118]⟩ : ByteArray) ++ itoaB m.vol), .string ((⟨#[115, 101, 101, 110, 61]⟩ : ByteArray) ++ seenB m.seen)])
  have HI := Lib.hid (show TexI w w1.heap.size m #[.string ⟨#[103, 111, 110, 101]⟩, .bool false, .bool true, .bool false, .bool false, .bool false] (w4.alloc (.cells #[.string ⟨#[103, 111, 110, 101]⟩, .string (pairB m.fr ⟨#[62]⟩ m.to), .string ((⟨#[118]⟩ : ByteArray) ++ itoaB m.vol), .string ((⟨#[115, 101, 101, 110, 61]⟩ : ByteArray) ++ seenB m.seen)] 9)) (.slice (some ⟨w4.heap.size, 0, none⟩) 4 4) (parts0 m ⟨#[103, 111, 110, 101]⟩) from ⟨HBw.out.trans (HB5.out.mono HBw.out.size), ⟨rfl, .inr ⟨w4.heap.size, 4, #[.string ⟨#[103, 111, 110, 101]⟩, .string (pairB m.fr ⟨#[62]⟩ m.to), .string ((⟨#[118]⟩ : ByteArray) ++ itoaB m.vol), .string ((⟨#[115, 101, 101, 110, 61]⟩ : ByteArray) ++ seenB m.seen)], rfl, by have h := HB4.out.size; rw [World.size_alloc] at h; exact h, heap_alloc_new w4 _, Nat.le_refl _, by decide, rfl, rfl⟩⟩, HG5.out, HK5.out, HLO.out⟩)
  clear a1 a2 HP HIT HSE HG5 HK5 HY HB5
  have u1 : (w4.alloc (.cells #[.string ⟨#[103, 111, 110, 101]⟩, .string (pairB m.fr ⟨#[62]⟩ m.to), .string ((⟨#[118]⟩ : ByteArray) ++ itoaB m.vol), .string ((⟨#[115, 101, 101, 110, 61]⟩ : ByteArray) ++ seenB m.seen)] 9)).cell? ⟨w1.heap.size, 1, none⟩ = some (.bool false) := HI.out.kind.at_ 1
  have u2 : (w4.alloc (.cells #[.string ⟨#[103, 111, 110, 101]⟩, .string (pairB m.fr ⟨#[62]⟩ m.to), .string ((⟨#[118]⟩ : ByteArray) ++ itoaB m.vol), .string ((⟨#[115, 101, 101, 110, 61]⟩ : ByteArray) ++ seenB m.seen)] 9)).cell? ⟨w1.heap.size, 2, none⟩ = some (.bool true) := HI.out.kind.at_ 2
  have HMR := Lib.hid (mark_range HI.out.msg)
  go_wp2_with (first | ((with_reducible refine Who.wpList_loadC 23 (.tmp 36) rfl w.heap.size 6 (#[.int .i64 m.mark.1, .int .i64 m.mark.2]) ?_); refine And.intro ⟨by rfl, by rfl, ⟨_, Tryd.underlying23, rfl⟩, info_mark⟩ (And.intro HMR.out ?_); (try simp only [Act.put, List.setIfInBounds_toArray, List.set_cons_zero, List.set_cons_succ])) | fail)
  refine (HMK.out _ (HTW.out.self HI.out.below)).mono ?_
  rintro e w5 ⟨rfl, hb⟩
  have HI2 := Lib.hid (HI.out.low hb)
  have HS := Lib.hid (show w1.heap.size + 1 ≤ (w5.alloc (.cells #[.string ((⟨#[109, 97, 114, 107, 61]⟩ : ByteArray) ++ pairB m.mark.1 ⟨#[46]⟩ m.mark.2)] 9)).heap.size from by have := HI2.out.kind.bound; rw [World.size_alloc]; omega)
  clear hb u1 u2
  go_wp2_with (at_builtin; refine wpList_append_lies _ rfl (.tmp 35) (.tmp 40) 51 rfl (w1.heap.size + 1) 9 i0 (.string ⟨#[]⟩) 1 16 Tryd.underlying51 HII.out.1 HII.out.2.1 HII.out.2.2.1 HII.out.2.2.2 rfl (by decide) (.slice (some ⟨w4.heap.size, 0, none⟩) 4 4) 4 ((parts0 m ⟨#[103, 111, 110, 101]⟩).map Value.string) rfl (World.ownsRow.alloc HI2.out.row _) ⟨w5.heap.size, 0, none⟩ 1 1 [.string ((⟨#[109, 97, 114, 107, 61]⟩ : ByteArray) ++ pairB m.mark.1 ⟨#[46]⟩ m.mark.2)] rfl rfl ?c1 ?c2 (by decide) (by unfold maxLen; omega) (by omega) HS.out _ rfl ?_)
  case c1 => exact World.news_of_block (Has.fresh w5 9 #[.string ((⟨#[109, 97, 114, 107, 61]⟩ : ByteArray) ++ pairB m.mark.1 ⟨#[46]⟩ m.mark.2)])
  case c2 => exact fun u hu => by simp at hu; subst hu; rfl
  intro g' cap w6 ho hg2 hor hlt2
  have HQ6 := Lib.hid (TexI.step HI2.out rfl ho hg2)
  have u0 : w6.cell? ⟨w.heap.size, 0, none⟩ = some (.int .i64 4) := HQ.out ▸ HQ6.out.msg.at_ 0
  have HJ := Lib.hid (join_own ⟨#[32]⟩ HQ6.out.row ⟨(by decide : (5 : Nat) ≤ 1000), join_small ⟨#[32]⟩ (by decide) (fun p hp => (List.mem_append.1 hp).elim (parts0_small HM.out (wd := ⟨#[103, 111, 110, 101]⟩) (by decide) p) (fun h => by rw [List.mem_singleton.1 h]; exact HXS.out)) (by decide : (5 : Nat) ≤ 20)⟩ w6)
  clear ho hg2 hor hlt2 a3
  go_wp2_with fail
  refine HJ.out.mono ?_
  rintro e w7 ⟨rfl, hb⟩
  have HBZ := Lib.hid (HQ6.out.below.trans (hb.mono HQ6.out.below.size))
  clear hb
  go_wp2
  go_ret
  exact ⟨rfl, HBZ.out⟩
end Go.Proofs.YtfjmcklmoebnaaaDoor.Mg
/- A message that asks, as text: the program's. -/
namespace Go.Proofs.YtfjmcklmoebnaaaDoor.Mg
open Go.RowKit Go.Proofs.YtfjmcklmoebnaaaDoor.Mem Go.Proofs.YtfjmcklmoebnaaaDoor.Nt
open Go.Proofs.YtfjmcklmoebnaaaDoor.Vc (vecC)
set_option linter.unusedVariables false set_option linter.unusedSimpArgs false

set_option maxRecDepth 100000 in
set_option maxHeartbeats 2000000 in
theorem text_k1 (m : MsgP) (hm : FitM m) (q : m.kind = 1) (w : World) (hT : Tabs w) : Calls Tryd.prog 13 #[.agg (msgC m)] w fun e w' => e = .returned (.string (joinB (parts0 m ⟨#[97, 115, 107]⟩ ++ [((⟨#[98, 97, 115, 101, 61]⟩ : ByteArray) ++ pairB m.base.1 ⟨#[46]⟩ m.base.2)] ++ [((⟨#[109, 97, 114, 107, 61]⟩ : ByteArray) ++ pairB m.mark.1 ⟨#[46]⟩ m.mark.2)] ++ [((⟨#[102, 114, 111, 109, 61]⟩ : ByteArray) ++ itoaB m.ix)]) ⟨#[32]⟩)) ∧ Below w.heap.size w w' := by
  obtain ⟨i0, hi, hz0, hz1, hz2⟩ := info_parts info_s
  have HII := Lib.hid (And.intro hi (And.intro hz0 (And.intro hz1 hz2)))
  clear hi hz0 hz1 hz2
  have HM := Lib.hid hm
  have HTW := Lib.hid hT
  have HMB := Lib.hid (fun V (h : Tabs V) => markText_any m.base hm.2.1.1 hm.2.1.2 V h)
  have HMK := Lib.hid (fun V (h : Tabs V) => markText_any m.mark hm.2.2.1.1 hm.2.2.1.2 V h)
  have HMI := Lib.hid (fun V (h : Tabs V) => itoa_any m.ix hm.2.2.2.1.1 V h)
  have s3 := pairB_size (s := ⟨#[46]⟩) hm.2.1.1 hm.2.1.2
  have s4 := pairB_size (s := ⟨#[46]⟩) hm.2.2.1.1 hm.2.2.1.2
  have s5 := itoaB_size hm.2.2.2.1.1
  have z4 : (⟨#[46]⟩ : ByteArray).size = 1 := rfl
  have z5 : (⟨#[109, 97, 114, 107, 61]⟩ : ByteArray).size = 5 := rfl
  have z6 : (⟨#[98, 97, 115, 101, 61]⟩ : ByteArray).size = 5 := rfl
  have z7 : (⟨#[102, 114, 111, 109, 61]⟩ : ByteArray).size = 5 := rfl
  have a3 := fun W => run_string_add_sum (P := Tryd.prog) W ⟨#[98, 97, 115, 101, 61]⟩ (pairB m.base.1 ⟨#[46]⟩ m.base.2) (by omega)
  have a4 := fun W => run_string_add_sum (P := Tryd.prog) W ⟨#[109, 97, 114, 107, 61]⟩ (pairB m.mark.1 ⟨#[46]⟩ m.mark.2) (by omega)
  have a5 := fun W => run_string_add_sum (P := Tryd.prog) W ⟨#[102, 114, 111, 109, 61]⟩ (itoaB m.ix) (by omega)
  have HXS := Lib.hid (show ((⟨#[98, 97, 115, 101, 61]⟩ : ByteArray) ++ pairB m.base.1 ⟨#[46]⟩ m.base.2).size ≤ 200 ∧ ((⟨#[109, 97, 114, 107, 61]⟩ : ByteArray) ++ pairB m.mark.1 ⟨#[46]⟩ m.mark.2).size ≤ 200 ∧ ((⟨#[102, 114, 111, 109, 61]⟩ : ByteArray) ++ itoaB m.ix).size ≤ 200 by refine ⟨?_, ?_, ?_⟩ <;> (rw [ByteArray.size_append]; omega))
  clear s3 s4 s5 z4 z5 z6 z7
  have HK := Lib.hid (show ∀ W, Calls Tryd.prog 27 #[.int .i64 1] W fun e w' => e = .returned (.agg #[.string ⟨#[97, 115, 107]⟩, .bool true, .bool true, .bool true, .bool false, .bool false]) ∧ Below W.heap.size W w' from fun W => (show kindC 1 = #[.string ⟨#[97, 115, 107]⟩, .bool true, .bool true, .bool true, .bool false, .bool false] by rfl) ▸ kindOf_any 1 W)
  have HP := Lib.hid (fun V (h : Tabs V) => pair_any m.fr ⟨#[62]⟩ m.to hm.1.2.1 hm.1.2.2.1 (by decide) V h)
  have HIT := Lib.hid (fun V (h : Tabs V) => itoa_any m.vol hm.1.2.2.2 V h)
  have HSE := Lib.hid (fun V (h : Tabs V) => seen_any m.seen hm.2.2.2.2.1 V h)
  have s1 := itoaB_size hm.1.2.2.2
  have s2 := seenB_size hm.2.2.2.2.1
  have z2 : (⟨#[118]⟩ : ByteArray).size = 1 := rfl
  have z3 : (⟨#[115, 101, 101, 110, 61]⟩ : ByteArray).size = 5 := rfl
  have a1 := fun W => run_string_add_sum (P := Tryd.prog) W ⟨#[118]⟩ (itoaB m.vol) (by omega)
  have a2 := fun W => run_string_add_sum (P := Tryd.prog) W ⟨#[115, 101, 101, 110, 61]⟩ (seenB m.seen) (by omega)
  have hb0 := (Below.refl w.heap.size w).alloc (Nat.le_refl _) (.cells (msgC m) 27)
  have HB0 := Lib.hid hb0
  have HG0 := Lib.hid (Has.fresh w 27 (msgC m))
  have HT0 := Lib.hid (hT.self hb0)
  have c0 : (w.alloc (.cells (msgC m) 27)).cell? ⟨w.heap.size, 0, none⟩ = some (.int .i64 1) := q ▸ HG0.out.at_ 0
  have HQ := Lib.hid q
  clear s1 s2 z2 z3 hb0 hT hm q
  go_enter Tryd.func13, Tryd.ntmps13
  go_wp2_with fail
  with_reducible refine (HK.out _).mono ?_
  rintro e w1 ⟨rfl, hb⟩
  have HBw := Lib.hid ((HB0.out.trans (hb.mono HB0.out.size)).alloc (HB0.out.trans (hb.mono HB0.out.size)).size (.cells #[.string ⟨#[97, 115, 107]⟩, .bool true, .bool true, .bool true, .bool false, .bool false] 47))
  have HG1 := Lib.hid ((HG0.out.below hb).past (.cells #[.string ⟨#[97, 115, 107]⟩, .bool true, .bool true, .bool true, .bool false, .bool false] 47))
  have HK1 := Lib.hid (Has.fresh w1 47 #[.string ⟨#[97, 115, 107]⟩, .bool true, .bool true, .bool true, .bool false, .bool false])
  have HT1 := Lib.hid ((HT0.out.self hb).self ((Below.refl w1.heap.size w1).alloc (Nat.le_refl _) (.cells #[.string ⟨#[97, 115, 107]⟩, .bool true, .bool true, .bool true, .bool false, .bool false] 47)))
  have HB1 := Lib.hid ((Below.refl (w1.alloc (.cells #[.string ⟨#[97, 115, 107]⟩, .bool true, .bool true, .bool true, .bool false, .bool false] 47)).heap.size (w1.alloc (.cells #[.string ⟨#[97, 115, 107]⟩, .bool true, .bool true, .bool true, .bool false, .bool false] 47))).drew)
  have HTB := Lib.hid (fun V (h : Below (w1.alloc (.cells #[.string ⟨#[97, 115, 107]⟩, .bool true, .bool true, .bool true, .bool false, .bool false] 47)).heap.size (w1.alloc (.cells #[.string ⟨#[97, 115, 107]⟩, .bool true, .bool true, .bool true, .bool false, .bool false] 47)) V) => HT1.out.self h)
  have HSB := Lib.hid (show ∀ V, Below (w1.alloc (.cells #[.string ⟨#[97, 115, 107]⟩, .bool true, .bool true, .bool true, .bool false, .bool false] 47)).heap.size (w1.alloc (.cells #[.string ⟨#[97, 115, 107]⟩, .bool true, .bool true, .bool true, .bool false, .bool false] 47)) V → V.cell? ⟨w1.heap.size, 0, none⟩ = some (.string ⟨#[97, 115, 107]⟩) ∧ V.cell? ⟨w.heap.size, 1, none⟩ = some (.int .i64 m.fr) ∧ V.cell? ⟨w.heap.size, 2, none⟩ = some (.int .i64 m.to) ∧ V.cell? ⟨w.heap.size, 3, none⟩ = some (.int .i64 m.vol) ∧ V.rangeAt w.heap.size 10 (vecC m.seen).toList from fun V h => ⟨(HK1.out.below h).at_ 0, (HG1.out.below h).at_ 1, (HG1.out.below h).at_ 2, (HG1.out.below h).at_ 3, seen_range (HG1.out.below h)⟩)
  have HLO := Lib.hid (show w.heap.size < w1.heap.size by have := hb.size; rw [World.size_alloc] at this; omega)
  clear hb c0 HK HG0 HT0 HB0
  go_wp2
  refine wp_region_held_drew (S := fun V => V.cell? ⟨w1.heap.size, 0, none⟩ = some (.string ⟨#[97, 115, 107]⟩) ∧ V.cell? ⟨w.heap.size, 1, none⟩ = some (.int .i64 m.fr) ∧ V.cell? ⟨w.heap.size, 2, none⟩ = some (.int .i64 m.to) ∧ V.cell? ⟨w.heap.size, 3, none⟩ = some (.int .i64 m.vol) ∧ V.rangeAt w.heap.size 10 (vecC m.seen).toList) (by kernel_rfl) (HSB.out _ HB1.out) (fun hHeld => ?_)
  refine Vc.wpAnyH_read (i := 0) (d := some 8) (v := ?vz1) (by rfl) (by rfl) (by kernel_rfl) (by kernel_rfl) (by kernel_rfl) (fun _ _ _ h => h) (by rfl) ?hyz1 (by assumption) ?restz1
  case hyz1 =>
    intro w hSw
    obtain ⟨s0, s1, s2, s3, s4⟩ := hSw
    go_simp
    try with_reducible rfl
  (try simp only [Act.put, List.setIfInBounds_toArray, List.set_cons_zero, List.set_cons_succ])
  refine Vc.wpAnyH_read (i := 1) (d := some 9) (v := ?vz2) (by rfl) (by rfl) (by kernel_rfl) (by kernel_rfl) (by kernel_rfl) (fun _ _ _ h => h) (by rfl) ?hyz2 (by assumption) ?restz2
  case hyz2 =>
    intro w hSw
    obtain ⟨s0, s1, s2, s3, s4⟩ := hSw
    go_simp
    try with_reducible rfl
  (try simp only [Act.put, List.setIfInBounds_toArray, List.set_cons_zero, List.set_cons_succ])
  refine Vc.wpAnyH_read (i := 2) (d := some 10) (v := ?vz3) (by rfl) (by rfl) (by kernel_rfl) (by kernel_rfl) (by kernel_rfl) (fun _ _ _ h => h) (by rfl) ?hyz3 (by assumption) ?restz3
  case hyz3 =>
    intro w hSw
    obtain ⟨s0, s1, s2, s3, s4⟩ := hSw
    go_simp
    try with_reducible rfl
  (try simp only [Act.put, List.setIfInBounds_toArray, List.set_cons_zero, List.set_cons_succ])
  refine Vc.wpAnyH_read (i := 3) (d := some 11) (v := ?vz4) (by rfl) (by rfl) (by kernel_rfl) (by kernel_rfl) (by kernel_rfl) (fun _ _ _ h => h) (by rfl) ?hyz4 (by assumption) ?restz4
  case hyz4 =>
    intro w hSw
    obtain ⟨s0, s1, s2, s3, s4⟩ := hSw
    go_simp
    try with_reducible rfl
  (try simp only [Act.put, List.setIfInBounds_toArray, List.set_cons_zero, List.set_cons_succ])
  refine Vc.wpAnyH_read (i := 4) (d := some 12) (v := ?vz5) (by rfl) (by rfl) (by kernel_rfl) (by kernel_rfl) (by kernel_rfl) (fun _ _ _ h => h) (by rfl) ?hyz5 (by assumption) ?restz5
  case hyz5 =>
    intro w hSw
    obtain ⟨s0, s1, s2, s3, s4⟩ := hSw
    go_simp
    try with_reducible rfl
  (try simp only [Act.put, List.setIfInBounds_toArray, List.set_cons_zero, List.set_cons_succ])
  refine Vc.wpAnyH_read (i := 5) (d := some 13) (v := ?vz6) (by rfl) (by rfl) (by kernel_rfl) (by kernel_rfl) (by kernel_rfl) (fun _ _ _ h => h) (by rfl) ?hyz6 (by assumption) ?restz6
  case hyz6 =>
    intro w hSw
    obtain ⟨s0, s1, s2, s3, s4⟩ := hSw
    go_simp
    try with_reducible rfl
  (try simp only [Act.put, List.setIfInBounds_toArray, List.set_cons_zero, List.set_cons_succ])
  refine Vc.wpAnyH_read (i := 7) (d := some 15) (v := ?vz7) (by rfl) (by rfl) (by kernel_rfl) (by kernel_rfl) (by kernel_rfl) (fun _ _ _ h => h) (by rfl) ?hyz7 (by assumption) ?restz7
  case hyz7 =>
    intro w hSw
    obtain ⟨s0, s1, s2, s3, s4⟩ := hSw
    go_simp
    try with_reducible rfl
  (try simp only [Act.put, List.setIfInBounds_toArray, List.set_cons_zero, List.set_cons_succ])
  refine Vc.wpAnyH_read (i := 8) (d := some 16) (v := ?vz8) (by rfl) (by rfl) (by kernel_rfl) (by kernel_rfl) (by kernel_rfl) (fun _ _ _ h => h) (by rfl) ?hyz8 (by assumption) ?restz8
  case hyz8 =>
    intro w hSw
    obtain ⟨s0, s1, s2, s3, s4⟩ := hSw
    go_simp
    try with_reducible rfl
  (try simp only [Act.put, List.setIfInBounds_toArray, List.set_cons_zero, List.set_cons_succ])
  refine Vc.wpAnyH_read (i := 11) (d := some 19) (v := ?vz9) (by rfl) (by rfl) (by kernel_rfl) (by kernel_rfl) (by kernel_rfl) (fun _ _ _ h => h) (by rfl) ?hyz9 (by assumption) ?restz9
  case hyz9 =>
    intro w hSw
    obtain ⟨s0, s1, s2, s3, s4⟩ := hSw
    go_simp
    try with_reducible rfl
  (try simp only [Act.put, List.setIfInBounds_toArray, List.set_cons_zero, List.set_cons_succ])
  refine Vc.wpAnyH_read (i := 12) (d := some 20) (v := .agg (vecC m.seen)) (by rfl) (by rfl) (by kernel_rfl) (by kernel_rfl) (by kernel_rfl) (fun _ _ _ h => h) (by rfl) ?hyz10 (by assumption) ?restz10
  case hyz10 =>
    intro w hSw
    obtain ⟨s0, s1, s2, s3, s4⟩ := hSw
    exact Who.exec_loadA _ rfl rfl s4 Tryd.underlying25 rfl info_vec
  (try simp only [Act.put, List.setIfInBounds_toArray, List.set_cons_zero, List.set_cons_succ])
  refine wpAnyH_ready (rs := [6]) (by kernel_rfl) (by simp) ?_
  refine AllReadyH.cons rfl (fun K hK => ?_) AllReadyH.nil
  go_simp
  go_at_call 28
  refine (HP.out _ (HTB.out _ HB1.out)).mono ?_
  rintro e w2 ⟨rfl, hb⟩
  have HB2 := Lib.hid (HB1.out.trans (hb.mono HB1.out.size))
  clear hb
  refine hK.out _ _ (HSB.out _ HB2.out) (fun hHeld => ?_)
  clear hK K
  (try simp only [Act.put, List.setIfInBounds_toArray, List.set_cons_zero, List.set_cons_succ])
  refine wpAnyH_ready (rs := [9]) (by kernel_rfl) (by simp) ?_
  refine AllReadyH.cons rfl (fun K hK => ?_) AllReadyH.nil
  go_simp
  go_at_call 29
  refine (HIT.out _ (HTB.out _ HB2.out)).mono ?_
  rintro e w3 ⟨rfl, hb⟩
  have HB3 := Lib.hid (HB2.out.trans (hb.mono HB2.out.size))
  clear hb
  refine hK.out _ _ (HSB.out _ HB3.out) (fun hHeld => ?_)
  clear hK K
  (try simp only [Act.put, List.setIfInBounds_toArray, List.set_cons_zero, List.set_cons_succ])
  refine Vc.wpAnyH_read (i := 10) (d := some 18) (v := ?vz11) (by rfl) (by rfl) (by kernel_rfl) (by kernel_rfl) (by kernel_rfl) (fun _ _ _ h => h) (by rfl) ?hyz11 (by assumption) ?restz11
  case hyz11 =>
    intro w hSw
    obtain ⟨s0, s1, s2, s3, s4⟩ := hSw
    go_simp
    try with_reducible rfl
  (try simp only [Act.put, List.setIfInBounds_toArray, List.set_cons_zero, List.set_cons_succ])
  refine wpAnyH_ready (rs := [13]) (by kernel_rfl) (by simp) ?_
  refine AllReadyH.cons rfl (fun K hK => ?_) AllReadyH.nil
  go_simp
  go_at_call 15
  refine (HSE.out _ (HTB.out _ HB3.out)).mono ?_
  rintro e w4 ⟨rfl, hb⟩
  have HB4 := Lib.hid (HB3.out.trans (hb.mono HB3.out.size))
  clear hb
  refine hK.out _ _ (HSB.out _ HB4.out) (fun hHeld => ?_)
  clear hK K
  (try simp only [Act.put, List.setIfInBounds_toArray, List.set_cons_zero, List.set_cons_succ])
  refine Vc.wpAnyH_read (i := 14) (d := some 22) (v := ?vz12) (by rfl) (by rfl) (by kernel_rfl) (by kernel_rfl) (by kernel_rfl) (fun _ _ _ h => h) (by rfl) ?hyz12 (by assumption) ?restz12
  case hyz12 =>
    intro w hSw
    obtain ⟨s0, s1, s2, s3, s4⟩ := hSw
    go_simp
    try with_reducible rfl
  (try simp only [Act.put, List.setIfInBounds_toArray, List.set_cons_zero, List.set_cons_succ])
  refine wpAnyH_ready (rs := [15]) (by kernel_rfl) (by simp) ?_
  refine AllReadyH.cons rfl (fun K hK => ?_) AllReadyH.nil
  have HB5 := Lib.hid (HB4.out.alloc HB4.out.size (.cells #[.string ⟨#[97, 115, 107]⟩, .string (pairB m.fr ⟨#[62]⟩ m.to), .string ((⟨#[118]⟩ : ByteArray) ++ itoaB m.vol), .string ((⟨#[115, 101, 101, 110, 61]⟩ : ByteArray) ++ seenB m.seen)] 9))
  go_simp
  refine hK.out _ _ (HSB.out _ HB5.out) (fun hHeld => ?_)
  clear hK K
  (try simp only [Act.put, List.setIfInBounds_toArray, List.set_cons_zero, List.set_cons_succ])
  refine Vc.wpAnyH_read (i := 16) (d := some 4) (v := ?vz13) (by rfl) (by rfl) (by kernel_rfl) (by kernel_rfl) (by kernel_rfl) (fun _ _ _ h => h) (by rfl) ?hyz13 (by assumption) ?restz13
  case hyz13 =>
    intro w hSw
    obtain ⟨s0, s1, s2, s3, s4⟩ := hSw
    go_simp
    try with_reducible rfl
  (try simp only [Act.put, List.setIfInBounds_toArray, List.set_cons_zero, List.set_cons_succ])
  refine wpAnyH_done (by kernel_rfl) ?_ _
  have HG5 := Lib.hid (HG1.out.below HB5.out)
  have HK5 := Lib.hid (HK1.out.below HB5.out)
  have HY := Lib.hid (Has.fresh w4 9 #[.string ⟨#[97, 115, 107]⟩, .string (pairB m.fr ⟨#[62]⟩ m.to), .string ((⟨#[118]⟩ : ByteArray) ++ itoaB m.vol), .string ((⟨#[115, 101, 101, 110, 61]⟩ : ByteArray) ++ seenB m.seen)])
  have HI := Lib.hid (show TexI w w1.heap.size m #[.string ⟨#[97, 115, 107]⟩, .bool true, .bool true, .bool true, .bool false, .bool false] (w4.alloc (.cells #[.string ⟨#[97, 115, 107]⟩, .string (pairB m.fr ⟨#[62]⟩ m.to), .string ((⟨#[118]⟩ : ByteArray) ++ itoaB m.vol), .string ((⟨#[115, 101, 101, 110, 61]⟩ : ByteArray) ++ seenB m.seen)] 9)) (.slice (some ⟨w4.heap.size, 0, none⟩) 4 4) (parts0 m ⟨#[97, 115, 107]⟩) from ⟨HBw.out.trans (HB5.out.mono HBw.out.size), ⟨rfl, .inr ⟨w4.heap.size, 4, #[.string ⟨#[97, 115, 107]⟩, .string (pairB m.fr ⟨#[62]⟩ m.to), .string ((⟨#[118]⟩ : ByteArray) ++ itoaB m.vol), .string ((⟨#[115, 101, 101, 110, 61]⟩ : ByteArray) ++ seenB m.seen)], rfl, by have h := HB4.out.size; rw [World.size_alloc] at h; exact h, heap_alloc_new w4 _, Nat.le_refl _, by decide, rfl, rfl⟩⟩, HG5.out, HK5.out, HLO.out⟩)
  clear a1 a2 HP HIT HSE HG5 HK5 HY HB5
  have u1 : (w4.alloc (.cells #[.string ⟨#[97, 115, 107]⟩, .string (pairB m.fr ⟨#[62]⟩ m.to), .string ((⟨#[118]⟩ : ByteArray) ++ itoaB m.vol), .string ((⟨#[115, 101, 101, 110, 61]⟩ : ByteArray) ++ seenB m.seen)] 9)).cell? ⟨w1.heap.size, 1, none⟩ = some (.bool true) := HI.out.kind.at_ 1
  have HMR := Lib.hid (base_range HI.out.msg)
  go_wp2_with (first | ((with_reducible refine Who.wpList_loadC 23 (.tmp 27) rfl w.heap.size 4 (#[.int .i64 m.base.1, .int .i64 m.base.2]) ?_); refine And.intro ⟨by rfl, by rfl, ⟨_, Tryd.underlying23, rfl⟩, info_mark⟩ (And.intro HMR.out ?_); (try simp only [Act.put, List.setIfInBounds_toArray, List.set_cons_zero, List.set_cons_succ])) | fail)
  refine (HMB.out _ (HTW.out.self HI.out.below)).mono ?_
  rintro e w5 ⟨rfl, hb⟩
  have HI2 := Lib.hid (HI.out.low hb)
  have HS := Lib.hid (show w1.heap.size + 1 ≤ (w5.alloc (.cells #[.string ((⟨#[98, 97, 115, 101, 61]⟩ : ByteArray) ++ pairB m.base.1 ⟨#[46]⟩ m.base.2)] 9)).heap.size from by have := HI2.out.kind.bound; rw [World.size_alloc]; omega)
  clear hb u1 HMR
  go_wp2_with (at_builtin; refine wpList_append_lies _ rfl (.tmp 26) (.tmp 31) 51 rfl (w1.heap.size + 1) 9 i0 (.string ⟨#[]⟩) 1 16 Tryd.underlying51 HII.out.1 HII.out.2.1 HII.out.2.2.1 HII.out.2.2.2 rfl (by decide) (.slice (some ⟨w4.heap.size, 0, none⟩) 4 4) 4 ((parts0 m ⟨#[97, 115, 107]⟩).map Value.string) rfl (World.ownsRow.alloc HI2.out.row _) ⟨w5.heap.size, 0, none⟩ 1 1 [.string ((⟨#[98, 97, 115, 101, 61]⟩ : ByteArray) ++ pairB m.base.1 ⟨#[46]⟩ m.base.2)] rfl rfl ?c14 ?c24 (by decide) (by unfold maxLen; omega) (by omega) HS.out _ rfl ?_)
  case c14 => exact World.news_of_block (Has.fresh w5 9 #[.string ((⟨#[98, 97, 115, 101, 61]⟩ : ByteArray) ++ pairB m.base.1 ⟨#[46]⟩ m.base.2)])
  case c24 => exact fun u hu => by simp at hu; subst hu; rfl
  intro g1 cap4 w6 ho hg2 hor hlt2
  have HI3 := Lib.hid (TexI.step HI2.out rfl ho hg2)
  clear ho hg2 hor hlt2 HS a3
  have u2 : w6.cell? ⟨w1.heap.size, 2, none⟩ = some (.bool true) := HI3.out.kind.at_ 2
  have HMR := Lib.hid (mark_range HI3.out.msg)
  go_wp2_with (first | ((with_reducible refine Who.wpList_loadC 23 (.tmp 36) rfl w.heap.size 6 (#[.int .i64 m.mark.1, .int .i64 m.mark.2]) ?_); refine And.intro ⟨by rfl, by rfl, ⟨_, Tryd.underlying23, rfl⟩, info_mark⟩ (And.intro HMR.out ?_); (try simp only [Act.put, List.setIfInBounds_toArray, List.set_cons_zero, List.set_cons_succ])) | fail)
  refine (HMK.out _ (HTW.out.self HI3.out.below)).mono ?_
  rintro e w7 ⟨rfl, hb⟩
  have HI4 := Lib.hid (HI3.out.low hb)
  have HS := Lib.hid (show w1.heap.size + 1 ≤ (w7.alloc (.cells #[.string ((⟨#[109, 97, 114, 107, 61]⟩ : ByteArray) ++ pairB m.mark.1 ⟨#[46]⟩ m.mark.2)] 9)).heap.size from by have := HI4.out.kind.bound; rw [World.size_alloc]; omega)
  clear hb u2 HMR
  go_wp2_with (at_builtin; refine wpList_append_lies _ rfl (.tmp 35) (.tmp 40) 51 rfl (w1.heap.size + 1) 9 i0 (.string ⟨#[]⟩) 1 16 Tryd.underlying51 HII.out.1 HII.out.2.1 HII.out.2.2.1 HII.out.2.2.2 rfl (by decide) (.slice (some ⟨g1, 0, none⟩) 5 cap4) 5 ((parts0 m ⟨#[97, 115, 107]⟩ ++ [((⟨#[98, 97, 115, 101, 61]⟩ : ByteArray) ++ pairB m.base.1 ⟨#[46]⟩ m.base.2)]).map Value.string) rfl (World.ownsRow.alloc HI4.out.row _) ⟨w7.heap.size, 0, none⟩ 1 1 [.string ((⟨#[109, 97, 114, 107, 61]⟩ : ByteArray) ++ pairB m.mark.1 ⟨#[46]⟩ m.mark.2)] rfl rfl ?c15 ?c25 (by decide) (by unfold maxLen; omega) (by omega) HS.out _ rfl ?_)
  case c15 => exact World.news_of_block (Has.fresh w7 9 #[.string ((⟨#[109, 97, 114, 107, 61]⟩ : ByteArray) ++ pairB m.mark.1 ⟨#[46]⟩ m.mark.2)])
  case c25 => exact fun u hu => by simp at hu; subst hu; rfl
  intro g2 cap5 w8 ho hg2 hor hlt2
  have HI5 := Lib.hid (TexI.step HI4.out rfl ho hg2)
  clear ho hg2 hor hlt2 HS a4
  have u0 : w8.cell? ⟨w.heap.size, 0, none⟩ = some (.int .i64 1) := HQ.out ▸ HI5.out.msg.at_ 0
  have u8 : w8.cell? ⟨w.heap.size, 8, none⟩ = some (.int .i64 m.ix) := HI5.out.msg.at_ 8
  go_wp2_with fail
  refine (HMI.out _ (HTW.out.self HI5.out.below)).mono ?_
  rintro e w9 ⟨rfl, hb⟩
  have HI6 := Lib.hid (HI5.out.low hb)
  have HS := Lib.hid (show w1.heap.size + 1 ≤ (w9.alloc (.cells #[.string ((⟨#[102, 114, 111, 109, 61]⟩ : ByteArray) ++ itoaB m.ix)] 9)).heap.size from by have := HI6.out.kind.bound; rw [World.size_alloc]; omega)
  clear hb u0 u8
  go_wp2_with (at_builtin; refine wpList_append_lies _ rfl (.tmp 46) (.tmp 51) 51 rfl (w1.heap.size + 1) 9 i0 (.string ⟨#[]⟩) 1 16 Tryd.underlying51 HII.out.1 HII.out.2.1 HII.out.2.2.1 HII.out.2.2.2 rfl (by decide) (.slice (some ⟨g2, 0, none⟩) 6 cap5) 6 ((parts0 m ⟨#[97, 115, 107]⟩ ++ [((⟨#[98, 97, 115, 101, 61]⟩ : ByteArray) ++ pairB m.base.1 ⟨#[46]⟩ m.base.2)] ++ [((⟨#[109, 97, 114, 107, 61]⟩ : ByteArray) ++ pairB m.mark.1 ⟨#[46]⟩ m.mark.2)]).map Value.string) rfl (World.ownsRow.alloc HI6.out.row _) ⟨w9.heap.size, 0, none⟩ 1 1 [.string ((⟨#[102, 114, 111, 109, 61]⟩ : ByteArray) ++ itoaB m.ix)] rfl rfl ?c16 ?c26 (by decide) (by unfold maxLen; omega) (by omega) HS.out _ rfl ?_)
  case c16 => exact World.news_of_block (Has.fresh w9 9 #[.string ((⟨#[102, 114, 111, 109, 61]⟩ : ByteArray) ++ itoaB m.ix)])
  case c26 => exact fun u hu => by simp at hu; subst hu; rfl
  intro g3 cap6 w10 ho hg2 hor hlt2
  have HI7 := Lib.hid (TexI.step HI6.out rfl ho hg2)
  clear ho hg2 hor hlt2 HS a5
  have HJ := Lib.hid (join_own ⟨#[32]⟩ HI7.out.row ⟨(by decide : (7 : Nat) ≤ 1000), join_small ⟨#[32]⟩ (by decide) (fun p hp => (List.mem_append.1 hp).elim (fun hp => (List.mem_append.1 hp).elim (fun hp => (List.mem_append.1 hp).elim (parts0_small HM.out (wd := ⟨#[97, 115, 107]⟩) (by decide) p) (fun h => by rw [List.mem_singleton.1 h]; exact HXS.out.1)) (fun h => by rw [List.mem_singleton.1 h]; exact HXS.out.2.1)) (fun h => by rw [List.mem_singleton.1 h]; exact HXS.out.2.2)) (by decide : (7 : Nat) ≤ 20)⟩ w10)
  go_wp2_with fail
  refine HJ.out.mono ?_
  rintro e w11 ⟨rfl, hb⟩
  have HBZ := Lib.hid (HI7.out.below.trans (hb.mono HI7.out.below.size))
  clear hb
  go_wp2
  go_ret
  exact ⟨rfl, HBZ.out⟩
end Go.Proofs.YtfjmcklmoebnaaaDoor.Mg
/- A message of no kind, as text: the program's. -/
namespace Go.Proofs.YtfjmcklmoebnaaaDoor.Mg
open Go.RowKit Go.Proofs.YtfjmcklmoebnaaaDoor.Mem Go.Proofs.YtfjmcklmoebnaaaDoor.Nt
open Go.Proofs.YtfjmcklmoebnaaaDoor.Vc (vecC)
set_option linter.unusedVariables false set_option linter.unusedSimpArgs false

set_option maxRecDepth 100000 in
set_option maxHeartbeats 2000000 in
theorem text_k0 (m : MsgP) (hm : FitM m) (q : m.kind ≠ 1 ∧ m.kind ≠ 2 ∧ m.kind ≠ 3 ∧ m.kind ≠ 4) (w : World) (hT : Tabs w) : Calls Tryd.prog 13 #[.agg (msgC m)] w fun e w' => e = .returned (.string (joinB (parts0 m ⟨#[110, 111, 110, 101]⟩) ⟨#[32]⟩)) ∧ Below w.heap.size w w' := by
  have HK := Lib.hid (show ∀ W, Calls Tryd.prog 27 #[.int .i64 m.kind] W fun e w' => e = .returned (.agg #[.string ⟨#[110, 111, 110, 101]⟩, .bool false, .bool false, .bool false, .bool false, .bool false]) ∧ Below W.heap.size W w' from fun W => (show kindC m.kind = #[.string ⟨#[110, 111, 110, 101]⟩, .bool false, .bool false, .bool false, .bool false, .bool false] by unfold kindC; simp [q.1, q.2.1, q.2.2.1, q.2.2.2]) ▸ kindOf_any m.kind W)
  have HJS := Lib.hid (join_small ⟨#[32]⟩ (by decide) (parts0_small hm (wd := ⟨#[110, 111, 110, 101]⟩) (by decide)) (by decide : (4 : Nat) ≤ 20))
  have HP := Lib.hid (fun V (h : Tabs V) => pair_any m.fr ⟨#[62]⟩ m.to hm.1.2.1 hm.1.2.2.1 (by decide) V h)
  have HIT := Lib.hid (fun V (h : Tabs V) => itoa_any m.vol hm.1.2.2.2 V h)
  have HSE := Lib.hid (fun V (h : Tabs V) => seen_any m.seen hm.2.2.2.2.1 V h)
  have s1 := itoaB_size hm.1.2.2.2
  have s2 := seenB_size hm.2.2.2.2.1
  have z2 : (⟨#[118]⟩ : ByteArray).size = 1 := rfl
  have z3 : (⟨#[115, 101, 101, 110, 61]⟩ : ByteArray).size = 5 := rfl
  have a1 := fun W => run_string_add_sum (P := Tryd.prog) W ⟨#[118]⟩ (itoaB m.vol) (by omega)
  have a2 := fun W => run_string_add_sum (P := Tryd.prog) W ⟨#[115, 101, 101, 110, 61]⟩ (seenB m.seen) (by omega)
  have hb0 := (Below.refl w.heap.size w).alloc (Nat.le_refl _) (.cells (msgC m) 27)
  have HB0 := Lib.hid hb0
  have HG0 := Lib.hid (Has.fresh w 27 (msgC m))
  have HT0 := Lib.hid (hT.self hb0)
  have c0 : (w.alloc (.cells (msgC m) 27)).cell? ⟨w.heap.size, 0, none⟩ = some (.int .i64 m.kind) := HG0.out.at_ 0
  have HQ := Lib.hid q
  clear s1 s2 z2 z3 hb0 hT hm q
  go_enter Tryd.func13, Tryd.ntmps13
  go_wp2_with fail
  with_reducible refine (HK.out _).mono ?_
  rintro e w1 ⟨rfl, hb⟩
  have HBw := Lib.hid ((HB0.out.trans (hb.mono HB0.out.size)).alloc (HB0.out.trans (hb.mono HB0.out.size)).size (.cells #[.string ⟨#[110, 111, 110, 101]⟩, .bool false, .bool false, .bool false, .bool false, .bool false] 47))
  have HG1 := Lib.hid ((HG0.out.below hb).past (.cells #[.string ⟨#[110, 111, 110, 101]⟩, .bool false, .bool false, .bool false, .bool false, .bool false] 47))
  have HK1 := Lib.hid (Has.fresh w1 47 #[.string ⟨#[110, 111, 110, 101]⟩, .bool false, .bool false, .bool false, .bool false, .bool false])
  have HT1 := Lib.hid ((HT0.out.self hb).self ((Below.refl w1.heap.size w1).alloc (Nat.le_refl _) (.cells #[.string ⟨#[110, 111, 110, 101]⟩, .bool false, .bool false, .bool false, .bool false, .bool false] 47)))
  have HB1 := Lib.hid ((Below.refl (w1.alloc (.cells #[.string ⟨#[110, 111, 110, 101]⟩, .bool false, .bool false, .bool false, .bool false, .bool false] 47)).heap.size (w1.alloc (.cells #[.string ⟨#[110, 111, 110, 101]⟩, .bool false, .bool false, .bool false, .bool false, .bool false] 47))).drew)
  have HTB := Lib.hid (fun V (h : Below (w1.alloc (.cells #[.string ⟨#[110, 111, 110, 101]⟩, .bool false, .bool false, .bool false, .bool false, .bool false] 47)).heap.size (w1.alloc (.cells #[.string ⟨#[110, 111, 110, 101]⟩, .bool false, .bool false, .bool false, .bool false, .bool false] 47)) V) => HT1.out.self h)
  have HSB := Lib.hid (show ∀ V, Below (w1.alloc (.cells #[.string ⟨#[110, 111, 110, 101]⟩, .bool false, .bool false, .bool false, .bool false, .bool false] 47)).heap.size (w1.alloc (.cells #[.string ⟨#[110, 111, 110, 101]⟩, .bool false, .bool false, .bool false, .bool false, .bool false] 47)) V → V.cell? ⟨w1.heap.size, 0, none⟩ = some (.string ⟨#[110, 111, 110, 101]⟩) ∧ V.cell? ⟨w.heap.size, 1, none⟩ = some (.int .i64 m.fr) ∧ V.cell? ⟨w.heap.size, 2, none⟩ = some (.int .i64 m.to) ∧ V.cell? ⟨w.heap.size, 3, none⟩ = some (.int .i64 m.vol) ∧ V.rangeAt w.heap.size 10 (vecC m.seen).toList from fun V h => ⟨(HK1.out.below h).at_ 0, (HG1.out.below h).at_ 1, (HG1.out.below h).at_ 2, (HG1.out.below h).at_ 3, seen_range (HG1.out.below h)⟩)
  clear hb c0 HK HG0 HT0 HB0
  go_wp2
  refine wp_region_held_drew (S := fun V => V.cell? ⟨w1.heap.size, 0, none⟩ = some (.string ⟨#[110, 111, 110, 101]⟩) ∧ V.cell? ⟨w.heap.size, 1, none⟩ = some (.int .i64 m.fr) ∧ V.cell? ⟨w.heap.size, 2, none⟩ = some (.int .i64 m.to) ∧ V.cell? ⟨w.heap.size, 3, none⟩ = some (.int .i64 m.vol) ∧ V.rangeAt w.heap.size 10 (vecC m.seen).toList) (by kernel_rfl) (HSB.out _ HB1.out) (fun hHeld => ?_)
  refine Vc.wpAnyH_read (i := 0) (d := some 8) (v := ?vz1) (by rfl) (by rfl) (by kernel_rfl) (by kernel_rfl) (by kernel_rfl) (fun _ _ _ h => h) (by rfl) ?hyz1 (by assumption) ?restz1
  case hyz1 =>
    intro w hSw
    obtain ⟨s0, s1, s2, s3, s4⟩ := hSw
    go_simp
    try with_reducible rfl
  (try simp only [Act.put, List.setIfInBounds_toArray, List.set_cons_zero, List.set_cons_succ])
  refine Vc.wpAnyH_read (i := 1) (d := some 9) (v := ?vz2) (by rfl) (by rfl) (by kernel_rfl) (by kernel_rfl) (by kernel_rfl) (fun _ _ _ h => h) (by rfl) ?hyz2 (by assumption) ?restz2
  case hyz2 =>
    intro w hSw
    obtain ⟨s0, s1, s2, s3, s4⟩ := hSw
    go_simp
    try with_reducible rfl
  (try simp only [Act.put, List.setIfInBounds_toArray, List.set_cons_zero, List.set_cons_succ])
  refine Vc.wpAnyH_read (i := 2) (d := some 10) (v := ?vz3) (by rfl) (by rfl) (by kernel_rfl) (by kernel_rfl) (by kernel_rfl) (fun _ _ _ h => h) (by rfl) ?hyz3 (by assumption) ?restz3
  case hyz3 =>
    intro w hSw
    obtain ⟨s0, s1, s2, s3, s4⟩ := hSw
    go_simp
    try with_reducible rfl
  (try simp only [Act.put, List.setIfInBounds_toArray, List.set_cons_zero, List.set_cons_succ])
  refine Vc.wpAnyH_read (i := 3) (d := some 11) (v := ?vz4) (by rfl) (by rfl) (by kernel_rfl) (by kernel_rfl) (by kernel_rfl) (fun _ _ _ h => h) (by rfl) ?hyz4 (by assumption) ?restz4
  case hyz4 =>
    intro w hSw
    obtain ⟨s0, s1, s2, s3, s4⟩ := hSw
    go_simp
    try with_reducible rfl
  (try simp only [Act.put, List.setIfInBounds_toArray, List.set_cons_zero, List.set_cons_succ])
  refine Vc.wpAnyH_read (i := 4) (d := some 12) (v := ?vz5) (by rfl) (by rfl) (by kernel_rfl) (by kernel_rfl) (by kernel_rfl) (fun _ _ _ h => h) (by rfl) ?hyz5 (by assumption) ?restz5
  case hyz5 =>
    intro w hSw
    obtain ⟨s0, s1, s2, s3, s4⟩ := hSw
    go_simp
    try with_reducible rfl
  (try simp only [Act.put, List.setIfInBounds_toArray, List.set_cons_zero, List.set_cons_succ])
  refine Vc.wpAnyH_read (i := 5) (d := some 13) (v := ?vz6) (by rfl) (by rfl) (by kernel_rfl) (by kernel_rfl) (by kernel_rfl) (fun _ _ _ h => h) (by rfl) ?hyz6 (by assumption) ?restz6
  case hyz6 =>
    intro w hSw
    obtain ⟨s0, s1, s2, s3, s4⟩ := hSw
    go_simp
    try with_reducible rfl
  (try simp only [Act.put, List.setIfInBounds_toArray, List.set_cons_zero, List.set_cons_succ])
  refine Vc.wpAnyH_read (i := 7) (d := some 15) (v := ?vz7) (by rfl) (by rfl) (by kernel_rfl) (by kernel_rfl) (by kernel_rfl) (fun _ _ _ h => h) (by rfl) ?hyz7 (by assumption) ?restz7
  case hyz7 =>
    intro w hSw
    obtain ⟨s0, s1, s2, s3, s4⟩ := hSw
    go_simp
    try with_reducible rfl
  (try simp only [Act.put, List.setIfInBounds_toArray, List.set_cons_zero, List.set_cons_succ])
  refine Vc.wpAnyH_read (i := 8) (d := some 16) (v := ?vz8) (by rfl) (by rfl) (by kernel_rfl) (by kernel_rfl) (by kernel_rfl) (fun _ _ _ h => h) (by rfl) ?hyz8 (by assumption) ?restz8
  case hyz8 =>
    intro w hSw
    obtain ⟨s0, s1, s2, s3, s4⟩ := hSw
    go_simp
    try with_reducible rfl
  (try simp only [Act.put, List.setIfInBounds_toArray, List.set_cons_zero, List.set_cons_succ])
  refine Vc.wpAnyH_read (i := 11) (d := some 19) (v := ?vz9) (by rfl) (by rfl) (by kernel_rfl) (by kernel_rfl) (by kernel_rfl) (fun _ _ _ h => h) (by rfl) ?hyz9 (by assumption) ?restz9
  case hyz9 =>
    intro w hSw
    obtain ⟨s0, s1, s2, s3, s4⟩ := hSw
    go_simp
    try with_reducible rfl
  (try simp only [Act.put, List.setIfInBounds_toArray, List.set_cons_zero, List.set_cons_succ])
  refine Vc.wpAnyH_read (i := 12) (d := some 20) (v := .agg (vecC m.seen)) (by rfl) (by rfl) (by kernel_rfl) (by kernel_rfl) (by kernel_rfl) (fun _ _ _ h => h) (by rfl) ?hyz10 (by assumption) ?restz10
  case hyz10 =>
    intro w hSw
    obtain ⟨s0, s1, s2, s3, s4⟩ := hSw
    exact Who.exec_loadA _ rfl rfl s4 Tryd.underlying25 rfl info_vec
  (try simp only [Act.put, List.setIfInBounds_toArray, List.set_cons_zero, List.set_cons_succ])
  refine wpAnyH_ready (rs := [6]) (by kernel_rfl) (by simp) ?_
  refine AllReadyH.cons rfl (fun K hK => ?_) AllReadyH.nil
  go_simp
  go_at_call 28
  refine (HP.out _ (HTB.out _ HB1.out)).mono ?_
  rintro e w2 ⟨rfl, hb⟩
  have HB2 := Lib.hid (HB1.out.trans (hb.mono HB1.out.size))
  clear hb
  refine hK.out _ _ (HSB.out _ HB2.out) (fun hHeld => ?_)
  clear hK K
  (try simp only [Act.put, List.setIfInBounds_toArray, List.set_cons_zero, List.set_cons_succ])
  refine wpAnyH_ready (rs := [9]) (by kernel_rfl) (by simp) ?_
  refine AllReadyH.cons rfl (fun K hK => ?_) AllReadyH.nil
  go_simp
  go_at_call 29
  refine (HIT.out _ (HTB.out _ HB2.out)).mono ?_
  rintro e w3 ⟨rfl, hb⟩
  have HB3 := Lib.hid (HB2.out.trans (hb.mono HB2.out.size))
  clear hb
  refine hK.out _ _ (HSB.out _ HB3.out) (fun hHeld => ?_)
  clear hK K
  (try simp only [Act.put, List.setIfInBounds_toArray, List.set_cons_zero, List.set_cons_succ])
  refine Vc.wpAnyH_read (i := 10) (d := some 18) (v := ?vz11) (by rfl) (by rfl) (by kernel_rfl) (by kernel_rfl) (by kernel_rfl) (fun _ _ _ h => h) (by rfl) ?hyz11 (by assumption) ?restz11
  case hyz11 =>
    intro w hSw
    obtain ⟨s0, s1, s2, s3, s4⟩ := hSw
    go_simp
    try with_reducible rfl
  (try simp only [Act.put, List.setIfInBounds_toArray, List.set_cons_zero, List.set_cons_succ])
  refine wpAnyH_ready (rs := [13]) (by kernel_rfl) (by simp) ?_
  refine AllReadyH.cons rfl (fun K hK => ?_) AllReadyH.nil
  go_simp
  go_at_call 15
  refine (HSE.out _ (HTB.out _ HB3.out)).mono ?_
  rintro e w4 ⟨rfl, hb⟩
  have HB4 := Lib.hid (HB3.out.trans (hb.mono HB3.out.size))
  clear hb
  refine hK.out _ _ (HSB.out _ HB4.out) (fun hHeld => ?_)
  clear hK K
  (try simp only [Act.put, List.setIfInBounds_toArray, List.set_cons_zero, List.set_cons_succ])
  refine Vc.wpAnyH_read (i := 14) (d := some 22) (v := ?vz12) (by rfl) (by rfl) (by kernel_rfl) (by kernel_rfl) (by kernel_rfl) (fun _ _ _ h => h) (by rfl) ?hyz12 (by assumption) ?restz12
  case hyz12 =>
    intro w hSw
    obtain ⟨s0, s1, s2, s3, s4⟩ := hSw
    go_simp
    try with_reducible rfl
  (try simp only [Act.put, List.setIfInBounds_toArray, List.set_cons_zero, List.set_cons_succ])
  refine wpAnyH_ready (rs := [15]) (by kernel_rfl) (by simp) ?_
  refine AllReadyH.cons rfl (fun K hK => ?_) AllReadyH.nil
  have HB5 := Lib.hid (HB4.out.alloc HB4.out.size (.cells #[.string ⟨#[110, 111, 110, 101]⟩, .string (pairB m.fr ⟨#[62]⟩ m.to), .string ((⟨#[118]⟩ : ByteArray) ++ itoaB m.vol), .string ((⟨#[115, 101, 101, 110, 61]⟩ : ByteArray) ++ seenB m.seen)] 9))
  go_simp
  refine hK.out _ _ (HSB.out _ HB5.out) (fun hHeld => ?_)
  clear hK K
  (try simp only [Act.put, List.setIfInBounds_toArray, List.set_cons_zero, List.set_cons_succ])
  refine Vc.wpAnyH_read (i := 16) (d := some 4) (v := ?vz13) (by rfl) (by rfl) (by kernel_rfl) (by kernel_rfl) (by kernel_rfl) (fun _ _ _ h => h) (by rfl) ?hyz13 (by assumption) ?restz13
  case hyz13 =>
    intro w hSw
    obtain ⟨s0, s1, s2, s3, s4⟩ := hSw
    go_simp
    try with_reducible rfl
  (try simp only [Act.put, List.setIfInBounds_toArray, List.set_cons_zero, List.set_cons_succ])
  refine wpAnyH_done (by kernel_rfl) ?_ _
  have HG5 := Lib.hid (HG1.out.below HB5.out)
  have HK5 := Lib.hid (HK1.out.below HB5.out)
  have HY := Lib.hid (Has.fresh w4 9 #[.string ⟨#[110, 111, 110, 101]⟩, .string (pairB m.fr ⟨#[62]⟩ m.to), .string ((⟨#[118]⟩ : ByteArray) ++ itoaB m.vol), .string ((⟨#[115, 101, 101, 110, 61]⟩ : ByteArray) ++ seenB m.seen)])
  have u1 : (w4.alloc (.cells #[.string ⟨#[110, 111, 110, 101]⟩, .string (pairB m.fr ⟨#[62]⟩ m.to), .string ((⟨#[118]⟩ : ByteArray) ++ itoaB m.vol), .string ((⟨#[115, 101, 101, 110, 61]⟩ : ByteArray) ++ seenB m.seen)] 9)).cell? ⟨w1.heap.size, 1, none⟩ = some (.bool false) := HK5.out.at_ 1
  have u2 : (w4.alloc (.cells #[.string ⟨#[110, 111, 110, 101]⟩, .string (pairB m.fr ⟨#[62]⟩ m.to), .string ((⟨#[118]⟩ : ByteArray) ++ itoaB m.vol), .string ((⟨#[115, 101, 101, 110, 61]⟩ : ByteArray) ++ seenB m.seen)] 9)).cell? ⟨w1.heap.size, 2, none⟩ = some (.bool false) := HK5.out.at_ 2
  have u0 : (w4.alloc (.cells #[.string ⟨#[110, 111, 110, 101]⟩, .string (pairB m.fr ⟨#[62]⟩ m.to), .string ((⟨#[118]⟩ : ByteArray) ++ itoaB m.vol), .string ((⟨#[115, 101, 101, 110, 61]⟩ : ByteArray) ++ seenB m.seen)] 9)).cell? ⟨w.heap.size, 0, none⟩ = some (.int .i64 m.kind) := HG5.out.at_ 0
  have HJ := Lib.hid (show Calls Tryd.prog 31 #[.slice (some ⟨w4.heap.size, 0, none⟩) 4 4, .string ⟨#[32]⟩] (w4.alloc (.cells #[.string ⟨#[110, 111, 110, 101]⟩, .string (pairB m.fr ⟨#[62]⟩ m.to), .string ((⟨#[118]⟩ : ByteArray) ++ itoaB m.vol), .string ((⟨#[115, 101, 101, 110, 61]⟩ : ByteArray) ++ seenB m.seen)] 9)) fun e w' => e = .returned (.string (joinB (parts0 m ⟨#[110, 111, 110, 101]⟩) ⟨#[32]⟩)) ∧ Below (w4.alloc (.cells #[.string ⟨#[110, 111, 110, 101]⟩, .string (pairB m.fr ⟨#[62]⟩ m.to), .string ((⟨#[118]⟩ : ByteArray) ++ itoaB m.vol), .string ((⟨#[115, 101, 101, 110, 61]⟩ : ByteArray) ++ seenB m.seen)] 9)).heap.size (w4.alloc (.cells #[.string ⟨#[110, 111, 110, 101]⟩, .string (pairB m.fr ⟨#[62]⟩ m.to), .string ((⟨#[118]⟩ : ByteArray) ++ itoaB m.vol), .string ((⟨#[115, 101, 101, 110, 61]⟩ : ByteArray) ++ seenB m.seen)] 9)) w' from
    Tryd.strings_Join w4.heap.size 0 4 (parts0 m ⟨#[110, 111, 110, 101]⟩) ⟨#[32]⟩ (w4.alloc (.cells #[.string ⟨#[110, 111, 110, 101]⟩, .string (pairB m.fr ⟨#[62]⟩ m.to), .string ((⟨#[118]⟩ : ByteArray) ++ itoaB m.vol), .string ((⟨#[115, 101, 101, 110, 61]⟩ : ByteArray) ++ seenB m.seen)] 9)) (fun j x hj => by rw [Nat.zero_add]; exact (HY.out.at_ j).trans (lit_cells _ j x hj)) HY.out.bound (by show 4 ≤ 140737488355328; omega) (by show 4 ≤ 4; omega) (Nat.le_trans HJS.out (by omega)))
  have HBE := Lib.hid (HBw.out.trans (HB5.out.mono HBw.out.size))
  have y1 : (m.kind == 1) = false := beq_eq_false_iff_ne.2 HQ.out.1
  have y2 : (m.kind == 2) = false := beq_eq_false_iff_ne.2 HQ.out.2.1
  clear a1 a2 HP HIT HSE
  go_wp2_with fail
  refine HJ.out.mono ?_
  rintro e w6 ⟨rfl, hb⟩
  have HBZ := Lib.hid (HBE.out.trans (hb.mono HBE.out.size))
  clear hb
  go_wp2
  go_ret
  exact ⟨rfl, HBZ.out⟩
end Go.Proofs.YtfjmcklmoebnaaaDoor.Mg
/- A part of a message, as text: the program's. -/
namespace Go.Proofs.YtfjmcklmoebnaaaDoor.Mg
open Go.RowKit Go.Proofs.YtfjmcklmoebnaaaDoor.Mem Go.Proofs.YtfjmcklmoebnaaaDoor.Nt
open Go.Proofs.YtfjmcklmoebnaaaDoor.Vc (vecC)
set_option linter.unusedVariables false set_option linter.unusedSimpArgs false

theorem TexI.step2 {w w2 w5 : World} {W1 n : Nat} {m : MsgP} {C : Array Value} {u u' : Value} {xs : List ByteArray} {b b2 : ByteArray} (h : TexI w W1 m C w2 u xs) (hn : n = xs.length) (ho : w5.ownsRow (W1 + 1) 9 1 u' (n + 2) (xs.map Value.string ++ [.string b, .string b2])) (hg : (w2.alloc (.cells #[.string b, .string b2] 9)).grownBy w5 u.ownBlock) : TexI w W1 m C w5 u' (xs ++ [b, b2]) := by
  have hl := World.ownsRow.lt h.row
  have hlo := h.lo
  have c : Chg (fun k => u.ownBlock = some k) (w2.alloc (.cells #[.string b, .string b2] 9)) w5 := ⟨hg.os, hg.tape, hg.output, hg.size, fun k hk hn => hg.block k hk (fun e => hn e.symm)⟩
  refine ⟨(h.below.alloc h.below.size _).grown hg (Nat.le_trans h.below.size (by simp)) (fun q hq => by have := (hl q hq).1; omega), ?_, (h.msg.past _).over c (fun e => by have := (hl _ e).1; omega), (h.kind.past _).over c (fun e => by have := (hl _ e).1; omega), hlo⟩
  unfold OwnS
  rw [List.length_append, List.map_append, ← hn]
  exact ho
set_option maxRecDepth 100000 in
set_option maxHeartbeats 2000000 in
theorem text_k2 (m : MsgP) (hm : FitM m) (q : m.kind = 2) (w : World) (hT : Tabs w) : Calls Tryd.prog 13 #[.agg (msgC m)] w fun e w' => e = .returned (.string (joinB (parts0 m ⟨#[112, 97, 114, 116]⟩ ++ [((⟨#[98, 97, 115, 101, 61]⟩ : ByteArray) ++ pairB m.base.1 ⟨#[46]⟩ m.base.2)] ++ [((⟨#[109, 97, 114, 107, 61]⟩ : ByteArray) ++ pairB m.mark.1 ⟨#[46]⟩ m.mark.2)] ++ [((⟨#[112, 97, 114, 116, 61]⟩ : ByteArray) ++ pairB m.ix ⟨#[47]⟩ m.tot), ((⟨#[98, 121, 116, 101, 115, 61]⟩ : ByteArray) ++ itoaB (m.data.size : Int))]) ⟨#[32]⟩)) ∧ Below w.heap.size w w' := by
  obtain ⟨i0, hi, hz0, hz1, hz2⟩ := info_parts info_s
  have HII := Lib.hid (And.intro hi (And.intro hz0 (And.intro hz1 hz2)))
  clear hi hz0 hz1 hz2
  have HM := Lib.hid hm
  have HTW := Lib.hid hT
  have HMB := Lib.hid (fun V (h : Tabs V) => markText_any m.base hm.2.1.1 hm.2.1.2 V h)
  have HMK := Lib.hid (fun V (h : Tabs V) => markText_any m.mark hm.2.2.1.1 hm.2.2.1.2 V h)
  have fd : fitI (m.data.size : Int) := by have := hm.2.2.2.2.2; unfold fitI; omega
  have HMI := Lib.hid (fun V (h : Tabs V) => pair_any m.ix ⟨#[47]⟩ m.tot hm.2.2.2.1.1 hm.2.2.2.1.2 (by decide) V h)
  have HMD := Lib.hid (fun V (h : Tabs V) => itoa_any (m.data.size : Int) fd V h)
  have s3 := pairB_size (s := ⟨#[46]⟩) hm.2.1.1 hm.2.1.2
  have s4 := pairB_size (s := ⟨#[46]⟩) hm.2.2.1.1 hm.2.2.1.2
  have s5 := pairB_size (s := ⟨#[47]⟩) hm.2.2.2.1.1 hm.2.2.2.1.2
  have s6 := itoaB_size fd
  have z8 : (⟨#[47]⟩ : ByteArray).size = 1 := rfl
  have z9 : (⟨#[98, 121, 116, 101, 115, 61]⟩ : ByteArray).size = 6 := rfl
  have z4 : (⟨#[46]⟩ : ByteArray).size = 1 := rfl
  have z5 : (⟨#[109, 97, 114, 107, 61]⟩ : ByteArray).size = 5 := rfl
  have z6 : (⟨#[98, 97, 115, 101, 61]⟩ : ByteArray).size = 5 := rfl
  have z7 : (⟨#[112, 97, 114, 116, 61]⟩ : ByteArray).size = 5 := rfl
  have a3 := fun W => run_string_add_sum (P := Tryd.prog) W ⟨#[98, 97, 115, 101, 61]⟩ (pairB m.base.1 ⟨#[46]⟩ m.base.2) (by omega)
  have a4 := fun W => run_string_add_sum (P := Tryd.prog) W ⟨#[109, 97, 114, 107, 61]⟩ (pairB m.mark.1 ⟨#[46]⟩ m.mark.2) (by omega)
  have a5 := fun W => run_string_add_sum (P := Tryd.prog) W ⟨#[112, 97, 114, 116, 61]⟩ (pairB m.ix ⟨#[47]⟩ m.tot) (by omega)
  have a6 := fun W => run_string_add_sum (P := Tryd.prog) W ⟨#[98, 121, 116, 101, 115, 61]⟩ (itoaB (m.data.size : Int)) (by omega)
  have HXS := Lib.hid (show ((⟨#[98, 97, 115, 101, 61]⟩ : ByteArray) ++ pairB m.base.1 ⟨#[46]⟩ m.base.2).size ≤ 200 ∧ ((⟨#[109, 97, 114, 107, 61]⟩ : ByteArray) ++ pairB m.mark.1 ⟨#[46]⟩ m.mark.2).size ≤ 200 ∧ ((⟨#[112, 97, 114, 116, 61]⟩ : ByteArray) ++ pairB m.ix ⟨#[47]⟩ m.tot).size ≤ 200 ∧ ((⟨#[98, 121, 116, 101, 115, 61]⟩ : ByteArray) ++ itoaB (m.data.size : Int)).size ≤ 200 by refine ⟨?_, ?_, ?_, ?_⟩ <;> (rw [ByteArray.size_append]; omega))
  clear s3 s4 s5 s6 z4 z5 z6 z7 z8 z9 fd
  have HK := Lib.hid (show ∀ W, Calls Tryd.prog 27 #[.int .i64 2] W fun e w' => e = .returned (.agg #[.string ⟨#[112, 97, 114, 116]⟩, .bool true, .bool true, .bool true, .bool true, .bool true]) ∧ Below W.heap.size W w' from fun W => (show kindC 2 = #[.string ⟨#[112, 97, 114, 116]⟩, .bool true, .bool true, .bool true, .bool true, .bool true] by rfl) ▸ kindOf_any 2 W)
  have HP := Lib.hid (fun V (h : Tabs V) => pair_any m.fr ⟨#[62]⟩ m.to hm.1.2.1 hm.1.2.2.1 (by decide) V h)
  have HIT := Lib.hid (fun V (h : Tabs V) => itoa_any m.vol hm.1.2.2.2 V h)
  have HSE := Lib.hid (fun V (h : Tabs V) => seen_any m.seen hm.2.2.2.2.1 V h)
  have s1 := itoaB_size hm.1.2.2.2
  have s2 := seenB_size hm.2.2.2.2.1
  have z2 : (⟨#[118]⟩ : ByteArray).size = 1 := rfl
  have z3 : (⟨#[115, 101, 101, 110, 61]⟩ : ByteArray).size = 5 := rfl
  have a1 := fun W => run_string_add_sum (P := Tryd.prog) W ⟨#[118]⟩ (itoaB m.vol) (by omega)
  have a2 := fun W => run_string_add_sum (P := Tryd.prog) W ⟨#[115, 101, 101, 110, 61]⟩ (seenB m.seen) (by omega)
  have hb0 := (Below.refl w.heap.size w).alloc (Nat.le_refl _) (.cells (msgC m) 27)
  have HB0 := Lib.hid hb0
  have HG0 := Lib.hid (Has.fresh w 27 (msgC m))
  have HT0 := Lib.hid (hT.self hb0)
  have c0 : (w.alloc (.cells (msgC m) 27)).cell? ⟨w.heap.size, 0, none⟩ = some (.int .i64 2) := q ▸ HG0.out.at_ 0
  have HQ := Lib.hid q
  clear s1 s2 z2 z3 hb0 hT hm q
  go_enter Tryd.func13, Tryd.ntmps13
  go_wp2_with fail
  with_reducible refine (HK.out _).mono ?_
  rintro e w1 ⟨rfl, hb⟩
  have HBw := Lib.hid ((HB0.out.trans (hb.mono HB0.out.size)).alloc (HB0.out.trans (hb.mono HB0.out.size)).size (.cells #[.string ⟨#[112, 97, 114, 116]⟩, .bool true, .bool true, .bool true, .bool true, .bool true] 47))
  have HG1 := Lib.hid ((HG0.out.below hb).past (.cells #[.string ⟨#[112, 97, 114, 116]⟩, .bool true, .bool true, .bool true, .bool true, .bool true] 47))
  have HK1 := Lib.hid (Has.fresh w1 47 #[.string ⟨#[112, 97, 114, 116]⟩, .bool true, .bool true, .bool true, .bool true, .bool true])
  have HT1 := Lib.hid ((HT0.out.self hb).self ((Below.refl w1.heap.size w1).alloc (Nat.le_refl _) (.cells #[.string ⟨#[112, 97, 114, 116]⟩, .bool true, .bool true, .bool true, .bool true, .bool true] 47)))
  have HB1 := Lib.hid ((Below.refl (w1.alloc (.cells #[.string ⟨#[112, 97, 114, 116]⟩, .bool true, .bool true, .bool true, .bool true, .bool true] 47)).heap.size (w1.alloc (.cells #[.string ⟨#[112, 97, 114, 116]⟩, .bool true, .bool true, .bool true, .bool true, .bool true] 47))).drew)
  have HTB := Lib.hid (fun V (h : Below (w1.alloc (.cells #[.string ⟨#[112, 97, 114, 116]⟩, .bool true, .bool true, .bool true, .bool true, .bool true] 47)).heap.size (w1.alloc (.cells #[.string ⟨#[112, 97, 114, 116]⟩, .bool true, .bool true, .bool true, .bool true, .bool true] 47)) V) => HT1.out.self h)
  have HSB := Lib.hid (show ∀ V, Below (w1.alloc (.cells #[.string ⟨#[112, 97, 114, 116]⟩, .bool true, .bool true, .bool true, .bool true, .bool true] 47)).heap.size (w1.alloc (.cells #[.string ⟨#[112, 97, 114, 116]⟩, .bool true, .bool true, .bool true, .bool true, .bool true] 47)) V → V.cell? ⟨w1.heap.size, 0, none⟩ = some (.string ⟨#[112, 97, 114, 116]⟩) ∧ V.cell? ⟨w.heap.size, 1, none⟩ = some (.int .i64 m.fr) ∧ V.cell? ⟨w.heap.size, 2, none⟩ = some (.int .i64 m.to) ∧ V.cell? ⟨w.heap.size, 3, none⟩ = some (.int .i64 m.vol) ∧ V.rangeAt w.heap.size 10 (vecC m.seen).toList from fun V h => ⟨(HK1.out.below h).at_ 0, (HG1.out.below h).at_ 1, (HG1.out.below h).at_ 2, (HG1.out.below h).at_ 3, seen_range (HG1.out.below h)⟩)
  have HLO := Lib.hid (show w.heap.size < w1.heap.size by have := hb.size; rw [World.size_alloc] at this; omega)
  clear hb c0 HK HG0 HT0 HB0
  go_wp2
  refine wp_region_held_drew (S := fun V => V.cell? ⟨w1.heap.size, 0, none⟩ = some (.string ⟨#[112, 97, 114, 116]⟩) ∧ V.cell? ⟨w.heap.size, 1, none⟩ = some (.int .i64 m.fr) ∧ V.cell? ⟨w.heap.size, 2, none⟩ = some (.int .i64 m.to) ∧ V.cell? ⟨w.heap.size, 3, none⟩ = some (.int .i64 m.vol) ∧ V.rangeAt w.heap.size 10 (vecC m.seen).toList) (by kernel_rfl) (HSB.out _ HB1.out) (fun hHeld => ?_)
  refine Vc.wpAnyH_read (i := 0) (d := some 8) (v := ?vz1) (by rfl) (by rfl) (by kernel_rfl) (by kernel_rfl) (by kernel_rfl) (fun _ _ _ h => h) (by rfl) ?hyz1 (by assumption) ?restz1
  case hyz1 =>
    intro w hSw
    obtain ⟨s0, s1, s2, s3, s4⟩ := hSw
    go_simp
    try with_reducible rfl
  (try simp only [Act.put, List.setIfInBounds_toArray, List.set_cons_zero, List.set_cons_succ])
  refine Vc.wpAnyH_read (i := 1) (d := some 9) (v := ?vz2) (by rfl) (by rfl) (by kernel_rfl) (by kernel_rfl) (by kernel_rfl) (fun _ _ _ h => h) (by rfl) ?hyz2 (by assumption) ?restz2
  case hyz2 =>
    intro w hSw
    obtain ⟨s0, s1, s2, s3, s4⟩ := hSw
    go_simp
    try with_reducible rfl
  (try simp only [Act.put, List.setIfInBounds_toArray, List.set_cons_zero, List.set_cons_succ])
  refine Vc.wpAnyH_read (i := 2) (d := some 10) (v := ?vz3) (by rfl) (by rfl) (by kernel_rfl) (by kernel_rfl) (by kernel_rfl) (fun _ _ _ h => h) (by rfl) ?hyz3 (by assumption) ?restz3
  case hyz3 =>
    intro w hSw
    obtain ⟨s0, s1, s2, s3, s4⟩ := hSw
    go_simp
    try with_reducible rfl
  (try simp only [Act.put, List.setIfInBounds_toArray, List.set_cons_zero, List.set_cons_succ])
  refine Vc.wpAnyH_read (i := 3) (d := some 11) (v := ?vz4) (by rfl) (by rfl) (by kernel_rfl) (by kernel_rfl) (by kernel_rfl) (fun _ _ _ h => h) (by rfl) ?hyz4 (by assumption) ?restz4
  case hyz4 =>
    intro w hSw
    obtain ⟨s0, s1, s2, s3, s4⟩ := hSw
    go_simp
    try with_reducible rfl
  (try simp only [Act.put, List.setIfInBounds_toArray, List.set_cons_zero, List.set_cons_succ])
  refine Vc.wpAnyH_read (i := 4) (d := some 12) (v := ?vz5) (by rfl) (by rfl) (by kernel_rfl) (by kernel_rfl) (by kernel_rfl) (fun _ _ _ h => h) (by rfl) ?hyz5 (by assumption) ?restz5
  case hyz5 =>
    intro w hSw
    obtain ⟨s0, s1, s2, s3, s4⟩ := hSw
    go_simp
    try with_reducible rfl
  (try simp only [Act.put, List.setIfInBounds_toArray, List.set_cons_zero, List.set_cons_succ])
  refine Vc.wpAnyH_read (i := 5) (d := some 13) (v := ?vz6) (by rfl) (by rfl) (by kernel_rfl) (by kernel_rfl) (by kernel_rfl) (fun _ _ _ h => h) (by rfl) ?hyz6 (by assumption) ?restz6
  case hyz6 =>
    intro w hSw
    obtain ⟨s0, s1, s2, s3, s4⟩ := hSw
    go_simp
    try with_reducible rfl
  (try simp only [Act.put, List.setIfInBounds_toArray, List.set_cons_zero, List.set_cons_succ])
  refine Vc.wpAnyH_read (i := 7) (d := some 15) (v := ?vz7) (by rfl) (by rfl) (by kernel_rfl) (by kernel_rfl) (by kernel_rfl) (fun _ _ _ h => h) (by rfl) ?hyz7 (by assumption) ?restz7
  case hyz7 =>
    intro w hSw
    obtain ⟨s0, s1, s2, s3, s4⟩ := hSw
    go_simp
    try with_reducible rfl
  (try simp only [Act.put, List.setIfInBounds_toArray, List.set_cons_zero, List.set_cons_succ])
  refine Vc.wpAnyH_read (i := 8) (d := some 16) (v := ?vz8) (by rfl) (by rfl) (by kernel_rfl) (by kernel_rfl) (by kernel_rfl) (fun _ _ _ h => h) (by rfl) ?hyz8 (by assumption) ?restz8
  case hyz8 =>
    intro w hSw
    obtain ⟨s0, s1, s2, s3, s4⟩ := hSw
    go_simp
    try with_reducible rfl
  (try simp only [Act.put, List.setIfInBounds_toArray, List.set_cons_zero, List.set_cons_succ])
  refine Vc.wpAnyH_read (i := 11) (d := some 19) (v := ?vz9) (by rfl) (by rfl) (by kernel_rfl) (by kernel_rfl) (by kernel_rfl) (fun _ _ _ h => h) (by rfl) ?hyz9 (by assumption) ?restz9
  case hyz9 =>
    intro w hSw
    obtain ⟨s0, s1, s2, s3, s4⟩ := hSw
    go_simp
    try with_reducible rfl
  (try simp only [Act.put, List.setIfInBounds_toArray, List.set_cons_zero, List.set_cons_succ])
  refine Vc.wpAnyH_read (i := 12) (d := some 20) (v := .agg (vecC m.seen)) (by rfl) (by rfl) (by kernel_rfl) (by kernel_rfl) (by kernel_rfl) (fun _ _ _ h => h) (by rfl) ?hyz10 (by assumption) ?restz10
  case hyz10 =>
    intro w hSw
    obtain ⟨s0, s1, s2, s3, s4⟩ := hSw
    exact Who.exec_loadA _ rfl rfl s4 Tryd.underlying25 rfl info_vec
  (try simp only [Act.put, List.setIfInBounds_toArray, List.set_cons_zero, List.set_cons_succ])
  refine wpAnyH_ready (rs := [6]) (by kernel_rfl) (by simp) ?_
  refine AllReadyH.cons rfl (fun K hK => ?_) AllReadyH.nil
  go_simp
  go_at_call 28
  refine (HP.out _ (HTB.out _ HB1.out)).mono ?_
  rintro e w2 ⟨rfl, hb⟩
  have HB2 := Lib.hid (HB1.out.trans (hb.mono HB1.out.size))
  clear hb
  refine hK.out _ _ (HSB.out _ HB2.out) (fun hHeld => ?_)
  clear hK K
  (try simp only [Act.put, List.setIfInBounds_toArray, List.set_cons_zero, List.set_cons_succ])
  refine wpAnyH_ready (rs := [9]) (by kernel_rfl) (by simp) ?_
  refine AllReadyH.cons rfl (fun K hK => ?_) AllReadyH.nil
  go_simp
  go_at_call 29
  refine (HIT.out _ (HTB.out _ HB2.out)).mono ?_
  rintro e w3 ⟨rfl, hb⟩
  have HB3 := Lib.hid (HB2.out.trans (hb.mono HB2.out.size))
  clear hb
  refine hK.out _ _ (HSB.out _ HB3.out) (fun hHeld => ?_)
  clear hK K
  (try simp only [Act.put, List.setIfInBounds_toArray, List.set_cons_zero, List.set_cons_succ])
  refine Vc.wpAnyH_read (i := 10) (d := some 18) (v := ?vz11) (by rfl) (by rfl) (by kernel_rfl) (by kernel_rfl) (by kernel_rfl) (fun _ _ _ h => h) (by rfl) ?hyz11 (by assumption) ?restz11
  case hyz11 =>
    intro w hSw
    obtain ⟨s0, s1, s2, s3, s4⟩ := hSw
    go_simp
    try with_reducible rfl
  (try simp only [Act.put, List.setIfInBounds_toArray, List.set_cons_zero, List.set_cons_succ])
  refine wpAnyH_ready (rs := [13]) (by kernel_rfl) (by simp) ?_
  refine AllReadyH.cons rfl (fun K hK => ?_) AllReadyH.nil
  go_simp
  go_at_call 15
  refine (HSE.out _ (HTB.out _ HB3.out)).mono ?_
  rintro e w4 ⟨rfl, hb⟩
  have HB4 := Lib.hid (HB3.out.trans (hb.mono HB3.out.size))
  clear hb
  refine hK.out _ _ (HSB.out _ HB4.out) (fun hHeld => ?_)
  clear hK K
  (try simp only [Act.put, List.setIfInBounds_toArray, List.set_cons_zero, List.set_cons_succ])
  refine Vc.wpAnyH_read (i := 14) (d := some 22) (v := ?vz12) (by rfl) (by rfl) (by kernel_rfl) (by kernel_rfl) (by kernel_rfl) (fun _ _ _ h => h) (by rfl) ?hyz12 (by assumption) ?restz12
  case hyz12 =>
    intro w hSw
    obtain ⟨s0, s1, s2, s3, s4⟩ := hSw
    go_simp
    try with_reducible rfl
  (try simp only [Act.put, List.setIfInBounds_toArray, List.set_cons_zero, List.set_cons_succ])
  refine wpAnyH_ready (rs := [15]) (by kernel_rfl) (by simp) ?_
  refine AllReadyH.cons rfl (fun K hK => ?_) AllReadyH.nil
  have HB5 := Lib.hid (HB4.out.alloc HB4.out.size (.cells #[.string ⟨#[112, 97, 114, 116]⟩, .string (pairB m.fr ⟨#[62]⟩ m.to), .string ((⟨#[118]⟩ : ByteArray) ++ itoaB m.vol), .string ((⟨#[115, 101, 101, 110, 61]⟩ : ByteArray) ++ seenB m.seen)] 9))
  go_simp
  refine hK.out _ _ (HSB.out _ HB5.out) (fun hHeld => ?_)
  clear hK K
  (try simp only [Act.put, List.setIfInBounds_toArray, List.set_cons_zero, List.set_cons_succ])
  refine Vc.wpAnyH_read (i := 16) (d := some 4) (v := ?vz13) (by rfl) (by rfl) (by kernel_rfl) (by kernel_rfl) (by kernel_rfl) (fun _ _ _ h => h) (by rfl) ?hyz13 (by assumption) ?restz13
  case hyz13 =>
    intro w hSw
    obtain ⟨s0, s1, s2, s3, s4⟩ := hSw
    go_simp
    try with_reducible rfl
  (try simp only [Act.put, List.setIfInBounds_toArray, List.set_cons_zero, List.set_cons_succ])
  refine wpAnyH_done (by kernel_rfl) ?_ _
  have HG5 := Lib.hid (HG1.out.below HB5.out)
  have HK5 := Lib.hid (HK1.out.below HB5.out)
  have HY := Lib.hid (Has.fresh w4 9 #[.string ⟨#[112, 97, 114, 116]⟩, .string (pairB m.fr ⟨#[62]⟩ m.to), .string ((⟨#[118]⟩ : ByteArray) ++ itoaB m.vol), .string ((⟨#[115, 101, 101, 110, 61]⟩ : ByteArray) ++ seenB m.seen)])
  have HI := Lib.hid (show TexI w w1.heap.size m #[.string ⟨#[112, 97, 114, 116]⟩, .bool true, .bool true, .bool true, .bool true, .bool true] (w4.alloc (.cells #[.string ⟨#[112, 97, 114, 116]⟩, .string (pairB m.fr ⟨#[62]⟩ m.to), .string ((⟨#[118]⟩ : ByteArray) ++ itoaB m.vol), .string ((⟨#[115, 101, 101, 110, 61]⟩ : ByteArray) ++ seenB m.seen)] 9)) (.slice (some ⟨w4.heap.size, 0, none⟩) 4 4) (parts0 m ⟨#[112, 97, 114, 116]⟩) from ⟨HBw.out.trans (HB5.out.mono HBw.out.size), ⟨rfl, .inr ⟨w4.heap.size, 4, #[.string ⟨#[112, 97, 114, 116]⟩, .string (pairB m.fr ⟨#[62]⟩ m.to), .string ((⟨#[118]⟩ : ByteArray) ++ itoaB m.vol), .string ((⟨#[115, 101, 101, 110, 61]⟩ : ByteArray) ++ seenB m.seen)], rfl, by have h := HB4.out.size; rw [World.size_alloc] at h; exact h, heap_alloc_new w4 _, Nat.le_refl _, by decide, rfl, rfl⟩⟩, HG5.out, HK5.out, HLO.out⟩)
  clear a1 a2 HP HIT HSE HG5 HK5 HY HB5
  have u1 : (w4.alloc (.cells #[.string ⟨#[112, 97, 114, 116]⟩, .string (pairB m.fr ⟨#[62]⟩ m.to), .string ((⟨#[118]⟩ : ByteArray) ++ itoaB m.vol), .string ((⟨#[115, 101, 101, 110, 61]⟩ : ByteArray) ++ seenB m.seen)] 9)).cell? ⟨w1.heap.size, 1, none⟩ = some (.bool true) := HI.out.kind.at_ 1
  have HMR := Lib.hid (base_range HI.out.msg)
  go_wp2_with (first | ((with_reducible refine Who.wpList_loadC 23 (.tmp 27) rfl w.heap.size 4 (#[.int .i64 m.base.1, .int .i64 m.base.2]) ?_); refine And.intro ⟨by rfl, by rfl, ⟨_, Tryd.underlying23, rfl⟩, info_mark⟩ (And.intro HMR.out ?_); (try simp only [Act.put, List.setIfInBounds_toArray, List.set_cons_zero, List.set_cons_succ])) | fail)
  refine (HMB.out _ (HTW.out.self HI.out.below)).mono ?_
  rintro e w5 ⟨rfl, hb⟩
  have HI2 := Lib.hid (HI.out.low hb)
  have HS := Lib.hid (show w1.heap.size + 1 ≤ (w5.alloc (.cells #[.string ((⟨#[98, 97, 115, 101, 61]⟩ : ByteArray) ++ pairB m.base.1 ⟨#[46]⟩ m.base.2)] 9)).heap.size from by have := HI2.out.kind.bound; rw [World.size_alloc]; omega)
  clear hb u1 HMR
  go_wp2_with (at_builtin; refine wpList_append_lies _ rfl (.tmp 26) (.tmp 31) 51 rfl (w1.heap.size + 1) 9 i0 (.string ⟨#[]⟩) 1 16 Tryd.underlying51 HII.out.1 HII.out.2.1 HII.out.2.2.1 HII.out.2.2.2 rfl (by decide) (.slice (some ⟨w4.heap.size, 0, none⟩) 4 4) 4 ((parts0 m ⟨#[112, 97, 114, 116]⟩).map Value.string) rfl (World.ownsRow.alloc HI2.out.row _) ⟨w5.heap.size, 0, none⟩ 1 1 [.string ((⟨#[98, 97, 115, 101, 61]⟩ : ByteArray) ++ pairB m.base.1 ⟨#[46]⟩ m.base.2)] rfl rfl ?c14 ?c24 (by decide) (by unfold maxLen; omega) (by omega) HS.out _ rfl ?_)
  case c14 => exact World.news_of_block (Has.fresh w5 9 #[.string ((⟨#[98, 97, 115, 101, 61]⟩ : ByteArray) ++ pairB m.base.1 ⟨#[46]⟩ m.base.2)])
  case c24 => exact fun u hu => by simp at hu; subst hu; rfl
  intro g1 cap4 w6 ho hg2 hor hlt2
  have HI3 := Lib.hid (TexI.step HI2.out rfl ho hg2)
  clear ho hg2 hor hlt2 HS a3
  have u2 : w6.cell? ⟨w1.heap.size, 2, none⟩ = some (.bool true) := HI3.out.kind.at_ 2
  have HMR := Lib.hid (mark_range HI3.out.msg)
  go_wp2_with (first | ((with_reducible refine Who.wpList_loadC 23 (.tmp 36) rfl w.heap.size 6 (#[.int .i64 m.mark.1, .int .i64 m.mark.2]) ?_); refine And.intro ⟨by rfl, by rfl, ⟨_, Tryd.underlying23, rfl⟩, info_mark⟩ (And.intro HMR.out ?_); (try simp only [Act.put, List.setIfInBounds_toArray, List.set_cons_zero, List.set_cons_succ])) | fail)
  refine (HMK.out _ (HTW.out.self HI3.out.below)).mono ?_
  rintro e w7 ⟨rfl, hb⟩
  have HI4 := Lib.hid (HI3.out.low hb)
  have HS := Lib.hid (show w1.heap.size + 1 ≤ (w7.alloc (.cells #[.string ((⟨#[109, 97, 114, 107, 61]⟩ : ByteArray) ++ pairB m.mark.1 ⟨#[46]⟩ m.mark.2)] 9)).heap.size from by have := HI4.out.kind.bound; rw [World.size_alloc]; omega)
  clear hb u2 HMR
  go_wp2_with (at_builtin; refine wpList_append_lies _ rfl (.tmp 35) (.tmp 40) 51 rfl (w1.heap.size + 1) 9 i0 (.string ⟨#[]⟩) 1 16 Tryd.underlying51 HII.out.1 HII.out.2.1 HII.out.2.2.1 HII.out.2.2.2 rfl (by decide) (.slice (some ⟨g1, 0, none⟩) 5 cap4) 5 ((parts0 m ⟨#[112, 97, 114, 116]⟩ ++ [((⟨#[98, 97, 115, 101, 61]⟩ : ByteArray) ++ pairB m.base.1 ⟨#[46]⟩ m.base.2)]).map Value.string) rfl (World.ownsRow.alloc HI4.out.row _) ⟨w7.heap.size, 0, none⟩ 1 1 [.string ((⟨#[109, 97, 114, 107, 61]⟩ : ByteArray) ++ pairB m.mark.1 ⟨#[46]⟩ m.mark.2)] rfl rfl ?c15 ?c25 (by decide) (by unfold maxLen; omega) (by omega) HS.out _ rfl ?_)
  case c15 => exact World.news_of_block (Has.fresh w7 9 #[.string ((⟨#[109, 97, 114, 107, 61]⟩ : ByteArray) ++ pairB m.mark.1 ⟨#[46]⟩ m.mark.2)])
  case c25 => exact fun u hu => by simp at hu; subst hu; rfl
  intro g2 cap5 w8 ho hg2 hor hlt2
  have HI5 := Lib.hid (TexI.step HI4.out rfl ho hg2)
  clear ho hg2 hor hlt2 HS a4
  have u0 : w8.cell? ⟨w.heap.size, 0, none⟩ = some (.int .i64 2) := HQ.out ▸ HI5.out.msg.at_ 0
  have HBR := Lib.hid ((Below.refl w8.heap.size w8).drew)
  have HTB := Lib.hid (fun V (h : Below w8.heap.size w8 V) => HTW.out.self (HI5.out.below.trans (h.mono HI5.out.below.size)))
  have HSB := Lib.hid (show ∀ V, Below w8.heap.size w8 V → V.cell? ⟨w.heap.size, 8, none⟩ = some (.int .i64 m.ix) ∧ V.cell? ⟨w.heap.size, 9, none⟩ = some (.int .i64 m.tot) ∧ V.cell? ⟨w.heap.size, 18, none⟩ = some (.string m.data) from fun V h => ⟨(HI5.out.msg.below h).at_ 8, (HI5.out.msg.below h).at_ 9, (HI5.out.msg.below h).at_ 18⟩)
  go_wp2
  refine wp_region_held_drew (S := fun V => V.cell? ⟨w.heap.size, 8, none⟩ = some (.int .i64 m.ix) ∧ V.cell? ⟨w.heap.size, 9, none⟩ = some (.int .i64 m.tot) ∧ V.cell? ⟨w.heap.size, 18, none⟩ = some (.string m.data)) (by kernel_rfl) (HSB.out _ HBR.out) (fun hHeld => ?_)
  refine Vc.wpAnyH_read (i := 0) (d := some 55) (v := ?vy1) (by rfl) (by rfl) (by kernel_rfl) (by kernel_rfl) (by kernel_rfl) (fun _ _ _ h => h) (by rfl) ?hyy1 (by assumption) ?resty1
  case hyy1 =>
    intro w hSw
    obtain ⟨s0, s1, s2⟩ := hSw
    go_simp
    try with_reducible rfl
  (try simp only [Act.put, List.setIfInBounds_toArray, List.set_cons_zero, List.set_cons_succ])
  refine Vc.wpAnyH_read (i := 1) (d := some 56) (v := ?vy2) (by rfl) (by rfl) (by kernel_rfl) (by kernel_rfl) (by kernel_rfl) (fun _ _ _ h => h) (by rfl) ?hyy2 (by assumption) ?resty2
  case hyy2 =>
    intro w hSw
    obtain ⟨s0, s1, s2⟩ := hSw
    go_simp
    try with_reducible rfl
  (try simp only [Act.put, List.setIfInBounds_toArray, List.set_cons_zero, List.set_cons_succ])
  refine Vc.wpAnyH_read (i := 2) (d := some 57) (v := ?vy3) (by rfl) (by rfl) (by kernel_rfl) (by kernel_rfl) (by kernel_rfl) (fun _ _ _ h => h) (by rfl) ?hyy3 (by assumption) ?resty3
  case hyy3 =>
    intro w hSw
    obtain ⟨s0, s1, s2⟩ := hSw
    go_simp
    try with_reducible rfl
  (try simp only [Act.put, List.setIfInBounds_toArray, List.set_cons_zero, List.set_cons_succ])
  refine Vc.wpAnyH_read (i := 3) (d := some 58) (v := ?vy4) (by rfl) (by rfl) (by kernel_rfl) (by kernel_rfl) (by kernel_rfl) (fun _ _ _ h => h) (by rfl) ?hyy4 (by assumption) ?resty4
  case hyy4 =>
    intro w hSw
    obtain ⟨s0, s1, s2⟩ := hSw
    go_simp
    try with_reducible rfl
  (try simp only [Act.put, List.setIfInBounds_toArray, List.set_cons_zero, List.set_cons_succ])
  refine Vc.wpAnyH_read (i := 4) (d := some 59) (v := ?vy5) (by rfl) (by rfl) (by kernel_rfl) (by kernel_rfl) (by kernel_rfl) (fun _ _ _ h => h) (by rfl) ?hyy5 (by assumption) ?resty5
  case hyy5 =>
    intro w hSw
    obtain ⟨s0, s1, s2⟩ := hSw
    go_simp
    try with_reducible rfl
  (try simp only [Act.put, List.setIfInBounds_toArray, List.set_cons_zero, List.set_cons_succ])
  refine Vc.wpAnyH_read (i := 7) (d := some 62) (v := ?vy6) (by rfl) (by rfl) (by kernel_rfl) (by kernel_rfl) (by kernel_rfl) (fun _ _ _ h => h) (by rfl) ?hyy6 (by assumption) ?resty6
  case hyy6 =>
    intro w hSw
    obtain ⟨s0, s1, s2⟩ := hSw
    go_simp
    try with_reducible rfl
  (try simp only [Act.put, List.setIfInBounds_toArray, List.set_cons_zero, List.set_cons_succ])
  refine Vc.wpAnyH_read (i := 8) (d := some 63) (v := ?vy7) (by rfl) (by rfl) (by kernel_rfl) (by kernel_rfl) (by kernel_rfl) (fun _ _ _ h => h) (by rfl) ?hyy7 (by assumption) ?resty7
  case hyy7 =>
    intro w hSw
    obtain ⟨s0, s1, s2⟩ := hSw
    go_simp
    try with_reducible rfl
  (try simp only [Act.put, List.setIfInBounds_toArray, List.set_cons_zero, List.set_cons_succ])
  refine Vc.wpAnyH_read (i := 9) (d := some 64) (v := ?vy8) (by rfl) (by rfl) (by kernel_rfl) (by kernel_rfl) (by kernel_rfl) (fun _ _ _ h => h) (by rfl) ?hyy8 (by assumption) ?resty8
  case hyy8 =>
    intro w hSw
    obtain ⟨s0, s1, s2⟩ := hSw
    go_simp
    try with_reducible rfl
  (try simp only [Act.put, List.setIfInBounds_toArray, List.set_cons_zero, List.set_cons_succ])
  refine wpAnyH_ready (rs := [5]) (by kernel_rfl) (by simp) ?_
  refine AllReadyH.cons rfl (fun K hK => ?_) AllReadyH.nil
  go_simp
  go_at_call 28
  refine (HMI.out _ (HTB.out _ HBR.out)).mono ?_
  rintro e w9 ⟨rfl, hb⟩
  have HB9 := Lib.hid (HBR.out.trans (hb.mono HBR.out.size))
  clear hb
  refine hK.out _ _ (HSB.out _ HB9.out) (fun hHeld => ?_)
  clear hK K
  (try simp only [Act.put, List.setIfInBounds_toArray, List.set_cons_zero, List.set_cons_succ])
  refine Vc.wpAnyH_read (i := 6) (d := some 61) (v := ?vy9) (by rfl) (by rfl) (by kernel_rfl) (by kernel_rfl) (by kernel_rfl) (fun _ _ _ h => h) (by rfl) ?hyy9 (by assumption) ?resty9
  case hyy9 =>
    intro w hSw
    obtain ⟨s0, s1, s2⟩ := hSw
    go_simp
    try with_reducible rfl
  (try simp only [Act.put, List.setIfInBounds_toArray, List.set_cons_zero, List.set_cons_succ])
  refine wpAnyH_ready (rs := [10]) (by kernel_rfl) (by simp) ?_
  refine AllReadyH.cons rfl (fun K hK => ?_) AllReadyH.nil
  go_simp
  go_at_call 29
  refine (HMD.out _ (HTB.out _ HB9.out)).mono ?_
  rintro e w10 ⟨rfl, hb⟩
  have HBA := Lib.hid (HB9.out.trans (hb.mono HB9.out.size))
  clear hb
  refine hK.out _ _ (HSB.out _ HBA.out) (fun hHeld => ?_)
  clear hK K
  (try simp only [Act.put, List.setIfInBounds_toArray, List.set_cons_zero, List.set_cons_succ])
  refine Vc.wpAnyH_read (i := 11) (d := some 66) (v := ?vy10) (by rfl) (by rfl) (by kernel_rfl) (by kernel_rfl) (by kernel_rfl) (fun _ _ _ h => h) (by rfl) ?hyy10 (by assumption) ?resty10
  case hyy10 =>
    intro w hSw
    obtain ⟨s0, s1, s2⟩ := hSw
    go_simp
    try with_reducible rfl
  (try simp only [Act.put, List.setIfInBounds_toArray, List.set_cons_zero, List.set_cons_succ])
  refine wpAnyH_ready (rs := [12]) (by kernel_rfl) (by simp) ?_
  refine AllReadyH.cons rfl (fun K hK => ?_) AllReadyH.nil
  have HBC := Lib.hid (HBA.out.alloc HBA.out.size (.cells #[.string ((⟨#[112, 97, 114, 116, 61]⟩ : ByteArray) ++ pairB m.ix ⟨#[47]⟩ m.tot), .string ((⟨#[98, 121, 116, 101, 115, 61]⟩ : ByteArray) ++ itoaB (m.data.size : Int))] 9))
  go_simp
  refine hK.out _ _ (HSB.out _ HBC.out) (fun hHeld => ?_)
  clear hK K
  (try simp only [Act.put, List.setIfInBounds_toArray, List.set_cons_zero, List.set_cons_succ])
  refine wpAnyH_ready (rs := [13]) (by kernel_rfl) (by simp) ?_
  refine AllReadyH.cons rfl (fun K hK => ?_) AllReadyH.nil
  have HIA := Lib.hid (HI5.out.low HBA.out)
  refine step_append_lies _ (by rfl) (.tmp 55) (.tmp 67) 51 (by rfl) (w1.heap.size + 1) 9 i0 (.string ⟨#[]⟩) 1 16 Tryd.underlying51 HII.out.1 HII.out.2.1 HII.out.2.2.1 HII.out.2.2.2 rfl (by decide) (.slice (some ⟨g2, 0, none⟩) 6 cap5) 6 ((parts0 m ⟨#[112, 97, 114, 116]⟩ ++ [((⟨#[98, 97, 115, 101, 61]⟩ : ByteArray) ++ pairB m.base.1 ⟨#[46]⟩ m.base.2)] ++ [((⟨#[109, 97, 114, 107, 61]⟩ : ByteArray) ++ pairB m.mark.1 ⟨#[46]⟩ m.mark.2)]).map Value.string) (by rfl) (World.ownsRow.alloc HIA.out.row _) ⟨w10.heap.size, 0, none⟩ 2 2 #[.string ((⟨#[112, 97, 114, 116, 61]⟩ : ByteArray) ++ pairB m.ix ⟨#[47]⟩ m.tot), .string ((⟨#[98, 121, 116, 101, 115, 61]⟩ : ByteArray) ++ itoaB (m.data.size : Int))].toList (by rfl) rfl ?cx1 ?cx2 (by decide) (by unfold maxLen; omega) (by omega) (by have := HIA.out.kind.bound; rw [World.size_alloc]; omega) _ rfl ?_
  case cx1 => exact World.news_of_block (Has.fresh w10 9 #[.string ((⟨#[112, 97, 114, 116, 61]⟩ : ByteArray) ++ pairB m.ix ⟨#[47]⟩ m.tot), .string ((⟨#[98, 121, 116, 101, 115, 61]⟩ : ByteArray) ++ itoaB (m.data.size : Int))])
  case cx2 => exact fun u hu => by simp at hu; rcases hu with rfl | rfl <;> rfl
  intro g3 cap6 w11 ho hg2 hor hlt2
  have HI7 := Lib.hid (TexI.step2 HIA.out rfl ho hg2)
  clear ho hg2 hor hlt2
  go_simp
  refine hK.out _ _ ⟨HI7.out.msg.at_ 8, HI7.out.msg.at_ 9, HI7.out.msg.at_ 18⟩ (fun hHeld => ?_)
  clear hK K
  (try simp only [Act.put, List.setIfInBounds_toArray, List.set_cons_zero, List.set_cons_succ])
  refine Vc.wpAnyH_read (i := 14) (d := some 4) (v := ?vy11) (by rfl) (by rfl) (by kernel_rfl) (by kernel_rfl) (by kernel_rfl) (fun _ _ _ h => h) (by rfl) ?hyy11 (by assumption) ?resty11
  case hyy11 =>
    intro w hSw
    obtain ⟨s0, s1, s2⟩ := hSw
    go_simp
    try with_reducible rfl
  (try simp only [Act.put, List.setIfInBounds_toArray, List.set_cons_zero, List.set_cons_succ])
  refine wpAnyH_done (by kernel_rfl) ?_ _
  have HJ := Lib.hid (join_own ⟨#[32]⟩ HI7.out.row ⟨(by decide : (8 : Nat) ≤ 1000), join_small ⟨#[32]⟩ (by decide) (fun p hp => (List.mem_append.1 hp).elim (fun hp => (List.mem_append.1 hp).elim (fun hp => (List.mem_append.1 hp).elim (parts0_small HM.out (wd := ⟨#[112, 97, 114, 116]⟩) (by decide) p) (fun h => by rw [List.mem_singleton.1 h]; exact HXS.out.1)) (fun h => by rw [List.mem_singleton.1 h]; exact HXS.out.2.1)) (fun h => by simp only [List.mem_cons, List.not_mem_nil, or_false] at h; exact h.elim (fun e => by rw [e]; exact HXS.out.2.2.1) (fun e => by rw [e]; exact HXS.out.2.2.2))) (by decide : (8 : Nat) ≤ 20)⟩ w11)
  go_wp2_with fail
  refine HJ.out.mono ?_
  rintro e w12 ⟨rfl, hb⟩
  have HBZ := Lib.hid (HI7.out.below.trans (hb.mono HI7.out.below.size))
  clear hb
  go_wp2
  go_ret
  exact ⟨rfl, HBZ.out⟩
end Go.Proofs.YtfjmcklmoebnaaaDoor.Mg
