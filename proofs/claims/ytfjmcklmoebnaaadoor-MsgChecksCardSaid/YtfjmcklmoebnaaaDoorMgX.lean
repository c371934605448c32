import Derived.Test.YtfjmcklmoebnaaaDoorMgT
import Derived.Test.YtfjmcklmoebnaaaDoorMgW

/- A message that is the same, as text: the program's. -/
namespace Go.Proofs.YtfjmcklmoebnaaaDoor.Mg
open Go.RowKit Go.Proofs.YtfjmcklmoebnaaaDoor.Mem Go.Proofs.YtfjmcklmoebnaaaDoor.Nt
open Go.Proofs.YtfjmcklmoebnaaaDoor.Vc (vecC)
set_option linter.unusedVariables false

def FitM (m : MsgP) : Prop := (fitI m.kind ∧ fitI m.fr ∧ fitI m.to ∧ fitI m.vol) ∧ (fitI m.base.1 ∧ fitI m.base.2) ∧ (fitI m.mark.1 ∧ fitI m.mark.2) ∧ (fitI m.ix ∧ fitI m.tot) ∧ (∀ i, i < 8 → fitI (m.seen i)) ∧ m.data.size ≤ 9223372036854775807
def parts0 (m : MsgP) (wd : ByteArray) : List ByteArray := [wd, pairB m.fr ⟨#[62]⟩ m.to, ⟨#[118]⟩ ++ itoaB m.vol, ⟨#[115, 101, 101, 110, 61]⟩ ++ seenB m.seen]
theorem seenB_size {x : Nat → Int} (hx : ∀ i, i < 8 → fitI (x i)) : (seenB x).size ≤ 176 := by
  have hk := lastTo_le x 8
  have h := join_len (⟨#[44]⟩ : ByteArray).data.toList 21 ((nums x (lastTo x 8)).map (·.data.toList)) (fun p hp => by
    unfold nums at hp
    simp only [List.mem_map, List.mem_range] at hp
    obtain ⟨q, ⟨i, hi, rfl⟩, rfl⟩ := hp
    exact itoaB_size (hx i (by omega)))
  rw [List.length_map, nums_len] at h
  show (Lib.join ((nums x (lastTo x 8)).map (·.data.toList)) (⟨#[44]⟩ : ByteArray).data.toList).toArray.size ≤ 176
  rw [List.size_toArray]
  refine Nat.le_trans h ?_
  show lastTo x 8 * (21 + 1) ≤ 176
  omega
theorem lit_cells (xs : List ByteArray) (j : Nat) (x : ByteArray) (h : xs[j]? = some x) : (xs.map Value.string).toArray[j]? = some (.string x) := by simp [h]
theorem pairB_size {a b : Int} {s : ByteArray} (ha : fitI a) (hb : fitI b) : (pairB a s b).size ≤ 42 + s.size := by
  unfold pairB
  rw [ByteArray.size_append, ByteArray.size_append]
  have := itoaB_size ha
  have := itoaB_size hb
  omega
theorem parts0_small {m : MsgP} {wd : ByteArray} (h : FitM m) (hw : wd.size ≤ 4) : ∀ p ∈ parts0 m wd, p.size ≤ 200 := by
  intro p hp
  have h1 := pairB_size (s := ⟨#[62]⟩) h.1.2.1 h.1.2.2.1
  have h2 := itoaB_size h.1.2.2.2
  have h3 := seenB_size h.2.2.2.2.1
  have z1 : (⟨#[62]⟩ : ByteArray).size = 1 := rfl
  have z2 : (⟨#[118]⟩ : ByteArray).size = 1 := rfl
  have z3 : (⟨#[115, 101, 101, 110, 61]⟩ : ByteArray).size = 5 := rfl
  unfold parts0 at hp
  simp only [List.mem_cons, List.not_mem_nil, or_false] at hp
  rcases hp with rfl | rfl | rfl | rfl
  · omega
  · omega
  · rw [ByteArray.size_append]; omega
  · rw [ByteArray.size_append]; omega
theorem join_small {ps : List ByteArray} (sep : ByteArray) (hs : sep.size ≤ 4) (h : ∀ p ∈ ps, p.size ≤ 200) (hn : ps.length ≤ 20) : (Lib.join (ps.map (·.data.toList)) sep.data.toList).length ≤ 1000000 := by
  have h1 := join_len sep.data.toList 200 (ps.map (·.data.toList)) (fun p hp => by
    simp only [List.mem_map] at hp
    obtain ⟨q, hq, rfl⟩ := hp
    exact h q hq)
  rw [List.length_map] at h1
  have h2 : sep.data.toList.length = sep.size := rfl
  rw [h2] at h1
  have h3 : ps.length * (200 + sep.size) ≤ 20 * 204 := Nat.mul_le_mul hn (by omega)
  omega
set_option maxRecDepth 100000 in
set_option maxHeartbeats 2000000 in
theorem text_k3 (m : MsgP) (hm : FitM m) (q : m.kind = 3) (w : World) (hT : Tabs w) : Calls Tryd.prog 13 #[.agg (msgC m)] w fun e w' => e = .returned (.string (joinB (parts0 m ⟨#[115, 97, 109, 101]⟩) ⟨#[32]⟩)) ∧ Below w.heap.size w w' := by
  have HK := Lib.hid (show ∀ W, Calls Tryd.prog 27 #[.int .i64 3] W fun e w' => e = .returned (.agg #[.string ⟨#[115, 97, 109, 101]⟩, .bool false, .bool false, .bool false, .bool false, .bool false]) ∧ Below W.heap.size W w' from fun W => (show kindC 3 = #[.string ⟨#[115, 97, 109, 101]⟩, .bool false, .bool false, .bool false, .bool false, .bool false] by rfl) ▸ kindOf_any 3 W)
  have HJS := Lib.hid (join_small ⟨#[32]⟩ (by decide) (parts0_small hm (wd := ⟨#[115, 97, 109, 101]⟩) (by decide)) (by decide : (4 : Nat) ≤ 20))
  have HP := Lib.hid (fun V (h : Tabs V) => pair_any m.fr ⟨#[62]⟩ m.to hm.1.2.1 hm.1.2.2.1 (by decide) V h)
  have HIT := Lib.hid (fun V (h : Tabs V) => itoa_any m.vol hm.1.2.2.2 V h)
  have HSE := Lib.hid (fun V (h : Tabs V) => seen_any m.seen hm.2.2.2.2.1 V h)
  have s1 := itoaB_size hm.1.2.2.2
  have s2 := seenB_size hm.2.2.2.2.1
  have z2 : (⟨#[118]⟩ : ByteArray).size = 1 := rfl
  have z3 : (⟨#[115, 101, 101, 110, 61]⟩ : ByteArray).size = 5 := rfl
  have a1 := fun W => run_string_add_sum (P := Tryd.prog) W ⟨#[118]⟩ (itoaB m.vol) (by omega)
  have a2 := fun W => run_string_add_sum (P := Tryd.prog) W ⟨#[115, 101, 101, 110, 61]⟩ (seenB m.seen) (by omega)
  have hb0 := (Below.refl w.heap.size w).alloc (Nat.le_refl _) (.cells (msgC m) 27)
  have HB0 := Lib.hid hb0
  have HG0 := Lib.hid (Has.fresh w 27 (msgC m))
  have HT0 := Lib.hid (hT.self hb0)
  have c0 : (w.alloc (.cells (msgC m) 27)).cell? ⟨w.heap.size, 0, none⟩ = some (.int .i64 3) := q ▸ HG0.out.at_ 0
  have HQ := Lib.hid q
  clear s1 s2 z2 z3 hb0 hT hm q
  go_enter Tryd.func13, Tryd.ntmps13
  go_wp2_with fail
  with_reducible refine (HK.out _).mono ?_
  rintro e w1 ⟨rfl, hb⟩
  have HBw := Lib.hid ((HB0.out.trans (hb.mono HB0.out.size)).alloc (HB0.out.trans (hb.mono HB0.out.size)).size (.cells #[.string ⟨#[115, 97, 109, 101]⟩, .bool false, .bool false, .bool false, .bool false, .bool false] 47))
  have HG1 := Lib.hid ((HG0.out.below hb).past (.cells #[.string ⟨#[115, 97, 109, 101]⟩, .bool false, .bool false, .bool false, .bool false, .bool false] 47))
  have HK1 := Lib.hid (Has.fresh w1 47 #[.string ⟨#[115, 97, 109, 101]⟩, .bool false, .bool false, .bool false, .bool false, .bool false])
  have HT1 := Lib.hid ((HT0.out.self hb).self ((Below.refl w1.heap.size w1).alloc (Nat.le_refl _) (.cells #[.string ⟨#[115, 97, 109, 101]⟩, .bool false, .bool false, .bool false, .bool false, .bool false] 47)))
  have HB1 := Lib.hid ((Below.refl (w1.alloc (.cells #[.string ⟨#[115, 97, 109, 101]⟩, .bool false, .bool false, .bool false, .bool false, .bool false] 47)).heap.size (w1.alloc (.cells #[.string ⟨#[115, 97, 109, 101]⟩, .bool false, .bool false, .bool false, .bool false, .bool false] 47))).drew)
  have HTB := Lib.hid (fun V (h : Below (w1.alloc (.cells #[.string ⟨#[115, 97, 109, 101]⟩, .bool false, .bool false, .bool false, .bool false, .bool false] 47)).heap.size (w1.alloc (.cells #[.string ⟨#[115, 97, 109, 101]⟩, .bool false, .bool false, .bool false, .bool false, .bool false] 47)) V) => HT1.out.self h)
  have HSB := Lib.hid (show ∀ V, Below (w1.alloc (.cells #[.string ⟨#[115, 97, 109, 101]⟩, .bool false, .bool false, .bool false, .bool false, .bool false] 47)).heap.size (w1.alloc (.cells #[.string ⟨#[115, 97, 109, 101]⟩, .bool false, .bool false, .bool false, .bool false, .bool false] 47)) V → V.cell? ⟨w1.heap.size, 0, none⟩ = some (.string ⟨#[115, 97, 109, 101]⟩) ∧ V.cell? ⟨w.heap.size, 1, none⟩ = some (.int .i64 m.fr) ∧ V.cell? ⟨w.heap.size, 2, none⟩ = some (.int .i64 m.to) ∧ V.cell? ⟨w.heap.size, 3, none⟩ = some (.int .i64 m.vol) ∧ V.rangeAt w.heap.size 10 (vecC m.seen).toList from fun V h => ⟨(HK1.out.below h).at_ 0, (HG1.out.below h).at_ 1, (HG1.out.below h).at_ 2, (HG1.out.below h).at_ 3, seen_range (HG1.out.below h)⟩)
  clear hb c0 HK HG0 HT0 HB0
  go_wp2
  refine wp_region_held_drew (S := fun V => V.cell? ⟨w1.heap.size, 0, none⟩ = some (.string ⟨#[115, 97, 109, 101]⟩) ∧ V.cell? ⟨w.heap.size, 1, none⟩ = some (.int .i64 m.fr) ∧ V.cell? ⟨w.heap.size, 2, none⟩ = some (.int .i64 m.to) ∧ V.cell? ⟨w.heap.size, 3, none⟩ = some (.int .i64 m.vol) ∧ V.rangeAt w.heap.size 10 (vecC m.seen).toList) (by kernel_rfl) (HSB.out _ HB1.out) (fun hHeld => ?_)
  refine Vc.wpAnyH_read (i := 0) (d := some 8) (v := ?vz1) (by rfl) (by rfl) (by kernel_rfl) (by kernel_rfl) (by kernel_rfl) (fun _ _ _ h => h) (by rfl) ?hyz1 (by assumption) ?restz1
  case hyz1 =>
    intro w hSw
    obtain ⟨s0, s1, s2, s3, s4⟩ := hSw
    go_simp
    try with_reducible rfl
  (try simp only [Act.put, List.setIfInBounds_toArray, List.set_cons_zero, List.set_cons_succ])
  refine Vc.wpAnyH_read (i := 1) (d := some 9) (v := ?vz2) (by rfl) (by rfl) (by kernel_rfl) (by kernel_rfl) (by kernel_rfl) (fun _ _ _ h => h) (by rfl) ?hyz2 (by assumption) ?restz2
  case hyz2 =>
    intro w hSw
    obtain ⟨s0, s1, s2, s3, s4⟩ := hSw
    go_simp
    try with_reducible rfl
  (try simp only [Act.put, List.setIfInBounds_toArray, List.set_cons_zero, List.set_cons_succ])
  refine Vc.wpAnyH_read (i := 2) (d := some 10) (v := ?vz3) (by rfl) (by rfl) (by kernel_rfl) (by kernel_rfl) (by kernel_rfl) (fun _ _ _ h => h) (by rfl) ?hyz3 (by assumption) ?restz3
  case hyz3 =>
    intro w hSw
    obtain ⟨s0, s1, s2, s3, s4⟩ := hSw
    go_simp
    try with_reducible rfl
  (try simp only [Act.put, List.setIfInBounds_toArray, List.set_cons_zero, List.set_cons_succ])
  refine Vc.wpAnyH_read (i := 3) (d := some 11) (v := ?vz4) (by rfl) (by rfl) (by kernel_rfl) (by kernel_rfl) (by kernel_rfl) (fun _ _ _ h => h) (by rfl) ?hyz4 (by assumption) ?restz4
  case hyz4 =>
    intro w hSw
    obtain ⟨s0, s1, s2, s3, s4⟩ := hSw
    go_simp
    try with_reducible rfl
  (try simp only [Act.put, List.setIfInBounds_toArray, List.set_cons_zero, List.set_cons_succ])
  refine Vc.wpAnyH_read (i := 4) (d := some 12) (v := ?vz5) (by rfl) (by rfl) (by kernel_rfl) (by kernel_rfl) (by kernel_rfl) (fun _ _ _ h => h) (by rfl) ?hyz5 (by assumption) ?restz5
  case hyz5 =>
    intro w hSw
    obtain ⟨s0, s1, s2, s3, s4⟩ := hSw
    go_simp
    try with_reducible rfl
  (try simp only [Act.put, List.setIfInBounds_toArray, List.set_cons_zero, List.set_cons_succ])
  refine Vc.wpAnyH_read (i := 5) (d := some 13) (v := ?vz6) (by rfl) (by rfl) (by kernel_rfl) (by kernel_rfl) (by kernel_rfl) (fun _ _ _ h => h) (by rfl) ?hyz6 (by assumption) ?restz6
  case hyz6 =>
    intro w hSw
    obtain ⟨s0, s1, s2, s3, s4⟩ := hSw
    go_simp
    try with_reducible rfl
  (try simp only [Act.put, List.setIfInBounds_toArray, List.set_cons_zero, List.set_cons_succ])
  refine Vc.wpAnyH_read (i := 7) (d := some 15) (v := ?vz7) (by rfl) (by rfl) (by kernel_rfl) (by kernel_rfl) (by kernel_rfl) (fun _ _ _ h => h) (by rfl) ?hyz7 (by assumption) ?restz7
  case hyz7 =>
    intro w hSw
    obtain ⟨s0, s1, s2, s3, s4⟩ := hSw
    go_simp
    try with_reducible rfl
  (try simp only [Act.put, List.setIfInBounds_toArray, List.set_cons_zero, List.set_cons_succ])
  refine Vc.wpAnyH_read (i := 8) (d := some 16) (v := ?vz8) (by rfl) (by rfl) (by kernel_rfl) (by kernel_rfl) (by kernel_rfl) (fun _ _ _ h => h) (by rfl) ?hyz8 (by assumption) ?restz8
  case hyz8 =>
    intro w hSw
    obtain ⟨s0, s1, s2, s3, s4⟩ := hSw
    go_simp
    try with_reducible rfl
  (try simp only [Act.put, List.setIfInBounds_toArray, List.set_cons_zero, List.set_cons_succ])
  refine Vc.wpAnyH_read (i := 11) (d := some 19) (v := ?vz9) (by rfl) (by rfl) (by kernel_rfl) (by kernel_rfl) (by kernel_rfl) (fun _ _ _ h => h) (by rfl) ?hyz9 (by assumption) ?restz9
  case hyz9 =>
    intro w hSw
    obtain ⟨s0, s1, s2, s3, s4⟩ := hSw
    go_simp
    try with_reducible rfl
  (try simp only [Act.put, List.setIfInBounds_toArray, List.set_cons_zero, List.set_cons_succ])
  refine Vc.wpAnyH_read (i := 12) (d := some 20) (v := .agg (vecC m.seen)) (by rfl) (by rfl) (by kernel_rfl) (by kernel_rfl) (by kernel_rfl) (fun _ _ _ h => h) (by rfl) ?hyz10 (by assumption) ?restz10
  case hyz10 =>
    intro w hSw
    obtain ⟨s0, s1, s2, s3, s4⟩ := hSw
    exact Who.exec_loadA _ rfl rfl s4 Tryd.underlying25 rfl info_vec
  (try simp only [Act.put, List.setIfInBounds_toArray, List.set_cons_zero, List.set_cons_succ])
  refine wpAnyH_ready (rs := [6]) (by kernel_rfl) (by simp) ?_
  refine AllReadyH.cons rfl (fun K hK => ?_) AllReadyH.nil
  go_simp
  go_at_call 28
  refine (HP.out _ (HTB.out _ HB1.out)).mono ?_
  rintro e w2 ⟨rfl, hb⟩
  have HB2 := Lib.hid (HB1.out.trans (hb.mono HB1.out.size))
  clear hb
  refine hK.out _ _ (HSB.out _ HB2.out) (fun hHeld => ?_)
  clear hK K
  (try simp only [Act.put, List.setIfInBounds_toArray, List.set_cons_zero, List.set_cons_succ])
  refine wpAnyH_ready (rs := [9]) (by kernel_rfl) (by simp) ?_
  refine AllReadyH.cons rfl (fun K hK => ?_) AllReadyH.nil
  go_simp
  go_at_call 29
  refine (HIT.out _ (HTB.out _ HB2.out)).mono ?_
  rintro e w3 ⟨rfl, hb⟩
  have HB3 := Lib.hid (HB2.out.trans (hb.mono HB2.out.size))
  clear hb
  refine hK.out _ _ (HSB.out _ HB3.out) (fun hHeld => ?_)
  clear hK K
  (try simp only [Act.put, List.setIfInBounds_toArray, List.set_cons_zero, List.set_cons_succ])
  refine Vc.wpAnyH_read (i := 10) (d := some 18) (v := ?vz11) (by rfl) (by rfl) (by kernel_rfl) (by kernel_rfl) (by kernel_rfl) (fun _ _ _ h => h) (by rfl) ?hyz11 (by assumption) ?restz11
  case hyz11 =>
    intro w hSw
    obtain ⟨s0, s1, s2, s3, s4⟩ := hSw
    go_simp
    try with_reducible rfl
  (try simp only [Act.put, List.setIfInBounds_toArray, List.set_cons_zero, List.set_cons_succ])
  refine wpAnyH_ready (rs := [13]) (by kernel_rfl) (by simp) ?_
  refine AllReadyH.cons rfl (fun K hK => ?_) AllReadyH.nil
  go_simp
  go_at_call 15
  refine (HSE.out _ (HTB.out _ HB3.out)).mono ?_
  rintro e w4 ⟨rfl, hb⟩
  have HB4 := Lib.hid (HB3.out.trans (hb.mono HB3.out.size))
  clear hb
  refine hK.out _ _ (HSB.out _ HB4.out) (fun hHeld => ?_)
  clear hK K
  (try simp only [Act.put, List.setIfInBounds_toArray, List.set_cons_zero, List.set_cons_succ])
  refine Vc.wpAnyH_read (i := 14) (d := some 22) (v := ?vz12) (by rfl) (by rfl) (by kernel_rfl) (by kernel_rfl) (by kernel_rfl) (fun _ _ _ h => h) (by rfl) ?hyz12 (by assumption) ?restz12
  case hyz12 =>
    intro w hSw
    obtain ⟨s0, s1, s2, s3, s4⟩ := hSw
    go_simp
    try with_reducible rfl
  (try simp only [Act.put, List.setIfInBounds_toArray, List.set_cons_zero, List.set_cons_succ])
  refine wpAnyH_ready (rs := [15]) (by kernel_rfl) (by simp) ?_
  refine AllReadyH.cons rfl (fun K hK => ?_) AllReadyH.nil
  have HB5 := Lib.hid (HB4.out.alloc HB4.out.size (.cells #[.string ⟨#[115, 97, 109, 101]⟩, .string (pairB m.fr ⟨#[62]⟩ m.to), .string ((⟨#[118]⟩ : ByteArray) ++ itoaB m.vol), .string ((⟨#[115, 101, 101, 110, 61]⟩ : ByteArray) ++ seenB m.seen)] 9))
  go_simp
  refine hK.out _ _ (HSB.out _ HB5.out) (fun hHeld => ?_)
  clear hK K
  (try simp only [Act.put, List.setIfInBounds_toArray, List.set_cons_zero, List.set_cons_succ])
  refine Vc.wpAnyH_read (i := 16) (d := some 4) (v := ?vz13) (by rfl) (by rfl) (by kernel_rfl) (by kernel_rfl) (by kernel_rfl) (fun _ _ _ h => h) (by rfl) ?hyz13 (by assumption) ?restz13
  case hyz13 =>
    intro w hSw
    obtain ⟨s0, s1, s2, s3, s4⟩ := hSw
    go_simp
    try with_reducible rfl
  (try simp only [Act.put, List.setIfInBounds_toArray, List.set_cons_zero, List.set_cons_succ])
  refine wpAnyH_done (by kernel_rfl) ?_ _
  have HG5 := Lib.hid (HG1.out.below HB5.out)
  have HK5 := Lib.hid (HK1.out.below HB5.out)
  have HY := Lib.hid (Has.fresh w4 9 #[.string ⟨#[115, 97, 109, 101]⟩, .string (pairB m.fr ⟨#[62]⟩ m.to), .string ((⟨#[118]⟩ : ByteArray) ++ itoaB m.vol), .string ((⟨#[115, 101, 101, 110, 61]⟩ : ByteArray) ++ seenB m.seen)])
  have u1 : (w4.alloc (.cells #[.string ⟨#[115, 97, 109, 101]⟩, .string (pairB m.fr ⟨#[62]⟩ m.to), .string ((⟨#[118]⟩ : ByteArray) ++ itoaB m.vol), .string ((⟨#[115, 101, 101, 110, 61]⟩ : ByteArray) ++ seenB m.seen)] 9)).cell? ⟨w1.heap.size, 1, none⟩ = some (.bool false) := HK5.out.at_ 1
  have u2 : (w4.alloc (.cells #[.string ⟨#[115, 97, 109, 101]⟩, .string (pairB m.fr ⟨#[62]⟩ m.to), .string ((⟨#[118]⟩ : ByteArray) ++ itoaB m.vol), .string ((⟨#[115, 101, 101, 110, 61]⟩ : ByteArray) ++ seenB m.seen)] 9)).cell? ⟨w1.heap.size, 2, none⟩ = some (.bool false) := HK5.out.at_ 2
  have u0 : (w4.alloc (.cells #[.string ⟨#[115, 97, 109, 101]⟩, .string (pairB m.fr ⟨#[62]⟩ m.to), .string ((⟨#[118]⟩ : ByteArray) ++ itoaB m.vol), .string ((⟨#[115, 101, 101, 110, 61]⟩ : ByteArray) ++ seenB m.seen)] 9)).cell? ⟨w.heap.size, 0, none⟩ = some (.int .i64 3) := HQ.out ▸ HG5.out.at_ 0
  have HJ := Lib.hid (show Calls Tryd.prog 31 #[.slice (some ⟨w4.heap.size, 0, none⟩) 4 4, .string ⟨#[32]⟩] (w4.alloc (.cells #[.string ⟨#[115, 97, 109, 101]⟩, .string (pairB m.fr ⟨#[62]⟩ m.to), .string ((⟨#[118]⟩ : ByteArray) ++ itoaB m.vol), .string ((⟨#[115, 101, 101, 110, 61]⟩ : ByteArray) ++ seenB m.seen)] 9)) fun e w' => e = .returned (.string (joinB (parts0 m ⟨#[115, 97, 109, 101]⟩) ⟨#[32]⟩)) ∧ Below (w4.alloc (.cells #[.string ⟨#[115, 97, 109, 101]⟩, .string (pairB m.fr ⟨#[62]⟩ m.to), .string ((⟨#[118]⟩ : ByteArray) ++ itoaB m.vol), .string ((⟨#[115, 101, 101, 110, 61]⟩ : ByteArray) ++ seenB m.seen)] 9)).heap.size (w4.alloc (.cells #[.string ⟨#[115, 97, 109, 101]⟩, .string (pairB m.fr ⟨#[62]⟩ m.to), .string ((⟨#[118]⟩ : ByteArray) ++ itoaB m.vol), .string ((⟨#[115, 101, 101, 110, 61]⟩ : ByteArray) ++ seenB m.seen)] 9)) w' from
    Tryd.strings_Join w4.heap.size 0 4 (parts0 m ⟨#[115, 97, 109, 101]⟩) ⟨#[32]⟩ (w4.alloc (.cells #[.string ⟨#[115, 97, 109, 101]⟩, .string (pairB m.fr ⟨#[62]⟩ m.to), .string ((⟨#[118]⟩ : ByteArray) ++ itoaB m.vol), .string ((⟨#[115, 101, 101, 110, 61]⟩ : ByteArray) ++ seenB m.seen)] 9)) (fun j x hj => by rw [Nat.zero_add]; exact (HY.out.at_ j).trans (lit_cells _ j x hj)) HY.out.bound (by show 4 ≤ 140737488355328; omega) (by show 4 ≤ 4; omega) (Nat.le_trans HJS.out (by omega)))
  have HBE := Lib.hid (HBw.out.trans (HB5.out.mono HBw.out.size))
  clear a1 a2 HP HIT HSE
  go_wp2_with fail
  refine HJ.out.mono ?_
  rintro e w6 ⟨rfl, hb⟩
  have HBZ := Lib.hid (HBE.out.trans (hb.mono HBE.out.size))
  clear hb
  go_wp2
  go_ret
  exact ⟨rfl, HBZ.out⟩
end Go.Proofs.YtfjmcklmoebnaaaDoor.Mg
/- The example of layer 18. -/
namespace Go.Proofs.YtfjmcklmoebnaaaDoor.Mg
open Go.RowKit Go.Proofs.YtfjmcklmoebnaaaDoor.Mem Go.Proofs.YtfjmcklmoebnaaaDoor.Nt
open Go.Proofs.YtfjmcklmoebnaaaDoor.Vc (vecC)
set_option linter.unusedVariables false

def mA : MsgP := { msg0 with kind := 3, to := 1, vol := 2, seen := fun i => if i = 0 then 3 else if i = 2 then 5 else 0 }
theorem ok_mA : OkM mA := by
  refine ⟨⟨by unfold InB mA; decide, by unfold InB mA msg0; decide, by unfold InB mA; decide, by unfold mA msg0; decide, by unfold InB mA; decide, by decide +kernel⟩, .inl ⟨rfl, rfl⟩, .inl ⟨rfl, rfl⟩, by decide +kernel, kind_0 (by unfold mA; decide) (by unfold mA; decide) (by unfold mA; decide)⟩
theorem no_msg0 : ¬ OkM msg0 := fun h => by
  have h1 := h.1.1
  unfold InB at h1
  have h2 : msg0.kind = 0 := rfl
  omega
theorem fit_small {x : Int} (h0 : 0 ≤ x) (h1 : x ≤ 100) : fitI x := by unfold fitI; omega
theorem fit_mA : FitM mA := by
  refine ⟨⟨fit_small (by decide) (by decide), fit_small (by decide) (by decide), fit_small (by decide) (by decide), fit_small (by decide) (by decide)⟩, ⟨fit_small (by decide) (by decide), fit_small (by decide) (by decide)⟩, ⟨fit_small (by decide) (by decide), fit_small (by decide) (by decide)⟩, ⟨fit_small (by decide) (by decide), fit_small (by decide) (by decide)⟩, fun i _ => ?_, by decide⟩
  show fitI (if i = 0 then 3 else if i = 2 then 5 else 0)
  split
  · exact fit_small (by decide) (by decide)
  · split <;> exact fit_small (by decide) (by decide)
theorem text_mA : joinB (parts0 mA ⟨#[115, 97, 109, 101]⟩) ⟨#[32]⟩ = ⟨#[115, 97, 109, 101, 32, 48, 62, 49, 32, 118, 50, 32, 115, 101, 101, 110, 61, 51, 44, 48, 44, 53]⟩ := by kernel_rfl
theorem fits_seal (m : MsgP) (h : OkM m) : (CrcW.sealB (BA (msgB m))).size ≤ 4104 := by
  have hd := ok_data h
  rw [CrcW.sealB_size, BA_size]
  have hh : (headB m).length = 4 := headTo_len m 4
  rcases ok_kind h with q | q | q | q
  · rw [msgB_1 q]; simp only [List.length_append, hh, vecB_len, markB_len, Vc.numB_len]; omega
  · rw [msgB_2 q]; simp only [List.length_append, hh, vecB_len, markB_len, Vc.numB_len, textB_len m.data (by omega)]; omega
  · rw [msgB_3 q]; simp only [List.length_append, hh, vecB_len]; omega
  · rw [msgB_4 q]; simp only [List.length_append, hh, vecB_len, markB_len]; omega
set_option maxRecDepth 100000 in
set_option maxHeartbeats 2000000 in
theorem awake_any (w : World) (hT : Tabs w) : Calls Tryd.prog 8 #[] w fun e w' => e = .returned (.bool true) ∧ Below w.heap.size w w' := by
  have hal := alloc_msg
  obtain ⟨sA, hsA⟩ : ∃ sA, sA = CrcW.sealB (BA (msgB mA)) := ⟨_, rfl⟩
  have HP := Lib.hid (show ∀ W, Calls Tryd.prog 17 #[.agg (msgC mA)] W fun e w' => e = .returned (.tuple #[.string sA, .int .i64 0]) ∧ Below W.heap.size W w' from fun W => (put_any mA W).mono fun e w' h => ⟨by rw [h.1, putR_yes ok_mA, hsA]; rfl, h.2⟩)
  have HG := Lib.hid (show ∀ W, Calls Tryd.prog 19 #[.string sA] W fun e w' => e = .returned (.tuple #[.agg (msgC mA), .int .i64 0]) ∧ Below W.heap.size W w' from fun W => (get_any sA (by rw [hsA]; exact fits_seal mA ok_mA) W).mono fun e w' h => ⟨by rw [h.1, hsA, (get_back ok_mA).1, (get_back ok_mA).2], h.2⟩)
  have HX := Lib.hid (show ∀ W, Tabs W → Calls Tryd.prog 13 #[.agg (msgC mA)] W fun e w' => e = .returned (.string ⟨#[115, 97, 109, 101, 32, 48, 62, 49, 32, 118, 50, 32, 115, 101, 101, 110, 61, 51, 44, 48, 44, 53]⟩) ∧ Below W.heap.size W w' from fun W h => text_mA ▸ text_k3 mA fit_mA rfl W h)
  have HC := Lib.hid (show ∀ W, Calls Tryd.prog 9 #[.agg (msgC msg0)] W fun e w' => e = .returned (.int .i64 201) ∧ Below W.heap.size W w' from fun W => err_no no_msg0 ▸ check_any msg0 W)
  have heq : ∀ W, (binOp .eql 27 (.agg (msgC mA)) (.agg (msgC mA))).run Tryd.prog W = .ok (.bool true) W := fun W => by rw [eql_msg, sameM_of rfl]
  have hb0 := (Below.refl w.heap.size w).alloc (Nat.le_refl _) (.cells (msgC mA) 27)
  have HB0 := Lib.hid hb0
  have HA0 := Lib.hid (Has.fresh w 27 (msgC mA))
  have HT := Lib.hid hT
  clear hb0 hsA hT
  go_enter Tryd.func8, Tryd.ntmps8
  go_wp2_with (first | ((with_reducible refine Who.wpList_newC 27 1 (.tmp 7) rfl rfl rfl (msgC msg0) (msgC mA) ?_); refine And.intro ⟨rfl, rfl, rfl, hal, by rfl, by rfl, info_size _, rfl, msgC_one _⟩ ?_; (try simp only [Act.put, List.setIfInBounds_toArray, List.set_cons_zero, List.set_cons_succ]); (try simp only [World.size_alloc])) | ((with_reducible refine Who.wpList_loadC 27 (.tmp 1) rfl w.heap.size 0 (msgC mA) ?_); refine And.intro ⟨by rfl, by rfl, ⟨_, Tryd.underlying27, rfl⟩, info_size _⟩ (And.intro (Who.has_range HA0.out) ?_); (try simp only [Act.put, List.setIfInBounds_toArray, List.set_cons_zero, List.set_cons_succ])))
  refine (HP.out _).mono ?_
  rintro e w1 ⟨rfl, hb⟩
  have HA1 := Lib.hid (HA0.out.below hb)
  have HB1 := Lib.hid (HB0.out.trans (hb.mono HB0.out.size))
  clear hb
  go_wp2_with fail
  refine (HG.out _).mono ?_
  rintro e w2 ⟨rfl, hb⟩
  have HA2 := Lib.hid ((HA1.out.below hb).past (.cells (msgC mA) 27))
  have HK2 := Lib.hid (Has.fresh w2 27 (msgC mA))
  have HB2 := Lib.hid ((HB1.out.trans (hb.mono HB1.out.size)).alloc (HB1.out.trans (hb.mono HB1.out.size)).size (.cells (msgC mA) 27))
  clear hb
  go_wp2_with (first | ((with_reducible refine Who.wpList_newC 27 4 (.tmp 16) rfl rfl rfl (msgC msg0) (msgC mA) ?_); refine And.intro ⟨rfl, rfl, rfl, hal, by rfl, by rfl, info_size _, rfl, msgC_one _⟩ ?_; (try simp only [Act.put, List.setIfInBounds_toArray, List.set_cons_zero, List.set_cons_succ]); (try simp only [World.size_alloc])) | ((with_reducible refine Who.wpList_loadC 27 (.tmp 1) rfl w.heap.size 0 (msgC mA) ?_); refine And.intro ⟨by rfl, by rfl, ⟨_, Tryd.underlying27, rfl⟩, info_size _⟩ (And.intro (Who.has_range HA2.out) ?_); (try simp only [Act.put, List.setIfInBounds_toArray, List.set_cons_zero, List.set_cons_succ])))
  refine (HX.out _ (HT.out.self HB2.out)).mono ?_
  rintro e w3 ⟨rfl, hb⟩
  have HA3 := Lib.hid (HA2.out.below hb)
  have HK3 := Lib.hid (HK2.out.below hb)
  have HB3 := Lib.hid (HB2.out.trans (hb.mono HB2.out.size))
  clear hb
  go_wp2_with (first | ((with_reducible refine Who.wpList_loadC 27 (.tmp 4) rfl w2.heap.size 0 (msgC mA) ?_); refine And.intro ⟨by rfl, by rfl, ⟨_, Tryd.underlying27, rfl⟩, info_size _⟩ (And.intro (Who.has_range HK3.out) ?_); (try simp only [Act.put, List.setIfInBounds_toArray, List.set_cons_zero, List.set_cons_succ])) | ((with_reducible refine Who.wpList_loadC 27 (.tmp 1) rfl w.heap.size 0 (msgC mA) ?_); refine And.intro ⟨by rfl, by rfl, ⟨_, Tryd.underlying27, rfl⟩, info_size _⟩ (And.intro (Who.has_range HA3.out) ?_); (try simp only [Act.put, List.setIfInBounds_toArray, List.set_cons_zero, List.set_cons_succ])))
  refine (HC.out _).mono ?_
  rintro e w4 ⟨rfl, hb⟩
  have HB4 := Lib.hid (HB3.out.trans (hb.mono HB3.out.size))
  clear hb
  go_wp2
  go_ret
  exact ⟨rfl, HB4.out⟩
end Go.Proofs.YtfjmcklmoebnaaaDoor.Mg
