/- Whatever parts come, in any order, however often: the law StreamPlays walked. -/
import Derived.Test.YtepnckglnciinaaSnI
namespace Go.Proofs.Ytepnckglnciinaa.Sm
open Go.RowKit Go.Proofs.Ytepnckglnciinaa.Mem
set_option linter.unusedVariables false

set_option maxRecDepth 100000 in
set_option maxHeartbeats 4000000 in
theorem plays_walk (W : World) (T0 : Int) (A : Option Addr) (n c : Nat) (ps : List PtP) (ht : (Lit.int .i64 T0).wf = true) (h : PRow W A n ps) (hf : ∀ y ∈ ps, y.s.size ≤ maxLen ∧ (Lit.int .i64 y.i).wf = true) (hn : n ≤ c) (hc : c ≤ maxLen) : Calls Try.prog 5 #[.int .i64 T0, .slice A n c] W fun e w' => e = .returned (.bool true) ∧ Below W.heap.size W w' := by
  have HS := Lib.hid (smalls_any A n c ps W h (fun p hp => (hf p hp).1) (Nat.le_trans hn hc))
  have HH := Lib.hid h
  have HF := Lib.hid hf
  have HLN := Lib.hid h.len
  have halc := alloc_pt
  clear h hf hn hc ht
  go_enter Try.func5, Try.ntmps5
  go_wp2_with fail
  refine HS.out.mono ?_
  rintro e w1 ⟨b, rfl, hb, rfl⟩
  have HB0 := Lib.hid (Below.refl W.heap.size W)
  cases b with
  | false =>
    clear hb
    go_wp2_with fail
    with_reducible refine (awake_any _).mono ?_
    rintro e wz ⟨rfl, hb⟩
    have HBZ := Lib.hid (HB0.out.trans (hb.mono HB0.out.size))
    clear hb
    go_wp2
    go_ret
    exact ⟨rfl, HBZ.out⟩
  | true =>
    have HN := Lib.hid (show n ≤ 120 by have := hb rfl; have := HLN.out; omega)
    clear hb
    by_cases hbad : T0 < 1 ∨ 4096 < T0
    · have HNB := Lib.hid (new_bad T0 hbad W)
      have HRB := Lib.hid (fun w => rnew_bad T0 hbad w)
      clear hbad
      go_wp2_with fail
      with_reducible refine HNB.out.mono ?_
      rintro e w2 ⟨rfl, rfl⟩
      go_wp2_with fail
      with_reducible refine (HRB.out _).mono ?_
      rintro e w3 ⟨rfl, rfl⟩
      go_wp2_with fail
      with_reducible refine (awake_any _).mono ?_
      rintro e wz ⟨rfl, hb⟩
      have HBZ := Lib.hid (HB0.out.trans (hb.mono HB0.out.size))
      clear hb
      go_wp2
      go_ret
      exact ⟨rfl, HBZ.out⟩
    · obtain ⟨T, rfl⟩ : ∃ T : Nat, T0 = T := ⟨T0.toNat, by omega⟩
      have hT1 : 1 ≤ T := by omega
      have hT2 : T ≤ 4096 := by omega
      have HNB := Lib.hid (new_is T hT1 hT2 W)
      have HRB := Lib.hid (fun w => rnew_is T hT1 hT2 w)
      clear hbad hT1 hT2
      go_wp2_with fail
      with_reducible refine HNB.out.mono ?_
      rintro e w2 ⟨g, q, rfl, hst, hbl, hlo⟩
      have H1 := Lib.hid hst
      have H2 := Lib.hid hbl
      have H3 := Lib.hid hlo
      clear hst hbl hlo
      go_wp2_with fail
      with_reducible refine (HRB.out _).mono ?_
      rintro e w3 ⟨g2, b2, rfl, hst, hbl, hlo⟩
      have HI0 := Lib.hid (PlayI.start H1.out H2.out H3.out hst hbl hlo)
      clear hst hbl hlo H1 H2 H3 HNB HRB
      go_wp2
      go_loopw [50] (fun i wr => ∃ j : Nat, ∃ m : Int → Option ByteArray, j ≤ n ∧ i = .int .i64 j ∧ Hid (PlayI W wr g q g2 b2 T m j)) (fun i _ => n - (intOf i).toNat)
      case atStart => exact ⟨0, _, by omega, rfl, HI0⟩
      case round =>
        obtain ⟨j, m, hj, rfl, HI⟩ := hrel
        by_cases hlt : j < n
        · have HJ := Lib.hid (show j + 1 ≤ n from hlt)
          obtain ⟨p, hp⟩ : ∃ p, ps[j]? = some p := ⟨_, List.getElem?_eq_getElem (by rw [HLN.out]; exact hlt)⟩
          obtain ⟨b, off, rfl, hbl, hrg⟩ := (HH.out.below HI.out.below).cells j p hp
          have HRG := Lib.hid hrg
          have HFP := Lib.hid (HF.out p (List.mem_of_getElem? hp))
          have HX := Lib.hid (Has.fresh wr 42 (ptC p))
          have HP1 := Lib.hid (HI.out.low ((Below.refl wr.heap.size wr).alloc (Nat.le_refl _) (.cells (ptC p) 42)))
          have HQ1 := Lib.hid (show q ≠ wr.heap.size ∧ b2 ≠ wr.heap.size by have := HI.out.ap; omega)
          have x0 : (wr.alloc (.cells (ptC p) 42)).cell? ⟨wr.heap.size, 0, none⟩ = some (.int .i64 p.i) := HX.out.at_ 0
          have x1 : (wr.alloc (.cells (ptC p) 42)).cell? ⟨wr.heap.size, 1, none⟩ = some (.string p.s) := HX.out.at_ 1
          obtain ⟨r, hr⟩ : ∃ r, addV T m p.i p.s = r := ⟨_, rfl⟩
          obtain ⟨a, E, m2⟩ := r
          have HAD := Lib.hid (show Calls Try.prog 20 #[.pointer (some ⟨g, 0, none⟩), .int .i64 p.i, .string p.s] (wr.alloc (.cells (ptC p) 42)) (AddIs (wr.alloc (.cells (ptC p) 42)) g q T (a, E, m2)) from hr ▸ add_live g q T m p.i p.s _ HP1.out.stg)
          have HRA := Lib.hid (show ∀ V, RStageIs V g2 b2 T m → Calls Try.prog 21 #[.pointer (some ⟨g2, 0, none⟩), .int .i64 p.i, .string p.s] V (RAddIs V g2 b2 T (a, E, m2)) from fun V hV => hr ▸ radd_any g2 b2 T m p.i p.s V hV)
          have HR := Lib.hid hr
          have hlti : (j : Int) < n := by omega
          have hn2 : (n : Int) ≤ 120 := by have := HN.out; omega
          clear hrg hbl hp hr
          go_wp2_with (first | ((with_reducible refine Who.wpList_loadC 42 (.tmp 52) rfl b (off + j * 2) (ptC p) ?_); refine And.intro ⟨by rfl, by rfl, ⟨_, Try.underlying42, rfl⟩, info_pt2⟩ (And.intro HRG.out ?_); (try simp only [Act.put, List.setIfInBounds_toArray, List.set_cons_zero, List.set_cons_succ])) | ((with_reducible refine wpList_storeNew 42 (.tmp 10) (.tmp 53) (ptC ⟨0, ⟨#[]⟩⟩) (ptC p) rfl ?_); refine And.intro ⟨rfl, rfl, rfl, rfl, info_pt2, rfl, ptC_one _⟩ ?_; (try simp only [Act.put, List.setIfInBounds_toArray, List.set_cons_zero, List.set_cons_succ])) | ((with_reducible refine Who.wpList_alloc 42 10 rfl rfl rfl (ptC ⟨0, ⟨#[]⟩⟩) halc ?_); (try simp only [Act.put, List.setIfInBounds_toArray, List.set_cons_zero, List.set_cons_succ])))
          with_reducible refine HAD.out.mono ?_
          rintro e w2 hA
          obtain ⟨rfl, hst, hch⟩ : e = .returned (.tuple #[.bool a, .int .i64 E]) ∧ StageIs w2 g q T m2 ∧ Chg (· = q) (wr.alloc (.cells (ptC p) 42)) w2 := hA
          have HC2 := Lib.hid hch
          have HS2 := Lib.hid hst
          have HX2 := Lib.hid (HX.out.over hch (fun e => HQ1.out.1 e.symm))
          have HRS := Lib.hid (HP1.out.half hch)
          have y0 : w2.cell? ⟨wr.heap.size, 0, none⟩ = some (.int .i64 p.i) := HX2.out.at_ 0
          have y1 : w2.cell? ⟨wr.heap.size, 1, none⟩ = some (.string p.s) := HX2.out.at_ 1
          clear hst hch x0 x1 HAD
          go_wp2_with fail
          with_reducible refine (HRA.out _ HRS.out).mono ?_
          rintro e w3 hA
          obtain ⟨rfl, hst, hch⟩ : e = .returned (.tuple #[.bool a, .int .i64 E]) ∧ RStageIs w3 g2 b2 T m2 ∧ Chg (· = b2) w2 w3 := hA
          have HP3 := Lib.hid (HP1.out.step HR.out HS2.out HC2.out hst hch)
          have HX3 := Lib.hid (HX2.out.over hch (fun e => HQ1.out.2 e.symm))
          have HHN := Lib.hid (hasn_live g q T m2 w3 HP3.out.stg)
          clear hst hch y0 y1 HRA HRS HS2 HC2
          go_wp2_with fail
          with_reducible refine HHN.out.mono ?_
          rintro e w4 ⟨rfl, hb⟩
          have HP4 := Lib.hid (HP3.out.low hb)
          have HX4 := Lib.hid (HX3.out.below hb)
          have HB4 := Lib.hid ((Below.refl w4.heap.size w4).drew)
          have HSB := Lib.hid (show ∀ V, Below w4.heap.size w4 V → V.cell? ⟨wr.heap.size, 0, none⟩ = some (.int .i64 p.i) from fun V hV => (HX4.out.below hV).at_ 0)
          have HRH := Lib.hid (fun V (hV : Below w4.heap.size w4 V) => rhasn_any g2 b2 T m2 V (HP4.out.rst.below hV))
          have HMI := Lib.hid (fun V (hV : Below w4.heap.size w4 V) => missing_live g q T m2 V (HP4.out.stg.below hV))
          have HRM := Lib.hid (fun V (hV : Below w4.heap.size w4 V) => rmissing_any g2 b2 T m2 V (HP4.out.rst.below hV))
          have HWH := Lib.hid (fun V (hV : Below w4.heap.size w4 V) => whole_live g q T m2 p.i (wf_i64 HFP.out.2) V (HP4.out.stg.below hV))
          have HRW := Lib.hid (fun V (hV : Below w4.heap.size w4 V) => rwhole_any g2 b2 T m2 p.i V (HP4.out.rst.below hV))
          clear hb
          go_wp2
          refine wp_region_held_drew (S := fun w' => w'.cell? ⟨wr.heap.size, 0, none⟩ = some (.int .i64 p.i)) (by kernel_rfl) (HSB.out _ HB4.out) (fun hHeld => ?_)
          refine Vc.wpAnyH_read (i := 0) (d := some 77) (v := ?vz1) (by rfl) (by rfl) (by kernel_rfl) (by kernel_rfl) (by kernel_rfl) (fun _ _ _ h => h) (by rfl) ?hyz1 (by assumption) ?restz1
          case hyz1 =>
            intro w hSw
            try dsimp only at hSw
            go_simp
            try with_reducible rfl
          (try simp only [Act.put, List.setIfInBounds_toArray, List.set_cons_zero, List.set_cons_succ])
          refine Vc.wpAnyH_read (i := 1) (d := some 78) (v := ?vz2) (by rfl) (by rfl) (by kernel_rfl) (by kernel_rfl) (by kernel_rfl) (fun _ _ _ h => h) (by rfl) ?hyz2 (by assumption) ?restz2
          case hyz2 =>
            intro w hSw
            try dsimp only at hSw
            go_simp
            try with_reducible rfl
          (try simp only [Act.put, List.setIfInBounds_toArray, List.set_cons_zero, List.set_cons_succ])
          refine Vc.wpAnyH_read (i := 2) (d := some 79) (v := .bool false) (by rfl) (by rfl) (by kernel_rfl) (by kernel_rfl) (by kernel_rfl) (fun _ _ _ h => h) (by rfl) ?hyz3 (by assumption) ?restz3
          case hyz3 =>
            intro w hSw
            try dsimp only at hSw
            go_simp
            try with_reducible rfl
          (try simp only [Act.put, List.setIfInBounds_toArray, List.set_cons_zero, List.set_cons_succ])
          refine Vc.wpAnyH_read (i := 3) (d := some 80) (v := ?vz4) (by rfl) (by rfl) (by kernel_rfl) (by kernel_rfl) (by kernel_rfl) (fun _ _ _ h => h) (by rfl) ?hyz4 (by assumption) ?restz4
          case hyz4 =>
            intro w hSw
            try dsimp only at hSw
            go_simp
            try with_reducible rfl
          (try simp only [Act.put, List.setIfInBounds_toArray, List.set_cons_zero, List.set_cons_succ])
          refine Vc.wpAnyH_read (i := 4) (d := some 81) (v := ?vz5) (by rfl) (by rfl) (by kernel_rfl) (by kernel_rfl) (by kernel_rfl) (fun _ _ _ h => h) (by rfl) ?hyz5 (by assumption) ?restz5
          case hyz5 =>
            intro w hSw
            try dsimp only at hSw
            go_simp
            try with_reducible rfl
          (try simp only [Act.put, List.setIfInBounds_toArray, List.set_cons_zero, List.set_cons_succ])
          refine Vc.wpAnyH_read (i := 5) (d := some 82) (v := ?vz6) (by rfl) (by rfl) (by kernel_rfl) (by kernel_rfl) (by kernel_rfl) (fun _ _ _ h => h) (by rfl) ?hyz6 (by assumption) ?restz6
          case hyz6 =>
            intro w hSw
            try dsimp only at hSw
            go_simp
            try with_reducible rfl
          (try simp only [Act.put, List.setIfInBounds_toArray, List.set_cons_zero, List.set_cons_succ])
          refine Vc.wpAnyH_read (i := 6) (d := some 83) (v := .bool false) (by rfl) (by rfl) (by kernel_rfl) (by kernel_rfl) (by kernel_rfl) (fun _ _ _ h => h) (by rfl) ?hyz7 (by assumption) ?restz7
          case hyz7 =>
            intro w hSw
            try dsimp only at hSw
            go_simp
            try with_reducible rfl
          (try simp only [Act.put, List.setIfInBounds_toArray, List.set_cons_zero, List.set_cons_succ])
          refine Vc.wpAnyH_read (i := 7) (d := some 84) (v := .bool false) (by rfl) (by rfl) (by kernel_rfl) (by kernel_rfl) (by kernel_rfl) (fun _ _ _ h => h) (by rfl) ?hyz8 (by assumption) ?restz8
          case hyz8 =>
            intro w hSw
            try dsimp only at hSw
            go_simp
            try with_reducible rfl
          (try simp only [Act.put, List.setIfInBounds_toArray, List.set_cons_zero, List.set_cons_succ])
          refine Vc.wpAnyH_read (i := 8) (d := some 85) (v := ?vz9) (by rfl) (by rfl) (by kernel_rfl) (by kernel_rfl) (by kernel_rfl) (fun _ _ _ h => h) (by rfl) ?hyz9 (by assumption) ?restz9
          case hyz9 =>
            intro w hSw
            try dsimp only at hSw
            go_simp
            try with_reducible rfl
          (try simp only [Act.put, List.setIfInBounds_toArray, List.set_cons_zero, List.set_cons_succ])
          refine Vc.wpAnyH_read (i := 9) (d := some 86) (v := ?vz10) (by rfl) (by rfl) (by kernel_rfl) (by kernel_rfl) (by kernel_rfl) (fun _ _ _ h => h) (by rfl) ?hyz10 (by assumption) ?restz10
          case hyz10 =>
            intro w hSw
            try dsimp only at hSw
            go_simp
            try with_reducible rfl
          (try simp only [Act.put, List.setIfInBounds_toArray, List.set_cons_zero, List.set_cons_succ])
          refine Vc.wpAnyH_read (i := 10) (d := some 87) (v := ?vz11) (by rfl) (by rfl) (by kernel_rfl) (by kernel_rfl) (by kernel_rfl) (fun _ _ _ h => h) (by rfl) ?hyz11 (by assumption) ?restz11
          case hyz11 =>
            intro w hSw
            try dsimp only at hSw
            go_simp
            try with_reducible rfl
          (try simp only [Act.put, List.setIfInBounds_toArray, List.set_cons_zero, List.set_cons_succ])
          refine wpAnyH_ready (rs := [11]) (by kernel_rfl) (by simp) ?_
          refine AllReadyH.cons rfl (fun K hK => ?_) AllReadyH.nil
          go_simp
          go_at_call 23
          with_reducible refine (HRH.out _ HB4.out).mono ?_
          rintro e w5 ⟨rfl, rfl⟩
          refine hK.out _ _ (HSB.out _ HB4.out) (fun hHeld => ?_)
          clear hK K
          (try simp only [Act.put, List.setIfInBounds_toArray, List.set_cons_zero, List.set_cons_succ])
          refine Vc.wpAnyH_read (i := 12) (d := some 89) (v := .bool false) (by rfl) (by rfl) (by kernel_rfl) (by kernel_rfl) (by kernel_rfl) (fun _ _ _ h => h) (by rfl) ?hyz12 (by assumption) ?restz12
          case hyz12 =>
            intro w hSw
            try dsimp only at hSw
            go_simp
            try with_reducible rfl
          (try simp only [Act.put, List.setIfInBounds_toArray, List.set_cons_zero, List.set_cons_succ])
          refine Vc.wpAnyH_read (i := 13) (d := some 90) (v := .bool false) (by rfl) (by rfl) (by kernel_rfl) (by kernel_rfl) (by kernel_rfl) (fun _ _ _ h => h) (by rfl) ?hyz13 (by assumption) ?restz13
          case hyz13 =>
            intro w hSw
            try dsimp only at hSw
            go_simp
            try with_reducible rfl
          (try simp only [Act.put, List.setIfInBounds_toArray, List.set_cons_zero, List.set_cons_succ])
          refine Vc.wpAnyH_read (i := 14) (d := some 91) (v := ?vz14) (by rfl) (by rfl) (by kernel_rfl) (by kernel_rfl) (by kernel_rfl) (fun _ _ _ h => h) (by rfl) ?hyz14 (by assumption) ?restz14
          case hyz14 =>
            intro w hSw
            try dsimp only at hSw
            go_simp
            try with_reducible rfl
          (try simp only [Act.put, List.setIfInBounds_toArray, List.set_cons_zero, List.set_cons_succ])
          refine Vc.wpAnyH_read (i := 15) (d := some 92) (v := ?vz15) (by rfl) (by rfl) (by kernel_rfl) (by kernel_rfl) (by kernel_rfl) (fun _ _ _ h => h) (by rfl) ?hyz15 (by assumption) ?restz15
          case hyz15 =>
            intro w hSw
            try dsimp only at hSw
            go_simp
            try with_reducible rfl
          (try simp only [Act.put, List.setIfInBounds_toArray, List.set_cons_zero, List.set_cons_succ])
          refine Vc.wpAnyH_read (i := 16) (d := some 93) (v := ?vz16) (by rfl) (by rfl) (by kernel_rfl) (by kernel_rfl) (by kernel_rfl) (fun _ _ _ h => h) (by rfl) ?hyz16 (by assumption) ?restz16
          case hyz16 =>
            intro w hSw
            try dsimp only at hSw
            go_simp
            try with_reducible rfl
          (try simp only [Act.put, List.setIfInBounds_toArray, List.set_cons_zero, List.set_cons_succ])
          refine Vc.wpAnyH_read (i := 17) (d := some 94) (v := .bool false) (by rfl) (by rfl) (by kernel_rfl) (by kernel_rfl) (by kernel_rfl) (fun _ _ _ h => h) (by rfl) ?hyz17 (by assumption) ?restz17
          case hyz17 =>
            intro w hSw
            try dsimp only at hSw
            go_simp
            try with_reducible rfl
          (try simp only [Act.put, List.setIfInBounds_toArray, List.set_cons_zero, List.set_cons_succ])
          refine Vc.wpAnyH_read (i := 18) (d := some 95) (v := .bool false) (by rfl) (by rfl) (by kernel_rfl) (by kernel_rfl) (by kernel_rfl) (fun _ _ _ h => h) (by rfl) ?hyz18 (by assumption) ?restz18
          case hyz18 =>
            intro w hSw
            try dsimp only at hSw
            go_simp
            try with_reducible rfl
          (try simp only [Act.put, List.setIfInBounds_toArray, List.set_cons_zero, List.set_cons_succ])
          refine Vc.wpAnyH_read (i := 19) (d := some 96) (v := ?vz19) (by rfl) (by rfl) (by kernel_rfl) (by kernel_rfl) (by kernel_rfl) (fun _ _ _ h => h) (by rfl) ?hyz19 (by assumption) ?restz19
          case hyz19 =>
            intro w hSw
            try dsimp only at hSw
            go_simp
            try with_reducible rfl
          (try simp only [Act.put, List.setIfInBounds_toArray, List.set_cons_zero, List.set_cons_succ])
          refine Vc.wpAnyH_read (i := 20) (d := some 97) (v := ?vz20) (by rfl) (by rfl) (by kernel_rfl) (by kernel_rfl) (by kernel_rfl) (fun _ _ _ h => h) (by rfl) ?hyz20 (by assumption) ?restz20
          case hyz20 =>
            intro w hSw
            try dsimp only at hSw
            go_simp
            try with_reducible rfl
          (try simp only [Act.put, List.setIfInBounds_toArray, List.set_cons_zero, List.set_cons_succ])
          refine Vc.wpAnyH_read (i := 22) (d := some 99) (v := ?vz21) (by rfl) (by rfl) (by kernel_rfl) (by kernel_rfl) (by kernel_rfl) (fun _ _ _ h => h) (by rfl) ?hyz21 (by assumption) ?restz21
          case hyz21 =>
            intro w hSw
            try dsimp only at hSw
            go_simp
            try with_reducible rfl
          (try simp only [Act.put, List.setIfInBounds_toArray, List.set_cons_zero, List.set_cons_succ])
          refine wpAnyH_ready (rs := [21]) (by kernel_rfl) (by simp) ?_
          refine AllReadyH.cons rfl (fun K hK => ?_) AllReadyH.nil
          go_simp
          go_at_call 24
          with_reducible refine (HMI.out _ HB4.out).mono ?_
          rintro e w5 ⟨j1, rfl, hj1, hj2, hb⟩
          have HB5 := Lib.hid (HB4.out.trans (hb.mono HB4.out.size))
          have HJ1 := Lib.hid (And.intro hj1 hj2)
          clear hb hj1 hj2
          refine hK.out _ _ (HSB.out _ HB5.out) (fun hHeld => ?_)
          clear hK K
          (try simp only [Act.put, List.setIfInBounds_toArray, List.set_cons_zero, List.set_cons_succ])
          refine wpAnyH_ready (rs := [23]) (by kernel_rfl) (by simp) ?_
          refine AllReadyH.cons rfl (fun K hK => ?_) AllReadyH.nil
          go_simp
          go_at_call 25
          with_reducible refine (HRM.out _ HB5.out).mono ?_
          rintro e w6 ⟨j2, rfl, hj1, hj2, hb⟩
          have HB6 := Lib.hid (HB5.out.trans (hb.mono HB5.out.size))
          obtain rfl : j1 = j2 := miss_same HJ1.out.1 HJ1.out.2 hj1 hj2
          clear hb hj1 hj2
          refine hK.out _ _ (HSB.out _ HB6.out) (fun hHeld => ?_)
          clear hK K
          (try simp only [Act.put, List.setIfInBounds_toArray, List.set_cons_zero, List.set_cons_succ])
          refine Vc.wpAnyH_read (i := 24) (d := some 101) (v := .bool false) (by rfl) (by rfl) (by kernel_rfl) (by kernel_rfl) (by kernel_rfl) (fun _ _ _ h => h) (by rfl) ?hyz22 (by assumption) ?restz22
          case hyz22 =>
            intro w hSw
            try dsimp only at hSw
            go_simp
            try with_reducible rfl
          (try simp only [Act.put, List.setIfInBounds_toArray, List.set_cons_zero, List.set_cons_succ])
          refine Vc.wpAnyH_read (i := 25) (d := some 102) (v := .bool false) (by rfl) (by rfl) (by kernel_rfl) (by kernel_rfl) (by kernel_rfl) (fun _ _ _ h => h) (by rfl) ?hyz23 (by assumption) ?restz23
          case hyz23 =>
            intro w hSw
            try dsimp only at hSw
            go_simp
            try with_reducible rfl
          (try simp only [Act.put, List.setIfInBounds_toArray, List.set_cons_zero, List.set_cons_succ])
          refine Vc.wpAnyH_read (i := 26) (d := some 103) (v := ?vz24) (by rfl) (by rfl) (by kernel_rfl) (by kernel_rfl) (by kernel_rfl) (fun _ _ _ h => h) (by rfl) ?hyz24 (by assumption) ?restz24
          case hyz24 =>
            intro w hSw
            try dsimp only at hSw
            go_simp
            try with_reducible rfl
          (try simp only [Act.put, List.setIfInBounds_toArray, List.set_cons_zero, List.set_cons_succ])
          refine Vc.wpAnyH_read (i := 27) (d := some 104) (v := ?vz25) (by rfl) (by rfl) (by kernel_rfl) (by kernel_rfl) (by kernel_rfl) (fun _ _ _ h => h) (by rfl) ?hyz25 (by assumption) ?restz25
          case hyz25 =>
            intro w hSw
            try dsimp only at hSw
            go_simp
            try with_reducible rfl
          (try simp only [Act.put, List.setIfInBounds_toArray, List.set_cons_zero, List.set_cons_succ])
          refine Vc.wpAnyH_read (i := 28) (d := some 105) (v := ?vz26) (by rfl) (by rfl) (by kernel_rfl) (by kernel_rfl) (by kernel_rfl) (fun _ _ _ h => h) (by rfl) ?hyz26 (by assumption) ?restz26
          case hyz26 =>
            intro w hSw
            try dsimp only at hSw
            go_simp
            try with_reducible rfl
          (try simp only [Act.put, List.setIfInBounds_toArray, List.set_cons_zero, List.set_cons_succ])
          refine Vc.wpAnyH_read (i := 29) (d := some 106) (v := ?vz27) (by rfl) (by rfl) (by kernel_rfl) (by kernel_rfl) (by kernel_rfl) (fun _ _ _ h => h) (by rfl) ?hyz27 (by assumption) ?restz27
          case hyz27 =>
            intro w hSw
            try dsimp only at hSw
            go_simp
            try with_reducible rfl
          (try simp only [Act.put, List.setIfInBounds_toArray, List.set_cons_zero, List.set_cons_succ])
          refine Vc.wpAnyH_read (i := 31) (d := some 108) (v := ?vz28) (by rfl) (by rfl) (by kernel_rfl) (by kernel_rfl) (by kernel_rfl) (fun _ _ _ h => h) (by rfl) ?hyz28 (by assumption) ?restz28
          case hyz28 =>
            intro w hSw
            try dsimp only at hSw
            go_simp
            try with_reducible rfl
          (try simp only [Act.put, List.setIfInBounds_toArray, List.set_cons_zero, List.set_cons_succ])
          refine Vc.wpAnyH_read (i := 32) (d := some 109) (v := ?vz29) (by rfl) (by rfl) (by kernel_rfl) (by kernel_rfl) (by kernel_rfl) (fun _ _ _ h => h) (by rfl) ?hyz29 (by assumption) ?restz29
          case hyz29 =>
            intro w hSw
            try dsimp only at hSw
            go_simp
            try with_reducible rfl
          (try simp only [Act.put, List.setIfInBounds_toArray, List.set_cons_zero, List.set_cons_succ])
          refine Vc.wpAnyH_read (i := 33) (d := some 110) (v := ?vz30) (by rfl) (by rfl) (by kernel_rfl) (by kernel_rfl) (by kernel_rfl) (fun _ _ _ h => h) (by rfl) ?hyz30 (by assumption) ?restz30
          case hyz30 =>
            intro w hSw
            try dsimp only at hSw
            go_simp
            try with_reducible rfl
          (try simp only [Act.put, List.setIfInBounds_toArray, List.set_cons_zero, List.set_cons_succ])
          refine wpAnyH_ready (rs := [30]) (by kernel_rfl) (by simp) ?_
          refine AllReadyH.cons rfl (fun K hK => ?_) AllReadyH.nil
          go_simp
          go_at_call 26
          with_reducible refine (HWH.out _ HB6.out).mono ?_
          rintro e w7 ⟨⟨d1, rfl, hd1⟩, hb⟩
          have HB7 := Lib.hid (HB6.out.trans (hb.mono HB6.out.size))
          have HD1 := Lib.hid hd1
          clear hb hd1
          refine hK.out _ _ (HSB.out _ HB7.out) (fun hHeld => ?_)
          clear hK K
          (try simp only [Act.put, List.setIfInBounds_toArray, List.set_cons_zero, List.set_cons_succ])
          refine wpAnyH_ready (rs := [34]) (by kernel_rfl) (by simp) ?_
          refine AllReadyH.cons rfl (fun K hK => ?_) AllReadyH.nil
          go_simp
          go_at_call 27
          with_reducible refine (HRW.out _ HB7.out).mono ?_
          rintro e w8 ⟨⟨d2, rfl, hd2⟩, rfl⟩
          obtain rfl : d1 = d2 := Bool.eq_iff_iff.2 (HD1.out.trans hd2.symm)
          clear hd2
          refine hK.out _ _ (HSB.out _ HB7.out) (fun hHeld => ?_)
          clear hK K
          (try simp only [Act.put, List.setIfInBounds_toArray, List.set_cons_zero, List.set_cons_succ])
          refine Vc.wpAnyH_read (i := 35) (d := some 112) (v := .bool false) (by rfl) (by rfl) (by kernel_rfl) (by kernel_rfl) (by kernel_rfl) (fun _ _ _ h => h) (by rfl) ?hyz31 (by assumption) ?restz31
          case hyz31 =>
            intro w hSw
            try dsimp only at hSw
            go_simp
            try with_reducible rfl
          (try simp only [Act.put, List.setIfInBounds_toArray, List.set_cons_zero, List.set_cons_succ])
          refine Vc.wpAnyH_read (i := 36) (d := some 113) (v := .bool false) (by rfl) (by rfl) (by kernel_rfl) (by kernel_rfl) (by kernel_rfl) (fun _ _ _ h => h) (by rfl) ?hyz32 (by assumption) ?restz32
          case hyz32 =>
            intro w hSw
            try dsimp only at hSw
            go_simp
            try with_reducible rfl
          (try simp only [Act.put, List.setIfInBounds_toArray, List.set_cons_zero, List.set_cons_succ])
          refine wpAnyH_done (by kernel_rfl) ?_ _
          have HPE := Lib.hid (HP4.out.low HB7.out)
          go_wp2
          go_roundw
          case rel => exact ⟨j + 1, m2, HJ.out, by go_num, HPE⟩
          case measure => have := HJ.out; simp [intOf]; omega
        · have hlti : ¬ (j : Int) < n := by omega
          obtain rfl : j = n := by omega
          by_cases hcn : cntM T m < T
          · have HCL := Lib.hid (changes_less g q T m wr HI.out.stg hcn)
            have HRC := Lib.hid (fun V (hV : Below wr.heap.size wr V) => rchanges_any g2 b2 T m (fun ha => absurd (cnt_full ha) (by omega)) HI.out.few V (HI.out.rst.below hV))
            have HNO := Lib.hid (show ¬ ∀ k : Nat, k < T → (m k).isSome = true from fun ha => absurd (cnt_full ha) (by omega))
            clear hcn
            go_wp2_with fail
            with_reducible refine HCL.out.mono ?_
            rintro e w4 ⟨rfl, hb⟩
            have HB4 := Lib.hid hb
            clear hb
            go_wp2_with fail
            with_reducible refine (HRC.out _ HB4.out).mono ?_
            rintro e w5 ⟨hor, hb⟩
            rcases hor with ⟨rfl, _⟩ | ⟨hall, _⟩
            case inr => exact absurd hall HNO.out
            have HB5 := Lib.hid ((HI.out.below.trans (HB4.out.mono HI.out.below.size)).trans (hb.mono (Nat.le_trans HI.out.below.size HB4.out.size)))
            have HEQ := Lib.hid (eqc_any none none 0 0 0 0 [] [] (by omega) (by omega) w5 (crow_nil _) (crow_nil _))
            clear hb
            go_wp2_with fail
            with_reducible refine HEQ.out.mono ?_
            rintro e w6 ⟨⟨d1, rfl, hiff⟩, hb⟩
            obtain rfl : d1 = true := hiff.2 trivial
            have HB6 := Lib.hid (HB5.out.trans (hb.mono HB5.out.size))
            clear hb hiff
            go_wp2_with fail
            with_reducible refine (awake_any _).mono ?_
            rintro e wz ⟨rfl, hb⟩
            have HBZ := Lib.hid (HB6.out.trans (hb.mono HB6.out.size))
            clear hb
            go_wp2
            go_ret
            exact ⟨rfl, HBZ.out⟩
          · have HT := Lib.hid (show T ≤ 120 by have := HI.out.cnt; have := HN.out; omega)
            have HAL := Lib.hid (cnt_all (show T ≤ cntM T m by omega))
            have HCL := Lib.hid (changes_live g q T m HI.out.few (Nat.le_trans HT.out (by omega)) wr HI.out.stg (by omega))
            have HRC := Lib.hid (fun V (hV : Below wr.heap.size wr V) => rchanges_any g2 b2 T m (fun ha => Nat.le_trans HT.out (by omega)) HI.out.few V (HI.out.rst.below hV))
            clear hcn
            go_wp2_with fail
            with_reducible refine HCL.out.mono ?_
            rintro e w4 ⟨⟨o, ho, hout⟩, hb⟩
            obtain ⟨A1, c1, rfl, hrow, hlen⟩ := out_rows hout
            have HB4 := Lib.hid hb
            have HO := Lib.hid ho
            have HR1 := Lib.hid hrow
            have HL1 := Lib.hid hlen
            clear hb ho hout hrow hlen
            go_wp2_with fail
            with_reducible refine (HRC.out _ HB4.out).mono ?_
            rintro e w5 ⟨hor, hb⟩
            rcases hor with ⟨_, k, hk, hno⟩ | ⟨hall, A0, rfl, o2, ho2, hout⟩
            case inl => have hyes := HAL.out k hk; rw [hno] at hyes; cases hyes
            obtain rfl := gets_same HO.out ho2
            obtain ⟨A2, c2, rfl, hrow, hlen⟩ := out_rows hout
            have HB5 := Lib.hid ((HI.out.below.trans (HB4.out.mono HI.out.below.size)).trans (hb.mono (Nat.le_trans HI.out.below.size HB4.out.size)))
            have HEQ := Lib.hid (eqc_any A1 A2 (outO o).1.length (outO o).1.length c1 c2 (outO o).1 (outO o).1 HL1.out HL1.out w5 (HR1.out.below hb) hrow)
            clear hb ho2 hout hrow hlen hall
            generalize (outO o).1.length = L at *
            generalize (outO o).2 = E at *
            go_wp2_with fail
            with_reducible refine HEQ.out.mono ?_
            rintro e w6 ⟨⟨d1, rfl, hiff⟩, hb⟩
            obtain rfl : d1 = true := hiff.2 trivial
            have HB6 := Lib.hid (HB5.out.trans (hb.mono HB5.out.size))
            clear hb hiff
            go_wp2_with fail
            with_reducible refine (awake_any _).mono ?_
            rintro e wz ⟨rfl, hb⟩
            have HBZ := Lib.hid (HB6.out.trans (hb.mono HB6.out.size))
            clear hb
            go_wp2
            go_ret
            exact ⟨rfl, HBZ.out⟩
end Go.Proofs.Ytepnckglnciinaa.Sm
