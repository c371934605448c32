/- The law StreamBack walked. -/
import Derived.Test.YtepnckglnciinaaSmZ
namespace Go.Proofs.Ytepnckglnciinaa.Sm
open Go.RowKit Go.Proofs.Ytepnckglnciinaa.Mem
set_option linter.unusedVariables false

structure BackI (w3 wr : World) (g q : Nat) (P : List ByteArray) (m : Int → Option ByteArray) : Prop where
  stage : StageIs wr g q P.length m
  parts : PartM P m
  below : Below w3.heap.size w3 wr
set_option maxRecDepth 100000 in
theorem count_few {T z : Nat} (b : T * 512 < z + 512) (h : z ≤ 80000) : T ≤ 1000 := by omega
theorem add_back (w3 wr : World) (g q : Nat) (s x : ByteArray) (i : Nat) (m : Int → Option ByteArray) (h : BackI w3 wr g q (cutL s) m) (hx : (cutL s)[i]? = some x) (hq : w3.heap.size ≤ q) : Calls Try.prog 20 #[.pointer (some ⟨g, 0, none⟩), .int .i64 i, .string x] wr
    fun e w' => ∃ b m', e = .returned (.tuple #[.bool b, .int .i64 0]) ∧ BackI w3 w' g q (cutL s) m' ∧ (m' (i : Int)).isSome = true ∧ ∀ z, (m z).isSome = true → (m' z).isSome = true := by
  obtain ⟨b, m', e1, p1, p2, p3⟩ := add_part hx (may_part hx) h.parts
  refine (add_live g q (cutL s).length m i x wr h.stage).mono ?_
  rintro e w' ⟨rfl, hst, hc⟩
  rw [e1] at hst ⊢
  exact ⟨b, m', rfl, ⟨hst, p1, h.below.trans (hc.below (B := w3.heap.size) h.below.size (fun k hk e => by omega))⟩, p2, p3⟩
theorem txt_pick {w : World} {A : Option Addr} {n : Nat} {P : List ByteArray} (h : TxtRow w A n P) {i : Nat} (hi : i < n) : ∃ b off x, A = some ⟨b, off, none⟩ ∧ P[i]? = some x ∧ w.cell? ⟨b, off + i, none⟩ = some (.string x) := by
  obtain ⟨b, off, e, hb, hc⟩ := h.2 (by omega)
  have hl : i < P.length := by rw [h.1]; exact hi
  exact ⟨b, off, P[i], e, List.getElem?_eq_getElem hl, hc i hl⟩
theorem num_pick {w : World} {A : Option Addr} {n : Nat} {l : List Int} (h : NumRow w A n l) {i : Nat} (hi : i < n) : ∃ b off x, A = some ⟨b, off, none⟩ ∧ w.cell? ⟨b, off + i, none⟩ = some (.int .i64 x) := by
  obtain ⟨b, off, e, hb, hc⟩ := h.2 (by omega)
  have hl : i < l.length := by rw [h.1]; exact hi
  exact ⟨b, off, l[i], e, hc i hl⟩
theorem all_back {s : ByteArray} {m : Int → Option ByteArray} (hm : PartM (cutL s) m) (ha : ∀ i : Nat, i < (cutL s).length → (m i).isSome = true) : (⟨(allB m (cutL s).length).toArray⟩ : ByteArray) = s := by
  rw [all_parts hm ha, cut_join]
set_option maxRecDepth 100000 in
set_option maxHeartbeats 8000000 in
theorem back_walk (W : World) (A : Option Addr) (n c : Nat) (cs : List ChgP) (A1 : Option Addr) (n1 c1 : Nat) (ks : List Int) (h : CRow W A n cs) (hf : ∀ y ∈ cs, y.key.size ≤ maxLen ∧ y.val.size ≤ maxLen) (hn : n ≤ c) (hc : c ≤ maxLen)
    (h1 : NumRow W A1 n1 ks) (h1z : A1 = none → n1 = 0 ∧ c1 = 0) (h1n : n1 ≤ c1) (h1c : c1 ≤ maxLen) (h1f : ∀ x ∈ ks, -9223372036854775808 ≤ x ∧ x ≤ 9223372036854775807) : Calls Try.prog 6 #[.slice A n c, .slice A1 n1 c1] W fun e w' => e = .returned (.bool true) ∧ Below W.heap.size W w' := by
  have HS := Lib.hid (small_any A n c cs W h hf (Nat.le_trans hn hc))
  have HR := Lib.hid h
  have HK := Lib.hid h1
  have h1m : n1 ≤ 9223372036854775807 := by have := Nat.le_trans h1n h1c; unfold maxLen at this; simpa using this
  clear h hf hn hc h1 h1z h1n h1c h1f
  go_enter Try.func6, Try.ntmps6
  go_wp2_with fail
  refine HS.out.mono ?_
  rintro e w1 ⟨b, rfl, hbn, hb⟩
  have HB1 := Lib.hid hb
  have HR1 := Lib.hid (HR.out.below hb)
  clear hb
  cases b with
  | false =>
    clear hbn
    go_wp2_with fail
    refine (awake_any _).mono ?_
    rintro e wz ⟨rfl, hb⟩
    have HBZ := Lib.hid (HB1.out.trans (hb.mono HB1.out.size))
    clear hb
    go_wp2
    go_ret
    exact ⟨rfl, HBZ.out⟩
  | true =>
    obtain ⟨q1, q2⟩ := hbn rfl
    have hl := HR1.out.len
    have HSZ := Lib.hid q2
    have hn9 : n ≤ 120 := by omega
    have HSO := Lib.hid (sorted_any A n c cs w1 HR1.out (by omega))
    clear hbn q1 q2 hl
    go_wp2_with fail
    refine HSO.out.mono ?_
    rintro e w2 ⟨⟨b2, rfl, hiff⟩, hb⟩
    have HB2 := Lib.hid (HB1.out.trans (hb.mono HB1.out.size))
    have HR2 := Lib.hid (HR1.out.below hb)
    clear hb
    cases b2 with
    | false =>
      clear hiff
      go_wp2_with fail
      refine (awake_any _).mono ?_
      rintro e wz ⟨rfl, hb⟩
      have HBZ := Lib.hid (HB2.out.trans (hb.mono HB2.out.size))
      clear hb
      go_wp2
      go_ret
      exact ⟨rfl, HBZ.out⟩
    | true =>
      have HSP := Lib.hid (hiff.1 rfl)
      clear hiff
      by_cases hk : 1000 < n1
      · have hki : (1000 : Int) < n1 := by omega
        go_wp2_with fail
        refine (awake_any _).mono ?_
        rintro e wz ⟨rfl, hb⟩
        have HBZ := Lib.hid (HB2.out.trans (hb.mono HB2.out.size))
        clear hb
        go_wp2
        go_ret
        exact ⟨rfl, HBZ.out⟩
      · have hki : ¬ (1000 : Int) < n1 := by omega
        have HCU := Lib.hid (cut_any A n c cs w2 HR2.out (by omega) (by have := HSZ.out; omega))
        have HSB := Lib.hid (BA_size (putD cs))
        obtain ⟨s, hs⟩ : ∃ s : ByteArray, s = ⟨(putD cs).toArray⟩ := ⟨_, rfl⟩
        have hss : s.size = (putD cs).length := by rw [hs]; exact HSB.out
        have hsp : 0 < s.size ∧ s.size ≤ 80000 := by
          rw [hss]
          refine ⟨?_, HSZ.out⟩
          unfold putD
          rw [List.length_append, numB_len]
          omega
        have HS0 := Lib.hid hs
        rw [← hs] at HCU
        obtain ⟨T, hT⟩ : ∃ T, T = (cutL s).length := ⟨_, rfl⟩
        have HT := Lib.hid hT
        have hT1 : 1 ≤ T ∧ T ≤ 1000 := by
          have a := cut_some hsp.1
          have b := cut_count s
          rw [← hT] at a b
          exact ⟨a, count_few b hsp.2⟩
        have HT1 := Lib.hid hT1
        clear hs hss HSB
        go_wp2_with fail
        refine HCU.out.mono ?_
        rintro e w3 ⟨u, rfl, hu, hb⟩
        have HB3 := Lib.hid (HB2.out.trans (hb.mono HB2.out.size))
        obtain ⟨Ap, cp, rfl, hrow⟩ := hu.row
        rw [← hT] at hrow ⊢
        have HRW := Lib.hid hrow
        have HNEW := Lib.hid (new_good T hT1.1 (by omega) w3)
        have hTi : ((T : Int) == 0) = false := beq_eq_false_iff_ne.2 (by omega)
        have hTn : ¬ (T : Int) = 0 := by omega
        have hT0 : T ≠ 0 := by omega
        have hTk : (T : Int) ≤ 1000 := by omega
        clear hu hb hrow hsp hT
        go_wp2_with fail
        refine HNEW.out.mono ?_
        rintro e w4 ⟨rfl, hst, hb, hsz⟩
        obtain ⟨g, hg⟩ : ∃ g, g = w3.heap.size + 1 := ⟨_, rfl⟩
        obtain ⟨q, hq⟩ : ∃ q, q = w3.heap.size := ⟨_, rfl⟩
        rw [← hg] at hst ⊢
        rw [← hq] at hst
        have HQ := Lib.hid (show w3.heap.size ≤ q by omega)
        have HI0 := Lib.hid (show BackI w3 w4 g q (cutL s) (fun _ => none) from ⟨by rw [← HT.out]; exact hst, fun z x hz => (by cases hz), hb⟩)
        clear hst hb hsz hg hq hT1
        go_wp2
        go_loopw [48] (fun z wr => ∃ j : Nat, ∃ m, j ≤ n1 ∧ z = .int .i64 j ∧ Hid (BackI w3 wr g q (cutL s) m)) (fun z _ => n1 - (intOf z).toNat)
        case atStart => exact ⟨0, _, by omega, rfl, HI0⟩
        case round =>
          obtain ⟨j, m, hj, rfl, HI⟩ := hrel
          by_cases hlt : j < n1
          · have HLT := Lib.hid (show j + 1 ≤ n1 from hlt)
            have hlti : (j : Int) < n1 := by omega
            obtain ⟨b, off, k, rfl, x0⟩ := num_pick ((HK.out.below HB3.out).below HI.out.below) hlt
            obtain ⟨U, hU⟩ : ∃ U, U = IntKind.u64.wrap k := ⟨_, rfl⟩
            have hU0 : 0 ≤ U := by rw [hU]; exact wrap_u64_nonneg k
            have hU2 : IntKind.u64.wrap k = U := hU.symm
            have hpos : (0 : Int) < T := by omega
            obtain ⟨i, hi⟩ : ∃ i : Nat, (i : Int) = U % T := ⟨(U % T).toNat, by have := Int.emod_nonneg U (b := (T : Int)) (by omega); omega⟩
            have hiT : i < T := by have := Int.emod_lt_of_pos U hpos; omega
            have hmod : U.tmod T = (i : Int) := by rw [hi]; exact Int.tmod_eq_emod_of_nonneg hU0
            have a0 : IntKind.u64.wrap (T : Int) = T := by unfold IntKind.wrap; simp [IntKind.signed, IntKind.bits]; omega
            have a1 : IntKind.i64.wrap (i : Int) = i := by rw [IntKind.wrap_i64]; omega
            have a2 : IntKind.u64.wrap (i : Int) = i := by unfold IntKind.wrap; simp [IntKind.signed, IntKind.bits]; omega
            obtain ⟨b2, off2, x, rfl, hx, y0⟩ := txt_pick (HRW.out.below HI.out.below) hiT
            have HA := Lib.hid (add_back w3 wr g q s x i m HI.out hx HQ.out)
            have hii : (i : Int) < T := by omega
            clear hU hU0 hi hx hpos
            go_wp2_with fail
            refine HA.out.mono ?_
            rintro e w5 ⟨ob, m', rfl, hI2, _, _⟩
            have HI2 := Lib.hid hI2
            clear hI2
            go_wp2
            go_roundw
            case rel => exact ⟨j + 1, m', HLT.out, by go_num, HI2⟩
            case measure => have := HLT.out; simp [intOf]; omega
          · have hlti : ¬ (j : Int) < n1 := by omega
            have b1 : IntKind.i64.wrap ((T : Int) - 1) = (T : Int) - 1 := by rw [IntKind.wrap_i64]; omega
            go_wp2
            go_loopw [13] (fun z wr => ∃ j : Int, ∃ m, -1 ≤ j ∧ j < T ∧ z = .int .i64 j ∧ Hid (BackI w3 wr g q (cutL s) m) ∧ Hid (∀ i : Nat, j < i → i < T → (m i).isSome = true)) (fun z _ => (intOf z + 1).toNat)
            case atStart => exact ⟨(T : Int) - 1, _, by omega, by omega, rfl, HI, Lib.hid (fun i h1 h2 => by omega)⟩
            case round =>
              obtain ⟨z, m2, hz1, hz2, rfl, HI2, HA2⟩ := hrel
              by_cases hz : 0 ≤ z
              · obtain ⟨i, rfl⟩ : ∃ i : Nat, z = i := ⟨z.toNat, by omega⟩
                have hiT : i < T := by omega
                have HZT := Lib.hid hiT
                obtain ⟨b2, off2, x, rfl, hx, y0⟩ := txt_pick (HRW.out.below HI2.out.below) hiT
                have HA := Lib.hid (add_back w3 _ g q s x i m2 HI2.out hx HQ.out)
                have a1 : IntKind.i64.wrap ((i : Int) - 1) = (i : Int) - 1 := by rw [IntKind.wrap_i64]; omega
                clear hx
                go_wp2_with fail
                refine HA.out.mono ?_
                rintro e w5 ⟨ob, m', rfl, hI2, hs1, hs2⟩
                have HI3 := Lib.hid hI2
                have HA3 := Lib.hid (show ∀ k : Nat, (i : Int) - 1 < k → k < T → (m' k).isSome = true from fun k h1 h2 => by
                  by_cases hk : k = i
                  · rw [hk]; exact hs1
                  · exact hs2 _ (HA2.out k (by omega) h2))
                clear hI2 hs1 hs2
                go_wp2
                go_roundw
                case rel => exact ⟨(i : Int) - 1, m', by omega, by have := HZT.out; omega, rfl, HI3, HA3⟩
                case measure =>
                  simp [intOf]
                  try omega
              · have hz0 : ¬ (0 : Int) ≤ z := hz
                have HALL := Lib.hid (show ∀ i : Nat, i < (cutL s).length → (m2 i).isSome = true from fun i hi => HA2.out i (by omega) (by rw [HT.out]; exact hi))
                have HCH := Lib.hid (changes_live g q (cutL s).length m2 (part_small HI2.out.parts) (by have := HT1.out; have := HT.out; omega) _ HI2.out.stage (cnt_full HALL.out))
                rw [all_back HI2.out.parts HALL.out, HS0.out] at HCH
                have HST := Lib.hid HI2.out.stage
                have HB5 := Lib.hid (HB3.out.trans (HI2.out.below.mono HB3.out.size))
                go_wp2_with fail
                refine HCH.out.mono ?_
                rintro e w6 ⟨⟨o, ho, hout⟩, hb⟩
                obtain rfl := gets_back (by have := HR.out.len; omega) HSP.out ho
                obtain ⟨v, rfl, hv⟩ := hout
                obtain ⟨Av, cv, rfl, hcr⟩ := hv.row
                have HB6 := Lib.hid (HB5.out.trans (hb.mono HB5.out.size))
                have HCR := Lib.hid hcr
                have HST6 := Lib.hid (HST.out.below hb)
                have hln := HR.out.len
                have HE := Lib.hid (eqc_any Av A cs.length n cv c cs cs (by omega) (by omega) w6 hcr (HR.out.below HB6.out))
                obtain ⟨L, hL⟩ : ∃ L, L = cs.length := ⟨_, rfl⟩
                rw [← hL] at HE HCR ⊢
                have HLL := Lib.hid (show L ≤ 1000000 by omega)
                clear ho hv hb hcr hln hL
                go_wp2_with fail
                refine HE.out.mono ?_
                rintro e w7 ⟨⟨b7, rfl, hi7⟩, hb⟩
                obtain rfl : b7 = true := by first | exact hi7.2 trivial | exact hi7.2 rfl | simpa using hi7
                have HB7 := Lib.hid (HB6.out.trans (hb.mono HB6.out.size))
                have HCR7 := Lib.hid (HCR.out.below hb)
                have HM := Lib.hid (missing_live g q (cutL s).length m2 w7 (HST6.out.below hb))
                clear hi7 hb
                go_wp2_with fail
                refine HM.out.mono ?_
                rintro e w8 ⟨jm, rfl, hm1, hm2, hb⟩
                obtain rfl : jm = T := by
                  have hT := HT.out
                  rcases Nat.lt_trichotomy jm T with h | h | h
                  · have h3 := HALL.out jm (by omega)
                    rw [hm2] at h3
                    cases h3
                  · exact h
                  · have h3 := (HI2.out.stage.dom _ (hm1 T h)).2
                    omega
                have HB8 := Lib.hid (HB7.out.trans (hb.mono HB7.out.size))
                have HSR := Lib.hid (rsorted_yes Av L cv cs w8 (HCR7.out.below hb) HLL.out HSP.out)
                clear hm1 hm2 hb
                go_wp2_with fail
                refine HSR.out.mono ?_
                rintro e w9 ⟨rfl, hb⟩
                have HB9 := Lib.hid (HB8.out.trans (hb.mono HB8.out.size))
                clear hb
                go_wp2_with fail
                refine (awake_any _).mono ?_
                rintro e wz ⟨rfl, hb⟩
                have HBZ := Lib.hid (HB9.out.trans (hb.mono HB9.out.size))
                clear hb
                go_wp2
                go_ret
                exact ⟨rfl, HBZ.out⟩
end Go.Proofs.Ytepnckglnciinaa.Sm
