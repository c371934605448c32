/- The walk of the law DevPlays. -/
import Derived.Test.YtdedbbbgpjhjhacDevY
namespace Go.Proofs.Ytdedbbbgpjhjhac.Dv
open Go.RowKit
open Mem
open Rws

set_option maxRecDepth 100000 in
set_option maxHeartbeats 4000000 in
theorem play_law (x : Int) (A : Option Addr) (n c : Nat) (xs : List DoC) (hn : n ≤ 9223372036854775807) (w : World) (h : DoRow w A n xs) :
    Calls Try.prog 3 #[.int .i64 x, .slice A n c] w fun e w' => e = .returned (.bool true) ∧ Below w.heap.size w w' := by
  obtain ⟨W1, hW1⟩ : ∃ W1 : World, W1 = w.alloc (.cells #[.slice A n c] 22) := ⟨_, rfl⟩
  have b1 : Below w.heap.size w W1 := by rw [hW1]; exact (Below.refl _ w).alloc (Nat.le_refl _) _
  have h1 : Has W1 w.heap.size 22 #[.slice A n c] := by rw [hW1]; exact Has.fresh w _ _
  have HL := Lib.hid (one_list W1 A n c _ xs (h.below b1) hn h1)
  have HX := Lib.hid h
  have HB1 := Lib.hid b1
  have HNn := Lib.hid hn
  clear h h1 b1 hn
  go_enter Try.func3, Try.ntmps3
  go_wp2_with fail
  rw [← hW1]
  clear hW1
  refine (short_more _ 1 1 _ (by decide) _ HL.out).mono ?_
  rintro e w1 ⟨⟨t, rfl, hall⟩, b1⟩
  have HB2 := Lib.hid (HB1.out.trans (b1.mono HB1.out.size))
  have HA := Lib.hid hall
  clear b1 HL HB1 hall
  cases t with
  | false =>
    go_wp2_with fail
    refine (awake_any _).mono ?_
    rintro e w2 ⟨rfl, b2⟩
    go_wp2
    go_ret
    exact ⟨rfl, HB2.out.trans (b2.mono HB2.out.size)⟩
  | true =>
    have HA2 := Lib.hid (show ∀ y ∈ xs, y.n ≤ 8192 from fun y hy => HA.out rfl _ (List.mem_singleton_self _) y hy)
    clear HA
    by_cases hb : x < 8 ∨ 4096 < x
    · go_wp2_with fail
      refine (new_bad x hb _).mono ?_
      rintro e w' ⟨rfl, rfl⟩
      go_wp2_with fail
      refine (rnew_bad x hb _).mono ?_
      rintro e w' ⟨rfl, rfl⟩
      clear hb
      go_wp2_with fail
      refine (awake_any _).mono ?_
      rintro e w2 ⟨rfl, b2⟩
      go_wp2
      go_ret
      exact ⟨rfl, HB2.out.trans (b2.mono HB2.out.size)⟩
    · obtain ⟨K, rfl⟩ := Int.eq_ofNat_of_zero_le (show 0 ≤ x by omega)
      have k1 : 8 ≤ K := by omega
      have k2 : K ≤ 4096 := by omega
      clear hb
      go_wp2_with fail
      refine (new_good K k1 k2 _).mono ?_
      rintro e w2 ⟨rfl, h2, b2, _⟩
      have H2 := Lib.hid h2
      have B2 := Lib.hid (HB2.out.trans (b2.mono HB2.out.size))
      have Z2 := Lib.hid (And.intro h2.obj.bound HB2.out.size)
      clear h2 b2
      go_wp2_with fail
      refine (rnew_good K k1 k2 _).mono ?_
      rintro e w3 ⟨p, a, b, cc, rfl, h3, z3, b3⟩
      have D3 := Lib.hid (H2.out.below b3)
      have H3 := Lib.hid h3
      have Z3 := Lib.hid z3
      have B3 := Lib.hid (B2.out.trans (b3.mono B2.out.size))
      clear h3 z3 b3 H2
      have HZ := Lib.hid (show ∀ k, ROwn p a b cc k → ¬ Own (w1.heap.size + 2) w1.heap.size (w1.heap.size + 1) k from fun k hk hh => by have := Z3.out k hk; have := Z2.out.1; rcases hh with hh | hh | hh <;> omega)
      have HLo := Lib.hid (show ∀ k, ROwn p a b cc k → w.heap.size ≤ k from fun k hk => by have := Z3.out k hk; have := Z2.out; omega)
      have HLo2 := Lib.hid (show ∀ k, Own (w1.heap.size + 2) w1.heap.size (w1.heap.size + 1) k → w.heap.size ≤ k from fun k hk => by have := Z2.out.2; rcases hk with hk | hk | hk <;> omega)
      have HK := Lib.hid (And.intro k1 k2)
      have HN0 := Lib.hid (in_new K)
      clear k1 k2
      go_wp2
      go_loopw [52] (fun i wr => ∃ (j : Nat) (dd : St), j ≤ n ∧ i = .int .i64 j ∧ Hid (DevIs wr (w1.heap.size + 2) w1.heap.size (w1.heap.size + 1) dd ∧ RefIs wr p a b cc dd ∧ InD dd ∧ dd.size = K) ∧ Below w.heap.size w wr) (fun i _ => n - (intOf i).toNat)
      case atStart => exact ⟨0, _, Nat.zero_le _, rfl, Lib.hid ⟨D3.out, H3.out, HN0.out, rfl⟩, B3.out⟩
      case round =>
        obtain ⟨j, dd, hj, rfl, HI, hb⟩ := hrel
        have HBr := Lib.hid hb
        have hn := HNn.out
        clear hb
        by_cases hlt : j < n
        · have hr := HX.out.below HBr.out
          obtain ⟨kb, ko, rfl, hbl, hcl⟩ := hr.cells (by omega)
          have hjx : j < xs.length := by rw [hr.len]; exact hlt
          obtain ⟨c0, c1, c2, c3⟩ := hcl j hjx
          have hfit := HX.out.each _ (List.getElem_mem hjx)
          have hyn := HA2.out _ (List.getElem_mem hjx)
          clear hcl hr
          generalize xs[j] = y at *
          have HFit := Lib.hid hfit
          have HYn := Lib.hid hyn
          clear hfit hyn hjx hbl
          obtain ⟨Wb, hWb⟩ : ∃ Wb : World, Wb = wr.alloc (.cells #[.int .i64 y.v.op, .int .i64 y.v.i, .string y.v.s, .slice y.A y.n y.c] 34) := ⟨_, rfl⟩
          have hbb : Below wr.heap.size wr Wb := by rw [hWb]; exact (Below.refl _ _).alloc (Nat.le_refl _) _
          have hkb : Has Wb wr.heap.size 34 #[.int .i64 y.v.op, .int .i64 y.v.i, .string y.v.s, .slice y.A y.n y.c] := by rw [hWb]; exact Has.fresh _ _ _
          have HBb := Lib.hid (HBr.out.trans (hbb.mono HBr.out.size))
          have HZb := Lib.hid hbb.size
          have HD := Lib.hid (And.intro (HI.out.1.below hbb) (HI.out.2.1.below hbb))
          have HKb := Lib.hid hkb
          have HW := Lib.hid (show ∀ k, ROwn p a b cc k ∨ Own (w1.heap.size + 2) w1.heap.size (w1.heap.size + 1) k → k < wr.heap.size from fun k hk => by
            rcases hk with hk | hk | hk | hk
            · exact HI.out.2.1.bound k hk
            · rw [hk]; exact HI.out.1.obj.bound
            · rw [hk]; exact HI.out.1.kept.bound
            · rw [hk]; exact HI.out.1.dirt.bound)
          have d0 := Has.at_ hkb 0
          have d1 := Has.at_ hkb 1
          have d2 := Has.at_ hkb 2
          have d3 := Has.at_ hkb 3
          simp at d0 d1 d2 d3
          clear hbb hkb
          go_wp2_with fail
          rw [← hWb]
          clear hWb
          refine (cloni_any y.A y.n y.c y.v.ks (by have := HYn.out; omega) _ (HFit.out.row.below HBb.out)).mono ?_
          rintro e w5 ⟨v5, rfl, s5, b5⟩
          obtain ⟨A5, c5, rfl, r5, _⟩ := ints_from s5
          have hl5 : y.v.ks.length = y.n := HFit.out.row.1
          have HL5 := Lib.hid hl5
          have HJ := Lib.hid (And.intro hj hlt)
          have HB5 := Lib.hid (HBb.out.trans (b5.mono HBb.out.size))
          have HD5 := Lib.hid (And.intro (HD.out.1.below b5) (HD.out.2.below b5))
          have HK5 := Lib.hid (HKb.out.below b5)
          have R5 := Lib.hid r5
          have d0 := Has.at_ HK5.out 0
          have d1 := Has.at_ HK5.out 1
          have d2 := Has.at_ HK5.out 2
          have d3 := Has.at_ HK5.out 3
          simp at d0 d1 d2 d3
          clear s5 b5 r5
          have HX2 := Lib.hid (does_any _ _ _ dd y.v A5 y.v.ks.length c5 _ (by have := HYn.out; unfold maxLen; omega) HFit.out.i.2 R5.out.row HD5.out.1)
          clear hl5 hj hlt hn
          go_wp2_with fail
          refine HX2.out.mono ?_
          rintro e w6 ⟨rfl, h6, g6⟩
          have HD6 := Lib.hid (And.intro h6 (HD5.out.2.over g6 HZ.out))
          have HNO := Lib.hid (show ¬ Own (w1.heap.size + 2) w1.heap.size (w1.heap.size + 1) wr.heap.size from fun hh => by have := HW.out _ (.inr hh); omega)
          have HK6 := Lib.hid (HK5.out.over g6 HNO.out)
          have R6 := Lib.hid (R5.out.over g6 (fun k hk hh => by have := HW.out _ (.inr hh); have := HZb.out; omega))
          have HB6 := Lib.hid (HB5.out.trans (g6.below HB5.out.size (fun k hk hh => by have := HLo2.out k hh; omega)))
          have d0 := Has.at_ HK6.out 0
          have d1 := Has.at_ HK6.out 1
          have d2 := Has.at_ HK6.out 2
          have d3 := Has.at_ HK6.out 3
          simp at d0 d1 d2 d3
          clear h6 g6
          have HX3 := Lib.hid (also_any p a b cc dd y.v y.A y.n y.c _ (by have := HYn.out; unfold maxLen; omega) HFit.out.i.2 (HFit.out.row.below HB6.out) HD6.out.2 (fun hn ad e hh => by
            obtain ⟨b9, o9, e9, hl9, _⟩ := HFit.out.row.2 hn
            rw [e9] at e
            injection e with e
            subst e
            have h10 : w.heap.size ≤ b9 := HLo.out _ hh
            omega))
          go_wp2_with fail
          refine HX3.out.mono ?_
          rintro e w7 ⟨rfl, h7, g7⟩
          have HD7 := Lib.hid (And.intro (HD6.out.1.over g7 (fun hh => HZ.out _ hh (.inl rfl)) (fun hh => HZ.out _ hh (.inr (.inl rfl))) (fun hh => HZ.out _ hh (.inr (.inr rfl)))) h7)
          have HK7 := HK6.out.over g7 (fun hh => by have := HW.out _ (.inl hh); omega)
          have R7 := Lib.hid (R6.out.over g7 (fun k hk hh => by have := HW.out _ (.inl hh); have := HZb.out; omega))
          have HB7 := Lib.hid (HB6.out.trans (g7.below HB6.out.size (fun k hk hh => by have := HLo.out k hh; omega)))
          have HIn := Lib.hid (in_do HI.out.2.2.1 y.v)
          have hsz := Lib.hid ((do_size dd y.v).trans HI.out.2.2.2)
          clear g7 h7 d0 d1 d2 d3 HX2 HX3 HD HD5 HD6 HK5 HK6 HKb R5 R6
          generalize doS dd y.v = S1 at *
          generalize doE dd y.v = E1 at *
          generalize doD dd y.v = d8 at *
          have hD := Lib.hid (HD7.out.1.over ((Chg.refl (fun _ => False) w7).drew) (fun k => k) (fun k => k) (fun k => k))
          have hR := HD7.out.2.drew
          have hk := HK7.drew
          have hW0 := Below.drew HB7.out
          have hr5 := R7.out.over ((Chg.refl (fun _ => False) w7).drew) (fun _ _ k => k)
          have hb5 : y.v.ks.length ≤ 9223372036854775807 := by have := HL5.out; have := HYn.out; omega
          clear HD7 HK7 HB7 R7
          go_wp2_with fail
          go_region_held3 (fun w' => w'.cell? ⟨wr.heap.size, 3, none⟩ = some (.slice y.A y.n y.c) ∧ w'.cell? ⟨p, 0, none⟩ = some (.slice (some ⟨a, 0, none⟩) d8.size d8.size)) (exact ⟨Has.at_ hk 3, Has.at_ hR.obj 0⟩) (first | (go_at_call 18; refine (dirty_any _ _ _ d8 _ hD.out HIn.out).mono ?_; rintro e w' ⟨v8, l8, rfl, hl8, s8, b8⟩; obtain ⟨A8, c8, rfl, r8, _⟩ := ints_from s8; clear s8; replace hk := hk.below b8; replace hR := hR.below b8; replace hD := Lib.hid (hD.out.below b8); replace hW0 := hW0.trans (b8.mono hW0.size); clear b8) | (go_at_call 19; refine (rdirty_any p a b cc d8 _ hR HIn.out).mono ?_; rintro e w' ⟨v9, l9, rfl, hl9, s9, b9⟩; obtain rfl := dirty_one hl9 hl8; obtain ⟨A9, c9, rfl, r9, _⟩ := ints_from s9; clear s9; replace hk := hk.below b9; replace hR := hR.below b9; replace hD := Lib.hid (hD.out.below b9); replace hW0 := hW0.trans (b9.mono hW0.size); replace r8 := r8.below b9; clear b9) | (go_at_call 20; refine (size_all _ _ _ d8 _ hD.out).mono ?_; rintro e w' ⟨rfl, rfl⟩) | (go_at_call 17; first | (have hq := r9; refine (eqi_same A8 A9 _ _ _ _ _ (Nat.le_trans (dirty_len hl8 HIn.out hD.out.hi) (by decide)) _ r8.row r9.row).mono ?_; rintro e w' ⟨rfl, b10⟩; clear hq r8 r9; replace hk := hk.below b10; replace hR := hR.below b10; replace hD := Lib.hid (hD.out.below b10); replace hW0 := hW0.trans (b10.mono hW0.size); clear b10) | (refine (eqi_same A5 y.A _ _ _ _ y.v.ks hb5 _ hr5.row (HFit.out.row.below hW0)).mono ?_; rintro e w' ⟨rfl, b7⟩; clear hr5; replace hk := hk.below b7; replace hR := hR.below b7; replace hD := Lib.hid (hD.out.below b7); replace hW0 := hW0.trans (b7.mono hW0.size); clear b7)))
          all_goals
            have e1 := Has.at_ hk 1
            have k1 := HK.out.1
            have k2 := HK.out.2
            simp at e1
            obtain ⟨W9, hW9⟩ : ∃ W9 : World, W9 = w'.alloc (.cells #[.int .i64 (-1), .int .i64 y.v.i, .int .i64 0, .int .i64 3, .int .i64 ((K : Int) - 1), .int .i64 K] 3) := ⟨_, rfl⟩
            have hl : Has W9 w'.heap.size 3 #[.int .i64 (-1), .int .i64 y.v.i, .int .i64 0, .int .i64 3, .int .i64 ((K : Int) - 1), .int .i64 K] := by rw [hW9]; exact Has.fresh _ _ _
            have b9 : Below w'.heap.size w' W9 := by rw [hW9]; exact (Below.refl _ _).alloc (Nat.le_refl _) _
            have hcs := Lib.hid (show ∀ q, q < 6 → ∃ z : Int, W9.cell? ⟨w'.heap.size, q, none⟩ = some (.int .i64 z) from fun q hq => by
              rw [Has.at_ hl]
              rcases (show q = 0 ∨ q = 1 ∨ q = 2 ∨ q = 3 ∨ q = 4 ∨ q = 5 by omega) with rfl | rfl | rfl | rfl | rfl | rfl <;> exact ⟨_, rfl⟩)
            have hlb := Lib.hid hl.bound
            have hDR := Lib.hid (And.intro (hD.out.below b9) (hR.below b9))
            have hWW := Lib.hid (hW0.trans (b9.mono hW0.size))
            clear hl b9 hk hD hR hW0 hb5 HBr HBb HB5 HB6 HW HFit HYn HNO HI HZb HL5
            go_wp2
            rw [← hW9]
            clear hW9 e1
            go_loopw [118] (fun i wr => ∃ m : Nat, m ≤ 6 ∧ i = .int .i64 m ∧ Below W9.heap.size W9 wr) (fun i _ => 6 - (intOf i).toNat)
            case atStart => exact ⟨0, Nat.zero_le _, rfl, Below.refl _ _⟩
            case round =>
              obtain ⟨m, hm, rfl, hb⟩ := hrel
              have HBq := Lib.hid hb
              clear hb
              by_cases hm6 : m < 6
              · obtain ⟨z, hz⟩ := hcs.out m hm6
                have hz := (HBq.out.cell (p := ⟨w'.heap.size, m, none⟩) hlb.out).trans hz
                have HR1 := Lib.hid (read_all _ _ _ d8 z _ (hDR.out.1.below HBq.out))
                have HR2 := Lib.hid (fun (w2 : World) (hb : Below wr.heap.size wr w2) => rread_all p a b cc d8 z w2 ((hDR.out.2.below HBq.out).below hb))
                go_wp2_with fail
                refine HR1.out.mono ?_
                rintro e w11 ⟨rfl, b11⟩
                have HR3 := Lib.hid (HR2.out w11 b11)
                have HB11 := Lib.hid (HBq.out.trans (b11.mono HBq.out.size))
                clear HR2 b11 HR1 hz
                go_wp2_with fail
                refine HR3.out.mono ?_
                rintro e w12 ⟨rfl, b12⟩
                have HB12 := Lib.hid (HB11.out.trans (b12.mono HB11.out.size))
                clear b12 HR3
                generalize rdS d8 z = S9 at *
                generalize rdE d8 z = E9 at *
                go_wp2
                go_roundw
                case rel => exact ⟨m + 1, by omega, by go_num, HB12.out⟩
                case measure => simp [intOf]; omega
              · obtain rfl : m = 6 := by omega
                have HE := Lib.hid (And.intro (hDR.out.1.below HBq.out) (And.intro (hDR.out.2.below HBq.out) (hWW.out.trans (HBq.out.mono hWW.out.size))))
                clear hm6 hm k1 k2
                have hj := HJ.out.1
                have hlt := HJ.out.2
                have hn := HNn.out
                go_wp2
                go_roundw
                case rel => exact ⟨j + 1, d8, by omega, by go_num, Lib.hid ⟨HE.out.1, HE.out.2.1, HIn.out, hsz.out⟩, HE.out.2.2⟩
                case measure => simp [intOf]; omega
        · obtain rfl : j = n := by omega
          clear hlt hj hn
          go_wp2_with fail
          refine (awake_any _).mono ?_
          rintro e w2 ⟨rfl, b2⟩
          go_wp2
          go_ret
          exact ⟨rfl, HBr.out.trans (b2.mono HBr.out.size)⟩
theorem play_walk (w : World) (a0 : Int) (A1 : Option Addr) (n1 c1 : Nat) (a1 : List DoC) (_ : (Lit.int .i64 a0).wf = true) (w1 : DoRow w A1 n1 a1) (b1 : n1 ≤ c1) (m1 : c1 ≤ maxLen) :
    Calls Try.prog 3 #[.int .i64 a0, .slice A1 n1 c1] w fun e w' => e = .returned (.bool true) ∧ Below w.heap.size w w' :=
  play_law a0 A1 n1 c1 a1 (by unfold maxLen at m1; omega) w w1
end Go.Proofs.Ytdedbbbgpjhjhac.Dv
