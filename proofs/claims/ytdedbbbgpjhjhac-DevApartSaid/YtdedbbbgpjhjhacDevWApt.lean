/- The walk of the law DevApart. -/
import Derived.Test.YtdedbbbgpjhjhacDevM
namespace Go.Proofs.Ytdedbbbgpjhjhac.Dv
open Go.RowKit
open Mem
open Rws

set_option maxRecDepth 100000 in
set_option maxHeartbeats 4000000 in
theorem apt_law (x : Int) (A : Option Addr) (n c : Nat) (xs : List DoC) (B : Option Addr) (m d : Nat) (ys : List DoC)
    (hn : n ≤ 9223372036854775807) (hm : m ≤ 9223372036854775807) (w : World) (h : DoRow w A n xs) (h2 : DoRow w B m ys) :
    Calls Try.prog 7 #[.int .i64 x, .slice A n c, .slice B m d] w fun e w' => e = .returned (.bool true) ∧ Below w.heap.size w w' := by
  obtain ⟨K, k1, k2, hK⟩ := size_of x
  obtain ⟨W1, hW1⟩ : ∃ W1 : World, W1 = w.alloc (.cells #[.slice A n c, .slice B m d] 22) := ⟨_, rfl⟩
  have b1 : Below w.heap.size w W1 := by rw [hW1]; exact (Below.refl _ w).alloc (Nat.le_refl _) _
  have h1 : Has W1 w.heap.size 22 #[.slice A n c, .slice B m d] := by rw [hW1]; exact Has.fresh w _ _
  have HL := Lib.hid (two_list W1 A B n c m d _ xs ys (h.below b1) (h2.below b1) hn hm h1)
  have HX := Lib.hid h
  have HY := Lib.hid h2
  have HB1 := Lib.hid b1
  have HK := Lib.hid (And.intro k1 (And.intro k2 (And.intro hn (And.intro hm hK))))
  clear h h1 h2 b1 k1 k2 hn hm hK
  go_enter Try.func7, Try.ntmps7
  go_wp2_with fail
  rw [← hW1]
  clear hW1
  refine (short_any _ 2 2 _ (by decide) _ HL.out).mono ?_
  rintro e w1 ⟨⟨t, rfl⟩, b1⟩
  have HB2 := Lib.hid (HB1.out.trans (b1.mono HB1.out.size))
  clear b1 HL HB1
  cases t with
  | false =>
    go_wp2_with fail
    refine (awake_any _).mono ?_
    rintro e w2 ⟨rfl, b2⟩
    go_wp2
    go_ret
    exact ⟨rfl, HB2.out.trans (b2.mono HB2.out.size)⟩
  | true =>
    go_wp2_with fail
    refine (made_law x K A n c xs HK.out.2.2.1 HK.out.1 HK.out.2.1 HK.out.2.2.2.2 _ (HX.out.below HB2.out)).mono ?_
    rintro e w2 ⟨rfl, h2, b2⟩
    have HI := Lib.hid (in_st K xs)
    have H2 := Lib.hid h2
    have B2 := Lib.hid (HB2.out.trans (b2.mono HB2.out.size))
    have Z2 := Lib.hid (And.intro h2.obj.bound (And.intro h2.kept.bound h2.dirt.bound))
    have Q2 := Lib.hid b2
    clear h2 b2
    generalize stL K xs = D at *
    go_wp2_with fail
    refine (clone_all _ _ _ D _ H2.out).mono ?_
    rintro e w3 ⟨rfl, h3, b3⟩
    have H3 := Lib.hid h3
    have B3 := Lib.hid b3
    clear h3 b3
    go_wp2_with fail
    refine (blocks_any _ _ _ D _ H3.out).mono ?_
    rintro e w4 ⟨v4, rfl, s4, b4⟩
    obtain ⟨A4, c4, rfl, r4⟩ := strs_from s4
    have H4 := Lib.hid (H3.out.below b4)
    have B4 := Lib.hid (B3.out.trans (b4.mono B3.out.size))
    have R4 := Lib.hid r4
    clear b4 s4 r4
    go_wp2_with fail
    refine (dirty_any _ _ _ D _ H4.out HI.out).mono ?_
    rintro e w5 ⟨v5, l5, rfl, hl5, s5, b5⟩
    obtain ⟨A5, c5, rfl, r5, _⟩ := ints_from s5
    have H5 := Lib.hid (H4.out.below b5)
    have B5 := Lib.hid (B4.out.trans (b5.mono B4.out.size))
    have R5 := Lib.hid (And.intro hl5 (And.intro (R4.out.below b5) r5))
    have HZ := Lib.hid (show ∀ k, w2.heap.size ≤ k → ¬ Own (w1.heap.size + 2) w1.heap.size (w1.heap.size + 1) k from fun k hk hh => by have := Z2.out; rcases hh with hh | hh | hh <;> omega)
    have Z3 := Lib.hid (And.intro B3.out.size B4.out.size)
    have D5 := Lib.hid (H2.out.below B5.out)
    have HB5 := Lib.hid (B2.out.trans (B5.out.mono (by have := B2.out.size; exact this)))
    clear b5 s5 r5 hl5 R4 H3 H4 B3 B4
    go_wp2
    go_loopw [31] (fun i wr => ∃ (j : Nat) (dd : St), j ≤ m ∧ i = .int .i64 j ∧ DevIs wr (w1.heap.size + 2) w1.heap.size (w1.heap.size + 1) dd ∧ InD dd ∧ Chg (Own (w1.heap.size + 2) w1.heap.size (w1.heap.size + 1)) w5 wr) (fun i _ => m - (intOf i).toNat)
    case atStart => exact ⟨0, _, Nat.zero_le _, rfl, D5.out, HI.out, Chg.refl _ _⟩
    case round =>
      obtain ⟨j, dd, hj, rfl, hd, hin, hC⟩ := hrel
      have HBr := Lib.hid (HB5.out.trans (hC.below HB5.out.size (fun k hk hh => by have := B2.out.size; have := Z2.out; have := HB2.out.size; rcases hh with hh | hh | hh <;> omega)))
      have HD := Lib.hid hd
      have HC := Lib.hid hC
      have HN := Lib.hid hin
      have hr := HY.out.below HBr.out
      have hm := HK.out.2.2.2.1
      clear hd hC hin
      by_cases hlt : j < m
      · obtain ⟨b, off, rfl, hbl, hcl⟩ := hr.cells (by omega)
        have hjx : j < ys.length := by rw [hr.len]; exact hlt
        obtain ⟨c0, c1, c2, c3⟩ := hcl j hjx
        have hfit := hr.each _ (List.getElem_mem hjx)
        clear hcl hr
        generalize ys[j] = y at *
        have HFit := Lib.hid hfit
        have hb : Below wr.heap.size wr (wr.alloc (.cells #[.int .i64 y.v.op, .int .i64 y.v.i, .string y.v.s, .slice y.A y.n y.c] 34)) := (Below.refl _ _).alloc (Nat.le_refl _) _
        have HBb := Lib.hid hb
        have HX2 := Lib.hid (does_any _ _ _ dd y.v y.A y.n y.c _ (Nat.le_trans HFit.out.len HFit.out.cap) HFit.out.i.2 (HFit.out.row.below HBb.out) (HD.out.below HBb.out))
        clear hfit hjx hbl hb
        go_wp2_with fail
        refine HX2.out.mono ?_
        rintro e w7 ⟨rfl, h7, g7⟩
        have H7 := Lib.hid (And.intro h7 (HC.out.trans ((Chg.of_below HBb.out _).trans g7)))
        clear h7 g7 HX2 c0 c1 c2 c3
        go_wp2
        go_roundw
        case rel => exact ⟨j + 1, doD dd y.v, by omega, by go_num, H7.out.1, in_do HN.out _, H7.out.2⟩
        case measure => simp [intOf]; omega
      · obtain rfl : j = m := by omega
        clear hr hlt hj hm
        obtain ⟨wd, hwd⟩ : ∃ wd : World, wd = wr := ⟨_, rfl⟩
        subst hwd
        have HCr := Lib.hid (H5.out.over HC.out (HZ.out _ (Nat.le_refl _)) (HZ.out _ (by omega)) (HZ.out _ (by omega)))
        have R4 := Lib.hid (R5.out.2.1.over HC.out (fun k hk => HZ.out k (Nat.le_trans Z3.out.1 hk)))
        have R5' := Lib.hid (R5.out.2.2.over HC.out (fun k hk => HZ.out k (Nat.le_trans Z3.out.2 hk)))
        have L5 := Lib.hid R5.out.1
        clear R5 H5
        go_wp2_with fail
        refine (dirty_any _ _ _ dd _ HD.out HN.out).mono ?_
        rintro e w6 ⟨v6, l6, rfl, hl6, s6, b6⟩
        obtain ⟨A6, c6, rfl, _, _⟩ := ints_from s6
        have L6 := Lib.hid hl6
        have B6 := Lib.hid b6
        have n6 : l6.length ≤ 9223372036854775807 := by
          have := dirty_len hl6 HN.out HD.out.hi
          omega
        clear hl6 s6 b6
        go_wp2
        go_loopw [42] (fun i wq => ∃ j : Nat, j ≤ l6.length ∧ i = .int .i64 j ∧ Below wd.heap.size wd wq) (fun i _ => l6.length - (intOf i).toNat)
        case atStart => exact ⟨0, Nat.zero_le _, rfl, B6.out⟩
        case round =>
          obtain ⟨j, hj, rfl, hb⟩ := hrel
          have HBq := Lib.hid hb
          clear hb
          by_cases hlt : j < l6.length
          · have HX2 := Lib.hid (dirty_any _ _ _ dd _ (HD.out.below HBq.out) HN.out)
            go_wp2_with fail
            refine HX2.out.mono ?_
            rintro e w7 ⟨v7, l7, rfl, hl7, s7, b7⟩
            obtain rfl := dirty_one hl7 L6.out
            obtain ⟨A7, c7, rfl, r7, hh⟩ := ints_from s7
            obtain ⟨g, t, cur, rfl, hg, hhas⟩ := hh (by omega)
            have cj : w7.cell? ⟨g, j, none⟩ = some (.int .i64 l7[j]) := by
              obtain ⟨b, off, e, _, hx⟩ := r7.row.2 (by omega)
              injection e with e
              injection e with e1 e2
              subst e1 e2
              have := hx j hlt
              rw [Nat.zero_add] at this
              exact this
            have fj := Has.free hhas j
            have hbs := Lib.hid (show Below wd.heap.size wd (w7.setCell ⟨g, j, none⟩ (.int .i64 (-1))) from (HBq.out.trans (b7.mono HBq.out.size)).trans (((Chg.refl (· = g) w7).setCell (p := ⟨g, j, none⟩) (.inl rfl) _).below (Nat.le_trans HBq.out.size b7.size) (fun k hk hh => by have := HBq.out.size; omega)))
            clear b7 s7 r7 hh hhas hl7
            go_wp2
            go_roundw
            case rel => exact ⟨j + 1, by omega, by go_num, hbs.out⟩
            case measure => simp [intOf]; omega
          · obtain rfl : j = l6.length := by omega
            clear hj hlt
            have hbl : (bl D).length ≤ 9223372036854775807 := by
              rw [bl_len]
              have := HCr.out.hi
              omega
            have HC9 := Lib.hid (HCr.out.below HBq.out)
            go_wp2_with fail
            refine (blocks_any _ _ _ D _ HC9.out).mono ?_
            rintro e w9 ⟨v9, rfl, s9, b9⟩
            obtain ⟨A9, c9, rfl, r9⟩ := strs_from s9
            have hb9 := Lib.hid (HBq.out.trans (b9.mono HBq.out.size))
            have R9 := Lib.hid r9
            have HC10 := Lib.hid (HC9.out.below b9)
            clear s9 b9 r9
            go_wp2_with fail
            refine (eqs_same A9 A4 _ _ _ _ (bl D) hbl _ R9.out.row (R4.out.below hb9.out).row).mono ?_
            rintro e w10 ⟨rfl, b10⟩
            have hb10 := Lib.hid (hb9.out.trans (b10.mono hb9.out.size))
            have HC11 := Lib.hid (HC10.out.below b10)
            clear b10
            go_wp2_with fail
            refine (dirty_any _ _ _ D _ HC11.out HI.out).mono ?_
            rintro e w11 ⟨v11, l11, rfl, hl11, s11, b11⟩
            obtain rfl := dirty_one hl11 L5.out
            obtain ⟨A11, c11, rfl, r11, _⟩ := ints_from s11
            have hb11 := Lib.hid (hb10.out.trans (b11.mono hb10.out.size))
            have n11 : l11.length ≤ 9223372036854775807 := by
              have := dirty_len hl11 HI.out HC11.out.hi
              omega
            have R11 := Lib.hid r11
            clear s11 b11 r11 hl11
            go_wp2_with fail
            refine (eqi_same A11 A5 _ _ _ _ l11 n11 _ R11.out.row (R5'.out.below hb11.out).row).mono ?_
            rintro e w12 ⟨rfl, b12⟩
            have hb12 := Lib.hid (HBr.out.trans ((hb11.out.trans (b12.mono hb11.out.size)).mono HBr.out.size))
            clear b12
            go_wp2_with fail
            refine (awake_any _).mono ?_
            rintro e w13 ⟨rfl, b13⟩
            go_wp2
            go_ret
            exact ⟨rfl, hb12.out.trans (b13.mono hb12.out.size)⟩
theorem apt_walk (w : World) (a0 : Int) (A1 : Option Addr) (n1 c1 : Nat) (a1 : List DoC) (A2 : Option Addr) (n2 c2 : Nat) (a2 : List DoC)
    (_ : (Lit.int .i64 a0).wf = true) (w1 : DoRow w A1 n1 a1) (b1 : n1 ≤ c1) (m1 : c1 ≤ maxLen) (w2 : DoRow w A2 n2 a2) (b2 : n2 ≤ c2) (m2 : c2 ≤ maxLen) :
    Calls Try.prog 7 #[.int .i64 a0, .slice A1 n1 c1, .slice A2 n2 c2] w fun e w' => e = .returned (.bool true) ∧ Below w.heap.size w w' :=
  apt_law a0 A1 n1 c1 a1 A2 n2 c2 a2 (by unfold maxLen at m1; omega) (by unfold maxLen at m2; omega) w w1 w2
end Go.Proofs.Ytdedbbbgpjhjhac.Dv
