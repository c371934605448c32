/- The walk of the law DevSome. -/
import Derived.Test.YtdedbbbgpjhjhacDevN
namespace Go.Proofs.Ytdedbbbgpjhjhac.Dv
open Go.RowKit
open Mem
open Rws

theorem offs_any (p bk bd : Nat) (d : St) (w : World) (h : DevIs w p bk bd d) :
    Calls Try.prog 24 #[.pointer (some ⟨p, 0, none⟩)] w fun e w' => e = .returned (.bool (!d.on)) ∧ Below w.heap.size w w' := by
  have HR := Lib.hid (read_all p bk bd d 0 w h)
  have hi : inside d 0 = true := (inside_iff d 0).2 ⟨by omega, by have := h.lo; omega⟩
  clear h
  cases ho : d.on with
  | true =>
    have e : rdE d 0 = 0 := by unfold rdE; rw [if_neg (by rw [ho]; decide), if_neg (by rw [hi]; decide)]
    rw [e] at HR
    clear e
    go_enter Try.func24, Try.ntmps24
    go_wp2_with fail
    refine HR.out.mono ?_
    rintro e w1 ⟨rfl, b1⟩
    go_wp2
    go_ret
    exact ⟨rfl, b1⟩
  | false =>
    have e : rdE d 0 = 5 := if_pos ho
    rw [e] at HR
    clear e
    go_enter Try.func24, Try.ntmps24
    go_wp2_with fail
    refine HR.out.mono ?_
    rintro e w1 ⟨rfl, b1⟩
    go_wp2
    go_ret
    exact ⟨rfl, b1⟩
/-- Block i behind a crash: what was kept; what was written last. -/
theorem bl_at (d : St) (i : Nat) (h : i < d.size) : (bl d)[i]? = some (readS (startD d) (i : Int)) := by
  unfold bl
  rw [List.getElem?_map, List.getElem?_range h]
  rfl
theorem crash_read (d : St) (ks : List Int) (i : Int) : readS (startD (crashD d ks)) i = (keepD d ks i).getD ⟨#[]⟩ := rfl
theorem on_read (d : St) (h : d.on = true) (i : Int) : readS (startD d) i = ((d.dirty i).or (d.kept i)).getD ⟨#[]⟩ := by
  unfold startD
  rw [if_pos h]
  rfl
theorem txt_at {w : World} {B : Nat} {A : Option Addr} {d : St} (h : TxtFrom w B A (bl d)) {i : Nat} (hi : i < d.size) : ∃ b off, A = some ⟨b, off, none⟩ ∧ w.cell? ⟨b, off + i, none⟩ = some (.string (readS (startD d) (i : Int))) := by
  have hl : i < (bl d).length := by rw [bl_len]; exact hi
  obtain ⟨b, off, e, _, hx⟩ := h.row.2 (by omega)
  refine ⟨b, off, e, (hx i hl).trans ?_⟩
  have h1 := bl_at d i hi
  rw [List.getElem?_eq_getElem hl] at h1
  injection h1 with h1
  rw [h1]
set_option maxRecDepth 100000 in
set_option maxHeartbeats 4000000 in
theorem some_law (x : Int) (A : Option Addr) (n c : Nat) (xs : List DoC) (B : Option Addr) (q e : Nat) (ks : List Int) (hn : n ≤ 9223372036854775807) (hq0 : q ≤ maxLen) (w : World) (h : DoRow w A n xs) (h3 : NumRow w B q ks) :
    Calls Try.prog 4 #[.int .i64 x, .slice A n c, .slice B q e] w fun e w' => e = .returned (.bool true) ∧ Below w.heap.size w w' := by
  obtain ⟨K, k1, k2, hK⟩ := size_of x
  obtain ⟨W1, hW1⟩ : ∃ W1 : World, W1 = w.alloc (.cells #[.slice A n c] 22) := ⟨_, rfl⟩
  have b1 : Below w.heap.size w W1 := by rw [hW1]; exact (Below.refl _ w).alloc (Nat.le_refl _) _
  have h1 : Has W1 w.heap.size 22 #[.slice A n c] := by rw [hW1]; exact Has.fresh w _ _
  have HL := Lib.hid (one_list W1 A n c _ xs (h.below b1) hn h1)
  have HX := Lib.hid h
  have HQ := Lib.hid h3
  have hq := Lib.hid hq0
  have HB1 := Lib.hid b1
  have HK := Lib.hid (And.intro k1 (And.intro k2 (And.intro hn hK)))
  clear h h1 h3 b1 k1 k2 hn hK hq0
  go_enter Try.func4, Try.ntmps4
  go_wp2_with fail
  rw [← hW1]
  clear hW1
  refine (short_any _ 1 1 _ (by decide) _ HL.out).mono ?_
  rintro e w1 ⟨⟨t, rfl⟩, b1⟩
  have HB2 := Lib.hid (HB1.out.trans (b1.mono HB1.out.size))
  clear b1 HL HB1
  cases t with
  | false =>
    go_wp2_with fail
    refine (awake_any _).mono ?_
    rintro e w2 ⟨rfl, b2⟩
    go_wp2
    go_ret
    exact ⟨rfl, HB2.out.trans (b2.mono HB2.out.size)⟩
  | true =>
    by_cases g2 : 200 < (q : Int)
    · go_wp2_with fail
      refine (awake_any _).mono ?_
      rintro e w2 ⟨rfl, b2⟩
      go_wp2
      go_ret
      exact ⟨rfl, HB2.out.trans (b2.mono HB2.out.size)⟩
    · go_wp2_with fail
      refine (made_law x K A n c xs HK.out.2.2.1 HK.out.1 HK.out.2.1 HK.out.2.2.2 _ (HX.out.below HB2.out)).mono ?_
      rintro e w2 ⟨rfl, h2, b2⟩
      have HI := Lib.hid (in_st K xs)
      have H2 := Lib.hid h2
      have B2 := Lib.hid (HB2.out.trans (b2.mono HB2.out.size))
      have Z2 := Lib.hid (And.intro h2.obj.bound HB2.out.size)
      have ZZ := Lib.hid (stL_size K xs)
      clear h2 b2
      generalize stL K xs = D at *
      go_wp2_with fail
      refine (offs_any _ _ _ D _ H2.out).mono ?_
      rintro e w3 ⟨rfl, b3⟩
      have B3 := Lib.hid (B2.out.trans (b3.mono B2.out.size))
      have H3 := Lib.hid (H2.out.below b3)
      have Z3 := Lib.hid (Nat.lt_of_lt_of_le Z2.out.1 b3.size)
      clear b3
      cases ho : D.on with
      | false =>
        clear ho
        go_wp2_with fail
        refine (awake_any _).mono ?_
        rintro e w4 ⟨rfl, b4⟩
        go_wp2
        go_ret
        exact ⟨rfl, B3.out.trans (b4.mono B3.out.size)⟩
      | true =>
        have HO := Lib.hid ho
        clear ho
        have HZ := Lib.hid (show ∀ k, w3.heap.size ≤ k → ¬ Own (w1.heap.size + 2) w1.heap.size (w1.heap.size + 1) k from fun k hk hh => by have := Z3.out; rcases hh with hh | hh | hh <;> omega)
        have HZ2 := Lib.hid (show ∀ k, k < w3.heap.size → ¬ Own w3.heap.size (w3.heap.size + 1) (w3.heap.size + 2) k from fun k hk hh => by rcases hh with hh | hh | hh <;> omega)
        go_wp2_with fail
        refine (clone_all _ _ _ D _ H3.out).mono ?_
        rintro e w4 ⟨rfl, h4, b4⟩
        have H4 := Lib.hid h4
        have D4 := Lib.hid (H3.out.below b4)
        have B4 := Lib.hid b4
        clear h4 b4 H2 H3
        go_wp2_with fail
        refine (crash_any _ _ _ D none 0 0 [] _ (by decide) ⟨rfl, fun hn => by omega⟩ H4.out).mono ?_
        rintro e w5 ⟨rfl, h5, g5⟩
        have Z3' := Z3.out
        have H5 := Lib.hid h5
        have D5 := Lib.hid (D4.out.over g5 (HZ2.out _ (by omega)) (HZ2.out _ (by omega)) (HZ2.out _ (by omega)))
        have B5 := Lib.hid (B4.out.trans (g5.below B4.out.size (fun k hk hh => HZ2.out k hk hh)))
        clear h5 g5 H4 D4 B4 Z3'
        go_wp2_with fail
        refine (blocks_any _ _ _ _ _ H5.out).mono ?_
        rintro e w6 ⟨v6, rfl, s6, b6⟩
        obtain ⟨A6, c6, rfl, r6⟩ := strs_from s6
        have R6 := Lib.hid r6
        have D6 := Lib.hid (D5.out.below b6)
        have B6 := Lib.hid (B5.out.trans (b6.mono B5.out.size))
        clear s6 b6 r6 H5 D5
        go_wp2_with fail
        refine (blocks_any _ _ _ _ _ D6.out).mono ?_
        rintro e w7 ⟨v7, rfl, s7, b7⟩
        obtain ⟨A7, c7, rfl, r7⟩ := strs_from s7
        have R7 := Lib.hid (And.intro (R6.out.below b7) r7)
        have D7 := Lib.hid (D6.out.below b7)
        have B7 := Lib.hid (B6.out.trans (b7.mono B6.out.size))
        clear s7 b7 r7 R6 D6
        go_wp2_with fail
        refine (dirty_any _ _ _ D _ D7.out HI.out).mono ?_
        rintro e w8 ⟨v8, l8, rfl, hl8, s8, b8⟩
        obtain ⟨A8, c8, rfl, r8, _⟩ := ints_from s8
        have n8 : l8.length ≤ 4096 := dirty_len hl8 HI.out D7.out.hi
        have R8 := Lib.hid (And.intro (R7.out.1.below b8) (And.intro (R7.out.2.below b8) r8))
        have D8 := Lib.hid (D7.out.below b8)
        have L8 := Lib.hid hl8
        have B8 := Lib.hid (B7.out.trans (b8.mono B7.out.size))
        have HK8 := Lib.hid (HQ.out.below (B3.out.trans (B8.out.mono B3.out.size)))
        have ZR := Lib.hid (And.intro B5.out.size (And.intro B6.out.size B7.out.size))
        clear s8 b8 r8 R7 D7 hl8
        go_wp2_with fail
        refine (crash_any _ _ _ D B q _ ks _ hq.out HK8.out D8.out).mono ?_
        rintro e w9 ⟨rfl, h9, g9⟩
        have H9 := Lib.hid h9
        have R9 := Lib.hid (And.intro (R8.out.1.over g9 (fun k hk => HZ.out k (Nat.le_trans ZR.out.1 hk))) (And.intro (R8.out.2.1.over g9 (fun k hk => HZ.out k (Nat.le_trans ZR.out.2.1 hk))) (R8.out.2.2.over g9 (fun k hk => HZ.out k (Nat.le_trans ZR.out.2.2 hk)))))
        have B9 := Lib.hid ((B3.out.trans (B8.out.mono B3.out.size)).trans (g9.below (Nat.le_trans B3.out.size B8.out.size) (fun k hk hh => by have := HB2.out.size; rcases hh with hh | hh | hh <;> omega)))
        clear h9 g9 R8 D8
        go_wp2_with fail
        refine (blocks_any _ _ _ _ _ H9.out).mono ?_
        rintro e w10 ⟨v10, rfl, s10, b10⟩
        obtain ⟨A10, c10, rfl, r10⟩ := strs_from s10
        have R10 := Lib.hid (And.intro (R9.out.1.below b10) (And.intro (R9.out.2.1.below b10) (And.intro (R9.out.2.2.below b10) r10)))
        have H10 := Lib.hid (H9.out.below b10)
        have B10 := Lib.hid (B9.out.trans (b10.mono B9.out.size))
        clear s10 b10 r10 R9 H9
        have e1 : (bl (crashD D [])).length = K := by rw [bl_len]; exact ZZ.out
        have e2 : (bl D).length = K := by rw [bl_len]; exact ZZ.out
        have e3 : (bl (crashD D ks)).length = K := by rw [bl_len]; exact ZZ.out
        rw [e1, e2, e3] at *
        go_wp2
        have HKK := Lib.hid (And.intro e1 (And.intro e2 e3))
        clear e1 e2 e3
        go_loopw [60] (fun i wr => ∃ j : Nat, j ≤ K ∧ i = .int .i64 j ∧ Below w10.heap.size w10 wr) (fun i _ => K - (intOf i).toNat)
        case atStart => exact ⟨0, Nat.zero_le _, rfl, Below.refl _ _⟩
        case round =>
          obtain ⟨j, hj, rfl, hb⟩ := hrel
          have HBr := Lib.hid hb
          have hK40 := HK.out.2.1
          clear hb
          by_cases hlt : j < K
          · have hjD : j < D.size := by rw [ZZ.out]; exact hlt
            have hin := L8.out.2 (j : Int)
            have HQ1 := Lib.hid (contains_any B q e ks (j : Int) (Nat.le_trans hq.out (by decide)) _ (HQ.out.below (B10.out.trans (HBr.out.mono B10.out.size))))
            go_wp2_with fail
            refine HQ1.out.mono ?_
            rintro e w11 ⟨rfl, b11⟩
            have HB11 := Lib.hid (HBr.out.trans (b11.mono HBr.out.size))
            clear b11 HQ1
            by_cases p1 : (j : Int) ∈ ks
            · rw [decide_eq_true p1]
              have HQ2 := Lib.hid (contains_any A8 l8.length c8 l8 (j : Int) (by omega) _ (R10.out.2.2.1.below HB11.out).row)
              go_wp2_with fail
              refine HQ2.out.mono ?_
              rintro e w12 ⟨rfl, b12⟩
              have HB12 := Lib.hid (HB11.out.trans (b12.mono HB11.out.size))
              clear b12 HQ2
              by_cases p2 : (j : Int) ∈ l8
              · rw [decide_eq_true p2]
                have HB13 := Lib.hid HB12.out
                have hr := R10.out.2.2.2.below HB13.out
                have hr2 := R10.out.2.1.below HB13.out
                obtain ⟨bN, oN, rfl, cN⟩ := txt_at hr (show j < (crashD D ks).size from hjD)
                obtain ⟨bX, oX, rfl, cX⟩ := txt_at hr2 (show j < D.size from hjD)
                have he : readS (startD (crashD D ks)) (j : Int) = readS (startD D) (j : Int) := by
                  rw [crash_read, on_read D HO.out]
                  unfold keepD
                  rw [if_pos p1]
                rw [he] at cN
                generalize readS (startD D) (j : Int) = N at *
                clear hr hr2 he
                go_wp2_with fail
                go_quiet (fail)
                go_wp2
                go_roundw
                case rel => exact ⟨j + 1, by omega, by go_num, below_drewN HB13.out _⟩
                case measure => simp [intOf]; omega
              · rw [decide_eq_false p2]
                have HB13 := Lib.hid HB12.out
                have hr := R10.out.2.2.2.below HB13.out
                have hr2 := R10.out.1.below HB13.out
                obtain ⟨bN, oN, rfl, cN⟩ := txt_at hr (show j < (crashD D ks).size from hjD)
                obtain ⟨bX, oX, rfl, cX⟩ := txt_at hr2 (show j < (crashD D []).size from hjD)
                have he : readS (startD (crashD D ks)) (j : Int) = readS (startD (crashD D [])) (j : Int) := by
                  rw [crash_read, crash_read]
                  have h0 : D.dirty (j : Int) = none := by
                    cases hq : D.dirty (j : Int) with
                    | none => rfl
                    | some s => exact absurd (hin.2 (by rw [hq]; rfl)) p2
                  unfold keepD
                  rw [if_pos p1, h0, if_neg (by simp)]
                  rfl
                rw [he] at cN
                generalize readS (startD (crashD D [])) (j : Int) = N at *
                clear hr hr2 he
                go_wp2_with fail
                go_quiet (fail)
                go_wp2
                go_roundw
                case rel => exact ⟨j + 1, by omega, by go_num, below_drewN HB13.out _⟩
                case measure => simp [intOf]; omega
            · rw [decide_eq_false p1]
              have HB13 := Lib.hid HB11.out
              have hr := R10.out.2.2.2.below HB13.out
              have hr2 := R10.out.1.below HB13.out
              obtain ⟨bN, oN, rfl, cN⟩ := txt_at hr (show j < (crashD D ks).size from hjD)
              obtain ⟨bX, oX, rfl, cX⟩ := txt_at hr2 (show j < (crashD D []).size from hjD)
              have he : readS (startD (crashD D ks)) (j : Int) = readS (startD (crashD D [])) (j : Int) := by
                rw [crash_read, crash_read]
                unfold keepD
                rw [if_neg p1, if_neg (by simp)]
              rw [he] at cN
              generalize readS (startD (crashD D [])) (j : Int) = N at *
              clear hr hr2 he
              go_wp2_with fail
              go_quiet (fail)
              go_wp2
              go_roundw
              case rel => exact ⟨j + 1, by omega, by go_num, below_drewN HB13.out _⟩
              case measure => simp [intOf]; omega
          · obtain rfl : j = K := by omega
            clear hlt hj
            go_wp2_with fail
            refine (dirty_any _ _ _ (crashD D ks) _ (H10.out.below HBr.out) (fun z hz => by cases hz)).mono ?_
            rintro e w11 ⟨v11, l11, rfl, hl11, s11, b11⟩
            obtain rfl : l11 = [] := List.eq_nil_iff_forall_not_mem.2 fun z hz => by
              have := (hl11.2 z).1 hz
              cases this
            obtain ⟨A11, c11, rfl, _, _⟩ := ints_from s11
            have hw := Lib.hid (B10.out.trans ((HBr.out.trans (b11.mono HBr.out.size)).mono B10.out.size))
            clear hl11 s11 b11
            go_wp2_with fail
            refine (awake_any _).mono ?_
            rintro e w12 ⟨rfl, b12⟩
            go_wp2
            go_ret
            exact ⟨rfl, hw.out.trans (b12.mono hw.out.size)⟩
theorem some_walk (w : World) (a0 : Int) (A1 : Option Addr) (n1 c1 : Nat) (a1 : List DoC) (A2 : Option Addr) (n2 c2 : Nat) (a2 : List Int)
    (_ : (Lit.int .i64 a0).wf = true) (w1 : DoRow w A1 n1 a1) (b1 : n1 ≤ c1) (m1 : c1 ≤ maxLen) (w2 : NumRow w A2 n2 a2) (_ : A2 = none → n2 = 0 ∧ c2 = 0) (b2 : n2 ≤ c2) (m2 : c2 ≤ maxLen) (_ : ∀ x ∈ a2, -9223372036854775808 ≤ x ∧ x ≤ 9223372036854775807) :
    Calls Try.prog 4 #[.int .i64 a0, .slice A1 n1 c1, .slice A2 n2 c2] w fun e w' => e = .returned (.bool true) ∧ Below w.heap.size w w' :=
  some_law a0 A1 n1 c1 a1 A2 n2 c2 a2 (by unfold maxLen at m1; omega) (Nat.le_trans b2 m2) w w1 w2
end Go.Proofs.Ytdedbbbgpjhjhac.Dv
