/- The walk of the law DevRefused. -/
import Derived.Test.YtdedbbbgpjhjhacDevM
namespace Go.Proofs.Ytdedbbbgpjhjhac.Dv
open Go.RowKit
open Mem
open Rws

/-- Two devices that have the same, and had the same written; their power may differ. -/
structure Same (d e : St) : Prop where
  size : d.size = e.size
  kept : d.kept = e.kept
  dirty : d.dirty = e.dirty
theorem Same.crash {d e : St} (h : Same d e) (ks : List Int) : crashD d ks = crashD e ks := by
  obtain ⟨a, b, c, f, g⟩ := d
  obtain ⟨a', b', c', f', g'⟩ := e
  obtain ⟨rfl, rfl, rfl⟩ := h
  rfl
theorem act_same (d : St) : Same (act d) d := by
  unfold act
  split
  · exact ⟨rfl, rfl, rfl⟩
  · split
    · exact ⟨rfl, rfl, rfl⟩
    · exact ⟨rfl, rfl, rfl⟩
/-- What is refused changes nothing but the power. -/
theorem refused (d : St) (k : DoV) (h : doE d k ≠ 0) : Same (doD d k) d := by
  unfold doE at h
  unfold doD
  split
  · next h1 =>
    rw [if_pos h1] at h
    unfold wrE at h
    unfold wrD
    split
    · next h2 =>
      rw [if_neg (by rw [h2.1]; decide), if_neg (by rw [h2.2.1]; intro k; rcases k with k | k; cases k; omega)] at h
      unfold actE at h
      unfold writeD
      split
      · exact act_same d
      · next h3 => exact absurd (if_neg h3) h
    · exact ⟨rfl, rfl, rfl⟩
  · next h1 =>
    rw [if_neg h1] at h
    split
    · next h2 =>
      rw [if_pos h2] at h
      unfold flE at h
      unfold flD
      split
      · next h4 =>
        rw [if_pos h4] at h
        unfold actE at h
        unfold flushD
        split
        · exact act_same d
        · next h3 => exact absurd (if_neg h3) h
      · exact ⟨rfl, rfl, rfl⟩
    · next h2 =>
      rw [if_neg h2] at h
      split
      · exact ⟨rfl, rfl, rfl⟩
      · next h4 =>
        rw [if_neg h4] at h
        split
        · next h5 =>
          rw [if_pos h5] at h
          unfold fuE at h
          unfold fuD
          split
          · next h6 => exact absurd (if_pos h6) h
          · exact ⟨rfl, rfl, rfl⟩
        · next h5 => exact absurd (if_neg h5) h
set_option maxRecDepth 100000 in
set_option maxHeartbeats 4000000 in
theorem ref_law (x : Int) (A : Option Addr) (n c : Nat) (xs : List DoC) (y : DoC) (hn : n ≤ 9223372036854775807) (w : World) (h : DoRow w A n xs) (hy : Fits w y) :
    Calls Try.prog 8 #[.int .i64 x, .slice A n c, .agg #[.int .i64 y.v.op, .int .i64 y.v.i, .string y.v.s, .slice y.A y.n y.c]] w fun e w' => e = .returned (.bool true) ∧ Below w.heap.size w w' := by
  obtain ⟨K, k1, k2, hK⟩ := size_of x
  obtain ⟨W3, hW3⟩ : ∃ W3 : World, W3 = ((w.alloc (.cells #[.int .i64 y.v.op, .int .i64 y.v.i, .string y.v.s, .slice y.A y.n y.c] 34)).alloc (.cells #[.int .i64 y.v.op, .int .i64 y.v.i, .string y.v.s, .slice y.A y.n y.c] 34)).alloc (.cells #[.slice A n c, .slice (some ⟨w.heap.size + 1, 0, none⟩) 1 1] 22) := ⟨_, rfl⟩
  have b3 : Below w.heap.size w W3 := by rw [hW3]; exact (((Below.refl _ w).alloc (Nat.le_refl _) _).alloc (by simp) _).alloc (by simp; omega) _
  have h0 : Has W3 w.heap.size 34 #[.int .i64 y.v.op, .int .i64 y.v.i, .string y.v.s, .slice y.A y.n y.c] := by rw [hW3]; exact ((Has.fresh w _ _).past _).past _
  have h1 : Has W3 (w.heap.size + 1) 34 #[.int .i64 y.v.op, .int .i64 y.v.i, .string y.v.s, .slice y.A y.n y.c] := by
    have h := Has.fresh (w.alloc (.cells #[.int .i64 y.v.op, .int .i64 y.v.i, .string y.v.s, .slice y.A y.n y.c] 34)) 34 #[.int .i64 y.v.op, .int .i64 y.v.i, .string y.v.s, .slice y.A y.n y.c]
    rw [World.size_alloc] at h
    rw [hW3]
    exact h.past _
  have h2 : Has W3 (w.heap.size + 1 + 1) 22 #[.slice A n c, .slice (some ⟨w.heap.size + 1, 0, none⟩) 1 1] := by
    have h := Has.fresh ((w.alloc (.cells #[.int .i64 y.v.op, .int .i64 y.v.i, .string y.v.s, .slice y.A y.n y.c] 34)).alloc (.cells #[.int .i64 y.v.op, .int .i64 y.v.i, .string y.v.s, .slice y.A y.n y.c] 34)) 22 #[.slice A n c, .slice (some ⟨w.heap.size + 1, 0, none⟩) 1 1]
    rw [World.size_alloc, World.size_alloc] at h
    rw [hW3]
    exact h
  have HL := Lib.hid (two_list W3 A (some ⟨w.heap.size + 1, 0, none⟩) n c 1 1 _ xs [y] (h.below b3) (one_row w W3 y _ hy b3 h1) hn (by decide) h2)
  have H0 := Lib.hid h0
  have HX := Lib.hid h
  have HY := Lib.hid hy
  have HB1 := Lib.hid b3
  have HK := Lib.hid (And.intro k1 (And.intro k2 (And.intro hn hK)))
  clear h h0 h1 h2 b3 k1 k2 hn hK hy
  go_enter Try.func8, Try.ntmps8
  go_wp2_with fail
  rw [← hW3]
  clear hW3
  refine (short_any _ 2 2 _ (by decide) _ HL.out).mono ?_
  rintro e w1 ⟨⟨t, rfl⟩, b1⟩
  have HB2 := Lib.hid (HB1.out.trans (b1.mono HB1.out.size))
  have H1 := Lib.hid (H0.out.below b1)
  clear b1 HL HB1 H0
  cases t with
  | false =>
    go_wp2_with fail
    refine (awake_any _).mono ?_
    rintro e w2 ⟨rfl, b2⟩
    go_wp2
    go_ret
    exact ⟨rfl, HB2.out.trans (b2.mono HB2.out.size)⟩
  | true =>
    go_wp2_with fail
    refine (made_law x K A n c xs HK.out.2.2.1 HK.out.1 HK.out.2.1 HK.out.2.2.2 _ (HX.out.below HB2.out)).mono ?_
    rintro e w2 ⟨rfl, h2, b2⟩
    have HI := Lib.hid (in_st K xs)
    have H2 := Lib.hid h2
    have HO := Lib.hid (H1.out.below b2)
    have B2 := Lib.hid (HB2.out.trans (b2.mono HB2.out.size))
    have Z2 := Lib.hid (And.intro h2.obj.bound (And.intro HB2.out.size H1.out.bound))
    clear h2 b2 H1
    generalize stL K xs = D at *
    go_wp2_with fail
    refine (clone_all _ _ _ D _ H2.out).mono ?_
    rintro e w3 ⟨rfl, h3, b3⟩
    have H3 := Lib.hid h3
    have B3 := Lib.hid b3
    have D3 := Lib.hid (H2.out.below b3)
    have HO3 := HO.out.below b3
    have c0 := Has.at_ HO3 0
    have c1 := Has.at_ HO3 1
    have c2 := Has.at_ HO3 2
    have c3 := Has.at_ HO3 3
    simp at c0 c1 c2 c3
    have HF3 := Lib.hid (HY.out.below (B2.out.trans (b3.mono B2.out.size)))
    have HZ := Lib.hid (show ∀ k, w2.heap.size ≤ k → ¬ Own (w1.heap.size + 2) w1.heap.size (w1.heap.size + 1) k from fun k hk hh => by have := Z2.out; rcases hh with hh | hh | hh <;> omega)
    clear h3 b3 HO3
    have HX2 := Lib.hid (does_any _ _ _ D y.v y.A y.n y.c _ (Nat.le_trans HF3.out.len HF3.out.cap) HF3.out.i.2 HF3.out.row D3.out)
    go_wp2_with fail
    refine HX2.out.mono ?_
    rintro e w4 ⟨rfl, h4, g4⟩
    have H4 := Lib.hid h4
    have C4 := Lib.hid (H3.out.over g4 (HZ.out _ (Nat.le_refl _)) (HZ.out _ (by omega)) (HZ.out _ (by omega)))
    have B4 := Lib.hid ((B2.out.trans (B3.out.mono B2.out.size)).trans (g4.below (Nat.le_trans B2.out.size B3.out.size) (fun k hk hh => by have := Z2.out; have := HB2.out.size; rcases hh with hh | hh | hh <;> omega)))
    clear h4 g4 HX2 c0 c1 c2 c3
    by_cases h0 : doE D y.v = 0
    · rw [h0]
      clear h0
      go_wp2_with fail
      refine (awake_any _).mono ?_
      rintro e w5 ⟨rfl, b5⟩
      go_wp2
      go_ret
      exact ⟨rfl, B4.out.trans (b5.mono B4.out.size)⟩
    · have t0 : (doE D y.v == 0) = false := beq_eq_false_iff_ne.2 h0
      have hs := Lib.hid (refused D y.v h0)
      have hi4 := Lib.hid (in_do HI.out y.v)
      clear h0
      generalize doE D y.v = E at *
      generalize doD D y.v = D4 at *
      generalize doS D y.v = S4 at *
      go_wp2_with fail
      refine (dirty_any _ _ _ D4 _ H4.out hi4.out).mono ?_
      rintro e w5 ⟨v5, l5, rfl, hl5, s5, b5⟩
      obtain ⟨A5, c5, rfl, r5, _⟩ := ints_from s5
      have n5 : l5.length ≤ 4096 := dirty_len hl5 hi4.out H4.out.hi
      have L5 := Lib.hid (And.intro hl5 (show DirtyL D l5 from ⟨hl5.1, fun z => by rw [← hs.out.dirty]; exact hl5.2 z⟩))
      have H5 := Lib.hid (And.intro (H4.out.below b5) (And.intro (C4.out.below b5) r5))
      have B5 := Lib.hid (B4.out.trans (b5.mono B4.out.size))
      have Z5 := Lib.hid (show w2.heap.size + 2 < w4.heap.size by have := C4.out.dirt.bound; omega)
      clear hl5 s5 b5 r5 H4 C4
      go_wp2_with fail
      refine (dirty_any _ _ _ D _ H5.out.2.1 HI.out).mono ?_
      rintro e w6 ⟨v6, l6, rfl, hl6, s6, b6⟩
      obtain rfl := dirty_one hl6 L5.out.2
      obtain ⟨A6, c6, rfl, r6, _⟩ := ints_from s6
      have H6 := Lib.hid (And.intro (H5.out.1.below b6) (H5.out.2.1.below b6))
      have R6 := Lib.hid (And.intro (H5.out.2.2.below b6) r6)
      have B6 := Lib.hid (B5.out.trans (b6.mono B5.out.size))
      clear s6 b6 r6 hl6 H5
      go_wp2_with fail
      refine (eqi_same A5 A6 _ _ _ _ l6 (by omega) _ R6.out.1.row R6.out.2.row).mono ?_
      rintro e w7 ⟨rfl, b7⟩
      have H7 := Lib.hid (And.intro (H6.out.1.below b7) (H6.out.2.below b7))
      have B7 := Lib.hid (B6.out.trans (b7.mono B6.out.size))
      clear b7 R6 H6
      go_wp2_with fail
      refine (dirty_any _ _ _ D4 _ H7.out.1 hi4.out).mono ?_
      rintro e w8 ⟨v8, l8, rfl, hl8, s8, b8⟩
      obtain rfl := dirty_one hl8 L5.out.1
      obtain ⟨A8, c8, rfl, r8, _⟩ := ints_from s8
      have H8 := Lib.hid (And.intro (H7.out.1.below b8) (H7.out.2.below b8))
      have R8 := Lib.hid r8
      have B8 := Lib.hid (B7.out.trans (b8.mono B7.out.size))
      clear s8 b8 r8 hl8 H7
      go_wp2_with fail
      refine (crash_any _ _ _ D4 A8 _ _ l8 _ (by unfold maxLen; omega) R8.out.row H8.out.1).mono ?_
      rintro e w9 ⟨rfl, h9, g9⟩
      have H9 := Lib.hid (And.intro h9 (H8.out.2.over g9 (HZ.out _ (Nat.le_refl _)) (HZ.out _ (by omega)) (HZ.out _ (by omega))))
      have B9 := Lib.hid (B8.out.trans (g9.below B8.out.size (fun k hk hh => by have := Z2.out; rcases hh with hh | hh | hh <;> omega)))
      clear h9 g9 R8 H8
      go_wp2_with fail
      refine (dirty_any _ _ _ D _ H9.out.2 HI.out).mono ?_
      rintro e w10 ⟨v10, l10, rfl, hl10, s10, b10⟩
      obtain rfl := dirty_one hl10 L5.out.2
      obtain ⟨A10, c10, rfl, r10, _⟩ := ints_from s10
      have H10 := Lib.hid (And.intro (H9.out.1.below b10) (H9.out.2.below b10))
      have R10 := Lib.hid r10
      have B10 := Lib.hid (B9.out.trans (b10.mono B9.out.size))
      clear s10 b10 r10 hl10 H9
      go_wp2_with fail
      refine (crash_any _ _ _ D A10 _ _ l10 _ (by unfold maxLen; omega) R10.out.row H10.out.2).mono ?_
      rintro e w11 ⟨rfl, h11, g11⟩
      have h12 := H10.out.1.over g11 (fun hh => by have := Z2.out; rcases hh with hh | hh | hh <;> omega) (fun hh => by have := Z2.out; rcases hh with hh | hh | hh <;> omega) (fun hh => by have := Z2.out; rcases hh with hh | hh | hh <;> omega)
      rw [hs.out.crash l10] at h12
      have H11 := Lib.hid (And.intro h12 h11)
      have B11 := Lib.hid (B10.out.trans (g11.below B10.out.size (fun k hk hh => by have := Z2.out; rcases hh with hh | hh | hh <;> omega)))
      have hbl : (bl (crashD D l10)).length ≤ 9223372036854775807 := by
        rw [bl_len]
        have := h11.hi
        omega
      clear h11 h12 g11 R10 H10
      generalize crashD D l10 = E9 at *
      go_wp2_with fail
      refine (blocks_any _ _ _ E9 _ H11.out.1).mono ?_
      rintro e w12 ⟨v12, rfl, s12, b12⟩
      obtain ⟨A12, c12, rfl, r12⟩ := strs_from s12
      have R12 := Lib.hid r12
      have H12 := Lib.hid (H11.out.2.below b12)
      have B12 := Lib.hid (B11.out.trans (b12.mono B11.out.size))
      clear s12 b12 r12 H11
      go_wp2_with fail
      refine (blocks_any _ _ _ E9 _ H12.out).mono ?_
      rintro e w13 ⟨v13, rfl, s13, b13⟩
      obtain ⟨A13, c13, rfl, r13⟩ := strs_from s13
      have R13 := Lib.hid (And.intro (R12.out.below b13) r13)
      have B13 := Lib.hid (B12.out.trans (b13.mono B12.out.size))
      clear s13 b13 r13
      go_wp2_with fail
      refine (eqs_same A12 A13 _ _ _ _ (bl E9) hbl _ R13.out.1.row R13.out.2.row).mono ?_
      rintro e w14 ⟨rfl, b14⟩
      have B14 := Lib.hid (B13.out.trans (b14.mono B13.out.size))
      clear b14 hbl
      go_wp2_with fail
      refine (awake_any _).mono ?_
      rintro e w15 ⟨rfl, b15⟩
      go_wp2
      go_ret
      exact ⟨rfl, B14.out.trans (b15.mono B14.out.size)⟩
theorem ref_walk (w : World) (a0 : Int) (A1 : Option Addr) (n1 c1 : Nat) (a1 : List DoC) (a2 : DoC)
    (_ : (Lit.int .i64 a0).wf = true) (w1 : DoRow w A1 n1 a1) (b1 : n1 ≤ c1) (m1 : c1 ≤ maxLen) (w2 : Fits w a2) :
    Calls Try.prog 8 #[.int .i64 a0, .slice A1 n1 c1, .agg #[.int .i64 a2.v.op, .int .i64 a2.v.i, .string a2.v.s, .slice a2.A a2.n a2.c]] w fun e w' => e = .returned (.bool true) ∧ Below w.heap.size w w' :=
  ref_law a0 A1 n1 c1 a1 a2 (by unfold maxLen at m1; omega) w w1 w2
end Go.Proofs.Ytdedbbbgpjhjhac.Dv
