/- The package's example is as the document has it. -/
import Derived.Test.YtdedbbbgpjhjhacDevE
namespace Go.Proofs.Ytdedbbbgpjhjhac.Dv
open Go.RowKit
open Mem
open Rws

def ex : List DoV := [⟨0, 3, ⟨#[97]⟩, []⟩, ⟨3, 0, ⟨#[]⟩, []⟩, ⟨0, 3, ⟨#[98]⟩, []⟩, ⟨0, 4, ⟨#[99]⟩, []⟩, ⟨6, 0, ⟨#[]⟩, [4]⟩, ⟨7, 0, ⟨#[]⟩, []⟩]
def stAt (j : Nat) : St := (ex.take j).foldl doD (newSt 8)
def cellsEx (K : Nat) : Array Value := #[.int .i64 0, .int .i64 3, .string ⟨#[97]⟩, .slice none 0 0, .int .i64 3, .int .i64 0, .string ⟨#[]⟩, .slice none 0 0, .int .i64 0, .int .i64 3, .string ⟨#[98]⟩, .slice none 0 0,
  .int .i64 0, .int .i64 4, .string ⟨#[99]⟩, .slice none 0 0, .int .i64 6, .int .i64 0, .string ⟨#[]⟩, .slice (some ⟨K, 0, none⟩) 1 1, .int .i64 7, .int .i64 0, .string ⟨#[]⟩, .slice none 0 0]
theorem nil_row (w : World) : NumRow w none 0 [] := ⟨rfl, fun h => absurd h (by omega)⟩
set_option maxRecDepth 100000 in
set_option maxHeartbeats 2000000 in
theorem awake_any (w : World) : Calls Try.prog 11 #[] w fun e w' => e = .returned (.bool true) ∧ Below w.heap.size w w' := by
  go_enter Try.func11, Try.ntmps11
  go_wp2_with fail
  refine (new_good 8 (by omega) (by omega) _).mono ?_
  rintro e w1 ⟨rfl, h1, b1, z1⟩
  have HB1 := Lib.hid b1
  have HZ1 := Lib.hid z1
  have H1 := Lib.hid h1
  clear h1 b1 z1
  obtain ⟨W2, hW2⟩ : ∃ W2 : World, W2 = (w1.alloc (.cells #[.int .i64 4] 3)).alloc (.cells (cellsEx w1.heap.size) 34) := ⟨_, rfl⟩
  have hL : Has W2 (w1.heap.size + 1) 34 (cellsEx w1.heap.size) := by
    have h := Has.fresh (w1.alloc (.cells #[.int .i64 4] 3)) 34 (cellsEx w1.heap.size)
    rw [World.size_alloc] at h
    rw [hW2]
    exact h
  have hK : Has W2 w1.heap.size 3 #[.int .i64 4] := by rw [hW2]; exact (Has.fresh w1 _ _).past _
  have b2 : Below w1.heap.size w1 W2 := by rw [hW2]; exact ((Below.refl _ w1).alloc (Nat.le_refl _) _).alloc (by simp) _
  have HL := Lib.hid hL
  have HK := Lib.hid hK
  have HB2 := Lib.hid b2
  have H2 := Lib.hid (H1.out.below b2)
  clear hL hK b2
  unfold cellsEx at hW2
  go_wp2
  rw [← hW2]
  clear hW2
  go_loopw [26] (fun i wr => ∃ j : Nat, j ≤ 6 ∧ i = .int .i64 j ∧ DevIs wr (w.heap.size + 2) w.heap.size (w.heap.size + 1) (stAt j) ∧ Chg (Own (w.heap.size + 2) w.heap.size (w.heap.size + 1)) W2 wr) (fun i _ => 6 - (intOf i).toNat)
  case atStart => exact ⟨0, Nat.zero_le _, rfl, H2.out, Chg.refl _ _⟩
  case round =>
    obtain ⟨j, hj, rfl, hd, hC⟩ := hrel
    have hz := HZ1.out
    have hLr := HL.out.over hC (fun k => by rcases k with k | k | k <;> omega)
    have hKr := HK.out.over hC (fun k => by rcases k with k | k | k <;> omega)
    have HD := Lib.hid hd
    have HC := Lib.hid hC
    clear hd hC hz
    rcases (show j = 0 ∨ j = 1 ∨ j = 2 ∨ j = 3 ∨ j = 4 ∨ j = 5 ∨ j = 6 by omega) with rfl | rfl | rfl | rfl | rfl | rfl | rfl
    · have c0 := Has.at_ hLr 0
      have c1 := Has.at_ hLr 1
      have c2 := Has.at_ hLr 2
      have c3 := Has.at_ hLr 3
      simp [cellsEx] at c0 c1 c2 c3
      have hb : Below wr.heap.size wr (wr.alloc (.cells #[.int .i64 0, .int .i64 3, .string ⟨#[97]⟩, .slice none 0 0] 34)) := (Below.refl _ _).alloc (Nat.le_refl _) _
      have HX := Lib.hid (does_any _ _ _ _ ⟨0, 3, ⟨#[97]⟩, []⟩ none 0 0 _ (by unfold maxLen; omega) (by show (_ : Int) ≤ _; decide) (nil_row _) (HD.out.below hb))
      have e1 : doE (stAt 0) ⟨0, 3, ⟨#[97]⟩, []⟩ = 0 := by rfl
      have e2 : doD (stAt 0) ⟨0, 3, ⟨#[97]⟩, []⟩ = stAt 1 := rfl
      rw [e1, e2] at HX
      have HBb := Lib.hid hb
      clear e1 e2 hLr hKr hb
      go_wp2_with fail
      refine HX.out.mono ?_
      rintro e w3 ⟨rfl, h3, g3⟩
      have H3 := Lib.hid (And.intro h3 (HC.out.trans ((Chg.of_below HBb.out _).trans g3)))
      clear h3 g3 HX c0 c1 c2 c3
      go_wp2
      go_roundw
      case rel => exact ⟨1, by omega, rfl, H3.out.1, H3.out.2⟩
      case measure => simp [intOf]
    · have c0 := Has.at_ hLr 4
      have c1 := Has.at_ hLr 5
      have c2 := Has.at_ hLr 6
      have c3 := Has.at_ hLr 7
      simp [cellsEx] at c0 c1 c2 c3
      have hb : Below wr.heap.size wr (wr.alloc (.cells #[.int .i64 3, .int .i64 0, .string ⟨#[]⟩, .slice none 0 0] 34)) := (Below.refl _ _).alloc (Nat.le_refl _) _
      have HX := Lib.hid (does_any _ _ _ _ ⟨3, 0, ⟨#[]⟩, []⟩ none 0 0 _ (by unfold maxLen; omega) (by show (_ : Int) ≤ _; decide) (nil_row _) (HD.out.below hb))
      have e1 : doE (stAt 1) ⟨3, 0, ⟨#[]⟩, []⟩ = 0 := by rfl
      have e2 : doD (stAt 1) ⟨3, 0, ⟨#[]⟩, []⟩ = stAt 2 := rfl
      rw [e1, e2] at HX
      have HBb := Lib.hid hb
      clear e1 e2 hLr hKr hb
      go_wp2_with fail
      refine HX.out.mono ?_
      rintro e w3 ⟨rfl, h3, g3⟩
      have H3 := Lib.hid (And.intro h3 (HC.out.trans ((Chg.of_below HBb.out _).trans g3)))
      clear h3 g3 HX c0 c1 c2 c3
      go_wp2
      go_roundw
      case rel => exact ⟨2, by omega, rfl, H3.out.1, H3.out.2⟩
      case measure => simp [intOf]
    · have c0 := Has.at_ hLr 8
      have c1 := Has.at_ hLr 9
      have c2 := Has.at_ hLr 10
      have c3 := Has.at_ hLr 11
      simp [cellsEx] at c0 c1 c2 c3
      have hb : Below wr.heap.size wr (wr.alloc (.cells #[.int .i64 0, .int .i64 3, .string ⟨#[98]⟩, .slice none 0 0] 34)) := (Below.refl _ _).alloc (Nat.le_refl _) _
      have HX := Lib.hid (does_any _ _ _ _ ⟨0, 3, ⟨#[98]⟩, []⟩ none 0 0 _ (by unfold maxLen; omega) (by show (_ : Int) ≤ _; decide) (nil_row _) (HD.out.below hb))
      have e1 : doE (stAt 2) ⟨0, 3, ⟨#[98]⟩, []⟩ = 0 := by rfl
      have e2 : doD (stAt 2) ⟨0, 3, ⟨#[98]⟩, []⟩ = stAt 3 := rfl
      rw [e1, e2] at HX
      have HBb := Lib.hid hb
      clear e1 e2 hLr hKr hb
      go_wp2_with fail
      refine HX.out.mono ?_
      rintro e w3 ⟨rfl, h3, g3⟩
      have H3 := Lib.hid (And.intro h3 (HC.out.trans ((Chg.of_below HBb.out _).trans g3)))
      clear h3 g3 HX c0 c1 c2 c3
      go_wp2
      go_roundw
      case rel => exact ⟨3, by omega, rfl, H3.out.1, H3.out.2⟩
      case measure => simp [intOf]
    · have c0 := Has.at_ hLr 12
      have c1 := Has.at_ hLr 13
      have c2 := Has.at_ hLr 14
      have c3 := Has.at_ hLr 15
      simp [cellsEx] at c0 c1 c2 c3
      have hb : Below wr.heap.size wr (wr.alloc (.cells #[.int .i64 0, .int .i64 4, .string ⟨#[99]⟩, .slice none 0 0] 34)) := (Below.refl _ _).alloc (Nat.le_refl _) _
      have HX := Lib.hid (does_any _ _ _ _ ⟨0, 4, ⟨#[99]⟩, []⟩ none 0 0 _ (by unfold maxLen; omega) (by show (_ : Int) ≤ _; decide) (nil_row _) (HD.out.below hb))
      have e1 : doE (stAt 3) ⟨0, 4, ⟨#[99]⟩, []⟩ = 0 := by rfl
      have e2 : doD (stAt 3) ⟨0, 4, ⟨#[99]⟩, []⟩ = stAt 4 := rfl
      rw [e1, e2] at HX
      have HBb := Lib.hid hb
      clear e1 e2 hLr hKr hb
      go_wp2_with fail
      refine HX.out.mono ?_
      rintro e w3 ⟨rfl, h3, g3⟩
      have H3 := Lib.hid (And.intro h3 (HC.out.trans ((Chg.of_below HBb.out _).trans g3)))
      clear h3 g3 HX c0 c1 c2 c3
      go_wp2
      go_roundw
      case rel => exact ⟨4, by omega, rfl, H3.out.1, H3.out.2⟩
      case measure => simp [intOf]
    · have c0 := Has.at_ hLr 16
      have c1 := Has.at_ hLr 17
      have c2 := Has.at_ hLr 18
      have c3 := Has.at_ hLr 19
      simp [cellsEx] at c0 c1 c2 c3
      have hb : Below wr.heap.size wr (wr.alloc (.cells #[.int .i64 6, .int .i64 0, .string ⟨#[]⟩, .slice (some ⟨w1.heap.size, 0, none⟩) 1 1] 34)) := (Below.refl _ _).alloc (Nat.le_refl _) _
      have hrow : NumRow (wr.alloc (.cells #[.int .i64 6, .int .i64 0, .string ⟨#[]⟩, .slice (some ⟨w1.heap.size, 0, none⟩) 1 1] 34)) (some ⟨w1.heap.size, 0, none⟩) 1 [4] := by
        refine ⟨rfl, fun _ => ⟨w1.heap.size, 0, rfl, (hKr.below hb).bound, fun i hi => ?_⟩⟩
        obtain rfl : i = 0 := by simpa using hi
        exact Has.at_ (hKr.below hb) 0
      have HX := Lib.hid (does_any _ _ _ _ ⟨6, 0, ⟨#[]⟩, [4]⟩ (some ⟨w1.heap.size, 0, none⟩) 1 1 _ (by unfold maxLen; omega) (by show (_ : Int) ≤ _; decide) hrow (HD.out.below hb))
      have e1 : doE (stAt 4) ⟨6, 0, ⟨#[]⟩, [4]⟩ = 0 := by rfl
      have e2 : doD (stAt 4) ⟨6, 0, ⟨#[]⟩, [4]⟩ = stAt 5 := rfl
      rw [e1, e2] at HX
      have HBb := Lib.hid hb
      clear e1 e2 hLr hKr hb hrow
      go_wp2_with fail
      refine HX.out.mono ?_
      rintro e w3 ⟨rfl, h3, g3⟩
      have H3 := Lib.hid (And.intro h3 (HC.out.trans ((Chg.of_below HBb.out _).trans g3)))
      clear h3 g3 HX c0 c1 c2 c3
      go_wp2
      go_roundw
      case rel => exact ⟨5, by omega, rfl, H3.out.1, H3.out.2⟩
      case measure => simp [intOf]
    · have c0 := Has.at_ hLr 20
      have c1 := Has.at_ hLr 21
      have c2 := Has.at_ hLr 22
      have c3 := Has.at_ hLr 23
      simp [cellsEx] at c0 c1 c2 c3
      have hb : Below wr.heap.size wr (wr.alloc (.cells #[.int .i64 7, .int .i64 0, .string ⟨#[]⟩, .slice none 0 0] 34)) := (Below.refl _ _).alloc (Nat.le_refl _) _
      have HX := Lib.hid (does_any _ _ _ _ ⟨7, 0, ⟨#[]⟩, []⟩ none 0 0 _ (by unfold maxLen; omega) (by show (_ : Int) ≤ _; decide) (nil_row _) (HD.out.below hb))
      have e1 : doE (stAt 5) ⟨7, 0, ⟨#[]⟩, []⟩ = 0 := by rfl
      have e2 : doD (stAt 5) ⟨7, 0, ⟨#[]⟩, []⟩ = stAt 6 := rfl
      rw [e1, e2] at HX
      have HBb := Lib.hid hb
      clear e1 e2 hLr hKr hb
      go_wp2_with fail
      refine HX.out.mono ?_
      rintro e w3 ⟨rfl, h3, g3⟩
      have H3 := Lib.hid (And.intro h3 (HC.out.trans ((Chg.of_below HBb.out _).trans g3)))
      clear h3 g3 HX c0 c1 c2 c3
      go_wp2
      go_roundw
      case rel => exact ⟨6, by omega, rfl, H3.out.1, H3.out.2⟩
      case measure => simp [intOf]
    · have s3 : rdS (stAt 6) 3 = ⟨#[97]⟩ := rfl
      have s4 : rdS (stAt 6) 4 = ⟨#[99]⟩ := rfl
      have e3 : rdE (stAt 6) 3 = 0 := rfl
      have e4 : rdE (stAt 6) 4 = 0 := rfl
      have S := Lib.hid (And.intro s3 (And.intro s4 (And.intro e3 e4)))
      clear s3 s4 e3 e4 hLr hKr
      go_wp2_with fail
      refine (read_all _ _ _ _ 3 _ HD.out).mono ?_
      rintro e w3 ⟨rfl, b3⟩
      have HD3 := Lib.hid (HD.out.below b3)
      have B3 := Lib.hid b3
      rw [S.out.1, S.out.2.2.1]
      clear b3
      go_wp2_with fail
      refine (read_all _ _ _ _ 4 _ HD3.out).mono ?_
      rintro e w4 ⟨rfl, b4⟩
      have B4 := Lib.hid b4
      rw [S.out.2.1, S.out.2.2.2]
      clear b4
      go_wp2_with fail
      refine (new_bad 7 (.inl (by decide)) _).mono ?_
      rintro e w' ⟨rfl, rfl⟩
      go_wp2
      go_ret
      have hz := HZ1.out
      have hw2 := HC.out.below (B := w.heap.size) (by have := HB2.out.size; omega) (fun k hk hh => by rcases hh with hh | hh | hh <;> omega)
      have hw1 := (HB1.out.trans (HB2.out.mono (by omega))).trans hw2
      exact ⟨rfl, hw1.trans ((B3.out.mono hw1.size).trans (B4.out.mono (Nat.le_trans hw1.size B3.out.size)))⟩
end Go.Proofs.Ytdedbbbgpjhjhac.Dv
