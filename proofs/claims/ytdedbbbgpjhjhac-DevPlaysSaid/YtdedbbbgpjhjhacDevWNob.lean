/- The walk of the law DevNobody. -/
import Derived.Test.YtdedbbbgpjhjhacOpenDo
namespace Go.Proofs.Ytdedbbbgpjhjhac.Dv
open Go.RowKit
open Mem
open Rws

/-- One thing as a row of rows: blocks of the thing, of the row, of the rows. -/
theorem one_row (w w' : World) (x : DoC) (b : Nat) (h : Fits w x) (hb : Below w.heap.size w w') (hc : Has w' b 34 #[.int .i64 x.v.op, .int .i64 x.v.i, .string x.v.s, .slice x.A x.n x.c]) : DoRow w' (some ⟨b, 0, none⟩) 1 [x] :=
  ⟨rfl, fun _ => ⟨b, 0, rfl, hc.bound, fun i hi => by
    obtain rfl : i = 0 := by simpa using hi
    exact ⟨Has.at_ hc 0, Has.at_ hc 1, Has.at_ hc 2, Has.at_ hc 3⟩⟩, fun y hy => by
    rw [List.mem_singleton.1 hy]
    exact h.below hb⟩
theorem one_list (w : World) (A : Option Addr) (n c b : Nat) (xs : List DoC) (h : DoRow w A n xs) (hn : n ≤ 9223372036854775807) (hc : Has w b 22 #[.slice A n c]) : ListRow w (some ⟨b, 0, none⟩) 1 [⟨A, n, c, xs⟩] :=
  ⟨rfl, fun _ => ⟨b, 0, rfl, hc.bound, fun i hi => by
    obtain rfl : i = 0 := by simpa using hi
    exact Has.at_ hc 0⟩, fun y hy => by
    rw [List.mem_singleton.1 hy]
    exact ⟨h, hn⟩⟩
set_option maxRecDepth 100000 in
set_option maxHeartbeats 2000000 in
theorem nob_any (x : DoC) (w : World) (h : Fits w x) :
    Calls Try.prog 9 #[.agg #[.int .i64 x.v.op, .int .i64 x.v.i, .string x.v.s, .slice x.A x.n x.c]] w fun e w' => e = .returned (.bool true) ∧ Below w.heap.size w w' := by
  obtain ⟨W3, hW3⟩ : ∃ W3 : World, W3 = ((w.alloc (.cells #[.int .i64 x.v.op, .int .i64 x.v.i, .string x.v.s, .slice x.A x.n x.c] 34)).alloc (.cells #[.int .i64 x.v.op, .int .i64 x.v.i, .string x.v.s, .slice x.A x.n x.c] 34)).alloc (.cells #[.slice (some ⟨w.heap.size + 1, 0, none⟩) 1 1] 22) := ⟨_, rfl⟩
  have b3 : Below w.heap.size w W3 := by rw [hW3]; exact (((Below.refl _ w).alloc (Nat.le_refl _) _).alloc (by simp) _).alloc (by simp; omega) _
  have h0 : Has W3 w.heap.size 34 #[.int .i64 x.v.op, .int .i64 x.v.i, .string x.v.s, .slice x.A x.n x.c] := by rw [hW3]; exact ((Has.fresh w _ _).past _).past _
  have h1 : Has W3 (w.heap.size + 1) 34 #[.int .i64 x.v.op, .int .i64 x.v.i, .string x.v.s, .slice x.A x.n x.c] := by
    have h := Has.fresh (w.alloc (.cells #[.int .i64 x.v.op, .int .i64 x.v.i, .string x.v.s, .slice x.A x.n x.c] 34)) 34 #[.int .i64 x.v.op, .int .i64 x.v.i, .string x.v.s, .slice x.A x.n x.c]
    rw [World.size_alloc] at h
    rw [hW3]
    exact h.past _
  have h2 : Has W3 (w.heap.size + 1 + 1) 22 #[.slice (some ⟨w.heap.size + 1, 0, none⟩) 1 1] := by
    have h := Has.fresh ((w.alloc (.cells #[.int .i64 x.v.op, .int .i64 x.v.i, .string x.v.s, .slice x.A x.n x.c] 34)).alloc (.cells #[.int .i64 x.v.op, .int .i64 x.v.i, .string x.v.s, .slice x.A x.n x.c] 34)) 22 #[.slice (some ⟨w.heap.size + 1, 0, none⟩) 1 1]
    rw [World.size_alloc, World.size_alloc] at h
    rw [hW3]
    exact h
  have z3 : W3.heap.size = w.heap.size + 3 := by rw [hW3]; simp
  have HX := Lib.hid (one_row w W3 x _ h b3 h1)
  have HL := Lib.hid (one_list W3 _ 1 1 _ _ HX.out (by decide) h2)
  have H0 := Lib.hid h0
  have HB3 := Lib.hid b3
  have Z3 := Lib.hid z3
  clear h h0 h1 h2 b3 z3
  go_enter Try.func9, Try.ntmps9
  go_wp2_with fail
  rw [← hW3]
  clear hW3
  refine (short_any _ 1 1 _ (by decide) _ HL.out).mono ?_
  rintro e w1 ⟨⟨t, rfl⟩, b1⟩
  have HB1 := Lib.hid (HB3.out.trans (b1.mono HB3.out.size))
  have H1 := Lib.hid (H0.out.below b1)
  have Z1 := Lib.hid b1.size
  clear b1
  cases t with
  | false =>
    go_wp2_with fail
    refine (awake_any _).mono ?_
    rintro e w2 ⟨rfl, b2⟩
    go_wp2
    go_ret
    exact ⟨rfl, HB1.out.trans (b2.mono HB1.out.size)⟩
  | true =>
    obtain ⟨W5, hW5⟩ : ∃ W5 : World, W5 = (w1.alloc (.cells #[.bool false, .int .i64 0, .int .i64 0, .map none, .map none] 69)).alloc (.cells #[.pointer none, .pointer (some ⟨w1.heap.size, 0, none⟩)] 25) := ⟨_, rfl⟩
    have h5 : Has W5 w1.heap.size 69 #[.bool false, .int .i64 0, .int .i64 0, .map none, .map none] := by rw [hW5]; exact (Has.fresh w1 _ _).past _
    have h6 : Has W5 (w1.heap.size + 1) 25 #[.pointer none, .pointer (some ⟨w1.heap.size, 0, none⟩)] := by
      have h := Has.fresh (w1.alloc (.cells #[.bool false, .int .i64 0, .int .i64 0, .map none, .map none] 69)) 25 #[.pointer none, .pointer (some ⟨w1.heap.size, 0, none⟩)]
      rw [World.size_alloc] at h
      rw [hW5]
      exact h
    have b5 : Below w1.heap.size w1 W5 := by rw [hW5]; exact ((Below.refl _ w1).alloc (Nat.le_refl _) _).alloc (by simp) _
    have H5 := Lib.hid h5
    have H6 := Lib.hid h6
    have HB5 := Lib.hid (HB1.out.trans (b5.mono HB1.out.size))
    have H7 := Lib.hid (H1.out.below b5)
    clear h5 h6 b5
    go_wp2
    rw [← hW5]
    clear hW5
    go_loopw [17] (fun i wr => ∃ j : Nat, j ≤ 2 ∧ i = .int .i64 j ∧ Below W5.heap.size W5 wr) (fun i _ => 2 - (intOf i).toNat)
    case atStart => exact ⟨0, Nat.zero_le _, rfl, Below.refl _ _⟩
    case round =>
      obtain ⟨j, hj, rfl, hb⟩ := hrel
      have h5 := H5.out.below hb
      have h6 := H6.out.below hb
      have h7 := H7.out.below hb
      have k0 := Has.at_ h7 0
      have k1 := Has.at_ h7 1
      have k2 := Has.at_ h7 2
      have k3 := Has.at_ h7 3
      simp at k0 k1 k2 k3
      have HB4 := Lib.hid hb
      have HN := Lib.hid (Nob.bare _ h5)
      clear hb h5 h7
      rcases (show j = 0 ∨ j = 1 ∨ j = 2 by omega) with rfl | rfl | rfl
      · have c0 := Has.at_ h6 0
        simp at c0
        clear h6
        go_wp2_with fail
        refine (does_no none _ _ _ _ _ _ _ (.none)).mono ?_
        rintro e w3 ⟨rfl, b3⟩
        have hn3 := Lib.hid ((Nob.none : Nob wr none).below b3)
        go_wp2_with fail
        refine (size_no none _ hn3.out).mono ?_
        rintro e w' ⟨rfl, rfl⟩
        go_wp2_with fail
        refine (dirty_no none _ hn3.out).mono ?_
        rintro e w' ⟨rfl, rfl⟩
        go_wp2_with fail
        refine (clone_no none _ hn3.out).mono ?_
        rintro e w' ⟨rfl, rfl⟩
        go_wp2
        go_roundw
        case rel => exact ⟨1, by omega, rfl, HB4.out.trans (b3.mono HB4.out.size)⟩
        case measure => simp [intOf]
      · have c0 := Has.at_ h6 1
        simp at c0
        clear h6
        go_wp2_with fail
        refine (does_no (some ⟨w1.heap.size, 0, none⟩) _ _ _ _ _ _ _ HN.out).mono ?_
        rintro e w3 ⟨rfl, b3⟩
        have hn3 := Lib.hid (HN.out.below b3)
        go_wp2_with fail
        refine (size_no (some ⟨w1.heap.size, 0, none⟩) _ hn3.out).mono ?_
        rintro e w' ⟨rfl, rfl⟩
        go_wp2_with fail
        refine (dirty_no (some ⟨w1.heap.size, 0, none⟩) _ hn3.out).mono ?_
        rintro e w' ⟨rfl, rfl⟩
        go_wp2_with fail
        refine (clone_no (some ⟨w1.heap.size, 0, none⟩) _ hn3.out).mono ?_
        rintro e w' ⟨rfl, rfl⟩
        go_wp2
        go_roundw
        case rel => exact ⟨2, by omega, rfl, HB4.out.trans (b3.mono HB4.out.size)⟩
        case measure => simp [intOf]
      · clear h6
        go_wp2_with fail
        refine (awake_any _).mono ?_
        rintro e w2 ⟨rfl, b2⟩
        go_wp2
        go_ret
        have hw := HB5.out.trans (HB4.out.mono HB5.out.size)
        exact ⟨rfl, hw.trans (b2.mono hw.size)⟩
theorem nob_walk (w : World) (a0 : DoC) (w0 : Fits w a0) :
    Calls Try.prog 9 #[.agg #[.int .i64 a0.v.op, .int .i64 a0.v.i, .string a0.v.s, .slice a0.A a0.n a0.c]] w fun e w' => e = .returned (.bool true) ∧ Below w.heap.size w w' := nob_any a0 w w0
end Go.Proofs.Ytdedbbbgpjhjhac.Dv
