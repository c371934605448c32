/- The walk of the law StoreNobody. -/
import Derived.Test.YtidkckapjelbmaaSuE
namespace Go.Proofs.Ytidkckapjelbmaa.Sto
open Go.RowKit
open Oct (Has Chg)
open Rws
open Dv (DoV)

/-- One thing as a row of rows: blocks of the thing, of the row, of the rows. -/
theorem do_row (w w' : World) (x : DoC) (b : Nat) (h : Fits w x) (hb : Below w.heap.size w w') (hc : Has w' b 35 #[.int .i64 x.v.op, .int .i64 x.v.i, .slice x.A x.n x.c, .string x.v.s]) : DoRow w' (some ⟨b, 0, none⟩) 1 [x] :=
  ⟨rfl, fun _ => ⟨b, 0, rfl, hc.bound, fun i hi => by
    obtain rfl : i = 0 := by simpa using hi
    exact ⟨Has.at_ hc 0, Has.at_ hc 1, Has.at_ hc 2, Has.at_ hc 3⟩⟩, fun y hy => by
    rw [List.mem_singleton.1 hy]
    exact h.below hb⟩
theorem do_list (w : World) (A : Option Addr) (n c b : Nat) (xs : List DoC) (h : DoRow w A n xs) (hn : n ≤ 9223372036854775807) (hc : Has w b 22 #[.slice A n c]) : ListRow w (some ⟨b, 0, none⟩) 1 [⟨A, n, c, xs⟩] :=
  ⟨rfl, fun _ => ⟨b, 0, rfl, hc.bound, fun i hi => by
    obtain rfl : i = 0 := by simpa using hi
    exact Has.at_ hc 0⟩, fun y hy => by
    rw [List.mem_singleton.1 hy]
    exact ⟨h, hn⟩⟩
set_option maxRecDepth 100000 in
set_option maxHeartbeats 4000000 in
theorem nob_any (x : DoC) (w : World) (h : Fits w x) :
    Calls Try.prog 4 #[.agg #[.int .i64 x.v.op, .int .i64 x.v.i, .slice x.A x.n x.c, .string x.v.s]] w fun e w' => e = .returned (.bool true) ∧ Below w.heap.size w w' := by
  obtain ⟨W3, hW3⟩ : ∃ W3 : World, W3 = ((w.alloc (.cells #[.int .i64 x.v.op, .int .i64 x.v.i, .slice x.A x.n x.c, .string x.v.s] 35)).alloc (.cells #[.int .i64 x.v.op, .int .i64 x.v.i, .slice x.A x.n x.c, .string x.v.s] 35)).alloc (.cells #[.slice (some ⟨w.heap.size + 1, 0, none⟩) 1 1] 22) := ⟨_, rfl⟩
  have b3 : Below w.heap.size w W3 := by rw [hW3]; exact (((Below.refl _ w).alloc (Nat.le_refl _) _).alloc (by simp) _).alloc (by simp; omega) _
  have h0 : Has W3 w.heap.size 35 #[.int .i64 x.v.op, .int .i64 x.v.i, .slice x.A x.n x.c, .string x.v.s] := by rw [hW3]; exact ((Has.fresh w _ _).past _).past _
  have h1 : Has W3 (w.heap.size + 1) 35 #[.int .i64 x.v.op, .int .i64 x.v.i, .slice x.A x.n x.c, .string x.v.s] := by
    have h := Has.fresh (w.alloc (.cells #[.int .i64 x.v.op, .int .i64 x.v.i, .slice x.A x.n x.c, .string x.v.s] 35)) 35 #[.int .i64 x.v.op, .int .i64 x.v.i, .slice x.A x.n x.c, .string x.v.s]
    rw [World.size_alloc] at h
    rw [hW3]
    exact h.past _
  have h2 : Has W3 (w.heap.size + 1 + 1) 22 #[.slice (some ⟨w.heap.size + 1, 0, none⟩) 1 1] := by
    have h := Has.fresh ((w.alloc (.cells #[.int .i64 x.v.op, .int .i64 x.v.i, .slice x.A x.n x.c, .string x.v.s] 35)).alloc (.cells #[.int .i64 x.v.op, .int .i64 x.v.i, .slice x.A x.n x.c, .string x.v.s] 35)) 22 #[.slice (some ⟨w.heap.size + 1, 0, none⟩) 1 1]
    rw [World.size_alloc, World.size_alloc] at h
    rw [hW3]
    exact h
  have HX := Lib.hid (do_row w W3 x _ h b3 h1)
  have HL := Lib.hid (do_list W3 _ 1 1 _ _ HX.out (by decide) h2)
  have H0 := Lib.hid h0
  have HB3 := Lib.hid b3
  clear h h0 h1 h2 b3
  go_enter Try.func4, Try.ntmps4
  go_wp2_with fail
  rw [← hW3]
  clear hW3
  refine (short_any _ 1 1 _ (by decide) _ HL.out).mono ?_
  rintro e w1 ⟨⟨t, rfl⟩, b1⟩
  have HB1 := Lib.hid (HB3.out.trans (b1.mono HB3.out.size))
  have H1 := Lib.hid (has_blw H0.out b1)
  clear b1
  cases t with
  | false =>
    go_wp2_with fail
    refine (awake_any _).mono ?_
    rintro e w2 ⟨rfl, b2⟩
    go_wp2
    go_ret
    exact ⟨rfl, HB1.out.trans (b2.mono HB1.out.size)⟩
  | true =>
    have k0 := Has.at_ H1.out 0
    have k1 := Has.at_ H1.out 1
    have k2 := Has.at_ H1.out 2
    have k3 := Has.at_ H1.out 3
    simp at k0 k1 k2 k3
    go_wp2_with fail
    refine (op_any _ _ _ _ _).mono ?_
    rintro e w4 ⟨rfl, b4⟩
    have HB2 := Lib.hid (HB1.out.trans (b4.mono HB1.out.size))
    have H2 := Lib.hid (has_blw H1.out b4)
    clear b4 k0 k1 k2 k3
    by_cases g10 : 10 < opM x.v.op
    · have HB1 := HB2
      go_wp2_with fail
      refine (awake_any _).mono ?_
      rintro e w2 ⟨rfl, b2⟩
      go_wp2
      go_ret
      exact ⟨rfl, HB1.out.trans (b2.mono HB1.out.size)⟩
    · have k0 := Has.at_ H2.out 0
      have k1 := Has.at_ H2.out 1
      have k2 := Has.at_ H2.out 2
      have k3 := Has.at_ H2.out 3
      simp at k0 k1 k2 k3
      have G10 := Lib.hid g10
      go_wp2_with fail
      refine (op_any _ _ _ _ _).mono ?_
      rintro e w5 ⟨rfl, b5⟩
      have HB1 := Lib.hid (HB2.out.trans (b5.mono HB2.out.size))
      have H1 := Lib.hid (has_blw H2.out b5)
      clear b5 k0 k1 k2 k3
      by_cases g8 : opM x.v.op = 8
      · rw [g8]
        go_wp2_with fail
        refine (awake_any _).mono ?_
        rintro e w2 ⟨rfl, b2⟩
        go_wp2
        go_ret
        exact ⟨rfl, HB1.out.trans (b2.mono HB1.out.size)⟩
      · have G8 := Lib.hid g8
        have e8 : (opM x.v.op == 8) = false := beq_eq_false_iff_ne.2 g8
        clear g10 g8
        obtain ⟨W5, hW5⟩ : ∃ W5 : World, W5 = (w5.alloc (.cells #[.int .i64 0, .int .i64 0, .string ⟨#[]⟩, .pointer none, .map none, .map none] 55)).alloc (.cells #[.pointer none, .pointer (some ⟨w5.heap.size, 0, none⟩)] 31) := ⟨_, rfl⟩
        have h5 : Has W5 w5.heap.size 55 #[.int .i64 0, .int .i64 0, .string ⟨#[]⟩, .pointer none, .map none, .map none] := by rw [hW5]; exact (Has.fresh w5 _ _).past _
        have h6 : Has W5 (w5.heap.size + 1) 31 #[.pointer none, .pointer (some ⟨w5.heap.size, 0, none⟩)] := by
          have h := Has.fresh (w5.alloc (.cells #[.int .i64 0, .int .i64 0, .string ⟨#[]⟩, .pointer none, .map none, .map none] 55)) 31 #[.pointer none, .pointer (some ⟨w5.heap.size, 0, none⟩)]
          rw [World.size_alloc] at h
          rw [hW5]
          exact h
        have b5 : Below w5.heap.size w5 W5 := by rw [hW5]; exact ((Below.refl _ w5).alloc (Nat.le_refl _) _).alloc (by simp) _
        have H5 := Lib.hid h5
        have H6 := Lib.hid h6
        have HB5 := Lib.hid (HB1.out.trans (b5.mono HB1.out.size))
        have H7 := Lib.hid (has_blw H1.out b5)
        clear h5 h6 b5
        go_wp2
        rw [← hW5]
        clear hW5 e8
        go_loopw [38] (fun i wr => ∃ j : Nat, j ≤ 2 ∧ i = .int .i64 j ∧ Below W5.heap.size W5 wr) (fun i _ => 2 - (intOf i).toNat)
        case atStart => exact ⟨0, Nat.zero_le _, rfl, Below.refl _ _⟩
        case round =>
          obtain ⟨j, hj, rfl, hb⟩ := hrel
          have h5 := has_blw H5.out hb
          have h6 := has_blw H6.out hb
          have h7 := has_blw H7.out hb
          have k0 := Has.at_ h7 0
          have k1 := Has.at_ h7 1
          have k2 := Has.at_ h7 2
          have k3 := Has.at_ h7 3
          simp at k0 k1 k2 k3
          have H7L := Lib.hid h7
          have HB4 := Lib.hid hb
          have HN := Lib.hid (Nob.bare _ h5)
          clear hb h5 h7
          rcases (show j = 0 ∨ j = 1 ∨ j = 2 by omega) with rfl | rfl | rfl
          · have c0 := Has.at_ h6 0
            simp at c0
            clear h6
            go_wp2_with fail
            refine (does_no (none) x.v.op x.v.i x.v.s x.A x.n x.c _ (Nob.none : Nob wr none) (by have := G10.out; omega) G8.out).mono ?_
            rintro e w3 ⟨rfl, b3⟩
            have b4 := b3.alloc b3.size (.cells #[.slice none 0 0, .string ⟨#[]⟩] 38)
            have hn4 := Lib.hid (Nob.below (Nob.none : Nob wr none) b4)
            have h9 := has_blw H7L.out b4
            have n1 := Has.at_ h9 1
            simp at n1
            have HB6 := Lib.hid (HB4.out.trans (b4.mono HB4.out.size))
            clear b3 b4 h9
            go_wp2_with fail
            refine (root_no (none) _ hn4.out).mono ?_
            rintro e w' ⟨rfl, rfl⟩
            go_wp2_with fail
            refine (refs_no (none) x.v.i _ hn4.out).mono ?_
            rintro e w' ⟨rfl, rfl⟩
            go_wp2_with fail
            refine (live_no (none) _ hn4.out).mono ?_
            rintro e w' ⟨rfl, rfl⟩
            go_wp2_with fail
            refine (free_no (none) _ hn4.out).mono ?_
            rintro e w' ⟨rfl, rfl⟩
            go_wp2_with fail
            refine (sweep_no (none) _ hn4.out).mono ?_
            rintro e w' ⟨rfl, rfl⟩
            go_wp2
            go_roundw
            case rel => exact ⟨1, by omega, rfl, HB6.out⟩
            case measure => simp [intOf]
          · have c0 := Has.at_ h6 1
            simp at c0
            clear h6
            go_wp2_with fail
            refine (does_no (some ⟨w5.heap.size, 0, none⟩) x.v.op x.v.i x.v.s x.A x.n x.c _ HN.out (by have := G10.out; omega) G8.out).mono ?_
            rintro e w3 ⟨rfl, b3⟩
            have b4 := b3.alloc b3.size (.cells #[.slice none 0 0, .string ⟨#[]⟩] 38)
            have hn4 := Lib.hid (Nob.below HN.out b4)
            have h9 := has_blw H7L.out b4
            have n1 := Has.at_ h9 1
            simp at n1
            have HB6 := Lib.hid (HB4.out.trans (b4.mono HB4.out.size))
            clear b3 b4 h9
            go_wp2_with fail
            refine (root_no (some ⟨w5.heap.size, 0, none⟩) _ hn4.out).mono ?_
            rintro e w' ⟨rfl, rfl⟩
            go_wp2_with fail
            refine (refs_no (some ⟨w5.heap.size, 0, none⟩) x.v.i _ hn4.out).mono ?_
            rintro e w' ⟨rfl, rfl⟩
            go_wp2_with fail
            refine (live_no (some ⟨w5.heap.size, 0, none⟩) _ hn4.out).mono ?_
            rintro e w' ⟨rfl, rfl⟩
            go_wp2_with fail
            refine (free_no (some ⟨w5.heap.size, 0, none⟩) _ hn4.out).mono ?_
            rintro e w' ⟨rfl, rfl⟩
            go_wp2_with fail
            refine (sweep_no (some ⟨w5.heap.size, 0, none⟩) _ hn4.out).mono ?_
            rintro e w' ⟨rfl, rfl⟩
            go_wp2
            go_roundw
            case rel => exact ⟨2, by omega, rfl, HB6.out⟩
            case measure => simp [intOf]
          · clear h6
            go_wp2_with fail
            refine (open_no _).mono ?_
            rintro e w' ⟨rfl, rfl⟩
            go_wp2_with fail
            refine (format_no _ _).mono ?_
            rintro e w' ⟨rfl, rfl⟩
            go_wp2_with fail
            refine (awake_any _).mono ?_
            rintro e w2 ⟨rfl, b2⟩
            go_wp2
            go_ret
            have hw := HB5.out.trans (HB4.out.mono HB5.out.size)
            exact ⟨rfl, hw.trans (b2.mono hw.size)⟩
theorem nob_walk (w : World) (a0 : DoC) (w0 : Fits w a0) :
    Calls Try.prog 4 #[.agg #[.int .i64 a0.v.op, .int .i64 a0.v.i, .slice a0.A a0.n a0.c, .string a0.v.s]] w fun e w' => e = .returned (.bool true) ∧ Below w.heap.size w w' := nob_any a0 w w0
end Go.Proofs.Ytidkckapjelbmaa.Sto
