/- A device that no call made: nothing befalls it. -/
import Derived.Test.YtdedbbbgpjhjhacDevF
namespace Go.Proofs.Ytdedbbbgpjhjhac.Dv
open Go.RowKit
open Mem

inductive Nob (w : World) : Option Addr → Prop where
  | none : Nob w none
  | bare (q : Nat) : Has w q 69 #[.bool false, .int .i64 0, .int .i64 0, .map none, .map none] → Nob w (some ⟨q, 0, none⟩)
theorem Nob.below {w w' : World} {e : Option Addr} (h : Nob w e) (hb : Below w.heap.size w w') : Nob w' e := by
  cases h with
  | none => exact .none
  | bare q h => exact .bare q (h.below hb)
theorem made_no (e : Option Addr) (w : World) (h : Nob w e) :
    Calls Try.prog 40 #[.pointer e] w fun x w' => x = .returned (.bool false) ∧ w = w' := by
  cases h with
  | none =>
    go_enter Try.func40, Try.ntmps40
    go_wp2
    go_ret
    exact ⟨rfl, rfl⟩
  | bare q h =>
    have c2 := Has.at_ h 2
    simp at c2
    go_enter Try.func40, Try.ntmps40
    go_wp2
    go_ret
    exact ⟨rfl, rfl⟩
theorem ready_no (e : Option Addr) (w : World) (h : Nob w e) :
    Calls Try.prog 43 #[.pointer e] w fun x w' => x = .returned (.int .i64 200) ∧ w = w' := by
  go_enter Try.func43, Try.ntmps43
  go_wp2_with fail
  refine (made_no e _ h).mono ?_
  rintro x w' ⟨rfl, rfl⟩
  go_wp2
  go_ret
  exact ⟨rfl, rfl⟩
theorem write_no (e : Option Addr) (i : Int) (s : ByteArray) (w : World) (h : Nob w e) :
    Calls Try.prog 31 #[.pointer e, .int .i64 i, .string s] w fun x w' => x = .returned (.int .i64 200) ∧ w = w' := by
  go_enter Try.func31, Try.ntmps31
  go_wp2_with fail
  refine (ready_no e _ h).mono ?_
  rintro x w' ⟨rfl, rfl⟩
  go_wp2
  go_ret
  exact ⟨rfl, rfl⟩
theorem flush_no (e : Option Addr) (w : World) (h : Nob w e) :
    Calls Try.prog 32 #[.pointer e] w fun x w' => x = .returned (.int .i64 200) ∧ w = w' := by
  go_enter Try.func32, Try.ntmps32
  go_wp2_with fail
  refine (ready_no e _ h).mono ?_
  rintro x w' ⟨rfl, rfl⟩
  go_wp2
  go_ret
  exact ⟨rfl, rfl⟩
theorem read_no (e : Option Addr) (i : Int) (w : World) (h : Nob w e) :
    Calls Try.prog 21 #[.pointer e, .int .i64 i] w fun x w' => x = .returned (.tuple #[.string ⟨#[]⟩, .int .i64 200]) ∧ w = w' := by
  go_enter Try.func21, Try.ntmps21
  go_wp2_with fail
  refine (ready_no e _ h).mono ?_
  rintro x w' ⟨rfl, rfl⟩
  go_wp2
  go_ret2
  exact ⟨rfl, rfl⟩
theorem fuse_no (e : Option Addr) (n : Int) (w : World) (h : Nob w e) :
    Calls Try.prog 30 #[.pointer e, .int .i64 n] w fun x w' => x = .returned (.int .i64 200) ∧ w = w' := by
  go_enter Try.func30, Try.ntmps30
  go_wp2_with fail
  refine (ready_no e _ h).mono ?_
  rintro x w' ⟨rfl, rfl⟩
  go_wp2
  go_ret
  exact ⟨rfl, rfl⟩
theorem crash_no (e : Option Addr) (v : Value) (w : World) (h : Nob w e) :
    Calls Try.prog 26 #[.pointer e, v] w fun x w' => x = .returned (.int .i64 200) ∧ w = w' := by
  go_enter Try.func26, Try.ntmps26
  go_wp2_with fail
  refine (made_no e _ h).mono ?_
  rintro x w' ⟨rfl, rfl⟩
  go_wp2
  go_ret
  exact ⟨rfl, rfl⟩
theorem start_no (e : Option Addr) (w : World) (h : Nob w e) :
    Calls Try.prog 29 #[.pointer e] w fun x w' => x = .returned (.int .i64 200) ∧ w = w' := by
  go_enter Try.func29, Try.ntmps29
  go_wp2_with fail
  refine (made_no e _ h).mono ?_
  rintro x w' ⟨rfl, rfl⟩
  go_wp2
  go_ret
  exact ⟨rfl, rfl⟩
theorem size_no (e : Option Addr) (w : World) (h : Nob w e) :
    Calls Try.prog 20 #[.pointer e] w fun x w' => x = .returned (.int .i64 0) ∧ w = w' := by
  go_enter Try.func20, Try.ntmps20
  go_wp2_with fail
  refine (made_no e _ h).mono ?_
  rintro x w' ⟨rfl, rfl⟩
  go_wp2
  go_ret
  exact ⟨rfl, rfl⟩
theorem dirty_no (e : Option Addr) (w : World) (h : Nob w e) :
    Calls Try.prog 18 #[.pointer e] w fun x w' => x = .returned (.slice none 0 0) ∧ w = w' := by
  go_enter Try.func18, Try.ntmps18
  go_wp2_with fail
  refine (made_no e _ h).mono ?_
  rintro x w' ⟨rfl, rfl⟩
  go_wp2
  go_ret
  exact ⟨rfl, rfl⟩
theorem clone_no (e : Option Addr) (w : World) (h : Nob w e) :
    Calls Try.prog 25 #[.pointer e] w fun x w' => x = .returned (.pointer none) ∧ w = w' := by
  go_enter Try.func25, Try.ntmps25
  go_wp2_with fail
  refine (made_no e _ h).mono ?_
  rintro x w' ⟨rfl, rfl⟩
  go_wp2
  go_ret
  exact ⟨rfl, rfl⟩
set_option maxRecDepth 100000 in
set_option maxHeartbeats 2000000 in
theorem does_no (a : Option Addr) (op i : Int) (s : ByteArray) (A : Option Addr) (n c : Nat) (w : World) (h : Nob w a) :
    Calls Try.prog 15 #[.pointer a, .agg #[.int .i64 op, .int .i64 i, .string s, .slice A n c]] w fun e w' =>
      e = .returned (.tuple #[.string ⟨#[]⟩, .int .i64 200]) ∧ Below w.heap.size w w' := by
  have hb1 : Below w.heap.size w (w.alloc (.cells #[.int .i64 op, .int .i64 i, .string s, .slice A n c] 34)) := (Below.refl _ _).alloc (Nat.le_refl _) _
  have h1 := h.below hb1
  have HC := Lib.hid (crash_no a (.slice A n c) _ h1)
  have HW := Lib.hid (write_no a i s _ h1)
  have HF := Lib.hid (flush_no a _ h1)
  have HR := Lib.hid (read_no a i _ h1)
  have HU := Lib.hid (fuse_no a i _ h1)
  have HS := Lib.hid (start_no a _ h1)
  have HB := Lib.hid hb1
  clear h h1 hb1
  generalize hm : bits .and .i64 op 7 = m
  by_cases k0 : m = 0
  · subst k0
    go_enter Try.func15, Try.ntmps15
    go_wp2_with fail
    refine HW.out.mono ?_
    rintro e w1 ⟨rfl, rfl⟩
    go_wp2
    go_ret2
    exact ⟨rfl, HB.out⟩
  · have t0 : (m == 0) = false := beq_eq_false_iff_ne.2 k0
    by_cases k1 : m = 1
    · subst k1
      go_enter Try.func15, Try.ntmps15
      go_wp2_with fail
      refine HW.out.mono ?_
      rintro e w1 ⟨rfl, rfl⟩
      go_wp2
      go_ret2
      exact ⟨rfl, HB.out⟩
    · have t1 : (m == 1) = false := beq_eq_false_iff_ne.2 k1
      by_cases k2 : m = 2
      · subst k2
        go_enter Try.func15, Try.ntmps15
        go_wp2_with fail
        refine HW.out.mono ?_
        rintro e w1 ⟨rfl, rfl⟩
        go_wp2
        go_ret2
        exact ⟨rfl, HB.out⟩
      · have t2 : (m == 2) = false := beq_eq_false_iff_ne.2 k2
        by_cases k3 : m = 3
        · subst k3
          go_enter Try.func15, Try.ntmps15
          go_wp2_with fail
          refine HF.out.mono ?_
          rintro e w1 ⟨rfl, rfl⟩
          go_wp2
          go_ret2
          exact ⟨rfl, HB.out⟩
        · have t3 : (m == 3) = false := beq_eq_false_iff_ne.2 k3
          by_cases k4 : m = 4
          · subst k4
            go_enter Try.func15, Try.ntmps15
            go_wp2_with fail
            refine HR.out.mono ?_
            rintro e w1 ⟨rfl, rfl⟩
            go_wp2
            go_ret2
            exact ⟨rfl, HB.out⟩
          · have t4 : (m == 4) = false := beq_eq_false_iff_ne.2 k4
            by_cases k5 : m = 5
            · subst k5
              go_enter Try.func15, Try.ntmps15
              go_wp2_with fail
              refine HU.out.mono ?_
              rintro e w1 ⟨rfl, rfl⟩
              go_wp2
              go_ret2
              exact ⟨rfl, HB.out⟩
            · have t5 : (m == 5) = false := beq_eq_false_iff_ne.2 k5
              by_cases k6 : m = 6
              · subst k6
                go_enter Try.func15, Try.ntmps15
                go_wp2_with fail
                refine HC.out.mono ?_
                rintro e w1 ⟨rfl, rfl⟩
                go_wp2
                go_ret2
                exact ⟨rfl, HB.out⟩
              · have t6 : (m == 6) = false := beq_eq_false_iff_ne.2 k6
                clear k0 k1 k2 k3 k4 k5 k6
                go_enter Try.func15, Try.ntmps15
                go_wp2_with fail
                refine HS.out.mono ?_
                rintro e w1 ⟨rfl, rfl⟩
                go_wp2
                go_ret2
                exact ⟨rfl, HB.out⟩
end Go.Proofs.Ytdedbbbgpjhjhac.Dv
