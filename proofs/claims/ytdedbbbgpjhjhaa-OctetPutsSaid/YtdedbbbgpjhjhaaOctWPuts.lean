/- The walk of the law OctetPuts. -/
import Derived.Test.YtdedbbbgpjhjhaaOctRTxt
namespace Go.Proofs.Ytdedbbbgpjhjhaa.Oct
open Go.RowKit

theorem Owns.lens {w : World} {B : Nat} {v : Value} {l : List UInt8} (h : Owns w B v l) : ∃ A cap, v = .slice A l.length cap ∧ RowB w A l.length l ∧ (A = none → l.length = 0 ∧ cap = 0) := by
  obtain ⟨A, cap, rfl, h0⟩ := h.slice
  exact ⟨A, cap, rfl, h.row rfl, h0⟩
theorem puts_big (A : Option Addr) (n c : Nat) (x k : Int) (s : ByteArray) (hb : 8192 < n) (w : World) :
    Calls Try.prog 3 #[.slice A n c, .int .i64 x, .int .i64 k, .string s] w fun e w' => e = .returned (.bool true) ∧ Below w.heap.size w w' := by
  have g1 : 8192 < (n : Int) := by omega
  clear hb
  go_enter Try.func3, Try.ntmps3
  go_wp2_with fail
  refine (awake_any _).mono ?_
  rintro e w' ⟨rfl, hb⟩
  go_wp2
  go_ret
  exact ⟨rfl, hb⟩
theorem puts_mid (A : Option Addr) (n c : Nat) (x k : Int) (s : ByteArray) (hb : n ≤ 8192) (h1 : 8192 < s.size) (h2 : s.size ≤ 65536) (w : World) :
    Calls Try.prog 3 #[.slice A n c, .int .i64 x, .int .i64 k, .string s] w fun e w' => e = .returned (.bool true) ∧ Below w.heap.size w w' := by
  have g1 : ¬ 8192 < (n : Int) := by omega
  have g2 : 8192 < (s.size : Int) := by omega
  have g3 : (s.size : Int) ≤ 65536 := by omega
  clear hb h1 h2
  go_enter Try.func3, Try.ntmps3
  go_wp2_with fail
  refine (awake_any _).mono ?_
  rintro e w' ⟨rfl, hb⟩
  go_wp2
  go_ret
  exact ⟨rfl, hb⟩
set_option maxRecDepth 100000 in
set_option maxHeartbeats 1000000 in
theorem puts_small (A : Option Addr) (n c : Nat) (x k : Int) (l : List UInt8) (s : ByteArray) (hb : n ≤ 8192) (h1 : s.size ≤ 8192) (w : World) (h : RowB w A n l) (h0 : A = none → n = 0 ∧ c = 0) :
    Calls Try.prog 3 #[.slice A n c, .int .i64 x, .int .i64 k, .string s] w fun e w' => e = .returned (.bool true) ∧ Below w.heap.size w w' := by
  have g1 : ¬ 8192 < (n : Int) := by omega
  have g2 : ¬ 8192 < (s.size : Int) := by omega
  have hl := h.1
  have HC := Lib.hid (clone_any A n c l (by omega) w h h0)
  have H := Lib.hid h
  have H0 := Lib.hid h0
  have HL := Lib.hid (show l.length ≤ 8192 by omega)
  have HN := Lib.hid hb
  clear h1 h h0 hl hb
  go_enter Try.func3, Try.ntmps3
  go_wp2_with fail
  refine HC.out.mono ?_
  rintro e w1 ⟨v1, rfl, o1, b1⟩
  clear HC
  obtain ⟨G, gc, rfl, rg, r0⟩ := o1.lens
  have HO1 := Lib.hid o1
  have R1 := Lib.hid rg
  have R0 := Lib.hid r0
  clear rg r0 o1 g1 g2
  go_wp2_with fail
  refine (put_any G l.length gc x k l (by have := HL.out; omega) _ R1.out R0.out).mono ?_
  rintro e w2 ⟨v2, rfl, o2, b2⟩
  have A2 := Lib.hid ((H.out.below b1).below b2)
  have G2 := Lib.hid (R1.out.below b2)
  have c2 := b1.trans (b2.mono b1.size)
  clear b2
  go_wp2_with fail
  refine (rput_any A n c x k l (by have := HN.out; omega) _ A2.out H0.out).mono ?_
  rintro e w3 ⟨v3, rfl, o3, b3⟩
  have o2' := o2.below b3
  have A3 := Lib.hid (A2.out.below b3)
  have G3 := Lib.hid (G2.out.below b3)
  have c3 := c2.trans (b3.mono c2.size)
  clear o2 A2 G2 b3 c2
  generalize (if k < 1 ∨ 8 < k then l else l ++ putL (IntKind.u64.wrap x).toNat k.toNat) = P at *
  obtain ⟨Q1, q1, rfl, rq1, _⟩ := o2'.lens
  obtain ⟨Q2, q2, rfl, rq2, _⟩ := o3.lens
  have t1 : (P == P) = true := by simp
  have E1 := Lib.hid rq1
  have E2 := Lib.hid rq2
  clear rq1 rq2 o2' o3
  go_wp2_with fail
  refine (equal_any Q1 Q2 _ _ q1 q2 P P _ E1.out E2.out).mono ?_
  rintro e w' ⟨rfl, rfl⟩
  rw [t1]
  clear E1 E2 t1
  go_wp2_with fail
  refine (ptext_any G l.length gc l s (by have := HL.out; omega) _ G3.out R0.out).mono ?_
  rintro e w4 ⟨v4, rfl, o4, b4⟩
  have A4 := Lib.hid (A3.out.below b4)
  have G4 := Lib.hid (G3.out.below b4)
  have c4 := c3.trans (b4.mono c3.size)
  clear A3 G3 b4 c3
  go_wp2_with fail
  refine (rptext_any A n c l s (by have := HN.out; omega) _ A4.out H0.out).mono ?_
  rintro e w5 ⟨v5, rfl, o5, b5⟩
  have o4' := o4.below b5
  have A5 := Lib.hid (A4.out.below b5)
  have G5 := Lib.hid (G4.out.below b5)
  have c5 := c4.trans (b5.mono c4.size)
  clear o4 A4 G4 b5 c4
  generalize l ++ headT (cutT s).length ++ cutT s = S at *
  obtain ⟨S1, s1, rfl, rs1, _⟩ := o4'.lens
  obtain ⟨S2, s2, rfl, rs2, _⟩ := o5.lens
  have t1 : (S == S) = true := by simp
  have E1 := Lib.hid rs1
  have E2 := Lib.hid rs2
  clear rs1 rs2 o4' o5
  go_wp2_with fail
  refine (equal_any S1 S2 _ _ s1 s2 S S _ E1.out E2.out).mono ?_
  rintro e w' ⟨rfl, rfl⟩
  rw [t1]
  clear E1 E2 t1
  have t1 : (l == l) = true := by simp
  go_wp2_with fail
  refine (equal_any G A _ _ gc c l l _ G5.out A5.out).mono ?_
  rintro e w' ⟨rfl, rfl⟩
  rw [t1]
  go_wp2_with fail
  refine (awake_any _).mono ?_
  rintro e w' ⟨rfl, b6⟩
  go_wp2
  go_ret
  exact ⟨rfl, c5.trans (b6.mono c5.size)⟩
set_option maxRecDepth 100000 in
set_option maxHeartbeats 1000000 in
theorem puts_great (A : Option Addr) (n c : Nat) (x k : Int) (l : List UInt8) (s : ByteArray) (hb : n ≤ 8192) (h1 : 65536 < s.size) (w : World) (h : RowB w A n l) (h0 : A = none → n = 0 ∧ c = 0) :
    Calls Try.prog 3 #[.slice A n c, .int .i64 x, .int .i64 k, .string s] w fun e w' => e = .returned (.bool true) ∧ Below w.heap.size w w' := by
  have g1 : ¬ 8192 < (n : Int) := by omega
  have g2 : 8192 < (s.size : Int) := by omega
  have g3 : ¬ (s.size : Int) ≤ 65536 := by omega
  have hl := h.1
  have HC := Lib.hid (clone_any A n c l (by omega) w h h0)
  have H := Lib.hid h
  have H0 := Lib.hid h0
  have HL := Lib.hid (show l.length ≤ 8192 by omega)
  have HN := Lib.hid hb
  clear h1 h h0 hl hb
  go_enter Try.func3, Try.ntmps3
  go_wp2_with fail
  refine HC.out.mono ?_
  rintro e w1 ⟨v1, rfl, o1, b1⟩
  clear HC
  obtain ⟨G, gc, rfl, rg, r0⟩ := o1.lens
  have HO1 := Lib.hid o1
  have R1 := Lib.hid rg
  have R0 := Lib.hid r0
  clear rg r0 o1 g1 g2 g3
  go_wp2_with fail
  refine (put_any G l.length gc x k l (by have := HL.out; omega) _ R1.out R0.out).mono ?_
  rintro e w2 ⟨v2, rfl, o2, b2⟩
  have A2 := Lib.hid ((H.out.below b1).below b2)
  have G2 := Lib.hid (R1.out.below b2)
  have c2 := b1.trans (b2.mono b1.size)
  clear b2
  go_wp2_with fail
  refine (rput_any A n c x k l (by have := HN.out; omega) _ A2.out H0.out).mono ?_
  rintro e w3 ⟨v3, rfl, o3, b3⟩
  have o2' := o2.below b3
  have A3 := Lib.hid (A2.out.below b3)
  have G3 := Lib.hid (G2.out.below b3)
  have c3 := c2.trans (b3.mono c2.size)
  clear o2 A2 G2 b3 c2
  generalize (if k < 1 ∨ 8 < k then l else l ++ putL (IntKind.u64.wrap x).toNat k.toNat) = P at *
  obtain ⟨Q1, q1, rfl, rq1, _⟩ := o2'.lens
  obtain ⟨Q2, q2, rfl, rq2, _⟩ := o3.lens
  have t1 : (P == P) = true := by simp
  have E1 := Lib.hid rq1
  have E2 := Lib.hid rq2
  clear rq1 rq2 o2' o3
  go_wp2_with fail
  refine (equal_any Q1 Q2 _ _ q1 q2 P P _ E1.out E2.out).mono ?_
  rintro e w' ⟨rfl, rfl⟩
  rw [t1]
  clear E1 E2 t1
  go_wp2_with fail
  refine (ptext_any G l.length gc l s (by have := HL.out; omega) _ G3.out R0.out).mono ?_
  rintro e w4 ⟨v4, rfl, o4, b4⟩
  have A4 := Lib.hid (A3.out.below b4)
  have G4 := Lib.hid (G3.out.below b4)
  have c4 := c3.trans (b4.mono c3.size)
  clear A3 G3 b4 c3
  go_wp2_with fail
  refine (rptext_any A n c l s (by have := HN.out; omega) _ A4.out H0.out).mono ?_
  rintro e w5 ⟨v5, rfl, o5, b5⟩
  have o4' := o4.below b5
  have A5 := Lib.hid (A4.out.below b5)
  have G5 := Lib.hid (G4.out.below b5)
  have c5 := c4.trans (b5.mono c4.size)
  clear o4 A4 G4 b5 c4
  generalize l ++ headT (cutT s).length ++ cutT s = S at *
  obtain ⟨S1, s1, rfl, rs1, _⟩ := o4'.lens
  obtain ⟨S2, s2, rfl, rs2, _⟩ := o5.lens
  have t1 : (S == S) = true := by simp
  have E1 := Lib.hid rs1
  have E2 := Lib.hid rs2
  clear rs1 rs2 o4' o5
  go_wp2_with fail
  refine (equal_any S1 S2 _ _ s1 s2 S S _ E1.out E2.out).mono ?_
  rintro e w' ⟨rfl, rfl⟩
  rw [t1]
  clear E1 E2 t1
  have t1 : (l == l) = true := by simp
  go_wp2_with fail
  refine (equal_any G A _ _ gc c l l _ G5.out A5.out).mono ?_
  rintro e w' ⟨rfl, rfl⟩
  rw [t1]
  go_wp2_with fail
  refine (awake_any _).mono ?_
  rintro e w' ⟨rfl, b6⟩
  go_wp2
  go_ret
  exact ⟨rfl, c5.trans (b6.mono c5.size)⟩
theorem puts_any (A : Option Addr) (n c : Nat) (x k : Int) (l : List UInt8) (s : ByteArray) (w : World) (h : RowB w A n l) (h0 : A = none → n = 0 ∧ c = 0) :
    Calls Try.prog 3 #[.slice A n c, .int .i64 x, .int .i64 k, .string s] w fun e w' => e = .returned (.bool true) ∧ Below w.heap.size w w' := by
  by_cases hb : 8192 < n
  · exact puts_big A n c x k s hb w
  · by_cases h1 : s.size ≤ 8192
    · exact puts_small A n c x k l s (by omega) h1 w h h0
    · by_cases h2 : s.size ≤ 65536
      · exact puts_mid A n c x k s (by omega) (by omega) h2 w
      · exact puts_great A n c x k l s (by omega) (by omega) w h h0
theorem puts_walk (w : World) (A0 : Option Addr) (n0 c0 : Nat) (a0 : List UInt8) (a1 a2 : Int) (a3 : ByteArray) (w0 : RowB w A0 n0 a0) (z0 : A0 = none → n0 = 0 ∧ c0 = 0) (_ : n0 ≤ c0) (_ : c0 ≤ maxLen)
    (_ : (Lit.int .i64 a1).wf = true) (_ : (Lit.int .i64 a2).wf = true) (_ : a3.size ≤ maxLen) :
    Calls Try.prog 3 #[.slice A0 n0 c0, .int .i64 a1, .int .i64 a2, .string a3] w fun e w' => e = .returned (.bool true) ∧ Below w.heap.size w w' :=
  puts_any A0 n0 c0 a1 a2 a0 a3 w w0 z0
end Go.Proofs.Ytdedbbbgpjhjhaa.Oct
