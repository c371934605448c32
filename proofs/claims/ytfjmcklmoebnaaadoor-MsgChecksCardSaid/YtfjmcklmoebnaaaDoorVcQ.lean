/- A stamp, a vector behind bytes. -/
import Derived.Test.YtfjmcklmoebnaaaDoorVcP
import Derived.Test.YtfjmcklmoebnaaaDoorVcA
namespace Go.Proofs.YtfjmcklmoebnaaaDoor.Vc
open Go.RowKit Go.Proofs.YtfjmcklmoebnaaaDoor.Oct

theorem owns_lens {w : World} {B : Nat} {v : Value} {l : List UInt8} (h : Owns w B v l) : ∃ A cap, v = .slice A l.length cap ∧ RowB w A l.length l ∧ (A = none → l.length = 0 ∧ cap = 0) := by
  rcases h.2 with ⟨e, e0⟩ | ⟨g, c, cur, e, hb, hh, _⟩
  · exact ⟨none, 0, by rw [e, e0], ⟨rfl, fun h => by omega⟩, fun _ => ⟨e0, rfl⟩⟩
  · refine ⟨_, _, e, ?_, fun h => by cases h⟩
    subst e
    exact Owns.row h rfl
/-- A stamp's bytes; a number's low bytes. -/
def numB (x : Int) (k : Nat) : List UInt8 := putL (IntKind.u64.wrap x).toNat k
def stB (t w : Int) : List UInt8 := numB t 6 ++ numB w 1
theorem numB_len (x : Int) (k : Nat) : (numB x k).length = k := putL_len _ _
theorem put_num {A : Option Addr} {n cap k : Nat} {l : List UInt8} {w : World} (x : Int) (hn : n ≤ 1048000) (h1 : 1 ≤ k) (h8 : k ≤ 8) (h : RowB w A n l) (h0 : A = none → n = 0 ∧ cap = 0) :
    Calls Tryd.prog 34 #[.slice A n cap, .int .i64 x, .int .i64 k] w fun e w' => ∃ v, e = .returned v ∧ Owns w' w.heap.size v (l ++ numB x k) ∧ Below w.heap.size w w' := put_in A n cap k x l hn h1 h8 w h h0
theorem owns_mono {w : World} {B C : Nat} {v : Value} {l : List UInt8} (h : Owns w C v l) (hb : B ≤ C) : Owns w B v l := by
  refine ⟨h.1, ?_⟩
  rcases h.2 with e | ⟨g, c, cur, e, hc, k⟩
  · exact .inl e
  · exact .inr ⟨g, c, cur, e, Nat.le_trans hb hc, k⟩
theorem row_nil (w : World) : RowB w none 0 [] := ⟨rfl, fun h => by omega⟩
theorem concat_any (T : Nat) (A : Option Addr) (n c m d : Nat) (b : Addr) (l r : List UInt8) (hn : n ≤ 500000) (hm : m ≤ 500000) (w : World) (hT : Oct.Has w T 41 #[.slice A n c, .slice (some b) m d]) (h : RowB w A n l) (h0 : A = none → n = 0 ∧ c = 0) (h2 : RowB w (some b) m r) :
    Calls Tryd.prog 63 #[.slice (some ⟨T, 0, none⟩) 2 2] w fun e w' => ∃ v, e = .returned v ∧ Owns w' w.heap.size v (l ++ r) ∧ Below w.heap.size w w' := by
  cases A with
  | none =>
    obtain ⟨rfl, rfl⟩ := h0 rfl
    obtain rfl : l = [] := List.eq_nil_of_length_eq_zero h.1
    exact concat_none T m d b r hm w hT h2
  | some a => exact concat_some T m d a n c l hn b r hm w hT h h2


/-- A vector's bytes; those of the first so many numbers. -/
def vecTo (x : Nat → Int) : Nat → List UInt8
  | 0 => []
  | k + 1 => vecTo x k ++ numB (x k) 6
def vecB (x : Nat → Int) : List UInt8 := vecTo x 8
theorem vecTo_len (x : Nat → Int) : ∀ k, (vecTo x k).length = 6 * k
  | 0 => rfl
  | k + 1 => by
    rw [vecTo, List.length_append, numB_len, vecTo_len x k]
    omega
theorem idx0 (x : Nat → Int) (w : World) : (Instr.index 25 (.agg (vecC x)) (.int .i64 0)).run Tryd.prog w = .ok (.int .i64 (x 0)) w := by kernel_rfl
theorem idx1 (x : Nat → Int) (w : World) : (Instr.index 25 (.agg (vecC x)) (.int .i64 1)).run Tryd.prog w = .ok (.int .i64 (x 1)) w := by kernel_rfl
theorem idx2 (x : Nat → Int) (w : World) : (Instr.index 25 (.agg (vecC x)) (.int .i64 2)).run Tryd.prog w = .ok (.int .i64 (x 2)) w := by kernel_rfl
theorem idx3 (x : Nat → Int) (w : World) : (Instr.index 25 (.agg (vecC x)) (.int .i64 3)).run Tryd.prog w = .ok (.int .i64 (x 3)) w := by kernel_rfl
theorem idx4 (x : Nat → Int) (w : World) : (Instr.index 25 (.agg (vecC x)) (.int .i64 4)).run Tryd.prog w = .ok (.int .i64 (x 4)) w := by kernel_rfl
theorem idx5 (x : Nat → Int) (w : World) : (Instr.index 25 (.agg (vecC x)) (.int .i64 5)).run Tryd.prog w = .ok (.int .i64 (x 5)) w := by kernel_rfl
theorem idx6 (x : Nat → Int) (w : World) : (Instr.index 25 (.agg (vecC x)) (.int .i64 6)).run Tryd.prog w = .ok (.int .i64 (x 6)) w := by kernel_rfl
theorem idx7 (x : Nat → Int) (w : World) : (Instr.index 25 (.agg (vecC x)) (.int .i64 7)).run Tryd.prog w = .ok (.int .i64 (x 7)) w := by kernel_rfl
theorem vec_index (x : Nat → Int) (k : Nat) (h : k < 8) (w : World) : (Instr.index 25 (.agg (vecC x)) (.int .i64 (k : Int))).run Tryd.prog w = .ok (.int .i64 (x k)) w := by
  match k, h with
  | 0, _ => exact idx0 x w
  | 1, _ => exact idx1 x w
  | 2, _ => exact idx2 x w
  | 3, _ => exact idx3 x w
  | 4, _ => exact idx4 x w
  | 5, _ => exact idx5 x w
  | 6, _ => exact idx6 x w
  | 7, _ => exact idx7 x w
set_option maxRecDepth 100000 in
set_option maxHeartbeats 2000000 in
theorem put_vec (A : Option Addr) (n cap : Nat) (x : Nat → Int) (l : List UInt8) (hn : n ≤ 500000) (w : World) (h : RowB w A n l) (h0 : A = none → n = 0 ∧ cap = 0) :
    Calls Tryd.prog 35 #[.slice A n cap, .agg (vecC x)] w fun e w' => ∃ v, e = .returned v ∧ Owns w' w.heap.size v (l ++ vecB x) ∧ Below w.heap.size w w' := by
  have hb0 := Lib.hid ((Below.refl w.heap.size w).alloc (Nat.le_refl _) (.cells (vecC x) 25))
  have ix := fun k h W => vec_index x k h W
  unfold vecC at *
  have IX := Lib.hid ix
  have H := Lib.hid h
  have H0 := Lib.hid h0
  clear h h0 ix
  go_enter Tryd.func35, Tryd.ntmps35
  go_wp2
  go_loopw [5, 9] (fun v i wr => ∃ k : Nat, k ≤ 8 ∧ i = .int .i64 k ∧ Hid (Owns wr w.heap.size v (vecTo x k)) ∧ Hid (Below w.heap.size w wr)) (fun _ i _ => 8 - (intOf i).toNat)
  case atStart => exact ⟨0, by omega, rfl, Lib.hid ⟨rfl, .inl ⟨rfl, rfl⟩⟩, hb0⟩
  case round =>
    obtain ⟨k, hk, rfl, HO, HB⟩ := hrel
    obtain ⟨A1, c1, rfl, r1, n1⟩ := owns_lens HO.out
    have hl := vecTo_len x k
    generalize (vecTo x k).length = L at *
    have hl48 : L ≤ 48 := by omega
    have HL := Lib.hid hl
    clear hl
    by_cases hlt : k < 8
    · have HP := Lib.hid (put_num (k := 6) (x k) (by omega) (by omega) (by omega) r1 n1)
      have i1 := fun W => IX.out k hlt W
      clear r1 n1
      go_wp2_with fail
      refine HP.out.mono ?_
      rintro e w2 ⟨v, rfl, ho, hb⟩
      have HO2 := Lib.hid (show Owns w2 w.heap.size v (vecTo x (k + 1)) from owns_mono ho HB.out.size)
      have HB2 := Lib.hid (HB.out.trans (hb.mono HB.out.size))
      clear ho hb
      go_wp2
      go_roundw
      case rel => exact ⟨k + 1, by omega, by go_num, HO2, HB2⟩
      case measure => simp [intOf]; omega
    · obtain rfl : k = 8 := by omega
      obtain rfl : L = 48 := HL.out
      have H2 := Lib.hid (H.out.below HB.out)
      cases A1 with
      | none => exact absurd (n1 rfl).1 (by decide)
      | some a2 =>
        have R2 := Lib.hid r1
        clear n1 r1
        have hT := Lib.hid (Oct.Has.fresh wr 41 #[.slice A n cap, .slice (some a2) 48 c1])
        have HB3 := Lib.hid (HB.out.alloc HB.out.size (.cells #[.slice A n cap, .slice (some a2) 48 c1] 41))
        have H3 := Lib.hid (H2.out.below ((Below.refl wr.heap.size wr).alloc (Nat.le_refl _) (.cells #[.slice A n cap, .slice (some a2) 48 c1] 41)))
        have R3 := Lib.hid (R2.out.below ((Below.refl wr.heap.size wr).alloc (Nat.le_refl _) (.cells #[.slice A n cap, .slice (some a2) 48 c1] 41)))
        go_wp2_with fail
        refine (concat_any wr.heap.size A n cap 48 c1 a2 l (vecTo x 8) hn (by omega) _ hT.out H3.out H0.out R3.out).mono ?_
        rintro e w4 ⟨v, rfl, ho, hb⟩
        have HO4 := Lib.hid ho
        have HB4 := Lib.hid (HB3.out.trans (hb.mono HB3.out.size))
        clear ho
        go_wp2
        go_ret
        exact ⟨_, rfl, owns_mono HO4.out HB3.out.size, HB4.out⟩
end Go.Proofs.YtfjmcklmoebnaaaDoor.Vc
