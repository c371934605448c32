/- A device behind a script. -/
import Derived.Test.YtdedbbbgpjhjhacDevI
namespace Go.Proofs.Ytdedbbbgpjhjhac.Dv
open Go.RowKit
open Mem
open Rws

def stL (K : Nat) (xs : List DoC) : St := (xs.map (·.v)).foldl doD (newSt K)
theorem stL_snoc (K : Nat) (xs : List DoC) (x : DoC) : stL K (xs ++ [x]) = doD (stL K xs) x.v := by simp [stL]
set_option maxRecDepth 100000 in
set_option maxHeartbeats 2000000 in
theorem made_law (a : Int) (K : Nat) (A : Option Addr) (n c : Nat) (xs : List DoC) (hn : n ≤ 9223372036854775807) (k1 : 8 ≤ K) (k2 : K ≤ 40) (hK : wrap64 (8 + wrap64 ((IntKind.u64.wrap a).tmod 33)) = (K : Int)) (w : World) (h : DoRow w A n xs) :
    Calls Try.prog 23 #[.int .i64 a, .slice A n c] w fun e w' => e = .returned (.pointer (some ⟨w.heap.size + 2, 0, none⟩)) ∧ DevIs w' (w.heap.size + 2) w.heap.size (w.heap.size + 1) (stL K xs) ∧ Below w.heap.size w w' := by
  have HR := Lib.hid h
  have HK := Lib.hid (And.intro k1 (And.intro k2 (And.intro hn hK)))
  clear h k1 k2 hn hK
  go_enter Try.func23, Try.ntmps23
  go_wp2_with fail
  refine (size_any a K HK.out.2.2.2 _).mono ?_
  rintro e w' ⟨rfl, rfl⟩
  go_wp2_with fail
  refine (new_good K HK.out.1 (by have := HK.out.2.1; omega) _).mono ?_
  rintro e w1 ⟨rfl, h1, b1, z1⟩
  have H1 := Lib.hid h1
  have B1 := Lib.hid b1
  have Z1 := Lib.hid z1
  clear h1 b1 z1
  go_wp2
  go_loopw [17] (fun i wr => ∃ j : Nat, j ≤ n ∧ i = .int .i64 j ∧ DevIs wr (w.heap.size + 2) w.heap.size (w.heap.size + 1) (stL K (xs.take j)) ∧ Chg (Own (w.heap.size + 2) w.heap.size (w.heap.size + 1)) w1 wr) (fun i _ => n - (intOf i).toNat)
  case atStart => exact ⟨0, Nat.zero_le _, rfl, H1.out, Chg.refl _ _⟩
  case round =>
    obtain ⟨j, hj, rfl, hd, hC⟩ := hrel
    have HBr := Lib.hid (B1.out.trans (hC.below B1.out.size (fun k hk hh => by rcases hh with hh | hh | hh <;> omega)))
    have HD := Lib.hid hd
    have HC := Lib.hid hC
    have hr := HR.out.below HBr.out
    have hn := HK.out.2.2.1
    clear hd hC
    by_cases hlt : j < n
    · obtain ⟨b, off, rfl, hbl, hcl⟩ := hr.cells (by omega)
      have hjx : j < xs.length := by rw [hr.len]; exact hlt
      obtain ⟨c0, c1, c2, c3⟩ := hcl j hjx
      have hfit := hr.each _ (List.getElem_mem hjx)
      have hnx := stL_snoc K (xs.take j) xs[j]
      rw [← List.take_succ_eq_append_getElem hjx] at hnx
      have HNX := Lib.hid hnx
      clear hcl hr hnx
      generalize xs[j] = x at *
      have HFit := Lib.hid hfit
      have hb : Below wr.heap.size wr (wr.alloc (.cells #[.int .i64 x.v.op, .int .i64 x.v.i, .string x.v.s, .slice x.A x.n x.c] 34)) := (Below.refl _ _).alloc (Nat.le_refl _) _
      have HBb := Lib.hid hb
      clear hfit hjx hbl hb
      have HX := Lib.hid (does_any _ _ _ _ x.v x.A x.n x.c _ (Nat.le_trans HFit.out.len HFit.out.cap) HFit.out.i.2 (HFit.out.row.below HBb.out) (HD.out.below HBb.out))
      go_wp2_with fail
      refine HX.out.mono ?_
      rintro e w5 ⟨rfl, h5, g5⟩
      have H5 := Lib.hid (And.intro h5 (HC.out.trans ((Chg.of_below HBb.out _).trans g5)))
      clear h5 g5 HX c0 c1 c2 c3
      go_wp2
      go_roundw
      case rel => exact ⟨j + 1, by omega, by go_num, by rw [HNX.out]; exact H5.out.1, H5.out.2⟩
      case measure => simp [intOf]; omega
    · obtain rfl : j = n := by omega
      have htt : xs.take j = xs := List.take_of_length_le (by rw [HR.out.len]; exact Nat.le_refl _)
      rw [htt] at HD
      clear hr hlt hj htt
      go_wp2
      go_ret
      exact ⟨rfl, HD.out, HBr.out⟩
theorem act_size (d : St) : (act d).size = d.size := by
  unfold act
  split
  · rfl
  · split <;> rfl
theorem do_size (d : St) (k : DoV) : (doD d k).size = d.size := by
  have h1 : (wrD d k.i k.s).size = d.size := by
    unfold wrD writeD
    split
    · split
      · exact act_size d
      · exact act_size d
    · rfl
  have h2 : (flD d).size = d.size := by
    unfold flD flushD
    split
    · split
      · exact act_size d
      · exact act_size d
    · rfl
  have h3 : (fuD d k.i).size = d.size := by unfold fuD fuseSt; split <;> rfl
  unfold doD
  split
  · exact h1
  · split
    · exact h2
    · split
      · rfl
      · split
        · exact h3
        · split
          · rfl
          · exact start_size d
theorem stL_size (K : Nat) (xs : List DoC) : (stL K xs).size = K := by
  have h : ∀ (l : List DoV) (d : St), (l.foldl doD d).size = d.size := by
    intro l
    induction l with
    | nil => intro d; rfl
    | cons a l ih => intro d; rw [List.foldl_cons, ih, do_size]
  exact h _ _
/-- Block i keeps s, and nothing was written to it since. -/
structure Keeps (d : St) (i : Int) (s : ByteArray) : Prop where
  kept : d.kept i = some s
  clean : d.dirty i = none
theorem act_keeps {d : St} {i : Int} {s : ByteArray} (h : Keeps d i s) : Keeps (act d) i s := by
  unfold act
  split
  · exact ⟨h.kept, h.clean⟩
  · split
    · exact ⟨h.kept, h.clean⟩
    · exact h
theorem crash_keeps {d : St} {i : Int} {s : ByteArray} (h : Keeps d i s) (ks : List Int) : Keeps (crashD d ks) i s := by
  refine ⟨?_, rfl⟩
  show keepD d ks i = some s
  unfold keepD
  split
  · rw [h.clean]; exact h.kept
  · exact h.kept
theorem do_keeps {d : St} {i : Int} {s : ByteArray} (h : Keeps d i s) (k : DoV) (hk : ¬ ((opOf k = 0 ∨ opOf k = 1 ∨ opOf k = 2) ∧ k.i = i)) : Keeps (doD d k) i s := by
  unfold doD
  by_cases h1 : opOf k = 0 ∨ opOf k = 1 ∨ opOf k = 2
  · rw [if_pos h1]
    have hne : i ≠ k.i := fun e => hk ⟨h1, e.symm⟩
    unfold wrD writeD
    split
    · split
      · exact act_keeps h
      · have ha := act_keeps h
        exact ⟨ha.kept, by show (if i = k.i then _ else _) = _; rw [if_neg hne]; exact ha.clean⟩
    · exact h
  · rw [if_neg h1]
    split
    · unfold flD flushD
      split
      · split
        · exact act_keeps h
        · exact ⟨by show (d.dirty i).or (d.kept i) = _; rw [h.clean]; exact h.kept, rfl⟩
      · exact h
    · split
      · exact h
      · split
        · unfold fuD fuseSt
          split
          · exact ⟨h.kept, h.clean⟩
          · exact h
        · split
          · exact crash_keeps h _
          · unfold startD
            split
            · exact h
            · exact ⟨h.kept, rfl⟩
theorem bl_keeps {d : St} {i : Nat} {s : ByteArray} (h : Keeps d i s) (hi : i < d.size) : (bl d)[i]? = some s := by
  unfold bl
  rw [List.getElem?_map, List.getElem?_range hi]
  show some (readS (startD d) (i : Int)) = some s
  congr 1
  have hs : Keeps (startD d) i s := by
    unfold startD
    split
    · exact h
    · exact ⟨h.kept, rfl⟩
  unfold readS
  rw [hs.clean, hs.kept]
  rfl
end Go.Proofs.Ytdedbbbgpjhjhac.Dv
