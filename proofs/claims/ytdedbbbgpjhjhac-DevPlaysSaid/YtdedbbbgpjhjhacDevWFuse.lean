/- The walk of the law DevFuse. -/
import Derived.Test.YtdedbbbgpjhjhacDevWNob
namespace Go.Proofs.Ytdedbbbgpjhjhac.Dv
open Go.RowKit
open Mem
open Rws

theorem size_of (c : Int) : ∃ k : Nat, 8 ≤ k ∧ k ≤ 40 ∧ wrap64 (8 + wrap64 ((IntKind.u64.wrap c).tmod 33)) = (k : Int) := by
  have h0 := wrap_u64_nonneg c
  generalize IntKind.u64.wrap c = U at *
  rw [Int.tmod_eq_emod_of_nonneg h0]
  have h1 := Int.emod_nonneg U (show (33 : Int) ≠ 0 by decide)
  have h2 := Int.emod_lt_of_pos U (show (0 : Int) < 33 by decide)
  generalize U % 33 = m at *
  refine ⟨(8 + m).toNat, by omega, by omega, ?_⟩
  unfold wrap64
  omega
theorem fuse_of (c : Int) : ∃ k : Nat, k ≤ 19 ∧ wrap64 ((IntKind.u64.wrap c).tmod 20) = (k : Int) := by
  have h0 := wrap_u64_nonneg c
  generalize IntKind.u64.wrap c = U at *
  rw [Int.tmod_eq_emod_of_nonneg h0]
  have h1 := Int.emod_nonneg U (show (20 : Int) ≠ 0 by decide)
  have h2 := Int.emod_lt_of_pos U (show (0 : Int) < 20 by decide)
  generalize U % 20 = m at *
  refine ⟨m.toNat, by omega, ?_⟩
  unfold wrap64
  omega
theorem size_any (c : Int) (k : Nat) (hk : wrap64 (8 + wrap64 ((IntKind.u64.wrap c).tmod 33)) = (k : Int)) (w : World) :
    Calls Try.prog 33 #[.int .i64 c] w fun e w' => e = .returned (.int .i64 k) ∧ w = w' := by
  go_enter Try.func33, Try.ntmps33
  go_wp2
  go_ret
  exact ⟨by rw [← hk]; rfl, rfl⟩
/-- What one writing, or keeping, does to the power. -/
inductive Goes (d d' : St) (e : Int) : Prop where
  | done (h : e = 0) (o : d.on = true) (f : d.fuse ≠ 0) (o' : d'.on = true) (f' : d'.fuse = if 0 < d.fuse then d.fuse - 1 else d.fuse)
  | off (h : e = 5) (o : d.on = false) (o' : d' = d)
  | gone (h : e = 5) (o : d.on = true) (f : d.fuse = 0) (o' : d'.on = false)
  | bad (h : e = 22) (o' : d' = d)
theorem act_fuse (d : St) (h : d.fuse ≠ 0) : (act d).on = d.on ∧ (act d).fuse = if 0 < d.fuse then d.fuse - 1 else d.fuse := by
  unfold act
  rw [if_neg h]
  by_cases h1 : 0 < d.fuse
  · rw [if_pos h1, if_pos h1]; exact ⟨rfl, rfl⟩
  · rw [if_neg h1, if_neg h1]; exact ⟨rfl, rfl⟩
theorem wr_goes (d : St) (i : Int) (s : ByteArray) : Goes d (wrD d i s) (wrE d i s) := by
  cases ho : d.on with
  | false =>
    have e1 : wrD d i s = d := if_neg (fun k => by rw [ho] at k; cases k.1)
    have e2 : wrE d i s = 5 := if_pos ho
    rw [e1, e2]
    exact .off rfl ho rfl
  | true =>
    by_cases hb : inside d i = false ∨ 4096 < s.size
    · have e1 : wrD d i s = d := if_neg (fun k => by
        rcases hb with hb | hb
        · rw [hb] at k; cases k.2.1
        · omega)
      have e2 : wrE d i s = 22 := by unfold wrE; rw [if_neg (by rw [ho]; decide), if_pos hb]
      rw [e1, e2]
      exact .bad rfl rfl
    · have hi : inside d i = true := by
        cases hq : inside d i with
        | true => rfl
        | false => exact absurd (.inl hq) hb
      have hs : s.size ≤ 4096 := by
        rcases Nat.lt_or_ge 4096 s.size with k | k
        · exact absurd (.inr k) hb
        · exact k
      have e1 : wrD d i s = writeD d i s := if_pos ⟨ho, hi, hs⟩
      have e2 : wrE d i s = actE d := by unfold wrE; rw [if_neg (by rw [ho]; decide), if_neg hb]
      rw [e1, e2]
      by_cases h0 : d.fuse = 0
      · have e3 : writeD d i s = act d := if_pos h0
        have e4 : actE d = 5 := if_pos h0
        rw [e3, e4]
        refine .gone rfl ho h0 ?_
        unfold act
        rw [if_pos h0]
      · have e3 : writeD d i s = putD (act d) i s := if_neg h0
        have e4 : actE d = 0 := if_neg h0
        rw [e3, e4]
        obtain ⟨a, b⟩ := act_fuse d h0
        exact .done rfl ho h0 (by show (act d).on = true; rw [a, ho]) b
theorem fl_goes (d : St) : Goes d (flD d) (flE d) := by
  cases ho : d.on with
  | false =>
    have e1 : flD d = d := if_neg (by rw [ho]; decide)
    have e2 : flE d = 5 := if_neg (by rw [ho]; decide)
    rw [e1, e2]
    exact .off rfl ho rfl
  | true =>
    have e1 : flD d = flushD d := if_pos ho
    have e2 : flE d = actE d := if_pos ho
    rw [e1, e2]
    by_cases h0 : d.fuse = 0
    · have e3 : flushD d = act d := if_pos h0
      have e4 : actE d = 5 := if_pos h0
      rw [e3, e4]
      refine .gone rfl ho h0 ?_
      unfold act
      rw [if_pos h0]
    · have e3 : flushD d = { act d with kept := fun z => (d.dirty z).or (d.kept z), dirty := fun _ => none } := if_neg h0
      have e4 : actE d = 0 := if_neg h0
      rw [e3, e4]
      obtain ⟨a, b⟩ := act_fuse d h0
      exact .done rfl ho h0 (by show (act d).on = true; rw [a, ho]) b
theorem i64_and7 (n : Int) : bits .and .i64 n 7 = n % 8 := by
  have h7 : (BitVec.ofInt 64 7).toNat = 2 ^ 3 - 1 := by decide
  have key : (BitVec.ofInt 64 n &&& BitVec.ofInt 64 7).toNat = (n % ((2 ^ 64 : Nat) : Int)).toNat % 2 ^ 3 := by
    rw [BitVec.toNat_and, BitVec.toNat_ofInt, h7, Nat.and_two_pow_sub_one_eq_mod]
  show IntKind.i64.wrap ((BitVec.ofInt 64 n &&& BitVec.ofInt 64 7).toNat : Nat) = n % 8
  rw [key, IntKind.wrap_i64]
  omega
theorem and7 (n : Int) : 0 ≤ bits .and .i64 n 7 ∧ bits .and .i64 n 7 ≤ 7 := by
  rw [i64_and7]
  omega
theorem do_goes (d : St) (k : DoV) (h : ¬ 3 < opOf k) : Goes d (doD d k) (doE d k) := by
  have h7 := and7 k.op
  have h3 : opOf k = 0 ∨ opOf k = 1 ∨ opOf k = 2 ∨ opOf k = 3 := by unfold opOf at h ⊢; omega
  unfold doD doE
  by_cases h2 : opOf k = 0 ∨ opOf k = 1 ∨ opOf k = 2
  · rw [if_pos h2, if_pos h2]
    exact wr_goes d k.i k.s
  · have h4 : opOf k = 3 := by omega
    rw [if_neg h2, if_neg h2, if_pos h4, if_pos h4]
    exact fl_goes d
set_option maxRecDepth 100000 in
set_option maxHeartbeats 2000000 in
theorem fuse_law (x : Int) (A : Option Addr) (n c : Nat) (xs : List DoC) (y : Int) (hn : n ≤ 9223372036854775807) (w : World) (h : DoRow w A n xs) :
    Calls Try.prog 6 #[.int .i64 x, .slice A n c, .int .i64 y] w fun e w' => e = .returned (.bool true) ∧ Below w.heap.size w w' := by
  obtain ⟨K, k1, k2, hK⟩ := size_of x
  obtain ⟨F, f1, hF⟩ := fuse_of y
  obtain ⟨W1, hW1⟩ : ∃ W1 : World, W1 = w.alloc (.cells #[.slice A n c] 22) := ⟨_, rfl⟩
  have b1 : Below w.heap.size w W1 := by rw [hW1]; exact (Below.refl _ w).alloc (Nat.le_refl _) _
  have h1 : Has W1 w.heap.size 22 #[.slice A n c] := by rw [hW1]; exact Has.fresh w _ _
  have HR := Lib.hid (h.below b1)
  have HL := Lib.hid (one_list W1 A n c _ xs HR.out hn h1)
  have HB1 := Lib.hid b1
  have HK := Lib.hid (And.intro k1 (And.intro k2 (And.intro f1 (And.intro hn hK))))
  clear h h1 b1 k1 k2 f1 hn hK
  go_enter Try.func6, Try.ntmps6
  go_wp2_with fail
  rw [← hW1]
  clear hW1
  refine (short_any _ 1 1 _ (by decide) _ HL.out).mono ?_
  rintro e w1 ⟨⟨t, rfl⟩, b1⟩
  have HB2 := Lib.hid (HB1.out.trans (b1.mono HB1.out.size))
  have HR1 := Lib.hid (HR.out.below b1)
  clear b1
  cases t with
  | false =>
    go_wp2_with fail
    refine (awake_any _).mono ?_
    rintro e w2 ⟨rfl, b2⟩
    go_wp2
    go_ret
    exact ⟨rfl, HB2.out.trans (b2.mono HB2.out.size)⟩
  | true =>
    go_wp2_with fail
    refine (size_any x K HK.out.2.2.2.2 _).mono ?_
    rintro e w' ⟨rfl, rfl⟩
    go_wp2_with fail
    refine (new_good K HK.out.1 (by have := HK.out.2.1; omega) _).mono ?_
    rintro e w2 ⟨rfl, h2, b2, z2⟩
    have H2 := Lib.hid h2
    have HR2 := Lib.hid (HR1.out.below b2)
    have HB3 := Lib.hid (HB2.out.trans (b2.mono HB2.out.size))
    have B12 := Lib.hid b2
    have HZ2 := Lib.hid (And.intro b2.size (And.intro z2 HB2.out.size))
    clear h2 b2 z2
    go_wp2_with fail
    refine (fuse_all _ _ _ _ (F : Int) (by have := HK.out.2.2.1; omega) _ H2.out).mono ?_
    rintro e w3 ⟨rfl, h3, g3⟩
    have e0 : fuE (newSt K) = 0 := rfl
    rw [e0]
    have H3 := Lib.hid h3
    have G3 := Lib.hid g3
    clear h3 g3 e0
    go_wp2
    go_loopw [9, 35] (fun dn i wr => ∃ (j N : Nat) (d : St), j ≤ n ∧ i = .int .i64 j ∧ dn = .int .i64 N ∧ (N ≤ F ∧ (d.on = true → d.fuse = (F : Int) - N) ∧ (d.on = false → N = F)) ∧ DevIs wr (w1.heap.size + 2) w1.heap.size (w1.heap.size + 1) d ∧ Chg (Own (w1.heap.size + 2) w1.heap.size (w1.heap.size + 1)) w3 wr) (fun _ i _ => n - (intOf i).toNat)
    case atStart =>
      refine ⟨0, 0, fuD (newSt K) F, Nat.zero_le _, rfl, rfl, ⟨Nat.zero_le _, fun _ => ?_, fun h => by cases h⟩, H3.out, Chg.refl _ _⟩
      show max (F : Int) (-1) = (F : Int) - ((0 : Nat) : Int)
      omega
    case round =>
      obtain ⟨j, N, d, hj, rfl, rfl, hI, hd, hC⟩ := hrel
      have hz := HZ2.out
      have HBr := Lib.hid ((B12.out.trans (G3.out.below hz.1 (fun k hk hh => by rcases hh with hh | hh | hh <;> omega))).trans (hC.below (Nat.le_trans hz.1 G3.out.size) (fun k hk hh => by rcases hh with hh | hh | hh <;> omega)))
      have HD := Lib.hid hd
      have HC := Lib.hid hC
      have HI := Lib.hid hI
      have hr := HR1.out.below HBr.out
      have hn := HK.out.2.2.2.1
      clear hd hC hI hz
      by_cases hlt : j < n
      · obtain ⟨b, off, rfl, hbl, hcl⟩ := hr.cells (by omega)
        have hjx : j < xs.length := by rw [hr.len]; exact hlt
        obtain ⟨c0, c1, c2, c3⟩ := hcl j hjx
        have hfit := hr.each _ (List.getElem_mem hjx)
        clear hcl hr
        generalize xs[j] = x at *
        have HFit := Lib.hid hfit
        have HJ := Lib.hid (And.intro hlt hn)
        have hb : Below wr.heap.size wr (wr.alloc (.cells #[.int .i64 x.v.op, .int .i64 x.v.i, .string x.v.s, .slice x.A x.n x.c] 34)) := (Below.refl _ _).alloc (Nat.le_refl _) _
        have HBb := Lib.hid hb
        clear hfit hjx hbl hb hj
        by_cases g : 3 < bits .and .i64 x.v.op 7
        · go_wp2
          go_roundw
          case rel => exact ⟨j + 1, N, d, by omega, by go_num, rfl, HI.out, HD.out.below HBb.out, HC.out.trans (Chg.of_below HBb.out _)⟩
          case measure => simp [intOf]; omega
        · have HX := Lib.hid (does_any _ _ _ d x.v x.A x.n x.c _ (Nat.le_trans HFit.out.len HFit.out.cap) HFit.out.i.2 (HFit.out.row.below HBb.out) (HD.out.below HBb.out))
          have hg := do_goes d x.v g
          cases hg with
          | done he o f o' f' =>
            rw [he] at HX
            have hNF : N + 1 ≤ F ∧ (doD d x.v).fuse = (F : Int) - ((N + 1 : Nat) : Int) := by
              have h1 := HI.out.2.1 o
              rw [f']
              rw [h1] at f ⊢
              have h2 := HI.out.1
              refine ⟨by omega, ?_⟩
              rw [if_pos (by omega)]
              omega
            have t1 : ¬ (F : Int) < (N : Int) + 1 := by omega
            have hNs : N ≤ 19 := by have := HK.out.2.2.1; omega
            have HNF := Lib.hid (And.intro hNF o')
            clear he o f o' f' hNF
            go_wp2_with fail
            refine HX.out.mono ?_
            rintro e w5 ⟨rfl, h5, g5⟩
            have H5 := Lib.hid (And.intro h5 (HC.out.trans ((Chg.of_below HBb.out _).trans g5)))
            clear h5 g5 HX c0 c1 c2 c3
            go_wp2
            go_roundw
            case rel => exact ⟨j + 1, N + 1, doD d x.v, by have := HJ.out.1; omega, by go_num, by go_num, ⟨HNF.out.1.1, fun _ => HNF.out.1.2, fun h => by rw [HNF.out.2] at h; cases h⟩, H5.out.1, H5.out.2⟩
            case measure => have := HJ.out.1; simp [intOf]; omega
          | off he o o' =>
            rw [he] at HX
            have hN := HI.out.2.2 o
            have t1 : ((N : Int) != (F : Int)) = false := by rw [hN]; simp
            have t2 : ¬ (F : Int) < (N : Int) := by omega
            have HO := Lib.hid (And.intro o o')
            clear he o o' hN
            go_wp2_with fail
            refine HX.out.mono ?_
            rintro e w5 ⟨rfl, h5, g5⟩
            have H5 := Lib.hid (And.intro h5 (HC.out.trans ((Chg.of_below HBb.out _).trans g5)))
            clear h5 g5 HX c0 c1 c2 c3
            go_wp2
            go_roundw
            case rel => exact ⟨j + 1, N, doD d x.v, by have := HJ.out.1; omega, by go_num, rfl, by rw [HO.out.2]; exact HI.out, H5.out.1, H5.out.2⟩
            case measure => have := HJ.out.1; simp [intOf]; omega
          | gone he o f o' =>
            rw [he] at HX
            have hN : N = F := by
              have h1 := HI.out.2.1 o
              rw [f] at h1
              omega
            have t1 : ((N : Int) != (F : Int)) = false := by rw [hN]; simp
            have t2 : ¬ (F : Int) < (N : Int) := by omega
            have HO := Lib.hid (And.intro o' hN)
            clear he o f o' hN
            go_wp2_with fail
            refine HX.out.mono ?_
            rintro e w5 ⟨rfl, h5, g5⟩
            have H5 := Lib.hid (And.intro h5 (HC.out.trans ((Chg.of_below HBb.out _).trans g5)))
            clear h5 g5 HX c0 c1 c2 c3
            go_wp2
            go_roundw
            case rel => exact ⟨j + 1, N, doD d x.v, by have := HJ.out.1; omega, by go_num, rfl, ⟨HI.out.1, (fun h => absurd h (by rw [HO.out.1]; decide)), fun _ => HO.out.2⟩, H5.out.1, H5.out.2⟩
            case measure => have := HJ.out.1; simp [intOf]; omega
          | bad he o' =>
            rw [he] at HX
            have t2 : ¬ (F : Int) < (N : Int) := by have := HI.out.1; omega
            have HO := Lib.hid o'
            clear he o'
            go_wp2_with fail
            refine HX.out.mono ?_
            rintro e w5 ⟨rfl, h5, g5⟩
            have H5 := Lib.hid (And.intro h5 (HC.out.trans ((Chg.of_below HBb.out _).trans g5)))
            clear h5 g5 HX c0 c1 c2 c3
            go_wp2
            go_roundw
            case rel => exact ⟨j + 1, N, doD d x.v, by have := HJ.out.1; omega, by go_num, rfl, by rw [HO.out]; exact HI.out, H5.out.1, H5.out.2⟩
            case measure => have := HJ.out.1; simp [intOf]; omega
      · obtain rfl : j = n := by omega
        clear hr hlt hj
        go_wp2_with fail
        refine (awake_any _).mono ?_
        rintro e w2 ⟨rfl, b2⟩
        go_wp2
        go_ret
        have hw := HB2.out.trans (HBr.out.mono HB2.out.size)
        exact ⟨rfl, hw.trans (b2.mono hw.size)⟩
theorem fuse_walk (w : World) (a0 : Int) (A1 : Option Addr) (n1 c1 : Nat) (a1 : List DoC) (a2 : Int) (_ : (Lit.int .i64 a0).wf = true) (w1 : DoRow w A1 n1 a1) (b1 : n1 ≤ c1) (m1 : c1 ≤ maxLen) (_ : (Lit.int .i64 a2).wf = true) :
    Calls Try.prog 6 #[.int .i64 a0, .slice A1 n1 c1, .int .i64 a2] w fun e w' => e = .returned (.bool true) ∧ Below w.heap.size w w' :=
  fuse_law a0 A1 n1 c1 a1 a2 (by unfold maxLen at m1; omega) w w1
end Go.Proofs.Ytdedbbbgpjhjhac.Dv
