/- The walk of the law DevFlushed. -/
import Derived.Test.YtdedbbbgpjhjhacDevJ
namespace Go.Proofs.Ytdedbbbgpjhjhac.Dv
open Go.RowKit
open Mem
open Rws

theorem two_list (w : World) (A B : Option Addr) (n c m d b : Nat) (xs ys : List DoC) (h : DoRow w A n xs) (k : DoRow w B m ys) (hn : n ≤ 9223372036854775807) (hm : m ≤ 9223372036854775807) (hc : Has w b 22 #[.slice A n c, .slice B m d]) : ListRow w (some ⟨b, 0, none⟩) 2 [⟨A, n, c, xs⟩, ⟨B, m, d, ys⟩] :=
  ⟨rfl, fun _ => ⟨b, 0, rfl, hc.bound, fun i hi => by
    have hi : i < 2 := hi
    rcases (show i = 0 ∨ i = 1 by omega) with rfl | rfl
    · exact Has.at_ hc 0
    · exact Has.at_ hc 1⟩, fun y hy => by
    rcases List.mem_cons.1 hy with rfl | hy
    · exact ⟨h, hn⟩
    · rw [List.mem_singleton.1 hy]
      exact ⟨k, hm⟩⟩
theorem do_write (d : St) (i : Int) (s : ByteArray) : doD d ⟨0, i, s, []⟩ = wrD d i s := by
  have h : opOf ⟨0, i, s, []⟩ = 0 := (by decide : bits .and .i64 0 7 = 0)
  unfold doD
  rw [h, if_pos (Or.inl rfl)]
theorem do_flush (d : St) (i : Int) (s : ByteArray) : doD d ⟨3, i, s, []⟩ = flD d := by
  have h : opOf ⟨3, i, s, []⟩ = 3 := (by decide : bits .and .i64 3 7 = 3)
  unfold doD
  rw [h, if_neg (by decide), if_pos rfl]
/-- The device behind the start, without a fuse. -/
def d1 (d : St) : St := fuD (startD d) (-1)
theorem d1_on (d : St) : (d1 d).on = true := by
  unfold d1 fuD
  rw [if_pos (start_on d)]
  exact start_on d
theorem d1_fuse (d : St) : (d1 d).fuse = -1 := by
  unfold d1 fuD
  rw [if_pos (start_on d)]
  rfl
theorem d1_size (d : St) : (d1 d).size = d.size := by
  unfold d1 fuD
  rw [if_pos (start_on d)]
  exact start_size d
theorem inside_iff (d : St) (i : Int) : inside d i = true ↔ 0 ≤ i ∧ i < d.size := by
  unfold inside
  rw [Bool.and_eq_true, decide_eq_true_iff, decide_eq_true_iff]
/-- What is flushed then is kept. -/
theorem d3_keeps (d : St) (i : Int) (s : ByteArray) (hi : inside (d1 d) i = true) (hs : s.size ≤ 4096) : wrE (d1 d) i s = 0 ∧ flE (wrD (d1 d) i s) = 0 ∧ Keeps (flD (wrD (d1 d) i s)) i s := by
  have ho := d1_on d
  have hf := d1_fuse d
  have e1 : wrE (d1 d) i s = actE (d1 d) := by
    unfold wrE
    rw [if_neg (by rw [ho]; decide), if_neg (by rw [hi]; intro k; rcases k with k | k; cases k; omega)]
  have e2 : actE (d1 d) = 0 := if_neg (by rw [hf]; decide)
  have e3 : wrD (d1 d) i s = putD (d1 d) i s := by
    have : wrD (d1 d) i s = writeD (d1 d) i s := if_pos ⟨ho, hi, hs⟩
    rw [this]
    unfold writeD act
    rw [if_neg (by rw [hf]; decide), if_neg (by rw [hf]; decide), if_neg (by rw [hf]; decide)]
  have o2 : (putD (d1 d) i s).on = true := ho
  have f2 : (putD (d1 d) i s).fuse = -1 := hf
  have e4 : flE (putD (d1 d) i s) = 0 := by
    unfold flE actE
    rw [if_pos o2, if_neg (by rw [f2]; decide)]
  refine ⟨by rw [e1, e2], by rw [e3]; exact e4, ?_⟩
  rw [e3]
  have e5 : flD (putD (d1 d) i s) = flushD (putD (d1 d) i s) := if_pos o2
  have e6 : flushD (putD (d1 d) i s) = { act (putD (d1 d) i s) with kept := fun z => ((putD (d1 d) i s).dirty z).or ((putD (d1 d) i s).kept z), dirty := fun _ => none } := if_neg (by rw [f2]; decide)
  rw [e5, e6]
  refine ⟨?_, rfl⟩
  show ((if i = i then some s else _) : Option ByteArray).or _ = some s
  rw [if_pos rfl]
  rfl
theorem strs_cell {w : World} {B g c : Nat} {l : List ByteArray} {n : Nat} (h : w.ownsRow B 9 1 (.slice (some ⟨g, 0, none⟩) n c) l.length (l.map Value.string)) {i : Nat} {s : ByteArray} (hi : l[i]? = some s) : w.cell? ⟨g, i, none⟩ = some (.string s) := by
  have := World.ownsRow.cells h (g := g) rfl i (.string s) (by rw [List.getElem?_map, hi]; rfl)
  have ha : (⟨g, 0, none⟩ : Addr).add i = ⟨g, i, none⟩ := by
    unfold Addr.add
    split
    · next h => rw [h]
    · simp
  rw [ha] at this
  exact this
set_option maxRecDepth 100000 in
set_option maxHeartbeats 4000000 in
theorem flu_law (x : Int) (A : Option Addr) (n c : Nat) (xs : List DoC) (B : Option Addr) (m d : Nat) (ys : List DoC) (i : Int) (s : ByteArray) (D : Option Addr) (q e : Nat) (ks : List Int)
    (hn : n ≤ 9223372036854775807) (hm : m ≤ 9223372036854775807) (hq0 : q ≤ maxLen) (w : World) (h : DoRow w A n xs) (h2 : DoRow w B m ys) (h3 : NumRow w D q ks) :
    Calls Try.prog 5 #[.int .i64 x, .slice A n c, .slice B m d, .int .i64 i, .string s, .slice D q e] w fun e w' => e = .returned (.bool true) ∧ Below w.heap.size w w' := by
  obtain ⟨K, k1, k2, hK⟩ := size_of x
  obtain ⟨W1, hW1⟩ : ∃ W1 : World, W1 = w.alloc (.cells #[.slice A n c, .slice B m d] 22) := ⟨_, rfl⟩
  have b1 : Below w.heap.size w W1 := by rw [hW1]; exact (Below.refl _ w).alloc (Nat.le_refl _) _
  have h1 : Has W1 w.heap.size 22 #[.slice A n c, .slice B m d] := by rw [hW1]; exact Has.fresh w _ _
  have HL := Lib.hid (two_list W1 A B n c m d _ xs ys (h.below b1) (h2.below b1) hn hm h1)
  have HX := Lib.hid h
  have HY := Lib.hid h2
  have HQ := Lib.hid h3
  have hq := Lib.hid hq0
  have HB1 := Lib.hid b1
  have HK := Lib.hid (And.intro k1 (And.intro k2 (And.intro hn (And.intro hm hK))))
  clear h h1 h2 h3 b1 k1 k2 hn hm hK hq0
  go_enter Try.func5, Try.ntmps5
  go_wp2_with fail
  rw [← hW1]
  clear hW1
  refine (short_any _ 2 2 _ (by decide) _ HL.out).mono ?_
  rintro e w1 ⟨⟨t, rfl⟩, b1⟩
  have HB2 := Lib.hid (HB1.out.trans (b1.mono HB1.out.size))
  clear b1 HL HB1
  cases t with
  | false =>
    go_wp2_with fail
    refine (awake_any _).mono ?_
    rintro e w2 ⟨rfl, b2⟩
    go_wp2
    go_ret
    exact ⟨rfl, HB2.out.trans (b2.mono HB2.out.size)⟩
  | true =>
    by_cases g1 : 8192 < (s.size : Int)
    · go_wp2_with fail
      refine (awake_any _).mono ?_
      rintro e w2 ⟨rfl, b2⟩
      go_wp2
      go_ret
      exact ⟨rfl, HB2.out.trans (b2.mono HB2.out.size)⟩
    · by_cases g2 : 200 < (q : Int)
      · go_wp2_with fail
        refine (awake_any _).mono ?_
        rintro e w2 ⟨rfl, b2⟩
        go_wp2
        go_ret
        exact ⟨rfl, HB2.out.trans (b2.mono HB2.out.size)⟩
      · go_wp2_with fail
        refine (made_law x K A n c xs HK.out.2.2.1 HK.out.1 HK.out.2.1 HK.out.2.2.2.2 _ (HX.out.below HB2.out)).mono ?_
        rintro e w2 ⟨rfl, h2, b2⟩
        have H2 := Lib.hid h2
        have B2 := Lib.hid b2
        clear h2 b2
        go_wp2_with fail
        refine (start_any _ _ _ _ _ H2.out).mono ?_
        rintro e w3 ⟨rfl, h3, g3, _⟩
        have H3 := Lib.hid h3
        have G3 := Lib.hid g3
        clear h3 g3
        go_wp2_with fail
        refine (fuse_all _ _ _ _ (-1) (by decide) _ H3.out).mono ?_
        rintro e w4 ⟨rfl, h4, g4⟩
        have e0 : fuE (startD (stL K xs)) = 0 := if_pos (start_on _)
        rw [e0]
        have H4 := Lib.hid h4
        have G4 := Lib.hid (G3.out.trans g4)
        clear h4 g4 e0
        have hB5 := Lib.hid (fun (w9 : World) (hg : Chg (Own (w1.heap.size + 2) w1.heap.size (w1.heap.size + 1)) w2 w9) => B2.out.trans (hg.below B2.out.size (fun k hk hh => by rcases hh with hh | hh | hh <;> omega)))
        have hzz : (d1 (stL K xs)).size = K := by rw [d1_size, stL_size]
        go_wp2_with fail
        refine (write_all _ _ _ _ i s _ H4.out).mono ?_
        rintro e w5 ⟨rfl, h5, g5⟩
        have H5 := Lib.hid h5
        have G5 := Lib.hid (G4.out.trans g5)
        clear h5 g5
        by_cases hbad : inside (d1 (stL K xs)) i = false ∨ 4096 < s.size
        · have e1 : wrE (fuD (startD (stL K xs)) (-1)) i s = 22 := by
            show wrE (d1 (stL K xs)) i s = 22
            unfold wrE
            rw [if_neg (by rw [d1_on]; decide), if_pos hbad]
          rw [e1]
          have hw5 := Lib.hid (HB2.out.trans ((hB5.out _ G5.out).mono HB2.out.size))
          have hin := inside_iff (d1 (stL K xs)) i
          rw [hzz] at hin
          by_cases j1 : i < 0
          · clear hin hbad e1
            go_wp2_with fail
            refine (awake_any _).mono ?_
            rintro e w6 ⟨rfl, b6⟩
            go_wp2
            go_ret
            exact ⟨rfl, hw5.out.trans (b6.mono hw5.out.size)⟩
          · by_cases j2 : (K : Int) ≤ i
            · clear hin hbad e1
              go_wp2_with fail
              refine (size_any x K HK.out.2.2.2.2 _).mono ?_
              rintro e w' ⟨rfl, rfl⟩
              go_wp2_with fail
              refine (awake_any _).mono ?_
              rintro e w6 ⟨rfl, b6⟩
              go_wp2
              go_ret
              exact ⟨rfl, hw5.out.trans (b6.mono hw5.out.size)⟩
            · have j3 : 4096 < (s.size : Int) := by
                rcases hbad with hb | hb
                · have := hin.2 ⟨by omega, by omega⟩
                  rw [this] at hb
                  cases hb
                · omega
              clear hin hbad e1
              go_wp2_with fail
              refine (size_any x K HK.out.2.2.2.2 _).mono ?_
              rintro e w' ⟨rfl, rfl⟩
              go_wp2_with fail
              refine (awake_any _).mono ?_
              rintro e w6 ⟨rfl, b6⟩
              go_wp2
              go_ret
              exact ⟨rfl, hw5.out.trans (b6.mono hw5.out.size)⟩
        · have hi : inside (d1 (stL K xs)) i = true := by
            cases hq : inside (d1 (stL K xs)) i with
            | true => rfl
            | false => exact absurd (.inl hq) hbad
          have hs : s.size ≤ 4096 := by
            rcases Nat.lt_or_ge 4096 s.size with k | k
            · exact absurd (.inr k) hbad
            · exact k
          obtain ⟨e1, e2, hk⟩ := d3_keeps (stL K xs) i s hi hs
          have e1 : wrE (fuD (startD (stL K xs)) (-1)) i s = 0 := e1
          have hin := (inside_iff (d1 (stL K xs)) i).1 hi
          rw [hzz] at hin
          obtain ⟨I, rfl⟩ := Int.eq_ofNat_of_zero_le hin.1
          rw [e1]
          have hz3 : (flD (wrD (d1 (stL K xs)) I s)).size = K := by
            have h1 := do_size (d1 (stL K xs)) ⟨0, I, s, []⟩
            have h2 := do_size (wrD (d1 (stL K xs)) I s) ⟨3, 0, s, []⟩
            have e3 : doD (d1 (stL K xs)) ⟨0, I, s, []⟩ = wrD (d1 (stL K xs)) I s := do_write _ _ _
            have e4 : doD (wrD (d1 (stL K xs)) I s) ⟨3, 0, s, []⟩ = flD (wrD (d1 (stL K xs)) I s) := do_flush _ _ _
            rw [e3] at h1
            rw [e4] at h2
            rw [h2, h1, hzz]
          have HKP := Lib.hid (And.intro hk (And.intro hz3 (show I < K by omega)))
          have E2 := Lib.hid e2
          clear e1 e2 hk hi hs hin hzz hbad hz3 g1 g2
          go_wp2_with fail
          refine (flush_all _ _ _ _ _ H5.out).mono ?_
          rintro e w6 ⟨rfl, h6, g6⟩
          have e2 : flE (wrD (fuD (startD (stL K xs)) (-1)) I s) = 0 := E2.out
          rw [e2]
          have H6 := Lib.hid h6
          have G6 := Lib.hid (G5.out.trans g6)
          clear h6 g6 e2
          go_wp2
          go_loopw [69] (fun i wr => ∃ (j : Nat) (dd : St), j ≤ m ∧ i = .int .i64 j ∧ DevIs wr (w1.heap.size + 2) w1.heap.size (w1.heap.size + 1) dd ∧ (Keeps dd I s ∧ dd.size = K) ∧ Chg (Own (w1.heap.size + 2) w1.heap.size (w1.heap.size + 1)) w2 wr) (fun i _ => m - (intOf i).toNat)
          case atStart => exact ⟨0, _, Nat.zero_le _, rfl, H6.out, ⟨HKP.out.1, HKP.out.2.1⟩, G6.out⟩
          case round =>
            obtain ⟨j, dd, hj, rfl, hd, hkp, hC⟩ := hrel
            have HBr := Lib.hid (HB2.out.trans ((hB5.out _ hC).mono HB2.out.size))
            have HD := Lib.hid hd
            have HC := Lib.hid hC
            have HP := Lib.hid hkp
            have hr := HY.out.below HBr.out
            have hm := HK.out.2.2.2.1
            clear hd hC hkp
            by_cases hlt : j < m
            · obtain ⟨b, off, rfl, hbl, hcl⟩ := hr.cells (by omega)
              have hjx : j < ys.length := by rw [hr.len]; exact hlt
              obtain ⟨c0, c1, c2, c3⟩ := hcl j hjx
              have hfit := hr.each _ (List.getElem_mem hjx)
              clear hcl hr
              generalize ys[j] = y at *
              have HFit := Lib.hid hfit
              have hb : Below wr.heap.size wr (wr.alloc (.cells #[.int .i64 y.v.op, .int .i64 y.v.i, .string y.v.s, .slice y.A y.n y.c] 34)) := (Below.refl _ _).alloc (Nat.le_refl _) _
              have HBb := Lib.hid hb
              have HX2 := Lib.hid (does_any _ _ _ dd y.v y.A y.n y.c _ (Nat.le_trans HFit.out.len HFit.out.cap) HFit.out.i.2 (HFit.out.row.below HBb.out) (HD.out.below HBb.out))
              have h7 := and7 y.v.op
              clear hfit hjx hbl hb
              by_cases g1 : bits .and .i64 y.v.op 7 < 3
              · by_cases g2 : y.v.i = (I : Int)
                · have t2 : (y.v.i == (I : Int)) = true := by rw [g2]; simp
                  clear g2 h7 HX2
                  go_wp2
                  go_roundw
                  case rel => exact ⟨j + 1, dd, by omega, by go_num, HD.out.below HBb.out, HP.out, HC.out.trans (Chg.of_below HBb.out _)⟩
                  case measure => simp [intOf]; omega
                · have t2 : (y.v.i == (I : Int)) = false := beq_eq_false_iff_ne.2 g2
                  have hnk := Lib.hid (do_keeps HP.out.1 y.v (fun k => g2 k.2))
                  clear g2 h7
                  go_wp2_with fail
                  refine HX2.out.mono ?_
                  rintro e w7 ⟨rfl, h7, g7⟩
                  have H7 := Lib.hid (And.intro h7 (HC.out.trans ((Chg.of_below HBb.out _).trans g7)))
                  clear h7 g7 HX2 c0 c1 c2 c3
                  go_wp2
                  go_roundw
                  case rel => exact ⟨j + 1, doD dd y.v, by omega, by go_num, H7.out.1, ⟨hnk.out, by rw [do_size]; exact HP.out.2⟩, H7.out.2⟩
                  case measure => simp [intOf]; omega
              · have hnk := Lib.hid (do_keeps HP.out.1 y.v (fun k => by have h8 : opOf y.v = bits .and .i64 y.v.op 7 := rfl; omega))
                clear h7
                go_wp2_with fail
                refine HX2.out.mono ?_
                rintro e w7 ⟨rfl, h7, g7⟩
                have H7 := Lib.hid (And.intro h7 (HC.out.trans ((Chg.of_below HBb.out _).trans g7)))
                clear h7 g7 HX2 c0 c1 c2 c3
                go_wp2
                go_roundw
                case rel => exact ⟨j + 1, doD dd y.v, by omega, by go_num, H7.out.1, ⟨hnk.out, by rw [do_size]; exact HP.out.2⟩, H7.out.2⟩
                case measure => simp [intOf]; omega
            · obtain rfl : j = m := by omega
              clear hr hlt hj hm
              go_wp2_with fail
              refine (crash_any _ _ _ _ D q _ ks _ hq.out (HQ.out.below HBr.out) HD.out).mono ?_
              rintro e w7 ⟨rfl, h7, g7⟩
              have H7 := Lib.hid h7
              have HB7 := Lib.hid (HB2.out.trans ((hB5.out _ (HC.out.trans g7)).mono HB2.out.size))
              clear h7 g7
              go_wp2_with fail
              refine (blocks_any _ _ _ _ _ H7.out).mono ?_
              rintro e w8 ⟨v, rfl, hv, b8⟩
              have hkb : (bl (crashD dd ks))[I]? = some s := bl_keeps (crash_keeps HP.out.1 ks) (by show I < dd.size; rw [HP.out.2]; exact HKP.out.2.2)
              have hlb : (bl (crashD dd ks)).length = K := by rw [bl_len]; exact HP.out.2
              have hIK := HKP.out.2.2
              have hK40 := HK.out.2.1
              generalize bl (crashD dd ks) = L at *
              have HB8 := Lib.hid (HB7.out.trans (b8.mono HB7.out.size))
              rcases hv.2 with ⟨_, h0⟩ | ⟨g, cc, cur, rfl, hg, hh, _⟩
              · omega
              · have cI := strs_cell hv hkb
                rw [hlb]
                clear hv hh b8 hkb hlb
                go_wp2_with fail
                refine (awake_any _).mono ?_
                rintro e w9 ⟨rfl, b9⟩
                go_wp2
                go_ret
                exact ⟨rfl, HB8.out.trans (b9.mono HB8.out.size)⟩
theorem flu_walk (w : World) (a0 : Int) (A1 : Option Addr) (n1 c1 : Nat) (a1 : List DoC) (A2 : Option Addr) (n2 c2 : Nat) (a2 : List DoC) (a3 : Int) (a4 : ByteArray) (A5 : Option Addr) (n5 c5 : Nat) (a5 : List Int)
    (_ : (Lit.int .i64 a0).wf = true) (w1 : DoRow w A1 n1 a1) (b1 : n1 ≤ c1) (m1 : c1 ≤ maxLen) (w2 : DoRow w A2 n2 a2) (b2 : n2 ≤ c2) (m2 : c2 ≤ maxLen) (_ : (Lit.int .i64 a3).wf = true) (_ : a4.size ≤ maxLen)
    (w5 : NumRow w A5 n5 a5) (_ : A5 = none → n5 = 0 ∧ c5 = 0) (b5 : n5 ≤ c5) (m5 : c5 ≤ maxLen) (_ : ∀ x ∈ a5, -9223372036854775808 ≤ x ∧ x ≤ 9223372036854775807) :
    Calls Try.prog 5 #[.int .i64 a0, .slice A1 n1 c1, .slice A2 n2 c2, .int .i64 a3, .string a4, .slice A5 n5 c5] w fun e w' => e = .returned (.bool true) ∧ Below w.heap.size w w' :=
  flu_law a0 A1 n1 c1 a1 A2 n2 c2 a2 a3 a4 A5 n5 c5 a5 (by unfold maxLen at m1; omega) (by unfold maxLen at m2; omega) (Nat.le_trans b5 m5) w w1 w2 w5
end Go.Proofs.Ytdedbbbgpjhjhac.Dv
