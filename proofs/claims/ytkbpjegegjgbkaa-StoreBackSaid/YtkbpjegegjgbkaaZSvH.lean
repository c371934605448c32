import Derived.Test.YtkbpjegegjgbkaaT13
import Derived.Test.YtkbpjegegjgbkaaT10

/- The walk of the law StoreBack. -/
namespace Go.Proofs.Ytkbpjegegjgbkaa.Sto
open Go.RowKit
open Oct (Has Chg)
open Rws
open Dv (DoV)
open Mem (IMap)
set_option linter.unusedVariables false

set_option maxRecDepth 100000 in
set_option maxHeartbeats 8000000 in
theorem back_law (x : Int) (A : Option Addr) (n c : Nat) (xs : List DoC) (B : Option Addr) (m d : Nat) (ks : List Int) (t : ByteArray) (hn : n ≤ 9223372036854775807) (w : World) (h : DoRow w A n xs) (h3 : NumRow w B m ks) :
    Calls Try.prog 4 #[.int .i64 x, .slice A n c, .slice B m d, .string t] w fun e w' => e = .returned (.bool true) ∧ Below w.heap.size w w' := by
  obtain ⟨K, k1, k2, hK⟩ := size_of x
  obtain ⟨W1, hW1⟩ : ∃ W1 : World, W1 = w.alloc (.cells #[.slice A n c] 22) := ⟨_, rfl⟩
  have b1 : Below w.heap.size w W1 := by rw [hW1]; exact (Below.refl _ w).alloc (Nat.le_refl _) _
  have h1 : Has W1 w.heap.size 22 #[.slice A n c] := by rw [hW1]; exact Has.fresh w _ _
  have HL := Lib.hid (dos_list W1 A n c _ xs (h.below b1) hn h1)
  have HX := Lib.hid h
  have HQ := Lib.hid h3
  have HB1 := Lib.hid b1
  have HK := Lib.hid (And.intro k1 (And.intro k2 (And.intro hn hK)))
  clear h h1 h3 b1 k1 k2 hn hK
  go_enter Try.func4, Try.ntmps4
  go_wp2_with fail
  rw [← hW1]
  clear hW1
  refine (short_few _ 1 1 _ (by decide) _ HL.out).mono ?_
  rintro e w1 ⟨⟨tt, rfl, hfew⟩, b1⟩
  have HB2 := Lib.hid (HB1.out.trans (b1.mono HB1.out.size))
  clear b1 HL HB1
  cases tt with
  | false =>
    clear hfew
    go_wp2_with fail
    refine (awake_any _).mono ?_
    rintro e w2 ⟨rfl, b2⟩
    go_wp2
    go_ret
    exact ⟨rfl, HB2.out.trans (b2.mono HB2.out.size)⟩
  | true =>
    have HN60 := Lib.hid (show n ≤ 60 by
      have := hfew rfl
      have e : sumL [⟨A, n, c, xs⟩] 1 = xs.length := by simp [sumL]
      rw [e, HX.out.len] at this
      exact this)
    clear hfew
    by_cases g1 : 100 < (m : Int)
    · go_wp2_with fail
      refine (awake_any _).mono ?_
      rintro e w2 ⟨rfl, b2⟩
      go_wp2
      go_ret
      exact ⟨rfl, HB2.out.trans (b2.mono HB2.out.size)⟩
    · by_cases g2 : 8192 < (t.size : Int)
      · go_wp2_with fail
        refine (awake_any _).mono ?_
        rintro e w2 ⟨rfl, b2⟩
        go_wp2
        go_ret
        exact ⟨rfl, HB2.out.trans (b2.mono HB2.out.size)⟩
      · have HM100 := Lib.hid (show m ≤ 100 by omega)
        go_wp2_with fail
        refine (size_sto x K HK.out.2.2.2 _).mono ?_
        rintro e w2 ⟨rfl, b2⟩
        have HB3 := Lib.hid (HB2.out.trans (b2.mono HB2.out.size))
        clear b2 HB2 g1 g2
        go_wp2_with fail
        refine (Dv.new_good K HK.out.1 (by have := HK.out.2.1; omega) _).mono ?_
        rintro e w3 ⟨rfl, hd3, b3, z3⟩
        have HB4 := Lib.hid (HB3.out.trans (b3.mono HB3.out.size))
        have HF := Lib.hid (format_dev (w2.heap.size + 2) w2.heap.size (w2.heap.size + 1) (Dv.newSt K) ⟨#[]⟩ (by show K ≠ 0; have := HK.out.1; omega) (by decide) w3 hd3 _ (fmt_calm ⟨rfl, rfl⟩ (by show 2 ≤ K; have := HK.out.1; omega) ⟨#[]⟩ (by decide)))
        clear hd3 b3 z3
        go_wp2_with fail
        refine HF.out.mono ?_
        rintro e w4 ⟨hq, hc4⟩
        obtain ⟨p, F0, rfl, hL⟩ : ∃ p F, e = .returned (.tuple #[.pointer (some ⟨p, 0, none⟩), .int .i64 0]) ∧ Laid w3.heap.size (bareV 1 0 ⟨#[]⟩ (fmtZ ⟨#[]⟩ (Dv.newSt K))) (w2.heap.size + 2) w2.heap.size (w2.heap.size + 1) p F w4 := hq
        have hs1 := HB4.out.size
        have hs2 := HB3.out.size
        have HS0 := Lib.hid hL.is
        have HFR0 := Lib.hid (show Fresh w.heap.size p F0 (bareV 1 0 ⟨#[]⟩ (fmtZ ⟨#[]⟩ (Dv.newSt K))) from ⟨Nat.le_trans hs1 hL.p, Nat.le_trans hs1 hL.t, Nat.le_trans hs1 hL.k, by rw [hL.d]; omega, by rw [hL.dk]; omega, by rw [hL.dd]; omega, fun z hz => by cases hz⟩)
        have HB5 := Lib.hid (below_chg HB4.out hs1 hc4 (fun k hk => by
          rcases hk with e | e | e
          · rw [e]; omega
          · rw [e]; omega
          · rw [e]; omega))
        have HI0 := Lib.hid (show Inv K 0 (bareV 1 0 ⟨#[]⟩ (fmtZ ⟨#[]⟩ (Dv.newSt K))) ∧ Calm (bareV 1 0 ⟨#[]⟩ (fmtZ ⟨#[]⟩ (Dv.newSt K))).dev from inv_new (And.intro HK.out.1 HK.out.2.1) ⟨#[]⟩ (by decide))
        clear hL hc4 hs1 hs2 HB4 HB3 HF
        generalize bareV 1 0 ⟨#[]⟩ (fmtZ ⟨#[]⟩ (Dv.newSt K)) = s0 at *
        go_wp2
        go_loopw [52] (fun i wr => ∃ (j : Nat) (F : Fr) (s : SV), j ≤ n ∧ i = .int .i64 j ∧ Hid (StoIs wr p F s) ∧ Hid (Inv K j s ∧ Calm s.dev) ∧ Hid (Fresh w.heap.size p F s) ∧ Hid (Below w.heap.size w wr)) (fun i _ => n - (intOf i).toNat)
        case atStart => exact ⟨0, F0, s0, Nat.zero_le _, rfl, HS0, HI0, HFR0, HB5⟩
        case round =>
          obtain ⟨j, F, s, hj, rfl, HS, HI, HFR, HB⟩ := hrel
          have hn := HK.out.2.2.1
          clear HS0 HI0 HFR0 HB5
          have hr := HX.out.below HB.out
          by_cases hlt : j < n
          · obtain ⟨b, off, rfl, hbl, hcl⟩ := hr.cells (by omega)
            have hjx : j < xs.length := by rw [hr.len]; exact hlt
            obtain ⟨c0, c1, c2, c3⟩ := hcl j hjx
            have HFitO := Lib.hid (HX.out.each _ (List.getElem_mem hjx))
            clear hcl hr
            generalize xs[j] = x at *
            have hb : Below wr.heap.size wr (wr.alloc (.cells #[.int .i64 x.v.op, .int .i64 x.v.i, .slice x.A x.n x.c, .string x.v.s] 41)) := (Below.refl _ _).alloc (Nat.le_refl _) _
            have hx := Has.fresh wr 41 #[.int .i64 x.v.op, .int .i64 x.v.i, .slice x.A x.n x.c, .string x.v.s]
            have k0 := Has.at_ hx 0
            have k1 := Has.at_ hx 1
            have k2 := Has.at_ hx 2
            have k3 := Has.at_ hx 3
            simp at k0 k1 k2 k3
            have HHX := Lib.hid hx
            have HBA := Lib.hid hb
            have HBB := Lib.hid (HB.out.trans (hb.mono HB.out.size))
            have HJ := Lib.hid (And.intro hj hlt)
            clear hb hx hjx hbl
            go_wp2_with fail
            refine (op_any _ _ _ _ _).mono ?_
            rintro e w5 ⟨rfl, b5⟩
            have hx5 := has_blw HHX.out b5
            have q0 := Has.at_ hx5 0
            have q1 := Has.at_ hx5 1
            have q2 := Has.at_ hx5 2
            have q3 := Has.at_ hx5 3
            simp at q0 q1 q2 q3
            have HBC := Lib.hid (HBB.out.trans (b5.mono HBB.out.size))
            have hbw : Below wr.heap.size wr w5 := HBA.out.trans (b5.mono HBA.out.size)
            have HS5 := Lib.hid (HS.out.below hbw)
            clear b5 hx5 k0 k1 k2 k3 c0 c1 c2 c3
            by_cases g11 : opM x.v.op < 11
            · have HD := Lib.hid (does_sto K j p (w2.heap.size + 2) F s x.v x.A x.n x.c HI.out.1 (by have := HN60.out; omega) g11 w5 HS5.out (HFitO.out.row.below HBC.out) (fun h0 b off e hb => by
                obtain ⟨b', off', e', hlt', _⟩ := HFitO.out.row.2 h0
                rw [e] at e'
                injection e' with e'
                injection e' with e1 e2 e3
                have := HFR.out.put b hb
                omega))
              clear hbw
              go_wp2_with fail
              refine HD.out.mono ?_
              rintro e w6 ⟨v, bb, E, rfl, s', hdv, ⟨F', hs6, e1, e2, e3, e4, e5, hg6⟩, hc6⟩
              have HS6 := Lib.hid hs6
              have HI6 := Lib.hid (And.intro (inv_does HI.out.1 hdv) (calm_does HI.out.1 HI.out.2 hdv))
              have HFR6 := Lib.hid (HFR.out.step HBC.out.size e1 e2 e3 e4 e5 hg6)
              have HB6 := Lib.hid (below_chg HBC.out HBC.out.size hc6 HFR.out.dos)
              clear hs6 hdv e1 e2 e3 e4 e5 hg6 hc6 HD q0 q1 q2 q3
              go_wp2
              go_roundw
              case rel => exact ⟨j + 1, F', s', by omega, by go_num, HS6, HI6, HFR6, HB6⟩
              case measure => simp [intOf]; omega
            · clear hbw q0 q1 q2 q3
              go_wp2
              go_roundw
              case rel => exact ⟨j + 1, F, s, by omega, by go_num, HS5, Lib.hid (And.intro HI.out.1.more HI.out.2), HFR, HBC⟩
              case measure => simp [intOf]; omega
          · obtain rfl : j = n := by omega
            have HFREE := Lib.hid (free_any p F s wr HS.out)
            clear hr hlt hj
            go_wp2_with fail
            refine HFREE.out.mono ?_
            rintro e w5 ⟨hq, b5⟩
            obtain rfl := free_is HI.out.1 hq
            have HS5 := Lib.hid (HS.out.below b5)
            have HB5 := Lib.hid (HB.out.trans (b5.mono HB.out.size))
            have hm := HM100.out
            have HCL := Lib.hid (cloni_any B m d ks (by omega) w5 (HQ.out.below HB5.out))
            clear hq b5 HFREE hm
            go_wp2_with fail
            refine HCL.out.mono ?_
            rintro e w6 ⟨v, rfl, ho, b6⟩
            obtain ⟨A6, c6, rfl⟩ := own_sl ho
            have HS6 := Lib.hid (HS5.out.below b6)
            have HB6 := Lib.hid (HB5.out.trans (b6.mono HB5.out.size))
            have HROW6 := Lib.hid (row_of_own ho rfl)
            have HNOT6 := Lib.hid (row_put ho HS6.out)
            have HPC := Lib.hid (put_calm HI.out.1 HI.out.2 ks t)
            clear ho b6 HCL
            rcases HPC.out with hp | ⟨hp, hL⟩ | ⟨q, hp, hq2, hqK, hqn, hqk, hl16, ht39, hks⟩
            · have HP := Lib.hid (put_sto p F s HI.out.1.low A6 ks.length c6 ks t w6 HS6.out HROW6.out HNOT6.out _ hp)
              clear hp
              go_wp2_with fail
              refine HP.out.mono ?_
              rintro e w7 ⟨rfl, ⟨F7, hs7, e1, e2, e3, e4, e5, hg7⟩, hc7⟩
              have hs7 : StoIs w7 p F7 s := hs7
              have HB7 := Lib.hid (below_chg HB6.out HB6.out.size hc7 HFR.out.put)
              have HFREE := Lib.hid (free_any p F7 s w7 hs7)
              clear hs7 e1 e2 e3 e4 e5 hg7 hc7 HP
              dsimp only
              go_wp2_with fail
              refine HFREE.out.mono ?_
              rintro e w8 ⟨hq, b8⟩
              obtain rfl := free_is HI.out.1 hq
              have HB8 := Lib.hid (HB7.out.trans (b8.mono HB7.out.size))
              clear hq b8 HFREE
              go_wp2_with fail
              refine (awake_any _).mono ?_
              rintro e w9 ⟨rfl, b9⟩
              go_wp2
              go_ret
              exact ⟨rfl, HB8.out.trans (b9.mono HB8.out.size)⟩
            · have HP := Lib.hid (put_sto p F s HI.out.1.low A6 ks.length c6 ks t w6 HS6.out HROW6.out HNOT6.out _ hp)
              have hz := free_zero HI.out.1 hL
              rw [hz]
              clear hp
              go_wp2_with fail
              refine HP.out.mono ?_
              rintro e w7 ⟨rfl, ⟨F7, hs7, e1, e2, e3, e4, e5, hg7⟩, hc7⟩
              have hs7 : StoIs w7 p F7 s := hs7
              have HB7 := Lib.hid (below_chg HB6.out HB6.out.size hc7 HFR.out.put)
              have HFREE := Lib.hid (free_any p F7 s w7 hs7)
              have HZ := Lib.hid hz
              clear hs7 e1 e2 e3 e4 e5 hg7 hc7 HP hz hL
              dsimp only
              go_wp2_with fail
              refine HFREE.out.mono ?_
              rintro e w8 ⟨hq, b8⟩
              obtain rfl := free_is HI.out.1 hq
              rw [HZ.out]
              have HB8 := Lib.hid (HB7.out.trans (b8.mono HB7.out.size))
              clear hq b8 HFREE
              go_wp2_with fail
              refine (awake_any _).mono ?_
              rintro e w9 ⟨rfl, b9⟩
              go_wp2
              go_ret
              exact ⟨rfl, HB8.out.trans (b9.mono HB8.out.size)⟩
            · have HP := Lib.hid (put_sto p F s HI.out.1.low A6 ks.length c6 ks t w6 HS6.out HROW6.out HNOT6.out _ hp)
              have HI7 := Lib.hid (show Inv K (j + 1) (addV { s with dev := Dv.putD s.dev q (blockB ks t) } q ks) by
                have h := inv_put HI.out.1 ks t
                rw [hp] at h
                exact h)
              have HG := Lib.hid (get_back HI.out.1 HI.out.2 hq2 hqK hl16 ht39 hks)
              have HN := Lib.hid (show (addV { s with dev := Dv.putD s.dev q (blockB ks t) } q ks).nodes q = some (newNode { s with dev := Dv.putD s.dev q (blockB ks t) } ks) from add_new hqn hks hl16)
              have HZ := Lib.hid (free_put HI.out.1 hqK hqn hqk ks (Dv.putD s.dev q (blockB ks t)))
              clear hp hq2 hqn hqk ht39 hks
              generalize addV { s with dev := Dv.putD s.dev q (blockB ks t) } q ks = s7 at *
              go_wp2_with fail
              refine HP.out.mono ?_
              rintro e w7 ⟨rfl, ⟨F7, hs7, e1, e2, e3, e4, e5, hg7⟩, hc7⟩
              have HS7 := Lib.hid (show StoIs w7 p F7 s7 from hs7)
              have HB7 := Lib.hid (below_chg HB6.out HB6.out.size hc7 HFR.out.put)
              have HROW7 := Lib.hid (row_chg HROW6.out hc7 HNOT6.out)
              have HGT := Lib.hid (get_sto p F7 s7 q w7 HS7.out (HI7.out.small.read _) (some (ks, t)) 0 HG.out)
              clear hs7 e1 e2 e3 e4 e5 hg7 hc7 HP HROW6 HNOT6
              dsimp only
              go_wp2_with fail
              refine HGT.out.mono ?_
              rintro e w8 ⟨hq8, b8⟩
              obtain ⟨v8, rfl, hov⟩ : ∃ v, e = .returned (.tuple #[.agg #[v, .string t], .int .i64 0]) ∧ OwnI w8 w7.heap.size v ks := hq8
              obtain ⟨A8, c8, rfl⟩ := own_sl hov
              have hb9 : Below w8.heap.size w8 (w8.alloc (.cells #[.slice A8 ks.length c8, .string t] 45)) := (Below.refl _ _).alloc (Nat.le_refl _) _
              have HF9 := Lib.hid (Has.fresh w8 45 #[.slice A8 ks.length c8, .string t])
              have HS9 := Lib.hid ((HS7.out.below b8).below hb9)
              have HRW9 := Lib.hid ((row_of_own hov rfl).below hb9)
              have HRV9 := Lib.hid ((HROW7.out.below b8).below hb9)
              have hB8 := HB7.out.trans (b8.mono HB7.out.size)
              have HB9 := Lib.hid (hB8.trans (hb9.mono hB8.size))
              have HRF := Lib.hid (show Calls Try.prog 24 #[.pointer (some ⟨p, 0, none⟩), .int .i64 (q : Int)] (w8.alloc (.cells #[.slice A8 ks.length c8, .string t] 45)) fun e w' => e = .returned (.tuple #[.int .i64 0, .int .i64 0, .bool true]) ∧ Below (w8.alloc (.cells #[.slice A8 ks.length c8, .string t] 45)).heap.size (w8.alloc (.cells #[.slice A8 ks.length c8, .string t] 45)) w' from refs_sto p F7 s7 q _ HN.out _ HS9.out)
              have HL16 := Lib.hid hl16
              clear hov b8 hb9 hB8 HGT HROW7 HS7 HB7 hl16
              go_wp2_with fail
              refine HRF.out.mono ?_
              rintro e w10 ⟨rfl, b10⟩
              have HS10 := Lib.hid (HS9.out.below b10)
              have HRW10 := Lib.hid (HRW9.out.below b10)
              have HRV10 := Lib.hid (HRV9.out.below b10)
              have HB10 := Lib.hid (HB9.out.trans (b10.mono HB9.out.size))
              have hf10 := has_blw HF9.out b10
              have j0 := Has.at_ hf10 0
              have j1 := Has.at_ hf10 1
              simp at j0 j1
              have HE1 := Lib.hid (eqi_same A8 B ks.length m c8 d ks (by have := HL16.out; omega) w10 HRW10.out (HQ.out.below HB10.out))
              clear hf10 b10 HRF HS9 HRW9 HRV9 HB9 HF9
              go_wp2_with fail
              refine HE1.out.mono ?_
              rintro e w11 ⟨rfl, b11⟩
              have HS11 := Lib.hid (HS10.out.below b11)
              have HRV11 := Lib.hid (HRV10.out.below b11)
              have HB11 := Lib.hid (HB10.out.trans (b11.mono HB10.out.size))
              have HE2 := Lib.hid (eqi_same A6 B ks.length m c6 d ks (by have := HL16.out; omega) w11 HRV11.out (HQ.out.below HB11.out))
              clear b11 HE1 HS10 HRV10 HRW10 HB10 j0 j1
              go_wp2_with fail
              refine HE2.out.mono ?_
              rintro e w12 ⟨rfl, b12⟩
              have HS12 := Lib.hid (HS11.out.below b12)
              have HB12 := Lib.hid (HB11.out.trans (b12.mono HB11.out.size))
              have HFREE := Lib.hid (free_any p F7 s7 w12 HS12.out)
              clear b12 HE2 HS11 HRV11 HB11
              go_wp2_with fail
              refine HFREE.out.mono ?_
              rintro e w13 ⟨hq, b13⟩
              obtain rfl := free_is HI7.out hq
              have HB13 := Lib.hid (HB12.out.trans (b13.mono HB12.out.size))
              have t1 : wrap64 (freeZ K s - 1) = freeZ K s - 1 := by
                have := cntN_le (isQ s) K
                have := cntN_le (keptQ s) K
                have := HK.out.1
                have := HK.out.2.1
                unfold wrap64 freeZ
                omega
              rw [HZ.out]
              clear hq b13 HFREE
              generalize freeZ K s = z at *
              go_wp2_with fail
              refine (awake_any _).mono ?_
              rintro e w14 ⟨rfl, b14⟩
              go_wp2
              go_ret
              exact ⟨rfl, HB13.out.trans (b14.mono HB13.out.size)⟩
theorem back_walk (w : World) (a0 : Int) (A1 : Option Addr) (n1 c1 : Nat) (a1 : List DoC) (A2 : Option Addr) (n2 c2 : Nat) (a2 : List Int) (a3 : ByteArray)
    (_ : (Lit.int .i64 a0).wf = true) (w1 : DoRow w A1 n1 a1) (b1 : n1 ≤ c1) (m1 : c1 ≤ maxLen)
    (w2 : NumRow w A2 n2 a2) (_ : A2 = none → n2 = 0 ∧ c2 = 0) (_ : n2 ≤ c2) (_ : c2 ≤ maxLen) (_ : ∀ x ∈ a2, -9223372036854775808 ≤ x ∧ x ≤ 9223372036854775807) (_ : a3.size ≤ maxLen) :
    Calls Try.prog 4 #[.int .i64 a0, .slice A1 n1 c1, .slice A2 n2 c2, .string a3] w fun e w' => e = .returned (.bool true) ∧ Below w.heap.size w w' :=
  back_law a0 A1 n1 c1 a1 A2 n2 c2 a2 a3 (by unfold maxLen at m1; omega) w w1 w2
end Go.Proofs.Ytkbpjegegjgbkaa.Sto
