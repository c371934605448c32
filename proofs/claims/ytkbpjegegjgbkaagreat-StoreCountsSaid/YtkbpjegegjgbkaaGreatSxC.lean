/- The walk of the law StoreCounts. -/
import Derived.Test.YtkbpjegegjgbkaaGreatSxB
import Derived.Test.YtkbpjegegjgbkaaGreatT10
namespace Go.Proofs.YtkbpjegegjgbkaaGreat.Sto
open Go.RowKit
open Oct (Has Chg)
open Rws
open Dv (DoV)
open Mem (IMap)
set_option linter.unusedVariables false

theorem nodupK {K : Nat} {l : List Int} (h : l.Pairwise (· < ·)) (hl : ∀ z ∈ l, 0 ≤ z ∧ z < (K : Int)) : l.length ≤ K := Dv.nodup_len K l (h.imp fun hab e => by omega) hl
theorem mapII : Tryz.prog.underlying 56 = some (.map 3 3) := Tryz.underlying56
theorem zero_int (w : World) : (zeroValue 3).run Tryz.prog w = .ok (.int .i64 0) w := by kernel_rfl
/-- A map that counts. -/
def CntM (w : World) (b : Nat) (f : Int → Nat) : Prop := ∃ m, IMap w b m ∧ ∀ z, (m z).getD (.int .i64 0) = .int .i64 (f z : Nat)
theorem CntM.made (w : World) : CntM (w.alloc (.map #[] 0)) w.heap.size fun _ => 0 := ⟨_, IMap.made w, fun _ => rfl⟩
theorem CntM.look {w : World} {b : Nat} {f : Int → Nat} (h : CntM w b f) (z : Int) : (Instr.lookup 56 (.map (some b)) (.int .i64 z) false).run Tryz.prog w = .ok (.int .i64 (f z : Nat)) w := by
  obtain ⟨m, h1, h2⟩ := h
  rw [← h2 z]
  exact (h1.lookup mapII Dv.intT (.int .i64 0) zero_int z).1
theorem CntM.put {w : World} {b : Nat} {f : Int → Nat} (h : CntM w b f) (z : Int) (v : Nat) : ∃ w2, (Instr.mapUpdate 56 (.map (some b)) (.int .i64 z) (.int .i64 (v : Nat))).run Tryz.prog w = .ok () w2 ∧ CntM w2 b (fun y => if y = z then v else f y) ∧ Chg (· = b) w w2 := by
  obtain ⟨m, h1, h2⟩ := h
  obtain ⟨w2, hr, hm, hg, _⟩ := h1.update mapII Dv.intT z (.int .i64 (v : Nat))
  refine ⟨w2, hr, ⟨_, hm, fun y => ?_⟩, Oct.Chg.of hg⟩
  unfold Mem.upd
  by_cases e : y = z
  · simp [e]
  · simp only [if_neg e]
    exact h2 y
theorem CntM.below {w w' : World} {b : Nat} {f : Int → Nat} (h : CntM w b f) (hb : Below w.heap.size w w') : CntM w' b f := by
  obtain ⟨m, h1, h2⟩ := h
  exact ⟨m, h1.below hb, h2⟩
theorem own_cnt {w w' : World} {B g n : Nat} {v : Value} {xs : List Value} {f : Int → Nat} (h : w.ownsRow B 3 1 v n xs) (hg : CntM w g f) (hc : Chg (· = g) w w') : w'.ownsRow B 3 1 v n xs := by
  obtain ⟨m, h1, _⟩ := hg
  exact own_map h h1 hc
theorem cnt_other {w w' : World} {a b : Nat} {f : Int → Nat} (h : CntM w a f) (hne : a ≠ b) (hc : Chg (· = b) w w') : CntM w' a f := by
  obtain ⟨m, h1, h2⟩ := h
  exact ⟨m, h1.over hc.to hne, h2⟩
theorem sumK_take (f : Int → Option NodeV) (z : Int) (l : List Int) (j : Nat) : sumK f z (l.take j) ≤ sumK f z l := by
  conv => rhs; rw [← List.take_append_drop j l]
  unfold sumK
  rw [List.map_append, List.sum_append]
  omega
set_option maxRecDepth 100000 in
set_option maxHeartbeats 8000000 in
theorem counts_law (x : Int) (A : Option Addr) (n c : Nat) (xs : List DoC) (hn : n ≤ 9223372036854775807) (w : World) (h : DoRow w A n xs) :
    Calls Tryz.prog 4 #[.int .i64 x, .slice A n c] w fun e w' => e = .returned (.bool true) ∧ Below w.heap.size w w' := by
  obtain ⟨K, k1, k2, hK⟩ := size_of x
  obtain ⟨W1, hW1⟩ : ∃ W1 : World, W1 = w.alloc (.cells #[.slice A n c] 22) := ⟨_, rfl⟩
  have b1 : Below w.heap.size w W1 := by rw [hW1]; exact (Below.refl _ w).alloc (Nat.le_refl _) _
  have h1 : Has W1 w.heap.size 22 #[.slice A n c] := by rw [hW1]; exact Has.fresh w _ _
  have HL := Lib.hid (dos_list W1 A n c _ xs (h.below b1) hn h1)
  have HX := Lib.hid h
  have HB1 := Lib.hid b1
  have HK := Lib.hid (And.intro k1 (And.intro k2 (And.intro hn hK)))
  clear h h1 b1 k1 k2 hn hK
  go_enter Tryz.func4, Tryz.ntmps4
  go_wp2_with fail
  rw [← hW1]
  clear hW1
  refine (short_few _ 1 1 _ (by decide) _ HL.out).mono ?_
  rintro e w1 ⟨⟨tt, rfl, hfew⟩, b1⟩
  have HB2 := Lib.hid (HB1.out.trans (b1.mono HB1.out.size))
  clear b1 HL HB1
  cases tt with
  | false =>
    clear hfew
    go_wp2_with fail
    refine (awake_any _).mono ?_
    rintro e w2 ⟨rfl, b2⟩
    go_wp2
    go_ret
    exact ⟨rfl, HB2.out.trans (b2.mono HB2.out.size)⟩
  | true =>
    have HN60 := Lib.hid (show n ≤ 60 by
      have := hfew rfl
      have e : sumL [⟨A, n, c, xs⟩] 1 = xs.length := by simp [sumL]
      rw [e, HX.out.len] at this
      exact this)
    clear hfew
    go_wp2_with fail
    refine (size_sto x K HK.out.2.2.2 _).mono ?_
    rintro e w2 ⟨rfl, b2⟩
    have HB3 := Lib.hid (HB2.out.trans (b2.mono HB2.out.size))
    clear b2 HB2
    go_wp2_with fail
    refine (Dv.new_good K HK.out.1 (by have := HK.out.2.1; omega) _).mono ?_
    rintro e w3 ⟨rfl, hd3, b3, z3⟩
    have HB4 := Lib.hid (HB3.out.trans (b3.mono HB3.out.size))
    have HF := Lib.hid (format_dev (w2.heap.size + 2) w2.heap.size (w2.heap.size + 1) (Dv.newSt K) ⟨#[]⟩ (by show K ≠ 0; have := HK.out.1; omega) (by decide) w3 hd3 _ (fmt_calm ⟨rfl, rfl⟩ (by show 2 ≤ K; have := HK.out.1; omega) ⟨#[]⟩ (by decide)))
    clear hd3 b3 z3
    go_wp2_with fail
    refine HF.out.mono ?_
    rintro e w4 ⟨hq, hc4⟩
    obtain ⟨p, F0, rfl, hL⟩ : ∃ p F, e = .returned (.tuple #[.pointer (some ⟨p, 0, none⟩), .int .i64 0]) ∧ Laid w3.heap.size (bareV 1 0 ⟨#[]⟩ (fmtZ ⟨#[]⟩ (Dv.newSt K))) (w2.heap.size + 2) w2.heap.size (w2.heap.size + 1) p F w4 := hq
    have hs1 := HB4.out.size
    have hs2 := HB3.out.size
    have HS0 := Lib.hid hL.is
    have HFR0 := Lib.hid (show Fresh w.heap.size p F0 (bareV 1 0 ⟨#[]⟩ (fmtZ ⟨#[]⟩ (Dv.newSt K))) from ⟨Nat.le_trans hs1 hL.p, Nat.le_trans hs1 hL.t, Nat.le_trans hs1 hL.k, by rw [hL.d]; omega, by rw [hL.dk]; omega, by rw [hL.dd]; omega, fun z hz => by cases hz⟩)
    have HB5 := Lib.hid (below_chg HB4.out hs1 hc4 (fun k hk => by
      rcases hk with e | e | e
      · rw [e]; omega
      · rw [e]; omega
      · rw [e]; omega))
    have HW0 := Lib.hid (show CoI w w4 K 0 p (w2.heap.size + 2) F0 (bareV 1 0 ⟨#[]⟩ (fmtZ ⟨#[]⟩ (Dv.newSt K))) (fun _ => none) from ⟨HS0.out, (inv_new (And.intro HK.out.1 HK.out.2.1) ⟨#[]⟩ (by decide)).1, img_new (And.intro HK.out.1 HK.out.2.1) ⟨#[]⟩ (by decide), (inv_new (And.intro HK.out.1 HK.out.2.1) ⟨#[]⟩ (by decide)).2, in_new ⟨#[]⟩, HFR0.out, HB5.out, hL.d⟩)
    clear hL hc4 hs1 hs2 HB4 HB3 HF HS0 HFR0 HB5
    generalize bareV 1 0 ⟨#[]⟩ (fmtZ ⟨#[]⟩ (Dv.newSt K)) = s0 at *
    go_wp2
    go_loopw [49] (fun i wr => ∃ (j : Nat) (F : Fr) (s : SV) (T : Int → Option TV), j ≤ n ∧ i = .int .i64 j ∧ Hid (CoI w wr K j p (w2.heap.size + 2) F s T)) (fun i _ => n - (intOf i).toNat)
    case atStart => exact ⟨0, F0, s0, fun _ => none, Nat.zero_le _, rfl, HW0⟩
    case round =>
      obtain ⟨j, F, s, T, hj, rfl, HW⟩ := hrel
      have hn := HK.out.2.2.1
      clear HW0
      have hr := HX.out.below HW.out.bel
      by_cases hlt : j < n
      · obtain ⟨b, off, rfl, hbl, hcl⟩ := hr.cells (by omega)
        have hjx : j < xs.length := by rw [hr.len]; exact hlt
        obtain ⟨c0, c1, c2, c3⟩ := hcl j hjx
        have HFitO := Lib.hid (HX.out.each _ (List.getElem_mem hjx))
        clear hcl hr
        generalize xs[j] = x at *
        have hb : Below wr.heap.size wr (wr.alloc (.cells #[.int .i64 x.v.op, .int .i64 x.v.i, .slice x.A x.n x.c, .string x.v.s] 25)) := (Below.refl _ _).alloc (Nat.le_refl _) _
        have hx := Has.fresh wr 25 #[.int .i64 x.v.op, .int .i64 x.v.i, .slice x.A x.n x.c, .string x.v.s]
        have k0 := Has.at_ hx 0
        have k1 := Has.at_ hx 1
        have k2 := Has.at_ hx 2
        have k3 := Has.at_ hx 3
        simp at k0 k1 k2 k3
        have HHX := Lib.hid hx
        have HWA := Lib.hid (HW.out.below hb)
        have HJ := Lib.hid (And.intro hj hlt)
        clear hb hx hjx hbl
        go_wp2_with fail
        refine (op_any _ _ _ _ _).mono ?_
        rintro e w5 ⟨rfl, b5⟩
        have hx5 := has_blw HHX.out b5
        have q0 := Has.at_ hx5 0
        have q1 := Has.at_ hx5 1
        have q2 := Has.at_ hx5 2
        have q3 := Has.at_ hx5 3
        simp at q0 q1 q2 q3
        have HW5 := Lib.hid (HWA.out.below b5)
        clear b5 hx5 k0 k1 k2 k3 c0 c1 c2 c3 HWA HHX
        by_cases g11 : opM x.v.op < 11
        · have HD := Lib.hid (does_sto K j p (w2.heap.size + 2) F s x.v x.A x.n x.c HW5.out.inv (by have := HN60.out; omega) g11 w5 HW5.out.sto (HFitO.out.row.below HW5.out.bel) (fun h0 b off e hb => by
            obtain ⟨b', off', e', hlt', _⟩ := HFitO.out.row.2 h0
            rw [e] at e'
            injection e' with e'
            injection e' with e1 e2 e3
            have := HW5.out.fresh.put b hb
            omega))
          go_wp2_with fail
          refine HD.out.mono ?_
          rintro e w6 ⟨v, _, _, _, _, E, rfl, s', hdv, ⟨F', hs6, e1, e2, e3, e4, e5, hg6⟩, hc6⟩
          obtain ⟨T', hw6, _⟩ := HW5.out.does (by have := HN60.out; omega) hdv hs6 e1 e2 e3 e4 e5 hg6 hc6
          have HW6 := Lib.hid hw6
          clear hs6 hdv e1 e2 e3 e4 e5 hg6 hc6 HD hw6 q0 q1 q2 q3
          go_wp2
          go_roundw
          case rel => exact ⟨j + 1, F', s', T', by omega, by go_num, HW6⟩
          case measure => simp [intOf]; omega
        · clear q0 q1 q2 q3
          go_wp2
          go_roundw
          case rel => exact ⟨j + 1, F, s, T, by omega, by go_num, Lib.hid HW5.out.more⟩
          case measure => simp [intOf]; omega
      · obtain rfl : j = n := by omega
        clear hr hlt hj
        obtain ⟨W0, hW0⟩ : ∃ W0 : World, W0 = wr := ⟨_, rfl⟩
        subst hW0
        have hb1 : Below W0.heap.size W0 (W0.alloc (.map #[] 0)) := (Below.refl _ _).alloc (Nat.le_refl _) _
        have HM0 := Lib.hid (CntM.made W0)
        have HB1 := Lib.hid hb1
        have hrange : ∀ z, (s.nodes z).isSome = true → 0 ≤ z ∧ z < (K : Int) := fun z hz => by
          obtain ⟨i, e, _, hi⟩ := HW.out.inv.acc.ids z hz
          omega
        have HLV := Lib.hid (Dv.live_any p F s K (by have := HK.out.2.1; omega) hrange _ (HW.out.sto.below hb1))
        clear hb1 hrange
        have hmm := @run_makeMap Tryz.prog
        go_wp2_with fail
        clear hmm
        refine HLV.out.mono ?_
        rintro e u1 ⟨v1, l, rfl, ⟨hs1, hm1⟩, ho1, b1⟩
        have ho1 : OwnI u1 (W0.alloc (.map #[] 0)).heap.size v1 l := ho1
        obtain ⟨A1, c1, rfl⟩ := own_sl ho1
        have HLS := Lib.hid (And.intro hs1 hm1)
        have HBL1 := Lib.hid (HB1.out.trans (b1.mono HB1.out.size))
        have HROW1 := Lib.hid (show OwnI u1 W0.heap.size (.slice A1 l.length c1) l from own_low ho1 HB1.out.size)
        have HM1 := Lib.hid (HM0.out.below b1)
        have HLL := Lib.hid (show l.length ≤ 40 by
          rw [len_live HW.out.inv hs1 hm1]
          have := cntN_le (isQ s) K
          have := HK.out.2.1
          omega)
        have HBD := Lib.hid (show ∀ z, sumK s.nodes z l ≤ 40000 from fun z => by
          rw [sumK_live HW.out.inv hs1 hm1]
          have := tot_le (N := K) HW.out.inv.acc.down z
          have := Nat.mul_le_mul_right 1000 HK.out.2.1
          omega)
        have hll := HLL.out
        clear hs1 hm1 ho1 b1 HLV HM0 HB1
        go_wp2
        go_loopw [66] (fun i wr => ∃ q : Nat, q ≤ l.length ∧ i = .int .i64 q ∧ Hid (Below W0.heap.size W0 wr) ∧ Hid (CntM wr W0.heap.size fun z => sumK s.nodes z (l.take q)) ∧ Hid (OwnI wr W0.heap.size (.slice A1 l.length c1) l)) (fun i _ => l.length - (intOf i).toNat)
        case atStart => exact ⟨0, Nat.zero_le _, rfl, HBL1, HM1, HROW1⟩
        case round =>
          obtain ⟨q, hq, rfl, HB, HM, HR⟩ := hrel
          clear HBL1 HM1 HROW1
          have hrow : NumRow wr A1 l.length l := row_of_own HR.out rfl
          by_cases hlq : q < l.length
          · obtain ⟨b, off, rfl, hbl, hcl⟩ := hrow.2 (by omega)
            have k1 := hcl q hlq
            obtain ⟨nd, hnd⟩ := Option.isSome_iff_exists.1 ((HLS.out.2 l[q]).1 (List.getElem_mem hlq))
            have hg : getV s l[q] = (some (nd.kids, dataOf K s l[q]), 0) := by rw [get_img HW.out.inv HW.out.img.on HW.out.img.tells, hnd]
            have HGT := Lib.hid (get_sto p F s l[q] wr (HW.out.sto.below HB.out) (HW.out.inv.small.read _) _ _ hg)
            have HNX := Lib.hid (show ∀ z, sumK s.nodes z (l.take (q + 1)) = sumK s.nodes z (l.take q) + nd.kids.count z from fun z => by
              rw [List.take_succ_eq_append_getElem hlq, sumK_snoc, hnd]
              rfl)
            have HND := Lib.hid (And.intro hnd ((HW.out.img.tells _ nd hnd).1))
            have hk16 := (HW.out.img.tells _ nd hnd).1
            clear hrow hcl hbl hg hnd
            generalize l[q] = id at *
            generalize dataOf K s id = tx at *
            go_wp2_with fail
            refine HGT.out.mono ?_
            rintro e u2 ⟨hq2, b2⟩
            obtain ⟨v2, rfl, hov⟩ : ∃ v, e = .returned (.tuple #[.agg #[v, .string tx], .int .i64 0]) ∧ OwnI u2 wr.heap.size v nd.kids := hq2
            obtain ⟨A2, c2, rfl⟩ := own_sl hov
            have hb3 : Below wr.heap.size wr (u2.alloc (.cells #[.slice A2 nd.kids.length c2, .string tx] 38)) := b2.alloc b2.size _
            have hx3 := Has.fresh u2 38 #[.slice A2 nd.kids.length c2, .string tx]
            have j0 := Has.at_ hx3 0
            have j1 := Has.at_ hx3 1
            simp at j0 j1
            have HB3 := Lib.hid (HB.out.trans (hb3.mono HB.out.size))
            have HM3 := Lib.hid (show CntM _ W0.heap.size (fun z => sumK s.nodes z (l.take q) + (nd.kids.take 0).count z) from by
              have h := HM.out.below hb3
              simpa using h)
            have HR3 := Lib.hid (own_below HR.out hb3)
            have HK3 := Lib.hid (show OwnI (u2.alloc (.cells #[.slice A2 nd.kids.length c2, .string tx] 38)) W0.heap.size (.slice A2 nd.kids.length c2) nd.kids from own_low (World.ownsRow.alloc hov _) HB.out.size)
            obtain ⟨wo, hwo⟩ : ∃ wo : World, wo = wr := ⟨_, rfl⟩
            subst hwo
            clear hov b2 hb3 hx3 HGT k1
            go_wp2
            clear j0 j1
            go_loopw [81] (fun i wr => ∃ k : Nat, k ≤ nd.kids.length ∧ i = .int .i64 k ∧ Hid (Below W0.heap.size W0 wr) ∧ Hid (CntM wr W0.heap.size fun z => sumK s.nodes z (l.take q) + (nd.kids.take k).count z) ∧ Hid (OwnI wr W0.heap.size (.slice (some ⟨b, off, none⟩) l.length c1) l) ∧ Hid (OwnI wr W0.heap.size (.slice A2 nd.kids.length c2) nd.kids)) (fun i _ => nd.kids.length - (intOf i).toNat)
            case atStart => exact ⟨0, Nat.zero_le _, rfl, HB3, HM3, HR3, HK3⟩
            case round =>
              obtain ⟨k, hk, rfl, HB4, HM4, HR4, HK4⟩ := hrel
              clear HB3 HM3 HR3 HK3
              have hrow4 : NumRow wr A2 nd.kids.length nd.kids := row_of_own HK4.out rfl
              by_cases hkl : k < nd.kids.length
              · obtain ⟨b4, off4, rfl, hbl4, hcl4⟩ := hrow4.2 (by omega)
                have k4 := hcl4 k hkl
                have hlk := HM4.out.look nd.kids[k]
                have hcb : sumK s.nodes nd.kids[k] (l.take q) + (nd.kids.take k).count nd.kids[k] ≤ 40000 := by
                  have h1 := HNX.out nd.kids[k]
                  have h2 := sumK_take s.nodes nd.kids[k] l (q + 1)
                  have h3 := HBD.out nd.kids[k]
                  have h4 : (nd.kids.take k).count nd.kids[k] ≤ nd.kids.count nd.kids[k] := List.Sublist.count_le _ (List.take_sublist _ _)
                  omega
                obtain ⟨w5, hu5, hm5, hc5⟩ := HM4.out.put nd.kids[k] (sumK s.nodes nd.kids[k] (l.take q) + (nd.kids.take k).count nd.kids[k] + 1)
                have HM5 := Lib.hid (show CntM w5 W0.heap.size fun z => sumK s.nodes z (l.take q) + (nd.kids.take (k + 1)).count z from by
                  have e : (fun y => if y = nd.kids[k] then sumK s.nodes nd.kids[k] (l.take q) + (nd.kids.take k).count nd.kids[k] + 1 else sumK s.nodes y (l.take q) + (nd.kids.take k).count y) = fun z => sumK s.nodes z (l.take q) + (nd.kids.take (k + 1)).count z := by
                    funext z
                    rw [List.take_succ_eq_append_getElem hkl, List.count_append]
                    by_cases e : z = nd.kids[k]
                    · subst e
                      rw [if_pos rfl, List.count_singleton_self]
                      omega
                    · rw [if_neg e, List.count_singleton, if_neg (by simpa using Ne.symm e)]
                      omega
                  rw [← e]
                  exact hm5)
                have HR5 := Lib.hid (own_cnt HR4.out HM4.out hc5)
                have HK5 := Lib.hid (own_cnt HK4.out HM4.out hc5)
                have HB5 := Lib.hid (below_chg HB4.out HB4.out.size hc5 (fun z hz => by rw [hz]; exact Nat.le_refl _))
                have hw1 : wrap64 (((sumK s.nodes nd.kids[k] (l.take q) + (nd.kids.take k).count nd.kids[k] : Nat) : Int) + 1) = ((sumK s.nodes nd.kids[k] (l.take q) + (nd.kids.take k).count nd.kids[k] : Nat) : Int) + 1 := by
                  unfold wrap64
                  omega
                rw [show ((sumK s.nodes nd.kids[k] (l.take q) + (nd.kids.take k).count nd.kids[k] + 1 : Nat) : Int) = ((sumK s.nodes nd.kids[k] (l.take q) + (nd.kids.take k).count nd.kids[k] : Nat) : Int) + 1 from rfl] at hu5
                clear hrow4 hcl4 hbl4 hm5 hc5
                generalize sumK s.nodes nd.kids[k] (l.take q) + (nd.kids.take k).count nd.kids[k] = cc at *
                generalize nd.kids[k] = kid at *
                go_wp2
                go_roundw
                case rel => exact ⟨k + 1, by omega, by go_num, HB5, HM5, HR5, HK5⟩
                case measure => simp [intOf]; omega
              · have hke : k = nd.kids.length := by omega
                have HM6 := Lib.hid (show CntM wr W0.heap.size fun z => sumK s.nodes z (l.take (q + 1)) from by
                  have e : (fun z => sumK s.nodes z (l.take (q + 1))) = fun z => sumK s.nodes z (l.take q) + (nd.kids.take k).count z := by
                    funext z
                    rw [HNX.out z, hke, List.take_of_length_le (Nat.le_refl _)]
                  rw [e]
                  exact HM4.out)
                clear hrow4 hk hke
                go_wp2
                go_roundw
                case rel => exact ⟨q + 1, by omega, by go_num, HB4, HM6, HR4⟩
                case measure => simp [intOf]; omega
          · obtain rfl : q = l.length := by omega
            have hfull : l.take l.length = l := List.take_of_length_le (by omega)
            have HM2 := Lib.hid (show CntM wr W0.heap.size fun z => sumK s.nodes z l from by have h := HM.out; rw [hfull] at h; exact h)
            clear hrow hq hlq hfull HM
            obtain ⟨W2, hW2⟩ : ∃ W2 : World, W2 = wr := ⟨_, rfl⟩
            subst hW2
            have hbt : Below W2.heap.size W2 (W2.alloc (.map #[] 0)) := (Below.refl _ _).alloc (Nat.le_refl _) _
            have HT3 := Lib.hid (show CntM (W2.alloc (.map #[] 0)) W2.heap.size (fun z => if z ∈ l.take 0 then 1 else 0) from CntM.made W2)
            have HM3 := Lib.hid (HM2.out.below hbt)
            have HR3 := Lib.hid (own_below HR.out hbt)
            have HB3 := Lib.hid (HB.out.trans (hbt.mono HB.out.size))
            have HNE := Lib.hid (show W0.heap.size ≠ W2.heap.size by
              obtain ⟨m, h1, _⟩ := HM2.out
              have := h1.bound
              omega)
            have HGE := Lib.hid HB.out.size
            clear hbt HM2 HR HB
            have hmm := @run_makeMap Tryz.prog
            go_wp2
            clear hmm
            go_loopw [94] (fun i wr => ∃ q : Nat, q ≤ l.length ∧ i = .int .i64 q ∧ Hid (Below W0.heap.size W0 wr) ∧ Hid (CntM wr W0.heap.size fun z => sumK s.nodes z l) ∧ Hid (CntM wr W2.heap.size fun z => if z ∈ l.take q then 1 else 0) ∧ Hid (OwnI wr W0.heap.size (.slice A1 l.length c1) l)) (fun i _ => l.length - (intOf i).toNat)
            case atStart => exact ⟨0, Nat.zero_le _, rfl, HB3, HM3, HT3, HR3⟩
            case round =>
              obtain ⟨q, hq, rfl, HB, HM, HTH, HR⟩ := hrel
              clear HB3 HM3 HT3 HR3
              have hrow : NumRow wr A1 l.length l := row_of_own HR.out rfl
              by_cases hlq : q < l.length
              · obtain ⟨b, off, rfl, hbl, hcl⟩ := hrow.2 (by omega)
                have k1 := hcl q hlq
                obtain ⟨nd, hnd⟩ := Option.isSome_iff_exists.1 ((HLS.out.2 l[q]).1 (List.getElem_mem hlq))
                have hrf := refs_sto p F s l[q] nd hnd wr (HW.out.sto.below HB.out)
                have hnm : nd.named = ((sumK s.nodes l[q] l : Nat) : Int) := by
                  rw [HW.out.inv.acc.cnt _ nd hnd, sumK_live HW.out.inv HLS.out.1 HLS.out.2, List.count_nil, Nat.add_zero]
                rw [hnm] at hrf
                have HRF := Lib.hid hrf
                have hh0 : ¬ nd.held < 0 := by have := (HW.out.inv.held _ nd hnd).1; omega
                obtain ⟨hid2, hidK⟩ : ¬ l[q] < 2 ∧ ¬ (K : Int) ≤ l[q] := by
                  obtain ⟨i, e, h2, h3⟩ := HW.out.inv.acc.ids l[q] (by rw [hnd]; rfl)
                  omega
                have HNX := Lib.hid (show (fun y => if y = l[q] then 1 else if y ∈ l.take q then 1 else 0) = fun z => if z ∈ l.take (q + 1) then 1 else 0 from by
                  funext z
                  have hmem : z ∈ l.take (q + 1) ↔ z ∈ l.take q ∨ z = l[q] := by
                    rw [List.take_succ_eq_append_getElem hlq, List.mem_append, List.mem_singleton]
                  by_cases e : z = l[q]
                  · rw [if_pos e, if_pos (hmem.2 (Or.inr e))]
                  · rw [if_neg e]
                    by_cases e2 : z ∈ l.take q
                    · rw [if_pos e2, if_pos (hmem.2 (Or.inl e2))]
                    · rw [if_neg e2, if_neg (fun h => (hmem.1 h).elim e2 e)])
                clear hrow hcl hbl hnd hnm hrf
                generalize l[q] = id at *
                generalize nd.held = H at *
                go_wp2_with fail
                refine HRF.out.mono ?_
                rintro e u3 ⟨rfl, b3⟩
                have HB3 := Lib.hid (HB.out.trans (b3.mono HB.out.size))
                have hm3 := HM.out.below b3
                have hlk := hm3.look id
                have HSZ := Lib.hid (show Calls Tryz.prog 23 #[.pointer (some ⟨w2.heap.size + 2, 0, none⟩)] u3 fun e w' => e = .returned (.int .i64 K) ∧ u3 = w' from by
                  have h := size_dev F.d F.dk F.dd s.dev u3 (HW.out.sto.below HB3.out).dev
                  rw [HW.out.dp, HW.out.inv.size] at h
                  exact h)
                have hth3 := HTH.out.below b3
                obtain ⟨w6, hu6, hm6, hc6⟩ := hth3.put id 1
                have hu6 : (Instr.mapUpdate 56 (.map (some W2.heap.size)) (.int .i64 id) (.int .i64 1)).run Tryz.prog u3 = .ok () w6 := hu6
                have HT6 := Lib.hid (show CntM w6 W2.heap.size fun z => if z ∈ l.take (q + 1) then 1 else 0 from by rw [← HNX.out]; exact hm6)
                have HM6 := Lib.hid (cnt_other hm3 HNE.out hc6)
                have HR6 := Lib.hid (own_cnt (own_below HR.out b3) hth3 hc6)
                have HB6 := Lib.hid (below_chg HB3.out HB3.out.size hc6 (fun z hz => by rw [hz]; exact HGE.out))
                clear b3 hm3 hth3 hm6 hc6 HRF k1
                generalize sumK s.nodes id l = cc at *
                go_wp2_with fail
                refine HSZ.out.mono ?_
                rintro e w' ⟨rfl, rfl⟩
                go_wp2
                go_roundw
                case rel => exact ⟨q + 1, by omega, by go_num, HB6, HM6, HT6, HR6⟩
                case measure => simp [intOf]; omega
              · obtain rfl : q = l.length := by omega
                have hfull : l.take l.length = l := List.take_of_length_le (by omega)
                have HT4 := Lib.hid (show CntM wr W2.heap.size fun z => if z ∈ l then 1 else 0 from by have h := HTH.out; rw [hfull] at h; exact h)
                clear hrow hq hlq hfull HTH HM HR
                obtain ⟨W3, hW3⟩ : ∃ W3 : World, W3 = wr := ⟨_, rfl⟩
                subst hW3
                have hdev : Dv.DevIs W3 (w2.heap.size + 2) F.dk F.dd s.dev := by
                  have h := (HW.out.sto.below HB.out).dev
                  rw [HW.out.dp] at h
                  exact h
                have HCN := Lib.hid (Dv.clone_all (w2.heap.size + 2) F.dk F.dd s.dev W3 hdev)
                clear hdev
                go_wp2_with fail
                refine HCN.out.mono ?_
                rintro e u4 ⟨rfl, hd4, b4⟩
                have HD4 := Lib.hid hd4
                have HB4 := Lib.hid b4
                have HDI := Lib.hid (Dv.dirty_any W3.heap.size (W3.heap.size + 1) (W3.heap.size + 2) s.dev u4 hd4 HW.out.ind)
                clear hd4 b4 HCN
                go_wp2_with fail
                refine HDI.out.mono ?_
                rintro e u5 ⟨v5, l5, rfl, hl5, ho5, b5⟩
                have ho5 : OwnI u5 u4.heap.size v5 l5 := ho5
                obtain ⟨A5, c5, rfl⟩ := own_sl ho5
                have HD5 := Lib.hid (HD4.out.below b5)
                have HB5 := Lib.hid (HB4.out.trans (b5.mono HB4.out.size))
                have hl5m : l5.length ≤ maxLen := by
                  rcases ho5.2 with ⟨_, e0⟩ | ⟨_, _, _, _, _, _, e3, e4, _⟩
                  · omega
                  · omega
                have HCS := Lib.hid (Dv.crash_any W3.heap.size (W3.heap.size + 1) (W3.heap.size + 2) s.dev A5 l5.length c5 l5 u5 hl5m (row_of_own ho5 rfl) HD5.out)
                have HOW := Lib.hid (show ∀ k, Dv.Own W3.heap.size (W3.heap.size + 1) (W3.heap.size + 2) k → W3.heap.size ≤ k from by
                  rintro k (e | e | e)
                  · rw [e]; exact Nat.le_refl _
                  · rw [e]; omega
                  · rw [e]; omega)
                clear b5 ho5 hl5 hl5m HDI HD4 HB4
                go_wp2_with fail
                refine HCS.out.mono ?_
                rintro e u6 ⟨rfl, hd6, hc6⟩
                have HD6 := Lib.hid hd6
                have HB6 := Lib.hid (below_chg HB5.out HB5.out.size (Oct.Chg.of hc6) HOW.out)
                clear hd6 hc6 HCS HD5 HB5
                go_wp2_with fail
                refine (Dv.start_any _ _ _ _ u6 HD6.out).mono ?_
                rintro e u7 ⟨rfl, hd7, hc7, _⟩
                have HD7 := Lib.hid hd7
                have HB7 := Lib.hid (below_chg HB6.out HB6.out.size (Oct.Chg.of hc7) HOW.out)
                have HCO := Lib.hid (HW.out.img.safe.crash (And.intro HK.out.1 HK.out.2.1) l5)
                obtain ⟨⟨V, hV, hOI⟩, hdn⟩ := open_tree HCO.out.tree HCO.out.reads HCO.out.calm HCO.out.size HK.out.2.1 HCO.out.new
                have HOP := Lib.hid (open_dev W3.heap.size (W3.heap.size + 1) (W3.heap.size + 2) (Dv.startD (Dv.crashD s.dev l5)) (by have h := HCO.out.size; have := HK.out.1; omega) (fun i => HCO.out.small.read i) hdn u7 HD7.out _ hV)
                have HOI := Lib.hid hOI
                clear hd7 hc7 hV hOI hdn HD6 HB6 HOW
                go_wp2_with fail
                refine HOP.out.mono ?_
                rintro e u8 ⟨hq8, b8⟩
                obtain ⟨p2, F2, rfl, hL2⟩ : ∃ p9 F9, e = .returned (.tuple #[.pointer (some ⟨p9, 0, none⟩), .int .i64 0]) ∧ Laid u7.heap.size V W3.heap.size (W3.heap.size + 1) (W3.heap.size + 2) p9 F9 u8 := hq8
                have HS8 := Lib.hid hL2.is
                have HB8 := Lib.hid (HB7.out.trans (b8.mono HB7.out.size))
                have hrangeV : ∀ z, (V.nodes z).isSome = true → 0 ≤ z ∧ z < (K : Int) := fun z hz => by
                  rw [HOI.out.there] at hz
                  obtain ⟨v, hv⟩ := Option.isSome_iff_exists.1 hz
                  obtain ⟨i, e, _, hi⟩ := HCO.out.tree.ids z v hv
                  omega
                have HLV := Lib.hid (Dv.live_any p2 F2 V K (by have := HK.out.2.1; omega) hrangeV u8 hL2.is)
                clear hL2 b8 hrangeV HOP HD7 HB7
                go_wp2_with fail
                refine HLV.out.mono ?_
                rintro e u9 ⟨v9, lo, rfl, ⟨hs9, hm9⟩, ho9, b9⟩
                have ho9 : OwnI u9 u8.heap.size v9 lo := ho9
                obtain ⟨A9, c9, rfl⟩ := own_sl ho9
                have HB9 := Lib.hid (HB8.out.trans (b9.mono HB8.out.size))
                have HR9 := Lib.hid (show OwnI u9 W3.heap.size (.slice A9 lo.length c9) lo from own_low ho9 HB8.out.size)
                have HMS := Lib.hid (show missing s.nodes lo = cntN K (keptQ s) from missing_kept HW.out.inv hs9 (fun z => by rw [hm9, HOI.out.there, HW.out.img.kept]))
                have HL1 := Lib.hid (show l.length = cntN K (isQ s) from len_live HW.out.inv HLS.out.1 HLS.out.2)
                have hlo : lo.length ≤ 40 := by
                  have h1 := nodupK (K := K) hs9 (fun z hz => by
                    rw [hm9, HOI.out.there] at hz
                    obtain ⟨v, hv⟩ := Option.isSome_iff_exists.1 hz
                    obtain ⟨i, e, _, hi⟩ := HCO.out.tree.ids z v hv
                    omega)
                  have := HK.out.2.1
                  omega
                clear hs9 hm9 ho9 b9 HLV HS8 HB8 HOI HCO
                go_wp2
                go_loopw [28, 151] (fun y i wr => ∃ q : Nat, q ≤ lo.length ∧ y = .int .i64 ((l.length + missing s.nodes (lo.take q) : Nat) : Int) ∧ i = .int .i64 q ∧ Hid (Below W3.heap.size W3 wr) ∧ Hid (OwnI wr W3.heap.size (.slice A9 lo.length c9) lo)) (fun _ i _ => lo.length - (intOf i).toNat)
                case atStart => exact ⟨0, Nat.zero_le _, rfl, rfl, HB9, HR9⟩
                case round =>
                  obtain ⟨q, hq, rfl, rfl, HBq, HRq⟩ := hrel
                  clear HB9 HR9
                  have hrow : NumRow wr A9 lo.length lo := row_of_own HRq.out rfl
                  by_cases hlq : q < lo.length
                  · obtain ⟨b, off, rfl, hbl, hcl⟩ := hrow.2 (by omega)
                    have k1 := hcl q hlq
                    have hlk := (HT4.out.below HBq.out).look lo[q]
                    have hmq : missing s.nodes (lo.take (q + 1)) = missing s.nodes (lo.take q) + (if lo[q] ∈ l then 0 else 1) := by
                      rw [List.take_succ_eq_append_getElem hlq]
                      unfold missing
                      rw [List.filter_append, List.length_append]
                      congr 1
                      by_cases e : lo[q] ∈ l
                      · rw [if_pos e]
                        have h : (s.nodes lo[q]).isSome = true := (HLS.out.2 _).1 e
                        rw [List.filter_cons_of_neg (by rw [h]; decide), List.filter_nil, List.length_nil]
                      · rw [if_neg e]
                        have h : (s.nodes lo[q]).isSome = false := by
                          cases hc : (s.nodes lo[q]).isSome with
                          | false => rfl
                          | true => exact (e ((HLS.out.2 _).2 hc)).elim
                        rw [List.filter_cons_of_pos (by rw [h]; decide), List.filter_nil, List.length_singleton]
                    have hmx : missing s.nodes (lo.take q) ≤ 40 := by
                      have h1 : missing s.nodes (lo.take q) ≤ (lo.take q).length := List.length_filter_le _ _
                      rw [List.length_take] at h1
                      omega
                    clear hrow hcl hbl
                    generalize lo[q] = id at *
                    generalize missing s.nodes (lo.take q) = mm at *
                    by_cases e : id ∈ l
                    · rw [if_pos e] at hlk hmq
                      have hlk : (Instr.lookup 56 (.map (some W2.heap.size)) (.int .i64 id) false).run Tryz.prog wr = .ok (.int .i64 1) wr := hlk
                      have HQ := Lib.hid hmq
                      clear hmq e
                      go_wp2
                      go_roundw
                      case rel => exact ⟨q + 1, by omega, by rw [HQ.out]; simp, by go_num, HBq, HRq⟩
                      case measure => simp [intOf]; omega
                    · rw [if_neg e] at hlk hmq
                      have hlk : (Instr.lookup 56 (.map (some W2.heap.size)) (.int .i64 id) false).run Tryz.prog wr = .ok (.int .i64 0) wr := hlk
                      have HQ := Lib.hid hmq
                      have hw1 : wrap64 (((l.length + mm : Nat) : Int) + 1) = ((l.length + mm : Nat) : Int) + 1 := by unfold wrap64; omega
                      clear hmq e
                      go_wp2
                      go_roundw
                      case rel => exact ⟨q + 1, by omega, by rw [HQ.out]; go_num, by go_num, HBq, HRq⟩
                      case measure => simp [intOf]; omega
                  · obtain rfl : q = lo.length := by omega
                    have hfull : lo.take lo.length = lo := List.take_of_length_le (by omega)
                    rw [hfull, HMS.out, HL1.out]
                    have HST := Lib.hid ((HW.out.sto.below HB.out).below HBq.out)
                    have HFREE := Lib.hid (free_any p F s wr HST.out)
                    have HBX := Lib.hid (HW.out.bel.trans ((HB.out.trans (HBq.out.mono HB.out.size)).mono HW.out.bel.size))
                    clear hrow hq hlq hfull
                    go_wp2_with fail
                    refine HFREE.out.mono ?_
                    rintro e x1 ⟨hqf, bx1⟩
                    obtain rfl := free_is HW.out.inv hqf
                    have HSZ := Lib.hid (show Calls Tryz.prog 23 #[.pointer (some ⟨w2.heap.size + 2, 0, none⟩)] x1 fun e w' => e = .returned (.int .i64 K) ∧ x1 = w' from by
                      have h := size_dev F.d F.dk F.dd s.dev x1 (HST.out.below bx1).dev
                      rw [HW.out.dp, HW.out.inv.size] at h
                      exact h)
                    have HBY := Lib.hid (HBX.out.trans (bx1.mono HBX.out.size))
                    clear hqf bx1 HFREE
                    go_wp2_with fail
                    refine HSZ.out.mono ?_
                    rintro e w' ⟨rfl, rfl⟩
                    have h1 := cntN_le (isQ s) K
                    have h2 := cntN_le (keptQ s) K
                    have h3 := HK.out.2.1
                    have h4 := HK.out.1
                    unfold freeZ
                    generalize cntN K (isQ s) = ca at *
                    generalize cntN K (keptQ s) = cb at *
                    have t1 : wrap64 ((K : Int) - 2) = (K : Int) - 2 := by unfold wrap64; omega
                    have t2 : wrap64 ((K : Int) - 2 - ((ca + cb : Nat) : Int)) = (K : Int) - 2 - ca - cb := by unfold wrap64; omega
                    go_wp2_with fail
                    refine (awake_any _).mono ?_
                    rintro e w9 ⟨rfl, b9⟩
                    go_wp2
                    go_ret
                    exact ⟨rfl, HBY.out.trans (b9.mono HBY.out.size)⟩
theorem counts_walk (w : World) (a0 : Int) (A1 : Option Addr) (n1 c1 : Nat) (a1 : List DoC) (_ : (Lit.int .i64 a0).wf = true) (w1 : DoRow w A1 n1 a1) (b1 : n1 ≤ c1) (m1 : c1 ≤ maxLen) :
    Calls Tryz.prog 4 #[.int .i64 a0, .slice A1 n1 c1] w fun e w' => e = .returned (.bool true) ∧ Below w.heap.size w w' :=
  counts_law a0 A1 n1 c1 a1 (by unfold maxLen at m1; omega) w w1
end Go.Proofs.YtkbpjegegjgbkaaGreat.Sto
