/- The walk of the law StoreWhole. -/
import Derived.Test.YtkbpjegegjgbkaaSwI
namespace Go.Proofs.Ytkbpjegegjgbkaa.Sto
open Go.RowKit
open Oct (Has Chg)
open Rws
open Dv (DoV)
open Mem (IMap)
set_option linter.unusedVariables false

def tF : ByteArray := ⟨#[102, 105, 114, 115, 116]⟩
set_option maxRecDepth 100000 in
set_option maxHeartbeats 16000000 in
theorem whole_law (x : Int) (A : Option Addr) (n c : Nat) (xs : List DoC) (fz : Int) (B : Option Addr) (m d : Nat) (ks : List Int) (hn : n ≤ 9223372036854775807) (hm : m ≤ maxLen) (w : World) (h : DoRow w A n xs) (h3 : NumRow w B m ks) :
    Calls Try.prog 3 #[.int .i64 x, .slice A n c, .int .i64 fz, .slice B m d] w fun e w' => e = .returned (.bool true) ∧ Below w.heap.size w w' := by
  obtain ⟨K, k1, k2, hK⟩ := size_of x
  obtain ⟨QF, hqf, hfz⟩ := fuse_of fz
  obtain ⟨W1, hW1⟩ : ∃ W1 : World, W1 = w.alloc (.cells #[.slice A n c] 22) := ⟨_, rfl⟩
  have b1 : Below w.heap.size w W1 := by rw [hW1]; exact (Below.refl _ w).alloc (Nat.le_refl _) _
  have h1 : Has W1 w.heap.size 22 #[.slice A n c] := by rw [hW1]; exact Has.fresh w _ _
  have HL := Lib.hid (dos_list W1 A n c _ xs (h.below b1) hn h1)
  have HX := Lib.hid h
  have HQ := Lib.hid h3
  have HMM := Lib.hid hm
  have HB1 := Lib.hid b1
  have HK := Lib.hid (And.intro k1 (And.intro k2 (And.intro hn hK)))
  have HFZ := Lib.hid (And.intro hqf hfz)
  clear h h1 h3 b1 k1 k2 hn hK hqf hm
  go_enter Try.func3, Try.ntmps3
  go_wp2_with fail
  rw [← hW1]
  clear hW1
  refine (short_few _ 1 1 _ (by decide) _ HL.out).mono ?_
  rintro e w1 ⟨⟨tt, rfl, hfew⟩, b1⟩
  have HB2 := Lib.hid (HB1.out.trans (b1.mono HB1.out.size))
  clear b1 HL HB1
  cases tt with
  | false =>
    clear hfew
    go_wp2_with fail
    refine (awake_any _).mono ?_
    rintro e w2 ⟨rfl, b2⟩
    go_wp2
    go_ret
    exact ⟨rfl, HB2.out.trans (b2.mono HB2.out.size)⟩
  | true =>
    have HN60 := Lib.hid (show n ≤ 60 by
      have := hfew rfl
      have e : sumL [⟨A, n, c, xs⟩] 1 = xs.length := by simp [sumL]
      rw [e, HX.out.len] at this
      exact this)
    clear hfew
    by_cases g1 : 200 < (m : Int)
    · go_wp2_with fail
      refine (awake_any _).mono ?_
      rintro e w2 ⟨rfl, b2⟩
      go_wp2
      go_ret
      exact ⟨rfl, HB2.out.trans (b2.mono HB2.out.size)⟩
    · go_wp2_with fail
      refine (size_sto x K HK.out.2.2.2 _).mono ?_
      rintro e w2 ⟨rfl, b2⟩
      have HB3 := Lib.hid (HB2.out.trans (b2.mono HB2.out.size))
      clear b2 HB2 g1
      go_wp2_with fail
      refine (Dv.new_good K HK.out.1 (by have := HK.out.2.1; omega) _).mono ?_
      rintro e w3 ⟨rfl, hd3, b3, z3⟩
      have HB4 := Lib.hid (HB3.out.trans (b3.mono HB3.out.size))
      have HF := Lib.hid (show Calls Try.prog 9 #[.pointer (some ⟨w2.heap.size + 2, 0, none⟩), .string ⟨#[102, 105, 114, 115, 116]⟩] w3 _ from format_dev (w2.heap.size + 2) w2.heap.size (w2.heap.size + 1) (Dv.newSt K) tF (by show K ≠ 0; have := HK.out.1; omega) (by decide) w3 hd3 _ (fmt_calm ⟨rfl, rfl⟩ (by show 2 ≤ K; have := HK.out.1; omega) tF (by decide)))
      clear hd3 b3 z3
      go_wp2_with fail
      refine HF.out.mono ?_
      rintro e w4 ⟨hq, hc4⟩
      obtain ⟨p, F0, rfl, hL⟩ : ∃ p F, e = .returned (.tuple #[.pointer (some ⟨p, 0, none⟩), .int .i64 0]) ∧ Laid w3.heap.size (bareV 1 0 tF (fmtZ tF (Dv.newSt K))) (w2.heap.size + 2) w2.heap.size (w2.heap.size + 1) p F w4 := hq
      have hs1 := HB4.out.size
      have hs2 := HB3.out.size
      have hS0 := hL.is
      have hFR0 : Fresh w.heap.size p F0 (bareV 1 0 tF (fmtZ tF (Dv.newSt K))) := ⟨Nat.le_trans hs1 hL.p, Nat.le_trans hs1 hL.t, Nat.le_trans hs1 hL.k, by rw [hL.d]; omega, by rw [hL.dk]; omega, by rw [hL.dd]; omega, fun z hz => by cases hz⟩
      have HFR0 := Lib.hid hFR0
      have hB5 : Below w.heap.size w w4 := below_chg HB4.out hs1 hc4 (fun k hk => by
        rcases hk with e | e | e
        · rw [e]; omega
        · rw [e]; omega
        · rw [e]; omega)
      have HI0 := Lib.hid (inv_new (And.intro HK.out.1 HK.out.2.1) tF (by decide)).1
      have HG0 := Lib.hid (img_new (And.intro HK.out.1 HK.out.2.1) tF (by decide))
      have hb5 : Below w4.heap.size w4 (w4.alloc (.cells #[.pointer (some ⟨p, 0, none⟩)] 31)) := (Below.refl _ _).alloc (Nat.le_refl _) _
      have HB5 := Lib.hid (hB5.trans (hb5.mono hB5.size))
      have HS5 := Lib.hid (hS0.below hb5)
      have HCL5 := Lib.hid (Has.fresh w4 31 #[.pointer (some ⟨p, 0, none⟩)])
      have HLG := Lib.hid (show w.heap.size ≤ w4.heap.size from hB5.size)
      have HDP := Lib.hid hL.d
      have HFU := Lib.hid (show Calls Try.prog 10 #[.pointer (some ⟨w2.heap.size + 2, 0, none⟩), .int .i64 (QF : Int)] (w4.alloc (.cells #[.pointer (some ⟨p, 0, none⟩)] 31)) _ from by
        have hfu := Dv.fuse_all F0.d F0.dk F0.dd (fmtZ tF (Dv.newSt K)) (QF : Int) (by have := HFZ.out.1; omega) _ HS5.out.dev
        rw [hL.d] at hfu
        exact hfu)
      clear hL hc4 hs1 hs2 HB4 HB3 HF hS0 hFR0 hB5 hb5
      go_wp2_with fail
      rw [HFZ.out.2]
      refine HFU.out.mono ?_
      rintro e w5 ⟨rfl, hd5, hc5⟩
      rw [(fuse_on (d := fmtZ tF (Dv.newSt K)) rfl QF).1]
      rw [(fuse_on (d := fmtZ tF (Dv.newSt K)) rfl QF).2] at hd5
      rw [← HDP.out] at hd5 hc5
      have hs5 := HS5.out.devs hd5 (Oct.Chg.of hc5)
      have hb6 : Below w5.heap.size w5 (w5.alloc (.cells #[.int .i64 0, .string ⟨#[102, 105, 114, 115, 116]⟩, .slice none 0 0] 38)) := (Below.refl _ _).alloc (Nat.le_refl _) _
      have hB5 : Below w.heap.size w w5 := below_chg HB5.out HB5.out.size (Oct.Chg.of hc5) HFR0.out.own
      have hcell : Has w5 w4.heap.size 31 #[.pointer (some ⟨p, 0, none⟩)] := HCL5.out.over (Oct.Chg.of hc5) (dev_not HS5.out.dev HCL5.out (by decide))
      have HW0 := Lib.hid (show WhI w (w5.alloc (.cells #[.int .i64 0, .string ⟨#[102, 105, 114, 115, 116]⟩, .slice none 0 0] 38)) K 0 p w4.heap.size w5.heap.size (w2.heap.size + 2) F0 { bareV 1 0 tF (fmtZ tF (Dv.newSt K)) with dev := { fmtZ tF (Dv.newSt K) with fuse := max (QF : Int) (-1) } } (fun _ => none) 0 ⟨#[102, 105, 114, 115, 116]⟩ none 0 0 [] from
        ⟨hs5.below hb6, inv_fuse HI0.out _, img_fuse HG0.out _, ⟨HFR0.out.p, HFR0.out.t, HFR0.out.k, HFR0.out.d, HFR0.out.dk, HFR0.out.dd, HFR0.out.g⟩, hB5.trans (hb6.mono hB5.size), has_blw hcell hb6, Has.fresh w5 _ _, ⟨World.ownsRow_nil _ _ _ _, (fun e he => by cases he)⟩, ⟨rfl, rfl, hangs_none.symm⟩, HDP.out, HLG.out, hB5.size⟩)
      clear hd5 hc5 hs5 hb6 hB5 hcell HB5 HS5 HCL5 HFU HI0 HG0 HFR0 HFZ hfz
      generalize ({ bareV 1 0 tF (fmtZ tF (Dv.newSt K)) with dev := { fmtZ tF (Dv.newSt K) with fuse := max (QF : Int) (-1) } } : SV) = s1 at *
      have hn := HK.out.2.2.1
      go_wp2
      go_loopw [14, 59] (fun nx i wr => ∃ (j : Nat) (F : Fr) (s : SV) (T : Int → Option TV) (nr : Int) (nn : ByteArray) (A9 : Option Addr) (n9 c9 : Nat) (nes : List BE), j ≤ n ∧ nx = .pointer none ∧ i = .int .i64 j ∧ Hid (WhI w wr K j p w4.heap.size w5.heap.size (w2.heap.size + 2) F s T nr nn A9 n9 c9 nes)) (fun _ i _ => n - (intOf i).toNat)
      case atStart => exact ⟨0, F0, s1, fun _ => none, 0, _, none, 0, 0, [], Nat.zero_le _, rfl, rfl, HW0⟩
      case round =>
        obtain ⟨j, F, s, T, nr, nn, A9, n9, c9, nes, hj, rfl, rfl, HW⟩ := hrel
        clear HW0
        have hr := HX.out.below HW.out.bel
        by_cases hlt : j < n
        · obtain ⟨b, off, rfl, hbl, hcl⟩ := hr.cells (by omega)
          have hjx : j < xs.length := by rw [hr.len]; exact hlt
          obtain ⟨c0, c1, c2, c3⟩ := hcl j hjx
          have HFitO := Lib.hid (HX.out.each _ (List.getElem_mem hjx))
          clear hcl hr
          generalize xs[j] = x at *
          have hb : Below wr.heap.size wr (wr.alloc (.cells #[.int .i64 x.v.op, .int .i64 x.v.i, .slice x.A x.n x.c, .string x.v.s] 41)) := (Below.refl _ _).alloc (Nat.le_refl _) _
          have hx := Has.fresh wr 41 #[.int .i64 x.v.op, .int .i64 x.v.i, .slice x.A x.n x.c, .string x.v.s]
          have k0 := Has.at_ hx 0
          have k1 := Has.at_ hx 1
          have k2 := Has.at_ hx 2
          have k3 := Has.at_ hx 3
          simp at k0 k1 k2 k3
          have HHX := Lib.hid hx
          have HWA := Lib.hid (HW.out.below hb)
          have HJ := Lib.hid (And.intro hj hlt)
          clear hb hx hjx hbl
          go_wp2_with fail
          refine (op_any _ _ _ _ _).mono ?_
          rintro e w6 ⟨rfl, b6⟩
          have hx6 := has_blw HHX.out b6
          have HW6 := Lib.hid (HWA.out.below b6)
          have q0 := Has.at_ hx6 0
          have q1 := Has.at_ hx6 1
          have q2 := Has.at_ hx6 2
          have q3 := Has.at_ hx6 3
          simp at q0 q1 q2 q3
          have HHX6 := Lib.hid hx6
          clear b6 hx6 k0 k1 k2 k3 c0 c1 c2 c3 HWA HHX
          by_cases g10 : 10 < opM x.v.op
          · clear q0 q1 q2 q3
            go_wp2
            go_roundw
            case rel => exact ⟨j + 1, F, s, T, nr, nn, A9, n9, c9, nes, by omega, rfl, by go_num, Lib.hid HW6.out.more⟩
            case measure => simp [intOf]; omega
          · have g10' : opM x.v.op < 11 := by omega
            go_wp2_with fail
            refine (op_any _ _ _ _ _).mono ?_
            rintro e w7 ⟨rfl, b7⟩
            have hx7 := has_blw HHX6.out b7
            have HW7 := Lib.hid (HW6.out.below b7)
            clear q0 q1 q2 q3
            have q0 := Has.at_ hx7 0
            have q1 := Has.at_ hx7 1
            have q2 := Has.at_ hx7 2
            have q3 := Has.at_ hx7 3
            have kg := Has.at_ HW7.out.cell 0
            simp at q0 q1 q2 q3 kg
            have HHX7 := Lib.hid hx7
            clear b7 hx7 HW6 HHX6
            by_cases k9 : opM x.v.op = 9
            · have t9 : (opM x.v.op == 9) = true := beq_iff_eq.2 k9
              have hb7 : Below w7.heap.size w7 w7.drew := (Below.refl _ _).drew
              have hxd : Has w7.drew wr.heap.size 41 #[.int .i64 x.v.op, .int .i64 x.v.i, .slice x.A x.n x.c, .string x.v.s] := HHX7.out
              have hwd := HW7.out.below hb7
              have hcd := hwd.cell
              have HWD := Lib.hid hwd
              have HWB := Lib.hid HW7.out.bel.size
              clear hb7 hwd HW7 HHX7
              go_wp2_with fail
              go_region_held3 (fun w' => w'.cell? ⟨wr.heap.size, 1, none⟩ = some (.int .i64 x.v.i) ∧ w'.cell? ⟨wr.heap.size, 3, none⟩ = some (.string x.v.s) ∧ w'.cell? ⟨w4.heap.size, 0, none⟩ = some (.pointer (some ⟨p, 0, none⟩))) (first | exact ⟨Has.at_ hxd 1, Has.at_ hxd 3, Has.at_ hcd 0⟩ | exact ⟨Has.at_ (hxd.past _) 1, Has.at_ (hxd.past _) 3, Has.at_ (hcd.past _) 0⟩) ((go_at_call 12; refine (below_any p F s x.v.i (fun i => HWD.out.inv.small.read i) _ HWD.out.sto).mono ?_; rintro e w' ⟨⟨v8, es8, rfl, ho8, hm8⟩, b8⟩; obtain ⟨A8, c8, rfl⟩ := own_sl2 ho8.row; replace hxd := has_blw hxd b8; replace hcd := has_blw hcd b8; replace HWD := Lib.hid (HWD.out.below b8); clear b8))
              obtain ⟨W7, hW7⟩ : ∃ W7 : World, w'.alloc (.cells #[.int .i64 x.v.i, .string x.v.s, .slice A8 es8.length c8] 38) = W7 := ⟨_, rfl⟩
              rw [hW7]
              have hbn : Below w'.heap.size w' W7 := by rw [← hW7]; exact (Below.refl _ _).alloc (Nat.le_refl _) _
              have HW7 := Lib.hid (HWD.out.below hbn)
              have hx7 := has_blw hxd hbn
              have HHX7 := Lib.hid hx7
              have HXN := Lib.hid (show NextI W7 w.heap.size w'.heap.size x.v.i x.v.s A8 es8.length c8 es8 from ⟨by rw [← hW7]; exact Has.fresh w' _ _, (ho8.below hbn).low (show w.heap.size ≤ w7.drew.heap.size from HWB.out)⟩)
              have HM8 := Lib.hid hm8
              clear q0 q1 q2 q3 kg
              have q0 := Has.at_ hx7 0
              have q1 := Has.at_ hx7 1
              have q2 := Has.at_ hx7 2
              have q3 := Has.at_ hx7 3
              have kg := Has.at_ HW7.out.cell 0
              simp at q0 q1 q2 q3 kg
              clear hW7 hbn hx7 hxd hcd ho8 hm8 HWD
              have HD := Lib.hid (does_sto K j p (w2.heap.size + 2) F s x.v x.A x.n x.c HW7.out.inv (by have := HN60.out; omega) g10' W7 HW7.out.sto (HFitO.out.row.below HW7.out.bel) (fun h0 b off e hb => by
                obtain ⟨b', off', e', hlt', _⟩ := HFitO.out.row.2 h0
                rw [e] at e'
                injection e' with e'
                injection e' with e1 e2 e3
                have := HW7.out.fresh.put b hb
                omega))
              go_wp2_with fail
              refine HD.out.mono ?_
              rintro e w8 ⟨v, A5, n5, c5, t5, E, rfl, s', hdv, ⟨F', hs8, e1, e2, e3, e4, e5, hg8⟩, hc8⟩
              have hst8 := HW7.out.does hdv hs8 e1 e2 e3 e4 e5 hg8 hc8
              have hb9 : Below w8.heap.size w8 (w8.alloc (.cells #[.slice A5 n5 c5, .string t5] 45)) := (Below.refl _ _).alloc (Nat.le_refl _) _
              have HT9 := Lib.hid (hst8.below hb9)
              have hx9 := has_blw (HHX7.out.over hc8 (dos_not HW7.out.sto HHX7.out (by decide) (by decide) (by decide))) hb9
              have HXN9 := Lib.hid ((HXN.out.dos HW7.out.sto hc8).below hb9)
              have q0 := Has.at_ hx9 0
              have q1 := Has.at_ hx9 1
              have q2 := Has.at_ hx9 2
              have q3 := Has.at_ hx9 3
              simp at q0 q1 q2 q3
              have HHX9 := Lib.hid hx9
              have HIM := Lib.hid (img_does HW7.out.inv (by have := HN60.out; omega) HW7.out.img hdv)
              clear hdv hs8 e1 e2 e3 e4 e5 hg8 hc8 hst8 hb9 hx9 HD
              rcases HIM.out with ⟨_, hE0, hrr, hi', hr', hn'⟩ | ⟨hE5, h09, hi', hr', hn'⟩ | ⟨hE5, hsafe⟩ | ⟨hE5, _, hrr, hhalf⟩
              · clear HIM
                subst hE0
                have HNG := Lib.hid (show es8.map BE.val = hangs (getT (treeOf K s x.v.i)) x.v.i by rw [HM8.out, hangs_tree HW7.out.inv HW7.out.img.on HW7.out.img.tells hrr])
                have HIR := Lib.hid (And.intro hi' (And.intro hr' hn'))
                clear hrr hi' hr' hn'
                go_wp2_with fail
                refine (op_any _ _ _ _ _).mono ?_
                rintro e w10 ⟨rfl, b10⟩
                have hT10 := HT9.out.below b10
                have hX10 := HXN9.out.below b10
                have x0 := Has.at_ hX10.at_ 0
                have x1 := Has.at_ hX10.at_ 1
                have x2 := Has.at_ hX10.at_ 2
                have y0 := Has.at_ hT10.now 0
                have y1 := Has.at_ hT10.now 1
                have y2 := Has.at_ hT10.now 2
                have f0 := Has.free hT10.now 0
                have f1 := Has.free hT10.now 1
                have f2 := Has.free hT10.now 2
                simp at x0 x1 x2 y0 y1 y2
                have HWN := Lib.hid (hT10.next hX10 HIR.out.1 HIR.out.2.1 HIR.out.2.2 HNG.out)
                clear b10 hT10 hX10 HT9 HXN9 q0 q1 q2 q3
                go_wp2
                go_roundw
                case rel => exact ⟨j + 1, F', s', treeOf K s x.v.i, x.v.i, x.v.s, A8, es8.length, c8, es8, by omega, rfl, by go_num, HWN⟩
                case measure => simp [intOf]; omega
              · clear HIM
                have hE0 : E ≠ 0 := fun e => h09 ⟨k9, e⟩
                have te0 : (E == 0) = false := beq_eq_false_iff_ne.2 hE0
                have te5 : (E == 5) = false := beq_eq_false_iff_ne.2 hE5
                go_wp2_with fail
                refine (op_any _ _ _ _ _).mono ?_
                rintro e w10 ⟨rfl, b10⟩
                have HWN := Lib.hid ((HT9.out.below b10).same hi' hr' hn' HW7.out.is)
                clear b10 q0 q1 q2 q3 te5 hE0 hE5 h09 hi' hr' hn' HT9
                go_wp2
                go_roundw
                case rel => exact ⟨j + 1, F', s', T, nr, nn, A9, n9, c9, nes, by omega, rfl, by go_num, HWN⟩
                case measure => simp [intOf]; omega
              · clear HIM
                subst hE5
                have HT := HT9
                have HHG := Lib.hid HW7.out.is.2.2
                clear q0 q1 q2 q3
                have HCO := Lib.hid (show CanOpen K (Dv.startD (Dv.crashD s'.dev ks)) s.gen nr nn T by
                  have h := hsafe.crash (And.intro HK.out.1 HK.out.2.1) ks
                  rw [HW7.out.is.1, HW7.out.is.2.1] at h
                  exact h)
                clear hsafe
                have hdev : Dv.DevIs (w8.alloc (.cells #[.slice A5 n5 c5, .string t5] 45)) (w2.heap.size + 2) F'.dk F'.dd s'.dev := by
                  have h := HT.out.sto.dev
                  rw [HT.out.dp] at h
                  exact h
                have hown : ∀ k, Dv.Own (w2.heap.size + 2) F'.dk F'.dd k → w.heap.size ≤ k := by
                  have h := HT.out.fresh.own
                  rw [HT.out.dp] at h
                  exact h
                have HCS := Lib.hid (Dv.crash_any (w2.heap.size + 2) F'.dk F'.dd s'.dev B m d ks (w8.alloc (.cells #[.slice A5 n5 c5, .string t5] 45)) HMM.out (HQ.out.below HT.out.bel) hdev)
                have HOW := Lib.hid hown
                have HTL := Lib.hid HT.out.tail
                have HDV := Lib.hid hdev
                clear hdev hown
                go_wp2_with fail
                refine HCS.out.mono ?_
                rintro e u1 ⟨rfl, hd1, hc1⟩
                have HTL1 := Lib.hid (HTL.out.dev HDV.out (Oct.Chg.of hc1) HOW.out)
                have HD1 := Lib.hid hd1
                clear hd1 hc1 HCS HTL HDV
                go_wp2_with fail
                refine (Dv.start_any _ _ _ _ u1 HD1.out).mono ?_
                rintro e u2 ⟨rfl, hd2, hc2, _⟩
                have HTL2 := Lib.hid (HTL1.out.dev HD1.out (Oct.Chg.of hc2) HOW.out)
                have HD2 := Lib.hid hd2
                clear hd2 hc2 HTL1 HD1
                obtain ⟨⟨V, hV, hOI⟩, hdn⟩ := open_tree HCO.out.tree HCO.out.reads HCO.out.calm HCO.out.size HK.out.2.1 HCO.out.new
                have HOP := Lib.hid (open_dev (w2.heap.size + 2) F'.dk F'.dd (Dv.startD (Dv.crashD s'.dev ks)) (by have h := HCO.out.size; have := HK.out.1; omega) (fun i => HCO.out.small.read i) hdn u2 HD2.out _ hV)
                have HOI := Lib.hid hOI
                clear hV hOI hdn HD2
                go_wp2_with fail
                refine HOP.out.mono ?_
                rintro e u3 ⟨hq3, b3⟩
                obtain ⟨p2, F2, rfl, hL2⟩ : ∃ p9 F9, e = .returned (.tuple #[.pointer (some ⟨p9, 0, none⟩), .int .i64 0]) ∧ Laid u2.heap.size V (w2.heap.size + 2) F'.dk F'.dd p9 F9 u3 := hq3
                have hT3 := HTL2.out.below b3
                have kc3 := Has.at_ hT3.cell 0
                have fc3 := Has.free hT3.cell 0
                have hT4 := hT3.set (some ⟨p2, 0, none⟩)
                have kc4 := Has.at_ hT4.cell 0
                simp at kc3 kc4
                have hS4 : StoIs (u3.setCell ⟨w4.heap.size, 0, none⟩ (.pointer (some ⟨p2, 0, none⟩))) p2 F2 V := hL2.is.other hT3.cell (by decide) (by decide) (by decide) (by decide) ((Chg.refl (· = w4.heap.size) u3).setCell (p := ⟨w4.heap.size, 0, none⟩) (.inl rfl) _)
                have HT4 := Lib.hid hT4
                have HS4 := Lib.hid hS4
                have HRO := root_sto p2 F2 V _ hS4
                rw [HOI.out.root, HOI.out.note] at HRO
                have HRO := Lib.hid HRO
                clear hT3 hT4 hS4 hL2 b3 HOP HTL2
                go_wp2_with fail
                refine HRO.out.mono ?_
                rintro e u5 ⟨rfl, b5⟩
                have HT5 := Lib.hid (HT4.out.below b5)
                have HS5 := Lib.hid (HS4.out.below b5)
                clear b5 HT4 HS4 HRO kc3 fc3 kc4
                have hb6 : Below u5.heap.size u5 ((u5.alloc (.cells #[.int .i64 nr] 3)).alloc (.cells #[.string nn] 9)) := ((Below.refl _ u5).alloc (Nat.le_refl _) _).alloc (by simp) _
                have hT6 := HT5.out.below hb6
                have HT6 := Lib.hid hT6
                have n0 := Has.at_ hT6.now 0
                have n1 := Has.at_ hT6.now 1
                have n2 := Has.at_ hT6.now 2
                simp at n0 n1 n2
                have hS6 := HS5.out.below hb6
                have HS6 := Lib.hid hS6
                have HR6 := Lib.hid ((Has.fresh u5 3 #[.int .i64 nr]).past (.cells #[.string nn] 9))
                have hQ6 := Has.fresh (u5.alloc (.cells #[.int .i64 nr] 3)) 9 #[.string nn]
                rw [World.size_alloc] at hQ6
                have HQ6 := Lib.hid hQ6
                have HSV := Lib.hid (show ∀ i, (Dv.rdS V.dev i).size ≤ 4104 from fun i => by rw [HOI.out.dev]; exact HCO.out.small.read i)
                have HIS := Lib.hid (is_any u5.heap.size (u5.heap.size + 1) w4.heap.size p2 F2 V nr nr nn nn A9 n9 c9 w.heap.size nes HSV.out _ HR6.out hQ6 hT6.cell hS6 hT6.row)
                clear hb6 hT6 hS6 hQ6 HT5 HS5
                go_wp2_with fail
                refine HIS.out.mono ?_
                rintro e u6 ⟨⟨bb, rfl, hbb⟩, b6⟩
                have HT7 := Lib.hid (HT6.out.below b6)
                have hbt : bb = true := hbb.2 (by rw [hangs_open HOI.out, HHG.out])
                subst hbt
                clear hbb b6 HIS HT6 n0 n1 n2
                go_wp2_with fail
                refine (awake_any _).mono ?_
                rintro e u7 ⟨rfl, b7⟩
                go_wp2
                go_ret
                exact ⟨rfl, HT7.out.bel.trans (b7.mono HT7.out.bel.size)⟩
              · clear HIM
                subst hE5
                have HT := HT9
                have HHG := Lib.hid HW7.out.is.2.2
                clear q0 q1 q2 q3
                have HNG := Lib.hid (show es8.map BE.val = hangs (getT (treeOf K s x.v.i)) x.v.i by rw [HM8.out, hangs_tree HW7.out.inv HW7.out.img.on HW7.out.img.tells hrr])
                have HXN := HXN9
                have hcr := hhalf.crash (And.intro HK.out.1 HK.out.2.1) ks
                rw [HW7.out.is.1, HW7.out.is.2.1] at hcr
                have HCR := Lib.hid hcr
                clear hhalf hcr hrr
                rcases HCR.out with HCO | HCO
                · have HCO := Lib.hid HCO
                  have hdev : Dv.DevIs (w8.alloc (.cells #[.slice A5 n5 c5, .string t5] 45)) (w2.heap.size + 2) F'.dk F'.dd s'.dev := by
                    have h := HT.out.sto.dev
                    rw [HT.out.dp] at h
                    exact h
                  have hown : ∀ k, Dv.Own (w2.heap.size + 2) F'.dk F'.dd k → w.heap.size ≤ k := by
                    have h := HT.out.fresh.own
                    rw [HT.out.dp] at h
                    exact h
                  have HCS := Lib.hid (Dv.crash_any (w2.heap.size + 2) F'.dk F'.dd s'.dev B m d ks (w8.alloc (.cells #[.slice A5 n5 c5, .string t5] 45)) HMM.out (HQ.out.below HT.out.bel) hdev)
                  have HOW := Lib.hid hown
                  have HTL := Lib.hid HT.out.tail
                  have HDV := Lib.hid hdev
                  clear hdev hown
                  go_wp2_with fail
                  refine HCS.out.mono ?_
                  rintro e u1 ⟨rfl, hd1, hc1⟩
                  have HTL1 := Lib.hid (HTL.out.dev HDV.out (Oct.Chg.of hc1) HOW.out)
                  have HD1 := Lib.hid hd1
                  clear hd1 hc1 HCS HTL HDV
                  go_wp2_with fail
                  refine (Dv.start_any _ _ _ _ u1 HD1.out).mono ?_
                  rintro e u2 ⟨rfl, hd2, hc2, _⟩
                  have HTL2 := Lib.hid (HTL1.out.dev HD1.out (Oct.Chg.of hc2) HOW.out)
                  have HD2 := Lib.hid hd2
                  clear hd2 hc2 HTL1 HD1
                  obtain ⟨⟨V, hV, hOI⟩, hdn⟩ := open_tree HCO.out.tree HCO.out.reads HCO.out.calm HCO.out.size HK.out.2.1 HCO.out.new
                  have HOP := Lib.hid (open_dev (w2.heap.size + 2) F'.dk F'.dd (Dv.startD (Dv.crashD s'.dev ks)) (by have h := HCO.out.size; have := HK.out.1; omega) (fun i => HCO.out.small.read i) hdn u2 HD2.out _ hV)
                  have HOI := Lib.hid hOI
                  clear hV hOI hdn HD2
                  go_wp2_with fail
                  refine HOP.out.mono ?_
                  rintro e u3 ⟨hq3, b3⟩
                  obtain ⟨p2, F2, rfl, hL2⟩ : ∃ p9 F9, e = .returned (.tuple #[.pointer (some ⟨p9, 0, none⟩), .int .i64 0]) ∧ Laid u2.heap.size V (w2.heap.size + 2) F'.dk F'.dd p9 F9 u3 := hq3
                  have hT3 := HTL2.out.below b3
                  have kc3 := Has.at_ hT3.cell 0
                  have fc3 := Has.free hT3.cell 0
                  have hT4 := hT3.set (some ⟨p2, 0, none⟩)
                  have kc4 := Has.at_ hT4.cell 0
                  simp at kc3 kc4
                  have hS4 : StoIs (u3.setCell ⟨w4.heap.size, 0, none⟩ (.pointer (some ⟨p2, 0, none⟩))) p2 F2 V := hL2.is.other hT3.cell (by decide) (by decide) (by decide) (by decide) ((Chg.refl (· = w4.heap.size) u3).setCell (p := ⟨w4.heap.size, 0, none⟩) (.inl rfl) _)
                  have HT4 := Lib.hid hT4
                  have HS4 := Lib.hid hS4
                  have HRO := root_sto p2 F2 V _ hS4
                  rw [HOI.out.root, HOI.out.note] at HRO
                  have HRO := Lib.hid HRO
                  clear hT3 hT4 hS4 hL2 b3 HOP HTL2
                  go_wp2_with fail
                  refine HRO.out.mono ?_
                  rintro e u5 ⟨rfl, b5⟩
                  have HT5 := Lib.hid (HT4.out.below b5)
                  have HS5 := Lib.hid (HS4.out.below b5)
                  clear b5 HT4 HS4 HRO kc3 fc3 kc4
                  have hb6 : Below u5.heap.size u5 ((u5.alloc (.cells #[.int .i64 nr] 3)).alloc (.cells #[.string nn] 9)) := ((Below.refl _ u5).alloc (Nat.le_refl _) _).alloc (by simp) _
                  have hT6 := HT5.out.below hb6
                  have HT6 := Lib.hid hT6
                  have n0 := Has.at_ hT6.now 0
                  have n1 := Has.at_ hT6.now 1
                  have n2 := Has.at_ hT6.now 2
                  simp at n0 n1 n2
                  have hS6 := HS5.out.below hb6
                  have HS6 := Lib.hid hS6
                  have HR6 := Lib.hid ((Has.fresh u5 3 #[.int .i64 nr]).past (.cells #[.string nn] 9))
                  have hQ6 := Has.fresh (u5.alloc (.cells #[.int .i64 nr] 3)) 9 #[.string nn]
                  rw [World.size_alloc] at hQ6
                  have HQ6 := Lib.hid hQ6
                  have HSV := Lib.hid (show ∀ i, (Dv.rdS V.dev i).size ≤ 4104 from fun i => by rw [HOI.out.dev]; exact HCO.out.small.read i)
                  have HIS := Lib.hid (is_any u5.heap.size (u5.heap.size + 1) w4.heap.size p2 F2 V nr nr nn nn A9 n9 c9 w.heap.size nes HSV.out _ HR6.out hQ6 hT6.cell hS6 hT6.row)
                  clear hb6 hT6 hS6 hQ6 HT5 HS5
                  go_wp2_with fail
                  refine HIS.out.mono ?_
                  rintro e u6 ⟨⟨bb, rfl, hbb⟩, b6⟩
                  have HT7 := Lib.hid (HT6.out.below b6)
                  have hbt : bb = true := hbb.2 (by rw [hangs_open HOI.out, HHG.out])
                  subst hbt
                  clear hbb b6 HIS HT6 n0 n1 n2
                  go_wp2_with fail
                  refine (awake_any _).mono ?_
                  rintro e u7 ⟨rfl, b7⟩
                  go_wp2
                  go_ret
                  exact ⟨rfl, HT7.out.bel.trans (b7.mono HT7.out.bel.size)⟩
                · have HCO := Lib.hid HCO
                  have hdev : Dv.DevIs (w8.alloc (.cells #[.slice A5 n5 c5, .string t5] 45)) (w2.heap.size + 2) F'.dk F'.dd s'.dev := by
                    have h := HT.out.sto.dev
                    rw [HT.out.dp] at h
                    exact h
                  have hown : ∀ k, Dv.Own (w2.heap.size + 2) F'.dk F'.dd k → w.heap.size ≤ k := by
                    have h := HT.out.fresh.own
                    rw [HT.out.dp] at h
                    exact h
                  have HCS := Lib.hid (Dv.crash_any (w2.heap.size + 2) F'.dk F'.dd s'.dev B m d ks (w8.alloc (.cells #[.slice A5 n5 c5, .string t5] 45)) HMM.out (HQ.out.below HT.out.bel) hdev)
                  have HOW := Lib.hid hown
                  have HTL := Lib.hid HT.out.tail
                  have HDV := Lib.hid hdev
                  clear hdev hown
                  go_wp2_with fail
                  refine HCS.out.mono ?_
                  rintro e u1 ⟨rfl, hd1, hc1⟩
                  have HTL1 := Lib.hid (HTL.out.dev HDV.out (Oct.Chg.of hc1) HOW.out)
                  have HD1 := Lib.hid hd1
                  have HX1 := Lib.hid (HXN.out.dev HDV.out (Oct.Chg.of hc1))
                  clear hd1 hc1 HCS HTL HDV
                  go_wp2_with fail
                  refine (Dv.start_any _ _ _ _ u1 HD1.out).mono ?_
                  rintro e u2 ⟨rfl, hd2, hc2, _⟩
                  have HTL2 := Lib.hid (HTL1.out.dev HD1.out (Oct.Chg.of hc2) HOW.out)
                  have HD2 := Lib.hid hd2
                  have HX2 := Lib.hid (HX1.out.dev HD1.out (Oct.Chg.of hc2))
                  clear hd2 hc2 HTL1 HD1
                  obtain ⟨⟨V, hV, hOI⟩, hdn⟩ := open_tree HCO.out.tree HCO.out.reads HCO.out.calm HCO.out.size HK.out.2.1 HCO.out.new
                  have HOP := Lib.hid (open_dev (w2.heap.size + 2) F'.dk F'.dd (Dv.startD (Dv.crashD s'.dev ks)) (by have h := HCO.out.size; have := HK.out.1; omega) (fun i => HCO.out.small.read i) hdn u2 HD2.out _ hV)
                  have HOI := Lib.hid hOI
                  clear hV hOI hdn HD2
                  go_wp2_with fail
                  refine HOP.out.mono ?_
                  rintro e u3 ⟨hq3, b3⟩
                  obtain ⟨p2, F2, rfl, hL2⟩ : ∃ p9 F9, e = .returned (.tuple #[.pointer (some ⟨p9, 0, none⟩), .int .i64 0]) ∧ Laid u2.heap.size V (w2.heap.size + 2) F'.dk F'.dd p9 F9 u3 := hq3
                  have hT3 := HTL2.out.below b3
                  have kc3 := Has.at_ hT3.cell 0
                  have fc3 := Has.free hT3.cell 0
                  have hT4 := hT3.set (some ⟨p2, 0, none⟩)
                  have kc4 := Has.at_ hT4.cell 0
                  simp at kc3 kc4
                  have hS4 : StoIs (u3.setCell ⟨w4.heap.size, 0, none⟩ (.pointer (some ⟨p2, 0, none⟩))) p2 F2 V := hL2.is.other hT3.cell (by decide) (by decide) (by decide) (by decide) ((Chg.refl (· = w4.heap.size) u3).setCell (p := ⟨w4.heap.size, 0, none⟩) (.inl rfl) _)
                  have HX4 := Lib.hid ((HX2.out.below b3).cell hT3.cell ((Chg.refl (· = w4.heap.size) u3).setCell (p := ⟨w4.heap.size, 0, none⟩) (.inl rfl) (.pointer (some ⟨p2, 0, none⟩))))
                  have HT4 := Lib.hid hT4
                  have HS4 := Lib.hid hS4
                  have HRO := root_sto p2 F2 V _ hS4
                  rw [HOI.out.root, HOI.out.note] at HRO
                  have HRO := Lib.hid HRO
                  clear hT3 hT4 hS4 hL2 b3 HOP HTL2
                  go_wp2_with fail
                  refine HRO.out.mono ?_
                  rintro e u5 ⟨rfl, b5⟩
                  have HT5 := Lib.hid (HT4.out.below b5)
                  have HS5 := Lib.hid (HS4.out.below b5)
                  have HX5 := Lib.hid (HX4.out.below b5)
                  clear b5 HT4 HS4 HRO kc3 fc3 kc4
                  have hb6 : Below u5.heap.size u5 ((u5.alloc (.cells #[.int .i64 x.v.i] 3)).alloc (.cells #[.string x.v.s] 9)) := ((Below.refl _ u5).alloc (Nat.le_refl _) _).alloc (by simp) _
                  have hT6 := HT5.out.below hb6
                  have HT6 := Lib.hid hT6
                  have n0 := Has.at_ hT6.now 0
                  have n1 := Has.at_ hT6.now 1
                  have n2 := Has.at_ hT6.now 2
                  simp at n0 n1 n2
                  have hS6 := HS5.out.below hb6
                  have HS6 := Lib.hid hS6
                  have HR6 := Lib.hid ((Has.fresh u5 3 #[.int .i64 x.v.i]).past (.cells #[.string x.v.s] 9))
                  have hQ6 := Has.fresh (u5.alloc (.cells #[.int .i64 x.v.i] 3)) 9 #[.string x.v.s]
                  rw [World.size_alloc] at hQ6
                  have HQ6 := Lib.hid hQ6
                  have HSV := Lib.hid (show ∀ i, (Dv.rdS V.dev i).size ≤ 4104 from fun i => by rw [HOI.out.dev]; exact HCO.out.small.read i)
                  have HX6 := Lib.hid (HX5.out.below hb6)
                  have HIS := Lib.hid (is_any u5.heap.size (u5.heap.size + 1) w4.heap.size p2 F2 V x.v.i nr x.v.s nn A9 n9 c9 w.heap.size nes HSV.out _ HR6.out hQ6 hT6.cell hS6 hT6.row)
                  clear hb6 hT6 hS6 hQ6 HT5 HS5
                  go_wp2_with fail
                  refine HIS.out.mono ?_
                  rintro e u6 ⟨⟨bb, rfl, hbb⟩, b6⟩
                  have HT7 := Lib.hid (HT6.out.below b6)
                  have HS7 := Lib.hid (HS6.out.below b6)
                  have hx7 := HX6.out.below b6
                  have HX7 := Lib.hid hx7
                  have HR7 := Lib.hid (has_blw HR6.out b6)
                  have HQ7 := Lib.hid (has_blw HQ6.out b6)
                  have x0 := Has.at_ hx7.at_ 0
                  have x1 := Has.at_ hx7.at_ 1
                  have x2 := Has.at_ hx7.at_ 2
                  simp at x0 x1 x2
                  clear hbb b6 HIS HT6 n0 n1 n2 hx7 HS6 HR6 HQ6
                  cases bb with
                  | true =>
                    go_wp2_with fail
                    refine (awake_any _).mono ?_
                    rintro e u7 ⟨rfl, b7⟩
                    go_wp2
                    go_ret
                    exact ⟨rfl, HT7.out.bel.trans (b7.mono HT7.out.bel.size)⟩
                  | false =>
                    have HIS := Lib.hid (is_any u5.heap.size (u5.heap.size + 1) w4.heap.size p2 F2 V x.v.i x.v.i x.v.s x.v.s A8 es8.length c8 w.heap.size es8 HSV.out _ HR7.out HQ7.out HT7.out.cell HS7.out HX7.out.row)
                    go_wp2_with fail
                    refine HIS.out.mono ?_
                    rintro e u8 ⟨⟨b2, rfl, hb2⟩, b8⟩
                    have HT8 := Lib.hid (HT7.out.below b8)
                    have hbt : b2 = true := hb2.2 (by rw [hangs_open HOI.out, HNG.out])
                    subst hbt
                    clear hb2 b8 HIS HT7
                    have HT7 := HT8
                    go_wp2_with fail
                    refine (awake_any _).mono ?_
                    rintro e u7 ⟨rfl, b7⟩
                    go_wp2
                    go_ret
                    exact ⟨rfl, HT7.out.bel.trans (b7.mono HT7.out.bel.size)⟩
            · have t9 : (opM x.v.op == 9) = false := beq_eq_false_iff_ne.2 k9
              have HD := Lib.hid (does_sto K j p (w2.heap.size + 2) F s x.v x.A x.n x.c HW7.out.inv (by have := HN60.out; omega) g10' w7 HW7.out.sto (HFitO.out.row.below HW7.out.bel) (fun h0 b off e hb => by
                obtain ⟨b', off', e', hlt', _⟩ := HFitO.out.row.2 h0
                rw [e] at e'
                injection e' with e'
                injection e' with e1 e2 e3
                have := HW7.out.fresh.put b hb
                omega))
              go_wp2_with fail
              refine HD.out.mono ?_
              rintro e w8 ⟨v, A5, n5, c5, t5, E, rfl, s', hdv, ⟨F', hs8, e1, e2, e3, e4, e5, hg8⟩, hc8⟩
              have hst8 := HW7.out.does hdv hs8 e1 e2 e3 e4 e5 hg8 hc8
              have hb9 : Below w8.heap.size w8 (w8.alloc (.cells #[.slice A5 n5 c5, .string t5] 45)) := (Below.refl _ _).alloc (Nat.le_refl _) _
              have HT9 := Lib.hid (hst8.below hb9)
              have hx9 := has_blw (HHX7.out.over hc8 (dos_not HW7.out.sto HHX7.out (by decide) (by decide) (by decide))) hb9
              have q0 := Has.at_ hx9 0
              have q1 := Has.at_ hx9 1
              have q2 := Has.at_ hx9 2
              have q3 := Has.at_ hx9 3
              simp at q0 q1 q2 q3
              have HHX9 := Lib.hid hx9
              have HIM := Lib.hid (img_does HW7.out.inv (by have := HN60.out; omega) HW7.out.img hdv)
              clear hdv hs8 e1 e2 e3 e4 e5 hg8 hc8 hst8 hb9 hx9 HD
              rcases HIM.out with ⟨h9, _⟩ | ⟨hE5, h09, hi', hr', hn'⟩ | ⟨hE5, hsafe⟩ | ⟨_, h9, _⟩
              · exact (k9 h9).elim
              · clear HIM
                have te5 : (E == 5) = false := beq_eq_false_iff_ne.2 hE5
                go_wp2_with fail
                refine (op_any _ _ _ _ _).mono ?_
                rintro e w10 ⟨rfl, b10⟩
                have HWN := Lib.hid ((HT9.out.below b10).same hi' hr' hn' HW7.out.is)
                clear b10 q0 q1 q2 q3 te5 hE5 h09 hi' hr' hn' HT9
                go_wp2
                go_roundw
                case rel => exact ⟨j + 1, F', s', T, nr, nn, A9, n9, c9, nes, by omega, rfl, by go_num, HWN⟩
                case measure => simp [intOf]; omega
              · clear HIM
                subst hE5
                have HT := HT9
                have HHG := Lib.hid HW7.out.is.2.2
                clear q0 q1 q2 q3
                have HCO := Lib.hid (show CanOpen K (Dv.startD (Dv.crashD s'.dev ks)) s.gen nr nn T by
                  have h := hsafe.crash (And.intro HK.out.1 HK.out.2.1) ks
                  rw [HW7.out.is.1, HW7.out.is.2.1] at h
                  exact h)
                clear hsafe
                have hdev : Dv.DevIs (w8.alloc (.cells #[.slice A5 n5 c5, .string t5] 45)) (w2.heap.size + 2) F'.dk F'.dd s'.dev := by
                  have h := HT.out.sto.dev
                  rw [HT.out.dp] at h
                  exact h
                have hown : ∀ k, Dv.Own (w2.heap.size + 2) F'.dk F'.dd k → w.heap.size ≤ k := by
                  have h := HT.out.fresh.own
                  rw [HT.out.dp] at h
                  exact h
                have HCS := Lib.hid (Dv.crash_any (w2.heap.size + 2) F'.dk F'.dd s'.dev B m d ks (w8.alloc (.cells #[.slice A5 n5 c5, .string t5] 45)) HMM.out (HQ.out.below HT.out.bel) hdev)
                have HOW := Lib.hid hown
                have HTL := Lib.hid HT.out.tail
                have HDV := Lib.hid hdev
                clear hdev hown
                go_wp2_with fail
                refine HCS.out.mono ?_
                rintro e u1 ⟨rfl, hd1, hc1⟩
                have HTL1 := Lib.hid (HTL.out.dev HDV.out (Oct.Chg.of hc1) HOW.out)
                have HD1 := Lib.hid hd1
                clear hd1 hc1 HCS HTL HDV
                go_wp2_with fail
                refine (Dv.start_any _ _ _ _ u1 HD1.out).mono ?_
                rintro e u2 ⟨rfl, hd2, hc2, _⟩
                have HTL2 := Lib.hid (HTL1.out.dev HD1.out (Oct.Chg.of hc2) HOW.out)
                have HD2 := Lib.hid hd2
                clear hd2 hc2 HTL1 HD1
                obtain ⟨⟨V, hV, hOI⟩, hdn⟩ := open_tree HCO.out.tree HCO.out.reads HCO.out.calm HCO.out.size HK.out.2.1 HCO.out.new
                have HOP := Lib.hid (open_dev (w2.heap.size + 2) F'.dk F'.dd (Dv.startD (Dv.crashD s'.dev ks)) (by have h := HCO.out.size; have := HK.out.1; omega) (fun i => HCO.out.small.read i) hdn u2 HD2.out _ hV)
                have HOI := Lib.hid hOI
                clear hV hOI hdn HD2
                go_wp2_with fail
                refine HOP.out.mono ?_
                rintro e u3 ⟨hq3, b3⟩
                obtain ⟨p2, F2, rfl, hL2⟩ : ∃ p9 F9, e = .returned (.tuple #[.pointer (some ⟨p9, 0, none⟩), .int .i64 0]) ∧ Laid u2.heap.size V (w2.heap.size + 2) F'.dk F'.dd p9 F9 u3 := hq3
                have hT3 := HTL2.out.below b3
                have kc3 := Has.at_ hT3.cell 0
                have fc3 := Has.free hT3.cell 0
                have hT4 := hT3.set (some ⟨p2, 0, none⟩)
                have kc4 := Has.at_ hT4.cell 0
                simp at kc3 kc4
                have hS4 : StoIs (u3.setCell ⟨w4.heap.size, 0, none⟩ (.pointer (some ⟨p2, 0, none⟩))) p2 F2 V := hL2.is.other hT3.cell (by decide) (by decide) (by decide) (by decide) ((Chg.refl (· = w4.heap.size) u3).setCell (p := ⟨w4.heap.size, 0, none⟩) (.inl rfl) _)
                have HT4 := Lib.hid hT4
                have HS4 := Lib.hid hS4
                have HRO := root_sto p2 F2 V _ hS4
                rw [HOI.out.root, HOI.out.note] at HRO
                have HRO := Lib.hid HRO
                clear hT3 hT4 hS4 hL2 b3 HOP HTL2
                go_wp2_with fail
                refine HRO.out.mono ?_
                rintro e u5 ⟨rfl, b5⟩
                have HT5 := Lib.hid (HT4.out.below b5)
                have HS5 := Lib.hid (HS4.out.below b5)
                clear b5 HT4 HS4 HRO kc3 fc3 kc4
                have hb6 : Below u5.heap.size u5 ((u5.alloc (.cells #[.int .i64 nr] 3)).alloc (.cells #[.string nn] 9)) := ((Below.refl _ u5).alloc (Nat.le_refl _) _).alloc (by simp) _
                have hT6 := HT5.out.below hb6
                have HT6 := Lib.hid hT6
                have n0 := Has.at_ hT6.now 0
                have n1 := Has.at_ hT6.now 1
                have n2 := Has.at_ hT6.now 2
                simp at n0 n1 n2
                have hS6 := HS5.out.below hb6
                have HS6 := Lib.hid hS6
                have HR6 := Lib.hid ((Has.fresh u5 3 #[.int .i64 nr]).past (.cells #[.string nn] 9))
                have hQ6 := Has.fresh (u5.alloc (.cells #[.int .i64 nr] 3)) 9 #[.string nn]
                rw [World.size_alloc] at hQ6
                have HQ6 := Lib.hid hQ6
                have HSV := Lib.hid (show ∀ i, (Dv.rdS V.dev i).size ≤ 4104 from fun i => by rw [HOI.out.dev]; exact HCO.out.small.read i)
                have HIS := Lib.hid (is_any u5.heap.size (u5.heap.size + 1) w4.heap.size p2 F2 V nr nr nn nn A9 n9 c9 w.heap.size nes HSV.out _ HR6.out hQ6 hT6.cell hS6 hT6.row)
                clear hb6 hT6 hS6 hQ6 HT5 HS5
                go_wp2_with fail
                refine HIS.out.mono ?_
                rintro e u6 ⟨⟨bb, rfl, hbb⟩, b6⟩
                have HT7 := Lib.hid (HT6.out.below b6)
                have hbt : bb = true := hbb.2 (by rw [hangs_open HOI.out, HHG.out])
                subst hbt
                clear hbb b6 HIS HT6 n0 n1 n2
                go_wp2_with fail
                refine (awake_any _).mono ?_
                rintro e u7 ⟨rfl, b7⟩
                go_wp2
                go_ret
                exact ⟨rfl, HT7.out.bel.trans (b7.mono HT7.out.bel.size)⟩
              · exact (k9 h9).elim
        · obtain rfl : j = n := by omega
          have HT := Lib.hid HW.out.step
          have HCO := Lib.hid (show CanOpen K (Dv.startD (Dv.crashD s.dev ks)) s.gen nr nn T by
            have h := HW.out.img.safe.crash (And.intro HK.out.1 HK.out.2.1) ks
            rw [HW.out.is.1, HW.out.is.2.1] at h
            exact h)
          have HHG := Lib.hid HW.out.is.2.2
          clear hr hlt hj HW
          have hdev : Dv.DevIs wr (w2.heap.size + 2) F.dk F.dd s.dev := by
            have h := HT.out.sto.dev
            rw [HT.out.dp] at h
            exact h
          have hown : ∀ k, Dv.Own (w2.heap.size + 2) F.dk F.dd k → w.heap.size ≤ k := by
            have h := HT.out.fresh.own
            rw [HT.out.dp] at h
            exact h
          have HCS := Lib.hid (Dv.crash_any (w2.heap.size + 2) F.dk F.dd s.dev B m d ks wr HMM.out (HQ.out.below HT.out.bel) hdev)
          have HOW := Lib.hid hown
          have HTL := Lib.hid HT.out.tail
          have HDV := Lib.hid hdev
          clear hdev hown
          go_wp2_with fail
          refine HCS.out.mono ?_
          rintro e u1 ⟨rfl, hd1, hc1⟩
          have HTL1 := Lib.hid (HTL.out.dev HDV.out (Oct.Chg.of hc1) HOW.out)
          have HD1 := Lib.hid hd1
          clear hd1 hc1 HCS HTL HDV
          go_wp2_with fail
          refine (Dv.start_any _ _ _ _ u1 HD1.out).mono ?_
          rintro e u2 ⟨rfl, hd2, hc2, _⟩
          have HTL2 := Lib.hid (HTL1.out.dev HD1.out (Oct.Chg.of hc2) HOW.out)
          have HD2 := Lib.hid hd2
          clear hd2 hc2 HTL1 HD1
          obtain ⟨⟨V, hV, hOI⟩, hdn⟩ := open_tree HCO.out.tree HCO.out.reads HCO.out.calm HCO.out.size HK.out.2.1 HCO.out.new
          have HOP := Lib.hid (open_dev (w2.heap.size + 2) F.dk F.dd (Dv.startD (Dv.crashD s.dev ks)) (by have h := HCO.out.size; have := HK.out.1; omega) (fun i => HCO.out.small.read i) hdn u2 HD2.out _ hV)
          have HOI := Lib.hid hOI
          clear hV hOI hdn HD2
          go_wp2_with fail
          refine HOP.out.mono ?_
          rintro e u3 ⟨hq3, b3⟩
          obtain ⟨p2, F2, rfl, hL2⟩ : ∃ p9 F9, e = .returned (.tuple #[.pointer (some ⟨p9, 0, none⟩), .int .i64 0]) ∧ Laid u2.heap.size V (w2.heap.size + 2) F.dk F.dd p9 F9 u3 := hq3
          have hT3 := HTL2.out.below b3
          have kc3 := Has.at_ hT3.cell 0
          have fc3 := Has.free hT3.cell 0
          have hT4 := hT3.set (some ⟨p2, 0, none⟩)
          have kc4 := Has.at_ hT4.cell 0
          simp at kc3 kc4
          have hS4 : StoIs (u3.setCell ⟨w4.heap.size, 0, none⟩ (.pointer (some ⟨p2, 0, none⟩))) p2 F2 V := hL2.is.other hT3.cell (by decide) (by decide) (by decide) (by decide) ((Chg.refl (· = w4.heap.size) u3).setCell (p := ⟨w4.heap.size, 0, none⟩) (.inl rfl) _)
          have HT4 := Lib.hid hT4
          have HS4 := Lib.hid hS4
          have HRO := root_sto p2 F2 V _ hS4
          rw [HOI.out.root, HOI.out.note] at HRO
          have HRO := Lib.hid HRO
          clear hT3 hT4 hS4 hL2 b3 HOP HTL2
          go_wp2_with fail
          refine HRO.out.mono ?_
          rintro e u5 ⟨rfl, b5⟩
          have HT5 := Lib.hid (HT4.out.below b5)
          have HS5 := Lib.hid (HS4.out.below b5)
          clear b5 HT4 HS4 HRO kc3 fc3 kc4
          have hb6 : Below u5.heap.size u5 ((u5.alloc (.cells #[.int .i64 nr] 3)).alloc (.cells #[.string nn] 9)) := ((Below.refl _ u5).alloc (Nat.le_refl _) _).alloc (by simp) _
          have hT6 := HT5.out.below hb6
          have HT6 := Lib.hid hT6
          have n0 := Has.at_ hT6.now 0
          have n1 := Has.at_ hT6.now 1
          have n2 := Has.at_ hT6.now 2
          simp at n0 n1 n2
          have hS6 := HS5.out.below hb6
          have HS6 := Lib.hid hS6
          have HR6 := Lib.hid ((Has.fresh u5 3 #[.int .i64 nr]).past (.cells #[.string nn] 9))
          have hQ6 := Has.fresh (u5.alloc (.cells #[.int .i64 nr] 3)) 9 #[.string nn]
          rw [World.size_alloc] at hQ6
          have HQ6 := Lib.hid hQ6
          have HSV := Lib.hid (show ∀ i, (Dv.rdS V.dev i).size ≤ 4104 from fun i => by rw [HOI.out.dev]; exact HCO.out.small.read i)
          have HIS := Lib.hid (is_any u5.heap.size (u5.heap.size + 1) w4.heap.size p2 F2 V nr nr nn nn A9 n9 c9 w.heap.size nes HSV.out _ HR6.out hQ6 hT6.cell hS6 hT6.row)
          clear hb6 hT6 hS6 hQ6 HT5 HS5
          go_wp2_with fail
          refine HIS.out.mono ?_
          rintro e u6 ⟨⟨bb, rfl, hbb⟩, b6⟩
          have HT7 := Lib.hid (HT6.out.below b6)
          have hbt : bb = true := hbb.2 (by rw [hangs_open HOI.out, HHG.out])
          subst hbt
          clear hbb b6 HIS HT6 n0 n1 n2
          go_wp2_with fail
          refine (awake_any _).mono ?_
          rintro e u7 ⟨rfl, b7⟩
          go_wp2
          go_ret
          exact ⟨rfl, HT7.out.bel.trans (b7.mono HT7.out.bel.size)⟩
theorem whole_walk (w : World) (a0 : Int) (A1 : Option Addr) (n1 c1 : Nat) (a1 : List DoC) (a2 : Int) (A3 : Option Addr) (n3 c3 : Nat) (a3 : List Int)
    (_ : (Lit.int .i64 a0).wf = true) (w1 : DoRow w A1 n1 a1) (b1 : n1 ≤ c1) (m1 : c1 ≤ maxLen) (_ : (Lit.int .i64 a2).wf = true)
    (w3 : NumRow w A3 n3 a3) (_ : A3 = none → n3 = 0 ∧ c3 = 0) (b3 : n3 ≤ c3) (m3 : c3 ≤ maxLen) (_ : ∀ x ∈ a3, -9223372036854775808 ≤ x ∧ x ≤ 9223372036854775807) :
    Calls Try.prog 3 #[.int .i64 a0, .slice A1 n1 c1, .int .i64 a2, .slice A3 n3 c3] w fun e w' => e = .returned (.bool true) ∧ Below w.heap.size w w' :=
  whole_law a0 A1 n1 c1 a1 a2 A3 n3 c3 a3 (by unfold maxLen at m1; omega) (Nat.le_trans b3 m3) w w1 w3
end Go.Proofs.Ytkbpjegegjgbkaa.Sto
