/- The walk of the law StoreOver. -/
import Derived.Test.YtkbpjegegjgbkaaGreatSxD
import Derived.Test.YtkbpjegegjgbkaaGreatT10
import Derived.Test.YtkbpjegegjgbkaaGreatReg
namespace Go.Proofs.YtkbpjegegjgbkaaGreat.Sto
open Go.RowKit
open Oct (Has Chg)
open Rws
open Dv (DoV)
open Mem (IMap)
set_option linter.unusedVariables false

theorem own_big {w : World} {B : Nat} {v : Value} {l : List Int} (h : OwnI w B v l) : l.length ≤ 9223372036854775807 := by
  rcases h.2 with ⟨_, e0⟩ | ⟨_, _, _, _, _, _, z3, z4, _⟩
  · omega
  · unfold maxLen at z4; omega
theorem own_max {w : World} {B : Nat} {v : Value} {l : List Int} (h : OwnI w B v l) : l.length ≤ maxLen := by
  rcases h.2 with ⟨_, e0⟩ | ⟨_, _, _, _, _, _, z3, z4, _⟩
  · omega
  · omega
theorem out_big {w : World} {B : Nat} {v : Value} {es : List BE} (h : OutRow w B v es) : es.length ≤ 9223372036854775807 := by
  rcases h.row.2 with ⟨_, e0⟩ | ⟨_, _, _, _, _, _, z3, z4, _⟩
  · omega
  · unfold maxLen at z4; omega
theorem own_cap {w : World} {B k n c : Nat} {t : TypeId} {g : Addr} {xs : List Value} (h : w.ownsRow B t k (.slice (some g) n c) n xs) : n ≤ c := by
  rcases h.2 with ⟨e1, _⟩ | ⟨_, _, _, e1, _, _, z3, _⟩
  · cases e1
  · injection e1 with _ _ e3
    omega
theorem cut_nums {q c : Nat} (h : q + 1 ≤ c) (h2 : q ≤ 40) : IntKind.i64.wrap ((q : Int) + 1) = (q : Int) + 1 ∧ (0 : Int) ≤ (q : Int) + 1 ∧ (q : Int) + 1 ≤ (c : Int) ∧ ¬ c = q := by
  refine ⟨by rw [IntKind.wrap_i64]; omega, by omega, by omega, by omega⟩
set_option maxRecDepth 100000 in
set_option maxHeartbeats 16000000 in
theorem over_law (x : Int) (A : Option Addr) (n c : Nat) (xs : List DoC) (y : DoC) (hn : n ≤ 9223372036854775807) (w : World) (h : DoRow w A n xs) (hy : Fits w y) :
    Calls Tryz.prog 3 #[.int .i64 x, .slice A n c, .agg #[.int .i64 y.v.op, .int .i64 y.v.i, .slice y.A y.n y.c, .string y.v.s]] w fun e w' => e = .returned (.bool true) ∧ Below w.heap.size w w' := by
  obtain ⟨K, k1, k2, hK⟩ := size_of x
  obtain ⟨wB, hwB⟩ : ∃ wB : World, wB = w.alloc (.cells #[.int .i64 y.v.op, .int .i64 y.v.i, .slice y.A y.n y.c, .string y.v.s] 25) := ⟨_, rfl⟩
  have b0 : Below w.heap.size w wB := by rw [hwB]; exact (Below.refl _ w).alloc (Nat.le_refl _) _
  have h0 : Has wB w.heap.size 25 #[.int .i64 y.v.op, .int .i64 y.v.i, .slice y.A y.n y.c, .string y.v.s] := by rw [hwB]; exact Has.fresh w _ _
  have hz0 : wB.heap.size = w.heap.size + 1 := by rw [hwB]; simp
  obtain ⟨wC, hwC⟩ : ∃ wC : World, wC = wB.alloc (.cells #[.int .i64 y.v.op, .int .i64 y.v.i, .slice y.A y.n y.c, .string y.v.s] 25) := ⟨_, rfl⟩
  have b1 : Below wB.heap.size wB wC := by rw [hwC]; exact (Below.refl _ wB).alloc (Nat.le_refl _) _
  have h1 : Has wC (w.heap.size + 1) 25 #[.int .i64 y.v.op, .int .i64 y.v.i, .slice y.A y.n y.c, .string y.v.s] := by rw [hwC, ← hz0]; exact Has.fresh wB _ _
  have hz1 : wC.heap.size = w.heap.size + 2 := by rw [hwC, World.size_alloc, hz0]
  obtain ⟨W1, hW1⟩ : ∃ W1 : World, W1 = wC.alloc (.cells #[.slice A n c, .slice (some ⟨w.heap.size + 1, 0, none⟩) 1 1] 22) := ⟨_, rfl⟩
  have b2 : Below wC.heap.size wC W1 := by rw [hW1]; exact (Below.refl _ wC).alloc (Nat.le_refl _) _
  have h2 : Has W1 (w.heap.size + 2) 22 #[.slice A n c, .slice (some ⟨w.heap.size + 1, 0, none⟩) 1 1] := by rw [hW1, ← hz1]; exact Has.fresh wC _ _
  have HZ := Lib.hid (show ∀ w', Below wB.heap.size wB w' → Below w.heap.size w w' from fun w' q => b0.trans (q.mono b0.size))
  have hbb : Below wB.heap.size wB W1 := b1.trans (b2.mono b1.size)
  have HL := Lib.hid (dos_two W1 A n c _ _ xs y ((h.below b0).below hbb) hn ((hy.below b0).below hbb) (has_blw h1 b2) h2)
  have HX := Lib.hid (h.below b0)
  have HY := Lib.hid (hy.below b0)
  have HKC := Lib.hid h0
  have HB1 := Lib.hid hbb
  have HK := Lib.hid (And.intro k1 (And.intro k2 (And.intro hn hK)))
  clear h hy h1 h2 b0 b1 b2 hbb k1 k2 hn hK hz1
  go_enter Tryz.func3, Tryz.ntmps3
  have k0 := Has.at_ h0 0
  have k1 := Has.at_ h0 1
  have k2 := Has.at_ h0 2
  have k3 := Has.at_ h0 3
  simp [hwB] at k0 k1 k2 k3
  clear h0
  go_wp2_with fail
  rw [← hwB, ← hwC, ← hW1]
  clear hW1 hwC hwB k0 k1 k2 k3
  refine (short_few _ 2 2 _ (by decide) _ HL.out).mono ?_
  rintro e w1 ⟨⟨tt, rfl, hfew⟩, b1⟩
  have HB2 := Lib.hid (HB1.out.trans (b1.mono HB1.out.size))
  clear b1 HL HB1
  cases tt with
  | false =>
    clear hfew
    go_wp2_with fail
    refine (awake_any _).mono ?_
    rintro e w2 ⟨rfl, b2⟩
    go_wp2
    go_ret
    exact ⟨rfl, HZ.out _ (HB2.out.trans (b2.mono HB2.out.size))⟩
  | true =>
    have HN60 := Lib.hid (show n + 1 ≤ 60 by
      have := hfew rfl
      have e : sumL [⟨A, n, c, xs⟩, ⟨some ⟨w.heap.size + 1, 0, none⟩, 1, 1, [y]⟩] 2 = xs.length + 1 := by simp [sumL]
      rw [e, HX.out.len] at this
      exact this)
    clear hfew
    go_wp2_with fail
    refine (size_sto x K HK.out.2.2.2 _).mono ?_
    rintro e w2 ⟨rfl, b2⟩
    have HB3 := Lib.hid (HB2.out.trans (b2.mono HB2.out.size))
    clear b2 HB2
    go_wp2_with fail
    refine (Dv.new_good K HK.out.1 (by have := HK.out.2.1; omega) _).mono ?_
    rintro e w3 ⟨rfl, hd3, b3, z3⟩
    have HB4 := Lib.hid (HB3.out.trans (b3.mono HB3.out.size))
    have HF := Lib.hid (format_dev (w2.heap.size + 2) w2.heap.size (w2.heap.size + 1) (Dv.newSt K) ⟨#[]⟩ (by show K ≠ 0; have := HK.out.1; omega) (by decide) w3 hd3 _ (fmt_calm ⟨rfl, rfl⟩ (by show 2 ≤ K; have := HK.out.1; omega) ⟨#[]⟩ (by decide)))
    clear hd3 b3 z3
    go_wp2_with fail
    refine HF.out.mono ?_
    rintro e w4 ⟨hq, hc4⟩
    obtain ⟨p, F0, rfl, hL⟩ : ∃ p F, e = .returned (.tuple #[.pointer (some ⟨p, 0, none⟩), .int .i64 0]) ∧ Laid w3.heap.size (bareV 1 0 ⟨#[]⟩ (fmtZ ⟨#[]⟩ (Dv.newSt K))) (w2.heap.size + 2) w2.heap.size (w2.heap.size + 1) p F w4 := hq
    have hs1 := HB4.out.size
    have hs2 := HB3.out.size
    have HS0 := Lib.hid hL.is
    have HFR0 := Lib.hid (show Fresh wB.heap.size p F0 (bareV 1 0 ⟨#[]⟩ (fmtZ ⟨#[]⟩ (Dv.newSt K))) from ⟨Nat.le_trans hs1 hL.p, Nat.le_trans hs1 hL.t, Nat.le_trans hs1 hL.k, by rw [hL.d]; omega, by rw [hL.dk]; omega, by rw [hL.dd]; omega, fun z hz => by cases hz⟩)
    have HB5 := Lib.hid (below_chg HB4.out hs1 hc4 (fun k hk => by
      rcases hk with e | e | e
      · rw [e]; omega
      · rw [e]; omega
      · rw [e]; omega))
    have HW0 := Lib.hid (show CoI wB w4 K 0 p (w2.heap.size + 2) F0 (bareV 1 0 ⟨#[]⟩ (fmtZ ⟨#[]⟩ (Dv.newSt K))) (fun _ => none) from ⟨HS0.out, (inv_new (And.intro HK.out.1 HK.out.2.1) ⟨#[]⟩ (by decide)).1, img_new (And.intro HK.out.1 HK.out.2.1) ⟨#[]⟩ (by decide), (inv_new (And.intro HK.out.1 HK.out.2.1) ⟨#[]⟩ (by decide)).2, in_new ⟨#[]⟩, HFR0.out, HB5.out, hL.d⟩)
    clear hL hc4 hs1 hs2 HB4 HB3 HF HS0 HFR0 HB5
    generalize bareV 1 0 ⟨#[]⟩ (fmtZ ⟨#[]⟩ (Dv.newSt K)) = s0 at *
    go_wp2
    go_loopw [54] (fun i wr => ∃ (j : Nat) (F : Fr) (s : SV) (T : Int → Option TV), j ≤ n ∧ i = .int .i64 j ∧ Hid (CoI wB wr K j p (w2.heap.size + 2) F s T)) (fun i _ => n - (intOf i).toNat)
    case atStart => exact ⟨0, F0, s0, fun _ => none, Nat.zero_le _, rfl, HW0⟩
    case round =>
      obtain ⟨j, F, s, T, hj, rfl, HW⟩ := hrel
      have hn := HK.out.2.2.1
      clear HW0
      have hr := HX.out.below HW.out.bel
      by_cases hlt : j < n
      · obtain ⟨b, off, rfl, hbl, hcl⟩ := hr.cells (by omega)
        have hjx : j < xs.length := by rw [hr.len]; exact hlt
        obtain ⟨c0, c1, c2, c3⟩ := hcl j hjx
        have HFitO := Lib.hid (HX.out.each _ (List.getElem_mem hjx))
        clear hcl hr
        generalize xs[j] = x at *
        have hb : Below wr.heap.size wr (wr.alloc (.cells #[.int .i64 x.v.op, .int .i64 x.v.i, .slice x.A x.n x.c, .string x.v.s] 25)) := (Below.refl _ _).alloc (Nat.le_refl _) _
        have hx := Has.fresh wr 25 #[.int .i64 x.v.op, .int .i64 x.v.i, .slice x.A x.n x.c, .string x.v.s]
        have k0 := Has.at_ hx 0
        have k1 := Has.at_ hx 1
        have k2 := Has.at_ hx 2
        have k3 := Has.at_ hx 3
        simp at k0 k1 k2 k3
        have HHX := Lib.hid hx
        have HWA := Lib.hid (HW.out.below hb)
        have HJ := Lib.hid (And.intro hj hlt)
        clear hb hx hjx hbl
        go_wp2_with fail
        refine (op_any _ _ _ _ _).mono ?_
        rintro e w5 ⟨rfl, b5⟩
        have hx5 := has_blw HHX.out b5
        have q0 := Has.at_ hx5 0
        have q1 := Has.at_ hx5 1
        have q2 := Has.at_ hx5 2
        have q3 := Has.at_ hx5 3
        simp at q0 q1 q2 q3
        have HW5 := Lib.hid (HWA.out.below b5)
        clear b5 hx5 k0 k1 k2 k3 c0 c1 c2 c3 HWA HHX
        by_cases g11 : opM x.v.op < 11
        · have HD := Lib.hid (does_sto K j p (w2.heap.size + 2) F s x.v x.A x.n x.c HW5.out.inv (by have := HN60.out; omega) g11 w5 HW5.out.sto (HFitO.out.row.below HW5.out.bel) (fun h0 b off e hb => by
            obtain ⟨b', off', e', hlt', _⟩ := HFitO.out.row.2 h0
            rw [e] at e'
            injection e' with e'
            injection e' with e1 e2 e3
            have := HW5.out.fresh.put b hb
            omega))
          go_wp2_with fail
          refine HD.out.mono ?_
          rintro e w6 ⟨v, _, _, _, _, E, rfl, s', hdv, ⟨F', hs6, e1, e2, e3, e4, e5, hg6⟩, hc6⟩
          obtain ⟨T', hw6, _⟩ := HW5.out.does (by have := HN60.out; omega) hdv hs6 e1 e2 e3 e4 e5 hg6 hc6
          have HW6 := Lib.hid hw6
          clear hs6 hdv e1 e2 e3 e4 e5 hg6 hc6 HD hw6 q0 q1 q2 q3
          go_wp2
          go_roundw
          case rel => exact ⟨j + 1, F', s', T', by omega, by go_num, HW6⟩
          case measure => simp [intOf]; omega
        · clear q0 q1 q2 q3
          go_wp2
          go_roundw
          case rel => exact ⟨j + 1, F, s, T, by omega, by go_num, Lib.hid HW5.out.more⟩
          case measure => simp [intOf]; omega
      · obtain rfl : j = n := by omega
        clear hr hlt hj
        have HRO := Lib.hid (root_sto p F s wr HW.out.sto)
        go_wp2_with fail
        refine HRO.out.mono ?_
        rintro e W0 ⟨rfl, b0⟩
        have HW0 := Lib.hid (HW.out.below b0)
        clear b0 HRO HW
        have hrange : ∀ z, (s.nodes z).isSome = true → 0 ≤ z ∧ z < (K : Int) := fun z hz => by
          obtain ⟨i, e, _, hi⟩ := HW0.out.inv.acc.ids z hz
          omega
        have HLV := Lib.hid (Dv.live_any p F s K (by have := HK.out.2.1; omega) hrange W0 HW0.out.sto)
        clear hrange
        go_wp2_with fail
        refine HLV.out.mono ?_
        rintro e u1 ⟨v1, l, rfl, ⟨hs1, hm1⟩, ho1, b1⟩
        have ho1 : OwnI u1 W0.heap.size v1 l := ho1
        obtain ⟨A1, c1, rfl⟩ := own_sl ho1
        have HLS := Lib.hid hm1
        have HLL := Lib.hid (show l.length ≤ 40 by
          rw [len_live HW0.out.inv hs1 hm1]
          have := cntN_le (isQ s) K
          have := HK.out.2.1
          omega)
        have HWS := Lib.hid (show WasI W0 u1 K s 0 l A1 none c1 0 [] from ⟨b1, ⟨World.ownsRow_nil _ _ _ _, (fun e he => by cases he)⟩, rfl, ho1⟩)
        have hll := HLL.out
        clear hs1 hm1 ho1 b1 HLV
        go_wp2
        go_loopw [17, 76] (fun o i wr => ∃ (q : Nat) (es : List BE) (A9 : Option Addr) (c9 : Nat), q ≤ l.length ∧ o = .slice A9 q c9 ∧ i = .int .i64 q ∧ Hid (WasI W0 wr K s q l A1 A9 c1 c9 es)) (fun _ i _ => l.length - (intOf i).toNat)
        case atStart => exact ⟨0, [], none, 0, Nat.zero_le _, rfl, rfl, HWS⟩
        case round =>
          obtain ⟨q, es, A9, c9, hq, rfl, rfl, HI⟩ := hrel
          clear HWS
          have hrow : NumRow wr A1 l.length l := row_of_own HI.out.row rfl
          by_cases hlq : q < l.length
          · obtain ⟨b, off, rfl, hbl, hcl⟩ := hrow.2 (by omega)
            have k1 := hcl q hlq
            obtain ⟨nd, hnd⟩ := Option.isSome_iff_exists.1 ((HLS.out l[q]).1 (List.getElem_mem hlq))
            have hg : getV s l[q] = (some (nd.kids, dataOf K s l[q]), 0) := by rw [get_img HW0.out.inv HW0.out.img.on HW0.out.img.tells, hnd]
            have HGT := Lib.hid (get_sto p F s l[q] wr (HW0.out.sto.below HI.out.bel) (HW0.out.inv.small.read _) _ _ hg)
            have HNX := Lib.hid (show (l.take (q + 1)).map (bodyN K s) = (l.take q).map (bodyN K s) ++ [(nd.kids, dataOf K s l[q])] from by
              rw [List.take_succ_eq_append_getElem hlq, List.map_append, List.map_cons, List.map_nil, body_of hnd])
            clear hrow hcl hbl hg hnd
            generalize l[q] = id at *
            generalize dataOf K s id = tx at *
            generalize nd.kids = ks at *
            go_wp2_with fail
            refine HGT.out.mono ?_
            rintro e u2 ⟨hq2, b2⟩
            obtain ⟨v2, rfl, hov⟩ : ∃ v, e = .returned (.tuple #[.agg #[v, .string tx], .int .i64 0]) ∧ OwnI u2 wr.heap.size v ks := hq2
            obtain ⟨A8, c8, rfl⟩ := own_sl hov
            have hb3 : Below wr.heap.size wr (u2.alloc (.cells #[.slice A8 ks.length c8, .string tx] 38)) := b2.alloc b2.size _
            have hq3 := Has.fresh u2 38 #[.slice A8 ks.length c8, .string tx]
            have j0 := Has.at_ hq3 0
            have j1 := Has.at_ hq3 1
            simp at j0 j1
            have hq4 := Has.fresh (u2.alloc (.cells #[.slice A8 ks.length c8, .string tx] 38)) 38 #[.slice A8 ks.length c8, .string tx]
            rw [World.size_alloc] at hq4
            have hb4 : Below wr.heap.size wr ((u2.alloc (.cells #[.slice A8 ks.length c8, .string tx] 38)).alloc (.cells #[.slice A8 ks.length c8, .string tx] 38)) := hb3.alloc hb3.size _
            obtain ⟨w4, hw4⟩ : ∃ w4, (u2.alloc (.cells #[.slice A8 ks.length c8, .string tx] 38)).alloc (.cells #[.slice A8 ks.length c8, .string tx] 38) = w4 := ⟨_, rfl⟩
            have hov4 : OwnI w4 W0.heap.size (BE.v ⟨A8, c8, ks, tx⟩) ks := by
              rw [← hw4]
              exact own_low (World.ownsRow.alloc (World.ownsRow.alloc hov _) _) HI.out.bel.size
            rw [hw4] at hq4 hb4
            have hI4 := HI.out.below hb4
            have hlen4 := hI4.len (by omega)
            obtain ⟨v5, w5, hr5, ho5, hg5⟩ := out_append (e := ⟨A8, c8, ks, tx⟩) (c := 1) hI4.out hI4.bel.size hov4 hq4 (by rw [hlen4]; omega)
            obtain ⟨A5, c5, rfl⟩ := own_sl2 ho5.row
            have hlen : (es ++ [(⟨A8, c8, ks, tx⟩ : BE)]).length = q + 1 := by rw [List.length_append, hlen4]; rfl
            rw [hlen] at hr5 ho5
            have HI5 := Lib.hid (show WasI W0 w5 K s (q + 1) l (some ⟨b, off, none⟩) A5 c1 c5 (es ++ [(⟨A8, c8, ks, tx⟩ : BE)]) from
              ⟨hI4.bel.trans ⟨hg5.os, hg5.tape, hg5.output, hg5.size, fun i hi => hg5.block i (Nat.lt_of_lt_of_le hi hI4.bel.size) (fun e => by have := (World.ownsRow.lt hI4.out.row i e.symm).1; omega)⟩, ho5, by rw [List.map_append, hI4.vals, HNX.out]; rfl, World.ownsRow.kept hI4.row hg5 (own_kinds hI4.row hI4.out.row (by decide))⟩)
            subst hw4
            have HR5 := Lib.hid hr5
            clear hov hov4 hI4 hlen4 hr5 ho5 hg5 hlen hb3 hb4 hq3 hq4 b2 HGT k1
            go_wp2_with (at_builtin; refine wpList_run_append rfl (.tmp 86) (.tmp 88) _ rfl rfl rfl (HR5.out _) ?_)
            go_roundw
            case rel => exact ⟨q + 1, es ++ [(⟨A8, c8, ks, tx⟩ : BE)], A5, c5, by omega, rfl, by go_num, HI5⟩
            case measure => simp [intOf]; omega
          · obtain rfl : q = l.length := by omega
            have HWA := Lib.hid (show es.map BE.val = l.map (bodyN K s) from by
              have h := HI.out.vals
              rw [List.take_of_length_le (Nat.le_refl _)] at h
              exact h)
            clear hrow hq hlq
            obtain ⟨W3, hW3⟩ : ∃ W3 : World, W3 = wr := ⟨_, rfl⟩
            subst hW3
            have hdev : Dv.DevIs W3 (w2.heap.size + 2) F.dk F.dd s.dev := by
              have h := (HW0.out.sto.below HI.out.bel).dev
              rw [HW0.out.dp] at h
              exact h
            have HCN := Lib.hid (Dv.clone_all (w2.heap.size + 2) F.dk F.dd s.dev W3 hdev)
            clear hdev
            go_wp2_with fail
            refine HCN.out.mono ?_
            rintro e u4 ⟨rfl, hd4, b4⟩
            have HD4 := Lib.hid hd4
            have HB4 := Lib.hid b4
            have HDI := Lib.hid (Dv.dirty_any W3.heap.size (W3.heap.size + 1) (W3.heap.size + 2) s.dev u4 hd4 HW0.out.ind)
            clear hd4 b4 HCN
            go_wp2_with fail
            refine HDI.out.mono ?_
            rintro e u5 ⟨v5, l5, rfl, hl5, ho5, b5⟩
            have ho5 : OwnI u5 u4.heap.size v5 l5 := ho5
            obtain ⟨A5, c5, rfl⟩ := own_sl ho5
            have HD5 := Lib.hid (HD4.out.below b5)
            have HB5 := Lib.hid (HB4.out.trans (b5.mono HB4.out.size))
            have hl5m : l5.length ≤ maxLen := by
              rcases ho5.2 with ⟨_, e0⟩ | ⟨_, _, _, _, _, _, e3, e4, _⟩
              · omega
              · omega
            have HCS := Lib.hid (Dv.crash_any W3.heap.size (W3.heap.size + 1) (W3.heap.size + 2) s.dev A5 l5.length c5 l5 u5 hl5m (row_of_own ho5 rfl) HD5.out)
            have HOW := Lib.hid (show ∀ k, Dv.Own W3.heap.size (W3.heap.size + 1) (W3.heap.size + 2) k → W3.heap.size ≤ k from by
              rintro k (e | e | e)
              · rw [e]; exact Nat.le_refl _
              · rw [e]; omega
              · rw [e]; omega)
            clear b5 ho5 hl5 hl5m HDI HD4 HB4
            go_wp2_with fail
            refine HCS.out.mono ?_
            rintro e u6 ⟨rfl, hd6, hc6⟩
            have HD6 := Lib.hid hd6
            have HB6 := Lib.hid (below_chg HB5.out HB5.out.size (Oct.Chg.of hc6) HOW.out)
            clear hd6 hc6 HCS HD5 HB5
            go_wp2_with fail
            refine (Dv.start_any _ _ _ _ u6 HD6.out).mono ?_
            rintro e u7 ⟨rfl, hd7, hc7, _⟩
            have HD7 := Lib.hid hd7
            have HB7 := Lib.hid (below_chg HB6.out HB6.out.size (Oct.Chg.of hc7) HOW.out)
            have HCO := Lib.hid (HW0.out.img.safe.crash (And.intro HK.out.1 HK.out.2.1) l5)
            obtain ⟨⟨V, hV, hOI⟩, hdn⟩ := open_tree HCO.out.tree HCO.out.reads HCO.out.calm HCO.out.size HK.out.2.1 HCO.out.new
            have HOP := Lib.hid (open_dev W3.heap.size (W3.heap.size + 1) (W3.heap.size + 2) (Dv.startD (Dv.crashD s.dev l5)) (by have h := HCO.out.size; have := HK.out.1; omega) (fun i => HCO.out.small.read i) hdn u7 HD7.out _ hV)
            have HOI := Lib.hid hOI
            clear hd7 hc7 hV hOI hdn HD6 HB6 HOW
            go_wp2_with fail
            refine HOP.out.mono ?_
            rintro e u8 ⟨hq8, b8⟩
            obtain ⟨p2, F2, rfl, hL2⟩ : ∃ p9 F9, e = .returned (.tuple #[.pointer (some ⟨p9, 0, none⟩), .int .i64 0]) ∧ Laid u7.heap.size V W3.heap.size (W3.heap.size + 1) (W3.heap.size + 2) p9 F9 u8 := hq8
            have HS8 := Lib.hid hL2.is
            have HB8 := Lib.hid (HB7.out.trans (b8.mono HB7.out.size))
            have HSV := Lib.hid (show ∀ i, (Dv.rdS V.dev i).size ≤ 4104 from fun i => by rw [HOI.out.dev]; exact HCO.out.small.read i)
            have HBL := Lib.hid (below_any p2 F2 V s.root HSV.out u8 HS8.out)
            have HHG := Lib.hid (show hangs (getV V) s.root = hangs (getT T) s.root by rw [show getV V = getT T from funext HOI.out.get])
            clear hL2 b8 HOP HD7 HB7 HSV HOI HCO
            go_wp2_with fail
            refine HBL.out.mono ?_
            rintro e u9 ⟨⟨v9, fs, rfl, ho9, hm9⟩, b9⟩
            obtain ⟨A7, c7, rfl⟩ := own_sl2 ho9.row
            have HKV := Lib.hid (show fs.map BE.val = hangs (getT T) s.root by rw [hm9, HHG.out])
            have HB9 := Lib.hid (HB8.out.trans (b9.mono HB8.out.size))
            have HU8 := Lib.hid (show W0.heap.size ≤ u8.heap.size from Nat.le_trans HI.out.bel.size HB8.out.size)
            have HO9 := Lib.hid ho9
            have HBX := Lib.hid (HW0.out.bel.trans ((HI.out.bel.trans (HB9.out.mono HI.out.bel.size)).mono HW0.out.bel.size))
            have hx9 := has_blw HKC.out HBX.out
            have k0 := Has.at_ hx9 0
            have k1 := Has.at_ hx9 1
            have k2 := Has.at_ hx9 2
            have k3 := Has.at_ hx9 3
            simp at k0 k1 k2 k3
            clear ho9 hm9 b9 hx9 HBL HHG HS8 HB8
            by_cases g11 : 11 ≤ opM y.v.op
            · go_wp2_with fail
              refine (op_any _ _ _ _ _).mono ?_
              rintro e x1 ⟨rfl, b1⟩
              have HBX1 := Lib.hid (HBX.out.trans (b1.mono HBX.out.size))
              clear b1 k0 k1 k2 k3
              go_wp2_with fail
              refine (awake_any _).mono ?_
              rintro e x2 ⟨rfl, b2⟩
              go_wp2
              go_ret
              exact ⟨rfl, HZ.out _ (HBX1.out.trans (b2.mono HBX1.out.size))⟩
            · go_wp2_with fail
              refine (op_any _ _ _ _ _).mono ?_
              rintro e x1 ⟨rfl, b1⟩
              have HB10 := Lib.hid (HB9.out.trans (b1.mono HB9.out.size))
              have HBX1 := Lib.hid (HBX.out.trans (b1.mono HBX.out.size))
              have HO10 := Lib.hid (HO9.out.below b1)
              have hx9 := has_blw HKC.out HBX1.out
              clear k0 k1 k2 k3
              have k0 := Has.at_ hx9 0
              have k1 := Has.at_ hx9 1
              have k2 := Has.at_ hx9 2
              have k3 := Has.at_ hx9 3
              simp at k0 k1 k2 k3
              clear b1 hx9 HBX HB9 HO9
              go_wp2_with fail
              refine (op_any _ _ _ _ _).mono ?_
              rintro e x2 ⟨rfl, b1⟩
              have HB11 := Lib.hid (HB10.out.trans (b1.mono HB10.out.size))
              have HBX2 := Lib.hid (HBX1.out.trans (b1.mono HBX1.out.size))
              have HO11 := Lib.hid (HO10.out.below b1)
              have hx9 := has_blw HKC.out HBX2.out
              clear k0 k1 k2 k3
              by_cases g9 : opM y.v.op = 9
              · clear b1 hx9
                have g9b : (opM y.v.op == 9) = true := by rw [g9]; rfl
                go_wp2_with fail
                refine (awake_any _).mono ?_
                rintro e x3 ⟨rfl, b2⟩
                go_wp2
                go_ret
                exact ⟨rfl, HZ.out _ (HBX2.out.trans (b2.mono HBX2.out.size))⟩
              · have k0 := Has.at_ hx9 0
                have k1 := Has.at_ hx9 1
                have k2 := Has.at_ hx9 2
                have k3 := Has.at_ hx9 3
                simp at k0 k1 k2 k3
                have hw11 : Below W0.heap.size W0 x2 := HI.out.bel.trans (HB11.out.mono HI.out.bel.size)
                have HW11 := Lib.hid (HW0.out.below hw11)
                have HI11 := Lib.hid (HI.out.below HB11.out)
                clear b1 hx9 hw11 HBX1 HB10 HO10
                have HD := Lib.hid (does_sto K _ p (w2.heap.size + 2) F s y.v y.A y.n y.c HW11.out.inv (by have := HN60.out; omega) (by omega) x2 HW11.out.sto (HY.out.row.below HW11.out.bel) (fun h0 b off e hb => by
                  obtain ⟨b', off', e', hlt', _⟩ := HY.out.row.2 h0
                  rw [e] at e'
                  injection e' with e'
                  injection e' with e1 e2 e3
                  have := HW11.out.fresh.put b hb
                  omega))
                have g9b : (opM y.v.op == 9) = false := beq_eq_false_iff_ne.2 g9
                go_wp2_with fail
                refine HD.out.mono ?_
                rintro e w6 ⟨v, _, _, _, _, E, rfl, s', hdv, ⟨F', hs6, e1, e2, e3, e4, e5, hg6⟩, hc6⟩
                obtain ⟨T', hw6, hTT⟩ := HW11.out.does (by have := HN60.out; omega) hdv hs6 e1 e2 e3 e4 e5 hg6 hc6
                obtain ⟨rfl, hroot⟩ := hTT g9
                have HW6 := Lib.hid hw6
                have HRT := Lib.hid hroot
                have HST := Lib.hid (show ∀ z, (s.nodes z).isSome = true → (s'.nodes z).isSome = true → bodyN K s' z = bodyN K s z from fun z => body_stay HW11.out.inv HW11.out.calm hdv g9)
                have hlow : ∀ g, DoS p F s g → g < W0.heap.size := fun g hg => dos_lt HW0.out.sto hg
                have HO6 := Lib.hid (HI11.out.out.over hc6 hlow)
                have HR6 := Lib.hid (show OwnI w6 W0.heap.size (.slice A1 l.length c1) l from own_over HI11.out.row hc6 hlow)
                have HK6 := Lib.hid (HO11.out.over hc6 (fun g hg => Nat.lt_of_lt_of_le (hlow g hg) HU8.out))
                have HOW := Lib.hid (show ∀ g, Dv.Own (w2.heap.size + 2) F'.dk F'.dd g → wB.heap.size ≤ g ∧ g < u8.heap.size from by
                  have hd : F.d = w2.heap.size + 2 := HW0.out.dp
                  have f1 := HW6.out.fresh
                  have l1 := Nat.lt_of_lt_of_le (hlow F.d (.inl (.inr (.inr (.inl rfl))))) HU8.out
                  have l2 := Nat.lt_of_lt_of_le (hlow F.dk (.inl (.inr (.inr (.inr (.inl rfl)))))) HU8.out
                  have l3 := Nat.lt_of_lt_of_le (hlow F.dd (.inl (.inr (.inr (.inr (.inr rfl)))))) HU8.out
                  have f2 := f1.d
                  have f3 := f1.dk
                  have f4 := f1.dd
                  rintro k (e | e | e)
                  · rw [e3] at f2; rw [e, ← hd]; exact ⟨f2, l1⟩
                  · rw [e4] at f3; rw [e, e4]; exact ⟨f3, l2⟩
                  · rw [e5] at f4; rw [e, e5]; exact ⟨f4, l3⟩)
                have HSW := Lib.hid (show es.length = l.length by have := congrArg List.length HWA.out; simpa using this)
                clear hs6 hdv e1 e2 e3 e4 e5 hg6 hc6 HD hw6 hTT hroot hlow k0 k1 k2 k3 HI11 HO11 HW11 HB11 HBX2 HU8 HI
                obtain ⟨W6, hW6⟩ : ∃ W6 : World, W6 = w6 := ⟨_, rfl⟩
                subst hW6
                go_wp2
                go_loopw [124] (fun i wr => ∃ q : Nat, q ≤ l.length ∧ i = .int .i64 q ∧ Hid (Below W6.heap.size W6 wr)) (fun i _ => l.length - (intOf i).toNat)
                case atStart => exact ⟨0, Nat.zero_le _, rfl, Lib.hid (Below.refl _ _)⟩
                case round =>
                  obtain ⟨q, hq, rfl, HB⟩ := hrel
                  by_cases hlq : q < l.length
                  · obtain ⟨b, off, rfl, hbl, hcl⟩ := (NumRow.below (row_of_own HR6.out rfl) HB.out).2 (by omega)
                    have k1 := hcl q hlq
                    have hes : q < es.length := by rw [HSW.out]; exact hlq
                    obtain ⟨q9, hA9, hq9, hx9⟩ := (out_cells HO6.out).2 (by omega)
                    subst hA9
                    obtain ⟨m0, m1⟩ := hx9 q hes
                    have hrk := HO6.out.each _ (List.getElem_mem hes)
                    have hval : es[q].val = bodyN K s l[q] := by
                      have h := congrArg (fun z => z[q]?) HWA.out
                      simp only [List.getElem?_map, List.getElem?_eq_getElem hes, List.getElem?_eq_getElem hlq, Option.map_some] at h
                      injection h
                    have hsm := (HLS.out l[q]).1 (List.getElem_mem hlq)
                    cases hnd : s'.nodes l[q] with
                    | none =>
                      have HRF := Lib.hid (refs_none p F' s' l[q] hnd wr (HW6.out.sto.below HB.out))
                      clear hcl hbl hx9 m0 m1 hrk hval hsm hnd
                      generalize l[q] = id at *
                      go_wp2_with fail
                      refine HRF.out.mono ?_
                      rintro e w' ⟨rfl, rfl⟩
                      go_wp2
                      go_roundw
                      case rel => exact ⟨q + 1, by omega, by go_num, HB⟩
                      case measure => simp [intOf]; omega
                    | some nd =>
                      have HRF := Lib.hid (refs_sto p F' s' l[q] nd hnd wr (HW6.out.sto.below HB.out))
                      have hg : getV s' l[q] = (some (nd.kids, dataOf K s' l[q]), 0) := by rw [get_img HW6.out.inv HW6.out.img.on HW6.out.img.tells, hnd]
                      have HVL := Lib.hid (show es[q].val = (nd.kids, dataOf K s' l[q]) by rw [hval, ← HST.out _ hsm (by rw [hnd]; rfl), body_of hnd])
                      have HHG := Lib.hid hg
                      clear hcl hbl hx9 hval hsm hnd hg
                      generalize l[q] = id at *
                      generalize dataOf K s' id = tx at *
                      generalize nd.kids = ks at *
                      generalize es[q] = ee at *
                      obtain ⟨Ae, ce, ke, te⟩ := ee
                      have hve := HVL.out
                      injection hve with hv1 hv2
                      subst hv1 hv2
                      have hwm := HB.out.size
                      go_wp2_with fail
                      refine HRF.out.mono ?_
                      rintro e u2 ⟨rfl, b2⟩
                      have HB2 := Lib.hid (HB.out.trans (b2.mono HB.out.size))
                      have HGT := Lib.hid (get_sto p F' s' id u2 (HW6.out.sto.below HB2.out) (HW6.out.inv.small.read _) _ _ HHG.out)
                      clear b2 HRF k1
                      go_wp2_with fail
                      refine HGT.out.mono ?_
                      rintro e u3 ⟨hq3, b3⟩
                      obtain ⟨v8, rfl, hov⟩ : ∃ v, e = .returned (.tuple #[.agg #[v, .string te], .int .i64 0]) ∧ OwnI u3 u2.heap.size v ke := hq3
                      obtain ⟨A8, c8, rfl⟩ := own_sl hov
                      have hb4 : Below u3.heap.size u3 (u3.alloc (.cells #[.slice A8 ke.length c8, .string te] 38)).drew := ((Below.refl _ u3).alloc (Nat.le_refl _) _).drew
                      have hx : Has (u3.alloc (.cells #[.slice A8 ke.length c8, .string te] 38)).drew u3.heap.size 38 #[.slice A8 ke.length c8, .string te] := Has.fresh u3 _ _
                      have hb5 : Below u3.heap.size u3 ((u3.alloc (.cells #[.slice A8 ke.length c8, .string te] 38)).drew.alloc (.cells #[.slice A8 ke.length c8, .string te] 38)) := hb4.alloc hb4.size _
                      have hx5 : Has ((u3.alloc (.cells #[.slice A8 ke.length c8, .string te] 38)).drew.alloc (.cells #[.slice A8 ke.length c8, .string te] 38)) (u3.heap.size + 1) 38 #[.slice A8 ke.length c8, .string te] := by
                        have h := Has.fresh (u3.alloc (.cells #[.slice A8 ke.length c8, .string te] 38)).drew 38 #[.slice A8 ke.length c8, .string te]
                        rw [show (u3.alloc (.cells #[.slice A8 ke.length c8, .string te] 38)).drew.heap.size = u3.heap.size + 1 from World.size_alloc _ _] at h
                        exact h
                      have hu3 : Below W6.heap.size W6 u3 := HB2.out.trans (b3.mono HB2.out.size)
                      have hu5 : Below W6.heap.size W6 ((u3.alloc (.cells #[.slice A8 ke.length c8, .string te] 38)).drew.alloc (.cells #[.slice A8 ke.length c8, .string te] 38)) := hu3.trans (hb5.mono hu3.size)
                      have hkl := own_big hov
                      have HR1 := Lib.hid (show RowE ((u3.alloc (.cells #[.slice A8 ke.length c8, .string te] 38)).drew.alloc (.cells #[.slice A8 ke.length c8, .string te] 38)) (some ⟨u3.heap.size + 1, 0, none⟩) 1 [⟨A8, c8, ke, te⟩] from alone_row hx5.bound (Has.at_ hx5 0) (Has.at_ hx5 1) ((row_of_own hov rfl).below hb5) hkl)
                      have HR2 := Lib.hid (show RowE ((u3.alloc (.cells #[.slice A8 ke.length c8, .string te] 38)).drew.alloc (.cells #[.slice A8 ke.length c8, .string te] 38)) (some ⟨q9, q * 2, none⟩) 1 [⟨Ae, ce, ke, te⟩] from alone_row (Nat.lt_of_lt_of_le hq9 hu5.size) ((hu5.cell (p := ⟨q9, q * 2, none⟩) hq9).trans m0) ((hu5.cell (p := ⟨q9, q * 2 + 1, none⟩) hq9).trans m1) ((row_of_own hrk rfl).below hu5) hkl)
                      have HB5 := Lib.hid hu5
                      obtain ⟨hs1, hi1, hi2, hi3⟩ := cut_nums (Nat.lt_of_lt_of_le hlq (own_cap (by have h := HO6.out.row; rw [HSW.out] at h; exact h))) (Nat.le_trans hq HLL.out)
                      clear hb4 hb5 hx5 hu3 hu5 hkl hov b3 HGT m0 m1 hrk
                      go_wp2_with fail
                      refine wp_region_held_drew (S := fun w' => w'.cell? ⟨u3.heap.size, 0, none⟩ = some (.slice A8 ke.length c8) ∧ w'.cell? ⟨u3.heap.size, 1, none⟩ = some (.string te)) (by kernel_rfl) (by first | exact ⟨Has.at_ hx 0, Has.at_ hx 1⟩ | exact ⟨Has.at_ (hx.past _) 0, Has.at_ (hx.past _) 1⟩ | exact ⟨Has.at_ hx9 0, Has.at_ hx9 1⟩) (fun hHeld => ?_)
                      refine Vc.wpAnyH_read (i := 0) (d := some 144) (v := ?v1) (by rfl) (by rfl) (by kernel_rfl) (by kernel_rfl) (by kernel_rfl) (fun _ _ _ h => h) (by rfl) ?hy1 (by assumption) ?rest1
                      case hy1 =>
                        intro w hSw
                        try dsimp only at hSw
                        go_simp
                        try with_reducible rfl
                      try simp only [Act.put, List.setIfInBounds_toArray, List.set_cons_zero, List.set_cons_succ]
                      refine Vc.wpAnyH_read (i := 1) (d := some 145) (v := ?v2) (by rfl) (by rfl) (by kernel_rfl) (by kernel_rfl) (by kernel_rfl) (fun _ _ _ h => h) (by rfl) ?hy2 (by assumption) ?rest2
                      case hy2 =>
                        intro w hSw
                        try dsimp only at hSw
                        go_simp
                        try with_reducible rfl
                      try simp only [Act.put, List.setIfInBounds_toArray, List.set_cons_zero, List.set_cons_succ]
                      refine Vc.wpAnyH_read (i := 2) (d := some 146) (v := ?v3) (by rfl) (by rfl) (by kernel_rfl) (by kernel_rfl) (by kernel_rfl) (fun _ _ _ h => h) (by rfl) ?hy3 (by assumption) ?rest3
                      case hy3 =>
                        intro w hSw
                        try dsimp only at hSw
                        go_simp
                        try with_reducible rfl
                      try simp only [Act.put, List.setIfInBounds_toArray, List.set_cons_zero, List.set_cons_succ]
                      refine Vc.wpAnyH_read (i := 3) (d := some 147) (v := ?v4) (by rfl) (by rfl) (by kernel_rfl) (by kernel_rfl) (by kernel_rfl) (fun _ _ _ h => h) (by rfl) ?hy4 (by assumption) ?rest4
                      case hy4 =>
                        intro w hSw
                        try dsimp only at hSw
                        go_simp
                        try with_reducible rfl
                      try simp only [Act.put, List.setIfInBounds_toArray, List.set_cons_zero, List.set_cons_succ]
                      refine Vc.wpAnyH_read (i := 5) (d := some 149) (v := ?v5) (by rfl) (by rfl) (by kernel_rfl) (by kernel_rfl) (by kernel_rfl) (fun _ _ _ h => h) (by rfl) ?hy5 (by assumption) ?rest5
                      case hy5 =>
                        intro w hSw
                        try dsimp only at hSw
                        go_simp
                        try with_reducible rfl
                      try simp only [Act.put, List.setIfInBounds_toArray, List.set_cons_zero, List.set_cons_succ]
                      refine Vc.wpAnyH_read (i := 6) (d := some 150) (v := ?v6) (by rfl) (by rfl) (by kernel_rfl) (by kernel_rfl) (by kernel_rfl) (fun _ _ _ h => h) (by rfl) ?hy6 (by assumption) ?rest6
                      case hy6 =>
                        intro w hSw
                        try dsimp only at hSw
                        go_simp
                        try with_reducible rfl
                      try simp only [Act.put, List.setIfInBounds_toArray, List.set_cons_zero, List.set_cons_succ]
                      refine Vc.wpAnyH_read (i := 7) (d := some 151) (v := ?v7) (by rfl) (by rfl) (by kernel_rfl) (by kernel_rfl) (by kernel_rfl) (fun _ _ _ h => h) (by rfl) ?hy7 (by assumption) ?rest7
                      case hy7 =>
                        intro w hSw
                        try dsimp only at hSw
                        go_simp
                        try with_reducible rfl
                      try simp only [Act.put, List.setIfInBounds_toArray, List.set_cons_zero, List.set_cons_succ]
                      refine Vc.wpAnyH_read (i := 8) (d := some 152) (v := ?v8) (by rfl) (by rfl) (by kernel_rfl) (by kernel_rfl) (by kernel_rfl) (fun _ _ _ h => h) (by rfl) ?hy8 (by assumption) ?rest8
                      case hy8 =>
                        intro w hSw
                        try dsimp only at hSw
                        go_simp
                        try with_reducible rfl
                      try simp only [Act.put, List.setIfInBounds_toArray, List.set_cons_zero, List.set_cons_succ]
                      refine Vc.wpAnyH_read (i := 9) (d := some 153) (v := ?v9) (by rfl) (by rfl) (by kernel_rfl) (by kernel_rfl) (by kernel_rfl) (fun _ _ _ h => h) (by rfl) ?hy9 (by assumption) ?rest9
                      case hy9 =>
                        intro w hSw
                        try dsimp only at hSw
                        go_simp
                        try with_reducible rfl
                      try simp only [Act.put, List.setIfInBounds_toArray, List.set_cons_zero, List.set_cons_succ]
                      refine wpAnyH_ready (rs := [4]) (by kernel_rfl) (by simp) ?_
                      refine AllReadyH.cons rfl (fun K hK => ?_) AllReadyH.nil
                      go_simp
                      refine hK.out _ _ (by first | exact ⟨Has.at_ hx 0, Has.at_ hx 1⟩ | exact ⟨Has.at_ (hx.past _) 0, Has.at_ (hx.past _) 1⟩ | exact ⟨Has.at_ hx9 0, Has.at_ hx9 1⟩) (fun hHeld => ?_)
                      clear hK K
                      try simp only [Act.put, List.setIfInBounds_toArray, List.set_cons_zero, List.set_cons_succ]
                      refine wpAnyH_ready (rs := [10]) (by kernel_rfl) (by simp) ?_
                      refine AllReadyH.cons rfl (fun K hK => ?_) AllReadyH.nil
                      go_simp
                      go_at_call 22
                      refine (samee_any _ _ _ [⟨A8, c8, ke, te⟩] _ _ _ [⟨Ae, ce, ke, te⟩] (show 1 ≤ 9223372036854775807 by decide) _ HR1.out HR2.out).mono ?_
                      rintro e w' ⟨⟨bb, rfl, hbb⟩, b9⟩
                      obtain rfl := hbb.2 rfl
                      have hx9 := has_blw (hx.past (.cells #[.slice A8 ke.length c8, .string te] 38)) b9
                      have HB9 := Lib.hid (HB5.out.trans (b9.mono HB5.out.size))
                      refine hK.out _ _ (by first | exact ⟨Has.at_ hx 0, Has.at_ hx 1⟩ | exact ⟨Has.at_ (hx.past _) 0, Has.at_ (hx.past _) 1⟩ | exact ⟨Has.at_ hx9 0, Has.at_ hx9 1⟩) (fun hHeld => ?_)
                      clear hK K
                      try simp only [Act.put, List.setIfInBounds_toArray, List.set_cons_zero, List.set_cons_succ]
                      refine Vc.wpAnyH_read (i := 11) (d := some 155) (v := ?v10) (by rfl) (by rfl) (by kernel_rfl) (by kernel_rfl) (by kernel_rfl) (fun _ _ _ h => h) (by rfl) ?hy10 (by assumption) ?rest10
                      case hy10 =>
                        intro w hSw
                        try dsimp only at hSw
                        go_simp
                        try with_reducible rfl
                      try simp only [Act.put, List.setIfInBounds_toArray, List.set_cons_zero, List.set_cons_succ]
                      refine Vc.wpAnyH_read (i := 12) (d := some 156) (v := ?v11) (by rfl) (by rfl) (by kernel_rfl) (by kernel_rfl) (by kernel_rfl) (fun _ _ _ h => h) (by rfl) ?hy11 (by assumption) ?rest11
                      case hy11 =>
                        intro w hSw
                        try dsimp only at hSw
                        go_simp
                        try with_reducible rfl
                      try simp only [Act.put, List.setIfInBounds_toArray, List.set_cons_zero, List.set_cons_succ]
                      refine wpAnyH_done (by kernel_rfl) ?_ _
                      clear b9 hbb hx9 hx hHeld
                      go_wp2
                      go_roundw
                      case rel => exact ⟨q + 1, by omega, by go_num, HB9⟩
                      case measure => simp [intOf]; omega
                  · obtain rfl : q = l.length := by omega
                    have HWL := Lib.hid (HW6.out.below HB.out)
                    have HKL := Lib.hid (HK6.out.below HB.out)
                    clear hq hlq HB HO6 HR6 HK6
                    obtain ⟨W9, hW9⟩ : ∃ W9 : World, W9 = wr := ⟨_, rfl⟩
                    subst hW9
                    have hdev2 : Dv.DevIs W9 (w2.heap.size + 2) F'.dk F'.dd s'.dev := by
                      have h := HWL.out.sto.dev
                      rw [HWL.out.dp] at h
                      exact h
                    have HDI2 := Lib.hid (Dv.dirty_any (w2.heap.size + 2) F'.dk F'.dd s'.dev W9 hdev2 HWL.out.ind)
                    have HD4 := Lib.hid hdev2
                    clear hdev2
                    go_wp2_with fail
                    refine HDI2.out.mono ?_
                    rintro e x5 ⟨v5, l9, rfl, hl5, ho5, b5⟩
                    have ho5 : OwnI x5 W9.heap.size v5 l9 := ho5
                    obtain ⟨A5, c5, rfl⟩ := own_sl ho5
                    have HD5 := Lib.hid (HD4.out.below b5)
                    have HB5 := Lib.hid (HWL.out.bel.trans (b5.mono HWL.out.bel.size))
                    have HK5 := Lib.hid (HKL.out.below b5)
                    have HCS2 := Lib.hid (Dv.crash_any (w2.heap.size + 2) F'.dk F'.dd s'.dev A5 l9.length c5 l9 x5 (own_max ho5) (row_of_own ho5 rfl) HD5.out)
                    clear b5 ho5 hl5 HDI2 HD4 HKL
                    go_wp2_with fail
                    refine HCS2.out.mono ?_
                    rintro e x6 ⟨rfl, hd6, hc6⟩
                    have HD6 := Lib.hid hd6
                    have HB6 := Lib.hid (below_chg HB5.out HB5.out.size (Oct.Chg.of hc6) (fun g hg => (HOW.out g hg).1))
                    have HK6 := Lib.hid (HK5.out.over (Oct.Chg.of hc6) (fun g hg => (HOW.out g hg).2))
                    clear hd6 hc6 HCS2 HD5 HB5 HK5
                    go_wp2_with fail
                    refine (Dv.start_any _ _ _ _ x6 HD6.out).mono ?_
                    rintro e x7 ⟨rfl, hd7, hc7, _⟩
                    have HD7 := Lib.hid hd7
                    have HB7 := Lib.hid (below_chg HB6.out HB6.out.size (Oct.Chg.of hc7) (fun g hg => (HOW.out g hg).1))
                    have HK7 := Lib.hid (HK6.out.over (Oct.Chg.of hc7) (fun g hg => (HOW.out g hg).2))
                    have HCO := Lib.hid (HWL.out.img.safe.crash (And.intro HK.out.1 HK.out.2.1) l9)
                    obtain ⟨⟨V2, hV, hOI⟩, hdn⟩ := open_tree HCO.out.tree HCO.out.reads HCO.out.calm HCO.out.size HK.out.2.1 HCO.out.new
                    have HOP2 := Lib.hid (open_dev (w2.heap.size + 2) F'.dk F'.dd (Dv.startD (Dv.crashD s'.dev l9)) (by have h := HCO.out.size; have := HK.out.1; omega) (fun i => HCO.out.small.read i) hdn x7 HD7.out _ hV)
                    have HOI := Lib.hid hOI
                    clear hd7 hc7 hV hOI hdn HD6 HB6 HK6
                    go_wp2_with fail
                    refine HOP2.out.mono ?_
                    rintro e x8 ⟨hq8, b8⟩
                    obtain ⟨p3, F3, rfl, hL3⟩ : ∃ p9 F9, e = .returned (.tuple #[.pointer (some ⟨p9, 0, none⟩), .int .i64 0]) ∧ Laid x7.heap.size V2 (w2.heap.size + 2) F'.dk F'.dd p9 F9 x8 := hq8
                    have HS8 := Lib.hid hL3.is
                    have HB8 := Lib.hid (HB7.out.trans (b8.mono HB7.out.size))
                    have HK8 := Lib.hid (HK7.out.below b8)
                    have HSV := Lib.hid (show ∀ i, (Dv.rdS V2.dev i).size ≤ 4104 from fun i => by rw [HOI.out.dev]; exact HCO.out.small.read i)
                    have HBL := Lib.hid (below_any p3 F3 V2 s.root HSV.out x8 HS8.out)
                    have HHG := Lib.hid (show hangs (getV V2) s.root = hangs (getT T') s.root by rw [show getV V2 = getT T' from funext HOI.out.get])
                    clear hL3 b8 HOP2 HD7 HB7 HSV HOI HCO HK7
                    go_wp2_with fail
                    refine HBL.out.mono ?_
                    rintro e x9 ⟨⟨v9, gs, rfl, ho9, hm9⟩, b9⟩
                    obtain ⟨A4, c4, rfl⟩ := own_sl2 ho9.row
                    have HGV := Lib.hid (show gs.map BE.val = fs.map BE.val by rw [hm9, HHG.out, HKV.out])
                    have HB9 := Lib.hid (HB8.out.trans (b9.mono HB8.out.size))
                    have HSM := Lib.hid (same_any _ _ A4 gs.length c4 gs A7 fs.length c7 fs (out_big ho9) x9 ho9 (HK8.out.below b9))
                    clear ho9 hm9 b9 HBL HHG HS8 HB8 HK8
                    go_wp2_with fail
                    refine HSM.out.mono ?_
                    rintro e x10 ⟨⟨bb, rfl, hbb⟩, b10⟩
                    obtain rfl := hbb.2 HGV.out
                    have HB10 := Lib.hid (HB9.out.trans (b10.mono HB9.out.size))
                    clear hbb b10 HSM HB9
                    go_wp2_with fail
                    refine (awake_any _).mono ?_
                    rintro e x11 ⟨rfl, b11⟩
                    go_wp2
                    go_ret
                    exact ⟨rfl, HZ.out _ (HB10.out.trans (b11.mono HB10.out.size))⟩
theorem over_walk (w : World) (a0 : Int) (A1 : Option Addr) (n1 c1 : Nat) (a1 : List DoC) (a2 : DoC) (_ : (Lit.int .i64 a0).wf = true) (w1 : DoRow w A1 n1 a1) (b1 : n1 ≤ c1) (m1 : c1 ≤ maxLen) (w2 : Fits w a2) :
    Calls Tryz.prog 3 #[.int .i64 a0, .slice A1 n1 c1, .agg #[.int .i64 a2.v.op, .int .i64 a2.v.i, .slice a2.A a2.n a2.c, .string a2.v.s]] w fun e w' => e = .returned (.bool true) ∧ Below w.heap.size w w' :=
  over_law a0 A1 n1 c1 a1 a2 (by unfold maxLen at m1; omega) w w1 w2
end Go.Proofs.YtkbpjegegjgbkaaGreat.Sto
