/- The document's store is opened: contract of Open. -/
import Derived.Test.YthejlenafjnmkaaGreatY3
import Derived.Test.YthejlenafjnmkaaGreatSwB

namespace Go.Proofs.YthejlenafjnmkaaGreat.Sto
open Go.RowKit
open Oct (Has Chg)
open Rws
open Dv (mk_get mk_size mk_ext mk_set RefIs ROwn)
set_option linter.unusedVariables false

theorem gD_names {D : Dv.St} {z : Int} {ks : List Int} (h : gD D z = some ks) : (∀ k ∈ ks, nameB k D.size = true) ∧ ks.length ≤ 16 := by
  unfold gD tellsD readV at h
  split at h
  · cases hp : parseB (bareV 0 0 ⟨#[]⟩ D).dev.size (Dv.rdS (bareV 0 0 ⟨#[]⟩ D).dev z) with
    | none => rw [hp] at h; cases h
    | some b =>
      obtain ⟨ks', t⟩ := b
      rw [hp] at h
      have h : ks' = ks := Option.some.inj h
      subst h
      have := parse_names hp
      exact ⟨this.1, this.2.1⟩
  · cases h
theorem seen_hangs {D : Dv.St} {N : Nat} {se : Nat → Int} (h : SeenI (gD D) N se) {x y : Int} (hy : Hangs (gD D) x y) : ∀ {n : Nat}, x = n → 0 < se n → ∃ k : Nat, y = k ∧ 0 < se k := by
  induction hy with
  | here => intro n e h0; exact ⟨n, e, h0⟩
  | step hg hk _ ih =>
    intro n e h0
    subst e
    obtain ⟨a, ks, e1, e2, e3, e4⟩ := h.is_ n h0
    rw [hg] at e3
    injection e3 with e3
    subst e3
    obtain ⟨kn, rfl, _⟩ := name_nat ((gD_names hg).1 _ hk)
    exact ih rfl (by have := e4 _ hk; rwa [Int.toNat_natCast] at this)
/-- On the way through what was seen. -/
structure CsI (D : Dv.St) (se : Nat → Int) (z : Nat) (cs : Nat → RC) (kp : Nat → Bool) : Prop where
  yes : ∀ i, i < z → 0 < se i → (cs i).is = true ∧ kp i = true ∧ gD D i = some (cs i).kids ∧ (cs i).held = 0
  no : ∀ i, ¬ (i < z ∧ 0 < se i) → cs i = noRC ∧ kp i = false
  few : ∀ i, (cs i).kids.length ≤ 16
theorem CsI.skip {D : Dv.St} {se : Nat → Int} {z : Nat} {cs : Nat → RC} {kp : Nat → Bool} (h : CsI D se z cs kp) (h0 : ¬ 0 < se z) : CsI D se (z + 1) cs kp :=
  ⟨fun i hi h1 => h.yes i (by
    rcases Nat.lt_or_ge i z with e | e
    · exact e
    · exact absurd h1 (by rw [show i = z by omega]; exact h0)) h1, fun i hi => h.no i (fun k => hi ⟨by omega, k.2⟩), h.few⟩
theorem CsI.add {D : Dv.St} {se : Nat → Int} {z : Nat} {cs : Nat → RC} {kp : Nat → Bool} (h : CsI D se z cs kp) (h0 : 0 < se z) {A : Option Addr} {cap : Nat} {ks : List Int} (hg : gD D z = some ks) :
    CsI D se (z + 1) (fun j => if j = z then ⟨true, A, cap, ks, 0⟩ else cs j) (fun j => if j = z then true else kp j) := by
  refine ⟨fun i hi h1 => ?_, fun i hi => ?_, fun i => ?_⟩
  · by_cases e : i = z
    · subst e
      exact ⟨by simp, by simp, by simpa using hg, by simp⟩
    · simp only [e, if_false]
      exact h.yes i (by omega) h1
  · have e : i ≠ z := fun e => hi ⟨by omega, by rw [e]; exact h0⟩
    simp only [e, if_false]
    exact h.no i (fun k => hi ⟨by omega, k.2⟩)
  · by_cases e : i = z
    · simp only [e, if_true]
      exact (gD_names hg).2
    · simp only [e, if_false]
      exact h.few i
theorem CsI.done {D : Dv.St} {N rn : Nat} {se : Nat → Int} {r : Int} {cs : Nat → RC} {kp : Nat → Bool} (h : CsI D se N cs kp) (ho : HOut (gD D) N (fun _ => 0) rn r se) (hr : 0 < r) (hrn : rn < N) :
    OpenedR D rn N (fun j => if j = rn then { cs rn with held := 1 } else cs j) kp := by
  obtain ⟨a, e1, e2, e3, e4, e5, e6⟩ := ho.ok hr
  have hiff : ∀ i : Nat, Hangs (gD D) rn i ↔ 0 < se i := fun i => ⟨fun hh => by
    obtain ⟨k, hk, hk2⟩ := seen_hangs e4 hh rfl (by rw [e3]; exact hr)
    rw [show i = k by omega]
    exact hk2, fun hh => by
    rcases e6 i hh with q | q
    · exact absurd q (by decide)
    · exact q⟩
  refine ⟨fun i hi hh => ?_, fun i hi hh => ?_, fun i => ?_⟩
  · obtain ⟨h1, h2, h3, h4⟩ := h.yes i hi ((hiff i).1 hh)
    by_cases e : i = rn
    · subst e
      simp only [if_true]
      exact ⟨h1, h2, h3, trivial⟩
    · simp only [e, if_false]
      exact ⟨h1, h2, h3, by rw [h4, if_neg (by omega)]⟩
  · have e : i ≠ rn := fun e => hh (by rw [e]; exact .here _)
    simp only [e, if_false]
    exact h.no i (fun k => hh ((hiff i).2 k.2))
  · by_cases e : i = rn
    · simp only [e, if_true]
      exact h.few rn
    · simp only [e, if_false]
      exact h.few i
def TopOK (N : Nat) (top : BgV) : Prop := top.1 = 0 ∨ (1 ≤ top.1 ∧ 0 ≤ top.2.1 ∧ top.2.1 < N ∧ top.2.1 ≠ 1)
theorem TopOK.step {N : Nat} {top : BgV} (h : TopOK N top) (hN : 0 < N) {bytes : ByteArray} : TopOK N (topStep top (parseG N bytes)) := by
  cases hp : parseG N bytes with
  | none => exact h
  | some b =>
    have := parseG_root (by omega) hp
    show TopOK N (if top.1 < b.1 then b else top)
    split
    · exact .inr ⟨this.1, this.2.2.1, this.2.2.2.1, this.2.2.2.2⟩
    · exact h
set_option maxRecDepth 100000 in
set_option maxHeartbeats 4000000 in
theorem ropen (pd a b c N : Nat) (D : Dv.St) (hN : D.size = N) (hon : D.on = true) (hsm : ∀ i, (Dv.rdS D i).size ≤ 4104) (w : World) (hr : RefIs w pd a b c D) :
    Calls Tryz.prog 19 #[.pointer (some ⟨pd, 0, none⟩)] w fun e w' => ROpen pd a b c N D e w' ∧ Below w.heap.size w w' := by
  have hlo := hr.lo
  have hhi := hr.hi
  rw [hN] at hlo hhi
  have HR := Lib.hid hr
  have HSM := Lib.hid hsm
  have HDN := Lib.hid hN
  have HON := Lib.hid hon
  have HNV0 := Lib.hid (show scanV D (([0, 1] : List Int).drop 0) bg0 = newV D from rfl)
  have HP0 := Lib.hid (show Has (w.alloc (.cells #[.int .i64 0, .int .i64 0, .string ⟨#[]⟩] 90)) w.heap.size 90 (bgC bg0) from Has.fresh w _ _)
  have HB0 := Lib.hid ((Below.refl w.heap.size w).alloc (Nat.le_refl _) (.cells #[.int .i64 0, .int .i64 0, .string ⟨#[]⟩] 90))
  clear hr hsm hN hon
  go_enter Tryz.func19, Tryz.ntmps19
  go_wp2_with fail
  go_loopw [19] (fun i wr => ∃ (j : Nat) (top : BgV), j ≤ 2 ∧ i = .int .i64 j ∧ Hid (TopOK N top) ∧ Hid (scanV D (([0, 1] : List Int).drop j) top = newV D) ∧ Hid (Has wr w.heap.size 90 (bgC top)) ∧ Hid (Below w.heap.size w wr)) (fun i _ => 2 - (intOf i).toNat)
  case atStart => exact ⟨0, bg0, by omega, rfl, Lib.hid (.inl rfl), HNV0, HP0, HB0⟩
  case round =>
    obtain ⟨j, top, hj, rfl, HTO, HNJ, HPJ, HBJ⟩ := hrel
    clear HNV0 HP0 HB0
    by_cases hlt : j < 2
    · have hr1 := HR.out.below HBJ.out
      have htl := tells_in HON.out (D := D) (z := j) (by rw [HDN.out]; omega)
      have HRD := Lib.hid (Dv.rread_all pd a b c D j wr hr1)
      rw [htl.1] at HRD
      have hdr : (([0, 1] : List Int).drop j) = (j : Int) :: ([0, 1] : List Int).drop (j + 1) := drop_two j hlt
      have HNX := Lib.hid (show scanV D (([0, 1] : List Int).drop (j + 1)) (topStep top (parseG N (Dv.rdS D j))) = newV D by
        rw [← HNJ.out, hdr]
        show _ = if Dv.rdE D j = 0 then _ else _
        rw [if_pos htl.1, HDN.out])
      have HTX := Lib.hid (HTO.out.step (bytes := Dv.rdS D j) (by omega))
      have HBG := Lib.hid (fun W => rbegins (Dv.rdS D j) (HSM.out j) N (by omega) W _ rfl)
      generalize Dv.rdS D j = bytes at *
      generalize parseG N bytes = o at *
      clear hr1 htl hdr
      go_wp2_with fail
      refine HRD.out.mono ?_
      rintro e w1 ⟨rfl, hb1⟩
      have hbw1 := HBJ.out.trans (hb1.mono HBJ.out.size)
      have c2 := Has.at_ (HR.out.below hbw1).obj 0
      simp [HDN.out] at c2
      have hp1 := has_blw HPJ.out hb1
      have HB1 := Lib.hid hbw1
      have HP1 := Lib.hid hp1
      clear hb1 hbw1 hp1 HRD HPJ HBJ
      go_wp2_with fail
      refine (HBG.out w1).mono ?_
      rintro e w2 ⟨hgo, hb2⟩
      have hbw2 := HB1.out.trans (hb2.mono HB1.out.size)
      have hp2 := has_blw HP1.out hb2
      cases o with
      | none =>
        obtain rfl := hgo
        have HP3 := Lib.hid (hp2.past (.cells #[.int .i64 0, .int .i64 0, .string ⟨#[]⟩] 90))
        have HB3 := Lib.hid (hbw2.alloc hbw2.size (.cells #[.int .i64 0, .int .i64 0, .string ⟨#[]⟩] 90))
        clear hb2 hbw2 hp2 c2
        go_wp2
        go_roundw
        case rel => exact ⟨j + 1, top, by omega, by go_num, HTX, HNX, HP3, HB3⟩
        case measure => simp [intOf]; omega
      | some bg =>
        obtain ⟨g, ro, t⟩ := bg
        obtain rfl := hgo
        obtain ⟨tg, tr, tt⟩ := top
        have hp3 := hp2.past (.cells #[.int .i64 g, .int .i64 ro, .string t] 90)
        have hb3 := hbw2.alloc hbw2.size (.cells #[.int .i64 g, .int .i64 ro, .string t] 90)
        have k0 := Has.at_ hp3 0
        have k1 := Has.at_ hp3 1
        have k2 := Has.at_ hp3 2
        have f0 := Has.free hp3 0
        have f1 := Has.free hp3 1
        have f2 := Has.free hp3 2
        simp [bgC] at k0 k1 k2
        by_cases hgt_ : tg < g
        · have HTX2 := Lib.hid (show TopOK N (g, ro, t) by have h : TopOK N (if tg < g then (g, ro, t) else (tg, tr, tt)) := HTX.out; rw [if_pos hgt_] at h; exact h)
          have HNX2 := Lib.hid (show scanV D (([0, 1] : List Int).drop (j + 1)) (g, ro, t) = newV D by have h : scanV D (([0, 1] : List Int).drop (j + 1)) (if tg < g then (g, ro, t) else (tg, tr, tt)) = newV D := HNX.out; rw [if_pos hgt_] at h; exact h)
          have HP4 := Lib.hid (show Has _ w.heap.size 90 (bgC (g, ro, t)) from put3 hp3 (.int .i64 g) (.int .i64 ro) (.string t))
          have HB4 := Lib.hid (below3 hb3 (Nat.le_refl _) (.int .i64 g) (.int .i64 ro) (.string t))
          clear hb2 hbw2 hp2 hp3 hb3 c2 HNX HTX
          go_wp2
          go_roundw
          case rel => exact ⟨j + 1, (g, ro, t), by omega, by go_num, HTX2, HNX2, HP4, HB4⟩
          case measure => simp [intOf]; omega
        · have HTX2 := Lib.hid (show TopOK N (tg, tr, tt) by have h : TopOK N (if tg < g then (g, ro, t) else (tg, tr, tt)) := HTX.out; rw [if_neg hgt_] at h; exact h)
          have HNX2 := Lib.hid (show scanV D (([0, 1] : List Int).drop (j + 1)) (tg, tr, tt) = newV D by have h : scanV D (([0, 1] : List Int).drop (j + 1)) (if tg < g then (g, ro, t) else (tg, tr, tt)) = newV D := HNX.out; rw [if_neg hgt_] at h; exact h)
          have HP4 := Lib.hid hp3
          have HB4 := Lib.hid hb3
          clear hb2 hbw2 hp2 hp3 hb3 c2 HNX HTX
          go_wp2
          go_roundw
          case rel => exact ⟨j + 1, (tg, tr, tt), by omega, by go_num, HTX2, HNX2, HP4, HB4⟩
          case measure => simp [intOf]; omega
    · obtain rfl : j = 2 := by omega
      obtain ⟨tg, tr, tt⟩ := top
      have hnv : (if tg = 0 then (bg0, (2 : Int)) else ((tg, tr, tt), 0)) = newV D := HNJ.out
      have k0 := Has.at_ HPJ.out 0
      have k1 := Has.at_ HPJ.out 1
      have k2 := Has.at_ HPJ.out 2
      simp [bgC] at k0 k1 k2
      by_cases hg0 : tg = 0
      · subst hg0
        have HE := Lib.hid (show (newV D).2 = 2 by rw [← hnv]; rfl)
        clear hnv
        go_wp2
        go_ret2
        exact ⟨.inl ⟨by rw [HE.out]; decide, by rw [HE.out]; rfl⟩, HBJ.out⟩
      · have HNV := Lib.hid (show newV D = ((tg, tr, tt), 0) by rw [← hnv, if_neg hg0])
        have t0 : (tg == 0) = false := beq_eq_false_iff_ne.2 hg0
        have HTP := Lib.hid (show 0 ≤ tr ∧ tr < N ∧ tr ≠ 1 by
          rcases HTO.out with h | h
          · exact absurd h hg0
          · exact h.2)
        have hr1 := HR.out.below HBJ.out
        have HRB := Lib.hid (rbare pd a b c D tg tr tt wr hr1)
        rw [HDN.out] at HRB
        have HRI := Lib.hid hr1
        clear hnv hg0 HNJ HTO hr1
        go_wp2_with fail
        refine HRB.out.mono ?_
        rintro e w1 ⟨p, cb, kb, rfl, hrs, hp1, hcb, hkb, hb1⟩
        have hbw1 := HBJ.out.trans (hb1.mono HBJ.out.size)
        have hp4 := has_blw HPJ.out hb1
        have k3 := Has.at_ hp4 1
        simp [bgC] at k3
        have HRS := Lib.hid hrs
        have HB1 := Lib.hid hbw1
        have HP4 := Lib.hid hp4
        have HNCB := Lib.hid (show ¬ ROwn pd a b c cb from fun h => by have := HRI.out.bound cb h; omega)
        have HNKB := Lib.hid (show ¬ ROwn pd a b c kb from fun h => by have := HRI.out.bound kb h; omega)
        have HLO := Lib.hid (show w.heap.size ≤ cb ∧ w.heap.size ≤ kb by have := HBJ.out.size; omega)
        clear hrs hp1 hcb hkb hb1 hbw1 hp4 HRB HBJ HPJ k0 k1 k2
        by_cases hr0 : tr = 0
        · subst hr0
          go_wp2
          go_ret2
          exact ⟨.inr (.inl ⟨by rw [HNV.out], by rw [HNV.out], ⟨p, cb, kb, _, _, rfl, by rw [HNV.out]; exact HRS.out, fun i => rfl, fun i => rfl⟩⟩), HB1.out⟩
        · obtain ⟨rn, rfl⟩ := Int.eq_ofNat_of_zero_le HTP.out.1
          have t1 : ((rn : Int) == 0) = false := beq_eq_false_iff_ne.2 hr0
          have hrn : rn < N := by have := HTP.out.2.1; omega
          have c1 := Has.at_ (HR.out.below HB1.out).obj 0
          simp [HDN.out] at c1
          have mI := make_i N hhi w1
          have hs2 := Has.fresh w1 3 (Dv.mk N fun _ => .int .i64 0)
          have hsn : ¬ ROwn pd a b c w1.heap.size := fun h => by
            have h1 := (HR.out.below HB1.out).bound _ h
            omega
          have hb2 := HB1.out.alloc HB1.out.size (.cells (Dv.mk N fun _ => .int .i64 0) 3)
          have HHT := Lib.hid (rheight pd a b c w1.heap.size N D HDN.out HON.out HSM.out hsn N (fun _ => 0) rn (w1.alloc (.cells (Dv.mk N fun _ => .int .i64 0) 3)) (cntR_le _ N) hrn ⟨fun z => .inl rfl, fun z _ => rfl, fun z h => absurd h (by decide)⟩ (HR.out.below hb2) hs2)
          have hp5 := HP4.out.past (.cells (Dv.mk N fun _ => .int .i64 0) 3)
          have k4 := Has.at_ hp5 1
          simp [bgC] at k4
          have HP5 := Lib.hid hp5
          have HSN := Lib.hid hsn
          have HB2 := Lib.hid hb2
          have HRS2 := Lib.hid (HRS.out.below ((Below.refl w1.heap.size w1).alloc (Nat.le_refl _) (.cells (Dv.mk N fun _ => .int .i64 0) 3)))
          have HSZ := Lib.hid (show w.heap.size ≤ w1.heap.size from HB1.out.size)
          obtain ⟨sb, hsbe⟩ : ∃ sb, sb = w1.heap.size := ⟨_, rfl⟩
          have HPLT := Lib.hid (show p < sb ∧ cb < sb ∧ kb < sb ∧ w.heap.size < sb by rw [hsbe]; exact ⟨HRS.out.obj.bound, HRS.out.cells.at_.bound, HRS.out.kept.bound, HP4.out.bound⟩)
          have HSE := Lib.hid hsbe
          clear hs2 hsn hb2 hp5 HRS HP4 hr0 hsbe
          go_wp2_with fail
          refine HHT.out.mono ?_
          rintro e w3 ⟨r, se, rfl, ho, hs3, hc3⟩
          rw [← HSE.out] at hs3 hc3 ⊢
          rw [← HSE.out] at HSN
          have HB3 := Lib.hid (HB2.out.trans (hc3.below HB2.out.size (fun k hk => by have := HPLT.out; omega)))
          have hp6 := HP5.out.over hc3 (by have := HPLT.out; omega)
          have HP6 := Lib.hid hp6
          have HRS3 := Lib.hid (HRS2.out.chg hc3 HSN.out (by have := HPLT.out; omega) ⟨HRS2.out.cells.at_.over hc3 (by have := HPLT.out; omega), fun i hi => World.ownsRow_nil _ _ _ _⟩ (HRS2.out.kept.over hc3 (by have := HPLT.out; omega)))
          have HS3 := Lib.hid hs3
          have HHO := Lib.hid ho
          have hrl := ho.low
          clear hc3 hs3 ho HB2 HP5 HRS2 HHT k4 k3 mI c1
          by_cases hr0 : r = 0
          · subst hr0
            have HNO := Lib.hid (show hgt (gD D) 64 rn = none by
              rcases HHO.out.bad rfl with h | ⟨z, _, h⟩
              · exact h
              · exact absurd h (by decide))
            go_wp2
            go_ret2
            exact ⟨.inr (.inr (.inl ⟨by rw [HNV.out], by rw [HNV.out]; exact (beq_eq_false_iff_ne.1 t1), by rw [HNV.out]; exact HNO.out, rfl⟩)), HB3.out⟩
          · have t2 : (r == 0) = false := beq_eq_false_iff_ne.2 hr0
            have HRP := Lib.hid (show 0 < r by omega)
            have HC0 := Lib.hid (show CsI D se 0 (fun _ => noRC) (fun _ => false) from ⟨fun i hi => absurd hi (Nat.not_lt_zero _), fun i _ => ⟨rfl, rfl⟩, fun i => Nat.zero_le _⟩)
            clear hr0 hrl hp6
            go_wp2_with fail
            go_loopw [75] (fun i wr => ∃ (z : Nat) (cs : Nat → RC) (kp : Nat → Bool), z ≤ N ∧ i = .int .i64 z ∧ Hid (CsI D se z cs kp) ∧ Hid (RefS wr p cb kb pd a b c N (tg, (rn : Int), tt) D cs kp) ∧ Hid (Has wr sb 3 (Dv.mk N fun i => .int .i64 (se i))) ∧ Hid (Has wr w.heap.size 90 (bgC (tg, (rn : Int), tt))) ∧ Hid (Below w.heap.size w wr)) (fun i _ => N - (intOf i).toNat)
            case atStart => exact ⟨0, _, _, Nat.zero_le _, rfl, HC0, HRS3, HS3, HP6, HB3⟩
            case round =>
              obtain ⟨z, cs, kp, hz, rfl, HCZ, HRZ, HSZ2, HPZ, HBZ⟩ := hrel
              clear HC0 HRS3 HS3 HP6 HB3
              obtain ⟨wd, hwd⟩ : ∃ wd : World, wd = wr := ⟨_, rfl⟩
              subst hwd
              by_cases hlt : z < N
              · have c1 := seen_at HSZ2.out hlt
                have HLT := Lib.hid hlt
                by_cases h0 : 0 < se z
                · obtain ⟨ha, ks, q1, q2, q3, q4⟩ := (HHO.out.ok HRP.out).elim fun _ h => h.2.2.2.1.is_ z h0
                  have htl := tells_in HON.out (D := D) (z := z) (by rw [HDN.out]; exact hlt)
                  have HRD := Lib.hid (Dv.rread_all pd a b c D z wd HRZ.out.dev)
                  rw [htl.1] at HRD
                  obtain ⟨t, hpt⟩ : ∃ t, parseB N (Dv.rdS D z) = some (ks, t) := by
                    have e : gD D z = (parseB N (Dv.rdS D z)).map (·.1) := by unfold gD; rw [htl.2, HDN.out]
                    rw [q3] at e
                    cases hp : parseB N (Dv.rdS D z) with
                    | none => rw [hp] at e; cases e
                    | some b =>
                      rw [hp] at e
                      have e := Option.some.inj e
                      exact ⟨b.2, by rw [e]⟩
                  have HBL := Lib.hid (fun W => rblock_of (Dv.rdS D z) (HSM.out z) N W _ hpt)
                  have HGK := Lib.hid q3
                  have H0 := Lib.hid h0
                  generalize Dv.rdS D z = bytes at *
                  generalize se z = sz at c1 h0
                  clear q1 q2 q3 q4 htl hpt
                  go_wp2_with fail
                  refine HRD.out.mono ?_
                  rintro e w4 ⟨rfl, hb4⟩
                  have hr4 := HRZ.out.below hb4
                  have c2 := Has.at_ hr4.dev.obj 0
                  simp [HDN.out] at c2
                  have HB4 := Lib.hid hb4
                  clear hb4 HRD hr4 c1
                  go_wp2_with fail
                  refine (HBL.out w4).mono ?_
                  rintro e w5 ⟨hbo, hb5⟩
                  obtain ⟨v, rfl, hov⟩ := hbo
                  obtain ⟨A, cap, rfl⟩ := own_sl hov
                  have hb6 : Below wd.heap.size wd (w5.alloc (.cells #[.slice A ks.length cap, .string t] 51)).drew := ((HB4.out.trans (hb5.mono HB4.out.size)).alloc (Nat.le_trans HB4.out.size hb5.size) _).drew
                  have hr6 := HRZ.out.below hb6
                  have ho6 : OwnI (w5.alloc (.cells #[.slice A ks.length cap, .string t] 51)).drew 0 (.slice A ks.length cap) ks := World.ownsRow.drew (World.ownsRow.alloc (own_low hov (Nat.zero_le _)) _)
                  have hs6 := has_blw HSZ2.out hb6
                  have hp6 := has_blw HPZ.out hb6
                  have c4 := Has.at_ hr6.obj 4
                  simp at c4
                  obtain ⟨g0, g1, g2⟩ := hr6.cells.get HLT.out
                  have f0 := Has.free hr6.cells.at_ (z * 3)
                  have f1 := Has.free hr6.cells.at_ (z * 3 + 1)
                  have f2 := Has.free hr6.cells.at_ (z * 3 + 2)
                  have hr7 := hr6.put HNCB.out HLT.out ⟨true, A, cap, ks, 0⟩ ho6
                  have hcb : sb ≠ cb ∧ sb ≠ kb := by have := HPLT.out; omega
                  have hpc := has_ne hp6 hr6.cells.at_ (by decide)
                  have hpk := has_ne hp6 hr6.kept (by decide)
                  have c5 := Has.at_ hr7.obj 5
                  simp at c5
                  have k5 := hr7.keptAt HLT.out
                  have f5 := Has.free hr7.kept z
                  have HR8 := Lib.hid (hr7.keep HNKB.out HLT.out true)
                  have HS8 := Lib.hid ((((hs6.keep (p := ⟨cb, z * 3, none⟩) hcb.1 (.bool true)).keep (p := ⟨cb, z * 3 + 1, none⟩) hcb.1 (.slice A ks.length cap)).keep (p := ⟨cb, z * 3 + 2, none⟩) hcb.1 (.int .i64 0)).keep (p := ⟨kb, z, none⟩) hcb.2 (.bool true))
                  have HP8 := Lib.hid ((((hp6.keep (p := ⟨cb, z * 3, none⟩) hpc (.bool true)).keep (p := ⟨cb, z * 3 + 1, none⟩) hpc (.slice A ks.length cap)).keep (p := ⟨cb, z * 3 + 2, none⟩) hpc (.int .i64 0)).keep (p := ⟨kb, z, none⟩) hpk (.bool true))
                  have HB8 := Lib.hid (((((HBZ.out.trans (hb6.mono HBZ.out.size)).setCell (p := ⟨cb, z * 3, none⟩) HLO.out.1 (.bool true)).setCell (p := ⟨cb, z * 3 + 1, none⟩) HLO.out.1 (.slice A ks.length cap)).setCell (p := ⟨cb, z * 3 + 2, none⟩) HLO.out.1 (.int .i64 0)).setCell (p := ⟨kb, z, none⟩) HLO.out.2 (.bool true))
                  have HC8 := Lib.hid (HCZ.out.add (A := A) (cap := cap) H0.out HGK.out)
                  simp only [RC.v] at k5 f5 c5 g1
                  generalize (cs z).A = A9 at g1
                  generalize (cs z).kids.length = n9 at g1
                  generalize (cs z).cap = c9 at g1
                  generalize (cs z).is = b9 at g0
                  generalize (cs z).held = h9 at g2
                  have c5' : (((((w5.alloc (.cells #[.slice A ks.length cap, .string t] 51)).setCell ⟨cb, z * 3, none⟩ (.bool true)).setCell ⟨cb, z * 3 + 1, none⟩ (.slice A ks.length cap)).setCell ⟨cb, z * 3 + 2, none⟩ (.int .i64 0))).cell? ⟨p, 5, none⟩ = some (.slice (some ⟨kb, 0, none⟩) N N) := c5
                  have k5' : (((((w5.alloc (.cells #[.slice A ks.length cap, .string t] 51)).setCell ⟨cb, z * 3, none⟩ (.bool true)).setCell ⟨cb, z * 3 + 1, none⟩ (.slice A ks.length cap)).setCell ⟨cb, z * 3 + 2, none⟩ (.int .i64 0))).cell? ⟨kb, z, none⟩ = some (.bool (kp z)) := k5
                  have f5' : (((((w5.alloc (.cells #[.slice A ks.length cap, .string t] 51)).setCell ⟨cb, z * 3, none⟩ (.bool true)).setCell ⟨cb, z * 3 + 1, none⟩ (.slice A ks.length cap)).setCell ⟨cb, z * 3 + 2, none⟩ (.int .i64 0))).frozen? ⟨kb, z, none⟩ = false := f5
                  have c5'' : (((((w5.alloc (.cells #[.slice A ks.length cap, .string t] 51)).setCell ⟨cb, z * 3, none⟩ (.bool true)).setCell ⟨cb, z * 3 + 1, none⟩ (.slice A ks.length cap)).setCell ⟨cb, z * 3 + 2, none⟩ (.int .i64 0)).drew).cell? ⟨p, 5, none⟩ = some (.slice (some ⟨kb, 0, none⟩) N N) := c5
                  have k5'' : (((((w5.alloc (.cells #[.slice A ks.length cap, .string t] 51)).setCell ⟨cb, z * 3, none⟩ (.bool true)).setCell ⟨cb, z * 3 + 1, none⟩ (.slice A ks.length cap)).setCell ⟨cb, z * 3 + 2, none⟩ (.int .i64 0)).drew).cell? ⟨kb, z, none⟩ = some (.bool (kp z)) := k5
                  have f5'' : (((((w5.alloc (.cells #[.slice A ks.length cap, .string t] 51)).setCell ⟨cb, z * 3, none⟩ (.bool true)).setCell ⟨cb, z * 3 + 1, none⟩ (.slice A ks.length cap)).setCell ⟨cb, z * 3 + 2, none⟩ (.int .i64 0)).drew).frozen? ⟨kb, z, none⟩ = false := f5
                  have g0' : (w5.alloc (.cells #[.slice A ks.length cap, .string t] 51)).cell? ⟨cb, z * 3, none⟩ = some (.bool b9) := g0
                  have g1' : (w5.alloc (.cells #[.slice A ks.length cap, .string t] 51)).cell? ⟨cb, z * 3 + 1, none⟩ = some (.slice A9 n9 c9) := g1
                  have g2' : (w5.alloc (.cells #[.slice A ks.length cap, .string t] 51)).cell? ⟨cb, z * 3 + 2, none⟩ = some (.int .i64 h9) := g2
                  have f0' : (w5.alloc (.cells #[.slice A ks.length cap, .string t] 51)).frozen? ⟨cb, z * 3, none⟩ = false := f0
                  have f1' : (w5.alloc (.cells #[.slice A ks.length cap, .string t] 51)).frozen? ⟨cb, z * 3 + 1, none⟩ = false := f1
                  have f2' : (w5.alloc (.cells #[.slice A ks.length cap, .string t] 51)).frozen? ⟨cb, z * 3 + 2, none⟩ = false := f2
                  clear hb5 hb6 hov hr6 ho6 hs6 hp6 hr7 hcb hpc hpk HBL c2
                  go_wp2_with fail
                  go_region
                  all_goals
                    go_wp2
                    go_roundw
                    case rel => exact ⟨z + 1, _, _, by omega, by go_num, HC8, HR8, HS8, HP8, HB8⟩
                    case measure => simp [intOf]; omega
                · have t3 : ¬ 0 < se z := h0
                  have HC8 := Lib.hid (HCZ.out.skip h0)
                  generalize se z = sz at c1 h0 t3
                  go_wp2
                  go_roundw
                  case rel => exact ⟨z + 1, cs, kp, by omega, by go_num, HC8, HRZ, HSZ2, HPZ, HBZ⟩
                  case measure => simp [intOf]; omega
              · obtain rfl : z = N := by omega
                have hr6 := HRZ.out.below ((Below.refl wd.heap.size wd).drew)
                have hp6 := has_blw HPZ.out ((Below.refl wd.heap.size wd).drew)
                have c4 := Has.at_ hr6.obj 4
                have k1 := Has.at_ hp6 1
                simp [bgC] at c4 k1
                obtain ⟨g0, g1, g2⟩ := hr6.cells.get hrn
                have f2 := Has.free hr6.cells.at_ (rn * 3 + 2)
                have HR7 := Lib.hid (hr6.hold HNCB.out hrn 1)
                have HB7 := Lib.hid (HBZ.out.drew.setCell (p := ⟨cb, rn * 3 + 2, none⟩) HLO.out.1 (.int .i64 1))
                have HOD := Lib.hid (HCZ.out.done HHO.out HRP.out hrn)
                have HSO := Lib.hid (show (hgt (gD D) 64 rn).isSome = true by obtain ⟨a, e, _⟩ := HHO.out.ok HRP.out; rw [e]; rfl)
                clear hr6 hp6 hlt
                go_wp2_with fail
                go_region
                all_goals
                  go_wp2
                  go_ret2
                  exact ⟨.inr (.inr (.inr ⟨by rw [HNV.out], by rw [HNV.out]; exact (beq_eq_false_iff_ne.1 t1), by rw [HNV.out]; exact HSO.out, ⟨p, cb, kb, _, _, rfl, by rw [HNV.out]; exact HR7.out, by rw [HNV.out]; exact HOD.out⟩⟩)), HB7.out⟩
end Go.Proofs.YthejlenafjnmkaaGreat.Sto
/- What a store is that is opened, whatever lies on the device: the program's, in pure terms. -/
namespace Go.Proofs.YthejlenafjnmkaaGreat.Sto
open Go.RowKit
set_option linter.unusedVariables false

structure LoadH (N : Nat) (D : Dv.St) (s : SV) : Prop where
  g : LoadG N D s
  le : ∀ z n, s.nodes z = some n → ∃ h : Nat, hgt (gD D) 64 z = some h ∧ n.high ≤ h
theorem gD_in {D : Dv.St} {N : Nat} (hsz : D.size = N) (hon : D.on = true) {s : SV} (hd : s.dev = D) {i : Nat} (hi : i < N) : (∃ ks t, readV s i = (some (ks, t), 0) ∧ gD D i = some ks) ∨ (readV s i = (none, 5) ∧ gD D i = none) := by
  obtain ⟨e1, e2⟩ := tells_in hon (D := D) (z := i) (by omega)
  have e3 : readV s i = readB (parseB D.size (Dv.rdS D i)) := by
    unfold readV
    rw [hd, if_pos e1]
  unfold gD
  rw [e2, e3]
  cases parseB D.size (Dv.rdS D i) with
  | none => exact .inr ⟨rfl, rfl⟩
  | some b => exact .inl ⟨b.1, b.2, rfl, rfl⟩
theorem load_all {N : Nat} {D : Dv.St} (hN : N ≤ 40) (hsz : D.size = N) (hon : D.on = true) : ∀ (n : Nat) (s : SV) (id : Int), LoadH N D s → nameB id N = true →
    ((loadV n s id).1 = 0 ∨ (loadV n s id).1 = 5) ∧
    ((loadV n s id).1 = 0 → LoadH N D (loadV n s id).2 ∧ ∀ z, ((loadV n s id).2.nodes z).isSome = true ↔ ((s.nodes z).isSome = true ∨ Hangs (gD D) id z)) ∧
    ((∃ h, hgt (gD D) n id = some h) → n ≤ 64 → (loadV n s id).1 = 0)
  | 0, s, id, hI, hid => by
    by_cases hs : (s.nodes id).isSome = true
    · have e : loadV 0 s id = (0, s) := if_pos hs
      rw [e]
      exact ⟨.inl rfl, fun _ => ⟨hI, fun z => ⟨.inl, fun h => h.elim (fun h => h) fun h => hI.g.hangs hs h⟩⟩, fun _ _ => rfl⟩
    · have e : loadV 0 s id = (5, s) := if_neg hs
      rw [e]
      exact ⟨.inr rfl, (fun h => by cases h), fun ⟨h, hh⟩ => by cases hh⟩
  | n + 1, s, id, hI, hid => by
    by_cases hs : (s.nodes id).isSome = true
    · have e : loadV (n + 1) s id = (0, s) := if_pos hs
      rw [e]
      exact ⟨.inl rfl, fun _ => ⟨hI, fun z => ⟨.inl, fun h => h.elim (fun h => h) fun h => hI.g.hangs hs h⟩⟩, fun _ _ => rfl⟩
    · have e0 : loadV (n + 1) s id = loadRead (loadV n) s id (readV s id) := if_neg hs
      obtain ⟨i, rfl, h2, hiN⟩ := name_nat hid
      rcases gD_in hsz hon hI.g.dev hiN with ⟨ks, t, hrd, hg⟩ | ⟨hrd, hg⟩
      · obtain ⟨hnm, hlen⟩ := gD_names hg
        rw [hsz] at hnm
        have hks : ∀ (l : List Int) (s : SV), LoadH N D s → (∀ k ∈ l, nameB k N = true) →
            ((loadKids (loadV n) l s).1 = 0 ∨ (loadKids (loadV n) l s).1 = 5) ∧
            ((loadKids (loadV n) l s).1 = 0 → LoadH N D (loadKids (loadV n) l s).2 ∧ (∀ k ∈ l, ((loadKids (loadV n) l s).2.nodes k).isSome = true) ∧ ∀ z, ((loadKids (loadV n) l s).2.nodes z).isSome = true ↔ ((s.nodes z).isSome = true ∨ ∃ k ∈ l, Hangs (gD D) k z)) ∧
            ((∀ k ∈ l, ∃ h, hgt (gD D) n k = some h) → n ≤ 64 → (loadKids (loadV n) l s).1 = 0) := by
          intro l
          induction l with
          | nil => intro s hI _; exact ⟨.inl rfl, fun _ => ⟨hI, (fun k hk => by cases hk), fun z => ⟨.inl, fun h => h.elim (fun h => h) fun ⟨k, hk, _⟩ => by cases hk⟩⟩, fun _ _ => rfl⟩
          | cons k l ih =>
            intro s hI hl
            obtain ⟨a1, a2, a3⟩ := load_all hN hsz hon n s k hI (hl k List.mem_cons_self)
            by_cases h0 : (loadV n s k).1 = 0
            · have e : loadKids (loadV n) (k :: l) s = loadKids (loadV n) l (loadV n s k).2 := if_pos h0
              obtain ⟨b0, b1⟩ := a2 h0
              obtain ⟨c1, c2, c3⟩ := ih (loadV n s k).2 b0 (fun j hj => hl j (List.mem_cons_of_mem _ hj))
              rw [e]
              refine ⟨c1, fun hz => ?_, fun hh hn => c3 (fun j hj => hh j (List.mem_cons_of_mem _ hj)) hn⟩
              obtain ⟨d1, d2, d3⟩ := c2 hz
              refine ⟨d1, fun j hj => ?_, fun z => ?_⟩
              · rcases List.mem_cons.1 hj with e | hj
                · rw [e]
                  exact (d3 k).2 (.inl ((b1 k).2 (.inr (.here _))))
                · exact d2 j hj
              · rw [d3 z, b1 z]
                constructor
                · rintro ((h | h) | ⟨j, hj, h⟩)
                  · exact .inl h
                  · exact .inr ⟨k, List.mem_cons_self, h⟩
                  · exact .inr ⟨j, List.mem_cons_of_mem _ hj, h⟩
                · rintro (h | ⟨j, hj, h⟩)
                  · exact .inl (.inl h)
                  · rcases List.mem_cons.1 hj with e | hj
                    · rw [e] at h
                      exact .inl (.inr h)
                    · exact .inr ⟨j, hj, h⟩
            · have e : loadKids (loadV n) (k :: l) s = loadV n s k := if_neg h0
              rw [e]
              exact ⟨a1, fun h => absurd h h0, fun hh hn => a3 (hh k List.mem_cons_self) hn⟩
        obtain ⟨c1, c2, c3⟩ := hks ks s hI hnm
        have e1 : loadV (n + 1) s i = loadOut i ks (loadKids (loadV n) ks s) := by rw [e0, hrd]; rfl
        rw [e1]
        generalize loadKids (loadV n) ks s = r at *
        obtain ⟨E, s1⟩ := r
        by_cases h0 : E = 0
        · subst h0
          obtain ⟨d1, d2, d3⟩ := c2 rfl
          have hnone : s1.nodes i = none := by
            cases hq : s1.nodes i with
            | none => rfl
            | some m =>
              rcases (d3 i).1 (by rw [hq]; rfl) with h | ⟨k, hk, h⟩
              · exact absurd h hs
              · obtain ⟨nd, hnd⟩ := Option.isSome_iff_exists.1 (d2 k hk)
                obtain ⟨a, ha⟩ := d1.g.hgt hnd
                obtain ⟨b, hb, _⟩ := hgt_hangs h ha
                rw [hgt_not hg hk h] at hb
                cases hb
          by_cases h64 : 64 < aboveV s1.nodes ks
          · have e2 : loadOut i ks ((0 : Int), s1) = (5, s1) := by
              unfold loadOut
              rw [if_pos rfl, if_pos h64]
            rw [e2]
            refine ⟨.inr rfl, (fun h => by cases h), fun ⟨h, hh⟩ hn => ?_⟩
            exfalso
            obtain ⟨m, ks', q, f1, f2, f3, f4⟩ := hgt_inv hh
            rw [hg] at f2
            injection f2 with f2
            subst f2
            have hm : m = n := by omega
            subst hm
            have hlow := (hgt_low hh).2
            have hmax := highs_max (f := s1.nodes) (B := (q : Int)) ks 0 (by omega) (by omega) (fun k hk nd hnd => by
              obtain ⟨c, hc, hc2⟩ := maxO_inv f3 k hk
              obtain ⟨c', hc', hc3⟩ := d1.le k nd hnd
              have := hgt_one hc hc'
              omega)
            unfold aboveV at h64
            omega
          · have e2 : loadOut i ks ((0 : Int), s1) = (0, addV s1 i ks) := by
              unfold loadOut
              rw [if_pos rfl, if_neg h64]
            rw [e2]
            have hacc := acc_add d1.g.acc hN h2 hiN hnone hlen d2
            have hlow : Low (addV s1 i ks) := (keeps_add s1 i ks (by omega)).low d1.g.low
            have hsub : ∀ z nd, (addV s1 i ks).nodes z = some nd → gD D z = some nd.kids ∧ nd.kids.length ≤ 16 ∧ nd.held = 0 := fun z nd hz => by
              rcases add_is d1.g.acc hnone hlen hz with ⟨e, q1, q2, q3⟩ | ⟨m, hm, q1, q2, q3⟩
              · subst e
                rw [q2]
                exact ⟨hg, hlen, q1⟩
              · have := d1.g.sub z m hm
                rw [q1, q3]
                exact ⟨this.1, this.2, d1.g.held z m hm⟩
            have hG : LoadG N D (addV s1 i ks) := ⟨hacc, hlow, fun z nd hz => ⟨(hsub z nd hz).1, (hsub z nd hz).2.1⟩, fun z nd hz => (hsub z nd hz).2.2, d1.g.dev⟩
            refine ⟨.inl rfl, fun _ => ⟨⟨hG, fun z nd hz => ?_⟩, fun z => ?_⟩, fun _ _ => rfl⟩
            · obtain ⟨a, ha⟩ := hG.hgt hz
              refine ⟨a, ha, ?_⟩
              rcases add_is d1.g.acc hnone hlen hz with ⟨e, q1, q2, q3⟩ | ⟨m, hm, q1, q2, q3⟩
              · subst e
                obtain ⟨m, ks', q, f1, f2, f3, f4⟩ := hgt_inv ha
                rw [hg] at f2
                injection f2 with f2
                subst f2
                have hmax := highs_max (f := s1.nodes) (B := (q : Int)) ks 0 (by omega) (by omega) (fun k hk nd hnd => by
                  obtain ⟨c, hc, hc2⟩ := maxO_inv f3 k hk
                  obtain ⟨c', hc', hc3⟩ := d1.le k nd hnd
                  have := hgt_one hc hc'
                  omega)
                have q4 : nd.high = highs s1.nodes ks 0 + 1 := q3
                omega
              · obtain ⟨c', hc', hc3⟩ := d1.le z m hm
                have := hgt_one ha hc'
                rw [q2]
                omega
            · have e3 : ((addV s1 i ks).nodes z).isSome = (decide (z = (i : Int)) || (s1.nodes z).isSome) := addV_some s1 i ks z
              show ((addV s1 i ks).nodes z).isSome = true ↔ _
              rw [e3, Bool.or_eq_true, decide_eq_true_iff, d3 z]
              constructor
              · rintro (h | h | ⟨k, hk, h⟩)
                · rw [h]
                  exact .inr (.here _)
                · exact .inl h
                · exact .inr (.step hg hk h)
              · rintro (h | h)
                · exact .inr (.inl h)
                · cases h with
                  | here => exact .inl rfl
                  | step hg2 hk h =>
                    rw [hg] at hg2
                    injection hg2 with hg2
                    subst hg2
                    exact .inr (.inr ⟨_, hk, h⟩)
        · have e2 : loadOut i ks (E, s1) = (E, s1) := if_neg h0
          rw [e2]
          refine ⟨c1, fun h => absurd h h0, fun ⟨h, hh⟩ hn => ?_⟩
          refine c3 (fun k hk => ?_) (by omega)
          obtain ⟨m, ks', q, f1, f2, f3, f4⟩ := hgt_inv hh
          rw [hg] at f2
          injection f2 with f2
          subst f2
          obtain ⟨c, hc, _⟩ := maxO_inv f3 k hk
          exact ⟨c, by rw [show n = m by omega]; exact hc⟩
      · have e1 : loadV (n + 1) s i = (5, s) := by rw [e0, hrd]; rfl
        rw [e1]
        refine ⟨.inr rfl, (fun h => by cases h), fun ⟨h, hh⟩ _ => ?_⟩
        obtain ⟨m, ks', q, f1, f2, f3, f4⟩ := hgt_inv hh
        rw [hg] at f2
        cases f2
end Go.Proofs.YthejlenafjnmkaaGreat.Sto
/- The program's store and the document's, opened upon one device, are alike: in pure terms. -/
namespace Go.Proofs.YthejlenafjnmkaaGreat.Sto
open Go.RowKit
set_option linter.unusedVariables false

def TopB (N : Nat) (top : BgV) : Prop := top.1 = 0 ∨ (1 ≤ top.1 ∧ top.1 ≤ 1099511627776 ∧ 0 ≤ top.2.1 ∧ top.2.1 < N ∧ top.2.1 ≠ 1)
theorem TopB.step {N : Nat} {top : BgV} (h : TopB N top) (hN : 0 < N) {bytes : ByteArray} : TopB N (topStep top (parseG N bytes)) := by
  cases hp : parseG N bytes with
  | none => exact h
  | some b =>
    have := parseG_root (by omega) hp
    show TopB N (if top.1 < b.1 then b else top)
    split
    · exact .inr ⟨this.1, this.2.1, this.2.2.1, this.2.2.2.1, this.2.2.2.2⟩
    · exact h
theorem newV_ok {N : Nat} {D : Dv.St} (hlo : 8 ≤ N) (hsz : D.size = N) (hon : D.on = true) {b : BgV} (h : newV D = (b, 0)) : 1 ≤ b.1 ∧ b.1 ≤ 1099511627776 ∧ 0 ≤ b.2.1 ∧ b.2.1 < N ∧ b.2.1 ≠ 1 := by
  have e0 := (tells_in hon (D := D) (z := 0) (by omega)).1
  have e1 := (tells_in hon (D := D) (z := 1) (by omega)).1
  have e : newV D = if (topStep (topStep bg0 (parseG D.size (Dv.rdS D 0))) (parseG D.size (Dv.rdS D 1))).1 = 0 then (bg0, 2) else (topStep (topStep bg0 (parseG D.size (Dv.rdS D 0))) (parseG D.size (Dv.rdS D 1)), 0) := by
    unfold newV scanV
    have e0' : Dv.rdE D 0 = 0 := e0
    rw [if_pos e0']
    unfold scanV
    have e1' : Dv.rdE D 1 = 0 := e1
    rw [if_pos e1']
    rfl
  rw [hsz] at e
  have h1 : TopB N bg0 := .inl rfl
  have h3 := (h1.step (by omega) (bytes := Dv.rdS D 0)).step (by omega) (bytes := Dv.rdS D 1)
  rw [e] at h
  split at h
  · injection h with _ h
    cases h
  · rename_i hne
    injection h with h
    rw [h] at h3 hne
    rcases h3 with h3 | h3
    · exact absurd h3 hne
    · exact h3
/-- The document's store has what the program's has. -/
structure SameR (N : Nat) (V : SV) (cs : Nat → RC) (kp : Nat → Bool) : Prop where
  is_ : ∀ i, i < N → (cs i).is = (V.nodes i).isSome
  kids : ∀ i, i < N → ∀ n, V.nodes i = some n → n.kids = (cs i).kids ∧ n.held = (cs i).held
  kept : ∀ i, i < N → V.kept i = kp i
  few : ∀ i, (cs i).kids.length ≤ 16
theorem bare_loadH (N : Nat) (g root : Int) (note : ByteArray) (D : Dv.St) : LoadH N D (bareV g root note D) :=
  ⟨⟨⟨(fun z n hz => by cases hz), (fun z hz => by cases hz), (fun z n hz => by cases hz), (fun z n hz => by cases hz), (fun k hk => by cases hk)⟩, (fun z n hz => by cases hz), (fun z n hz => by cases hz), (fun z n hz => by cases hz), rfl⟩, (fun z n hz => by cases hz)⟩
theorem root_named {N : Nat} {root : Int} (h : 0 ≤ root ∧ root < N ∧ root ≠ 1) (h0 : root ≠ 0) : nameB root N = true := by
  unfold nameB
  rw [decide_eq_true (by omega), decide_eq_true (by omega)]
  rfl
theorem open_down {N : Nat} {D : Dv.St} (hlo : 8 ≤ N) (hhi : N ≤ 40) (hsz : D.size = N) (hon : D.on = true) : ∀ b, newV D = (b, 0) → b.2.1 ≠ 0 → ∀ s1, loadV 64 (bareV b.1 b.2.1 b.2.2 D) b.2.1 = (0, s1) → Down s1.nodes := by
  intro b hb h0 s1 hs
  have hok := newV_ok hlo hsz hon hb
  have h2 := (load_all hhi hsz hon 64 (bareV b.1 b.2.1 b.2.2 D) b.2.1 (bare_loadH N _ _ _ D) (root_named hok.2.2 h0)).2.1
  rw [hs] at h2
  exact (h2 rfl).1.g.acc.down
/-- What is opened. -/
structure OpenV (N : Nat) (D : Dv.St) (B : BgV) (V : SV) : Prop where
  inv : Inv N 1099511627776 V
  gen : V.gen = B.1
  root : V.root = B.2.1
  note : V.note = B.2.2
  dev : V.dev = D
theorem open_none {N : Nat} {D : Dv.St} (hlo : 8 ≤ N) (hhi : N ≤ 40) (hsz : D.size = N) (hon : D.on = true) {b : BgV} (hb : newV D = (b, 0)) (h0 : b.2.1 ≠ 0) (hh : hgt (gD D) 64 b.2.1 = none) : openV D = (none, 5) := by
  obtain ⟨g, root, note⟩ := b
  have hok := newV_ok hlo hsz hon hb
  obtain ⟨a1, a2, a3⟩ := load_all hhi hsz hon 64 (bareV g root note D) root (bare_loadH N _ _ _ D) (root_named hok.2.2 h0)
  have e : openV D = openL (loadV 64 (bareV g root note D) root) := by
    unfold openV
    rw [hb]
    refine (show openN D ((g, root, note), 0) = openR (bareV g root note D) by unfold openN; exact if_pos rfl).trans ?_
    exact (show openR (bareV g root note D) = openL (loadV 64 (bareV g root note D) root) by unfold openR; exact if_neg (show ¬ (bareV g root note D).root = 0 from h0))
  rw [e]
  rcases a1 with a1 | a1
  · exfalso
    obtain ⟨b1, b2⟩ := a2 a1
    obtain ⟨nd, hnd⟩ := Option.isSome_iff_exists.1 ((b2 root).2 (.inr (.here _)))
    obtain ⟨a, ha⟩ := b1.g.hgt hnd
    rw [hh] at ha
    cases ha
  · generalize loadV 64 (bareV g root note D) root = r at *
    obtain ⟨E, s⟩ := r
    have a1 : E = 5 := a1
    subst a1
    rfl
theorem open_bare {N : Nat} {D : Dv.St} (hlo : 8 ≤ N) (hhi : N ≤ 40) (hsz : D.size = N) (hon : D.on = true) (hsm : Small D) {b : BgV} (hb : newV D = (b, 0)) (h0 : b.2.1 = 0) {cs : Nat → RC} {kp : Nat → Bool} (h : (∀ i, cs i = noRC) ∧ ∀ i, kp i = false) :
    ∃ V, openV D = (some V, 0) ∧ OpenV N D b V ∧ SameR N V cs kp := by
  obtain ⟨g, root, note⟩ := b
  have hok := newV_ok hlo hsz hon hb
  have h0 : root = 0 := h0
  subst h0
  have e : openV D = (some (bareV g 0 note D), 0) := by
    unfold openV
    rw [hb]
    exact (show openN D ((g, 0, note), 0) = openR (bareV g 0 note D) by unfold openN; exact if_pos rfl).trans (show openR (bareV g 0 note D) = _ by unfold openR; exact if_pos rfl)
  have hH := bare_loadH N g 0 note D
  refine ⟨_, e, ⟨⟨hH.g.acc, hH.g.low, hsz, ⟨hlo, hhi⟩, hsm, ⟨hok.1, ?_⟩, (fun z n hz => by cases hz), (fun z hz => by cases hz)⟩, rfl, rfl, rfl, rfl⟩, ⟨fun i _ => by rw [h.1 i]; rfl, (fun i _ n hn => by cases hn), fun i _ => by rw [h.2 i]; rfl, fun i => by rw [h.1 i]; exact Nat.zero_le _⟩⟩
  show g ≤ _
  have := hok.2.1
  show g ≤ 1 + ((1099511627776 : Nat) : Int)
  have : g ≤ 1099511627776 := this
  omega
theorem held_acc {N : Nat} {f : Int → Option NodeV} (h : Acc N f []) (k q : Int) : Acc N (heldN f k q) [] := by
  have hk : ∀ z, kidsN (heldN f k q z) = kidsN (f z) := fun z => by
    unfold heldN
    split
    · cases f z <;> rfl
    · rfl
  have ht : ∀ z, tot N (heldN f k q) z = tot N f z := fun z => sum_same _ _ N fun j _ => by rw [hk]
  have hof : ∀ z n, heldN f k q z = some n → ∃ m, f z = some m ∧ n.named = m.named := fun z n hz => by
    unfold heldN at hz
    split at hz
    · cases hf : f z with
      | none => rw [hf] at hz; cases hz
      | some m =>
        rw [hf] at hz
        injection hz with hz
        exact ⟨m, rfl, by rw [← hz]⟩
    · exact ⟨n, hz, rfl⟩
  refine ⟨heldN_down h.down k q, fun z hz => h.ids z (by rw [heldN_some] at hz; exact hz), fun z n hz => ?_, fun z n hz => ?_, fun k hk => by cases hk⟩
  · obtain ⟨m, hm, e⟩ := hof z n hz
    rw [e, ht]
    exact h.cnt z m hm
  · obtain ⟨m, hm, e⟩ := hof z n hz
    rw [e]
    exact h.few z m hm
theorem open_some {N : Nat} {D : Dv.St} (hlo : 8 ≤ N) (hhi : N ≤ 40) (hsz : D.size = N) (hon : D.on = true) (hsm : Small D) {b : BgV} (hb : newV D = (b, 0)) (h0 : b.2.1 ≠ 0) (hh : (hgt (gD D) 64 b.2.1).isSome = true) {cs : Nat → RC} {kp : Nat → Bool} (h : OpenedR D b.2.1 N cs kp) :
    ∃ V, openV D = (some V, 0) ∧ OpenV N D b V ∧ SameR N V cs kp := by
  obtain ⟨g, root, note⟩ := b
  have hok := newV_ok hlo hsz hon hb
  obtain ⟨a1, a2, a3⟩ := load_all hhi hsz hon 64 (bareV g root note D) root (bare_loadH N _ _ _ D) (root_named hok.2.2 h0)
  have hz := a3 (Option.isSome_iff_exists.1 hh) (Nat.le_refl _)
  obtain ⟨b1, b2⟩ := a2 hz
  have hkp := keeps_load 64 (bareV g root note D) root
  have e : openV D = openL (loadV 64 (bareV g root note D) root) := by
    unfold openV
    rw [hb]
    refine (show openN D ((g, root, note), 0) = openR (bareV g root note D) by unfold openN; exact if_pos rfl).trans ?_
    exact (show openR (bareV g root note D) = openL (loadV 64 (bareV g root note D) root) by unfold openR; exact if_neg (show ¬ (bareV g root note D).root = 0 from h0))
  rw [e]
  generalize loadV 64 (bareV g root note D) root = r at *
  obtain ⟨E, s⟩ := r
  have hz : E = 0 := hz
  subst hz
  have hiff : ∀ z, (s.nodes z).isSome = true ↔ Hangs (gD D) root z := fun z => (b2 z).trans ⟨fun h => h.elim (fun h => by cases h) fun h => h, .inr⟩
  have hroot : s.root = root := hkp.beg.2.1
  have hacc : Acc N (heldN s.nodes root 1) [] := held_acc b1.g.acc root 1
  obtain ⟨nd, hnd⟩ := Option.isSome_iff_exists.1 ((hiff root).2 (.here _))
  have hdown := hacc.down
  have hnd2 : heldN s.nodes root 1 root = some { nd with held := 1 } := by
    unfold heldN
    rw [if_pos rfl, hnd]
    rfl
  have hkept0 : s.kept = fun _ => false := hkp.kept
  have hkept : ∀ z, keepV (heldN s.nodes root 1) 64 (fun _ => false) root z = true ↔ Hangs (gD D) root z := fun z => by
    constructor
    · refine keepV_least (L := fun z => Hangs (gD D) root z) (fun y m hy hm k hk => ?_) 64 _ root (fun z hz => by cases hz) (.here _) z
      have e1 : ∃ m', s.nodes y = some m' ∧ m'.kids = m.kids := by
        unfold heldN at hm
        split at hm
        · cases hf : s.nodes y with
          | none => rw [hf] at hm; cases hm
          | some m' =>
            rw [hf] at hm
            injection hm with hm
            exact ⟨m', rfl, by rw [← hm]⟩
        · exact ⟨m, hm, rfl⟩
      obtain ⟨m', hm', e2⟩ := e1
      have hg := (b1.g.sub y m' hm').1
      rw [e2] at hg
      exact hy.trans (.step hg hk (.here _))
    · intro hzz
      obtain ⟨c1, c2⟩ := keepV_done hdown 64 (fun _ => false) root _ hnd2 (b1.g.low root nd hnd).2
      have : ∀ x y, Hangs (gD D) x y → keepV (heldN s.nodes root 1) 64 (fun _ => false) root x = true → Hangs (gD D) root x → keepV (heldN s.nodes root 1) 64 (fun _ => false) root y = true := by
        intro x y hxy
        induction hxy with
        | here => intro h _; exact h
        | @step x1 k1 y1 ks1 hg hk _ ih =>
          intro h hrx
          obtain ⟨m, hm⟩ := Option.isSome_iff_exists.1 ((hiff _).2 hrx)
          have hg2 := (b1.g.sub _ m hm).1
          rw [hg] at hg2
          injection hg2 with hg2
          subst hg2
          have hm2 : ∃ m2, heldN s.nodes root 1 x1 = some m2 ∧ m2.kids = m.kids := by
            unfold heldN
            split
            · exact ⟨{ m with held := 1 }, by rw [hm]; rfl, rfl⟩
            · exact ⟨m, hm, rfl⟩
          obtain ⟨m2, hm2, e2⟩ := hm2
          exact ih (c2 _ h rfl m2 hm2 _ (by rw [e2]; exact hk)) (hrx.trans (.step hg hk (.here _)))
      exact this root z hzz c1 (.here _)
  have hV : rootV s = { s with nodes := heldN s.nodes root 1, kept := keepV (heldN s.nodes root 1) 64 (fun _ => false) root } := by
    unfold rootV
    rw [hroot, hkept0]
  refine ⟨rootV s, (by unfold openL; simp), ?_, ?_⟩
  · rw [hV]
    refine ⟨⟨hacc, ?_, ?_, ⟨hlo, hhi⟩, ?_, ⟨?_, ?_⟩, ?_, ?_⟩, hkp.beg.1, hroot, hkp.beg.2.2, b1.g.dev⟩
    · intro z n hz
      have hz : heldN s.nodes root 1 z = some n := hz
      unfold heldN at hz
      split at hz
      · cases hf : s.nodes z with
        | none => rw [hf] at hz; cases hz
        | some m =>
          rw [hf] at hz
          injection hz with hz
          rw [← hz]
          exact b1.g.low z m hf
      · exact b1.g.low z n hz
    · show s.dev.size = N
      rw [b1.g.dev, hsz]
    · show Small s.dev
      rw [b1.g.dev]
      exact hsm
    · show 1 ≤ s.gen
      rw [hkp.beg.1]
      exact hok.1
    · show s.gen ≤ 1 + ((1099511627776 : Nat) : Int)
      rw [hkp.beg.1]
      have : g ≤ 1099511627776 := hok.2.1
      show g ≤ _
      omega
    · intro z n hz
      have hz : heldN s.nodes root 1 z = some n := hz
      unfold heldN at hz
      split at hz
      · cases hf : s.nodes z with
        | none => rw [hf] at hz; cases hz
        | some m =>
          rw [hf] at hz
          injection hz with hz
          rw [← hz]
          show (0 : Int) ≤ 1 ∧ (1 : Int) ≤ ((1099511627776 : Nat) : Int)
          omega
      · have := b1.g.held z n hz
        omega
    · intro z hz
      have hz : keepV (heldN s.nodes root 1) 64 (fun _ => false) root z = true := hz
      exact b1.g.acc.ids z ((hiff z).2 ((hkept z).1 hz))
  · rw [hV]
    have his : ∀ z, ((heldN s.nodes root 1) z).isSome = true ↔ Hangs (gD D) root z := fun z => by rw [heldN_some]; exact hiff z
    have hdec : ∀ i : Nat, Hangs (gD D) root i ∨ ¬ Hangs (gD D) root i := fun i => by
      rcases Bool.eq_false_or_eq_true ((s.nodes i).isSome) with q | q
      · exact .inl ((hiff i).1 q)
      · exact .inr fun hh => by rw [(hiff i).2 hh] at q; cases q
    refine ⟨fun i hi => ?_, fun i hi n hn => ?_, fun i hi => ?_, h.few⟩
    · show (cs i).is = ((heldN s.nodes root 1) i).isSome
      rcases hdec i with q | q
      · rw [(h.yes i hi q).1, (his i).2 q]
      · rw [(h.no i hi q).1]
        cases e : ((heldN s.nodes root 1) i).isSome with
        | true => exact absurd ((his i).1 e) q
        | false => rfl
    · have hn : heldN s.nodes root 1 i = some n := hn
      have q := (his i).1 (by rw [hn]; rfl)
      obtain ⟨_, _, q3, q4⟩ := h.yes i hi q
      obtain ⟨m, hm⟩ := Option.isSome_iff_exists.1 ((hiff i).2 q)
      have hg := (b1.g.sub i m hm).1
      rw [hg] at q3
      injection q3 with q3
      unfold heldN at hn
      split at hn
      · rename_i e
        rw [hm] at hn
        injection hn with hn
        rw [← hn, q4, if_pos e]
        exact ⟨q3, rfl⟩
      · rename_i e
        rw [hm] at hn
        injection hn with hn
        subst hn
        rw [q4, if_neg e]
        exact ⟨q3, b1.g.held i m hm⟩
    · show keepV (heldN s.nodes root 1) 64 (fun _ => false) root i = kp i
      rcases hdec i with q | q
      · rw [(h.yes i hi q).2.1, (hkept i).2 q]
      · rw [(h.no i hi q).2]
        cases e : keepV (heldN s.nodes root 1) 64 (fun _ => false) root i with
        | true => exact absurd ((hkept i).1 e) q
        | false => rfl
theorem open_err {D : Dv.St} (h : (newV D).2 ≠ 0) : openV D = (none, (newV D).2) := by
  unfold openV
  generalize newV D = r at *
  obtain ⟨b, E⟩ := r
  exact if_neg h
end Go.Proofs.YthejlenafjnmkaaGreat.Sto
