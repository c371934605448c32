/- The newest beginning of a device: contract of newest. -/
import Derived.Test.YtidkckapjelbmaaStR
namespace Go.Proofs.Ytidkckapjelbmaa.Sto
open Go.RowKit
open Oct (Has Chg)
open Rws
open Mem (IMap)

def bg0 : BgV := (0, 0, ⟨#[]⟩)
def bgC (b : BgV) : Array Value := #[.int .i64 b.1, .int .i64 b.2.1, .string b.2.2]
def topStep (top : BgV) : Option BgV → BgV
  | some b => if top.1 < b.1 then b else top
  | none => top
def scanV (D : Dv.St) : List Int → BgV → BgV × Int
  | [], top => if top.1 = 0 then (bg0, 2) else (top, 0)
  | i :: l, top => if Dv.rdE D i = 0 then scanV D l (topStep top (parseG D.size (Dv.rdS D i))) else (bg0, Dv.rdE D i)
/-- What newest comes to. -/
def newV (D : Dv.St) : BgV × Int := scanV D [0, 1] bg0
theorem put3 {w : World} {g : Nat} {t : TypeId} {a b c : Value} (h : Has w g t #[a, b, c]) (x y z : Value) : Has (((w.setCell ⟨g, 0, none⟩ x).setCell ⟨g, 1, none⟩ y).setCell ⟨g, 2, none⟩ z) g t #[x, y, z] := Has.put (Has.put (Has.put h 0 x) 1 y) 2 z
theorem keep3 {w : World} {g q : Nat} {t : TypeId} {cs : Array Value} (h : Has w g t cs) (hne : g ≠ q) (x y z : Value) : Has (((w.setCell ⟨q, 0, none⟩ x).setCell ⟨q, 1, none⟩ y).setCell ⟨q, 2, none⟩ z) g t cs := ((h.keep (p := ⟨q, 0, none⟩) hne x).keep (p := ⟨q, 1, none⟩) hne y).keep (p := ⟨q, 2, none⟩) hne z
theorem below3 {B : Nat} {w W : World} (h : Below B w W) {g : Nat} (hg : B ≤ g) (a b c : Value) : Below B w (((W.setCell ⟨g, 0, none⟩ a).setCell ⟨g, 1, none⟩ b).setCell ⟨g, 2, none⟩ c) := ((h.setCell (p := ⟨g, 0, none⟩) hg a).setCell (p := ⟨g, 1, none⟩) hg b).setCell (p := ⟨g, 2, none⟩) hg c
set_option maxRecDepth 100000 in
set_option maxHeartbeats 4000000 in
theorem newest_dev (d dk dd : Nat) (D : Dv.St) (hsm : ∀ i, (Dv.rdS D i).size ≤ 4104) (w : World) (h : Dv.DevIs w d dk dd D) (R : BgV × Int) (hR : newV D = R) :
    Calls Try.prog 43 #[.pointer (some ⟨d, 0, none⟩)] w fun e w' => e = .returned (.tuple #[.agg (bgC R.1), .int .i64 R.2]) ∧ Below w.heap.size w w' := by
  have HH := Lib.hid h
  have HSM := Lib.hid hsm
  have HR := Lib.hid (show scanV D (([0, 1] : List Int).drop 0) bg0 = R from hR)
  have HB0 := Lib.hid (((Below.refl w.heap.size w).alloc (Nat.le_refl _) (.cells #[.int .i64 0, .int .i64 0, .string ⟨#[]⟩] 51)).alloc (by simp) (.cells #[.int .i64 0, .int .i64 0, .string ⟨#[]⟩] 51))
  have HP0 := Lib.hid ((Has.fresh w 51 #[.int .i64 0, .int .i64 0, .string ⟨#[]⟩]).past (.cells #[.int .i64 0, .int .i64 0, .string ⟨#[]⟩] 51))
  have HP1 := Lib.hid (show Has _ (w.heap.size + 1) 51 (bgC bg0) by
    have h := Has.fresh (w.alloc (.cells #[.int .i64 0, .int .i64 0, .string ⟨#[]⟩] 51)) 51 #[.int .i64 0, .int .i64 0, .string ⟨#[]⟩]
    rw [World.size_alloc] at h
    exact h)
  clear h hsm hR
  go_enter Try.func43, Try.ntmps43
  go_wp2_with fail
  go_loopw [10] (fun i wr => ∃ (j : Nat) (top : BgV), j ≤ 2 ∧ i = .int .i64 j ∧ Hid (scanV D (([0, 1] : List Int).drop j) top = R) ∧ Hid (Has wr w.heap.size 51 #[.int .i64 0, .int .i64 0, .string ⟨#[]⟩]) ∧ Hid (Has wr (w.heap.size + 1) 51 (bgC top)) ∧ Hid (Below w.heap.size w wr)) (fun i _ => 2 - (intOf i).toNat)
  case atStart => exact ⟨0, bg0, by omega, rfl, HR, HP0, HP1, HB0⟩
  case round =>
    obtain ⟨j, top, hj, rfl, HV, HP, HT, HB⟩ := hrel
    clear HR HP0 HP1 HB0
    obtain ⟨tg, tr, tt⟩ := top
    by_cases hlt : j < 2
    · obtain ⟨E1, hE1⟩ : ∃ E1, Dv.rdE D j = E1 := ⟨_, rfl⟩
      obtain ⟨bs, hbs⟩ : ∃ bs, Dv.rdS D j = bs := ⟨_, rfl⟩
      have HD := Lib.hid (HH.out.below HB.out)
      have HRD := Lib.hid (Dv.read_all d dk dd D j wr HD.out)
      rw [hE1, hbs] at HRD
      have HS1 := Lib.hid (show bs.size ≤ 4104 by rw [← hbs]; exact HSM.out j)
      have HVN := Lib.hid (show (if E1 = 0 then scanV D (([0, 1] : List Int).drop (j + 1)) (topStep (tg, tr, tt) (parseG D.size bs)) else (bg0, E1)) = R by
        rw [← HV.out, drop_two j hlt]
        show _ = if Dv.rdE D j = 0 then scanV D (([0, 1] : List Int).drop (j + 1)) (topStep (tg, tr, tt) (parseG D.size (Dv.rdS D j))) else (bg0, Dv.rdE D j)
        rw [hE1, hbs])
      clear hE1 hbs HV
      go_wp2_with fail
      refine HRD.out.mono ?_
      rintro e w1 ⟨rfl, hb1⟩
      have HD1 := Lib.hid (HD.out.below hb1)
      have HP1 := Lib.hid (HP.out.over (Chg.of_below hb1 (fun _ => False)) (fun k => k))
      have HT1 := Lib.hid (HT.out.over (Chg.of_below hb1 (fun _ => False)) (fun k => k))
      have HB1 := Lib.hid (HB.out.trans (hb1.mono HB.out.size))
      clear hb1 HD HP HT HB HRD
      by_cases h0 : E1 = 0
      · subst h0
        obtain ⟨ob, hob⟩ : ∃ ob, parseG D.size bs = ob := ⟨_, rfl⟩
        have HV2 := Lib.hid (show scanV D (([0, 1] : List Int).drop (j + 1)) (topStep (tg, tr, tt) ob) = R by rw [← HVN.out, if_pos rfl, hob])
        have HBG := Lib.hid (fun W => begin_of bs HS1.out D.size W ob hob)
        have HSZ := Lib.hid (size_dev d dk dd D w1 HD1.out)
        clear HVN hob
        go_wp2_with fail
        refine HSZ.out.mono ?_
        rintro e w' ⟨rfl, rfl⟩
        go_wp2_with fail
        refine (HBG.out _).mono ?_
        rintro e w2 ⟨hq, hb2⟩
        have HP2 := Lib.hid (HP1.out.over (Chg.of_below hb2 (fun _ => False)) (fun k => k))
        have HT2 := Lib.hid (HT1.out.over (Chg.of_below hb2 (fun _ => False)) (fun k => k))
        have HB2 := Lib.hid (HB1.out.trans (hb2.mono HB1.out.size))
        clear hb2 HP1 HT1 HB1 HSZ HBG HD1
        cases ob with
        | none =>
          have hq : e = .returned (.tuple #[.agg #[.int .i64 0, .int .i64 0, .string ⟨#[]⟩], .bool false]) := hq
          subst hq
          have HP3 := Lib.hid (HP2.out.past (.cells #[.int .i64 0, .int .i64 0, .string ⟨#[]⟩] 51))
          have HT3 := Lib.hid (HT2.out.past (.cells #[.int .i64 0, .int .i64 0, .string ⟨#[]⟩] 51))
          have HB3 := Lib.hid (HB2.out.alloc HB2.out.size (.cells #[.int .i64 0, .int .i64 0, .string ⟨#[]⟩] 51))
          clear HP2 HT2 HB2
          go_wp2
          go_roundw
          case rel => exact ⟨j + 1, (tg, tr, tt), by omega, by go_num, HV2, HP3, HT3, HB3⟩
          case measure => simp [intOf]; omega
        | some b =>
          obtain ⟨g, ro, nt⟩ := b
          have hq : e = .returned (.tuple #[.agg #[.int .i64 g, .int .i64 ro, .string nt], .bool true]) := hq
          subst hq
          have HP3 := Lib.hid (HP2.out.past (.cells #[.int .i64 g, .int .i64 ro, .string nt] 51))
          have HT3 := Lib.hid (HT2.out.past (.cells #[.int .i64 g, .int .i64 ro, .string nt] 51))
          have HB3 := Lib.hid (HB2.out.alloc HB2.out.size (.cells #[.int .i64 g, .int .i64 ro, .string nt] 51))
          have c0 := Has.at_ HT3.out 0
          simp [bgC] at c0
          clear HP2 HT2 HB2
          by_cases hgt : tg < g
          · have HV3 := Lib.hid (show scanV D (([0, 1] : List Int).drop (j + 1)) (g, ro, nt) = R by rw [← HV2.out]; show _ = scanV D _ (if tg < g then (g, ro, nt) else (tg, tr, tt)); rw [if_pos hgt])
            have c1 := Has.at_ HT3.out 1
            have c2 := Has.at_ HT3.out 2
            simp [bgC] at c1 c2
            have f0 := Has.free HT3.out 0
            have f1 := Has.free HT3.out 1
            have f2 := Has.free HT3.out 2
            have HP4 := Lib.hid (keep3 HP3.out (show w.heap.size ≠ w.heap.size + 1 by omega) (.int .i64 g) (.int .i64 ro) (.string nt))
            have HT4 := Lib.hid (show Has _ (w.heap.size + 1) 51 (bgC (g, ro, nt)) from put3 HT3.out (.int .i64 g) (.int .i64 ro) (.string nt))
            have HB4 := Lib.hid (below3 HB3.out (show w.heap.size ≤ w.heap.size + 1 by omega) (.int .i64 g) (.int .i64 ro) (.string nt))
            clear HP3 HT3 HB3 HV2
            go_wp2
            go_roundw
            case rel => exact ⟨j + 1, (g, ro, nt), by omega, by go_num, HV3, HP4, HT4, HB4⟩
            case measure => simp [intOf]; omega
          · have HV3 := Lib.hid (show scanV D (([0, 1] : List Int).drop (j + 1)) (tg, tr, tt) = R by rw [← HV2.out]; show _ = scanV D _ (if tg < g then (g, ro, nt) else (tg, tr, tt)); rw [if_neg hgt])
            clear HV2
            go_wp2
            go_roundw
            case rel => exact ⟨j + 1, (tg, tr, tt), by omega, by go_num, HV3, HP3, HT3, HB3⟩
            case measure => simp [intOf]; omega
      · have hne : (E1 != 0) = true := by simpa using h0
        have HV2 := Lib.hid (show (bg0, E1) = R by rw [← HVN.out, if_neg h0])
        have k0 := Has.at_ HP1.out 0
        have k1 := Has.at_ HP1.out 1
        have k2 := Has.at_ HP1.out 2
        simp at k0 k1 k2
        have f0 := Has.free HP1.out 0
        have f1 := Has.free HP1.out 1
        have f2 := Has.free HP1.out 2
        have h4 := put3 HP1.out (.int .i64 0) (.int .i64 0) (.string ⟨#[]⟩)
        have j0 := Has.at_ h4 0
        have j1 := Has.at_ h4 1
        have j2 := Has.at_ h4 2
        simp at j0 j1 j2
        have HB4 := Lib.hid (below3 HB1.out (Nat.le_refl w.heap.size) (.int .i64 0) (.int .i64 0) (.string ⟨#[]⟩))
        clear h0 HVN h4 HT1 HB1
        go_wp2
        exact bodyPost_ret (v := .tuple #[.agg #[.int .i64 0, .int .i64 0, .string ⟨#[]⟩], .int .i64 E1]) (by simp [results, Try.results43, go_sem, j0, j1, j2]) rfl ⟨by rw [← HV2.out]; rfl, HB4.out⟩
    · have hje : j = 2 := by omega
      subst hje
      have HV1 := Lib.hid (show (if tg = 0 then (bg0, 2) else ((tg, tr, tt), 0)) = R from HV.out)
      have c0 := Has.at_ HT.out 0
      have c1 := Has.at_ HT.out 1
      have c2 := Has.at_ HT.out 2
      simp [bgC] at c0 c1 c2
      have k0 := Has.at_ HP.out 0
      have k1 := Has.at_ HP.out 1
      have k2 := Has.at_ HP.out 2
      simp at k0 k1 k2
      have f0 := Has.free HP.out 0
      have f1 := Has.free HP.out 1
      have f2 := Has.free HP.out 2
      clear HV
      by_cases h0 : tg = 0
      · subst h0
        have HV2 := Lib.hid (show (bg0, 2) = R by rw [← HV1.out, if_pos rfl])
        have h4 := put3 HP.out (.int .i64 0) (.int .i64 0) (.string ⟨#[]⟩)
        have j0 := Has.at_ h4 0
        have j1 := Has.at_ h4 1
        have j2 := Has.at_ h4 2
        simp at j0 j1 j2
        have HB4 := Lib.hid (below3 HB.out (Nat.le_refl w.heap.size) (.int .i64 0) (.int .i64 0) (.string ⟨#[]⟩))
        clear HV1 h4
        go_wp2
        exact bodyPost_ret (v := .tuple #[.agg #[.int .i64 0, .int .i64 0, .string ⟨#[]⟩], .int .i64 2]) (by simp [results, Try.results43, go_sem, j0, j1, j2]) rfl ⟨by rw [← HV2.out]; rfl, HB4.out⟩
      · have hne : (tg == 0) = false := beq_eq_false_iff_ne.2 h0
        have HV2 := Lib.hid (show ((tg, tr, tt), 0) = R by rw [← HV1.out, if_neg h0])
        have h4 := put3 HP.out (.int .i64 tg) (.int .i64 tr) (.string tt)
        have j0 := Has.at_ h4 0
        have j1 := Has.at_ h4 1
        have j2 := Has.at_ h4 2
        simp at j0 j1 j2
        have HB4 := Lib.hid (below3 HB.out (Nat.le_refl w.heap.size) (.int .i64 tg) (.int .i64 tr) (.string tt))
        clear HV1 h4 h0
        go_wp2
        exact bodyPost_ret (v := .tuple #[.agg #[.int .i64 tg, .int .i64 tr, .string tt], .int .i64 0]) (by simp [results, Try.results43, go_sem, j0, j1, j2]) rfl ⟨by rw [← HV2.out]; rfl, HB4.out⟩
end Go.Proofs.Ytidkckapjelbmaa.Sto
