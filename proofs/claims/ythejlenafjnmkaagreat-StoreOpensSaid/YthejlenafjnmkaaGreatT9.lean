import Derived.Test.YthejlenafjnmkaaGreatT8

/- The newest beginning of a device: contract of newest. -/
namespace Go.Proofs.YthejlenafjnmkaaGreat.Sto
open Go.RowKit
open Oct (Has Chg)
open Rws
open Mem (IMap)

def bg0 : BgV := (0, 0, ⟨#[]⟩)
def bgC (b : BgV) : Array Value := #[.int .i64 b.1, .int .i64 b.2.1, .string b.2.2]
def topStep (top : BgV) : Option BgV → BgV
  | some b => if top.1 < b.1 then b else top
  | none => top
def scanV (D : Dv.St) : List Int → BgV → BgV × Int
  | [], top => if top.1 = 0 then (bg0, 2) else (top, 0)
  | i :: l, top => if Dv.rdE D i = 0 then scanV D l (topStep top (parseG D.size (Dv.rdS D i))) else (bg0, Dv.rdE D i)
/-- What newest comes to. -/
def newV (D : Dv.St) : BgV × Int := scanV D [0, 1] bg0
theorem put3 {w : World} {g : Nat} {t : TypeId} {a b c : Value} (h : Has w g t #[a, b, c]) (x y z : Value) : Has (((w.setCell ⟨g, 0, none⟩ x).setCell ⟨g, 1, none⟩ y).setCell ⟨g, 2, none⟩ z) g t #[x, y, z] := Has.put (Has.put (Has.put h 0 x) 1 y) 2 z
theorem keep3 {w : World} {g q : Nat} {t : TypeId} {cs : Array Value} (h : Has w g t cs) (hne : g ≠ q) (x y z : Value) : Has (((w.setCell ⟨q, 0, none⟩ x).setCell ⟨q, 1, none⟩ y).setCell ⟨q, 2, none⟩ z) g t cs := ((h.keep (p := ⟨q, 0, none⟩) hne x).keep (p := ⟨q, 1, none⟩) hne y).keep (p := ⟨q, 2, none⟩) hne z
theorem below3 {B : Nat} {w W : World} (h : Below B w W) {g : Nat} (hg : B ≤ g) (a b c : Value) : Below B w (((W.setCell ⟨g, 0, none⟩ a).setCell ⟨g, 1, none⟩ b).setCell ⟨g, 2, none⟩ c) := ((h.setCell (p := ⟨g, 0, none⟩) hg a).setCell (p := ⟨g, 1, none⟩) hg b).setCell (p := ⟨g, 2, none⟩) hg c
set_option maxRecDepth 100000 in
set_option maxHeartbeats 4000000 in
theorem newest_dev (d dk dd : Nat) (D : Dv.St) (hsm : ∀ i, (Dv.rdS D i).size ≤ 4104) (w : World) (h : Dv.DevIs w d dk dd D) (R : BgV × Int) (hR : newV D = R) :
    Calls Tryz.prog 47 #[.pointer (some ⟨d, 0, none⟩)] w fun e w' => e = .returned (.tuple #[.agg (bgC R.1), .int .i64 R.2]) ∧ Below w.heap.size w w' := by
  have HH := Lib.hid h
  have HSM := Lib.hid hsm
  have HR := Lib.hid (show scanV D (([0, 1] : List Int).drop 0) bg0 = R from hR)
  have HB0 := Lib.hid (((Below.refl w.heap.size w).alloc (Nat.le_refl _) (.cells #[.int .i64 0, .int .i64 0, .string ⟨#[]⟩] 83)).alloc (by simp) (.cells #[.int .i64 0, .int .i64 0, .string ⟨#[]⟩] 83))
  have HP0 := Lib.hid ((Has.fresh w 83 #[.int .i64 0, .int .i64 0, .string ⟨#[]⟩]).past (.cells #[.int .i64 0, .int .i64 0, .string ⟨#[]⟩] 83))
  have HP1 := Lib.hid (show Has _ (w.heap.size + 1) 83 (bgC bg0) by
    have h := Has.fresh (w.alloc (.cells #[.int .i64 0, .int .i64 0, .string ⟨#[]⟩] 83)) 83 #[.int .i64 0, .int .i64 0, .string ⟨#[]⟩]
    rw [World.size_alloc] at h
    exact h)
  clear h hsm hR
  go_enter Tryz.func47, Tryz.ntmps47
  go_wp2_with fail
  go_loopw [10] (fun i wr => ∃ (j : Nat) (top : BgV), j ≤ 2 ∧ i = .int .i64 j ∧ Hid (scanV D (([0, 1] : List Int).drop j) top = R) ∧ Hid (Has wr w.heap.size 83 #[.int .i64 0, .int .i64 0, .string ⟨#[]⟩]) ∧ Hid (Has wr (w.heap.size + 1) 83 (bgC top)) ∧ Hid (Below w.heap.size w wr)) (fun i _ => 2 - (intOf i).toNat)
  case atStart => exact ⟨0, bg0, by omega, rfl, HR, HP0, HP1, HB0⟩
  case round =>
    obtain ⟨j, top, hj, rfl, HV, HP, HT, HB⟩ := hrel
    clear HR HP0 HP1 HB0
    obtain ⟨tg, tr, tt⟩ := top
    by_cases hlt : j < 2
    · obtain ⟨E1, hE1⟩ : ∃ E1, Dv.rdE D j = E1 := ⟨_, rfl⟩
      obtain ⟨bs, hbs⟩ : ∃ bs, Dv.rdS D j = bs := ⟨_, rfl⟩
      have HD := Lib.hid (HH.out.below HB.out)
      have HRD := Lib.hid (Dv.read_all d dk dd D j wr HD.out)
      rw [hE1, hbs] at HRD
      have HS1 := Lib.hid (show bs.size ≤ 4104 by rw [← hbs]; exact HSM.out j)
      have HVN := Lib.hid (show (if E1 = 0 then scanV D (([0, 1] : List Int).drop (j + 1)) (topStep (tg, tr, tt) (parseG D.size bs)) else (bg0, E1)) = R by
        rw [← HV.out, drop_two j hlt]
        show _ = if Dv.rdE D j = 0 then scanV D (([0, 1] : List Int).drop (j + 1)) (topStep (tg, tr, tt) (parseG D.size (Dv.rdS D j))) else (bg0, Dv.rdE D j)
        rw [hE1, hbs])
      clear hE1 hbs HV
      go_wp2_with fail
      refine HRD.out.mono ?_
      rintro e w1 ⟨rfl, hb1⟩
      have HD1 := Lib.hid (HD.out.below hb1)
      have HP1 := Lib.hid (HP.out.over (Chg.of_below hb1 (fun _ => False)) (fun k => k))
      have HT1 := Lib.hid (HT.out.over (Chg.of_below hb1 (fun _ => False)) (fun k => k))
      have HB1 := Lib.hid (HB.out.trans (hb1.mono HB.out.size))
      clear hb1 HD HP HT HB HRD
      by_cases h0 : E1 = 0
      · subst h0
        obtain ⟨ob, hob⟩ : ∃ ob, parseG D.size bs = ob := ⟨_, rfl⟩
        have HV2 := Lib.hid (show scanV D (([0, 1] : List Int).drop (j + 1)) (topStep (tg, tr, tt) ob) = R by rw [← HVN.out, if_pos rfl, hob])
        have HBG := Lib.hid (fun W => begin_of bs HS1.out D.size W ob hob)
        have HSZ := Lib.hid (size_dev d dk dd D w1 HD1.out)
        clear HVN hob
        go_wp2_with fail
        refine HSZ.out.mono ?_
        rintro e w' ⟨rfl, rfl⟩
        go_wp2_with fail
        refine (HBG.out _).mono ?_
        rintro e w2 ⟨hq, hb2⟩
        have HP2 := Lib.hid (HP1.out.over (Chg.of_below hb2 (fun _ => False)) (fun k => k))
        have HT2 := Lib.hid (HT1.out.over (Chg.of_below hb2 (fun _ => False)) (fun k => k))
        have HB2 := Lib.hid (HB1.out.trans (hb2.mono HB1.out.size))
        clear hb2 HP1 HT1 HB1 HSZ HBG HD1
        cases ob with
        | none =>
          have hq : e = .returned (.tuple #[.agg #[.int .i64 0, .int .i64 0, .string ⟨#[]⟩], .bool false]) := hq
          subst hq
          have HP3 := Lib.hid (HP2.out.past (.cells #[.int .i64 0, .int .i64 0, .string ⟨#[]⟩] 83))
          have HT3 := Lib.hid (HT2.out.past (.cells #[.int .i64 0, .int .i64 0, .string ⟨#[]⟩] 83))
          have HB3 := Lib.hid (HB2.out.alloc HB2.out.size (.cells #[.int .i64 0, .int .i64 0, .string ⟨#[]⟩] 83))
          clear HP2 HT2 HB2
          go_wp2
          go_roundw
          case rel => exact ⟨j + 1, (tg, tr, tt), by omega, by go_num, HV2, HP3, HT3, HB3⟩
          case measure => simp [intOf]; omega
        | some b =>
          obtain ⟨g, ro, nt⟩ := b
          have hq : e = .returned (.tuple #[.agg #[.int .i64 g, .int .i64 ro, .string nt], .bool true]) := hq
          subst hq
          have HP3 := Lib.hid (HP2.out.past (.cells #[.int .i64 g, .int .i64 ro, .string nt] 83))
          have HT3 := Lib.hid (HT2.out.past (.cells #[.int .i64 g, .int .i64 ro, .string nt] 83))
          have HB3 := Lib.hid (HB2.out.alloc HB2.out.size (.cells #[.int .i64 g, .int .i64 ro, .string nt] 83))
          have c0 := Has.at_ HT3.out 0
          simp [bgC] at c0
          clear HP2 HT2 HB2
          by_cases hgt : tg < g
          · have HV3 := Lib.hid (show scanV D (([0, 1] : List Int).drop (j + 1)) (g, ro, nt) = R by rw [← HV2.out]; show _ = scanV D _ (if tg < g then (g, ro, nt) else (tg, tr, tt)); rw [if_pos hgt])
            have c1 := Has.at_ HT3.out 1
            have c2 := Has.at_ HT3.out 2
            simp [bgC] at c1 c2
            have f0 := Has.free HT3.out 0
            have f1 := Has.free HT3.out 1
            have f2 := Has.free HT3.out 2
            have HP4 := Lib.hid (keep3 HP3.out (show w.heap.size ≠ w.heap.size + 1 by omega) (.int .i64 g) (.int .i64 ro) (.string nt))
            have HT4 := Lib.hid (show Has _ (w.heap.size + 1) 83 (bgC (g, ro, nt)) from put3 HT3.out (.int .i64 g) (.int .i64 ro) (.string nt))
            have HB4 := Lib.hid (below3 HB3.out (show w.heap.size ≤ w.heap.size + 1 by omega) (.int .i64 g) (.int .i64 ro) (.string nt))
            clear HP3 HT3 HB3 HV2
            go_wp2
            go_roundw
            case rel => exact ⟨j + 1, (g, ro, nt), by omega, by go_num, HV3, HP4, HT4, HB4⟩
            case measure => simp [intOf]; omega
          · have HV3 := Lib.hid (show scanV D (([0, 1] : List Int).drop (j + 1)) (tg, tr, tt) = R by rw [← HV2.out]; show _ = scanV D _ (if tg < g then (g, ro, nt) else (tg, tr, tt)); rw [if_neg hgt])
            clear HV2
            go_wp2
            go_roundw
            case rel => exact ⟨j + 1, (tg, tr, tt), by omega, by go_num, HV3, HP3, HT3, HB3⟩
            case measure => simp [intOf]; omega
      · have hne : (E1 != 0) = true := by simpa using h0
        have HV2 := Lib.hid (show (bg0, E1) = R by rw [← HVN.out, if_neg h0])
        have k0 := Has.at_ HP1.out 0
        have k1 := Has.at_ HP1.out 1
        have k2 := Has.at_ HP1.out 2
        simp at k0 k1 k2
        have f0 := Has.free HP1.out 0
        have f1 := Has.free HP1.out 1
        have f2 := Has.free HP1.out 2
        have h4 := put3 HP1.out (.int .i64 0) (.int .i64 0) (.string ⟨#[]⟩)
        have j0 := Has.at_ h4 0
        have j1 := Has.at_ h4 1
        have j2 := Has.at_ h4 2
        simp at j0 j1 j2
        have HB4 := Lib.hid (below3 HB1.out (Nat.le_refl w.heap.size) (.int .i64 0) (.int .i64 0) (.string ⟨#[]⟩))
        clear h0 HVN h4 HT1 HB1
        go_wp2
        exact bodyPost_ret (v := .tuple #[.agg #[.int .i64 0, .int .i64 0, .string ⟨#[]⟩], .int .i64 E1]) (by simp [results, Tryz.results47, go_sem, j0, j1, j2]) rfl ⟨by rw [← HV2.out]; rfl, HB4.out⟩
    · have hje : j = 2 := by omega
      subst hje
      have HV1 := Lib.hid (show (if tg = 0 then (bg0, 2) else ((tg, tr, tt), 0)) = R from HV.out)
      have c0 := Has.at_ HT.out 0
      have c1 := Has.at_ HT.out 1
      have c2 := Has.at_ HT.out 2
      simp [bgC] at c0 c1 c2
      have k0 := Has.at_ HP.out 0
      have k1 := Has.at_ HP.out 1
      have k2 := Has.at_ HP.out 2
      simp at k0 k1 k2
      have f0 := Has.free HP.out 0
      have f1 := Has.free HP.out 1
      have f2 := Has.free HP.out 2
      clear HV
      by_cases h0 : tg = 0
      · subst h0
        have HV2 := Lib.hid (show (bg0, 2) = R by rw [← HV1.out, if_pos rfl])
        have h4 := put3 HP.out (.int .i64 0) (.int .i64 0) (.string ⟨#[]⟩)
        have j0 := Has.at_ h4 0
        have j1 := Has.at_ h4 1
        have j2 := Has.at_ h4 2
        simp at j0 j1 j2
        have HB4 := Lib.hid (below3 HB.out (Nat.le_refl w.heap.size) (.int .i64 0) (.int .i64 0) (.string ⟨#[]⟩))
        clear HV1 h4
        go_wp2
        exact bodyPost_ret (v := .tuple #[.agg #[.int .i64 0, .int .i64 0, .string ⟨#[]⟩], .int .i64 2]) (by simp [results, Tryz.results47, go_sem, j0, j1, j2]) rfl ⟨by rw [← HV2.out]; rfl, HB4.out⟩
      · have hne : (tg == 0) = false := beq_eq_false_iff_ne.2 h0
        have HV2 := Lib.hid (show ((tg, tr, tt), 0) = R by rw [← HV1.out, if_neg h0])
        have h4 := put3 HP.out (.int .i64 tg) (.int .i64 tr) (.string tt)
        have j0 := Has.at_ h4 0
        have j1 := Has.at_ h4 1
        have j2 := Has.at_ h4 2
        simp at j0 j1 j2
        have HB4 := Lib.hid (below3 HB.out (Nat.le_refl w.heap.size) (.int .i64 tg) (.int .i64 tr) (.string tt))
        clear HV1 h4 h0
        go_wp2
        exact bodyPost_ret (v := .tuple #[.agg #[.int .i64 tg, .int .i64 tr, .string tt], .int .i64 0]) (by simp [results, Tryz.results47, go_sem, j0, j1, j2]) rfl ⟨by rw [← HV2.out]; rfl, HB4.out⟩
end Go.Proofs.YthejlenafjnmkaaGreat.Sto
/- The store that lies on a device: contract of Open. -/
namespace Go.Proofs.YthejlenafjnmkaaGreat.Sto
open Go.RowKit
open Oct (Has Chg)
open Rws
open Mem (IMap)

theorem heldN_down {f : Int → Option NodeV} (h : Down f) (k q : Int) : Down (heldN f k q) := by
  intro z n hz
  have e : ∃ m, f z = some m ∧ n.high = m.high ∧ n.kids = m.kids := by
    unfold heldN at hz
    split at hz
    · cases hf : f z with
      | none => rw [hf] at hz; cases hz
      | some m =>
        rw [hf] at hz
        injection hz with hz
        exact ⟨m, rfl, by rw [← hz], by rw [← hz]⟩
    · exact ⟨n, hz, rfl, rfl⟩
  obtain ⟨m, e1, e2, e3⟩ := e
  obtain ⟨h1, h2, h3⟩ := h z m e1
  refine ⟨by rw [e2]; exact h1, by rw [e3]; exact h2, fun x hx => ?_⟩
  rw [e3] at hx
  obtain ⟨y, y1, y2⟩ := h3 x hx
  unfold heldN
  split
  · exact ⟨_, by rw [y1]; rfl, by rw [e2]; exact y2⟩
  · exact ⟨y, y1, by rw [e2]; exact y2⟩
theorem below_chg {S : Nat → Prop} {B : Nat} {a w w' : World} (h : Below B a w) (hB : B ≤ w.heap.size) (hc : Chg S w w') (hs : ∀ k, S k → B ≤ k) : Below B a w' :=
  ⟨hc.os.trans h.os, hc.tape.trans h.tape, hc.output.trans h.output, Nat.le_trans h.size hc.size, fun i hi => (hc.block i (by omega) (fun k => by have := hs i k; omega)).trans (h.block i hi)⟩
/-- The root is held once, and kept with all below it. -/
def rootV (s : SV) : SV := { s with nodes := heldN s.nodes s.root 1, kept := keepV (heldN s.nodes s.root 1) 64 s.kept s.root }
def openL : Int × SV → Option SV × Int
  | (E, s) => if E = 0 then (some (rootV s), 0) else (none, E)
def openR (s : SV) : Option SV × Int := if s.root = 0 then (some s, 0) else openL (loadV 64 s s.root)
def openN (D : Dv.St) : BgV × Int → Option SV × Int
  | (b, E) => if E = 0 then openR (bareV b.1 b.2.1 b.2.2 D) else (none, E)
/-- What Open comes to. -/
def openV (D : Dv.St) : Option SV × Int := openN D (newV D)
def OOut (r : Option SV × Int) (d dk dd : Nat) (D : Dv.St) (B : Nat) (e : Ending) (w' : World) : Prop :=
  match r with
  | (some V, E) => ∃ p F, e = .returned (.tuple #[.pointer (some ⟨p, 0, none⟩), .int .i64 E]) ∧ Laid B V d dk dd p F w'
  | (none, E) => e = .returned (.tuple #[.pointer none, .int .i64 E]) ∧ Dv.DevIs w' d dk dd D
set_option maxRecDepth 100000 in
set_option maxHeartbeats 4000000 in
theorem open_dev (d dk dd : Nat) (D : Dv.St) (hsz : D.size ≠ 0) (hsm : ∀ i, (Dv.rdS D i).size ≤ 4104) (hdn : ∀ b, newV D = (b, 0) → b.2.1 ≠ 0 → ∀ s1, loadV 64 (bareV b.1 b.2.1 b.2.2 D) b.2.1 = (0, s1) → Down s1.nodes) (w : World) (h : Dv.DevIs w d dk dd D) (R : Option SV × Int) (hR : openV D = R) :
    Calls Tryz.prog 18 #[.pointer (some ⟨d, 0, none⟩)] w fun e w' => OOut R d dk dd D w.heap.size e w' ∧ Below w.heap.size w w' := by
  have HSZ := Lib.hid (size_dev d dk dd D w h)
  have t1 : (((D.size : Nat) : Int) == 0) = false := beq_eq_false_iff_ne.2 (by omega)
  have HH := Lib.hid h
  have HSM := Lib.hid hsm
  have HDN := Lib.hid hdn
  obtain ⟨b, E1, hb⟩ : ∃ b E1, newV D = (b, E1) := ⟨_, _, rfl⟩
  obtain ⟨g, ro, nt⟩ := b
  have HNW := Lib.hid (newest_dev d dk dd D hsm w h _ hb)
  have HR := Lib.hid (show (if E1 = 0 then openR (bareV g ro nt D) else (none, E1)) = R by rw [← hR]; unfold openV; rw [hb]; rfl)
  have HNV := Lib.hid hb
  clear h hsm hdn hR hsz hb
  go_enter Tryz.func18, Tryz.ntmps18
  go_wp2_with fail
  refine HSZ.out.mono ?_
  rintro e w' ⟨rfl, rfl⟩
  go_wp2_with fail
  refine HNW.out.mono ?_
  rintro e w1 ⟨rfl, hb1⟩
  have HB1 := Lib.hid hb1
  have HB2 := Lib.hid (hb1.alloc hb1.size (.cells #[.int .i64 g, .int .i64 ro, .string nt] 83))
  clear hb1 HSZ HNW
  by_cases h0 : E1 = 0
  · subst h0
    have HR1 := Lib.hid (show openR (bareV g ro nt D) = R by rw [← HR.out, if_pos rfl])
    have HO := Lib.hid (over_sto g ro nt d dk dd D _ (HH.out.below HB2.out))
    clear HR
    simp only [bgC]
    go_wp2_with fail
    refine HO.out.mono ?_
    rintro e w2 ⟨p, F, rfl, hst, e1, e2, e3, e4, e5, e6, e7⟩
    have hz : (w1.alloc (.cells #[.int .i64 g, .int .i64 ro, .string nt] 83)).heap.size = w1.heap.size + 1 := by simp
    have hz2 := HB1.out.size
    have HL := Lib.hid (show Laid w.heap.size (bareV g ro nt D) d dk dd p F w2 from ⟨hst, e1, e2, e3, by omega, by omega, by omega⟩)
    have HB3 := Lib.hid (HB2.out.trans (e7.mono (by omega)))
    have c1 := Has.at_ hst.obj 1
    simp [bareV] at c1
    clear hst e1 e2 e3 e4 e5 e6 e7 hz hz2 HO
    by_cases hr : ro = 0
    · subst hr
      have HR2 := Lib.hid (show (some (bareV g 0 nt D), 0) = R by rw [← HR1.out]; exact (if_pos rfl).symm)
      clear HR1
      go_wp2
      go_ret2
      exact ⟨by rw [← HR2.out]; exact ⟨p, F, rfl, HL.out⟩, HB3.out⟩
    · have hne : (ro == 0) = false := beq_eq_false_iff_ne.2 hr
      obtain ⟨E2, s1, hE⟩ : ∃ E2 s1, loadV 64 (bareV g ro nt D) ro = (E2, s1) := ⟨_, _, rfl⟩
      have HR2 := Lib.hid (show openL (E2, s1) = R by
        rw [← HR1.out, ← hE]
        exact (if_neg hr).symm)
      have HLD := Lib.hid (load_sto p 64 F (bareV g ro nt D) (fun z n hz => by cases hz) HSM.out (by omega) ro w2 HL.out.is)
      rw [hE] at HLD
      have HKP := Lib.hid (show Keeps (bareV g ro nt D) s1 by have := keeps_load 64 (bareV g ro nt D) ro; rw [hE] at this; exact this)
      clear HR1
      go_wp2_with fail
      refine HLD.out.mono ?_
      rintro e w3 ⟨rfl, F3, hg⟩
      have HB4 := Lib.hid (below_chg HB3.out (by have := HB3.out.size; omega) hg.chg (fun k hk => by
        rcases hk with e | ⟨z, e, _⟩
        · rw [e]
          exact HL.out.t
        · cases e))
      have HG := Lib.hid hg
      clear hg HLD
      by_cases h0 : E2 = 0
      · subst h0
        have HR3 := Lib.hid (show (some (rootV s1), 0) = R by rw [← HR2.out]; rfl)
        have hth := there_load 64 (bareV g ro nt D) ro
        rw [hE] at hth
        obtain ⟨nd, hnd⟩ := Option.isSome_iff_exists.1 (hth rfl)
        have hro : s1.root = ro := HKP.out.beg.2.1
        have hi := HG.out.is
        have c1 := Has.at_ hi.obj 1
        have c4 := Has.at_ hi.obj 4
        simp [hro] at c1 c4
        have hl := ((hi.there.below ((Below.refl w3.heap.size w3).drew)).lookup mapN Dv.intT (.pointer none) zero_node ro).1
        have e1 : (thereM F3 s1.nodes ro).getD (.pointer none) = .pointer (some ⟨F3.g ro, 0, none⟩) := by unfold thereM; rw [hnd]; rfl
        rw [e1] at hl
        obtain ⟨A2, c2, q1, q2⟩ := hi.node ro nd hnd
        have k2 := Has.at_ q1 3
        have k3 := Has.free q1 3
        simp [nodeC] at k2
        have HE := Lib.hid ((hi.below ((Below.refl w3.heap.size w3).drew)).holds hnd 1)
        have HGE := Lib.hid (show w.heap.size ≤ F3.g ro by
          have h1 := HB3.out.size
          rcases HG.out.old ro (by rw [hnd]; rfl) with ⟨e, _⟩ | e
          · cases e
          · omega)
        have HB5 := Lib.hid ((HB4.out.drew).setCell (p := ⟨F3.g ro, 3, none⟩) HGE.out (.int .i64 1))
        have HND := Lib.hid (show heldN s1.nodes ro 1 ro = some { nd with held := 1 } by
          unfold heldN
          rw [if_pos rfl, hnd]
          rfl)
        have HHI := Lib.hid ((HKP.out.low (fun z n hz => by cases hz)) ro nd hnd).2
        have HRV := Lib.hid (show rootV s1 = { s1 with nodes := heldN s1.nodes ro 1, kept := keepV (heldN s1.nodes ro 1) 64 s1.kept ro } by
          unfold rootV
          rw [hro])
        have HKE := Lib.hid (keep_sto p F3 64 { s1 with nodes := heldN s1.nodes ro 1 } (heldN_down (HDN.out (g, ro, nt) HNV.out hr s1 hE) ro 1) ro _ HND.out HHI.out _ HE.out)
        have e1 := Has.at_ HE.out.obj 1
        simp [hro] at e1
        clear hi q1 q2 hth HR2 hro hnd hE
        generalize F3.g ro = G at *
        go_wp2_with fail
        go_region
        go_wp2_with fail
        refine HKE.out.mono ?_
        rintro e w4 ⟨rfl, h4, c4⟩
        have HL4 := Lib.hid (show Laid w.heap.size (rootV s1) d dk dd p F3 w4 from ⟨by rw [HRV.out]; exact h4, HG.out.d.trans HL.out.d, HG.out.dk.trans HL.out.dk, HG.out.dd.trans HL.out.dd, HL.out.p, by rw [HG.out.t]; exact HL.out.t, by rw [HG.out.k]; exact HL.out.k⟩)
        have HB6 := Lib.hid (below_chg HB5.out HB5.out.size c4 (fun k hk => by
          rw [hk, HG.out.k]
          exact HL.out.k))
        clear h4 c4 HKE HE
        go_wp2
        go_ret2
        exact ⟨by rw [← HR3.out]; exact ⟨p, F3, rfl, HL4.out⟩, HB6.out⟩
      · have hne : (E2 != 0) = true := by simpa using h0
        have HR3 := Lib.hid (show (none, E2) = R by rw [← HR2.out]; exact (if_neg h0).symm)
        have HD := Lib.hid (HH.out.below HB4.out)
        clear h0 HR2
        go_wp2
        go_ret2
        exact ⟨by rw [← HR3.out]; exact ⟨rfl, HD.out⟩, HB4.out⟩
  · have hne : (E1 != 0) = true := by simpa using h0
    have HR1 := Lib.hid (show (none, E1) = R by rw [← HR.out, if_neg h0])
    have HD := Lib.hid (HH.out.below HB2.out)
    clear h0 HR
    simp only [bgC]
    go_wp2
    go_ret2
    exact ⟨by rw [← HR1.out]; exact ⟨rfl, HD.out⟩, HB2.out⟩
end Go.Proofs.YthejlenafjnmkaaGreat.Sto
/- How many blocks are free: contract of Free. -/
namespace Go.Proofs.YthejlenafjnmkaaGreat.Sto
open Go.RowKit
open Oct (Has Chg)
open Rws
open Mem (IMap Rng cntLeft)

def keyZ : Value → Int
  | .int _ z => z
  | _ => 0
/-- What lies in a map, as a row of numbers. -/
theorem map_keys {w : World} {b : Nat} {m : Int → Option Value} (h : IMap w b m) : ∃ es c, w.heap[b]? = some (.map es c) ∧ ∃ ks : List Int, es.size = ks.length ∧ ks.Nodup ∧ ∀ z, z ∈ ks ↔ (m z).isSome = true := by
  obtain ⟨es, c, h1, h2, h3⟩ := h
  have e : es.toList.map (·.key) = (es.toList.map fun x => keyZ x.key).map (Value.int .i64) := by
    rw [List.map_map]
    refine List.map_congr_left fun x hx => ?_
    obtain ⟨z, hz⟩ := h2.keys x hx
    simp [hz, keyZ]
  refine ⟨es, c, h1, es.toList.map fun x => keyZ x.key, by simp, ?_, fun z => ?_⟩
  · have hn := h2.once
    rw [e] at hn
    exact List.Pairwise.imp (fun h k => h (by rw [k])) (List.pairwise_map.1 hn)
  · rw [← h3 z]
    constructor
    · intro hz
      obtain ⟨x, hx, hk⟩ := List.mem_map.1 hz
      obtain ⟨y, hy⟩ := h2.keys x hx
      rw [hy] at hk
      have hk : y = z := hk
      subst hk
      rw [Mem.mget_mem h2.once hx hy]
      rfl
    · intro hz
      rcases Mem.find_at h2 z with ⟨_, f2, _⟩ | ⟨j, x, _, f4, f5, _⟩
      · rw [f2] at hz; cases hz
      · exact List.mem_map.2 ⟨x, List.mem_of_getElem? f4, by rw [f5]; rfl⟩
theorem keptM_some (f : Int → Bool) (z : Int) : (keptM f z).isSome = f z := by
  unfold keptM
  split
  · rename_i h
    rw [h]
    rfl
  · rename_i h
    simp at h
    rw [h]
    rfl
theorem thereM_some (F : Fr) (f : Int → Option NodeV) (z : Int) : (thereM F f z).isSome = (f z).isSome := by
  unfold thereM
  cases f z <;> rfl
/-- What Free answers. -/
def FreeIs (s : SV) (e : Ending) : Prop := ∃ ks ls : List Int, ks.Nodup ∧ (∀ z, z ∈ ks ↔ (s.nodes z).isSome = true) ∧ ls.Nodup ∧ (∀ z, z ∈ ls ↔ s.kept z = true ∧ (s.nodes z).isSome = false) ∧
  e = .returned (.int .i64 (wrap64 ((s.dev.size : Int) - 2 - ks.length - ls.length)))
set_option maxRecDepth 100000 in
set_option maxHeartbeats 4000000 in
theorem free_any (p : Nat) (F : Fr) (s : SV) (w : World) (h : StoIs w p F s) :
    Calls Tryz.prog 27 #[.pointer (some ⟨p, 0, none⟩)] w fun e w' => FreeIs s e ∧ Below w.heap.size w w' := by
  have HM := Lib.hid (made_sto p F s w h)
  have HH := Lib.hid h
  obtain ⟨es, c, hmap, ks, hsz, hnd, hks⟩ := map_keys h.there
  have HKS := Lib.hid (show ks.Nodup ∧ ∀ z, z ∈ ks ↔ (s.nodes z).isSome = true from ⟨hnd, fun z => by rw [hks z, thereM_some]⟩)
  have c3 := Has.at_ h.obj 3
  have c4 := Has.at_ h.obj 4
  simp at c3 c4
  have hlen : ∀ ty, (Builtin.len_ #[85] ty #[.map (some F.t)]).run Tryz.prog w.drew = .ok (goInt ks.length) w.drew := fun ty => by
    rw [← hsz]
    exact run_len_map w.drew _ ty F.t es c (by have := mapN; simp [Program.mapKeyOf, Program.mapElemOf, this]) hmap
  have HSZ := Lib.hid (fun W (hW : StoIs W p F s) => size_dev F.d F.dk F.dd s.dev W hW.dev)
  have c5 := Has.at_ h.obj 5
  simp at c5
  obtain ⟨w2, hr, hR, hB, hz⟩ := (h.kept.drew).range mapK
  have hr : (Instr.range 86 (.map (some F.k))).run Tryz.prog w.drew = .ok (.pointer (some ⟨w.heap.size, 0, none⟩)) w2 := hr
  have HR := Lib.hid (show Rng w2 F.k w.heap.size (keptM s.kept) _ from hR)
  have HB := Lib.hid (show Below w.heap.size w w2 from ⟨hB.os, hB.tape, hB.output, hB.size, hB.block⟩)
  have HZ := Lib.hid (show w2.heap.size = w.heap.size + 1 from hz)
  clear h hnd hks hmap hsz hR hB hz
  go_enter Tryz.func27, Tryz.ntmps27
  go_wp2_with fail
  refine HM.out.mono ?_
  rintro e w' ⟨rfl, rfl⟩
  go_wp2_with fail
  go_region_with (refine (HSZ.out _ (HH.out.below ((Below.refl _ _).drew))).mono ?_; rintro e w' ⟨rfl, rfl⟩)
  all_goals go_wp2_with fail
  all_goals
    go_loopw [3] (fun v wr => ∃ (left : Int → Prop) (ls : List Int), v = .int .i64 (wrap64 ((s.dev.size : Int) - 2 - ks.length - ls.length)) ∧ Hid (Rng wr F.k w.heap.size (keptM s.kept) left) ∧ Hid (ls.Nodup ∧ ∀ z, z ∈ ls ↔ s.kept z = true ∧ (s.nodes z).isSome = false ∧ ¬ left z) ∧ Hid (Below w.heap.size w wr)) (fun _ wr => cntLeft wr F.k w.heap.size)
    case atStart => exact ⟨_, [], congrArg (Value.int .i64) (by rw [List.length_nil]; unfold wrap64; omega), HR, Lib.hid ⟨List.nodup_nil, fun z => ⟨(fun h => by cases h), fun ⟨a, _, c⟩ => absurd (by rw [keptM_some]; exact a) c⟩⟩, HB⟩
    case round =>
      obtain ⟨left, ls, rfl, HRg, HLS, HBW⟩ := hrel
      rcases HRg.out.next (P := Tryz.prog) with ⟨hno, hnx⟩ | ⟨z, v, w3, hm, hl, hnx, hen, hR3, g3, z3, hlt⟩
      · have HNO := Lib.hid hno
        clear hno
        go_wp2
        go_ret
        exact ⟨⟨ks, ls, HKS.out.1, HKS.out.2, HLS.out.1, fun z => ⟨fun h => ⟨((HLS.out.2 z).1 h).1, ((HLS.out.2 z).1 h).2.1⟩, fun h => (HLS.out.2 z).2 ⟨h.1, h.2, HNO.out z⟩⟩, rfl⟩, HBW.out⟩
      · have HB3 := Lib.hid (below_chg HBW.out (HBW.out.size) (Oct.Chg.of g3) (fun k hk => by rw [hk]; exact Nat.le_refl _))
        have HS := Lib.hid (has_sto p F s z w3 (HH.out.below HB3.out))
        have HR3 := Lib.hid hR3
        have HLT := Lib.hid hlt
        have HL := Lib.hid hl
        have HKZ := Lib.hid (show s.kept z = true by have h := keptM_some s.kept z; rw [hm] at h; exact h.symm)
        clear hR3 g3 z3 hlt hl hm HRg HBW
        cases hq : (s.nodes z).isSome with
        | true =>
          rw [hq] at HS
          have HLS3 := Lib.hid (show ls.Nodup ∧ ∀ y, y ∈ ls ↔ s.kept y = true ∧ (s.nodes y).isSome = false ∧ ¬ (left y ∧ y ≠ z) from ⟨HLS.out.1, fun y => by
            rw [HLS.out.2 y]
            constructor
            · rintro ⟨a, b, c⟩
              exact ⟨a, b, fun k => c k.1⟩
            · rintro ⟨a, b, c⟩
              refine ⟨a, b, fun k => c ⟨k, ?_⟩⟩
              rintro rfl
              rw [hq] at b
              cases b⟩)
          clear hq HLS
          go_wp2_with fail
          refine HS.out.mono ?_
          rintro e w' ⟨rfl, rfl⟩
          go_wp2
          go_roundw
          case rel => exact ⟨_, ls, rfl, HR3, HLS3, HB3⟩
          case measure => exact HLT.out
        | false =>
          rw [hq] at HS
          have HLS3 := Lib.hid (show (z :: ls).Nodup ∧ ∀ y, y ∈ z :: ls ↔ s.kept y = true ∧ (s.nodes y).isSome = false ∧ ¬ (left y ∧ y ≠ z) from ⟨List.nodup_cons.2 ⟨fun k => ((HLS.out.2 z).1 k).2.2 HL.out, HLS.out.1⟩, fun y => by
            rw [List.mem_cons, HLS.out.2 y]
            constructor
            · rintro (e | ⟨a, b, c⟩)
              · rw [e]
                exact ⟨HKZ.out, hq, fun k => k.2 rfl⟩
              · exact ⟨a, b, fun k => c k.1⟩
            · rintro ⟨a, b, c⟩
              by_cases e : y = z
              · exact .inl e
              · exact .inr ⟨a, b, fun k => c ⟨k, e⟩⟩⟩)
          clear hq HLS
          go_wp2_with fail
          refine HS.out.mono ?_
          rintro e w' ⟨rfl, rfl⟩
          go_wp2
          go_roundw
          case rel => exact ⟨_, z :: ls, congrArg (Value.int .i64) (by rw [List.length_cons]; unfold wrap64; omega), HR3, HLS3, HB3⟩
          case measure => exact HLT.out
end Go.Proofs.YthejlenafjnmkaaGreat.Sto
