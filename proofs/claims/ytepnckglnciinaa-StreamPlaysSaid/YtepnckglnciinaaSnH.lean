/- The document's Get of changes. -/
import Derived.Test.YtepnckglnciinaaSnG
namespace Go.Proofs.Ytepnckglnciinaa.Sm
open Go.RowKit
open Go.Proofs.Ytepnckglnciinaa.Oct (Has Chg gotNum gotText)
open Go.Proofs.Ytepnckglnciinaa.Vc (Rye)
set_option linter.unusedVariables false

def szE : ES → Nat
  | none => 0
  | some r => r.size
theorem rn_bound (st : ES) (k : Int) : 0 ≤ (rnE st k).1 ∧ (rnE st k).1 < 9223372036854775808 := by
  cases st with
  | none => show (0 : Int) ≤ 0 ∧ (0 : Int) < 9223372036854775808; exact ⟨by decide, by decide⟩
  | some r =>
    cases h : gotNum r k with
    | txt t q => exact (gotNum_txt h).elim
    | bad q y => have e : rnE (some r) k = (0, none) := by simp only [rnE, h]
                 rw [e]; exact ⟨by decide, by decide⟩
    | num v q =>
      have e : rnE (some r) k = (v, some q) := by simp only [rnE, h]
      obtain ⟨m, hm, hm2⟩ := gotNum_nat h
      rw [e]
      dsimp only
      omega
theorem rn_none {r : ByteArray} {k : Int} (h : (rnE (some r) k).2 = none) : (rnE (some r) k).1 = 0 := by
  cases hg : gotNum r k with
  | txt t q => exact (gotNum_txt hg).elim
  | bad q y => have e : rnE (some r) k = (0, none) := by simp only [rnE, hg]
               rw [e]
  | num v q => have e : rnE (some r) k = (v, some q) := by simp only [rnE, hg]
               rw [e] at h; cases h
theorem rn_less (r : ByteArray) (k : Int) : szE (rnE (some r) k).2 + k.toNat ≤ r.size ∨ (rnE (some r) k).2 = none := by
  cases hg : gotNum r k with
  | txt t q => exact (gotNum_txt hg).elim
  | bad q y => have e : rnE (some r) k = (0, none) := by simp only [rnE, hg]
               rw [e]; exact .inr rfl
  | num v q => have e : rnE (some r) k = (v, some q) := by simp only [rnE, hg]
               rw [e]; exact .inl (got_less r k v q hg)
theorem rt_less (st : ES) (k : Int) : szE (rtE st k).2 ≤ szE st := by
  cases st with
  | none => exact Nat.le_refl _
  | some r =>
    cases hg : gotText r k with
    | num v q => exact (gotText_num hg).elim
    | bad q y => have e : rtE (some r) k = (⟨#[]⟩, none) := by simp only [rtE, hg]
                 rw [e]; exact Nat.zero_le _
    | txt t q => have e : rtE (some r) k = (t, some q) := by simp only [rtE, hg]
                 rw [e]; exact got_lessT hg
theorem rt_size (st : ES) (k : Int) (hk : 0 ≤ k) : ((rtE st k).1.size : Int) ≤ k := by
  cases st with
  | none => show ((⟨#[]⟩ : ByteArray).size : Int) ≤ k; exact hk
  | some r =>
    cases hg : gotText r k with
    | num v q => exact (gotText_num hg).elim
    | bad q y => have e : rtE (some r) k = (⟨#[]⟩, none) := by simp only [rtE, hg]
                 rw [e]; exact hk
    | txt t q =>
      have e : rtE (some r) k = (t, some q) := by simp only [rtE, hg]
      rw [e]
      unfold gotText at hg
      split at hg
      · split at hg
        · split at hg
          · injection hg with hg _
            subst hg
            dsimp only
            rw [ByteArray.size_extract]
            omega
          · cases hg
        · cases hg
      · cases hg
structure GI (w wr : World) (s : ByteArray) (u : Value) (acc : List ChgP) (st st0 : ES) (M : Int) (j : Nat) : Prop where
  below : Below w.heap.size w wr
  eye : RyeS wr w.heap.size s st
  row : COwn wr (w.heap.size + 1) u acc
  lo : w.heap.size + 1 ≤ wr.heap.size
  is : loopE (M - j).toNat st acc = loopE M.toNat st0 []
  few : acc.length + szE st ≤ s.size
  keys : ∀ c ∈ acc, c.key.size ≤ 64
  ends : st = none → M = 0
theorem chg_low {w wr w2 : World} (h : Below w.heap.size w wr) (hc : Chg (· = w.heap.size) wr w2) : Below w.heap.size w w2 := h.trans (hc.below (B := w.heap.size) h.size (fun k hk e => by omega))
theorem cown_eye {w wr w2 : World} {u : Value} {acc : List ChgP} (h : COwn wr (w.heap.size + 1) u acc) (hc : Chg (· = w.heap.size) wr w2) : COwn w2 (w.heap.size + 1) u acc := by
  refine ⟨h.1, ?_⟩
  rcases h.2 with e | ⟨g, cap, cur, e, hg, hh, hr⟩
  · exact .inl e
  · refine .inr ⟨g, cap, cur, e, hg, ?_, hr⟩
    rw [hc.block g (Array.getElem?_eq_some_iff.1 hh).1 (fun e2 => by omega)]
    exact hh
set_option maxRecDepth 100000 in
set_option maxHeartbeats 8000000 in
theorem rdget_any (s : ByteArray) (hs : s.size ≤ 1000000) (w : World) : Calls Try.prog 42 #[.string s] w fun e w' => (∃ o, GetsE s o ∧ GetOut o w.heap.size e w') ∧ Below w.heap.size w w' := by
  obtain ⟨i0, hi, hz0, hz1, hz2⟩ := info_parts info_ch3
  have HII := Lib.hid (And.intro hi (And.intro hz0 (And.intro hz1 hz2)))
  have hs8 : s.size ≤ 1048576 := by omega
  have HSZ := Lib.hid hs
  have HE0 := Lib.hid (show RyeS (w.alloc (.cells #[.string s, .int .i64 0, .bool false, .int .i64 0] 92)) w.heap.size s (some s) from ⟨0, Nat.zero_le _, by rw [ByteArray.extract_zero_size], Has.fresh w _ _⟩)
  have HB0 := Lib.hid ((Below.refl w.heap.size w).alloc (Nat.le_refl _) (.cells #[.string s, .int .i64 0, .bool false, .int .i64 0] 92))
  have halc := alloc_ch
  clear hi hz0 hz1 hz2 hs
  go_enter Try.func42, Try.ntmps42
  go_wp2_with fail
  refine (rnum_s w.heap.size 4 s hs8 _ _ HE0.out).mono ?_
  rintro e w1 ⟨rfl, hr, hc⟩
  have HQ := Lib.hid (show GetsE s = fun o => match o with
    | some l => ∃ st, loopE (rnE (some s) 4).1.toNat (rnE (some s) 4).2 [] = some (l, st) ∧ endE st = true ∧ SortP ⟨#[]⟩ l
    | none => ∀ l st, loopE (rnE (some s) 4).1.toNat (rnE (some s) 4).2 [] = some (l, st) → endE st = true → ¬ SortP ⟨#[]⟩ l from by funext o; cases o <;> rfl)
  have hrn := @rn_none s 4
  have hrb := rn_bound (some s) 4
  have hrl := rn_less s 4
  generalize (rnE (some s) 4).1 = M at *
  generalize (rnE (some s) 4).2 = st0 at *
  have HI0 := Lib.hid (show GI w w1 s (.slice none 0 0) [] st0 st0 M 0 from ⟨chg_low HB0.out hc, hr, COwn.nil _ _, by have := hc.size; rw [World.size_alloc] at this; omega, by simp, (by
    rcases hrl with h | h
    · simp at h ⊢; omega
    · rw [h]; simp [szE]), (fun c hc => by cases hc), hrn⟩)
  clear hr hc hrn hrl
  go_wp2
  go_loopw [6, 15] (fun a z wr => ∃ j : Nat, ∃ u : Value, ∃ acc : List ChgP, ∃ st : ES, (j : Int) ≤ M ∧ z = .int .i64 j ∧ a = u ∧ Hid (GI w wr s u acc st st0 M j)) (fun _ z _ => (M - intOf z).toNat)
  case atStart => exact ⟨0, _, _, _, hrb.1, rfl, rfl, HI0⟩
  case round =>
    obtain ⟨j, u, acc, st, hj, rfl, rfl, HI⟩ := hrel
    obtain ⟨Au, cu, rfl⟩ := HI.out.row.sl
    by_cases hlt : (j : Int) < M
    case neg =>
      have hjM : (j : Int) = M := by omega
      have HB := Lib.hid HI.out.below
      have HLE := Lib.hid (show loopE M.toNat st0 [] = some (acc, st) by
        have h := HI.out.is
        rw [show (M - j).toNat = 0 by omega] at h
        exact h.symm)
      obtain ⟨Ar, cr, er, hrow⟩ := HI.out.row.row
      injection er with er1 er2 er3
      subst er1
      have HRW := Lib.hid hrow
      clear er2 er3 hrow
      go_wp2_with fail
      refine (rend_s _ s st _ HI.out.eye).mono ?_
      rintro e w2 ⟨E, rfl, hE, hc⟩
      have HB2 := Lib.hid (chg_low HB.out hc)
      have HRO := Lib.hid (cown_eye HI.out.row hc)
      cases hen : endE st with
      | false =>
        have HNO := Lib.hid (show GetsE s none by rw [HQ.out]; intro l st2 h1 h2; rw [HLE.out] at h1; injection h1 with h1; injection h1 with _ h1; rw [← h1, hen] at h2; cases h2)
        rw [hen] at hE
        have hE2 : (E != 0) = true := hE
        have hE3 : ¬ E = 0 := by simpa using hE2
        clear hc hen hE
        go_wp2
        exact bodyPost_ret (v := .tuple #[.slice none 0 0, .int .i64 201]) (by simp [results, Try.results42, go_sem]) rfl ⟨⟨none, HNO.out, rfl⟩, HB2.out⟩
      | true =>
        rw [hen] at hE
        have hE2 : (E != 0) = false := hE
        obtain rfl : E = 0 := by simpa using hE2
        have HEN := Lib.hid hen
        obtain ⟨Ar, cr, er, hrow⟩ := HRO.out.row
        injection er with er1 er2 er3
        subst er1
        have HSR := Lib.hid (rsorted_any Au acc.length cu acc w2 hrow (by have := HI.out.few; have := HSZ.out; omega) (fun c hc => by have := HI.out.keys c hc; omega))
        clear hc hen hE hE2 er2 er3 hrow
        go_wp2_with fail
        refine HSR.out.mono ?_
        rintro e w3 ⟨⟨bs, rfl, hbs⟩, hb⟩
        have HB3 := Lib.hid (HB2.out.trans (hb.mono HB2.out.size))
        have HRO3 := Lib.hid (HRO.out.chg (Chg.of_below hb (fun _ => False)) (fun _ _ k => k))
        cases bs with
        | false =>
          have HNO := Lib.hid (show GetsE s none by rw [HQ.out]; intro l st2 h1 h2 h3; rw [HLE.out] at h1; injection h1 with h1; injection h1 with h1 _; subst h1; have := hbs.2 h3; cases this)
          clear hbs hb
          go_wp2
          exact bodyPost_ret (v := .tuple #[.slice none 0 0, .int .i64 201]) (by simp [results, Try.results42, go_sem]) rfl ⟨⟨none, HNO.out, rfl⟩, HB3.out⟩
        | true =>
          have HYE := Lib.hid (show GetsE s (some acc) by rw [HQ.out]; exact ⟨st, HLE.out, HEN.out, hbs.1 rfl⟩)
          clear hbs hb
          go_wp2
          exact bodyPost_ret (v := .tuple #[.slice Au acc.length cu, .int .i64 0]) (by simp [results, Try.results42, go_sem]) rfl ⟨⟨some acc, HYE.out, _, rfl, COwn.low HRO3.out (by omega)⟩, HB3.out⟩
    case pos =>
      obtain ⟨r, rfl⟩ : ∃ r, st = some r := by
        cases st with
        | some r => exact ⟨r, rfl⟩
        | none => have := HI.out.ends rfl; omega
      have HLT := Lib.hid hlt
      have hjm : (j : Int) < 9223372036854775807 := by omega
      have HSTEP := Lib.hid (show loopE M.toNat st0 [] = (if (rtE (rtE (rnE (some r) 1).2 64).2 300).2.isNone = true ∨ 1 < (rnE (some r) 1).1 then none else loopE (M - ((j + 1 : Nat) : Int)).toNat (rtE (rtE (rnE (some r) 1).2 64).2 300).2 (acc ++ [⟨(rtE (rnE (some r) 1).2 64).1, (rtE (rtE (rnE (some r) 1).2 64).2 300).1, (rnE (some r) 1).1 == 1⟩])) from by
        rw [← HI.out.is, show (M - j).toNat = (M - ((j + 1 : Nat) : Int)).toNat + 1 by omega]
        rfl)
      have HRN := Lib.hid (rn_less r 1)
      have HOPEN := Lib.hid (show (rtE (rtE (rnE (some r) 1).2 64).2 300).2 = none ∨ (rnE (some r) 1).2 ≠ none from by
        cases h : (rnE (some r) 1).2 with
        | none => exact .inl rfl
        | some q => exact .inr (fun e => by cases e))
      go_wp2_with fail
      refine (rnum_s w.heap.size 1 s hs8 (some r) _ HI.out.eye).mono ?_
      rintro e w2 ⟨rfl, hr2, hc2⟩
      have HB2 := Lib.hid (chg_low HI.out.below hc2)
      have HRO2 := Lib.hid (cown_eye HI.out.row hc2)
      have hlo2 : w.heap.size + 1 ≤ w2.heap.size := Nat.le_trans HI.out.lo hc2.size
      generalize (rnE (some r) 1).1 = gv at *
      generalize (rnE (some r) 1).2 = s1 at *
      obtain ⟨gb, hgb⟩ : ∃ gb, (gv == 1) = gb := ⟨_, rfl⟩
      rw [hgb] at HSTEP
      have HX2 := Lib.hid (Has.fresh w2 53 (chC ⟨⟨#[]⟩, ⟨#[]⟩, gb⟩))
      have HE2 := Lib.hid (RyeS.over hr2 ((Chg.refl (fun _ => False) w2).alloc (.cells (chC ⟨⟨#[]⟩, ⟨#[]⟩, gb⟩) 53)) (fun k => k))
      have HC2 := Lib.hid ((Chg.refl (· = w.heap.size) w2).alloc (.cells (chC ⟨⟨#[]⟩, ⟨#[]⟩, gb⟩) 53))
      have hne : ¬ w2.heap.size = w.heap.size := by omega
      have hne2 : ¬ w.heap.size = w2.heap.size := by omega
      clear hr2 hc2
      go_wp2_with ((with_reducible refine Who.wpList_newC 53 8 (.tmp 21) rfl rfl rfl (chC ch0) (chC ⟨⟨#[]⟩, ⟨#[]⟩, gb⟩) ?_); refine And.intro ⟨rfl, rfl, rfl, halc, by rfl, by rfl, info_ch, rfl, chC_one _⟩ ?_; (try simp only [Act.put, List.setIfInBounds_toArray, List.set_cons_zero, List.set_cons_succ]))
      refine (rtext_s w.heap.size 64 (by decide) s hs8 s1 _ HE2.out).mono ?_
      rintro e w4 ⟨rfl, hr4, hc4⟩
      have HX4 := Lib.hid (HX2.out.over hc4 hne)
      have HC4 := Lib.hid (HC2.out.trans hc4)
      have p0 : w4.cell? ⟨w2.heap.size, 0, none⟩ = some (.string ⟨#[]⟩) := HX4.out.at_ 0
      have f0 := HX4.out.free 0
      have HK := Lib.hid (rt_size s1 64 (by decide))
      have HS1 := Lib.hid (rt_less s1 64)
      generalize (rtE s1 64).1 = key at *
      generalize (rtE s1 64).2 = s2 at *
      have HE4 := Lib.hid (RyeS.over hr4 ((Chg.refl (· = w2.heap.size) w4).setCell (p := ⟨w2.heap.size, 0, none⟩) (.inl rfl) (.string key)) hne2)
      have HX5 := Lib.hid (HX4.out.put 0 (.string key))
      have HC5 := Lib.hid (HC4.out.setCell (p := ⟨w2.heap.size, 0, none⟩) (.inr (Nat.le_refl _)) (.string key))
      clear hr4 hc4
      go_wp2_with fail
      refine (rtext_s w.heap.size 300 (by decide) s hs8 s2 _ HE4.out).mono ?_
      rintro e w6 ⟨rfl, hr6, hc6⟩
      have HX6 := Lib.hid (HX5.out.over hc6 hne)
      have HC6 := Lib.hid (HC5.out.trans hc6)
      have p1 : w6.cell? ⟨w2.heap.size, 1, none⟩ = some (.string ⟨#[]⟩) := HX6.out.at_ 1
      have f1 := HX6.out.free 1
      have HS2 := Lib.hid (rt_less s2 300)
      generalize (rtE s2 300).1 = val at *
      generalize (rtE s2 300).2 = s3 at *
      obtain ⟨w7, hw7⟩ : ∃ w7, w7 = w6.setCell ⟨w2.heap.size, 1, none⟩ (.string val) := ⟨_, rfl⟩
      have HE7 := Lib.hid (show RyeS w7 w.heap.size s s3 from by rw [hw7]; exact RyeS.over hr6 ((Chg.refl (· = w2.heap.size) w6).setCell (p := ⟨w2.heap.size, 1, none⟩) (.inl rfl) (.string val)) hne2)
      have HX7 := Lib.hid (show Has w7 w2.heap.size 53 #[.string key, .string val, .bool gb] from by rw [hw7]; exact HX6.out.put 1 (.string val))
      have HC7 := Lib.hid (show Chg (· = w.heap.size) w2 w7 from by rw [hw7]; exact HC6.out.setCell (p := ⟨w2.heap.size, 1, none⟩) (.inr (Nat.le_refl _)) (.string val))
      have HB7 := Lib.hid (chg_low HB2.out HC7.out)
      cases s3 with
      | none =>
        obtain ⟨a, y, hy, hrye⟩ := hr6
        have xd := hrye.cells.2.2
        have HNO := Lib.hid (show GetsE s none by rw [HQ.out]; intro l st2 h1; rw [HSTEP.out] at h1; simp at h1)
        clear hrye hc6
        go_wp2
        rw [← hw7]
        exact bodyPost_ret (v := .tuple #[.slice none 0 0, .int .i64 201]) (by simp [results, Try.results42, go_sem]) rfl ⟨⟨none, HNO.out, rfl⟩, HB7.out⟩
      | some r3 =>
        obtain ⟨a, ha, hre, hrye⟩ := hr6
        have xd := hrye.cells.2.2
        clear hre hrye hc6
        by_cases hg : 1 < gv
        case pos =>
          have HNO := Lib.hid (show GetsE s none by rw [HQ.out]; intro l st2 h1; rw [HSTEP.out] at h1; simp [hg] at h1)
          go_wp2
          rw [← hw7]
          exact bodyPost_ret (v := .tuple #[.slice none 0 0, .int .i64 201]) (by simp [results, Try.results42, go_sem]) rfl ⟨⟨none, HNO.out, rfl⟩, HB7.out⟩
        case neg =>
          have hgf : decide ((1 : Int) < gv) = false := decide_eq_false hg
          have HNX := Lib.hid (show loopE (M - ((j + 1 : Nat) : Int)).toNat (some r3) (acc ++ [⟨key, val, gb⟩]) = loopE M.toNat st0 [] from by rw [HSTEP.out, if_neg (by simp [hg])])
          have HR7 := Lib.hid (cown_eye HRO2.out HC7.out)
          clear hg
          have HFEW := Lib.hid (show acc.length + 1 + r3.size ≤ s.size from by
            have h1 := HI.out.few
            have h2 := HS1.out
            have h3 := HS2.out
            have h5 : szE (some r) = r.size := rfl
            have h6 : szE (some r3) = r3.size := rfl
            rcases HRN.out with h4 | h4
            · simp at h4; omega
            · rcases HOPEN.out with h7 | h7
              · cases h7
              · exact absurd h4 h7)
          have HR6 := Lib.hid (show (w6.setCell ⟨w2.heap.size, 1, none⟩ (.string val)).ownsRow (w.heap.size + 1) 53 3 (.slice Au acc.length cu) acc.length (acc.flatMap chL) from by rw [← hw7]; exact HR7.out)
          have HX6b := Lib.hid (show (w6.setCell ⟨w2.heap.size, 1, none⟩ (.string val)).rangeAt w2.heap.size 0 [.string key, .string val, .bool gb] from by rw [← hw7]; exact Who.has_range HX7.out)
          have HSA := Lib.hid (fun o : Obj => show w.heap.size + 1 ≤ ((w6.setCell ⟨w2.heap.size, 1, none⟩ (.string val)).alloc o).heap.size from by
            have h := HC7.out.size
            rw [hw7] at h
            rw [World.size_alloc]
            omega)
          go_wp2_with (first | ((with_reducible refine Who.wpList_loadC 53 (.tmp 8) rfl w2.heap.size 0 #[.string key, .string val, .bool gb] ?_); refine And.intro ⟨by rfl, by rfl, ⟨_, Try.underlying53, rfl⟩, info_ch⟩ (And.intro HX6b.out ?_); (try simp only [Act.put, List.setIfInBounds_toArray, List.set_cons_zero, List.set_cons_succ])) | (at_builtin; refine wpList_append_lies _ rfl (.tmp 36) (.tmp 38) 22 rfl (w.heap.size + 1) 53 i0 (.agg (chC ch0)) 3 40 Try.underlying22 HII.out.1 HII.out.2.1 HII.out.2.2.1 HII.out.2.2.2 rfl (by decide) (.slice Au acc.length cu) acc.length (acc.flatMap chL) rfl (World.ownsRow.alloc HR6.out _) _ 1 1 [.string key, .string val, .bool gb] rfl rfl ?cg1 ?cg2 (by decide) (by unfold maxLen; have := HFEW.out; have := HSZ.out; omega) (by have := HFEW.out; have := HSZ.out; omega) (HSA.out _) _ rfl ?_))
          case cg1 =>
            have h := World.news_of_block (Has.fresh (w6.setCell ⟨w2.heap.size, 1, none⟩ (.string val)) 53 #[.string key, .string val, .bool gb])
            have e : (w6.setCell ⟨w2.heap.size, 1, none⟩ (.string val)).heap.size = w6.heap.size := by simp
            rw [e] at h
            exact h
          case cg2 => exact fun u hu => by simp at hu; rcases hu with rfl | rfl | rfl <;> rfl
          intro g' cap w8 ho hg2 hor hlt8
          have HREL := Lib.hid (show GI w w8 s (.slice (some ⟨g', 0, none⟩) (acc.length + 1) cap) (acc ++ [⟨key, val, gb⟩]) (some r3) st0 M (j + 1) from by
            rw [← hw7] at hg2
            have hlow : ∀ q, (Value.slice Au acc.length cu).ownBlock = some q → w.heap.size + 1 ≤ q := fun q hq => (World.ownsRow.lt HR7.out q hq).1
            refine ⟨(HB7.out.alloc HB7.out.size _).grown hg2 (Nat.le_trans HB7.out.size (by simp only [World.size_alloc]; omega)) (fun q hq => by have := hlow q hq; omega), ?_, ?_, ?_, HNX.out, ?_, ?_, fun e => by cases e⟩
            · refine RyeS.over (RyeS.over HE7.out ((Chg.refl (fun _ => False) w7).alloc _) (fun k => k)) (⟨hg2.os, hg2.tape, hg2.output, hg2.size, fun k hk hn => hg2.block k hk (fun e => hn e.symm)⟩ : Chg (fun k => (Value.slice Au acc.length cu).ownBlock = some k) _ w8) (fun e => by have := hlow _ e; omega)
            · unfold COwn
              rw [List.length_append, List.flatMap_append]
              exact ho
            · have h1 := hg2.size
              have h2 := HC7.out.size
              rw [World.size_alloc] at h1
              omega
            · have h6 : szE (some r3) = r3.size := rfl
              rw [List.length_append, h6]
              have := HFEW.out
              simp
              omega
            · intro c hc
              rcases List.mem_append.1 hc with h | h
              · exact HI.out.keys c h
              · rw [List.mem_singleton.1 h]
                have := HK.out
                show key.size ≤ 64
                omega)
          clear ho hg2 hor hlt8 hw7 hne hne2
          go_wp2
          go_roundw
          case rel => exact ⟨j + 1, _, _, _, by have := HLT.out; omega, by go_num, rfl, HREL⟩
          case measure => have := HLT.out; simp [intOf]; omega
end Go.Proofs.Ytepnckglnciinaa.Sm
