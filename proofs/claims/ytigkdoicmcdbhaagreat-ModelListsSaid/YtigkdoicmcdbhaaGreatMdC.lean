/- Model: the event that knew all others. -/
import Derived.Test.YtigkdoicmcdbhaaGreatMdB
namespace Go.Proofs.YtigkdoicmcdbhaaGreat.Md
open Go.RowKit Go.Proofs.YtigkdoicmcdbhaaGreat.Mem
open Go.Proofs.YtigkdoicmcdbhaaGreat.Fc (PieceP XattrP LinkP NodeC pieceC xattrC linkC nodeC stateC)
open Go.Proofs.YtigkdoicmcdbhaaGreat.Sr (EOwn GrewE zeroS)
open Go.Proofs.YtigkdoicmcdbhaaGreat.Stab (EOut eown_nil eown_sl)
open Go.Proofs.YtigkdoicmcdbhaaGreat.Stl (IdxIs any_take any_hit isId filter_yes filter_no filter_len eown_below eown_mono)
open Go.Proofs.YtigkdoicmcdbhaaGreat.Vc (vecC stC eql_st neq_st)
set_option linter.unusedVariables false set_option linter.unusedSimpArgs false

def knB (u a : Fc.EventC) : Bool := isId a.at_ u.at_ || befB a u
def unkB (u a : Fc.EventC) : Bool := !knB u a
def lastP (es : List Fc.EventC) (u : Fc.EventC) : Bool := es.all (knB u)
def lastE (es : List Fc.EventC) : Option Fc.EventC := es.find? (lastP es)
theorem lastP_any (es : List Fc.EventC) (u : Fc.EventC) : (!es.any (unkB u)) = lastP es u := by
  unfold lastP
  rw [List.all_eq_not_any_not]
  rfl
theorem find_hit {α : Type} {P : α → Bool} : ∀ {xs : List α} {j : Nat} (h : j < xs.length), (xs.take j).any P = false → P xs[j] = true → xs.find? P = some xs[j]
  | [], j, h, _, _ => absurd h (Nat.not_lt_zero _)
  | y :: ys, 0, h, _, h2 => by
    have h3 : P y = true := h2
    simp [List.find?, h3]
  | y :: ys, j + 1, h, h1, h2 => by
    rw [List.take_succ_cons, List.any_cons, Bool.or_eq_false_iff] at h1
    rw [List.find?, h1.1]
    exact find_hit (xs := ys) (j := j) (by simpa using h) h1.2 h2
theorem find_none {α : Type} {P : α → Bool} {xs : List α} (h : xs.any P = false) : xs.find? P = none := by
  rw [List.find?_eq_none]
  intro y hy hp
  rw [List.any_eq_false] at h
  exact h y hy hp
/-- what Last tells -/
def LastIs (es : List Fc.EventC) (w : World) (e : Ending) (w' : World) : Prop := e = .returned (.tuple #[.agg (Fc.eventC ((lastE es).getD Sr.zeroE)), .bool (lastE es).isSome]) ∧ Below w.heap.size w w'
set_option maxRecDepth 100000 in
set_option maxHeartbeats 1000000 in
theorem last1_any (a b : Fc.EventC) (g : Nat) (w : World) (hg : Has w g 34 (Fc.eventC b)) : Calls Tryz.prog 21 #[.agg (Fc.eventC a), .pointer (some ⟨g, 0, none⟩)] w fun e w' => e = .returned (.bool (unkB b a)) ∧ Below w.heap.size w w' := by
  have HB0 := Lib.hid ((Below.refl w.heap.size w).alloc (Nat.le_refl _) (.cells (Fc.eventC a) 34))
  have HX := Lib.hid (Has.fresh w 34 (Fc.eventC a))
  have HG := Lib.hid (hg.past (.cells (Fc.eventC a) 34))
  have q1 := fun W => neq_st a.at_.1 a.at_.2 b.at_.1 b.at_.2 W
  unfold stC at q1
  have HC := Lib.hid (fun V => before_any a b V)
  have HD := Lib.hid (show unkB b a = !((a.at_.1 == b.at_.1 && a.at_.2 == b.at_.2) || befB a b) from rfl)
  obtain ⟨z, hz⟩ : ∃ z, z = (a.at_.1 == b.at_.1 && a.at_.2 == b.at_.2) := ⟨_, rfl⟩
  rw [← hz] at q1 HD
  clear hg hz
  go_enter Tryz.func21, Tryz.ntmps21
  cases z with
  | true =>
    go_wp2_with (first | ((with_reducible refine Who.wpList_loadC 26 (.tmp 4) rfl (w.heap.size) 0 (#[.int .i64 a.at_.1, .int .i64 a.at_.2]) ?_); refine And.intro ⟨by rfl, by rfl, ⟨_, Tryz.underlying26, rfl⟩, Sr.info_st⟩ (And.intro (Smr.rangeOf HX.out 0 _ Smr.rat2) ?_); (try simp only [Act.put, List.setIfInBounds_toArray, List.set_cons_zero, List.set_cons_succ])) | ((with_reducible refine Who.wpList_loadC 26 (.tmp 6) rfl (g) 0 (#[.int .i64 b.at_.1, .int .i64 b.at_.2]) ?_); refine And.intro ⟨by rfl, by rfl, ⟨_, Tryz.underlying26, rfl⟩, Sr.info_st⟩ (And.intro (Smr.rangeOf HG.out 0 _ Smr.rat2) ?_); (try simp only [Act.put, List.setIfInBounds_toArray, List.set_cons_zero, List.set_cons_succ])) | fail)
    go_ret
    exact ⟨by rw [HD.out]; rfl, HB0.out⟩
  | false =>
    go_wp2_with (first | ((with_reducible refine Who.wpList_loadC 26 (.tmp 4) rfl (w.heap.size) 0 (#[.int .i64 a.at_.1, .int .i64 a.at_.2]) ?_); refine And.intro ⟨by rfl, by rfl, ⟨_, Tryz.underlying26, rfl⟩, Sr.info_st⟩ (And.intro (Smr.rangeOf HX.out 0 _ Smr.rat2) ?_); (try simp only [Act.put, List.setIfInBounds_toArray, List.set_cons_zero, List.set_cons_succ])) | ((with_reducible refine Who.wpList_loadC 26 (.tmp 6) rfl (g) 0 (#[.int .i64 b.at_.1, .int .i64 b.at_.2]) ?_); refine And.intro ⟨by rfl, by rfl, ⟨_, Tryz.underlying26, rfl⟩, Sr.info_st⟩ (And.intro (Smr.rangeOf HG.out 0 _ Smr.rat2) ?_); (try simp only [Act.put, List.setIfInBounds_toArray, List.set_cons_zero, List.set_cons_succ])) | ((with_reducible refine Who.wpList_loadC 34 (.tmp 2) rfl (w.heap.size) 0 (Fc.eventC a) ?_); refine And.intro ⟨by rfl, by rfl, ⟨_, Tryz.underlying34, rfl⟩, Sr.info_event⟩ (And.intro (Who.has_range HX.out) ?_); (try simp only [Act.put, List.setIfInBounds_toArray, List.set_cons_zero, List.set_cons_succ])) | ((with_reducible refine Who.wpList_loadC 34 (.tmp 1) rfl (g) 0 (Fc.eventC b) ?_); refine And.intro ⟨by rfl, by rfl, ⟨_, Tryz.underlying34, rfl⟩, Sr.info_event⟩ (And.intro (Who.has_range HG.out) ?_); (try simp only [Act.put, List.setIfInBounds_toArray, List.set_cons_zero, List.set_cons_succ])) | fail)
    refine (HC.out _).mono ?_
    rintro q w2 ⟨rfl, hb⟩
    have HB2 := Lib.hid (HB0.out.trans (hb.mono HB0.out.size))
    clear hb
    go_wp2
    go_ret
    exact ⟨by rw [HD.out]; rfl, HB2.out⟩
set_option maxRecDepth 100000 in
set_option maxHeartbeats 4000000 in
theorem last_any (A : Option Addr) (n c : Nat) (es : List Fc.EventC) (hn : n ≤ 4000000) (w : World) (hr : Fc.SRow w 21 Fc.eventC A n es) : Calls Tryz.prog 6 #[.slice A n c] w (LastIs es w) := by
  have HR := Lib.hid hr
  have HLN := Lib.hid hr.len
  have halv := Sr.alloc_event
  have HB0 := Lib.hid ((Below.refl w.heap.size w).alloc (Nat.le_refl _) (.cells (Fc.eventC Sr.zeroE) 34))
  have HZ0 := Lib.hid (Has.fresh w 34 (Fc.eventC Sr.zeroE))
  clear hr
  go_enter Tryz.func6, Tryz.ntmps6
  go_wp2_with (first | ((with_reducible refine Who.wpList_alloc 34 2 rfl rfl rfl (Fc.eventC Sr.zeroE) halv ?_); (try simp only [Act.put, List.setIfInBounds_toArray, List.set_cons_zero, List.set_cons_succ]); (try simp only [World.size_alloc])) | fail)
  go_loopw [9] (fun i wr => ∃ j : Nat, i = .int .i64 j ∧ j ≤ n ∧ Hid ((es.take j).any (lastP es) = false) ∧ Hid (Below w.heap.size w wr) ∧ Hid (Has wr w.heap.size 34 (Fc.eventC Sr.zeroE))) (fun i _ => n - (intOf i).toNat)
  case atStart => exact ⟨0, rfl, Nat.zero_le _, Lib.hid rfl, HB0, HZ0⟩
  case round =>
    clear HB0 HZ0
    obtain ⟨j, rfl, hj, HF, HB, HZ⟩ := hrel
    by_cases hlt : j < n
    · obtain ⟨b, off, rfl, hbl, hx, mr⟩ := (HR.out.below HB.out).range (i := j) hlt
      have HTK := Lib.hid (any_take (lastP es) hx HF.out)
      have HHT := Lib.hid (find_hit hx HF.out)
      obtain ⟨e, he⟩ : ∃ e, e = es[j] := ⟨_, rfl⟩
      rw [← he] at mr HTK HHT
      have MR := Lib.hid mr
      have hb1 := (Below.refl wr.heap.size wr).alloc (Nat.le_refl _) (.cells (Fc.eventC e) 34)
      have hx1 := Has.fresh wr 34 (Fc.eventC e)
      have HB1 := Lib.hid (HB.out.trans (hb1.mono HB.out.size))
      have HZ1 := Lib.hid (HZ.out.below hb1)
      have HX1 := Lib.hid hx1
      have HC1 := Lib.hid (contains_event (some ⟨b, off, none⟩) n c es 21 #[.pointer (some ⟨wr.heap.size, 0, none⟩)] (fun args V => enters Tryz.func21 (by kernel_rfl) rfl args V) (unkB e) (by omega) _ (HR.out.below HB1.out) (fun V hV x _ => last1_any x e _ V (hx1.below hV)))
      have HLP := Lib.hid (lastP_any es e)
      clear he mr hx hbl hb1 hx1 HF HB HZ
      go_wp2_with (first | ((with_reducible refine Who.wpList_loadC 34 (.tmp 11) rfl (b) (off + j * 21) (Fc.eventC e) ?_); refine And.intro ⟨by rfl, by rfl, ⟨_, Tryz.underlying34, rfl⟩, Sr.info_event⟩ (And.intro (MR.out) ?_); (try simp only [Act.put, List.setIfInBounds_toArray, List.set_cons_zero, List.set_cons_succ])) | ((with_reducible refine Who.wpList_newC 34 5 (.tmp 12) rfl rfl rfl (Fc.eventC Sr.zeroE) (Fc.eventC e) ?_); refine And.intro ⟨rfl, rfl, rfl, halv, by rfl, by rfl, Sr.info_event, rfl, Sr.event_one _⟩ ?_; (try simp only [Act.put, List.setIfInBounds_toArray, List.set_cons_zero, List.set_cons_succ]); (try simp only [World.size_alloc])) | fail)
      refine HC1.out.mono ?_
      rintro q w2 ⟨rfl, hb⟩
      have HB := Lib.hid (HB1.out.trans (hb.mono HB1.out.size))
      have HZ := Lib.hid (HZ1.out.below hb)
      have HX2 := Lib.hid (HX1.out.below hb)
      clear hb HB1 HZ1 HX1 HC1
      cases hq1 : es.any (unkB e) with
      | true =>
        have HQ := Lib.hid (HTK.out (by rw [← HLP.out, hq1]; rfl))
        clear hq1
        go_wp2
        go_roundw
        case rel => exact ⟨j + 1, by go_num, by omega, HQ, HB, HZ⟩
        case measure => simp [intOf]; omega
      | false =>
        have HQ := Lib.hid (show lastE es = some e from HHT.out (by rw [← HLP.out, hq1]; rfl))
        clear hq1
        have HTH := Lib.hid (Who.has_there HZ.out (n := 21) rfl)
        have HZF := Lib.hid (Who.has_over HZ.out (C := Fc.eventC e) rfl)
        have HBF := Lib.hid (Who.below_setCells HB.out (Nat.le_refl w.heap.size) 0 (Fc.eventC e).toList)
        go_wp2_with (first | ((with_reducible refine Who.wpList_loadC 34 (.tmp 5) rfl (wr.heap.size) 0 (Fc.eventC e) ?_); refine And.intro ⟨by rfl, by rfl, ⟨_, Tryz.underlying34, rfl⟩, Sr.info_event⟩ (And.intro (Who.has_range HX2.out) ?_); (try simp only [Act.put, List.setIfInBounds_toArray, List.set_cons_zero, List.set_cons_succ])) | ((with_reducible refine Who.wpList_storeC 34 (.tmp 2) (.tmp 18) rfl (w.heap.size) 0 (Fc.eventC e) ?_); refine And.intro ⟨rfl, by rfl, by rfl, Sr.info_event, Sr.event_one _⟩ (And.intro HTH.out ?_); (try simp only [Act.put, List.setIfInBounds_toArray, List.set_cons_zero, List.set_cons_succ])) | fail)
        refine bodyPost_ret (v := .tuple #[.agg (Fc.eventC e), .bool true]) (Who.results_cell_tmp (p := 2) (u := 3) (t := 34) rfl _ _ w.heap.size 0 (Fc.eventC e) _ (by rfl) (Who.has_range HZF.out) Tryz.underlying34 rfl Sr.info_event) rfl ⟨by rw [HQ.out]; rfl, HBF.out⟩
    · have HQ := Lib.hid (show lastE es = none from find_none (by have := HF.out; rwa [List.take_of_length_le (by rw [HLN.out]; omega)] at this))
      have HTH := Lib.hid (Who.has_there HZ.out (n := 21) rfl)
      have HZF := Lib.hid (Who.has_over HZ.out (C := Fc.eventC Sr.zeroE) rfl)
      have HBF := Lib.hid (Who.below_setCells HB.out (Nat.le_refl w.heap.size) 0 (Fc.eventC Sr.zeroE).toList)
      go_wp2_with (first | ((with_reducible refine Who.wpList_storeC 34 (.tmp 2) (.tmp 20) rfl (w.heap.size) 0 (Fc.eventC Sr.zeroE) ?_); refine And.intro ⟨rfl, by rfl, by rfl, Sr.info_event, Sr.event_one _⟩ (And.intro HTH.out ?_); (try simp only [Act.put, List.setIfInBounds_toArray, List.set_cons_zero, List.set_cons_succ])) | fail)
      refine bodyPost_ret (v := .tuple #[.agg (Fc.eventC Sr.zeroE), .bool false]) (Who.results_cell_tmp (p := 2) (u := 3) (t := 34) rfl _ _ w.heap.size 0 (Fc.eventC Sr.zeroE) _ (by rfl) (Who.has_range HZF.out) Tryz.underlying34 rfl Sr.info_event) rfl ⟨by rw [HQ.out]; rfl, HBF.out⟩
theorem all_next {os : List Fc.EventC} (P : Fc.EventC → Bool) {i : Nat} (h : i < os.length) : (os.take (i + 1)).all P = ((os.take i).all P && P os[i]) := by
  rw [List.take_succ_eq_append_getElem h, List.all_append]
  simp
set_option maxRecDepth 100000 in
set_option maxHeartbeats 8000000 in
theorem rlast_any (A : Option Addr) (n c : Nat) (es : List Fc.EventC) (hn : n ≤ 4000000) (w : World) (hr : Fc.SRow w 21 Fc.eventC A n es) : Calls Tryz.prog 7 #[.slice A n c] w (LastIs es w) := by
  have HR := Lib.hid hr
  have HLN := Lib.hid hr.len
  have halv := Sr.alloc_event
  have HB0 := Lib.hid ((Below.refl w.heap.size w).alloc (Nat.le_refl _) (.cells (Fc.eventC Sr.zeroE) 34))
  have HZ0 := Lib.hid (Has.fresh w 34 (Fc.eventC Sr.zeroE))
  clear hr
  go_enter Tryz.func7, Tryz.ntmps7
  go_wp2_with (first | ((with_reducible refine Who.wpList_alloc 34 2 rfl rfl rfl (Fc.eventC Sr.zeroE) halv ?_); (try simp only [Act.put, List.setIfInBounds_toArray, List.set_cons_zero, List.set_cons_succ]); (try simp only [World.size_alloc])) | fail)
  go_loopw [11] (fun i wr => ∃ j : Nat, i = .int .i64 j ∧ j ≤ n ∧ Hid ((es.take j).any (lastP es) = false) ∧ Hid (Below w.heap.size w wr) ∧ Hid (Has wr w.heap.size 34 (Fc.eventC Sr.zeroE))) (fun i _ => n - (intOf i).toNat)
  case atStart => exact ⟨0, rfl, Nat.zero_le _, Lib.hid rfl, HB0, HZ0⟩
  case round =>
    clear HB0 HZ0
    obtain ⟨j, rfl, hj, HF, HB, HZ⟩ := hrel
    obtain ⟨wo, hwo⟩ : ∃ wo : World, wo = wr := ⟨_, rfl⟩
    subst hwo
    by_cases hlt : j < n
    · obtain ⟨b, off, rfl, hbl, hx, mr⟩ := (HR.out.below HB.out).range (i := j) hlt
      have HTK := Lib.hid (any_take (lastP es) hx HF.out)
      have HHT := Lib.hid (find_hit hx HF.out)
      obtain ⟨e, he⟩ : ∃ e, e = es[j] := ⟨_, rfl⟩
      rw [← he] at mr HTK HHT
      have MR := Lib.hid mr
      have hb1 := (Below.refl wo.heap.size wo).alloc (Nat.le_refl _) (.cells (Fc.eventC e) 34)
      have HB1 := Lib.hid (HB.out.trans (hb1.mono HB.out.size))
      have HZ1 := Lib.hid (HZ.out.below hb1)
      have HX1 := Lib.hid (Has.fresh wo 34 (Fc.eventC e))
      clear he mr hx hbl hb1 HF HB HZ
      go_wp2_with (first | ((with_reducible refine Who.wpList_loadC 34 (.tmp 13) rfl (b) (off + j * 21) (Fc.eventC e) ?_); refine And.intro ⟨by rfl, by rfl, ⟨_, Tryz.underlying34, rfl⟩, Sr.info_event⟩ (And.intro (MR.out) ?_); (try simp only [Act.put, List.setIfInBounds_toArray, List.set_cons_zero, List.set_cons_succ])) | ((with_reducible refine Who.wpList_newC 34 5 (.tmp 14) rfl rfl rfl (Fc.eventC Sr.zeroE) (Fc.eventC e) ?_); refine And.intro ⟨rfl, rfl, rfl, halv, by rfl, by rfl, Sr.info_event, rfl, Sr.event_one _⟩ ?_; (try simp only [Act.put, List.setIfInBounds_toArray, List.set_cons_zero, List.set_cons_succ]); (try simp only [World.size_alloc])) | fail)
      go_loopw [6, 17] (fun sg si wr => ∃ (i : Nat) (ag : Bool), si = .int .i64 i ∧ sg = .bool ag ∧ i ≤ n ∧ Hid (ag = (es.take i).all (knB e)) ∧ Hid (Below w.heap.size w wr) ∧ Hid (Has wr w.heap.size 34 (Fc.eventC Sr.zeroE)) ∧ Hid (Has wr wo.heap.size 34 (Fc.eventC e))) (fun _ si _ => n - (intOf si).toNat)
      case atStart => exact ⟨0, true, rfl, rfl, Nat.zero_le _, Lib.hid rfl, HB1, HZ1, HX1⟩
      case round =>
        clear HB1 HZ1 HX1
        obtain ⟨i, ag, rfl, rfl, hi, HAG, HB, HZ, HX⟩ := hrel
        by_cases hli : i < n
        · obtain ⟨b, off, hA, hbl, hx, mr⟩ := (HR.out.below HB.out).range (i := i) hli
          cases hA
          have HST := Lib.hid (all_next (knB e) hx)
          obtain ⟨y, hy⟩ : ∃ y, y = es[i] := ⟨_, rfl⟩
          rw [← hy] at mr HST
          have MR2 := Lib.hid mr
          have hb2 := (Below.refl wr.heap.size wr).alloc (Nat.le_refl _) (.cells (Fc.eventC y) 34)
          have HB1 := Lib.hid (HB.out.trans (hb2.mono HB.out.size))
          have HZ1 := Lib.hid (HZ.out.below hb2)
          have HX1 := Lib.hid (HX.out.below hb2)
          have HY1 := Lib.hid (Has.fresh wr 34 (Fc.eventC y))
          have q1 := fun W => eql_st y.at_.1 y.at_.2 e.at_.1 e.at_.2 W
          unfold stC at q1
          have HC := Lib.hid (fun V => rbefore_any y e V)
          have HD := Lib.hid (show knB e y = ((y.at_.1 == e.at_.1 && y.at_.2 == e.at_.2) || befB y e) from rfl)
          obtain ⟨z, hz⟩ : ∃ z, z = (y.at_.1 == e.at_.1 && y.at_.2 == e.at_.2) := ⟨_, rfl⟩
          rw [← hz] at q1 HD
          clear hz hy mr hx hbl hb2 HB HZ HX
          cases ag with
          | false =>
            have HAN := Lib.hid (show false = (es.take (i + 1)).all (knB e) by rw [HST.out, ← HAG.out]; rfl)
            go_wp2_with (first | ((with_reducible refine Who.wpList_loadC 34 (.tmp 19) rfl (b) (off + i * 21) (Fc.eventC y) ?_); refine And.intro ⟨by rfl, by rfl, ⟨_, Tryz.underlying34, rfl⟩, Sr.info_event⟩ (And.intro (MR2.out) ?_); (try simp only [Act.put, List.setIfInBounds_toArray, List.set_cons_zero, List.set_cons_succ])) | ((with_reducible refine Who.wpList_newC 34 8 (.tmp 20) rfl rfl rfl (Fc.eventC Sr.zeroE) (Fc.eventC y) ?_); refine And.intro ⟨rfl, rfl, rfl, halv, by rfl, by rfl, Sr.info_event, rfl, Sr.event_one _⟩ ?_; (try simp only [Act.put, List.setIfInBounds_toArray, List.set_cons_zero, List.set_cons_succ]); (try simp only [World.size_alloc])) | fail)
            go_roundw
            case rel => exact ⟨i + 1, false, by go_num, rfl, by omega, HAN, HB1, HZ1, HX1⟩
            case measure => simp [intOf]; omega
          | true =>
            cases z with
            | true =>
              have HAN := Lib.hid (show true = (es.take (i + 1)).all (knB e) by rw [HST.out, ← HAG.out, HD.out]; rfl)
              go_wp2_with (first | ((with_reducible refine Who.wpList_loadC 34 (.tmp 19) rfl (b) (off + i * 21) (Fc.eventC y) ?_); refine And.intro ⟨by rfl, by rfl, ⟨_, Tryz.underlying34, rfl⟩, Sr.info_event⟩ (And.intro (MR2.out) ?_); (try simp only [Act.put, List.setIfInBounds_toArray, List.set_cons_zero, List.set_cons_succ])) | ((with_reducible refine Who.wpList_newC 34 8 (.tmp 20) rfl rfl rfl (Fc.eventC Sr.zeroE) (Fc.eventC y) ?_); refine And.intro ⟨rfl, rfl, rfl, halv, by rfl, by rfl, Sr.info_event, rfl, Sr.event_one _⟩ ?_; (try simp only [Act.put, List.setIfInBounds_toArray, List.set_cons_zero, List.set_cons_succ]); (try simp only [World.size_alloc])) | ((with_reducible refine Who.wpList_loadC 26 (.tmp 23) rfl (wr.heap.size) 0 (#[.int .i64 y.at_.1, .int .i64 y.at_.2]) ?_); refine And.intro ⟨by rfl, by rfl, ⟨_, Tryz.underlying26, rfl⟩, Sr.info_st⟩ (And.intro (Smr.rangeOf HY1.out 0 _ Smr.rat2) ?_); (try simp only [Act.put, List.setIfInBounds_toArray, List.set_cons_zero, List.set_cons_succ])) | ((with_reducible refine Who.wpList_loadC 26 (.tmp 25) rfl (wo.heap.size) 0 (#[.int .i64 e.at_.1, .int .i64 e.at_.2]) ?_); refine And.intro ⟨by rfl, by rfl, ⟨_, Tryz.underlying26, rfl⟩, Sr.info_st⟩ (And.intro (Smr.rangeOf HX1.out 0 _ Smr.rat2) ?_); (try simp only [Act.put, List.setIfInBounds_toArray, List.set_cons_zero, List.set_cons_succ])) | fail)
              go_roundw
              case rel => exact ⟨i + 1, true, by go_num, rfl, by omega, HAN, HB1, HZ1, HX1⟩
              case measure => simp [intOf]; omega
            | false =>
              have HAN := Lib.hid (show befB y e = (es.take (i + 1)).all (knB e) by rw [HST.out, ← HAG.out, HD.out]; simp)
              go_wp2_with (first | ((with_reducible refine Who.wpList_loadC 34 (.tmp 19) rfl (b) (off + i * 21) (Fc.eventC y) ?_); refine And.intro ⟨by rfl, by rfl, ⟨_, Tryz.underlying34, rfl⟩, Sr.info_event⟩ (And.intro (MR2.out) ?_); (try simp only [Act.put, List.setIfInBounds_toArray, List.set_cons_zero, List.set_cons_succ])) | ((with_reducible refine Who.wpList_newC 34 8 (.tmp 20) rfl rfl rfl (Fc.eventC Sr.zeroE) (Fc.eventC y) ?_); refine And.intro ⟨rfl, rfl, rfl, halv, by rfl, by rfl, Sr.info_event, rfl, Sr.event_one _⟩ ?_; (try simp only [Act.put, List.setIfInBounds_toArray, List.set_cons_zero, List.set_cons_succ]); (try simp only [World.size_alloc])) | ((with_reducible refine Who.wpList_loadC 26 (.tmp 23) rfl (wr.heap.size) 0 (#[.int .i64 y.at_.1, .int .i64 y.at_.2]) ?_); refine And.intro ⟨by rfl, by rfl, ⟨_, Tryz.underlying26, rfl⟩, Sr.info_st⟩ (And.intro (Smr.rangeOf HY1.out 0 _ Smr.rat2) ?_); (try simp only [Act.put, List.setIfInBounds_toArray, List.set_cons_zero, List.set_cons_succ])) | ((with_reducible refine Who.wpList_loadC 26 (.tmp 25) rfl (wo.heap.size) 0 (#[.int .i64 e.at_.1, .int .i64 e.at_.2]) ?_); refine And.intro ⟨by rfl, by rfl, ⟨_, Tryz.underlying26, rfl⟩, Sr.info_st⟩ (And.intro (Smr.rangeOf HX1.out 0 _ Smr.rat2) ?_); (try simp only [Act.put, List.setIfInBounds_toArray, List.set_cons_zero, List.set_cons_succ])) | ((with_reducible refine Who.wpList_loadC 34 (.tmp 8) rfl (wr.heap.size) 0 (Fc.eventC y) ?_); refine And.intro ⟨by rfl, by rfl, ⟨_, Tryz.underlying34, rfl⟩, Sr.info_event⟩ (And.intro (Who.has_range HY1.out) ?_); (try simp only [Act.put, List.setIfInBounds_toArray, List.set_cons_zero, List.set_cons_succ])) | ((with_reducible refine Who.wpList_loadC 34 (.tmp 5) rfl (wo.heap.size) 0 (Fc.eventC e) ?_); refine And.intro ⟨by rfl, by rfl, ⟨_, Tryz.underlying34, rfl⟩, Sr.info_event⟩ (And.intro (Who.has_range HX1.out) ?_); (try simp only [Act.put, List.setIfInBounds_toArray, List.set_cons_zero, List.set_cons_succ])) | fail)
              refine (HC.out _).mono ?_
              rintro q w2 ⟨rfl, hb⟩
              have HB2 := Lib.hid (HB1.out.trans (hb.mono HB1.out.size))
              have HZ2 := Lib.hid (HZ1.out.below hb)
              have HX2 := Lib.hid (HX1.out.below hb)
              clear hb
              go_wp2
              go_roundw
              case rel => exact ⟨i + 1, befB y e, by go_num, rfl, by omega, HAN, HB2, HZ2, HX2⟩
              case measure => simp [intOf]; omega
        · have HAE := Lib.hid (show ag = lastP es e by have h := HAG.out; rwa [List.take_of_length_le (by rw [HLN.out]; omega)] at h)
          clear HAG
          cases ag with
          | false =>
            have HQ := Lib.hid (HTK.out HAE.out.symm)
            go_wp2
            go_roundw
            case rel => exact ⟨j + 1, by go_num, by omega, HQ, HB, HZ⟩
            case measure => simp [intOf]; omega
          | true =>
            have HQ := Lib.hid (show lastE es = some e from HHT.out HAE.out.symm)
            have HTH := Lib.hid (Who.has_there HZ.out (n := 21) rfl)
            have HZF := Lib.hid (Who.has_over HZ.out (C := Fc.eventC e) rfl)
            have HBF := Lib.hid (Who.below_setCells HB.out (Nat.le_refl w.heap.size) 0 (Fc.eventC e).toList)
            go_wp2_with (first | ((with_reducible refine Who.wpList_loadC 34 (.tmp 5) rfl (wo.heap.size) 0 (Fc.eventC e) ?_); refine And.intro ⟨by rfl, by rfl, ⟨_, Tryz.underlying34, rfl⟩, Sr.info_event⟩ (And.intro (Who.has_range HX.out) ?_); (try simp only [Act.put, List.setIfInBounds_toArray, List.set_cons_zero, List.set_cons_succ])) | ((with_reducible refine Who.wpList_storeC 34 (.tmp 2) (.tmp 36) rfl (w.heap.size) 0 (Fc.eventC e) ?_); refine And.intro ⟨rfl, by rfl, by rfl, Sr.info_event, Sr.event_one _⟩ (And.intro HTH.out ?_); (try simp only [Act.put, List.setIfInBounds_toArray, List.set_cons_zero, List.set_cons_succ])) | fail)
            refine bodyPost_ret (v := .tuple #[.agg (Fc.eventC e), .bool true]) (Who.results_cell_tmp (p := 2) (u := 3) (t := 34) rfl _ _ w.heap.size 0 (Fc.eventC e) _ (by rfl) (Who.has_range HZF.out) Tryz.underlying34 rfl Sr.info_event) rfl ⟨by rw [HQ.out]; rfl, HBF.out⟩
    · have HQ := Lib.hid (show lastE es = none from find_none (by have := HF.out; rwa [List.take_of_length_le (by rw [HLN.out]; omega)] at this))
      have HTH := Lib.hid (Who.has_there HZ.out (n := 21) rfl)
      have HZF := Lib.hid (Who.has_over HZ.out (C := Fc.eventC Sr.zeroE) rfl)
      have HBF := Lib.hid (Who.below_setCells HB.out (Nat.le_refl w.heap.size) 0 (Fc.eventC Sr.zeroE).toList)
      go_wp2_with (first | ((with_reducible refine Who.wpList_storeC 34 (.tmp 2) (.tmp 38) rfl (w.heap.size) 0 (Fc.eventC Sr.zeroE) ?_); refine And.intro ⟨rfl, by rfl, by rfl, Sr.info_event, Sr.event_one _⟩ (And.intro HTH.out ?_); (try simp only [Act.put, List.setIfInBounds_toArray, List.set_cons_zero, List.set_cons_succ])) | fail)
      refine bodyPost_ret (v := .tuple #[.agg (Fc.eventC Sr.zeroE), .bool false]) (Who.results_cell_tmp (p := 2) (u := 3) (t := 34) rfl _ _ w.heap.size 0 (Fc.eventC Sr.zeroE) _ (by rfl) (Who.has_range HZF.out) Tryz.underlying34 rfl Sr.info_event) rfl ⟨by rw [HQ.out]; rfl, HBF.out⟩
end Go.Proofs.YtigkdoicmcdbhaaGreat.Md
