/- Model: who knew whom; the events that a vector has. -/
import Derived.Test.YtigkdoicmcdbhaaGreatMdA
import Derived.Test.YtigkdoicmcdbhaaGreatVcE
namespace Go.Proofs.YtigkdoicmcdbhaaGreat.Md
open Go.RowKit Go.Proofs.YtigkdoicmcdbhaaGreat.Mem
open Go.Proofs.YtigkdoicmcdbhaaGreat.Fc (PieceP XattrP LinkP NodeC pieceC xattrC linkC nodeC stateC)
open Go.Proofs.YtigkdoicmcdbhaaGreat.Sr (EOwn GrewE zeroS)
open Go.Proofs.YtigkdoicmcdbhaaGreat.Stab (EOut eown_nil eown_sl)
open Go.Proofs.YtigkdoicmcdbhaaGreat.Stl (IdxIs any_take any_hit isId filter_yes filter_no filter_len eown_below eown_mono)
open Go.Proofs.YtigkdoicmcdbhaaGreat.Vc (vecC stC eql_st neq_st)
set_option linter.unusedVariables false set_option linter.unusedSimpArgs false

theorem enters {P : Program} {f : FuncId} {fn : Func} {c : Code} (hf : P.funcs[f]? = some fn) (hname : (fn.name == "runtime.NumGoroutine") = false) (hb : fn.body = some c) (args : Array Value) (V : World) : (callFunc f args).run P V = .ok (.enter f args) V := by
  have h2 : ¬ fn.name = "runtime.NumGoroutine" := by simpa using hname
  simp [callFunc, go_sem, hf, h2, hb]
def befB (a b : Fc.EventC) : Bool := Vc.hasB b.knew a.at_.1 a.at_.2
def knownB (vol : Int) (seen : Nat → Int) (e : Fc.EventC) : Bool := decide (e.vol = vol) && Vc.hasB seen e.at_.1 e.at_.2
theorem before_any (a b : Fc.EventC) (w : World) : Calls Tryz.prog 20 #[.agg (Fc.eventC a), .agg (Fc.eventC b)] w fun e w' => e = .returned (.bool (befB a b)) ∧ Below w.heap.size w w' := by
  have HB0 := Lib.hid (((Below.refl w.heap.size w).alloc (Nat.le_refl _) (.cells (Fc.eventC a) 34)).alloc (by simp) (.cells (Fc.eventC b) 34))
  have HX := Lib.hid ((Has.fresh w 34 (Fc.eventC a)).past (.cells (Fc.eventC b) 34))
  have n1 : Has ((w.alloc (.cells (Fc.eventC a) 34)).alloc (.cells (Fc.eventC b) 34)) (w.heap.size + 1) 34 (Fc.eventC b) := by have q := Has.fresh (w.alloc (.cells (Fc.eventC a) 34)) 34 (Fc.eventC b); rw [World.size_alloc] at q; exact q
  have HY := Lib.hid n1
  have HC := Lib.hid (fun V => by have q := Vc.has_any b.knew a.at_.1 a.at_.2 V; unfold stC at q; exact q)
  have HD := Lib.hid (show befB a b = Vc.hasB b.knew a.at_.1 a.at_.2 from rfl)
  clear n1
  go_enter Tryz.func20, Tryz.ntmps20
  go_wp2_with (first | ((with_reducible refine Who.wpList_loadC 24 (.tmp 5) rfl ((w.heap.size + 1)) 3 (vecC b.knew) ?_); refine And.intro ⟨by rfl, by rfl, ⟨_, Tryz.underlying24, rfl⟩, Sr.info_vec⟩ (And.intro (Smr.rangeOf HY.out 3 _ Smr.rknew) ?_); (try simp only [Act.put, List.setIfInBounds_toArray, List.set_cons_zero, List.set_cons_succ])) | ((with_reducible refine Who.wpList_loadC 26 (.tmp 7) rfl (w.heap.size) 0 (#[.int .i64 a.at_.1, .int .i64 a.at_.2]) ?_); refine And.intro ⟨by rfl, by rfl, ⟨_, Tryz.underlying26, rfl⟩, Sr.info_st⟩ (And.intro (Smr.rangeOf HX.out 0 _ Smr.rat2) ?_); (try simp only [Act.put, List.setIfInBounds_toArray, List.set_cons_zero, List.set_cons_succ])) | fail)
  refine (HC.out _).mono ?_
  rintro q w2 ⟨rfl, hb⟩
  have HB2 := Lib.hid (HB0.out.trans (hb.mono HB0.out.size))
  clear hb
  go_wp2
  go_ret
  exact ⟨by rw [HD.out]; rfl, HB2.out⟩
theorem rbefore_any (a b : Fc.EventC) (w : World) : Calls Tryz.prog 23 #[.agg (Fc.eventC a), .agg (Fc.eventC b)] w fun e w' => e = .returned (.bool (befB a b)) ∧ Below w.heap.size w w' := by
  have HB0 := Lib.hid (((Below.refl w.heap.size w).alloc (Nat.le_refl _) (.cells (Fc.eventC a) 34)).alloc (by simp) (.cells (Fc.eventC b) 34))
  have HX := Lib.hid ((Has.fresh w 34 (Fc.eventC a)).past (.cells (Fc.eventC b) 34))
  have n1 : Has ((w.alloc (.cells (Fc.eventC a) 34)).alloc (.cells (Fc.eventC b) 34)) (w.heap.size + 1) 34 (Fc.eventC b) := by have q := Has.fresh (w.alloc (.cells (Fc.eventC a) 34)) 34 (Fc.eventC b); rw [World.size_alloc] at q; exact q
  have HY := Lib.hid n1
  have HC := Lib.hid (fun V => by have q := Vc.rhas_any b.knew a.at_.1 a.at_.2 V; unfold stC at q; exact q)
  have HD := Lib.hid (show befB a b = Vc.hasB b.knew a.at_.1 a.at_.2 from rfl)
  clear n1
  go_enter Tryz.func23, Tryz.ntmps23
  go_wp2_with (first | ((with_reducible refine Who.wpList_loadC 24 (.tmp 5) rfl ((w.heap.size + 1)) 3 (vecC b.knew) ?_); refine And.intro ⟨by rfl, by rfl, ⟨_, Tryz.underlying24, rfl⟩, Sr.info_vec⟩ (And.intro (Smr.rangeOf HY.out 3 _ Smr.rknew) ?_); (try simp only [Act.put, List.setIfInBounds_toArray, List.set_cons_zero, List.set_cons_succ])) | ((with_reducible refine Who.wpList_loadC 26 (.tmp 7) rfl (w.heap.size) 0 (#[.int .i64 a.at_.1, .int .i64 a.at_.2]) ?_); refine And.intro ⟨by rfl, by rfl, ⟨_, Tryz.underlying26, rfl⟩, Sr.info_st⟩ (And.intro (Smr.rangeOf HX.out 0 _ Smr.rat2) ?_); (try simp only [Act.put, List.setIfInBounds_toArray, List.set_cons_zero, List.set_cons_succ])) | fail)
  refine (HC.out _).mono ?_
  rintro q w2 ⟨rfl, hb⟩
  have HB2 := Lib.hid (HB0.out.trans (hb.mono HB0.out.size))
  clear hb
  go_wp2
  go_ret
  exact ⟨by rw [HD.out]; rfl, HB2.out⟩
theorem known1_any (e : Fc.EventC) (vol : Int) (seen : Nat → Int) (g h : Nat) (w : World) (hg : Has w g 3 #[.int .i64 vol]) (hh : Has w h 24 (vecC seen)) : Calls Tryz.prog 25 #[.agg (Fc.eventC e), .pointer (some ⟨g, 0, none⟩), .pointer (some ⟨h, 0, none⟩)] w fun q w' => q = .returned (.bool (knownB vol seen e)) ∧ Below w.heap.size w w' := by
  have HB0 := Lib.hid ((Below.refl w.heap.size w).alloc (Nat.le_refl _) (.cells (Fc.eventC e) 34))
  have HX := Lib.hid (Has.fresh w 34 (Fc.eventC e))
  have HH := Lib.hid (hh.past (.cells (Fc.eventC e) 34))
  have c2 : (w.alloc (.cells (Fc.eventC e) 34)).cell? ⟨w.heap.size, 2, none⟩ = some (.int .i64 e.vol) := HX.out.at_ 2
  have c0 : (w.alloc (.cells (Fc.eventC e) 34)).cell? ⟨g, 0, none⟩ = some (.int .i64 vol) := (hg.past (.cells (Fc.eventC e) 34)).at_ 0
  have HC := Lib.hid (fun V => by have q := Vc.has_any seen e.at_.1 e.at_.2 V; unfold stC at q; exact q)
  have HD := Lib.hid (show knownB vol seen e = (decide (e.vol = vol) && Vc.hasB seen e.at_.1 e.at_.2) from rfl)
  clear hg hh
  go_enter Tryz.func25, Tryz.ntmps25
  by_cases hv : e.vol = vol
  · have HV := Lib.hid (show knownB vol seen e = Vc.hasB seen e.at_.1 e.at_.2 by rw [HD.out, decide_eq_true hv]; rfl)
    go_wp2_with (first | ((with_reducible refine Who.wpList_loadC 24 (.tmp 2) rfl (h) 0 (vecC seen) ?_); refine And.intro ⟨by rfl, by rfl, ⟨_, Tryz.underlying24, rfl⟩, Sr.info_vec⟩ (And.intro (Who.has_range HH.out) ?_); (try simp only [Act.put, List.setIfInBounds_toArray, List.set_cons_zero, List.set_cons_succ])) | ((with_reducible refine Who.wpList_loadC 26 (.tmp 11) rfl (w.heap.size) 0 (#[.int .i64 e.at_.1, .int .i64 e.at_.2]) ?_); refine And.intro ⟨by rfl, by rfl, ⟨_, Tryz.underlying26, rfl⟩, Sr.info_st⟩ (And.intro (Smr.rangeOf HX.out 0 _ Smr.rat2) ?_); (try simp only [Act.put, List.setIfInBounds_toArray, List.set_cons_zero, List.set_cons_succ])) | fail)
    refine (HC.out _).mono ?_
    rintro q w2 ⟨rfl, hb⟩
    have HB2 := Lib.hid (HB0.out.trans (hb.mono HB0.out.size))
    clear hb
    go_wp2
    go_ret
    exact ⟨by rw [HV.out]; rfl, HB2.out⟩
  · have HV := Lib.hid (show knownB vol seen e = false by rw [HD.out, decide_eq_false hv]; rfl)
    go_wp2_with fail
    go_ret
    exact ⟨by rw [HV.out]; rfl, HB0.out⟩
theorem known_any (A : Option Addr) (n c : Nat) (es : List Fc.EventC) (vol : Int) (seen : Nat → Int) (hn : n ≤ 4000000) (w : World) (hr : Fc.SRow w 21 Fc.eventC A n es) : Calls Tryz.prog 9 #[.slice A n c, .int .i64 vol, .agg (vecC seen)] w (EOut (es.filter (knownB vol seen)) w) := by
  have hb0 : Below w.heap.size w ((w.alloc (.cells #[.int .i64 vol] 3)).alloc (.cells (vecC seen) 24)) := ((Below.refl w.heap.size w).alloc (Nat.le_refl _) _).alloc (by simp) _
  have hg : Has ((w.alloc (.cells #[.int .i64 vol] 3)).alloc (.cells (vecC seen) 24)) w.heap.size 3 #[.int .i64 vol] := (Has.fresh w 3 #[.int .i64 vol]).past _
  have hh : Has ((w.alloc (.cells #[.int .i64 vol] 3)).alloc (.cells (vecC seen) 24)) (w.heap.size + 1) 24 (vecC seen) := by have q := Has.fresh (w.alloc (.cells #[.int .i64 vol] 3)) 24 (vecC seen); rw [World.size_alloc] at q; exact q
  have HB0 := Lib.hid hb0
  have HT := Lib.hid (those_any A n c es 25 #[.pointer (some ⟨w.heap.size, 0, none⟩), .pointer (some ⟨w.heap.size + 1, 0, none⟩)] (fun args V => enters Tryz.func25 (by kernel_rfl) rfl args V) (knownB vol seen) hn _ (hr.below hb0) (fun V hV x _ => known1_any x vol seen _ _ V (hg.below hV) (hh.below hV)))
  clear hr hb0 hg hh
  go_enter Tryz.func9, Tryz.ntmps9
  go_wp2_with fail
  refine HT.out.mono ?_
  rintro q w2 ⟨v, rfl, hv, hb⟩
  have HV := Lib.hid (eown_mono hv HB0.out.size)
  have HB2 := Lib.hid (HB0.out.trans (hb.mono HB0.out.size))
  clear hv hb
  go_wp2
  go_ret
  exact ⟨_, rfl, HV.out, HB2.out⟩
structure KnI (seen : Nat → Int) (w wr : World) (u : Value) (l : List Fc.EventC) : Prop where
  below : Below w.heap.size w wr
  has : Has wr w.heap.size 24 (vecC seen)
  row : EOwn wr (w.heap.size + 1) u l
theorem KnI.start (seen : Nat → Int) (w : World) : KnI seen w (w.alloc (.cells (vecC seen) 24)) (.slice none 0 0) [] := ⟨(Below.refl w.heap.size w).alloc (Nat.le_refl _) _, Has.fresh w _ _, eown_nil _ _⟩
theorem KnI.low {seen : Nat → Int} {w wr w2 : World} {u : Value} {l : List Fc.EventC} (h : KnI seen w wr u l) (hb : Below wr.heap.size wr w2) : KnI seen w w2 u l := ⟨h.below.trans (hb.mono h.below.size), h.has.below hb, eown_below h.row hb⟩
theorem KnI.grew {seen : Nat → Int} {w wr w2 : World} {u u2 : Value} {l : List Fc.EventC} {e : Fc.EventC} (h : KnI seen w wr u l) (hg : GrewE (w.heap.size + 1) wr w2 u u2 l e) : KnI seen w w2 u2 (l ++ [e]) := ⟨h.below.trans (hg.below.mono (Nat.le_succ _)), Stl.has_low h.has hg.below (Nat.lt_succ_self _), hg.row⟩
set_option maxRecDepth 100000 in
set_option maxHeartbeats 4000000 in
theorem rknown_any (A : Option Addr) (n c : Nat) (es : List Fc.EventC) (vol : Int) (seen : Nat → Int) (hn : n ≤ 4000000) (w : World) (hr : Fc.SRow w 21 Fc.eventC A n es) : Calls Tryz.prog 10 #[.slice A n c, .int .i64 vol, .agg (vecC seen)] w (EOut (es.filter (knownB vol seen)) w) := by
  have H0 := Lib.hid (KnI.start seen w)
  have HR := Lib.hid hr
  have HLN := Lib.hid hr.len
  have halv := Sr.alloc_event
  clear hr
  go_enter Tryz.func10, Tryz.ntmps10
  go_wp2
  go_loopw [7, 12] (fun u i wr => ∃ j : Nat, i = .int .i64 j ∧ j ≤ n ∧ Hid (KnI seen w wr u ((es.take j).filter (knownB vol seen)))) (fun _ i _ => n - (intOf i).toNat)
  case atStart => exact ⟨0, rfl, Nat.zero_le _, H0⟩
  case round =>
    clear H0
    obtain ⟨j, rfl, hj, HI⟩ := hrel
    by_cases hlt : j < n
    · obtain ⟨b, off, rfl, hbl, hx, mr⟩ := (HR.out.below HI.out.below).range (i := j) hlt
      have HY := Lib.hid (filter_yes (knownB vol seen) hx)
      have HN := Lib.hid (filter_no (knownB vol seen) hx)
      have HLL : Hid (((es.take j).filter (knownB vol seen)).length ≤ 4000000) := Lib.hid (Nat.le_trans (filter_len _ _) (by rw [HLN.out]; exact hn))
      obtain ⟨e, he⟩ : ∃ e, e = es[j] := ⟨_, rfl⟩
      rw [← he] at mr HY HN
      have MR := Lib.hid mr
      have hb1 := (Below.refl wr.heap.size wr).alloc (Nat.le_refl _) (.cells (Fc.eventC e) 34)
      have HI1 := Lib.hid (HI.out.low hb1)
      have HX1 := Lib.hid (Has.fresh wr 34 (Fc.eventC e))
      have c2 : (wr.alloc (.cells (Fc.eventC e) 34)).cell? ⟨wr.heap.size, 2, none⟩ = some (.int .i64 e.vol) := HX1.out.at_ 2
      obtain ⟨L, hL⟩ : ∃ L, L = (es.take j).filter (knownB vol seen) := ⟨_, rfl⟩
      rw [← hL] at HI HI1 HY HN HLL
      have HC := Lib.hid (fun V => by have q := Vc.rhas_any seen e.at_.1 e.at_.2 V; unfold stC at q; exact q)
      have HD := Lib.hid (show knownB vol seen e = (decide (e.vol = vol) && Vc.hasB seen e.at_.1 e.at_.2) from rfl)
      obtain ⟨hz, hhz⟩ : ∃ hz, hz = Vc.hasB seen e.at_.1 e.at_.2 := ⟨_, rfl⟩
      rw [← hhz] at HC HD
      clear he mr hx hbl hb1 hL hhz
      obtain ⟨A2, c2', rfl, _, _⟩ := eown_sl HI.out.row
      by_cases hv : e.vol = vol
      · have HV := Lib.hid (show knownB vol seen e = hz by rw [HD.out, decide_eq_true hv]; rfl)
        go_wp2_with (first | ((with_reducible refine Who.wpList_loadC 34 (.tmp 14) rfl (b) (off + j * 21) (Fc.eventC e) ?_); refine And.intro ⟨by rfl, by rfl, ⟨_, Tryz.underlying34, rfl⟩, Sr.info_event⟩ (And.intro (MR.out) ?_); (try simp only [Act.put, List.setIfInBounds_toArray, List.set_cons_zero, List.set_cons_succ])) | ((with_reducible refine Who.wpList_newC 34 9 (.tmp 15) rfl rfl rfl (Fc.eventC Sr.zeroE) (Fc.eventC e) ?_); refine And.intro ⟨rfl, rfl, rfl, halv, by rfl, by rfl, Sr.info_event, rfl, Sr.event_one _⟩ ?_; (try simp only [Act.put, List.setIfInBounds_toArray, List.set_cons_zero, List.set_cons_succ]); (try simp only [World.size_alloc])) | ((with_reducible refine Who.wpList_loadC 24 (.tmp 5) rfl (w.heap.size) 0 (vecC seen) ?_); refine And.intro ⟨by rfl, by rfl, ⟨_, Tryz.underlying24, rfl⟩, Sr.info_vec⟩ (And.intro (Who.has_range HI1.out.has) ?_); (try simp only [Act.put, List.setIfInBounds_toArray, List.set_cons_zero, List.set_cons_succ])) | ((with_reducible refine Who.wpList_loadC 26 (.tmp 22) rfl (wr.heap.size) 0 (#[.int .i64 e.at_.1, .int .i64 e.at_.2]) ?_); refine And.intro ⟨by rfl, by rfl, ⟨_, Tryz.underlying26, rfl⟩, Sr.info_st⟩ (And.intro (Smr.rangeOf HX1.out 0 _ Smr.rat2) ?_); (try simp only [Act.put, List.setIfInBounds_toArray, List.set_cons_zero, List.set_cons_succ])) | fail)
        refine (HC.out _).mono ?_
        rintro q w2 ⟨rfl, hb⟩
        have HI2 := Lib.hid (HI1.out.low hb)
        have HX2 := Lib.hid (HX1.out.below hb)
        have HBG := Lib.hid HI2.out.has.bound
        clear hb c2 HC HI1 HX1 hv
        cases hz with
        | true =>
          have HQ := Lib.hid (HY.out HV.out)
          go_wp2_with (first | ((with_reducible refine Who.wpList_loadC 34 (.tmp 9) rfl (wr.heap.size) 0 (Fc.eventC e) ?_); refine And.intro ⟨by rfl, by rfl, ⟨_, Tryz.underlying34, rfl⟩, Sr.info_event⟩ (And.intro (Who.has_range HX2.out) ?_); (try simp only [Act.put, List.setIfInBounds_toArray, List.set_cons_zero, List.set_cons_succ])) | ((with_reducible refine Sr.wpList_build_ev (.tmp 27) rfl e ?_); refine And.intro ⟨rfl, by rfl⟩ ?_; (try simp only [Act.put, List.setIfInBounds_toArray, List.set_cons_zero, List.set_cons_succ])) | (at_builtin; (with_reducible refine Sr.wpl_event (B := w.heap.size + 1) (u := .slice A2 L.length c2') (es := L) (e := e) (.tmp 26) (.tmp 28) rfl rfl ?_); refine And.intro ⟨⟨by rfl, ⟨_, by rfl, by simp⟩⟩, HI2.out.row, HBG.out, HLL.out⟩ ?_) | fail)
          intro u3 w3 hg
          have HI3 := Lib.hid (HI2.out.grew hg)
          clear hg
          go_wp2
          go_roundw
          case rel => exact ⟨j + 1, by go_num, by omega, Lib.hid (by rw [HQ.out]; exact HI3.out)⟩
          case measure => simp [intOf]; omega
        | false =>
          have HQ := Lib.hid (HN.out HV.out)
          go_wp2
          go_roundw
          case rel => exact ⟨j + 1, by go_num, by omega, Lib.hid (by rw [HQ.out]; exact HI2.out)⟩
          case measure => simp [intOf]; omega
      · have HV := Lib.hid (show knownB vol seen e = false by rw [HD.out, decide_eq_false hv]; rfl)
        have HQ := Lib.hid (HN.out HV.out)
        go_wp2_with (first | ((with_reducible refine Who.wpList_loadC 34 (.tmp 14) rfl (b) (off + j * 21) (Fc.eventC e) ?_); refine And.intro ⟨by rfl, by rfl, ⟨_, Tryz.underlying34, rfl⟩, Sr.info_event⟩ (And.intro (MR.out) ?_); (try simp only [Act.put, List.setIfInBounds_toArray, List.set_cons_zero, List.set_cons_succ])) | ((with_reducible refine Who.wpList_newC 34 9 (.tmp 15) rfl rfl rfl (Fc.eventC Sr.zeroE) (Fc.eventC e) ?_); refine And.intro ⟨rfl, rfl, rfl, halv, by rfl, by rfl, Sr.info_event, rfl, Sr.event_one _⟩ ?_; (try simp only [Act.put, List.setIfInBounds_toArray, List.set_cons_zero, List.set_cons_succ]); (try simp only [World.size_alloc])) | fail)
        go_roundw
        case rel => exact ⟨j + 1, by go_num, by omega, Lib.hid (by rw [HQ.out]; exact HI1.out)⟩
        case measure => simp [intOf]; omega
    · have HQ := Lib.hid (show es.take j = es from List.take_of_length_le (by rw [HLN.out]; omega))
      go_wp2
      go_ret
      exact ⟨_, rfl, by have := HI.out.row; rw [HQ.out] at this; exact eown_mono this (Nat.le_succ _), HI.out.below⟩
end Go.Proofs.YtigkdoicmcdbhaaGreat.Md
