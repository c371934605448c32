/- Model: the events of which something holds; whether something holds of one: by any closure. -/
import Derived.Test.YtigkdoicmcdbhaaGreatStlA
import Derived.Test.YtigkdoicmcdbhaaGreatSmrC
namespace Go.Proofs.YtigkdoicmcdbhaaGreat.Md
open Go.RowKit Go.Proofs.YtigkdoicmcdbhaaGreat.Mem
open Go.Proofs.YtigkdoicmcdbhaaGreat.Fc (PieceP XattrP LinkP NodeC pieceC xattrC linkC nodeC stateC)
open Go.Proofs.YtigkdoicmcdbhaaGreat.Sr (EOwn GrewE zeroS)
open Go.Proofs.YtigkdoicmcdbhaaGreat.Stab (EOut eown_nil eown_sl)
open Go.Proofs.YtigkdoicmcdbhaaGreat.Stl (IdxIs any_take any_hit isId filter_yes filter_no filter_len eown_below eown_mono)
open Go.Proofs.YtigkdoicmcdbhaaGreat.Vc (vecC stC eql_st)
set_option linter.unusedVariables false set_option linter.unusedSimpArgs false

set_option maxRecDepth 100000 in
set_option maxHeartbeats 2000000 in
theorem index_event (A : Option Addr) (n c : Nat) (xs : List Fc.EventC) (fid : FuncId) (caps : Array Value) (hcf : ∀ args V, (callFunc fid args).run Tryz.prog V = .ok (.enter fid args) V) (P : Fc.EventC → Bool) (hn : n ≤ 9223372036854775807) (w : World) (hr : Fc.SRow w 21 Fc.eventC A n xs) (h : ∀ V, Below w.heap.size w V → ∀ x ∈ xs, Calls Tryz.prog fid (#[.agg (Fc.eventC x)] ++ caps) V fun e V' => e = .returned (.bool (P x)) ∧ Below V.heap.size V V') : Calls Tryz.prog 44 #[.slice A n c, .func (.func fid) #[] caps] w fun e w' => IdxIs (xs.any P) e ∧ Below w.heap.size w w' := by
  have HR := Lib.hid hr
  have HG := Lib.hid h
  have HLN := Lib.hid hr.len
  clear hr h
  go_enter Tryz.func44, Tryz.ntmps44
  go_wp2
  go_loopw [8] (fun i wr => ∃ j : Nat, i = .int .i64 j ∧ j ≤ n ∧ Hid ((xs.take j).any P = false) ∧ Hid (Below w.heap.size w wr)) (fun i _ => n - (intOf i).toNat)
  case atStart => exact ⟨0, rfl, Nat.zero_le _, Lib.hid rfl, Lib.hid (Below.refl _ _)⟩
  case round =>
    obtain ⟨j, rfl, hj, HF, HB⟩ := hrel
    by_cases hlt : j < n
    · obtain ⟨b, off, rfl, hbl, hx, mr⟩ := (HR.out.below HB.out).range (i := j) hlt
      have HTK := Lib.hid (any_take P hx HF.out)
      have HAN := Lib.hid (any_hit P hx)
      have HZ := Lib.hid (HG.out _ HB.out _ (List.getElem_mem hx))
      generalize xs[j] = y at *
      have MR := Lib.hid mr
      clear mr hx hbl HF
      go_wp2_with (first | ((with_reducible refine Who.wpList_loadC 34 (.tmp 14) rfl (b) (off + j * 21) (Fc.eventC y) ?_); refine And.intro ⟨by rfl, by rfl, ⟨_, Tryz.underlying34, rfl⟩, Sr.info_event⟩ (And.intro (MR.out) ?_); (try simp only [Act.put, List.setIfInBounds_toArray, List.set_cons_zero, List.set_cons_succ])) | fail)
      refine HZ.out.mono ?_
      rintro e w2 ⟨rfl, hb⟩
      have HB2 := Lib.hid (HB.out.trans (hb.mono HB.out.size))
      clear hb HZ
      cases hq : P y with
      | true =>
        have HQ := Lib.hid (HAN.out hq)
        clear hq
        go_wp2
        go_ret
        exact ⟨⟨j, rfl, by rw [HQ.out]; simp⟩, HB2.out⟩
      | false =>
        have HQ := Lib.hid (HTK.out hq)
        clear hq
        go_wp2
        go_roundw
        case rel => exact ⟨j + 1, by go_num, by omega, HQ, HB2⟩
        case measure => simp [intOf]; omega
    · have HQ := Lib.hid (show xs.any P = false by have := HF.out; rwa [List.take_of_length_le (by rw [HLN.out]; omega)] at this)
      go_wp2
      go_ret
      exact ⟨⟨-1, rfl, by rw [HQ.out]; rfl⟩, HB.out⟩
set_option maxRecDepth 100000 in
theorem contains_event (A : Option Addr) (n c : Nat) (xs : List Fc.EventC) (fid : FuncId) (caps : Array Value) (hcf : ∀ args V, (callFunc fid args).run Tryz.prog V = .ok (.enter fid args) V) (P : Fc.EventC → Bool) (hn : n ≤ 9223372036854775807) (w : World) (hr : Fc.SRow w 21 Fc.eventC A n xs) (h : ∀ V, Below w.heap.size w V → ∀ x ∈ xs, Calls Tryz.prog fid (#[.agg (Fc.eventC x)] ++ caps) V fun e V' => e = .returned (.bool (P x)) ∧ Below V.heap.size V V') : Calls Tryz.prog 22 #[.slice A n c, .func (.func fid) #[] caps] w fun e w' => e = .returned (.bool (xs.any P)) ∧ Below w.heap.size w w' := by
  have HI := Lib.hid (index_event A n c xs fid caps hcf P hn w hr h)
  clear hr h
  go_enter Tryz.func22, Tryz.ntmps22
  go_wp2_with fail
  refine HI.out.mono ?_
  rintro e w2 ⟨⟨i, rfl, hi⟩, hb⟩
  have HB := Lib.hid hb
  have HQ := Lib.hid hi
  clear hb hi
  go_wp2
  go_ret
  exact ⟨by rw [← HQ.out]; rfl, HB.out⟩
set_option maxRecDepth 100000 in
set_option maxHeartbeats 2000000 in
theorem index_node (A : Option Addr) (n c : Nat) (xs : List NodeC) (fid : FuncId) (caps : Array Value) (hcf : ∀ args V, (callFunc fid args).run Tryz.prog V = .ok (.enter fid args) V) (P : NodeC → Bool) (hn : n ≤ 9223372036854775807) (w : World) (hr : Fc.SRow w 13 nodeC A n xs) (h : ∀ V, Below w.heap.size w V → ∀ x ∈ xs, Calls Tryz.prog fid (#[.agg (nodeC x)] ++ caps) V fun e V' => e = .returned (.bool (P x)) ∧ Below V.heap.size V V') : Calls Tryz.prog 47 #[.slice A n c, .func (.func fid) #[] caps] w fun e w' => IdxIs (xs.any P) e ∧ Below w.heap.size w w' := by
  have HR := Lib.hid hr
  have HG := Lib.hid h
  have HLN := Lib.hid hr.len
  clear hr h
  go_enter Tryz.func47, Tryz.ntmps47
  go_wp2
  go_loopw [8] (fun i wr => ∃ j : Nat, i = .int .i64 j ∧ j ≤ n ∧ Hid ((xs.take j).any P = false) ∧ Hid (Below w.heap.size w wr)) (fun i _ => n - (intOf i).toNat)
  case atStart => exact ⟨0, rfl, Nat.zero_le _, Lib.hid rfl, Lib.hid (Below.refl _ _)⟩
  case round =>
    obtain ⟨j, rfl, hj, HF, HB⟩ := hrel
    by_cases hlt : j < n
    · obtain ⟨b, off, rfl, hbl, hx, mr⟩ := (HR.out.below HB.out).range (i := j) hlt
      have HTK := Lib.hid (any_take P hx HF.out)
      have HAN := Lib.hid (any_hit P hx)
      have HZ := Lib.hid (HG.out _ HB.out _ (List.getElem_mem hx))
      generalize xs[j] = y at *
      have MR := Lib.hid mr
      clear mr hx hbl HF
      go_wp2_with (first | ((with_reducible refine Who.wpList_loadC 60 (.tmp 14) rfl (b) (off + j * 13) (nodeC y) ?_); refine And.intro ⟨by rfl, by rfl, ⟨_, Tryz.underlying60, rfl⟩, Sr.info_inode⟩ (And.intro (MR.out) ?_); (try simp only [Act.put, List.setIfInBounds_toArray, List.set_cons_zero, List.set_cons_succ])) | fail)
      refine HZ.out.mono ?_
      rintro e w2 ⟨rfl, hb⟩
      have HB2 := Lib.hid (HB.out.trans (hb.mono HB.out.size))
      clear hb HZ
      cases hq : P y with
      | true =>
        have HQ := Lib.hid (HAN.out hq)
        clear hq
        go_wp2
        go_ret
        exact ⟨⟨j, rfl, by rw [HQ.out]; simp⟩, HB2.out⟩
      | false =>
        have HQ := Lib.hid (HTK.out hq)
        clear hq
        go_wp2
        go_roundw
        case rel => exact ⟨j + 1, by go_num, by omega, HQ, HB2⟩
        case measure => simp [intOf]; omega
    · have HQ := Lib.hid (show xs.any P = false by have := HF.out; rwa [List.take_of_length_le (by rw [HLN.out]; omega)] at this)
      go_wp2
      go_ret
      exact ⟨⟨-1, rfl, by rw [HQ.out]; rfl⟩, HB.out⟩
set_option maxRecDepth 100000 in
theorem contains_node (A : Option Addr) (n c : Nat) (xs : List NodeC) (fid : FuncId) (caps : Array Value) (hcf : ∀ args V, (callFunc fid args).run Tryz.prog V = .ok (.enter fid args) V) (P : NodeC → Bool) (hn : n ≤ 9223372036854775807) (w : World) (hr : Fc.SRow w 13 nodeC A n xs) (h : ∀ V, Below w.heap.size w V → ∀ x ∈ xs, Calls Tryz.prog fid (#[.agg (nodeC x)] ++ caps) V fun e V' => e = .returned (.bool (P x)) ∧ Below V.heap.size V V') : Calls Tryz.prog 31 #[.slice A n c, .func (.func fid) #[] caps] w fun e w' => e = .returned (.bool (xs.any P)) ∧ Below w.heap.size w w' := by
  have HI := Lib.hid (index_node A n c xs fid caps hcf P hn w hr h)
  clear hr h
  go_enter Tryz.func31, Tryz.ntmps31
  go_wp2_with fail
  refine HI.out.mono ?_
  rintro e w2 ⟨⟨i, rfl, hi⟩, hb⟩
  have HB := Lib.hid hb
  have HQ := Lib.hid hi
  clear hb hi
  go_wp2
  go_ret
  exact ⟨by rw [← HQ.out]; rfl, HB.out⟩
set_option maxRecDepth 100000 in
set_option maxHeartbeats 2000000 in
theorem index_link (A : Option Addr) (n c : Nat) (xs : List LinkP) (fid : FuncId) (caps : Array Value) (hcf : ∀ args V, (callFunc fid args).run Tryz.prog V = .ok (.enter fid args) V) (P : LinkP → Bool) (hn : n ≤ 9223372036854775807) (w : World) (hr : Fc.SRow w 25 linkC A n xs) (h : ∀ V, Below w.heap.size w V → ∀ x ∈ xs, Calls Tryz.prog fid (#[.agg (linkC x)] ++ caps) V fun e V' => e = .returned (.bool (P x)) ∧ Below V.heap.size V V') : Calls Tryz.prog 48 #[.slice A n c, .func (.func fid) #[] caps] w fun e w' => IdxIs (xs.any P) e ∧ Below w.heap.size w w' := by
  have HR := Lib.hid hr
  have HG := Lib.hid h
  have HLN := Lib.hid hr.len
  clear hr h
  go_enter Tryz.func48, Tryz.ntmps48
  go_wp2
  go_loopw [8] (fun i wr => ∃ j : Nat, i = .int .i64 j ∧ j ≤ n ∧ Hid ((xs.take j).any P = false) ∧ Hid (Below w.heap.size w wr)) (fun i _ => n - (intOf i).toNat)
  case atStart => exact ⟨0, rfl, Nat.zero_le _, Lib.hid rfl, Lib.hid (Below.refl _ _)⟩
  case round =>
    obtain ⟨j, rfl, hj, HF, HB⟩ := hrel
    by_cases hlt : j < n
    · obtain ⟨b, off, rfl, hbl, hx, mr⟩ := (HR.out.below HB.out).range (i := j) hlt
      have HTK := Lib.hid (any_take P hx HF.out)
      have HAN := Lib.hid (any_hit P hx)
      have HZ := Lib.hid (HG.out _ HB.out _ (List.getElem_mem hx))
      generalize xs[j] = y at *
      have MR := Lib.hid mr
      clear mr hx hbl HF
      go_wp2_with (first | ((with_reducible refine Who.wpList_loadC 63 (.tmp 14) rfl (b) (off + j * 25) (linkC y) ?_); refine And.intro ⟨by rfl, by rfl, ⟨_, Tryz.underlying63, rfl⟩, Sr.info_link⟩ (And.intro (MR.out) ?_); (try simp only [Act.put, List.setIfInBounds_toArray, List.set_cons_zero, List.set_cons_succ])) | fail)
      refine HZ.out.mono ?_
      rintro e w2 ⟨rfl, hb⟩
      have HB2 := Lib.hid (HB.out.trans (hb.mono HB.out.size))
      clear hb HZ
      cases hq : P y with
      | true =>
        have HQ := Lib.hid (HAN.out hq)
        clear hq
        go_wp2
        go_ret
        exact ⟨⟨j, rfl, by rw [HQ.out]; simp⟩, HB2.out⟩
      | false =>
        have HQ := Lib.hid (HTK.out hq)
        clear hq
        go_wp2
        go_roundw
        case rel => exact ⟨j + 1, by go_num, by omega, HQ, HB2⟩
        case measure => simp [intOf]; omega
    · have HQ := Lib.hid (show xs.any P = false by have := HF.out; rwa [List.take_of_length_le (by rw [HLN.out]; omega)] at this)
      go_wp2
      go_ret
      exact ⟨⟨-1, rfl, by rw [HQ.out]; rfl⟩, HB.out⟩
set_option maxRecDepth 100000 in
theorem contains_link (A : Option Addr) (n c : Nat) (xs : List LinkP) (fid : FuncId) (caps : Array Value) (hcf : ∀ args V, (callFunc fid args).run Tryz.prog V = .ok (.enter fid args) V) (P : LinkP → Bool) (hn : n ≤ 9223372036854775807) (w : World) (hr : Fc.SRow w 25 linkC A n xs) (h : ∀ V, Below w.heap.size w V → ∀ x ∈ xs, Calls Tryz.prog fid (#[.agg (linkC x)] ++ caps) V fun e V' => e = .returned (.bool (P x)) ∧ Below V.heap.size V V') : Calls Tryz.prog 32 #[.slice A n c, .func (.func fid) #[] caps] w fun e w' => e = .returned (.bool (xs.any P)) ∧ Below w.heap.size w w' := by
  have HI := Lib.hid (index_link A n c xs fid caps hcf P hn w hr h)
  clear hr h
  go_enter Tryz.func32, Tryz.ntmps32
  go_wp2_with fail
  refine HI.out.mono ?_
  rintro e w2 ⟨⟨i, rfl, hi⟩, hb⟩
  have HB := Lib.hid hb
  have HQ := Lib.hid hi
  clear hb hi
  go_wp2
  go_ret
  exact ⟨by rw [← HQ.out]; rfl, HB.out⟩
structure ThI (w wr : World) (u : Value) (l : List Fc.EventC) : Prop where
  below : Below w.heap.size w wr
  row : EOwn wr w.heap.size u l
theorem ThI.low {w wr w2 : World} {u : Value} {l : List Fc.EventC} (h : ThI w wr u l) (hb : Below wr.heap.size wr w2) : ThI w w2 u l := ⟨h.below.trans (hb.mono h.below.size), eown_below h.row hb⟩
theorem ThI.grew {w wr w2 : World} {u u2 : Value} {l : List Fc.EventC} {e : Fc.EventC} (h : ThI w wr u l) (hg : GrewE w.heap.size wr w2 u u2 l e) : ThI w w2 u2 (l ++ [e]) := ⟨h.below.trans hg.below, hg.row⟩
set_option maxRecDepth 100000 in
set_option maxHeartbeats 4000000 in
theorem those_any (A : Option Addr) (n c : Nat) (es : List Fc.EventC) (fid : FuncId) (caps : Array Value) (hcf : ∀ args V, (callFunc fid args).run Tryz.prog V = .ok (.enter fid args) V) (P : Fc.EventC → Bool) (hn : n ≤ 4000000) (w : World) (hr : Fc.SRow w 21 Fc.eventC A n es) (h : ∀ V, Below w.heap.size w V → ∀ x ∈ es, Calls Tryz.prog fid (#[.agg (Fc.eventC x)] ++ caps) V fun e V' => e = .returned (.bool (P x)) ∧ Below V.heap.size V V') : Calls Tryz.prog 24 #[.slice A n c, .func (.func fid) #[] caps] w (EOut (es.filter P) w) := by
  have HR := Lib.hid hr
  have HLN := Lib.hid hr.len
  have HG := Lib.hid h
  have halv := Sr.alloc_event
  clear hr h
  go_enter Tryz.func24, Tryz.ntmps24
  go_wp2
  go_loopw [5, 10] (fun u i wr => ∃ j : Nat, i = .int .i64 j ∧ j ≤ n ∧ Hid (ThI w wr u ((es.take j).filter P))) (fun _ i _ => n - (intOf i).toNat)
  case atStart => exact ⟨0, rfl, Nat.zero_le _, Lib.hid ⟨Below.refl _ _, eown_nil _ _⟩⟩
  case round =>
    obtain ⟨j, rfl, hj, HI⟩ := hrel
    by_cases hlt : j < n
    · obtain ⟨b, off, rfl, hbl, hx, mr⟩ := (HR.out.below HI.out.below).range (i := j) hlt
      have HY := Lib.hid (filter_yes P hx)
      have HN := Lib.hid (filter_no P hx)
      have hb1 := (Below.refl wr.heap.size wr).alloc (Nat.le_refl _) (.cells (Fc.eventC es[j]) 34)
      have HZ := Lib.hid (HG.out _ (HI.out.low hb1).below _ (List.getElem_mem hx))
      have HLL : Hid (((es.take j).filter P).length ≤ 4000000) := Lib.hid (Nat.le_trans (filter_len _ _) (by rw [HLN.out]; exact hn))
      obtain ⟨e, he⟩ : ∃ e, e = es[j] := ⟨_, rfl⟩
      rw [← he] at mr HY HN HZ hb1
      have MR := Lib.hid mr
      have HI1 := Lib.hid (HI.out.low hb1)
      have HX1 := Lib.hid (Has.fresh wr 34 (Fc.eventC e))
      obtain ⟨L, hL⟩ : ∃ L, L = (es.take j).filter P := ⟨_, rfl⟩
      rw [← hL] at HI HI1 HY HN HLL
      clear he mr hx hbl hb1 hL
      obtain ⟨A2, c2, rfl, _, _⟩ := eown_sl HI.out.row
      go_wp2_with (first | ((with_reducible refine Who.wpList_loadC 34 (.tmp 12) rfl (b) (off + j * 21) (Fc.eventC e) ?_); refine And.intro ⟨by rfl, by rfl, ⟨_, Tryz.underlying34, rfl⟩, Sr.info_event⟩ (And.intro (MR.out) ?_); (try simp only [Act.put, List.setIfInBounds_toArray, List.set_cons_zero, List.set_cons_succ])) | ((with_reducible refine Who.wpList_newC 34 7 (.tmp 13) rfl rfl rfl (Fc.eventC Sr.zeroE) (Fc.eventC e) ?_); refine And.intro ⟨rfl, rfl, rfl, halv, by rfl, by rfl, Sr.info_event, rfl, Sr.event_one _⟩ ?_; (try simp only [Act.put, List.setIfInBounds_toArray, List.set_cons_zero, List.set_cons_succ]); (try simp only [World.size_alloc])) | ((with_reducible refine Who.wpList_loadC 34 (.tmp 7) rfl (wr.heap.size) 0 (Fc.eventC e) ?_); refine And.intro ⟨by rfl, by rfl, ⟨_, Tryz.underlying34, rfl⟩, Sr.info_event⟩ (And.intro (Who.has_range HX1.out) ?_); (try simp only [Act.put, List.setIfInBounds_toArray, List.set_cons_zero, List.set_cons_succ])) | fail)
      refine HZ.out.mono ?_
      rintro q w2 ⟨rfl, hb⟩
      have HI2 := Lib.hid (HI1.out.low hb)
      have HX2 := Lib.hid (HX1.out.below hb)
      have HBG := Lib.hid HI2.out.below.size
      clear hb HI1 HX1
      cases hq1 : P e with
      | true =>
        have HQ := Lib.hid (HY.out hq1)
        clear hq1
        go_wp2_with (first | ((with_reducible refine Who.wpList_loadC 34 (.tmp 7) rfl (wr.heap.size) 0 (Fc.eventC e) ?_); refine And.intro ⟨by rfl, by rfl, ⟨_, Tryz.underlying34, rfl⟩, Sr.info_event⟩ (And.intro (Who.has_range HX2.out) ?_); (try simp only [Act.put, List.setIfInBounds_toArray, List.set_cons_zero, List.set_cons_succ])) | ((with_reducible refine Sr.wpList_build_ev (.tmp 18) rfl e ?_); refine And.intro ⟨rfl, by rfl⟩ ?_; (try simp only [Act.put, List.setIfInBounds_toArray, List.set_cons_zero, List.set_cons_succ])) | (at_builtin; (with_reducible refine Sr.wpl_event (B := w.heap.size) (u := .slice A2 L.length c2) (es := L) (e := e) (.tmp 17) (.tmp 19) rfl rfl ?_); refine And.intro ⟨⟨by rfl, ⟨_, by rfl, by simp⟩⟩, HI2.out.row, HBG.out, HLL.out⟩ ?_) | fail)
        intro u3 w3 hg
        have HI3 := Lib.hid (HI2.out.grew hg)
        clear hg
        go_wp2
        go_roundw
        case rel => exact ⟨j + 1, by go_num, by omega, Lib.hid (by rw [HQ.out]; exact HI3.out)⟩
        case measure => simp [intOf]; omega
      | false =>
        have HQ := Lib.hid (HN.out hq1)
        clear hq1
        go_wp2
        go_roundw
        case rel => exact ⟨j + 1, by go_num, by omega, Lib.hid (by rw [HQ.out]; exact HI2.out)⟩
        case measure => simp [intOf]; omega
    · have HQ := Lib.hid (show es.take j = es from List.take_of_length_le (by rw [HLN.out]; omega))
      go_wp2
      go_ret
      exact ⟨_, rfl, by have := HI.out.row; rwa [HQ.out] at this, HI.out.below⟩
end Go.Proofs.YtigkdoicmcdbhaaGreat.Md
