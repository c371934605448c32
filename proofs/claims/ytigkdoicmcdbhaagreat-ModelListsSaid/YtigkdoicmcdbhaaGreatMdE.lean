/- Model: the events that wrote something. -/
import Derived.Test.YtigkdoicmcdbhaaGreatMdD
import Derived.Laws.EntriesVeiled
namespace Go.Proofs.YtigkdoicmcdbhaaGreat.Md
open Go.RowKit Go.Proofs.YtigkdoicmcdbhaaGreat.Mem
open Go.Proofs.YtigkdoicmcdbhaaGreat.Fc (PieceP XattrP LinkP NodeC pieceC xattrC linkC nodeC stateC)
open Go.Proofs.YtigkdoicmcdbhaaGreat.Sr (EOwn GrewE zeroS)
open Go.Proofs.YtigkdoicmcdbhaaGreat.Stab (EOut eown_nil eown_sl)
open Go.Proofs.YtigkdoicmcdbhaaGreat.Stl (IdxIs any_take any_hit isId filter_yes filter_no filter_len eown_below eown_mono)
open Go.Proofs.YtigkdoicmcdbhaaGreat.Vc (vecC stC eql_st neq_st)
set_option linter.unusedVariables false set_option linter.unusedSimpArgs false

theorem freshAt {w : World} {s : Nat} (t : TypeId) (C : Array Value) (h : w.heap.size = s) : Has (w.alloc (.cells C t)) s t C := by
  subst h
  exact Has.fresh w t C
set_option maxRecDepth 100000 in
set_option maxHeartbeats 2000000 in
theorem writers_any (A : Option Addr) (n c : Nat) (es : List Fc.EventC) (id : Int × Int) (what : Int) (hn : n ≤ 4000000) (w : World) (hr : Fc.SRow w 21 Fc.eventC A n es) (hf : ∀ e ∈ es, Fc.StateFit w e.d) : Calls Tryz.prog 11 #[.slice A n c, .agg #[.int .i64 id.1, .int .i64 id.2], .int .i64 what] w (EOut (es.filter (wroteE id what)) w) := by
  have HT := Lib.hid (show ∀ t4 t5, Calls Tryz.prog 24 #[.slice A n c, .func (.func 30) #[] #[.pointer (some ⟨w.heap.size + 1 + 1 + 1, 0, none⟩), .pointer (some ⟨w.heap.size + 1 + 1 + 1 + 1, 0, none⟩)]] (((((w.alloc (.cells #[.int .i64 id.1, .int .i64 id.2] 26)).alloc (.cells #[.int .i64 what] 3)).alloc (.cells #[.int .i64 0, .int .i64 0] 26)).alloc (.cells #[.func (.func 28) #[] #[.pointer (some ⟨w.heap.size, 0, none⟩), .pointer (some ⟨w.heap.size + 1, 0, none⟩), .pointer (some ⟨w.heap.size + 1 + 1, 0, none⟩)]] t4)).alloc (.cells #[.func (.func 29) #[] #[.pointer (some ⟨w.heap.size, 0, none⟩), .pointer (some ⟨w.heap.size + 1, 0, none⟩), .pointer (some ⟨w.heap.size + 1 + 1, 0, none⟩)]] t5)) (EOut (es.filter (wroteE id what)) w) from fun t4 t5 => by
    have hb : Below w.heap.size w (((((w.alloc (.cells #[.int .i64 id.1, .int .i64 id.2] 26)).alloc (.cells #[.int .i64 what] 3)).alloc (.cells #[.int .i64 0, .int .i64 0] 26)).alloc (.cells #[.func (.func 28) #[] #[.pointer (some ⟨w.heap.size, 0, none⟩), .pointer (some ⟨w.heap.size + 1, 0, none⟩), .pointer (some ⟨w.heap.size + 1 + 1, 0, none⟩)]] t4)).alloc (.cells #[.func (.func 29) #[] #[.pointer (some ⟨w.heap.size, 0, none⟩), .pointer (some ⟨w.heap.size + 1, 0, none⟩), .pointer (some ⟨w.heap.size + 1 + 1, 0, none⟩)]] t5)) := (((((Below.refl w.heap.size w).alloc (Nat.le_refl _) _).alloc (by simp) _).alloc (by simp; omega) _).alloc (by simp; omega) _).alloc (by simp; omega) _
    have h1 : Has (((((w.alloc (.cells #[.int .i64 id.1, .int .i64 id.2] 26)).alloc (.cells #[.int .i64 what] 3)).alloc (.cells #[.int .i64 0, .int .i64 0] 26)).alloc (.cells #[.func (.func 28) #[] #[.pointer (some ⟨w.heap.size, 0, none⟩), .pointer (some ⟨w.heap.size + 1, 0, none⟩), .pointer (some ⟨w.heap.size + 1 + 1, 0, none⟩)]] t4)).alloc (.cells #[.func (.func 29) #[] #[.pointer (some ⟨w.heap.size, 0, none⟩), .pointer (some ⟨w.heap.size + 1, 0, none⟩), .pointer (some ⟨w.heap.size + 1 + 1, 0, none⟩)]] t5)) w.heap.size 26 #[.int .i64 id.1, .int .i64 id.2] := ((((freshAt 26 #[.int .i64 id.1, .int .i64 id.2] rfl).past _).past _).past _).past _
    have h2 : Has (((((w.alloc (.cells #[.int .i64 id.1, .int .i64 id.2] 26)).alloc (.cells #[.int .i64 what] 3)).alloc (.cells #[.int .i64 0, .int .i64 0] 26)).alloc (.cells #[.func (.func 28) #[] #[.pointer (some ⟨w.heap.size, 0, none⟩), .pointer (some ⟨w.heap.size + 1, 0, none⟩), .pointer (some ⟨w.heap.size + 1 + 1, 0, none⟩)]] t4)).alloc (.cells #[.func (.func 29) #[] #[.pointer (some ⟨w.heap.size, 0, none⟩), .pointer (some ⟨w.heap.size + 1, 0, none⟩), .pointer (some ⟨w.heap.size + 1 + 1, 0, none⟩)]] t5)) (w.heap.size + 1) 3 #[.int .i64 what] := (((freshAt 3 #[.int .i64 what] (by simp)).past _).past _).past _
    have h3 : Has (((((w.alloc (.cells #[.int .i64 id.1, .int .i64 id.2] 26)).alloc (.cells #[.int .i64 what] 3)).alloc (.cells #[.int .i64 0, .int .i64 0] 26)).alloc (.cells #[.func (.func 28) #[] #[.pointer (some ⟨w.heap.size, 0, none⟩), .pointer (some ⟨w.heap.size + 1, 0, none⟩), .pointer (some ⟨w.heap.size + 1 + 1, 0, none⟩)]] t4)).alloc (.cells #[.func (.func 29) #[] #[.pointer (some ⟨w.heap.size, 0, none⟩), .pointer (some ⟨w.heap.size + 1, 0, none⟩), .pointer (some ⟨w.heap.size + 1 + 1, 0, none⟩)]] t5)) (w.heap.size + 1 + 1) 26 #[.int .i64 0, .int .i64 0] := ((freshAt 26 #[.int .i64 0, .int .i64 0] (by simp)).past _).past _
    have h4 : Has (((((w.alloc (.cells #[.int .i64 id.1, .int .i64 id.2] 26)).alloc (.cells #[.int .i64 what] 3)).alloc (.cells #[.int .i64 0, .int .i64 0] 26)).alloc (.cells #[.func (.func 28) #[] #[.pointer (some ⟨w.heap.size, 0, none⟩), .pointer (some ⟨w.heap.size + 1, 0, none⟩), .pointer (some ⟨w.heap.size + 1 + 1, 0, none⟩)]] t4)).alloc (.cells #[.func (.func 29) #[] #[.pointer (some ⟨w.heap.size, 0, none⟩), .pointer (some ⟨w.heap.size + 1, 0, none⟩), .pointer (some ⟨w.heap.size + 1 + 1, 0, none⟩)]] t5)) (w.heap.size + 1 + 1 + 1) t4 #[.func (.func 28) #[] #[.pointer (some ⟨w.heap.size, 0, none⟩), .pointer (some ⟨w.heap.size + 1, 0, none⟩), .pointer (some ⟨w.heap.size + 1 + 1, 0, none⟩)]] := (freshAt t4 _ (by simp)).past _
    have h5 : Has (((((w.alloc (.cells #[.int .i64 id.1, .int .i64 id.2] 26)).alloc (.cells #[.int .i64 what] 3)).alloc (.cells #[.int .i64 0, .int .i64 0] 26)).alloc (.cells #[.func (.func 28) #[] #[.pointer (some ⟨w.heap.size, 0, none⟩), .pointer (some ⟨w.heap.size + 1, 0, none⟩), .pointer (some ⟨w.heap.size + 1 + 1, 0, none⟩)]] t4)).alloc (.cells #[.func (.func 29) #[] #[.pointer (some ⟨w.heap.size, 0, none⟩), .pointer (some ⟨w.heap.size + 1, 0, none⟩), .pointer (some ⟨w.heap.size + 1 + 1, 0, none⟩)]] t5)) (w.heap.size + 1 + 1 + 1 + 1) t5 #[.func (.func 29) #[] #[.pointer (some ⟨w.heap.size, 0, none⟩), .pointer (some ⟨w.heap.size + 1, 0, none⟩), .pointer (some ⟨w.heap.size + 1 + 1, 0, none⟩)]] := freshAt t5 _ (by simp)
    refine (those_any A n c es 30 #[.pointer (some ⟨w.heap.size + 1 + 1 + 1, 0, none⟩), .pointer (some ⟨w.heap.size + 1 + 1 + 1 + 1, 0, none⟩)] (fun args V => enters Tryz.func30 (by kernel_rfl) rfl args V) (wroteE id what) hn _ (hr.below hb) (fun V hV x hx => writers3_any x id what _ _ _ _ _ t4 t5 V ((hf x hx).below (hb.trans (hV.mono hb.size))) (h1.below hV) (h2.below hV) (h3.below hV) (h4.below hV) (h5.below hV))).mono ?_
    rintro q w2 ⟨v, rfl, hv, hb2⟩
    exact ⟨v, rfl, eown_mono hv hb.size, hb.trans (hb2.mono hb.size)⟩)
  clear hr hf
  go_enter Tryz.func11, Tryz.ntmps11
  go_wp2_with fail
  refine (HT.out _ _).mono ?_
  rintro q w2 ⟨v, rfl, hv, hb⟩
  have HV := Lib.hid hv
  have HB2 := Lib.hid hb
  clear hv hb
  go_wp2
  go_ret
  exact ⟨_, rfl, HV.out, HB2.out⟩
structure WrI (id : Int × Int) (w wr : World) (u : Value) (l : List Fc.EventC) : Prop where
  below : Below w.heap.size w wr
  has : Has wr w.heap.size 26 #[.int .i64 id.1, .int .i64 id.2]
  row : EOwn wr (w.heap.size + 1) u l
theorem WrI.start (id : Int × Int) (w : World) : WrI id w (w.alloc (.cells #[.int .i64 id.1, .int .i64 id.2] 26)) (.slice none 0 0) [] := ⟨(Below.refl w.heap.size w).alloc (Nat.le_refl _) _, Has.fresh w _ _, eown_nil _ _⟩
theorem WrI.low {id : Int × Int} {w wr w2 : World} {u : Value} {l : List Fc.EventC} (h : WrI id w wr u l) (hb : Below wr.heap.size wr w2) : WrI id w w2 u l := ⟨h.below.trans (hb.mono h.below.size), h.has.below hb, eown_below h.row hb⟩
theorem WrI.grew {id : Int × Int} {w wr w2 : World} {u u2 : Value} {l : List Fc.EventC} {e : Fc.EventC} (h : WrI id w wr u l) (hg : GrewE (w.heap.size + 1) wr w2 u u2 l e) : WrI id w w2 u2 (l ++ [e]) := ⟨h.below.trans (hg.below.mono (Nat.le_succ _)), Stl.has_low h.has hg.below (Nat.lt_succ_self _), hg.row⟩
theorem any_nextG {α : Type} {xs : List α} (P : α → Bool) {i : Nat} (h : i < xs.length) : (xs.take (i + 1)).any P = ((xs.take i).any P || P xs[i]) := by
  rw [List.take_succ_eq_append_getElem h, List.any_append]
  simp
set_option maxRecDepth 100000 in
set_option maxHeartbeats 16000000 in
theorem rwriters_any (A : Option Addr) (n c : Nat) (es : List Fc.EventC) (id : Int × Int) (what : Int) (hn : n ≤ 4000000) (w : World) (hr : Fc.SRow w 21 Fc.eventC A n es) (hf : ∀ e ∈ es, Fc.StateFit w e.d) : Calls Tryz.prog 12 #[.slice A n c, .agg #[.int .i64 id.1, .int .i64 id.2], .int .i64 what] w (EOut (es.filter (wroteE id what)) w) := by
  have H0 := Lib.hid (WrI.start id w)
  have HR := Lib.hid hr
  have HLN := Lib.hid hr.len
  have HF := Lib.hid (show ∀ V, Below w.heap.size w V → ∀ e ∈ es, Fc.StateFit V e.d from fun V hb e he => (hf e he).below hb)
  have halv := Sr.alloc_event
  have haln := Stl.alloc_node
  have hall := Stl.alloc_link
  clear hr hf
  go_enter Tryz.func12, Tryz.ntmps12
  go_wp2
  go_loopw [7, 17] (fun u i wr => ∃ j : Nat, i = .int .i64 j ∧ j ≤ n ∧ Hid (WrI id w wr u ((es.take j).filter (wroteE id what)))) (fun _ i _ => n - (intOf i).toNat)
  case atStart => exact ⟨0, rfl, Nat.zero_le _, H0⟩
  case round =>
    clear H0
    obtain ⟨j, rfl, hj, HI⟩ := hrel
    obtain ⟨wo, hwo⟩ : ∃ wo : World, wo = wr := ⟨_, rfl⟩
    subst hwo
    by_cases hlt : j < n
    · obtain ⟨b, off, rfl, hbl, hx, mr⟩ := (HR.out.below HI.out.below).range (i := j) hlt
      have HY := Lib.hid (filter_yes (wroteE id what) hx)
      have HNO := Lib.hid (filter_no (wroteE id what) hx)
      have hmem := List.getElem_mem hx
      have HLL : Hid (((es.take j).filter (wroteE id what)).length ≤ 4000000) := Lib.hid (Nat.le_trans (filter_len _ _) (by rw [HLN.out]; exact hn))
      obtain ⟨e, he⟩ : ∃ e, e = es[j] := ⟨_, rfl⟩
      rw [← he] at mr HY HNO hmem
      have HFW := Lib.hid (show ∀ V, Below w.heap.size w V → Fc.StateFit V e.d from fun V h => HF.out V h e hmem)
      have MR := Lib.hid mr
      have hb1 := (Below.refl wo.heap.size wo).alloc (Nat.le_refl _) (.cells (Fc.eventC e) 34)
      have HIb := Lib.hid (HI.out.low hb1)
      have HEb := Lib.hid (Has.fresh wo 34 (Fc.eventC e))
      have c19 : (wo.alloc (.cells (Fc.eventC e) 34)).cell? ⟨wo.heap.size, 19, none⟩ = some (.slice e.d.A1 e.d.n1 e.d.c1) := HEb.out.at_ 19
      have HM1 := Lib.hid (HFW.out _ HIb.out.below).m1
      have HM2 := Lib.hid (HFW.out _ HIb.out.below).m2
      obtain ⟨L, hL⟩ : ∃ L, L = (es.take j).filter (wroteE id what) := ⟨_, rfl⟩
      rw [← hL] at HIb HY HNO HLL HI
      have HDE := Lib.hid (show wroteE id what e = (e.d.nodes.any (wroteN id what) || e.d.links.any (wroteL id what)) from rfl)
      obtain ⟨A2, c2, rfl, _, _⟩ := eown_sl HI.out.row
      have m1 := HM1.out
      have m2 := HM2.out
      clear he mr hx hbl hb1 hL HI hmem
      go_wp2_with (first | ((with_reducible refine Who.wpList_loadC 34 (.tmp 19) rfl (b) (off + j * 21) (Fc.eventC e) ?_); refine And.intro ⟨by rfl, by rfl, ⟨_, Tryz.underlying34, rfl⟩, Sr.info_event⟩ (And.intro (MR.out) ?_); (try simp only [Act.put, List.setIfInBounds_toArray, List.set_cons_zero, List.set_cons_succ])) | ((with_reducible refine Who.wpList_newC 34 9 (.tmp 20) rfl rfl rfl (Fc.eventC Sr.zeroE) (Fc.eventC e) ?_); refine And.intro ⟨rfl, rfl, rfl, halv, by rfl, by rfl, Sr.info_event, rfl, Sr.event_one _⟩ ?_; (try simp only [Act.put, List.setIfInBounds_toArray, List.set_cons_zero, List.set_cons_succ]); (try simp only [World.size_alloc])) | fail)
      go_loopw [10, 25] (fun sb si wr => ∃ (k : Nat) (is : Bool), si = .int .i64 k ∧ sb = .bool is ∧ k ≤ e.d.n1 ∧ Hid (is = (e.d.nodes.take k).any (wroteN id what)) ∧ Hid (WrI id w wr (.slice A2 L.length c2) L) ∧ Hid (Has wr wo.heap.size 34 (Fc.eventC e))) (fun _ si _ => e.d.n1 - (intOf si).toNat)
      case atStart => exact ⟨0, false, rfl, rfl, Nat.zero_le _, Lib.hid rfl, HIb, HEb⟩
      case round =>
        clear HIb HEb c19
        obtain ⟨k, is, rfl, rfl, hk, HAG, HI, HE⟩ := hrel
        obtain ⟨wi, hwi⟩ : ∃ wi : World, wi = wr := ⟨_, rfl⟩
        subst hwi
        by_cases hlk : k < e.d.n1
        · have hlki : (k : Int) < e.d.n1 := by omega
          obtain ⟨bn, offn, hA, hbl, hx, mr⟩ := (HFW.out _ HI.out.below).nodes.range (i := k) hlk
          have HST := Lib.hid (any_nextG (wroteN id what) hx)
          obtain ⟨x, hxx⟩ : ∃ x, x = e.d.nodes[k] := ⟨_, rfl⟩
          rw [← hxx] at mr HST
          have MRN := Lib.hid mr
          have hb2 := (Below.refl wi.heap.size wi).alloc (Nat.le_refl _) (.cells (nodeC x) 60)
          have HI1 := Lib.hid (HI.out.low hb2)
          have HE1 := Lib.hid (HE.out.below hb2)
          have HN1 := Lib.hid (Has.fresh wi 60 (nodeC x))
          have q1 := fun W => eql_st x.p.id.1 x.p.id.2 id.1 id.2 W
          have q2 := fun W => neq_st x.p.aat.1 x.p.aat.2 0 0 W
          have q3 := fun W => neq_st x.p.sat.1 x.p.sat.2 0 0 W
          unfold stC at q1 q2 q3
          have HD := Lib.hid (show wroteN id what x = ((x.p.id.1 == id.1 && x.p.id.2 == id.2) && ((decide (what = 1) && !(x.p.aat.1 == 0 && x.p.aat.2 == 0)) || (decide (what = 2) && !(x.p.sat.1 == 0 && x.p.sat.2 == 0)))) from rfl)
          obtain ⟨z1, hz1⟩ : ∃ z1, z1 = (x.p.id.1 == id.1 && x.p.id.2 == id.2) := ⟨_, rfl⟩
          obtain ⟨z2, hz2⟩ : ∃ z2, z2 = (x.p.aat.1 == 0 && x.p.aat.2 == 0) := ⟨_, rfl⟩
          obtain ⟨z3, hz3⟩ : ∃ z3, z3 = (x.p.sat.1 == 0 && x.p.sat.2 == 0) := ⟨_, rfl⟩
          rw [← hz1] at q1 HD
          rw [← hz2] at q2 HD
          rw [← hz3] at q3 HD
          clear hz1 hz2 hz3
          clear mr hx hbl hb2 hxx HI HE
          rw [hA]
          cases is with
          | true =>
            have HAN := Lib.hid (show true = (e.d.nodes.take (k + 1)).any (wroteN id what) by rw [HST.out, ← HAG.out]; rfl)
            go_wp2_with (first | ((with_reducible refine Who.wpList_loadC 60 (.tmp 27) rfl (bn) (offn + k * 13) (nodeC x) ?_); refine And.intro ⟨by rfl, by rfl, ⟨_, Tryz.underlying60, rfl⟩, Sr.info_inode⟩ (And.intro (MRN.out) ?_); (try simp only [Act.put, List.setIfInBounds_toArray, List.set_cons_zero, List.set_cons_succ])) | ((with_reducible refine Who.wpList_newC 60 12 (.tmp 28) rfl rfl rfl (nodeC Stl.zeroN) (nodeC x) ?_); refine And.intro ⟨rfl, rfl, rfl, haln, by rfl, by rfl, Sr.info_inode, rfl, Stl.node_one _⟩ ?_; (try simp only [Act.put, List.setIfInBounds_toArray, List.set_cons_zero, List.set_cons_succ]); (try simp only [World.size_alloc])) | fail)
            go_roundw
            case rel => exact ⟨k + 1, true, by go_num, rfl, by omega, HAN, HI1, HE1⟩
            case measure => simp [intOf]; omega
          | false =>
            cases z1 with
            | false =>
              have HAN := Lib.hid (show false = (e.d.nodes.take (k + 1)).any (wroteN id what) by rw [HST.out, ← HAG.out, HD.out]; rfl)
              go_wp2_with (first | ((with_reducible refine Who.wpList_loadC 60 (.tmp 27) rfl (bn) (offn + k * 13) (nodeC x) ?_); refine And.intro ⟨by rfl, by rfl, ⟨_, Tryz.underlying60, rfl⟩, Sr.info_inode⟩ (And.intro (MRN.out) ?_); (try simp only [Act.put, List.setIfInBounds_toArray, List.set_cons_zero, List.set_cons_succ])) | ((with_reducible refine Who.wpList_newC 60 12 (.tmp 28) rfl rfl rfl (nodeC Stl.zeroN) (nodeC x) ?_); refine And.intro ⟨rfl, rfl, rfl, haln, by rfl, by rfl, Sr.info_inode, rfl, Stl.node_one _⟩ ?_; (try simp only [Act.put, List.setIfInBounds_toArray, List.set_cons_zero, List.set_cons_succ]); (try simp only [World.size_alloc])) | ((with_reducible refine Who.wpList_loadC 26 (.tmp 31) rfl (wi.heap.size) 0 (#[.int .i64 x.p.id.1, .int .i64 x.p.id.2]) ?_); refine And.intro ⟨by rfl, by rfl, ⟨_, Tryz.underlying26, rfl⟩, Sr.info_st⟩ (And.intro (Sr.nid_range HN1.out) ?_); (try simp only [Act.put, List.setIfInBounds_toArray, List.set_cons_zero, List.set_cons_succ])) | ((with_reducible refine Who.wpList_loadC 26 (.tmp 4) rfl (w.heap.size) 0 (#[.int .i64 id.1, .int .i64 id.2]) ?_); refine And.intro ⟨by rfl, by rfl, ⟨_, Tryz.underlying26, rfl⟩, Sr.info_st⟩ (And.intro (Who.has_range HI1.out.has) ?_); (try simp only [Act.put, List.setIfInBounds_toArray, List.set_cons_zero, List.set_cons_succ])) | ((with_reducible refine Who.wpList_loadC 26 (.tmp 49) rfl (wi.heap.size) 0 (#[.int .i64 x.p.id.1, .int .i64 x.p.id.2]) ?_); refine And.intro ⟨by rfl, by rfl, ⟨_, Tryz.underlying26, rfl⟩, Sr.info_st⟩ (And.intro (Sr.nid_range HN1.out) ?_); (try simp only [Act.put, List.setIfInBounds_toArray, List.set_cons_zero, List.set_cons_succ])) | fail)
              go_roundw
              case rel => exact ⟨k + 1, false, by go_num, rfl, by omega, HAN, HI1, HE1⟩
              case measure => simp [intOf]; omega
            | true =>
              by_cases e1 : what = 1
              · have e2 : ¬ what = 2 := by omega
                have HE2 := Lib.hid (show wroteN id what x = !z2 by rw [HD.out, decide_eq_true e1, decide_eq_false e2]; cases z2 <;> rfl)
                cases z2 with
                | true =>
                  have HAN := Lib.hid (show false = (e.d.nodes.take (k + 1)).any (wroteN id what) by rw [HST.out, ← HAG.out, HE2.out]; rfl)
                  go_wp2_with (first | ((with_reducible refine Who.wpList_loadC 60 (.tmp 27) rfl (bn) (offn + k * 13) (nodeC x) ?_); refine And.intro ⟨by rfl, by rfl, ⟨_, Tryz.underlying60, rfl⟩, Sr.info_inode⟩ (And.intro (MRN.out) ?_); (try simp only [Act.put, List.setIfInBounds_toArray, List.set_cons_zero, List.set_cons_succ])) | ((with_reducible refine Who.wpList_newC 60 12 (.tmp 28) rfl rfl rfl (nodeC Stl.zeroN) (nodeC x) ?_); refine And.intro ⟨rfl, rfl, rfl, haln, by rfl, by rfl, Sr.info_inode, rfl, Stl.node_one _⟩ ?_; (try simp only [Act.put, List.setIfInBounds_toArray, List.set_cons_zero, List.set_cons_succ]); (try simp only [World.size_alloc])) | ((with_reducible refine Who.wpList_loadC 26 (.tmp 31) rfl (wi.heap.size) 0 (#[.int .i64 x.p.id.1, .int .i64 x.p.id.2]) ?_); refine And.intro ⟨by rfl, by rfl, ⟨_, Tryz.underlying26, rfl⟩, Sr.info_st⟩ (And.intro (Sr.nid_range HN1.out) ?_); (try simp only [Act.put, List.setIfInBounds_toArray, List.set_cons_zero, List.set_cons_succ])) | ((with_reducible refine Who.wpList_loadC 26 (.tmp 4) rfl (w.heap.size) 0 (#[.int .i64 id.1, .int .i64 id.2]) ?_); refine And.intro ⟨by rfl, by rfl, ⟨_, Tryz.underlying26, rfl⟩, Sr.info_st⟩ (And.intro (Who.has_range HI1.out.has) ?_); (try simp only [Act.put, List.setIfInBounds_toArray, List.set_cons_zero, List.set_cons_succ])) | ((with_reducible refine Who.wpList_loadC 26 (.tmp 49) rfl (wi.heap.size) 0 (#[.int .i64 x.p.id.1, .int .i64 x.p.id.2]) ?_); refine And.intro ⟨by rfl, by rfl, ⟨_, Tryz.underlying26, rfl⟩, Sr.info_st⟩ (And.intro (Sr.nid_range HN1.out) ?_); (try simp only [Act.put, List.setIfInBounds_toArray, List.set_cons_zero, List.set_cons_succ])) | ((with_reducible refine Who.wpList_loadC 26 (.tmp 41) rfl (wi.heap.size) 4 (#[.int .i64 x.p.aat.1, .int .i64 x.p.aat.2]) ?_); refine And.intro ⟨by rfl, by rfl, ⟨_, Tryz.underlying26, rfl⟩, Sr.info_st⟩ (And.intro (Sr.aat_range HN1.out) ?_); (try simp only [Act.put, List.setIfInBounds_toArray, List.set_cons_zero, List.set_cons_succ])) | fail)
                  go_roundw
                  case rel => exact ⟨k + 1, false, by go_num, rfl, by omega, HAN, HI1, HE1⟩
                  case measure => simp [intOf]; omega
                | false =>
                  have HAN := Lib.hid (show true = (e.d.nodes.take (k + 1)).any (wroteN id what) by rw [HST.out, ← HAG.out, HE2.out]; rfl)
                  go_wp2_with (first | ((with_reducible refine Who.wpList_loadC 60 (.tmp 27) rfl (bn) (offn + k * 13) (nodeC x) ?_); refine And.intro ⟨by rfl, by rfl, ⟨_, Tryz.underlying60, rfl⟩, Sr.info_inode⟩ (And.intro (MRN.out) ?_); (try simp only [Act.put, List.setIfInBounds_toArray, List.set_cons_zero, List.set_cons_succ])) | ((with_reducible refine Who.wpList_newC 60 12 (.tmp 28) rfl rfl rfl (nodeC Stl.zeroN) (nodeC x) ?_); refine And.intro ⟨rfl, rfl, rfl, haln, by rfl, by rfl, Sr.info_inode, rfl, Stl.node_one _⟩ ?_; (try simp only [Act.put, List.setIfInBounds_toArray, List.set_cons_zero, List.set_cons_succ]); (try simp only [World.size_alloc])) | ((with_reducible refine Who.wpList_loadC 26 (.tmp 31) rfl (wi.heap.size) 0 (#[.int .i64 x.p.id.1, .int .i64 x.p.id.2]) ?_); refine And.intro ⟨by rfl, by rfl, ⟨_, Tryz.underlying26, rfl⟩, Sr.info_st⟩ (And.intro (Sr.nid_range HN1.out) ?_); (try simp only [Act.put, List.setIfInBounds_toArray, List.set_cons_zero, List.set_cons_succ])) | ((with_reducible refine Who.wpList_loadC 26 (.tmp 4) rfl (w.heap.size) 0 (#[.int .i64 id.1, .int .i64 id.2]) ?_); refine And.intro ⟨by rfl, by rfl, ⟨_, Tryz.underlying26, rfl⟩, Sr.info_st⟩ (And.intro (Who.has_range HI1.out.has) ?_); (try simp only [Act.put, List.setIfInBounds_toArray, List.set_cons_zero, List.set_cons_succ])) | ((with_reducible refine Who.wpList_loadC 26 (.tmp 49) rfl (wi.heap.size) 0 (#[.int .i64 x.p.id.1, .int .i64 x.p.id.2]) ?_); refine And.intro ⟨by rfl, by rfl, ⟨_, Tryz.underlying26, rfl⟩, Sr.info_st⟩ (And.intro (Sr.nid_range HN1.out) ?_); (try simp only [Act.put, List.setIfInBounds_toArray, List.set_cons_zero, List.set_cons_succ])) | ((with_reducible refine Who.wpList_loadC 26 (.tmp 41) rfl (wi.heap.size) 4 (#[.int .i64 x.p.aat.1, .int .i64 x.p.aat.2]) ?_); refine And.intro ⟨by rfl, by rfl, ⟨_, Tryz.underlying26, rfl⟩, Sr.info_st⟩ (And.intro (Sr.aat_range HN1.out) ?_); (try simp only [Act.put, List.setIfInBounds_toArray, List.set_cons_zero, List.set_cons_succ])) | fail)
                  go_roundw
                  case rel => exact ⟨k + 1, true, by go_num, rfl, by omega, HAN, HI1, HE1⟩
                  case measure => simp [intOf]; omega
              · by_cases e2 : what = 2
                · have HE2 := Lib.hid (show wroteN id what x = !z3 by rw [HD.out, decide_eq_false e1, decide_eq_true e2]; cases z3 <;> rfl)
                  cases z3 with
                  | true =>
                    have HAN := Lib.hid (show false = (e.d.nodes.take (k + 1)).any (wroteN id what) by rw [HST.out, ← HAG.out, HE2.out]; rfl)
                    go_wp2_with (first | ((with_reducible refine Who.wpList_loadC 60 (.tmp 27) rfl (bn) (offn + k * 13) (nodeC x) ?_); refine And.intro ⟨by rfl, by rfl, ⟨_, Tryz.underlying60, rfl⟩, Sr.info_inode⟩ (And.intro (MRN.out) ?_); (try simp only [Act.put, List.setIfInBounds_toArray, List.set_cons_zero, List.set_cons_succ])) | ((with_reducible refine Who.wpList_newC 60 12 (.tmp 28) rfl rfl rfl (nodeC Stl.zeroN) (nodeC x) ?_); refine And.intro ⟨rfl, rfl, rfl, haln, by rfl, by rfl, Sr.info_inode, rfl, Stl.node_one _⟩ ?_; (try simp only [Act.put, List.setIfInBounds_toArray, List.set_cons_zero, List.set_cons_succ]); (try simp only [World.size_alloc])) | ((with_reducible refine Who.wpList_loadC 26 (.tmp 31) rfl (wi.heap.size) 0 (#[.int .i64 x.p.id.1, .int .i64 x.p.id.2]) ?_); refine And.intro ⟨by rfl, by rfl, ⟨_, Tryz.underlying26, rfl⟩, Sr.info_st⟩ (And.intro (Sr.nid_range HN1.out) ?_); (try simp only [Act.put, List.setIfInBounds_toArray, List.set_cons_zero, List.set_cons_succ])) | ((with_reducible refine Who.wpList_loadC 26 (.tmp 4) rfl (w.heap.size) 0 (#[.int .i64 id.1, .int .i64 id.2]) ?_); refine And.intro ⟨by rfl, by rfl, ⟨_, Tryz.underlying26, rfl⟩, Sr.info_st⟩ (And.intro (Who.has_range HI1.out.has) ?_); (try simp only [Act.put, List.setIfInBounds_toArray, List.set_cons_zero, List.set_cons_succ])) | ((with_reducible refine Who.wpList_loadC 26 (.tmp 49) rfl (wi.heap.size) 0 (#[.int .i64 x.p.id.1, .int .i64 x.p.id.2]) ?_); refine And.intro ⟨by rfl, by rfl, ⟨_, Tryz.underlying26, rfl⟩, Sr.info_st⟩ (And.intro (Sr.nid_range HN1.out) ?_); (try simp only [Act.put, List.setIfInBounds_toArray, List.set_cons_zero, List.set_cons_succ])) | ((with_reducible refine Who.wpList_loadC 26 (.tmp 59) rfl (wi.heap.size) 8 (#[.int .i64 x.p.sat.1, .int .i64 x.p.sat.2]) ?_); refine And.intro ⟨by rfl, by rfl, ⟨_, Tryz.underlying26, rfl⟩, Sr.info_st⟩ (And.intro (Sr.sat_range HN1.out) ?_); (try simp only [Act.put, List.setIfInBounds_toArray, List.set_cons_zero, List.set_cons_succ])) | fail)
                    go_roundw
                    case rel => exact ⟨k + 1, false, by go_num, rfl, by omega, HAN, HI1, HE1⟩
                    case measure => simp [intOf]; omega
                  | false =>
                    have HAN := Lib.hid (show true = (e.d.nodes.take (k + 1)).any (wroteN id what) by rw [HST.out, ← HAG.out, HE2.out]; rfl)
                    go_wp2_with (first | ((with_reducible refine Who.wpList_loadC 60 (.tmp 27) rfl (bn) (offn + k * 13) (nodeC x) ?_); refine And.intro ⟨by rfl, by rfl, ⟨_, Tryz.underlying60, rfl⟩, Sr.info_inode⟩ (And.intro (MRN.out) ?_); (try simp only [Act.put, List.setIfInBounds_toArray, List.set_cons_zero, List.set_cons_succ])) | ((with_reducible refine Who.wpList_newC 60 12 (.tmp 28) rfl rfl rfl (nodeC Stl.zeroN) (nodeC x) ?_); refine And.intro ⟨rfl, rfl, rfl, haln, by rfl, by rfl, Sr.info_inode, rfl, Stl.node_one _⟩ ?_; (try simp only [Act.put, List.setIfInBounds_toArray, List.set_cons_zero, List.set_cons_succ]); (try simp only [World.size_alloc])) | ((with_reducible refine Who.wpList_loadC 26 (.tmp 31) rfl (wi.heap.size) 0 (#[.int .i64 x.p.id.1, .int .i64 x.p.id.2]) ?_); refine And.intro ⟨by rfl, by rfl, ⟨_, Tryz.underlying26, rfl⟩, Sr.info_st⟩ (And.intro (Sr.nid_range HN1.out) ?_); (try simp only [Act.put, List.setIfInBounds_toArray, List.set_cons_zero, List.set_cons_succ])) | ((with_reducible refine Who.wpList_loadC 26 (.tmp 4) rfl (w.heap.size) 0 (#[.int .i64 id.1, .int .i64 id.2]) ?_); refine And.intro ⟨by rfl, by rfl, ⟨_, Tryz.underlying26, rfl⟩, Sr.info_st⟩ (And.intro (Who.has_range HI1.out.has) ?_); (try simp only [Act.put, List.setIfInBounds_toArray, List.set_cons_zero, List.set_cons_succ])) | ((with_reducible refine Who.wpList_loadC 26 (.tmp 49) rfl (wi.heap.size) 0 (#[.int .i64 x.p.id.1, .int .i64 x.p.id.2]) ?_); refine And.intro ⟨by rfl, by rfl, ⟨_, Tryz.underlying26, rfl⟩, Sr.info_st⟩ (And.intro (Sr.nid_range HN1.out) ?_); (try simp only [Act.put, List.setIfInBounds_toArray, List.set_cons_zero, List.set_cons_succ])) | ((with_reducible refine Who.wpList_loadC 26 (.tmp 59) rfl (wi.heap.size) 8 (#[.int .i64 x.p.sat.1, .int .i64 x.p.sat.2]) ?_); refine And.intro ⟨by rfl, by rfl, ⟨_, Tryz.underlying26, rfl⟩, Sr.info_st⟩ (And.intro (Sr.sat_range HN1.out) ?_); (try simp only [Act.put, List.setIfInBounds_toArray, List.set_cons_zero, List.set_cons_succ])) | fail)
                    go_roundw
                    case rel => exact ⟨k + 1, true, by go_num, rfl, by omega, HAN, HI1, HE1⟩
                    case measure => simp [intOf]; omega
                · have HE2 := Lib.hid (show wroteN id what x = false by rw [HD.out, decide_eq_false e1, decide_eq_false e2]; cases z2 <;> cases z3 <;> rfl)
                  have HAN := Lib.hid (show false = (e.d.nodes.take (k + 1)).any (wroteN id what) by rw [HST.out, ← HAG.out, HE2.out]; rfl)
                  go_wp2_with (first | ((with_reducible refine Who.wpList_loadC 60 (.tmp 27) rfl (bn) (offn + k * 13) (nodeC x) ?_); refine And.intro ⟨by rfl, by rfl, ⟨_, Tryz.underlying60, rfl⟩, Sr.info_inode⟩ (And.intro (MRN.out) ?_); (try simp only [Act.put, List.setIfInBounds_toArray, List.set_cons_zero, List.set_cons_succ])) | ((with_reducible refine Who.wpList_newC 60 12 (.tmp 28) rfl rfl rfl (nodeC Stl.zeroN) (nodeC x) ?_); refine And.intro ⟨rfl, rfl, rfl, haln, by rfl, by rfl, Sr.info_inode, rfl, Stl.node_one _⟩ ?_; (try simp only [Act.put, List.setIfInBounds_toArray, List.set_cons_zero, List.set_cons_succ]); (try simp only [World.size_alloc])) | ((with_reducible refine Who.wpList_loadC 26 (.tmp 31) rfl (wi.heap.size) 0 (#[.int .i64 x.p.id.1, .int .i64 x.p.id.2]) ?_); refine And.intro ⟨by rfl, by rfl, ⟨_, Tryz.underlying26, rfl⟩, Sr.info_st⟩ (And.intro (Sr.nid_range HN1.out) ?_); (try simp only [Act.put, List.setIfInBounds_toArray, List.set_cons_zero, List.set_cons_succ])) | ((with_reducible refine Who.wpList_loadC 26 (.tmp 4) rfl (w.heap.size) 0 (#[.int .i64 id.1, .int .i64 id.2]) ?_); refine And.intro ⟨by rfl, by rfl, ⟨_, Tryz.underlying26, rfl⟩, Sr.info_st⟩ (And.intro (Who.has_range HI1.out.has) ?_); (try simp only [Act.put, List.setIfInBounds_toArray, List.set_cons_zero, List.set_cons_succ])) | ((with_reducible refine Who.wpList_loadC 26 (.tmp 49) rfl (wi.heap.size) 0 (#[.int .i64 x.p.id.1, .int .i64 x.p.id.2]) ?_); refine And.intro ⟨by rfl, by rfl, ⟨_, Tryz.underlying26, rfl⟩, Sr.info_st⟩ (And.intro (Sr.nid_range HN1.out) ?_); (try simp only [Act.put, List.setIfInBounds_toArray, List.set_cons_zero, List.set_cons_succ])) | fail)
                  go_roundw
                  case rel => exact ⟨k + 1, false, by go_num, rfl, by omega, HAN, HI1, HE1⟩
                  case measure => simp [intOf]; omega
        · have HAE := Lib.hid (show is = e.d.nodes.any (wroteN id what) by have h := HAG.out; rwa [List.take_of_length_le (by rw [(HFW.out _ HI.out.below).nodes.len]; omega)] at h)
          have c20 : wi.cell? ⟨wo.heap.size, 20, none⟩ = some (.slice e.d.A2 e.d.n2 e.d.c2) := HE.out.at_ 20
          clear HAG
          go_wp2_with fail
          obtain ⟨is0, his0⟩ : ∃ is0 : Bool, is0 = is := ⟨_, rfl⟩
          go_loopw [10, 70] (fun sb si wr => ∃ (k : Nat) (is : Bool), si = .int .i64 k ∧ sb = .bool is ∧ k ≤ e.d.n2 ∧ Hid (is = (e.d.nodes.any (wroteN id what) || (e.d.links.take k).any (wroteL id what))) ∧ Hid (WrI id w wr (.slice A2 L.length c2) L) ∧ Hid (Has wr wo.heap.size 34 (Fc.eventC e))) (fun _ si _ => e.d.n2 - (intOf si).toNat)
          case atStart => exact ⟨0, is, rfl, rfl, Nat.zero_le _, Lib.hid (by rw [HAE.out, List.take_zero, List.any_nil, Bool.or_false]), HI, HE⟩
          case round =>
            clear HI HE c20 HAE his0 hk hlk
            obtain ⟨k, is, rfl, rfl, hk, HAG, HI, HE⟩ := hrel
            obtain ⟨wi, hwi⟩ : ∃ wi : World, wi = wr := ⟨_, rfl⟩
            subst hwi
            by_cases hlk : k < e.d.n2
            · have hlki : (k : Int) < e.d.n2 := by omega
              obtain ⟨bn, offn, hA, hbl, hx, mr⟩ := (HFW.out _ HI.out.below).links.range (i := k) hlk
              have HST := Lib.hid (any_nextG (wroteL id what) hx)
              obtain ⟨x, hxx⟩ : ∃ x, x = e.d.links[k] := ⟨_, rfl⟩
              rw [← hxx] at mr HST
              have MRN := Lib.hid mr
              have hb2 := (Below.refl wi.heap.size wi).alloc (Nat.le_refl _) (.cells (linkC x) 63)
              have HI1 := Lib.hid (HI.out.low hb2)
              have HE1 := Lib.hid (HE.out.below hb2)
              have HN1 := Lib.hid (Has.fresh wi 63 (linkC x))
              have q1 := fun W => eql_st x.id.1 x.id.2 id.1 id.2 W
              have q2 := fun W => neq_st x.at_.1 x.at_.2 0 0 W
              unfold stC at q1 q2
              have HD := Lib.hid (show wroteL id what x = ((x.id.1 == id.1 && x.id.2 == id.2) && decide (what = 3) && !(x.at_.1 == 0 && x.at_.2 == 0)) from rfl)
              obtain ⟨z1, hz1⟩ : ∃ z1, z1 = (x.id.1 == id.1 && x.id.2 == id.2) := ⟨_, rfl⟩
              obtain ⟨z2, hz2⟩ : ∃ z2, z2 = (x.at_.1 == 0 && x.at_.2 == 0) := ⟨_, rfl⟩
              rw [← hz1] at q1 HD
              rw [← hz2] at q2 HD
              clear hz1 hz2
              clear mr hx hbl hb2 hxx HI HE
              rw [hA]
              cases is with
              | true =>
                have HAN := Lib.hid (show true = (e.d.nodes.any (wroteN id what) || (e.d.links.take (k + 1)).any (wroteL id what)) by rw [HST.out, ← Bool.or_assoc, ← HAG.out]; rfl)
                go_wp2_with (first | ((with_reducible refine Who.wpList_loadC 63 (.tmp 72) rfl (bn) (offn + k * 25) (linkC x) ?_); refine And.intro ⟨by rfl, by rfl, ⟨_, Tryz.underlying63, rfl⟩, Sr.info_link⟩ (And.intro (MRN.out) ?_); (try simp only [Act.put, List.setIfInBounds_toArray, List.set_cons_zero, List.set_cons_succ])) | ((with_reducible refine Who.wpList_newC 63 14 (.tmp 73) rfl rfl rfl (linkC Stl.zeroK) (linkC x) ?_); refine And.intro ⟨rfl, rfl, rfl, hall, by rfl, by rfl, Sr.info_link, rfl, Stl.link_one _⟩ ?_; (try simp only [Act.put, List.setIfInBounds_toArray, List.set_cons_zero, List.set_cons_succ]); (try simp only [World.size_alloc])) | fail)
                go_roundw
                case rel => exact ⟨k + 1, true, by go_num, rfl, by omega, HAN, HI1, HE1⟩
                case measure => simp [intOf]; omega
              | false =>
                cases z1 with
                | false =>
                  have HAN := Lib.hid (show false = (e.d.nodes.any (wroteN id what) || (e.d.links.take (k + 1)).any (wroteL id what)) by rw [HST.out, ← Bool.or_assoc, ← HAG.out, HD.out]; rfl)
                  go_wp2_with (first | ((with_reducible refine Who.wpList_loadC 63 (.tmp 72) rfl (bn) (offn + k * 25) (linkC x) ?_); refine And.intro ⟨by rfl, by rfl, ⟨_, Tryz.underlying63, rfl⟩, Sr.info_link⟩ (And.intro (MRN.out) ?_); (try simp only [Act.put, List.setIfInBounds_toArray, List.set_cons_zero, List.set_cons_succ])) | ((with_reducible refine Who.wpList_newC 63 14 (.tmp 73) rfl rfl rfl (linkC Stl.zeroK) (linkC x) ?_); refine And.intro ⟨rfl, rfl, rfl, hall, by rfl, by rfl, Sr.info_link, rfl, Stl.link_one _⟩ ?_; (try simp only [Act.put, List.setIfInBounds_toArray, List.set_cons_zero, List.set_cons_succ]); (try simp only [World.size_alloc])) | ((with_reducible refine Who.wpList_loadC 26 (.tmp 76) rfl (wi.heap.size) 0 (#[.int .i64 x.id.1, .int .i64 x.id.2]) ?_); refine And.intro ⟨by rfl, by rfl, ⟨_, Tryz.underlying26, rfl⟩, Sr.info_st⟩ (And.intro (Sr.id_range HN1.out) ?_); (try simp only [Act.put, List.setIfInBounds_toArray, List.set_cons_zero, List.set_cons_succ])) | ((with_reducible refine Who.wpList_loadC 26 (.tmp 4) rfl (w.heap.size) 0 (#[.int .i64 id.1, .int .i64 id.2]) ?_); refine And.intro ⟨by rfl, by rfl, ⟨_, Tryz.underlying26, rfl⟩, Sr.info_st⟩ (And.intro (Who.has_range HI1.out.has) ?_); (try simp only [Act.put, List.setIfInBounds_toArray, List.set_cons_zero, List.set_cons_succ])) | fail)
                  go_roundw
                  case rel => exact ⟨k + 1, false, by go_num, rfl, by omega, HAN, HI1, HE1⟩
                  case measure => simp [intOf]; omega
                | true =>
                  by_cases e1 : what = 3
                  · have HE2 := Lib.hid (show wroteL id what x = !z2 by rw [HD.out, decide_eq_true e1]; cases z2 <;> rfl)
                    cases z2 with
                    | true =>
                      have HAN := Lib.hid (show false = (e.d.nodes.any (wroteN id what) || (e.d.links.take (k + 1)).any (wroteL id what)) by rw [HST.out, ← Bool.or_assoc, ← HAG.out, HE2.out]; rfl)
                      go_wp2_with (first | ((with_reducible refine Who.wpList_loadC 63 (.tmp 72) rfl (bn) (offn + k * 25) (linkC x) ?_); refine And.intro ⟨by rfl, by rfl, ⟨_, Tryz.underlying63, rfl⟩, Sr.info_link⟩ (And.intro (MRN.out) ?_); (try simp only [Act.put, List.setIfInBounds_toArray, List.set_cons_zero, List.set_cons_succ])) | ((with_reducible refine Who.wpList_newC 63 14 (.tmp 73) rfl rfl rfl (linkC Stl.zeroK) (linkC x) ?_); refine And.intro ⟨rfl, rfl, rfl, hall, by rfl, by rfl, Sr.info_link, rfl, Stl.link_one _⟩ ?_; (try simp only [Act.put, List.setIfInBounds_toArray, List.set_cons_zero, List.set_cons_succ]); (try simp only [World.size_alloc])) | ((with_reducible refine Who.wpList_loadC 26 (.tmp 76) rfl (wi.heap.size) 0 (#[.int .i64 x.id.1, .int .i64 x.id.2]) ?_); refine And.intro ⟨by rfl, by rfl, ⟨_, Tryz.underlying26, rfl⟩, Sr.info_st⟩ (And.intro (Sr.id_range HN1.out) ?_); (try simp only [Act.put, List.setIfInBounds_toArray, List.set_cons_zero, List.set_cons_succ])) | ((with_reducible refine Who.wpList_loadC 26 (.tmp 4) rfl (w.heap.size) 0 (#[.int .i64 id.1, .int .i64 id.2]) ?_); refine And.intro ⟨by rfl, by rfl, ⟨_, Tryz.underlying26, rfl⟩, Sr.info_st⟩ (And.intro (Who.has_range HI1.out.has) ?_); (try simp only [Act.put, List.setIfInBounds_toArray, List.set_cons_zero, List.set_cons_succ])) | ((with_reducible refine Who.wpList_loadC 26 (.tmp 85) rfl (wi.heap.size) 4 (#[.int .i64 x.at_.1, .int .i64 x.at_.2]) ?_); refine And.intro ⟨by rfl, by rfl, ⟨_, Tryz.underlying26, rfl⟩, Sr.info_st⟩ (And.intro (Sr.at_range HN1.out) ?_); (try simp only [Act.put, List.setIfInBounds_toArray, List.set_cons_zero, List.set_cons_succ])) | fail)
                      go_roundw
                      case rel => exact ⟨k + 1, false, by go_num, rfl, by omega, HAN, HI1, HE1⟩
                      case measure => simp [intOf]; omega
                    | false =>
                      have HAN := Lib.hid (show true = (e.d.nodes.any (wroteN id what) || (e.d.links.take (k + 1)).any (wroteL id what)) by rw [HST.out, ← Bool.or_assoc, ← HAG.out, HE2.out]; rfl)
                      go_wp2_with (first | ((with_reducible refine Who.wpList_loadC 63 (.tmp 72) rfl (bn) (offn + k * 25) (linkC x) ?_); refine And.intro ⟨by rfl, by rfl, ⟨_, Tryz.underlying63, rfl⟩, Sr.info_link⟩ (And.intro (MRN.out) ?_); (try simp only [Act.put, List.setIfInBounds_toArray, List.set_cons_zero, List.set_cons_succ])) | ((with_reducible refine Who.wpList_newC 63 14 (.tmp 73) rfl rfl rfl (linkC Stl.zeroK) (linkC x) ?_); refine And.intro ⟨rfl, rfl, rfl, hall, by rfl, by rfl, Sr.info_link, rfl, Stl.link_one _⟩ ?_; (try simp only [Act.put, List.setIfInBounds_toArray, List.set_cons_zero, List.set_cons_succ]); (try simp only [World.size_alloc])) | ((with_reducible refine Who.wpList_loadC 26 (.tmp 76) rfl (wi.heap.size) 0 (#[.int .i64 x.id.1, .int .i64 x.id.2]) ?_); refine And.intro ⟨by rfl, by rfl, ⟨_, Tryz.underlying26, rfl⟩, Sr.info_st⟩ (And.intro (Sr.id_range HN1.out) ?_); (try simp only [Act.put, List.setIfInBounds_toArray, List.set_cons_zero, List.set_cons_succ])) | ((with_reducible refine Who.wpList_loadC 26 (.tmp 4) rfl (w.heap.size) 0 (#[.int .i64 id.1, .int .i64 id.2]) ?_); refine And.intro ⟨by rfl, by rfl, ⟨_, Tryz.underlying26, rfl⟩, Sr.info_st⟩ (And.intro (Who.has_range HI1.out.has) ?_); (try simp only [Act.put, List.setIfInBounds_toArray, List.set_cons_zero, List.set_cons_succ])) | ((with_reducible refine Who.wpList_loadC 26 (.tmp 85) rfl (wi.heap.size) 4 (#[.int .i64 x.at_.1, .int .i64 x.at_.2]) ?_); refine And.intro ⟨by rfl, by rfl, ⟨_, Tryz.underlying26, rfl⟩, Sr.info_st⟩ (And.intro (Sr.at_range HN1.out) ?_); (try simp only [Act.put, List.setIfInBounds_toArray, List.set_cons_zero, List.set_cons_succ])) | fail)
                      go_roundw
                      case rel => exact ⟨k + 1, true, by go_num, rfl, by omega, HAN, HI1, HE1⟩
                      case measure => simp [intOf]; omega
                  · have HE2 := Lib.hid (show wroteL id what x = false by rw [HD.out, decide_eq_false e1]; cases z2 <;> rfl)
                    have HAN := Lib.hid (show false = (e.d.nodes.any (wroteN id what) || (e.d.links.take (k + 1)).any (wroteL id what)) by rw [HST.out, ← Bool.or_assoc, ← HAG.out, HE2.out]; rfl)
                    go_wp2_with (first | ((with_reducible refine Who.wpList_loadC 63 (.tmp 72) rfl (bn) (offn + k * 25) (linkC x) ?_); refine And.intro ⟨by rfl, by rfl, ⟨_, Tryz.underlying63, rfl⟩, Sr.info_link⟩ (And.intro (MRN.out) ?_); (try simp only [Act.put, List.setIfInBounds_toArray, List.set_cons_zero, List.set_cons_succ])) | ((with_reducible refine Who.wpList_newC 63 14 (.tmp 73) rfl rfl rfl (linkC Stl.zeroK) (linkC x) ?_); refine And.intro ⟨rfl, rfl, rfl, hall, by rfl, by rfl, Sr.info_link, rfl, Stl.link_one _⟩ ?_; (try simp only [Act.put, List.setIfInBounds_toArray, List.set_cons_zero, List.set_cons_succ]); (try simp only [World.size_alloc])) | ((with_reducible refine Who.wpList_loadC 26 (.tmp 76) rfl (wi.heap.size) 0 (#[.int .i64 x.id.1, .int .i64 x.id.2]) ?_); refine And.intro ⟨by rfl, by rfl, ⟨_, Tryz.underlying26, rfl⟩, Sr.info_st⟩ (And.intro (Sr.id_range HN1.out) ?_); (try simp only [Act.put, List.setIfInBounds_toArray, List.set_cons_zero, List.set_cons_succ])) | ((with_reducible refine Who.wpList_loadC 26 (.tmp 4) rfl (w.heap.size) 0 (#[.int .i64 id.1, .int .i64 id.2]) ?_); refine And.intro ⟨by rfl, by rfl, ⟨_, Tryz.underlying26, rfl⟩, Sr.info_st⟩ (And.intro (Who.has_range HI1.out.has) ?_); (try simp only [Act.put, List.setIfInBounds_toArray, List.set_cons_zero, List.set_cons_succ])) | fail)
                    go_roundw
                    case rel => exact ⟨k + 1, false, by go_num, rfl, by omega, HAN, HI1, HE1⟩
                    case measure => simp [intOf]; omega
            · have HAE := Lib.hid (show is = wroteE id what e by have h := HAG.out; rw [List.take_of_length_le (by rw [(HFW.out _ HI.out.below).links.len]; omega)] at h; rw [h, HDE.out])
              have HBG := Lib.hid HI.out.has.bound
              clear HAG
              cases is with
              | true =>
                have HQ := Lib.hid (HY.out HAE.out.symm)
                go_wp2_with (first | ((with_reducible refine Who.wpList_loadC 34 (.tmp 9) rfl (wo.heap.size) 0 (Fc.eventC e) ?_); refine And.intro ⟨by rfl, by rfl, ⟨_, Tryz.underlying34, rfl⟩, Sr.info_event⟩ (And.intro (Who.has_range HE.out) ?_); (try simp only [Act.put, List.setIfInBounds_toArray, List.set_cons_zero, List.set_cons_succ])) | ((with_reducible refine Sr.wpList_build_ev (.tmp 94) rfl e ?_); refine And.intro ⟨rfl, by rfl⟩ ?_; (try simp only [Act.put, List.setIfInBounds_toArray, List.set_cons_zero, List.set_cons_succ])) | (at_builtin; (with_reducible refine Sr.wpl_event (B := w.heap.size + 1) (u := .slice A2 L.length c2) (es := L) (e := e) (.tmp 93) (.tmp 95) rfl rfl ?_); refine And.intro ⟨⟨by rfl, ⟨_, by rfl, by simp⟩⟩, HI.out.row, HBG.out, HLL.out⟩ ?_) | fail)
                intro u3 w3 hg
                have HI3 := Lib.hid (HI.out.grew hg)
                clear hg
                go_wp2
                go_roundw
                case rel => exact ⟨j + 1, by go_num, by omega, Lib.hid (by rw [HQ.out]; exact HI3.out)⟩
                case measure => simp [intOf]; omega
              | false =>
                have HQ := Lib.hid (HNO.out HAE.out.symm)
                go_wp2
                go_roundw
                case rel => exact ⟨j + 1, by go_num, by omega, Lib.hid (by rw [HQ.out]; exact HI.out)⟩
                case measure => simp [intOf]; omega
    · have HQ := Lib.hid (show es.take j = es from List.take_of_length_le (by rw [HLN.out]; omega))
      go_wp2
      go_ret
      exact ⟨_, rfl, by have := HI.out.row; rw [HQ.out] at this; exact eown_mono this (Nat.le_succ _), HI.out.below⟩
end Go.Proofs.YtigkdoicmcdbhaaGreat.Md
