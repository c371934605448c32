/- Model: the law ModelOrder walked. -/
import Derived.Test.YtblogecapegbmaaGreatMfE
import Derived.Test.YtblogecapegbmaaGreatOpenNS
namespace Go.Proofs.YtblogecapegbmaaGreat.Jn
open Go.RowKit Go.Proofs.YtblogecapegbmaaGreat.Mem
set_option linter.unusedVariables false set_option linter.unusedSimpArgs false

theorem pick_at (x : Int) (n : Nat) (h0 : 0 < n) (h1 : n ≤ 60) : ∃ q : Nat, q < n ∧ (IntKind.u64.wrap x).tmod (n : Int) = (q : Int) := by
  have h2 : 0 ≤ IntKind.u64.wrap x := by unfold IntKind.wrap; simp [IntKind.signed, IntKind.bits]; omega
  have h3 : 0 ≤ (IntKind.u64.wrap x).tmod (n : Int) := Int.tmod_nonneg _ h2
  have h4 : (IntKind.u64.wrap x).tmod (n : Int) < (n : Int) := Int.tmod_lt_of_pos _ (by omega)
  exact ⟨((IntKind.u64.wrap x).tmod (n : Int)).toNat, by omega, by omega⟩
/-- What both loops keep. -/
structure OrI (w wr : World) (es ks : List Fc.EventC) (v : Value) : Prop where
  below : Below w.heap.size w wr
  own : OwnK wr w.heap.size 58 21 Fc.eventC v ks
  some_ : ∀ e ∈ ks, e ∈ es
theorem OrI.grew {w wr w2 : World} {es ks : List Fc.EventC} {v v2 : Value} {e : Fc.EventC} (h : OrI w wr es ks v) (he : e ∈ es) (g : GrewK w.heap.size wr w2 58 21 Fc.eventC v v2 ks [e]) : OrI w w2 es (ks ++ [e]) v2 := ⟨h.below.trans g.below, g.row, fun y hy => by
  rcases List.mem_append.1 hy with hy | hy
  · exact h.some_ y hy
  · rw [List.mem_singleton.1 hy]; exact he⟩
theorem OrI.low {w wr w2 : World} {es ks : List Fc.EventC} {v : Value} (h : OrI w wr es ks v) (hb : Below wr.heap.size wr w2) : OrI w w2 es ks v := ⟨h.below.trans (hb.mono h.below.size), h.own.below hb, h.some_⟩
set_option maxRecDepth 100000 in
set_option maxHeartbeats 16000000 in
theorem order_walk (w : World) (A : Option Addr) (n c : Nat) (es : List Fc.EventC) (A2 : Option Addr) (n2 c2 : Nat) (is : List Int) (hr : Fc.SRow w 21 Fc.eventC A n es) (hf : ∀ y ∈ es, EvOk w y) (hz : A = none → n = 0 ∧ c = 0) (hnc : n ≤ c) (hcm : c ≤ maxLen) (hr2 : Rws.NumRow w A2 n2 is) (hz2 : A2 = none → n2 = 0 ∧ c2 = 0) (hnc2 : n2 ≤ c2) (hcm2 : c2 ≤ maxLen) (hf2 : ∀ x ∈ is, -9223372036854775808 ≤ x ∧ x ≤ 9223372036854775807) :
    Calls Tryz.prog 9 #[.slice A n c, .slice A2 n2 c2] w fun e w' => e = .returned (.bool true) ∧ Below w.heap.size w w' := by
  have hb1 := (Below.refl w.heap.size w).alloc (Nat.le_refl _) (.cells #[.slice A n c] 56)
  have h1 := Has.fresh w 56 #[.slice A n c]
  have HB1 := Lib.hid hb1
  have HR := Lib.hid hr
  have HR2 := Lib.hid hr2
  have HE := Lib.hid (show ∀ V, Below w.heap.size w V → ∀ e ∈ es, EvOk V e from fun V h e he => (hf e he).low h)
  have HF2 := Lib.hid hf2
  have HLN := Lib.hid (show n = es.length ∧ n2 = is.length from ⟨hr.len.symm, hr2.1.symm⟩)
  have hcn : n2 ≤ 9223372036854775807 := by unfold maxLen at hcm2; omega
  have HS := Lib.hid (smallE_any w.heap.size 1 [⟨A, n, c, es⟩] (by simp) (w.alloc (.cells #[.slice A n c] 56)) ⟨by simp, fun i hi => by
    match i, hi with
    | 0, _ => exact h1.at_ 0
    | i + 1, hi => simp at hi⟩ (fun p hp => by
    rw [List.mem_singleton.1 hp]
    exact ⟨⟨hr.below hb1, hz⟩, by show n ≤ 9223372036854775807; unfold maxLen at hcm; omega⟩) (fun p hp e he => by
    rw [List.mem_singleton.1 hp] at he
    exact ((hf e he).1.1).below hb1))
  clear hr hf hz hcm hr2 hz2 hcm2 hf2 hb1 h1 hnc hnc2
  go_enter Tryz.func9, Tryz.ntmps9
  go_wp2_with fail
  refine HS.out.mono ?_
  rintro e w2 ⟨⟨bo, rfl, hs⟩, hb⟩
  have HI_0 := Lib.hid (HB1.out.trans (hb.mono HB1.out.size))
  have HSS := Lib.hid hs
  clear hs hb HS HB1
  have aw : ∀ V, Below w.heap.size w V → Calls Tryz.prog 26 #[] V fun e w' => e = .returned (.bool true) ∧ Below w.heap.size w w' := fun V h => (Md.awake_any V).mono fun e w' q => ⟨q.1, h.trans (q.2.mono h.size)⟩
  have AW := Lib.hid aw
  clear aw
  cases bo with
  | false =>
    go_wp2_with fail
    refine (AW.out _ HI_0.out).mono ?_
    rintro e w3 ⟨rfl, hb⟩
    have HI := Lib.hid hb
    clear hb
    go_wp2
    go_ret
    exact ⟨rfl, HI.out⟩
  | true =>
    by_cases hbig : (100 : Int) < (n2 : Int)
    · go_wp2_with fail
      refine (AW.out _ HI_0.out).mono ?_
      rintro e w3 ⟨rfl, hb⟩
      have HI := Lib.hid hb
      clear hb
      go_wp2
      go_ret
      exact ⟨rfl, HI.out⟩
    have hn2 : n2 ≤ 100 := by omega
    have hn : n ≤ 60 := by
      have q := (HSS.out rfl).1
      have e1 : sumR [(⟨A, n, c, es⟩ : RowP Fc.EventC)] = n := by simp [sumR]
      omega
    have HOK := Lib.hid (show ∀ e ∈ es, FoldOk 1300 e.d.p from fun e he => (HE.out w (Below.refl _ _) e he).ok ((HSS.out rfl).2 ⟨A, n, c, es⟩ List.mem_cons_self e he))
    clear HSS
    have H0 := Lib.hid (show OrI w w2 es [] (.slice none 0 0) from ⟨HI_0.out, OwnK.nil _ _ _ _ _, fun e he => by cases he⟩)
    clear HI_0
    go_wp2
    go_loopw [5, 21] (fun v i wr => ∃ j : Nat, i = .int .i64 j ∧ j ≤ n2 ∧ ∃ ks, ks.length ≤ j ∧ Hid (OrI w wr es ks v)) (fun _ i _ => n2 - (intOf i).toNat)
    case atStart => exact ⟨0, rfl, Nat.zero_le _, [], Nat.le_refl _, H0⟩
    case round =>
      clear H0
      obtain ⟨j, rfl, hj, ks, hkl, HI⟩ := hrel
      obtain ⟨A5, c5, hv, _⟩ := HI.out.own.any
      subst hv
      by_cases hlt : j < n2
      · obtain ⟨b, off, hA, hbl, hx⟩ := (HR2.out.below HI.out.below).2 (by omega)
        have hji : j < is.length := by have := HLN.out.2; omega
        have hcc := hx j hji
        obtain ⟨x, hxe⟩ : ∃ x, is[j] = x := ⟨_, rfl⟩
        rw [hxe] at hcc
        have hxb := HF2.out x (hxe ▸ List.getElem_mem hji)
        rw [hA]
        have hlt' : (j : Int) < (n2 : Int) := by omega
        clear hx hji hxe hA hbl
        by_cases h0 : n = 0
        · subst h0
          go_wp2
          go_roundw
          case rel => exact ⟨j + 1, by go_num, by omega, ks, by omega, HI⟩
          case measure => simp [intOf]; omega
        · have hn0 : 0 < n := by omega
          obtain ⟨q, hq, hqe⟩ := pick_at x n hn0 hn
          obtain ⟨b2, off2, hA2, hbl2, hx2, mr⟩ := (HR.out.below HI.out.below).range (i := q) hq
          obtain ⟨y, hy⟩ : ∃ y, es[q] = y := ⟨_, rfl⟩
          rw [hy] at mr
          have MR := Lib.hid mr
          have HM := Lib.hid (show y ∈ es from hy ▸ List.getElem_mem hx2)
          have HKL := Lib.hid hkl
          have hw1 : IntKind.u64.wrap (n : Int) = (n : Int) := by unfold IntKind.wrap; simp [IntKind.signed, IntKind.bits]; omega
          have hw2 : IntKind.i64.wrap (q : Int) = (q : Int) := by unfold IntKind.wrap; simp [IntKind.signed, IntKind.bits]; omega
          have hn00 : ¬ (n : Int) = 0 := by omega
          have hq' : (q : Int) < (n : Int) := by omega
          rw [hA2]
          clear mr hy hx2 hA2 hbl2
          go_wp2_with (first | ((with_reducible refine Who.wpList_loadC 58 (.tmp 37) rfl (b2) (off2 + q * 21) (Fc.eventC y) ?_); refine And.intro ⟨by rfl, by rfl, ⟨_, Tryz.underlying58, rfl⟩, Sr.info_event⟩ (And.intro (MR.out) ?_)) | ((with_reducible refine wpl_build1 kdE (.tmp 38) rfl (y) ?_); refine And.intro ⟨rfl, by rfl⟩ ?_) | (at_builtin; (with_reducible refine wpl_one (B := w.heap.size) (u := (.slice A5 ks.length c5)) (es := ks) (e := y) kdE (.tmp 28) (.tmp 39) rfl rfl ?_); refine And.intro ⟨⟨by rfl, ⟨_, by rfl, by simp⟩⟩, HI.out.own, HI.out.below.size, by have := HKL.out; omega⟩ ?_) | fail)
          intro u6 w6 g6
          have HI6 := Lib.hid (HI.out.grew HM.out g6)
          clear g6
          go_wp2
          go_roundw
          case rel => exact ⟨j + 1, by go_num, by omega, ks ++ [y], by simp; omega, HI6⟩
          case measure => simp [intOf]; omega
      · have HKL := Lib.hid (show ks.length ≤ 100 by omega)
        clear hkl hj
        obtain ⟨v1, hv1⟩ : ∃ v : World, v = wr := ⟨_, rfl⟩
        subst hv1
        have hbk := (Below.refl v1.heap.size v1).alloc (Nat.le_refl _) (.cells #[.slice A5 ks.length c5] 56)
        have hk1 := Has.fresh v1 56 #[.slice A5 ks.length c5]
        have HI1 := Lib.hid (HI.out.low hbk)
        have HS2 := Lib.hid (smallE_any v1.heap.size 1 [⟨A5, ks.length, c5, ks⟩] (by simp) (v1.alloc (.cells #[.slice A5 ks.length c5] 56)) ⟨by simp, fun i hi => by
          match i, hi with
          | 0, _ => exact hk1.at_ 0
          | i + 1, hi => simp at hi⟩ (fun p hp => by
          rw [List.mem_singleton.1 hp]
          exact ⟨⟨HI1.out.own.srow2 (fun _ => rfl) rfl, own_nil HI1.out.own⟩, by show ks.length ≤ 9223372036854775807; have := HKL.out; omega⟩) (fun p hp e he => by
          rw [List.mem_singleton.1 hp] at he
          exact (HE.out _ HI1.out.below e (HI1.out.some_ e he)).1.1))
        clear hbk hk1 HI
        go_wp2_with fail
        refine HS2.out.mono ?_
        rintro e w5 ⟨⟨bo, rfl, hs⟩, hb⟩
        have HI2 := Lib.hid (HI1.out.low hb)
        have HSS := Lib.hid hs
        clear hs hb HS2 HI1
        cases bo with
        | false =>
          go_wp2_with fail
          refine (AW.out _ HI2.out.below).mono ?_
          rintro e w3 ⟨rfl, hb⟩
          have HI := Lib.hid hb
          clear hb
          go_wp2
          go_ret
          exact ⟨rfl, HI.out⟩
        | true =>
          have HK6 := Lib.hid (show ks.length ≤ 60 from by
            have q := (HSS.out rfl).1
            have e1 : sumR [(⟨A5, ks.length, c5, ks⟩ : RowP Fc.EventC)] = ks.length := by simp [sumR]
            omega)
          clear HSS HKL
          go_wp2
          go_loopw [5, 8] (fun v i wr => ∃ m : Nat, i = .int .i64 ((m : Int) - 1) ∧ m ≤ n ∧ ∃ ls, ls.length + m ≤ 60 + n ∧ Hid (∀ q (h : q < es.length), m ≤ q → es[q] ∈ ls) ∧ Hid (OrI w wr es ls v)) (fun _ i _ => (intOf i + 1).toNat)
          case atStart => exact ⟨n, by go_num, Nat.le_refl _, ks, by have := HK6.out; omega, Lib.hid (fun q h hm => by have := HLN.out.1; omega), HI2⟩
          case round =>
            clear HI2 HK6
            obtain ⟨m, rfl, hm, ls, hll, HA, HI⟩ := hrel
            obtain ⟨A6, c6, hv6, _⟩ := HI.out.own.any
            subst hv6
            by_cases hm0 : m = 0
            · subst hm0
              have HLL := Lib.hid (show ls.length ≤ 120 by omega)
              have HSET := Lib.hid (show foldP es = foldP ls from foldP_set fun e => ⟨fun he => by
                obtain ⟨q, hq, rfl⟩ := List.getElem_of_mem he
                exact HA.out q hq (Nat.zero_le _), HI.out.some_ e⟩)
              clear hll HA
              go_wp2_with fail
              refine (fold_any A6 ls.length c6 ls HLL.out _ (HI.out.own.srow2 (fun _ => rfl) rfl) (fun e he => (HE.out _ HI.out.below e (HI.out.some_ e he)).isIn) (fun e he => HOK.out e (HI.out.some_ e he))).mono ?_
              rintro e w7 ⟨s1, rfl, hp, ho, hb⟩
              have P1 := Lib.hid hp
              have N1 := Lib.hid ho
              have B7 := Lib.hid (HI.out.below.trans (hb.mono HI.out.below.size))
              have L1 := Lib.hid (limS_of ho.in_ (by rw [hp, ← HSET.out]; exact fold_lim HOK.out (by have := HLN.out.1; omega)))
              clear hp ho hb HI
              go_wp2_with fail
              refine (fold_any A n c es (by omega) _ (HR.out.below B7.out) (fun e he => (HE.out _ B7.out e he).isIn) HOK.out).mono ?_
              rintro e w8 ⟨s2, rfl, hp, ho, hb⟩
              have N12 := Lib.hid (N1.out.low hb)
              have B8 := Lib.hid (B7.out.trans (hb.mono B7.out.size))
              have P2 := Lib.hid (show s2.p = s1.p from by rw [hp, P1.out, HSET.out])
              have N2 := Lib.hid ho
              have L2 := Lib.hid (limS_of ho.in_ (by rw [hp]; exact fold_lim HOK.out (by have := HLN.out.1; omega)))
              clear hp ho hb N1 B7 P1
              go_wp2_with fail
              refine (rsame_yes s1 s2 _ (row_in N12.out.in_ L1.out (by decide)) (row_in N2.out.in_ L2.out (by decide)) P2.out).mono ?_
              rintro e w9 ⟨rfl, hb⟩
              have B9 := Lib.hid (B8.out.trans (hb.mono B8.out.size))
              clear hb B8
              go_wp2_with fail
              refine (AW.out _ B9.out).mono ?_
              rintro e w10 ⟨rfl, hb⟩
              have BF := Lib.hid hb
              clear hb
              go_wp2
              go_ret
              exact ⟨rfl, BF.out⟩
            · obtain ⟨q, rfl⟩ : ∃ q, m = q + 1 := ⟨m - 1, by omega⟩
              have hq : q < n := by omega
              obtain ⟨b2, off2, hA2, hbl2, hx2, mr⟩ := (HR.out.below HI.out.below).range (i := q) hq
              obtain ⟨y, hy⟩ : ∃ y, es[q] = y := ⟨_, rfl⟩
              have HN := Lib.hid (show ∀ k (h : k < es.length), q ≤ k → es[k] ∈ ls ++ [y] from fun k h hk => by
                by_cases e : k = q
                · subst e
                  rw [hy]
                  simp
                · exact List.mem_append_left _ (HA.out k h (by omega)))
              rw [hy] at mr
              have MR := Lib.hid mr
              have HM := Lib.hid (show y ∈ es from hy ▸ List.getElem_mem hx2)
              have HLL := Lib.hid (show ls.length ≤ 120 by omega)
              have hqm : ((q + 1 : Nat) : Int) - 1 = (q : Int) := by omega
              rw [hqm]
              have hq' : (q : Int) < (n : Int) := by omega
              have hq0 : (0 : Int) ≤ (q : Int) := by omega
              rw [hA2]
              clear mr hy hx2 hA2 hbl2 HA hm0
              go_wp2_with (first | ((with_reducible refine Who.wpList_loadC 58 (.tmp 57) rfl (b2) (off2 + q * 21) (Fc.eventC y) ?_); refine And.intro ⟨by rfl, by rfl, ⟨_, Tryz.underlying58, rfl⟩, Sr.info_event⟩ (And.intro (MR.out) ?_)) | ((with_reducible refine wpl_build1 kdE (.tmp 58) rfl (y) ?_); refine And.intro ⟨rfl, by rfl⟩ ?_) | (at_builtin; (with_reducible refine wpl_one (B := w.heap.size) (u := (.slice A6 ls.length c6)) (es := ls) (e := y) kdE (.tmp 54) (.tmp 59) rfl rfl ?_); refine And.intro ⟨⟨by rfl, ⟨_, by rfl, by simp⟩⟩, HI.out.own, HI.out.below.size, by have := HLL.out; omega⟩ ?_) | fail)
              intro u6 w6 g6
              have HI6 := Lib.hid (HI.out.grew HM.out g6)
              clear g6
              go_wp2
              go_roundw
              case rel => exact ⟨q, by go_num, by omega, ls ++ [y], by rw [List.length_append, List.length_singleton]; omega, HN, HI6⟩
              case measure => (simp [intOf] <;> omega)
end Go.Proofs.YtblogecapegbmaaGreat.Jn
