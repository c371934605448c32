/- Model: may rows of events be gone through: what small answers, and what it tells. -/
import Derived.Test.YtblogecapegbmaaGreatMfA
import Derived.Test.YtblogecapegbmaaGreatJnS
namespace Go.Proofs.YtblogecapegbmaaGreat.Jn
open Go.RowKit Go.Proofs.YtblogecapegbmaaGreat.Mem
set_option linter.unusedVariables false set_option linter.unusedSimpArgs false

/-- What is small. -/
structure LimE (e : Fc.EventC) : Prop where
  n1 : e.d.n1 ≤ 10
  n2 : e.d.n2 ≤ 20
  each : ∀ x ∈ e.d.nodes, x.n1 ≤ 120 ∧ x.n2 ≤ 120
def SmallE (ps : List (RowP Fc.EventC)) (e : Ending) : Prop := ∃ b, e = .returned (.bool b) ∧ (b = true → sumR ps ≤ 60 ∧ ∀ p ∈ ps, ∀ e ∈ p.l, LimE e)
theorem lims_next {P : Fc.EventC → Prop} {l : List Fc.EventC} {j : Nat} {y : Fc.EventC} (h : ∀ e ∈ l.take j, P e) (hj : j < l.length) (hy : l[j] = y) (hp : P y) : ∀ e ∈ l.take (j + 1), P e := fun e he => by
  rw [List.take_succ_eq_append_getElem hj, hy] at he
  rcases List.mem_append.1 he with he | he
  · exact h e he
  · rw [List.mem_singleton.1 he]; exact hp
theorem rows_next {P : Fc.EventC → Prop} {ps : List (RowP Fc.EventC)} {k : Nat} {p : RowP Fc.EventC} (h : ∀ q ∈ ps.take k, ∀ e ∈ q.l, P e) (hk : k < ps.length) (hp : ps[k] = p) (h2 : ∀ e ∈ p.l, P e) : ∀ q ∈ ps.take (k + 1), ∀ e ∈ q.l, P e := fun q hq => by
  rw [List.take_succ_eq_append_getElem hk, hp] at hq
  rcases List.mem_append.1 hq with hq | hq
  · exact h q hq
  · rw [List.mem_singleton.1 hq]; exact h2
set_option maxRecDepth 100000 in
set_option maxHeartbeats 4000000 in
theorem smallE_any (T d : Nat) (ps : List (RowP Fc.EventC)) (hm : ps.length ≤ 1000) (w : World) (hp : RowsAt w T ps) (hr : ∀ p ∈ ps, RowOk w 21 Fc.eventC p ∧ p.n ≤ 9223372036854775807) (hf : ∀ p ∈ ps, ∀ e ∈ p.l, Fc.StateFit w e.d) :
    Calls Tryz.prog 25 #[.slice (some ⟨T, 0, none⟩) ps.length d] w fun e w' => SmallE ps e ∧ Below w.heap.size w w' := by
  have HP := Lib.hid hp
  have HR := Lib.hid hr
  have HFX := Lib.hid (show ∀ V, Below w.heap.size w V → ∀ p ∈ ps, ∀ e ∈ p.l, Fc.StateFit V e.d from fun V hb p hq e he => (hf p hq e he).below hb)
  clear hp hr hf
  go_enter Tryz.func25, Tryz.ntmps25
  go_wp2
  go_loopw [3, 10] (fun a i wr => ∃ k N : Nat, i = .int .i64 k ∧ a = .int .i64 N ∧ k ≤ ps.length ∧ N ≤ 60 ∧ Hid (N = sumR (ps.take k)) ∧ Hid (∀ p ∈ ps.take k, ∀ e ∈ p.l, LimE e) ∧ Hid (Below w.heap.size w wr)) (fun _ i _ => ps.length - (intOf i).toNat)
  case atStart => exact ⟨0, 0, rfl, rfl, Nat.zero_le _, Nat.zero_le _, Lib.hid rfl, Lib.hid (fun p hp => by simp at hp), Lib.hid (Below.refl _ _)⟩
  case round =>
    obtain ⟨k, N, rfl, rfl, hk, hN, HS, HL, HI⟩ := hrel
    by_cases hlk : k < ps.length
    · have hc := (HP.out.below HI.out HP.out.1).2 k hlk
      obtain ⟨p, hpk⟩ : ∃ p, ps[k] = p := ⟨_, rfl⟩
      have HM := Lib.hid (show p ∈ ps from hpk ▸ List.getElem_mem hlk)
      have HRP := Lib.hid (HR.out p HM.out)
      have HSN := Lib.hid (show sumR (ps.take (k + 1)) = N + p.n from by rw [List.take_succ_eq_append_getElem hlk, sumR_snoc, hpk, HS.out])
      have HLN := Lib.hid (fun h => rows_next (P := LimE) HL.out hlk hpk h)
      have HK := Lib.hid hlk
      rw [hpk] at hc
      clear hpk HS HL
      obtain ⟨A, n, c, l⟩ := p
      simp only at hc HSN
      have hn : n ≤ 9223372036854775807 := HRP.out.2
      have HLE := Lib.hid (show n = l.length from HRP.out.1.row.len.symm)
      have hlk' : (k : Int) < (ps.length : Int) := by omega
      by_cases h1 : (60 : Int) < N + min (n : Int) 61
      · go_wp2
        go_ret
        exact ⟨⟨false, rfl, (fun h => by cases h)⟩, HI.out⟩
      have hmn : min (n : Int) 61 = n := by omega
      have hNn : N + n ≤ 60 := by omega
      clear h1
      go_wp2
      obtain ⟨wo, hwo⟩ : ∃ wo : World, wo = wr := ⟨_, rfl⟩
      subst hwo
      go_loopw [23] (fun i wr => ∃ j : Nat, i = .int .i64 j ∧ j ≤ n ∧ Hid (∀ e ∈ l.take j, LimE e) ∧ Hid (Below w.heap.size w wr)) (fun i _ => n - (intOf i).toNat)
      case atStart => exact ⟨0, rfl, Nat.zero_le _, Lib.hid (fun e he => by simp at he), HI⟩
      case round =>
        clear HI hc hmn
        obtain ⟨j, rfl, hj, HE, HI⟩ := hrel
        by_cases hlt : j < n
        · have hlti : (j : Int) < n := by omega
          have HJ := Lib.hid hlt
          obtain ⟨b, off, hA, hbl, hx1, mr⟩ := (HRP.out.1.row.below HI.out).range (i := j) hlt
          replace hx1 : j < l.length := hx1
          obtain ⟨e, he⟩ : ∃ e, l[j] = e := ⟨_, rfl⟩
          replace mr : wr.rangeAt b (off + j * 21) (Fc.eventC e).toList := by rw [← he]; exact mr
          have HF1 := Lib.hid (HFX.out _ HI.out _ HM.out e (he ▸ List.getElem_mem hx1))
          have HEN := Lib.hid (fun h => lims_next (P := LimE) HE.out hx1 he h)
          have MR := Lib.hid mr
          have HB1 := Lib.hid (HI.out.alloc HI.out.size (.cells (Fc.eventC e) 58))
          have HN1 := Lib.hid (Has.fresh wr 58 (Fc.eventC e))
          have HF2 := Lib.hid (HF1.out.below ((Below.refl _ _).alloc (Nat.le_refl _) (.cells (Fc.eventC e) 58)))
          replace hA : A = some ⟨b, off, none⟩ := hA
          clear hj hlt hbl hx1 mr he HE HF1
          rw [hA]
          go_wp2_with (first | ((with_reducible refine Who.wpList_loadC 58 (.tmp 25) rfl (b) (off + j * 21) (Fc.eventC e) ?_); refine And.intro ⟨by rfl, by rfl, ⟨_, Tryz.underlying58, rfl⟩, Sr.info_event⟩ (And.intro (MR.out) ?_)) | ((with_reducible refine Who.wpList_newC 58 7 (.tmp 26) rfl rfl rfl (Fc.eventC Sr.zeroE) (Fc.eventC e) ?_); refine And.intro ⟨rfl, rfl, rfl, Sr.alloc_event, by rfl, by rfl, Sr.info_event, rfl, Sr.event_one _⟩ ?_; (try simp only [Act.put, List.setIfInBounds_toArray, List.set_cons_zero, List.set_cons_succ]); (try simp only [World.size_alloc])) | ((with_reducible refine Who.wpList_loadC 27 (.tmp 27) rfl (wr.heap.size) 11 (Fc.stateC e.d) ?_); refine And.intro ⟨by rfl, by rfl, ⟨_, Tryz.underlying27, rfl⟩, info_state⟩ (And.intro (event_d HN1.out) ?_)) | fail)
          refine (Small_any e.d _ HF2.out).mono ?_
          rintro q w2 ⟨⟨z, rfl, hz⟩, hb⟩
          have HB2 := Lib.hid (HB1.out.trans (hb.mono HB1.out.size))
          have HN2 := Lib.hid (HN1.out.below hb)
          have HZ := Lib.hid hz
          clear hb hz
          have c19 : w2.cell? ⟨wr.heap.size, 19, none⟩ = some (.slice e.d.A1 e.d.n1 e.d.c1) := HN2.out.at_ 19
          have c20 : w2.cell? ⟨wr.heap.size, 20, none⟩ = some (.slice e.d.A2 e.d.n2 e.d.c2) := HN2.out.at_ 20
          cases z with
          | false =>
            go_wp2
            go_ret
            exact ⟨⟨false, rfl, (fun h => by cases h)⟩, HB2.out⟩
          | true =>
            by_cases q1 : (10 : Int) < e.d.n1
            · go_wp2
              go_ret
              exact ⟨⟨false, rfl, (fun h => by cases h)⟩, HB2.out⟩
            by_cases q2 : (20 : Int) < e.d.n2
            · go_wp2
              go_ret
              exact ⟨⟨false, rfl, (fun h => by cases h)⟩, HB2.out⟩
            have HLY := Lib.hid (HEN.out ⟨by omega, by omega, (HZ.out rfl).2⟩)
            go_wp2
            go_roundw
            case rel => exact ⟨j + 1, by go_num, HJ.out, HLY, HB2⟩
            case measure => have := HJ.out; simp [intOf]; omega
        · have hjn : j = n := by omega
          have HLA := Lib.hid (HLN.out (fun e he => HE.out e (by rw [hjn, HLE.out, List.take_length]; exact he)))
          clear HE
          go_wp2
          go_roundw
          case rel => exact ⟨k + 1, N + n, by go_num, by go_num, HK.out, hNn, Lib.hid HSN.out.symm, HLA, HI⟩
          case measure => have := HK.out; simp [intOf]; omega
    · have hkn : k = ps.length := by omega
      have HFIN := Lib.hid (show sumR ps ≤ 60 ∧ ∀ p ∈ ps, ∀ e ∈ p.l, LimE e from by
        have h1 := HS.out
        have h2 := HL.out
        rw [hkn, List.take_length] at h1 h2
        exact ⟨by omega, h2⟩)
      go_wp2
      go_ret
      exact ⟨⟨true, rfl, (fun _ => HFIN.out)⟩, HI.out⟩
end Go.Proofs.YtblogecapegbmaaGreat.Jn
