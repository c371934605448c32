import Derived.Test.YtepnckglnciinaaSnH
import Derived.Test.YtepnckglnciinaaSmP

/- The document's stage: Changes. -/
namespace Go.Proofs.Ytepnckglnciinaa.Sm
open Go.RowKit Go.Proofs.Ytepnckglnciinaa.Mem
set_option linter.unusedVariables false

theorem allB_few {m : Int → Option ByteArray} (hs : ∀ z s, m z = some s → s.size ≤ 512) {j : Nat} (hj : j ≤ 4096) {A : ByteArray} (h : A.data.toList = allB m j) : A.size ≤ 2097152 := by
  have h1 := allB_le m hs j
  have h2 : A.size = A.data.toList.length := rfl
  rw [h2, h]
  omega
theorem allB_less {m : Int → Option ByteArray} (hs : ∀ z s, m z = some s → s.size ≤ 512) {j : Nat} (hj : j ≤ 1900) {A : ByteArray} (h : A.data.toList = allB m j) : A.size ≤ 1000000 := by
  have h1 := allB_le m hs j
  have h2 : A.size = A.data.toList.length := rfl
  rw [h2, h]
  omega
theorem allB_is {m : Int → Option ByteArray} {j : Nat} {A : ByteArray} (h : A.data.toList = allB m j) : A = ⟨(allB m j).toArray⟩ := BA_ext h
theorem allB_add {m : Int → Option ByteArray} {j : Nat} {A p : ByteArray} (h : A.data.toList = allB m j) (hp : partB m j = p.data.toList) : (A ++ p).data.toList = allB m (j + 1) := by
  rw [allB_snoc, ← h, hp]
  simp [ByteArray.data_append]
theorem full_step {m : Int → Option ByteArray} {j : Nat} {s : ByteArray} (h : ∀ k : Nat, k < j → (m k).isSome = true) (e : m (j : Int) = some s) : ∀ k : Nat, k < j + 1 → (m k).isSome = true := fun k hk => by
  by_cases e2 : k = j
  · rw [e2, e]; rfl
  · exact h k (by omega)
def RChgIs (w : World) (T : Nat) (m : Int → Option ByteArray) (e : Ending) (w' : World) : Prop :=
  ((e = .returned (.tuple #[.slice none 0 0, .int .i64 61]) ∧ ∃ k : Nat, k < T ∧ (m k).isSome = false) ∨ ((∀ k : Nat, k < T → (m k).isSome = true) ∧ ∃ A : ByteArray, A = ⟨(allB m T).toArray⟩ ∧ ∃ o, GetsE A o ∧ GetOut o w.heap.size e w')) ∧ Below w.heap.size w w'
theorem rchg_less {w w' : World} {T : Nat} {m : Int → Option ByteArray} (h : ∃ k : Nat, k < T ∧ (m k).isSome = false) (hb : Below w.heap.size w w') : RChgIs w T m (.returned (.tuple #[.slice none 0 0, .int .i64 61])) w' := ⟨.inl ⟨rfl, h⟩, hb⟩
theorem rchg_full {w w' : World} {T : Nat} {m : Int → Option ByteArray} {A : ByteArray} {o : Option (List ChgP)} {e : Ending} (h : ∀ k : Nat, k < T → (m k).isSome = true) (hA : A = ⟨(allB m T).toArray⟩) (ho : GetsE A o) (hg : GetOut o w.heap.size e w') (hb : Below w.heap.size w w') : RChgIs w T m e w' := ⟨.inr ⟨h, A, hA, o, ho, hg⟩, hb⟩
set_option maxRecDepth 100000 in
set_option maxHeartbeats 1000000 in
theorem rchanges_any (g b T : Nat) (m : Int → Option ByteArray) (hT9 : (∀ k : Nat, k < T → (m k).isSome = true) → T ≤ 1900) (hs : ∀ z s, m z = some s → s.size ≤ 512) (w : World) (h : RStageIs w g b T m) : Calls Try.prog 29 #[.pointer (some ⟨g, 0, none⟩)] w (RChgIs w T m) := by
  have c0 := h.obj.at_ 0
  simp at c0
  have HST := Lib.hid h
  have HSS := Lib.hid hs
  have HT9 := Lib.hid hT9
  have hT : (T : Int) ≤ 4096 := by have := h.few; omega
  have HT4 := Lib.hid (show T ≤ 4096 from h.few.2)
  have HE0 := Lib.hid (show (⟨#[]⟩ : ByteArray).data.toList = allB m 0 from rfl)
  clear h hs hT9
  go_enter Try.func29, Try.ntmps29
  go_wp2
  go_loop [4, 12] (fun a z => ∃ j : Nat, ∃ A : ByteArray, j ≤ T ∧ z = .int .i64 j ∧ a = .string A ∧ Hid (A.data.toList = allB m j) ∧ Hid (∀ k : Nat, k < j → (m k).isSome = true)) (fun _ z => T - (intOf z).toNat)
  case atStart => exact ⟨0, _, by omega, rfl, rfl, HE0, Lib.hid (fun k hk => by omega)⟩
  case round =>
    obtain ⟨j, A, hj, rfl, rfl, HA, HK⟩ := hrel
    have HAS := Lib.hid (allB_few HSS.out (Nat.le_trans hj HT4.out) HA.out)
    by_cases hlt : j < T
    · have hlti : (j : Int) < T := by omega
      have HLT := Lib.hid (show j + 1 ≤ T from hlt)
      have x0 := HST.out.cell hlt
      have HN := Lib.hid (fun h => HST.out.nope (i := j) h)
      have HF := Lib.hid (fun h => part_full (m := m) (i := j) h)
      have HPB := Lib.hid (show partB m j = (partS m j).data.toList from rfl)
      obtain ⟨p, hp⟩ : ∃ p, p = partS m j := ⟨_, rfl⟩
      rw [← hp] at x0 HN HF HPB
      clear hp
      cases he : p.toList.isEmpty with
      | true =>
        have HQ := Lib.hid (show ∃ k : Nat, k < T ∧ (m k).isSome = false from ⟨j, hlt, HN.out he⟩)
        go_wp2
        exact bodyPost_ret (v := .tuple #[.slice none 0 0, .int .i64 61]) (by simp [results, Try.results29, go_sem]) rfl (rchg_less HQ.out (Below.refl _ _))
      | false =>
        have hp9 : p.size ≤ 512 := HSS.out _ _ (HF.out he)
        have hA9 := HAS.out
        have hcat := fun w => run_string_add_sum (P := Try.prog) w A p (by omega)
        have HQ := Lib.hid (full_step HK.out (HF.out he))
        have HA2 := Lib.hid (allB_add HA.out HPB.out)
        clear hp9 hA9
        go_wp2
        go_round
        case rel => exact ⟨j + 1, _, HLT.out, by go_num, rfl, HA2, HQ⟩
        case measure => have := HLT.out; simp [intOf]; omega
    · have hlti : ¬ (j : Int) < T := by omega
      obtain rfl : j = T := by omega
      have HAE := Lib.hid (allB_is HA.out)
      have HG := Lib.hid (rdget_any A (allB_less HSS.out (HT9.out HK.out) HA.out) w)
      clear HAS HST HSS HT9 HE0
      go_wp2_with fail
      with_reducible refine HG.out.mono ?_
      rintro e w2 ⟨⟨o, ho, hout⟩, hb⟩
      have HO := Lib.hid ho
      have HB := Lib.hid hb
      clear ho hb
      cases o with
      | none =>
        obtain rfl : e = .returned (.tuple #[.slice none 0 0, .int .i64 201]) := hout
        go_wp2
        exact bodyPost_ret (v := .tuple #[.slice none 0 0, .int .i64 201]) (by simp [results, Try.results29, go_sem]) rfl (rchg_full (o := none) HK.out HAE.out HO.out rfl HB.out)
      | some l =>
        obtain ⟨v, rfl, hv⟩ := hout
        have HV := Lib.hid hv
        obtain ⟨Av, cv, rfl⟩ := hv.sl
        clear hv
        go_wp2
        exact bodyPost_ret (v := .tuple #[.slice Av l.length cv, .int .i64 0]) (by simp [results, Try.results29, go_sem]) rfl (rchg_full (o := some l) HK.out HAE.out HO.out ⟨_, rfl, HV.out⟩ HB.out)
end Go.Proofs.Ytepnckglnciinaa.Sm
/- Whatever parts come: what both stages are, step by step. -/
namespace Go.Proofs.Ytepnckglnciinaa.Sm
open Go.RowKit Go.Proofs.Ytepnckglnciinaa.Mem
set_option linter.unusedVariables false

theorem info_pt2 : (Try.prog.info? 42).map (·.size) = some 2 := by kernel_rfl
theorem alloc_pt (w : World) : (Instr.alloc 42 true (.tuple #[])).run Try.prog w = .ok (.pointer (some ⟨w.heap.size, 0, none⟩)) (w.alloc (.cells (ptC ⟨0, ⟨#[]⟩⟩) 42)) := by
  have hz := Try.zeroValue42
  go_simp
  rfl
theorem cnt_upd (m : Int → Option ByteArray) (i : Int) (s : ByteArray) : ∀ T : Nat, cntM T (updM m i s) ≤ cntM T m + (if i < (T : Int) then 1 else 0)
  | 0 => by simp [cntM]
  | T + 1 => by
    have ih := cnt_upd m i s T
    rw [cntM_snoc, cntM_snoc]
    by_cases e : (T : Int) = i
    · have hT : ¬ i < (T : Int) := by omega
      have hT1 : i < ((T + 1 : Nat) : Int) := by omega
      rw [if_neg hT] at ih
      rw [if_pos hT1]
      split <;> split <;> omega
    · have hu : updM m i s (T : Int) = m (T : Int) := by unfold updM; rw [if_neg e]
      rw [hu]
      by_cases h : i < (T : Int)
      · have h1 : i < ((T + 1 : Nat) : Int) := by omega
        rw [if_pos h] at ih
        rw [if_pos h1]
        omega
      · rw [if_neg h] at ih
        omega
theorem add_cnt (T : Nat) (m : Int → Option ByteArray) (i : Int) (s : ByteArray) : cntM T (addV T m i s).2.2 ≤ cntM T m + 1 := by
  have h1 := cnt_upd m i s T
  have h2 : cntM T (updM m i s) ≤ cntM T m + 1 := by
    by_cases h : i < (T : Int)
    · rw [if_pos h] at h1; exact h1
    · rw [if_neg h] at h1; omega
  cases hm : mayB T i s with
  | false => rw [add_bad hm]; exact Nat.le_succ _
  | true =>
    cases hq : m i with
    | none => rw [add_new hm hq]; exact h2
    | some x =>
      by_cases he : x.toList = s.toList
      · rw [add_old hm hq he]; exact Nat.le_succ _
      · rw [add_other hm hq he]; exact Nat.le_succ _
theorem may_few {T : Nat} {i : Int} {s : ByteArray} (h : mayB T i s = true) : s.size ≤ 512 := by
  unfold mayB at h
  simp only [Bool.and_eq_true, decide_eq_true_eq] at h
  omega
theorem add_few {T : Nat} {m : Int → Option ByteArray} (i : Int) (s : ByteArray) (h : ∀ z x, m z = some x → x.size ≤ 512) : ∀ z x, (addV T m i s).2.2 z = some x → x.size ≤ 512 := by
  cases hm : mayB T i s with
  | false => rw [add_bad hm]; exact h
  | true =>
    cases hq : m i with
    | none =>
      rw [add_new hm hq]
      intro z x hz
      have hz : updM m i s z = some x := hz
      unfold updM at hz
      by_cases e : z = i
      · rw [if_pos e] at hz
        injection hz with hz
        subst hz
        exact may_few hm
      · rw [if_neg e] at hz
        exact h z x hz
    | some x =>
      by_cases he : x.toList = s.toList
      · rw [add_old hm hq he]; exact h
      · rw [add_other hm hq he]; exact h
theorem miss_same {m : Int → Option ByteArray} {a b : Nat} (h1 : ∀ k : Nat, k < a → (m k).isSome = true) (h2 : (m a).isSome = false) (h3 : ∀ k : Nat, k < b → (m k).isSome = true) (h4 : (m b).isSome = false) : a = b := by
  rcases Nat.lt_trichotomy a b with h | h | h
  · rw [h3 a h] at h2; cases h2
  · exact h
  · rw [h1 b h] at h4; cases h4
def NewIs (T : Nat) (w : World) (e : Ending) (w' : World) : Prop := ∃ g q, e = .returned (.tuple #[.pointer (some ⟨g, 0, none⟩), .int .i64 0]) ∧ StageIs w' g q T (fun _ => none) ∧ Below w.heap.size w w' ∧ (w.heap.size ≤ q ∧ g < w'.heap.size ∧ q < w'.heap.size)
theorem new_is (T : Nat) (h1 : 1 ≤ T) (h2 : T ≤ 4096) (w : World) : Calls Try.prog 18 #[.int .i64 T] w (NewIs T w) :=
  (new_good T h1 h2 w).mono fun e w' h => ⟨_, _, h.1, h.2.1, h.2.2.1, Nat.le_refl _, by rw [h.2.2.2]; omega, by rw [h.2.2.2]; omega⟩
def RNewIs (T : Nat) (w : World) (e : Ending) (w' : World) : Prop := ∃ g b, e = .returned (.tuple #[.pointer (some ⟨g, 0, none⟩), .int .i64 0]) ∧ RStageIs w' g b T (fun _ => none) ∧ Below w.heap.size w w' ∧ (w.heap.size ≤ g ∧ w.heap.size ≤ b ∧ b < w'.heap.size)
theorem rnew_is (T : Nat) (h1 : 1 ≤ T) (h2 : T ≤ 4096) (w : World) : Calls Try.prog 19 #[.int .i64 T] w (RNewIs T w) :=
  (rnew_good T h1 h2 w).mono fun e w' h => ⟨_, _, h.1, h.2.1, h.2.2.1, Nat.le_succ _, Nat.le_refl _, by rw [h.2.2.2]; omega⟩
structure PlayI (W wr : World) (g q g2 b2 T : Nat) (m : Int → Option ByteArray) (j : Nat) : Prop where
  below : Below W.heap.size W wr
  stg : StageIs wr g q T m
  rst : RStageIs wr g2 b2 T m
  few : ∀ z s, m z = some s → s.size ≤ 512
  cnt : cntM T m ≤ j
  ap : (g ≠ b2 ∧ q ≠ b2 ∧ q ≠ g2) ∧ (W.heap.size ≤ q ∧ W.heap.size ≤ b2) ∧ (q < wr.heap.size ∧ b2 < wr.heap.size)
theorem cnt_none (T : Nat) : cntM T (fun _ => none) = 0 := by simp [cntM]
theorem PlayI.start {W w2 w3 : World} {g q g2 b2 T : Nat} (h : StageIs w2 g q T (fun _ => none)) (hb : Below W.heap.size W w2) (hl : W.heap.size ≤ q ∧ g < w2.heap.size ∧ q < w2.heap.size) (h3 : RStageIs w3 g2 b2 T (fun _ => none)) (hb3 : Below w2.heap.size w2 w3) (hl3 : w2.heap.size ≤ g2 ∧ w2.heap.size ≤ b2 ∧ b2 < w3.heap.size) : PlayI W w3 g q g2 b2 T (fun _ => none) 0 := by
  have a := hb.size
  have b := hb3.size
  exact ⟨hb.trans (hb3.mono a), h.below hb3, h3, fun z s hz => (by cases hz), by rw [cnt_none]; exact Nat.le_refl _, ⟨by omega, by omega, by omega⟩, ⟨hl.1, by omega⟩, by omega, hl3.2.2⟩
theorem PlayI.low {W wr w' : World} {g q g2 b2 T : Nat} {m : Int → Option ByteArray} {j : Nat} (h : PlayI W wr g q g2 b2 T m j) (hb : Below wr.heap.size wr w') : PlayI W w' g q g2 b2 T m j := by
  have a := hb.size
  have b := h.below.size
  have c := h.ap
  exact ⟨h.below.trans (hb.mono b), h.stg.below hb, h.rst.below hb, h.few, h.cnt, c.1, c.2.1, by omega, by omega⟩
theorem PlayI.half {W w1 w2 : World} {g q g2 b2 T : Nat} {m : Int → Option ByteArray} {j : Nat} (h : PlayI W w1 g q g2 b2 T m j) (hc : Chg (· = q) w1 w2) : RStageIs w2 g2 b2 T m := h.rst.chg hc (fun e => h.ap.1.2.2 e.symm) (fun e => h.ap.1.2.1 e.symm)
theorem PlayI.step {W w1 w2 w3 : World} {g q g2 b2 T : Nat} {m m2 : Int → Option ByteArray} {j : Nat} {a : Bool} {E : Int} {i : Int} {s : ByteArray} (h : PlayI W w1 g q g2 b2 T m j) (hr : addV T m i s = (a, E, m2)) (h2 : StageIs w2 g q T m2) (c2 : Chg (· = q) w1 w2) (h3 : RStageIs w3 g2 b2 T m2) (c3 : Chg (· = b2) w2 w3) : PlayI W w3 g q g2 b2 T m2 (j + 1) := by
  have k1 := add_few (T := T) i s h.few
  have k2 := add_cnt T m i s
  rw [hr] at k1 k2
  have a1 := h.ap
  have s1 := h.below.size
  have s2 := c2.size
  have s3 := c3.size
  have B2 : Below W.heap.size W w2 := h.below.trans (c2.below (B := W.heap.size) s1 (fun k hk e => by omega))
  refine ⟨B2.trans (c3.below (B := W.heap.size) B2.size (fun k hk e => by omega)), h2.chg c3 a1.1.1 a1.1.2.1, h3, k1, Nat.le_trans k2 (Nat.succ_le_succ h.cnt), a1.1, a1.2.1, by omega, by omega⟩
def outO (o : Option (List ChgP)) : List ChgP × Int := match o with | none => ([], 201) | some cs => (cs, 0)
theorem out_rows {o : Option (List ChgP)} {B : Nat} {e : Ending} {w : World} (h : GetOut o B e w) : ∃ A c, e = .returned (.tuple #[.slice A (outO o).1.length c, .int .i64 (outO o).2]) ∧ CRow w A (outO o).1.length (outO o).1 ∧ (outO o).1.length ≤ 9223372036854775807 := by
  cases o with
  | none => exact ⟨none, 0, h, ⟨rfl, fun i c hc => by simp [outO] at hc⟩, Nat.zero_le _⟩
  | some cs =>
    obtain ⟨v, e1, hv⟩ := h
    have hlen : cs.length ≤ 9223372036854775807 := by
      rcases hv.2 with ⟨_, e0⟩ | ⟨g, cap, cur, _, _, _, hn, hm, _⟩
      · rw [e0]; exact Nat.zero_le _
      · unfold maxLen at hm
        exact Nat.le_trans hn (by simpa using hm)
    obtain ⟨A, c, e2, hr⟩ := hv.row
    exact ⟨A, c, by rw [e1, e2]; rfl, hr, hlen⟩
theorem crow_nil (w : World) : CRow w none 0 [] := ⟨rfl, fun i c hc => by simp at hc⟩
end Go.Proofs.Ytepnckglnciinaa.Sm
