import Derived.Test.YtepnckglnciinaaSnA
import Derived.Laws.MakeOwn

/- The document's stage: New, Has, Missing, Add. -/
namespace Go.Proofs.Ytepnckglnciinaa.Sm
open Go.RowKit Go.Proofs.Ytepnckglnciinaa.Mem
set_option linter.unusedVariables false

def mkV (n : Nat) (f : Nat → Value) : Array Value := ((List.range n).map f).toArray
theorem mkV_get (n : Nat) (f : Nat → Value) (i : Nat) (h : i < n) : (mkV n f)[i]? = some (f i) := by
  simp [mkV, h]
theorem mkV_size (n : Nat) (f : Nat → Value) : (mkV n f).size = n := by simp [mkV]
theorem mkV_ext (n : Nat) (f g : Nat → Value) (h : ∀ i, i < n → f i = g i) : mkV n f = mkV n g := by
  unfold mkV
  congr 1
  exact List.map_congr_left fun i hi => h i (List.mem_range.1 hi)
theorem mkV_set (n : Nat) (f : Nat → Value) (i : Nat) (u : Value) : (mkV n f).setIfInBounds i u = mkV n fun y => if y = i then u else f y := by
  apply Array.ext_getElem?
  intro j
  rw [Array.getElem?_setIfInBounds]
  by_cases hj : j < n
  · rw [mkV_get n (fun y => if y = i then u else f y) j hj]
    by_cases e : i = j
    · subst e
      simp [mkV_size, hj]
    · rw [if_neg e, mkV_get n f j hj, if_neg (fun h => e h.symm)]
  · have h1 : ∀ f : Nat → Value, (mkV n f)[j]? = none := fun f => Array.getElem?_eq_none (by rw [mkV_size]; omega)
    rw [h1, h1]
    by_cases e : i = j
    · subst e
      rw [if_pos rfl, if_neg (by rw [mkV_size]; exact hj)]
    · rw [if_neg e]
theorem made_mkV (z : Value) (n : Nat) : madeCells #[z] n = mkV n fun _ => z := by
  apply Array.ext
  · rw [size_madeCells, mkV_size]
  · intro j h1 h2
    have h3 : j < n := by rw [mkV_size] at h2; exact h2
    simp [madeCells, mkV, Nat.mod_one]
theorem make_t (n : Nat) (hn : n ≤ 4096) (w : World) : (Instr.makeSlice 25 (.int .i64 n) (.int .i64 n)).run Try.prog w = .ok (.slice (some ⟨w.heap.size, 0, none⟩) n n) (w.alloc (.cells (mkV n fun _ => .string ⟨#[]⟩) 9)) := by
  obtain ⟨i0, hi, hz0, hz1, hz2⟩ := info_parts info_s
  have h := run_makeSlice (P := Try.prog) w 25 9 i0 (.string ⟨#[]⟩) Try.underlying25 hi hz0 .i64 .i64 n n (by omega) (Int.le_refl _) (by rw [hz1]; omega) (by rw [hz2]; omega) (by omega)
  rw [hz1, Nat.mul_one, Int.toNat_natCast] at h
  rw [h]
  exact congrArg (fun x => Result.ok _ (w.alloc (.cells x _))) (made_mkV _ _)
def partS (m : Int → Option ByteArray) (i : Nat) : ByteArray := (m (i : Int)).getD ⟨#[]⟩
structure RStageIs (w : World) (g b T : Nat) (m : Int → Option ByteArray) : Prop where
  obj : Has w g 64 #[.slice (some ⟨b, 0, none⟩) T T]
  row : Has w b 9 (mkV T fun i => .string (partS m i))
  apart : g ≠ b
  dom : ∀ z s, m z = some s → (0 ≤ z ∧ z < T) ∧ 1 ≤ s.size
  few : 1 ≤ T ∧ T ≤ 4096
theorem RStageIs.chg {S : Nat → Prop} {w w' : World} {g b T : Nat} {m : Int → Option ByteArray} (h : RStageIs w g b T m) (hc : Chg S w w') (h1 : ¬ S g) (h2 : ¬ S b) : RStageIs w' g b T m := ⟨h.obj.over hc h1, h.row.over hc h2, h.apart, h.dom, h.few⟩
theorem RStageIs.below {w w' : World} {g b T : Nat} {m : Int → Option ByteArray} (h : RStageIs w g b T m) (hb : Below w.heap.size w w') : RStageIs w' g b T m := h.chg (Chg.of_below hb (fun _ => False)) (fun k => k) (fun k => k)
theorem RStageIs.cell {w : World} {g b T : Nat} {m : Int → Option ByteArray} (h : RStageIs w g b T m) {i : Nat} (hi : i < T) : w.cell? ⟨b, i, none⟩ = some (.string (partS m i)) := by
  rw [h.row.at_, mkV_get _ _ _ hi]
theorem RStageIs.nope {w : World} {g b T : Nat} {m : Int → Option ByteArray} (h : RStageIs w g b T m) {i : Nat} (hm : (partS m i).toList.isEmpty = true) : (m (i : Int)).isSome = false := by
  cases e : m (i : Int) with
  | none => rfl
  | some s =>
    have h1 := (h.dom _ _ e).2
    unfold partS at hm
    rw [e] at hm
    have h0 := empty_size (s := s) hm
    omega
theorem part_full {m : Int → Option ByteArray} {i : Nat} (hm : (partS m i).toList.isEmpty = false) : m (i : Int) = some (partS m i) := by
  unfold partS at hm ⊢
  cases e : m (i : Int) with
  | none => rw [e] at hm; exact absurd hm (by decide +kernel)
  | some s => rfl
theorem rnew_bad (T : Int) (h : T < 1 ∨ 4096 < T) (w : World) : Calls Try.prog 19 #[.int .i64 T] w fun e w' => e = .returned (.tuple #[.pointer none, .int .i64 22]) ∧ w = w' := by
  by_cases h1 : T < 1
  · clear h
    go_enter Try.func19, Try.ntmps19
    go_wp2
    exact bodyPost_ret (v := .tuple #[.pointer none, .int .i64 22]) (by simp [results, Try.results19, go_sem]) rfl ⟨rfl, rfl⟩
  · have h2 : 4096 < T := by omega
    clear h
    go_enter Try.func19, Try.ntmps19
    go_wp2
    exact bodyPost_ret (v := .tuple #[.pointer none, .int .i64 22]) (by simp [results, Try.results19, go_sem]) rfl ⟨rfl, rfl⟩
theorem rnew_good (T : Nat) (h1 : 1 ≤ T) (h2 : T ≤ 4096) (w : World) : Calls Try.prog 19 #[.int .i64 T] w fun e w' => e = .returned (.tuple #[.pointer (some ⟨w.heap.size + 1, 0, none⟩), .int .i64 0]) ∧ RStageIs w' (w.heap.size + 1) w.heap.size T (fun _ => none) ∧ Below w.heap.size w w' ∧ w'.heap.size = w.heap.size + 2 := by
  have hmm := make_t T h2
  have t1 : ¬ (T : Int) < 1 := by omega
  have t2 : ¬ 4096 < (T : Int) := by omega
  have hN := Lib.hid (And.intro h1 h2)
  clear h1 h2
  go_enter Try.func19, Try.ntmps19
  go_wp2
  refine bodyPost_ret (v := .tuple #[.pointer (some ⟨w.heap.size + 1, 0, none⟩), .int .i64 0]) (by simp [results, Try.results19, go_sem]) rfl ?_
  refine ⟨rfl, ⟨?_, ?_, by omega, fun z s hz => (by cases hz), hN.out⟩, ?_, by simp⟩
  · have h := Has.fresh (w.alloc (.cells (mkV T fun _ => .string ⟨#[]⟩) 9)) 64 #[.slice (some ⟨w.heap.size, 0, none⟩) T T]
    rw [World.size_alloc] at h
    exact h
  · exact (Has.fresh w 9 (mkV T fun _ => .string ⟨#[]⟩)).past _
  · exact ((Below.refl _ w).alloc (Nat.le_refl _) _).alloc (by simp) _
theorem cntM_snoc (j : Nat) (m : Int → Option ByteArray) : cntM (j + 1) m = cntM j m + (if (m (j : Int)).isSome = true then 1 else 0) := by
  unfold cntM
  rw [List.range_succ, List.filter_append, List.length_append]
  by_cases h : (m (j : Int)).isSome = true
  · rw [if_pos h]; simp [h]
  · rw [if_neg h]; simp [h]
set_option maxRecDepth 100000 in
set_option maxHeartbeats 2000000 in
theorem rhasn_any (g b T : Nat) (m : Int → Option ByteArray) (w : World) (h : RStageIs w g b T m) : Calls Try.prog 23 #[.pointer (some ⟨g, 0, none⟩)] w fun e w' => e = .returned (.int .i64 (cntM T m : Nat)) ∧ w = w' := by
  have c0 := h.obj.at_ 0
  simp at c0
  have HST := Lib.hid h
  have hT : (T : Int) ≤ 4096 := by have := h.few; omega
  clear h
  go_enter Try.func23, Try.ntmps23
  go_wp2
  go_loop [3, 11] (fun s i => ∃ j : Nat, ∃ z : Nat, j ≤ T ∧ z ≤ j ∧ i = .int .i64 j ∧ s = .int .i64 z ∧ Hid (z = cntM j m)) (fun _ i => T - (intOf i).toNat)
  case atStart => exact ⟨0, 0, by omega, by omega, rfl, rfl, Lib.hid rfl⟩
  case round =>
    obtain ⟨j, z, hj, hz, rfl, rfl, HZ⟩ := hrel
    by_cases hlt : j < T
    · have hlti : (j : Int) < T := by omega
      have HLT := Lib.hid (show j + 1 ≤ T from hlt)
      have x0 := HST.out.cell hlt
      have HN := Lib.hid (fun h => HST.out.nope (i := j) h)
      have HF := Lib.hid (fun h => part_full (m := m) (i := j) h)
      obtain ⟨p, hp⟩ : ∃ p, p = partS m j := ⟨_, rfl⟩
      rw [← hp] at x0 HN HF
      clear hp
      cases he : p.toList.isEmpty with
      | true =>
        have HQ := Lib.hid (show z = cntM (j + 1) m by rw [cntM_snoc, HN.out he, HZ.out]; rfl)
        go_wp2
        go_round
        case rel => exact ⟨j + 1, z, HLT.out, by omega, by go_num, rfl, HQ⟩
        case measure => have := HLT.out; simp [intOf]; omega
      | false =>
        have HQ := Lib.hid (show z + 1 = cntM (j + 1) m by rw [cntM_snoc, HF.out he, HZ.out]; rfl)
        go_wp2
        go_round
        case rel => exact ⟨j + 1, z + 1, HLT.out, by omega, by go_num, by go_num, HQ⟩
        case measure => have := HLT.out; simp [intOf]; omega
    · have hlti : ¬ (j : Int) < T := by omega
      obtain rfl : j = T := by omega
      go_wp2
      go_ret
      exact ⟨by rw [← HZ.out]; rfl, rfl⟩
set_option maxRecDepth 100000 in
set_option maxHeartbeats 2000000 in
theorem rmissing_any (g b T : Nat) (m : Int → Option ByteArray) (w : World) (h : RStageIs w g b T m) : Calls Try.prog 25 #[.pointer (some ⟨g, 0, none⟩)] w (MissIs w m) := by
  have c0 := h.obj.at_ 0
  simp at c0
  have HST := Lib.hid h
  have hT : (T : Int) ≤ 4096 := by have := h.few; omega
  clear h
  go_enter Try.func25, Try.ntmps25
  go_wp2
  go_loop [10] (fun i => ∃ j : Nat, j ≤ T ∧ i = .int .i64 j ∧ Hid (∀ k : Nat, k < j → (m k).isSome = true)) (fun i => T - (intOf i).toNat)
  case atStart => exact ⟨0, by omega, rfl, Lib.hid (fun k hk => by omega)⟩
  case round =>
    obtain ⟨j, hj, rfl, HK⟩ := hrel
    by_cases hlt : j < T
    · have hlti : (j : Int) < T := by omega
      have HLT := Lib.hid (show j + 1 ≤ T from hlt)
      have x0 := HST.out.cell hlt
      have HN := Lib.hid (fun h => HST.out.nope (i := j) h)
      have HF := Lib.hid (fun h => part_full (m := m) (i := j) h)
      obtain ⟨p, hp⟩ : ∃ p, p = partS m j := ⟨_, rfl⟩
      rw [← hp] at x0 HN HF
      clear hp
      cases he : p.toList.isEmpty with
      | true =>
        have HQ := Lib.hid (HN.out he)
        go_wp2
        go_ret
        exact ⟨j, rfl, HK.out, HQ.out, Below.refl _ _⟩
      | false =>
        have HQ := Lib.hid (show ∀ k : Nat, k < j + 1 → (m k).isSome = true from fun k hk => by
          by_cases e : k = j
          · rw [e, HF.out he]; rfl
          · exact HK.out k (by omega))
        go_wp2
        go_round
        case rel => exact ⟨j + 1, HLT.out, by go_num, HQ⟩
        case measure => have := HLT.out; simp [intOf]; omega
    · have hlti : ¬ (j : Int) < T := by omega
      obtain rfl : j = T := by omega
      have HQ := Lib.hid (show (m (j : Int)).isSome = false by
        cases e : m (j : Int) with
        | none => rfl
        | some s => have := (HST.out.dom _ _ e).1; omega)
      go_wp2
      go_ret
      exact ⟨j, rfl, HK.out, HQ.out, Below.refl _ _⟩
end Go.Proofs.Ytepnckglnciinaa.Sm
/- The document's stage: Add, Whole. -/
namespace Go.Proofs.Ytepnckglnciinaa.Sm
open Go.RowKit Go.Proofs.Ytepnckglnciinaa.Mem
set_option linter.unusedVariables false

theorem may_no {T : Nat} {i : Int} {s : ByteArray} (h : ¬ ((0 ≤ i ∧ i < T) ∧ (if i = (T : Int) - 1 then (1 : Int) else 512) ≤ s.size ∧ (s.size : Int) ≤ 512)) : mayB T i s = false := by
  cases hb : mayB T i s with
  | false => rfl
  | true =>
    unfold mayB isB at hb
    simp only [Bool.and_eq_true, decide_eq_true_eq] at hb
    exact absurd ⟨hb.1.1, hb.1.2, hb.2⟩ h
theorem may_yes {T : Nat} {i : Int} {s : ByteArray} (h : ((0 ≤ i ∧ i < T) ∧ (if i = (T : Int) - 1 then (1 : Int) else 512) ≤ s.size ∧ (s.size : Int) ≤ 512)) : mayB T i s = true := by
  unfold mayB isB
  simp only [Bool.and_eq_true, decide_eq_true_eq]
  exact ⟨⟨h.1, h.2.1⟩, h.2.2⟩
theorem may_if {T : Nat} {i n : Int} (h : (if i = (T : Int) - 1 then (1 : Int) else 512) ≤ n) : 1 ≤ n ∧ (i < (T : Int) - 1 → 512 ≤ n) := by
  split at h
  · exact ⟨h, fun h2 => by omega⟩
  · exact ⟨by omega, fun _ => h⟩
theorem part_upd {m : Int → Option ByteArray} {i : Nat} {s : ByteArray} : (fun y => if y = i then Value.string s else Value.string (partS m y)) = fun y => Value.string (partS (updM m i s) y) := by
  funext y
  unfold partS updM
  by_cases h : y = i
  · rw [if_pos h, if_pos (by omega)]; rfl
  · rw [if_neg h, if_neg (by omega)]
theorem RStageIs.add {w : World} {g b T : Nat} {m : Int → Option ByteArray} (h : RStageIs w g b T m) {i : Nat} {s : ByteArray} (hi : i < T) (hs : 1 ≤ s.size) : RStageIs (w.setCell ⟨b, i, none⟩ (.string s)) g b T (updM m i s) := by
  refine ⟨h.obj.keep (p := ⟨b, i, none⟩) h.apart _, ?_, h.apart, fun z x hz => ?_, h.few⟩
  · have k := h.row.put i (.string s)
    rw [mkV_set, part_upd] at k
    exact k
  · unfold updM at hz
    by_cases e : z = (i : Int)
    · rw [if_pos e] at hz
      injection hz with hz
      subst hz
      exact ⟨⟨by omega, by omega⟩, hs⟩
    · rw [if_neg e] at hz
      exact h.dom z x hz
theorem full_of {s : ByteArray} (h : 1 ≤ s.size) : s.toList.isEmpty = false := by
  cases he : s.toList.isEmpty with
  | false => rfl
  | true => have := empty_size he; omega
def RAddIs (w : World) (g b T : Nat) (r : Bool × Int × (Int → Option ByteArray)) (e : Ending) (w' : World) : Prop := e = .returned (.tuple #[.bool r.1, .int .i64 r.2.1]) ∧ RStageIs w' g b T r.2.2 ∧ Chg (· = b) w w'
set_option maxRecDepth 100000 in
set_option maxHeartbeats 4000000 in
theorem radd_any (g b T : Nat) (m : Int → Option ByteArray) (i : Int) (s : ByteArray) (w : World) (h : RStageIs w g b T m) : Calls Try.prog 21 #[.pointer (some ⟨g, 0, none⟩), .int .i64 i, .string s] w (RAddIs w g b T (addV T m i s)) := by
  have c0 := h.obj.at_ 0
  simp at c0
  have HST := Lib.hid h
  have hT : (T : Int) ≤ 4096 := by have := h.few; omega
  have hT1 : (1 : Int) ≤ T := by have := h.few; omega
  have b1 : IntKind.i64.wrap ((T : Int) - 1) = (T : Int) - 1 := by rw [IntKind.wrap_i64]; omega
  clear h
  go_enter Try.func21, Try.ntmps21
  by_cases h0 : i < 0
  · have HNO := Lib.hid (may_no (T := T) (i := i) (s := s) (fun h => by omega))
    have HA := Lib.hid (add_bad (m := m) (show mayB T i s = false from HNO.out))
    go_wp2
    exact bodyPost_ret (v := .tuple #[.bool false, .int .i64 22]) (by simp [results, Try.results21, go_sem]) rfl ⟨by rw [HA.out], by rw [HA.out]; exact HST.out, Chg.refl _ _⟩
  · by_cases h1 : (T : Int) - 1 < i
    · have HNO := Lib.hid (may_no (T := T) (i := i) (s := s) (fun h => by omega))
      have HA := Lib.hid (add_bad (m := m) (show mayB T i s = false from HNO.out))
      go_wp2
      exact bodyPost_ret (v := .tuple #[.bool false, .int .i64 22]) (by simp [results, Try.results21, go_sem]) rfl ⟨by rw [HA.out], by rw [HA.out]; exact HST.out, Chg.refl _ _⟩
    · by_cases h2 : (s.size : Int) < 1
      · have HNO := Lib.hid (may_no (T := T) (i := i) (s := s) (fun h => by have := may_if h.2.1; omega))
        have HA := Lib.hid (add_bad (m := m) (show mayB T i s = false from HNO.out))
        go_wp2
        exact bodyPost_ret (v := .tuple #[.bool false, .int .i64 22]) (by simp [results, Try.results21, go_sem]) rfl ⟨by rw [HA.out], by rw [HA.out]; exact HST.out, Chg.refl _ _⟩
      · by_cases h3 : 512 < (s.size : Int)
        · have HNO := Lib.hid (may_no (T := T) (i := i) (s := s) (fun h => by omega))
          have HA := Lib.hid (add_bad (m := m) (show mayB T i s = false from HNO.out))
          go_wp2
          exact bodyPost_ret (v := .tuple #[.bool false, .int .i64 22]) (by simp [results, Try.results21, go_sem]) rfl ⟨by rw [HA.out], by rw [HA.out]; exact HST.out, Chg.refl _ _⟩
        · by_cases h5 : i < (T : Int) - 1 ∧ (s.size : Int) < 512
          · obtain ⟨h6, h7⟩ := h5
            have HNO := Lib.hid (may_no (T := T) (i := i) (s := s) (fun h => by have := (may_if h.2.1).2 h6; omega))
            have HA := Lib.hid (add_bad (m := m) (show mayB T i s = false from HNO.out))
            go_wp2
            exact bodyPost_ret (v := .tuple #[.bool false, .int .i64 22]) (by simp [results, Try.results21, go_sem]) rfl ⟨by rw [HA.out], by rw [HA.out]; exact HST.out, Chg.refl _ _⟩
          · have HY := Lib.hid (may_yes (T := T) (i := i) (s := s) ⟨by omega, by split <;> omega, by omega⟩)
            have hs1 : 1 ≤ s.size := by omega
            obtain ⟨k, rfl⟩ : ∃ k : Nat, i = k := ⟨i.toNat, by omega⟩
            have hkT : k < T := by omega
            have hkt : (k : Int) < T := by omega
            have x0 := HST.out.cell hkT
            have f0 := HST.out.row.free k
            have HN := Lib.hid (fun h => HST.out.nope (i := k) h)
            have HF := Lib.hid (fun h => part_full (m := m) (i := k) h)
            have HAD := Lib.hid (HST.out.add hkT hs1)
            have HCH := Lib.hid ((Chg.refl (· = b) w).setCell (p := ⟨b, k, none⟩) (.inl rfl) (.string s))
            obtain ⟨p, hp⟩ : ∃ p, p = partS m k := ⟨_, rfl⟩
            rw [← hp] at x0 HN HF
            clear hp
            have h8 : (k : Int) < (T : Int) - 1 → ¬ (s.size : Int) < 512 := fun a b => h5 ⟨a, b⟩
            have HSF := Lib.hid (full_of hs1)
            have main : ∀ e0 : Bool, p.toList.isEmpty = e0 → ∀ e1 : Bool, (p.toList == s.toList) = e1 → ∃ r : Bool × Int × (Int → Option ByteArray), addV T m k s = r ∧ (e0 = true → e1 = false ∧ r = (true, 0, updM m k s)) ∧ (e0 = false → e1 = true → r = (false, 0, m)) ∧ (e0 = false → e1 = false → r = (false, 17, m)) := by
              intro e0 he0 e1 he1
              refine ⟨_, rfl, fun he => ?_, fun he h9 => ?_, fun he h9 => ?_⟩
              · rw [he] at he0
                refine ⟨?_, add_new HY.out ?_⟩
                · cases e1 with
                  | false => rfl
                  | true =>
                    have h10 := beq_iff_eq.1 he1
                    rw [h10, HSF.out] at he0
                    cases he0
                · cases hq : m (k : Int) with
                  | none => rfl
                  | some y => have := HN.out he0; rw [hq] at this; cases this
              · rw [he] at he0
                rw [h9] at he1
                exact add_old HY.out (HF.out he0) (beq_iff_eq.1 he1)
              · rw [he] at he0
                rw [h9] at he1
                exact add_other HY.out (HF.out he0) (beq_eq_false_iff_ne.1 he1)
            cases he0 : p.toList.isEmpty with
            | true =>
              obtain ⟨r, hr, hA, _, _⟩ := main _ he0 _ rfl
              obtain ⟨e1, hr2⟩ := hA rfl
              have HR := Lib.hid (hr.trans hr2)
              clear main hr hA hr2
              by_cases h9 : (k : Int) < (T : Int) - 1
              · have h10 := h8 h9
                clear h8 h5
                go_wp2
                exact bodyPost_ret (v := .tuple #[.bool true, .int .i64 0]) (by simp [results, Try.results21, go_sem]) rfl ⟨by rw [HR.out], by rw [HR.out]; exact HAD.out, HCH.out⟩
              · clear h8 h5
                go_wp2
                exact bodyPost_ret (v := .tuple #[.bool true, .int .i64 0]) (by simp [results, Try.results21, go_sem]) rfl ⟨by rw [HR.out], by rw [HR.out]; exact HAD.out, HCH.out⟩
            | false =>
              cases he1 : (p.toList == s.toList) with
              | true =>
                obtain ⟨r, hr, _, hA, _⟩ := main _ he0 _ he1
                have HR := Lib.hid (hr.trans (hA rfl rfl))
                clear main hr hA
                by_cases h9 : (k : Int) < (T : Int) - 1
                · have h10 := h8 h9
                  clear h8 h5
                  go_wp2
                  exact bodyPost_ret (v := .tuple #[.bool false, .int .i64 0]) (by simp [results, Try.results21, go_sem]) rfl ⟨by rw [HR.out], by rw [HR.out]; exact HST.out, Chg.refl _ _⟩
                · clear h8 h5
                  go_wp2
                  exact bodyPost_ret (v := .tuple #[.bool false, .int .i64 0]) (by simp [results, Try.results21, go_sem]) rfl ⟨by rw [HR.out], by rw [HR.out]; exact HST.out, Chg.refl _ _⟩
              | false =>
                obtain ⟨r, hr, _, _, hA⟩ := main _ he0 _ he1
                have HR := Lib.hid (hr.trans (hA rfl rfl))
                clear main hr hA
                by_cases h9 : (k : Int) < (T : Int) - 1
                · have h10 := h8 h9
                  clear h8 h5
                  go_wp2
                  exact bodyPost_ret (v := .tuple #[.bool false, .int .i64 17]) (by simp [results, Try.results21, go_sem]) rfl ⟨by rw [HR.out], by rw [HR.out]; exact HST.out, Chg.refl _ _⟩
                · clear h8 h5
                  go_wp2
                  exact bodyPost_ret (v := .tuple #[.bool false, .int .i64 17]) (by simp [results, Try.results21, go_sem]) rfl ⟨by rw [HR.out], by rw [HR.out]; exact HST.out, Chg.refl _ _⟩
end Go.Proofs.Ytepnckglnciinaa.Sm
/- The document's stage: Whole. -/
namespace Go.Proofs.Ytepnckglnciinaa.Sm
open Go.RowKit Go.Proofs.Ytepnckglnciinaa.Mem
set_option linter.unusedVariables false

theorem mem_range {a k : Int} {n : Nat} : k ∈ rangeL a n ↔ a ≤ k ∧ k < a + n := by
  unfold rangeL
  simp only [List.mem_map, List.mem_range]
  constructor
  · rintro ⟨x, hx, rfl⟩
    omega
  · rintro ⟨h1, h2⟩
    exact ⟨(k - a).toNat, by omega, by omega⟩
theorem whole_iff {T i : Nat} {m : Int → Option ByteArray} (hi : i < T) : WholeP T m i ↔ ∀ k : Nat, k < T → k / 4 = i / 4 → (m k).isSome = true := by
  have hw : ∀ k : Int, k ∈ winL ((i : Int) - (i : Int) % 4) T ↔ (0 ≤ k ∧ k < T) ∧ k / 4 = (i : Int) / 4 := by
    intro k
    unfold winL
    rw [mem_range]
    unfold winN
    rw [if_pos ⟨by omega, by omega⟩]
    omega
  constructor
  · intro h k hk hq
    exact h.2 k ((hw k).2 ⟨by omega, by omega⟩)
  · intro h
    refine ⟨⟨by omega, by omega⟩, fun k hk => ?_⟩
    obtain ⟨⟨k0, k1⟩, kq⟩ := (hw k).1 hk
    obtain ⟨j, rfl⟩ : ∃ j : Nat, k = j := ⟨k.toNat, by omega⟩
    exact h j (by omega) (by omega)
theorem quo4 (j : Nat) : (j : Int).tdiv 4 = ((j / 4 : Nat) : Int) := by rw [Int.tdiv_eq_ediv_of_nonneg (by omega)]; omega
set_option maxRecDepth 100000 in
set_option maxHeartbeats 4000000 in
theorem rwhole_any (g b T : Nat) (m : Int → Option ByteArray) (i : Int) (w : World) (h : RStageIs w g b T m) : Calls Try.prog 27 #[.pointer (some ⟨g, 0, none⟩), .int .i64 i] w fun e w' => Tolds (WholeP T m i) e ∧ w = w' := by
  have c0 := h.obj.at_ 0
  simp at c0
  have HST := Lib.hid h
  have hT : (T : Int) ≤ 4096 := by have := h.few; omega
  clear h
  go_enter Try.func27, Try.ntmps27
  by_cases h0 : i < 0
  · have HNO := Lib.hid (show ¬ WholeP T m i from fun h => by have := h.1; omega)
    go_wp2
    go_ret
    exact ⟨told_f HNO.out, rfl⟩
  · by_cases h1 : (T : Int) ≤ i
    · have HNO := Lib.hid (show ¬ WholeP T m i from fun h => by have := h.1; omega)
      go_wp2
      go_ret
      exact ⟨told_f HNO.out, rfl⟩
    · obtain ⟨i, rfl⟩ : ∃ k : Nat, i = k := ⟨i.toNat, by omega⟩
      have hiT : i < T := by omega
      have HW := Lib.hid (whole_iff (m := m) hiT)
      have qi := quo4 i
      have wi : IntKind.i64.wrap ((i / 4 : Nat) : Int) = ((i / 4 : Nat) : Int) := by rw [IntKind.wrap_i64]; omega
      obtain ⟨v, hv⟩ : ∃ v : Nat, v = i / 4 := ⟨_, rfl⟩
      have HV := Lib.hid hv
      rw [← hv] at qi wi
      clear hv
      go_wp2
      go_loop [23] (fun z => ∃ j : Nat, j ≤ T ∧ z = .int .i64 j ∧ Hid (∀ k : Nat, k < j → k / 4 = i / 4 → (m k).isSome = true)) (fun z => T - (intOf z).toNat)
      case atStart => exact ⟨0, by omega, rfl, Lib.hid (fun k hk => by omega)⟩
      case round =>
        obtain ⟨j, hj, rfl, HK⟩ := hrel
        by_cases hlt : j < T
        · have hlti : (j : Int) < T := by omega
          have HLT := Lib.hid (show j + 1 ≤ T from hlt)
          have x0 := HST.out.cell hlt
          have HN := Lib.hid (fun h => HST.out.nope (i := j) h)
          have HF := Lib.hid (fun h => part_full (m := m) (i := j) h)
          obtain ⟨p, hp⟩ : ∃ p, p = partS m j := ⟨_, rfl⟩
          rw [← hp] at x0 HN HF
          have qj := quo4 j
          have wj : IntKind.i64.wrap ((j / 4 : Nat) : Int) = ((j / 4 : Nat) : Int) := by rw [IntKind.wrap_i64]; omega
          obtain ⟨u, hu⟩ : ∃ u : Nat, u = j / 4 := ⟨_, rfl⟩
          have HU := Lib.hid hu
          rw [← hu] at qj wj
          clear hp hu
          by_cases hq : u = v
          · subst hq
            have HQE := Lib.hid (show j / 4 = i / 4 by rw [← HU.out, ← HV.out])
            cases he : p.toList.isEmpty with
            | true =>
              have HNO := Lib.hid (show ¬ WholeP T m i from fun h => by
                have h2 := HW.out.1 h j hlt HQE.out
                rw [HN.out he] at h2
                cases h2)
              go_wp2
              go_ret
              exact ⟨told_f HNO.out, rfl⟩
            | false =>
              have HNX := Lib.hid (show ∀ k : Nat, k < j + 1 → k / 4 = i / 4 → (m k).isSome = true from fun k hk hk4 => by
                by_cases e : k = j
                · rw [e, HF.out he]; rfl
                · exact HK.out k (by omega) hk4)
              go_wp2
              go_round
              case rel => exact ⟨j + 1, HLT.out, by go_num, HNX⟩
              case measure => have := HLT.out; simp [intOf]; omega
          · have t1 : ((u : Int) == (v : Int)) = false := beq_eq_false_iff_ne.2 (by omega)
            have t2 : ¬ (u : Int) = v := by omega
            have HNX := Lib.hid (show ∀ k : Nat, k < j + 1 → k / 4 = i / 4 → (m k).isSome = true from fun k hk hk4 => by
              by_cases e : k = j
              · subst e
                exact absurd (by rw [HU.out, HV.out]; exact hk4) hq
              · exact HK.out k (by omega) hk4)
            go_wp2
            go_round
            case rel => exact ⟨j + 1, HLT.out, by go_num, HNX⟩
            case measure => have := HLT.out; simp [intOf]; omega
        · have hlti : ¬ (j : Int) < T := by omega
          obtain rfl : j = T := by omega
          have HY := Lib.hid (HW.out.2 HK.out)
          go_wp2
          go_ret
          exact ⟨told_t HY.out, rfl⟩
end Go.Proofs.Ytepnckglnciinaa.Sm
