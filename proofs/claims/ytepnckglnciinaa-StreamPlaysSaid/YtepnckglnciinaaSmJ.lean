/- What has come of parts: a stage; New, Add, Missing, Has. -/
import Derived.Test.YtepnckglnciinaaSmI
import Derived.Test.YtepnckglnciinaaIMap
import Derived.Laws.StructEq
import Derived.ChangeKeysEq
namespace Go.Proofs.Ytepnckglnciinaa.Sm
open Go.RowKit Go.Proofs.Ytepnckglnciinaa.Mem
set_option linter.unusedVariables false

theorem mapT : Try.prog.underlying 57 = some (.map 3 67) := Try.underlying57
theorem intT : Try.prog.underlying 3 = some (.int .i64) := Try.underlying3
theorem zero_piece (w : World) : (zeroValue 67).run Try.prog w = .ok (.agg #[.string ⟨#[]⟩]) w := by kernel_rfl
theorem field_piece (s : ByteArray) (w : World) : (Instr.field 67 (.agg #[.string s]) 0).run Try.prog w = .ok (.string s) w := by kernel_rfl
def vals (m : Int → Option ByteArray) (z : Int) : Option Value := (m z).map fun s => .agg #[.string s]
theorem vals_some (m : Int → Option ByteArray) (z : Int) : (vals m z).isSome = (m z).isSome := by unfold vals; cases m z <;> rfl
/-- A stage in memory: g its block, q its map's, T how many parts, m what has come. -/
structure StageIs (w : World) (g q T : Nat) (m : Int → Option ByteArray) : Prop where
  obj : Has w g 59 #[.int .i64 (T : Int), .map (some q)]
  map : IMap w q (vals m)
  dom : ∀ z, (m z).isSome = true → 0 ≤ z ∧ z < T
  few : 1 ≤ T ∧ T ≤ 4096
theorem map_has {w : World} {a b : Nat} {m : Int → Option Value} {t : TypeId} {xs : Array Value} (h : IMap w a m) (k : Has w b t xs) : a ≠ b := by
  rintro rfl
  obtain ⟨es, c, h1, _⟩ := h
  unfold Has at k
  rw [h1] at k
  cases k
theorem StageIs.chg {S : Nat → Prop} {w w' : World} {g q T : Nat} {m : Int → Option ByteArray} (h : StageIs w g q T m) (hc : Chg S w w') (h1 : ¬ S g) (h2 : ¬ S q) : StageIs w' g q T m := ⟨h.obj.over hc h1, h.map.over hc h2, h.dom, h.few⟩
theorem StageIs.below {w w' : World} {g q T : Nat} {m : Int → Option ByteArray} (h : StageIs w g q T m) (hb : Below w.heap.size w w') : StageIs w' g q T m := h.chg (Chg.of_below hb (fun _ => False)) (fun k => k) (fun k => k)
def cntM (T : Nat) (m : Int → Option ByteArray) : Nat := ((List.range T).filter fun (i : Nat) => (m (i : Int)).isSome).length
theorem IMap.len {w : World} {q T : Nat} {m : Int → Option ByteArray} (h : IMap w q (vals m)) (hd : ∀ z, (m z).isSome = true → 0 ≤ z ∧ z < T) : ∃ es clock, w.heap[q]? = some (.map es clock) ∧ es.size = cntM T m := by
  obtain ⟨es, c, h1, h2, h3⟩ := h
  refine ⟨es, c, h1, ?_⟩
  have hp : (es.toList.map (·.key)).Perm (((List.range T).filter fun (i : Nat) => (m (i : Int)).isSome).map fun (i : Nat) => Value.int .i64 (i : Int)) := by
    refine (List.perm_ext_iff_of_nodup h2.once ?_).2 fun v => ?_
    · refine List.Pairwise.map _ (fun a b hab e => hab ?_) (List.Pairwise.filter _ List.nodup_range)
      injection e with _ e
      omega
    · constructor
      · intro hv
        obtain ⟨x, hx, rfl⟩ := List.mem_map.1 hv
        obtain ⟨z, hz⟩ := h2.keys x hx
        have hs : (m z).isSome = true := by rw [← vals_some, ← h3 z, mget_mem h2.once hx hz]; rfl
        obtain ⟨z0, z1⟩ := hd z hs
        refine List.mem_map.2 ⟨z.toNat, List.mem_filter.2 ⟨List.mem_range.2 (by omega), ?_⟩, ?_⟩
        · rw [show ((z.toNat : Nat) : Int) = z by omega]; exact hs
        · rw [show ((z.toNat : Nat) : Int) = z by omega, hz]
      · intro hv
        obtain ⟨i, hi, rfl⟩ := List.mem_map.1 hv
        have hs := (List.mem_filter.1 hi).2
        rw [← vals_some, ← h3] at hs
        rcases find_at h2 (i : Int) with ⟨_, f2, _⟩ | ⟨j, x, _, f4, f5, _⟩
        · rw [f2] at hs; cases hs
        · exact List.mem_map.2 ⟨x, List.mem_of_getElem? f4, f5⟩
  have hl := hp.length_eq
  simp only [List.length_map] at hl
  rw [← Array.length_toList, hl]
  rfl
/-- A stage that no call made. -/
def DeadS (w : World) (p : Option Addr) : Prop := p = none ∨ ∃ g, p = some ⟨g, 0, none⟩ ∧ Has w g 59 #[.int .i64 0, .map none]
theorem DeadS.below {w w' : World} {p : Option Addr} (h : DeadS w p) (hb : Below w.heap.size w w') : DeadS w' p := h.imp id (fun ⟨g, e, k⟩ => ⟨g, e, k.below hb⟩)
theorem made_live (g q T : Nat) (m : Int → Option ByteArray) (w : World) (h : StageIs w g q T m) : Calls Try.prog 35 #[.pointer (some ⟨g, 0, none⟩)] w fun e w' => e = .returned (.bool true) ∧ w = w' := by
  have c0 := h.obj.at_ 0
  simp at c0
  have hT : 0 < T := by have := h.few; omega
  clear h
  go_enter Try.func35, Try.ntmps35
  go_wp2
  go_ret
  exact ⟨rfl, rfl⟩
theorem made_dead (p : Option Addr) (w : World) (h : DeadS w p) : Calls Try.prog 35 #[.pointer p] w fun e w' => e = .returned (.bool false) ∧ w = w' := by
  rcases h with rfl | ⟨g, rfl, h⟩
  · go_enter Try.func35, Try.ntmps35
    go_wp2
    go_ret
    exact ⟨rfl, rfl⟩
  · have c0 := h.at_ 0
    simp at c0
    clear h
    go_enter Try.func35, Try.ntmps35
    go_wp2
    go_ret
    exact ⟨rfl, rfl⟩
def isB (T : Nat) (i : Int) : Bool := decide (0 ≤ i) && decide (i < T)
theorem is_live (g q T : Nat) (m : Int → Option ByteArray) (i : Int) (w : World) (h : StageIs w g q T m) : Calls Try.prog 38 #[.pointer (some ⟨g, 0, none⟩), .int .i64 i] w fun e w' => e = .returned (.bool (isB T i)) ∧ w = w' := by
  have c0 := h.obj.at_ 0
  simp at c0
  clear h
  by_cases h0 : 0 ≤ i
  · by_cases h1 : i < T
    · have HB := Lib.hid (show isB T i = true by unfold isB; rw [decide_eq_true h0, decide_eq_true h1]; rfl)
      go_enter Try.func38, Try.ntmps38
      go_wp2
      go_ret
      exact ⟨by rw [HB.out]; rfl, rfl⟩
    · have HB := Lib.hid (show isB T i = false by unfold isB; rw [decide_eq_false h1]; simp)
      go_enter Try.func38, Try.ntmps38
      go_wp2
      go_ret
      exact ⟨by rw [HB.out]; rfl, rfl⟩
  · have HB := Lib.hid (show isB T i = false by unfold isB; rw [decide_eq_false h0]; rfl)
    go_enter Try.func38, Try.ntmps38
    go_wp2
    go_ret
    exact ⟨by rw [HB.out]; rfl, rfl⟩
set_option maxRecDepth 100000 in
theorem has_live (g q T : Nat) (m : Int → Option ByteArray) (i : Int) (w : World) (h : StageIs w g q T m) : Calls Try.prog 37 #[.pointer (some ⟨g, 0, none⟩), .int .i64 i] w fun e w' => e = .returned (.bool (m i).isSome) ∧ Below w.heap.size w w' := by
  have c1 := h.obj.at_ 1
  simp at c1
  have hl := (h.map.lookup mapT intT (.agg #[.string ⟨#[]⟩]) zero_piece i).2
  cases hq : m i with
  | some s =>
    have ev : vals m i = some (.agg #[.string s]) := by unfold vals; rw [hq]; rfl
    rw [ev] at hl
    simp at hl
    have HB := Lib.hid ((Below.refl w.heap.size w).alloc (Nat.le_refl _) (.cells #[.string s] 67))
    clear h ev hq
    go_enter Try.func37, Try.ntmps37
    go_wp2
    go_ret
    exact ⟨rfl, HB.out⟩
  | none =>
    have ev : vals m i = none := by unfold vals; rw [hq]; rfl
    rw [ev] at hl
    simp at hl
    have HB := Lib.hid ((Below.refl w.heap.size w).alloc (Nat.le_refl _) (.cells #[.string ⟨#[]⟩] 67))
    clear h ev hq
    go_enter Try.func37, Try.ntmps37
    go_wp2
    go_ret
    exact ⟨rfl, HB.out⟩
/-- May a part come to a place? -/
def mayB (T : Nat) (i : Int) (s : ByteArray) : Bool := isB T i && decide ((if i = (T : Int) - 1 then (1 : Int) else 512) ≤ s.size) && decide ((s.size : Int) ≤ 512)
set_option maxRecDepth 100000 in
set_option maxHeartbeats 2000000 in
theorem may_live (g q T : Nat) (m : Int → Option ByteArray) (i : Int) (s : ByteArray) (w : World) (h : StageIs w g q T m) : Calls Try.prog 36 #[.pointer (some ⟨g, 0, none⟩), .int .i64 i, .string s] w fun e w' => e = .returned (.bool (mayB T i s)) ∧ w = w' := by
  have HI := Lib.hid (is_live g q T m i w h)
  have c0 := h.obj.at_ 0
  simp at c0
  have HF := Lib.hid h.few
  have a1 : IntKind.i64.wrap ((T : Int) - 1) = (T : Int) - 1 := by rw [IntKind.wrap_i64]; have := h.few; omega
  clear h
  have main : ∀ L : Int, L = (if i = (T : Int) - 1 then (1 : Int) else 512) → ∀ b : Bool, isB T i = b → mayB T i s = (b && decide (L ≤ s.size) && decide ((s.size : Int) ≤ 512)) := fun L hL b hb => by subst hL; subst hb; rfl
  by_cases h1 : i = (T : Int) - 1
  · have e1 : (i == (T : Int) - 1) = true := beq_iff_eq.2 h1
    have HM := Lib.hid (main 1 (if_pos h1).symm)
    clear main h1
    go_enter Try.func36, Try.ntmps36
    go_wp2_with fail
    with_reducible refine HI.out.mono ?_
    rintro e w' ⟨rfl, rfl⟩
    cases hb : isB T i with
    | false =>
      have HR := Lib.hid (HM.out _ hb)
      clear hb
      go_wp2
      go_ret
      exact ⟨by rw [HR.out]; rfl, rfl⟩
    | true =>
      have HR := Lib.hid (HM.out _ hb)
      clear hb
      by_cases h2 : (1 : Int) ≤ s.size
      · by_cases h3 : (s.size : Int) ≤ 512
        · have HZ := Lib.hid (show mayB T i s = true by rw [HR.out, decide_eq_true h2, decide_eq_true h3]; rfl)
          go_wp2
          go_ret
          exact ⟨by rw [HZ.out]; rfl, rfl⟩
        · have HZ := Lib.hid (show mayB T i s = false by rw [HR.out, decide_eq_false h3]; simp)
          go_wp2
          go_ret
          exact ⟨by show Ending.returned (.bool (decide ((s.size : Int) ≤ 512))) = _; rw [HZ.out, decide_eq_false (show ¬ (s.size : Int) ≤ 512 by omega)], rfl⟩
      · have HZ := Lib.hid (show mayB T i s = false by rw [HR.out, decide_eq_false h2]; simp)
        go_wp2
        go_ret
        exact ⟨by rw [HZ.out]; rfl, rfl⟩
  · have e1 : (i == (T : Int) - 1) = false := beq_eq_false_iff_ne.2 h1
    have HM := Lib.hid (main 512 (if_neg h1).symm)
    clear main h1
    go_enter Try.func36, Try.ntmps36
    go_wp2_with fail
    with_reducible refine HI.out.mono ?_
    rintro e w' ⟨rfl, rfl⟩
    cases hb : isB T i with
    | false =>
      have HR := Lib.hid (HM.out _ hb)
      clear hb
      go_wp2
      go_ret
      exact ⟨by rw [HR.out]; rfl, rfl⟩
    | true =>
      have HR := Lib.hid (HM.out _ hb)
      clear hb
      by_cases h2 : (512 : Int) ≤ s.size
      · by_cases h3 : (s.size : Int) ≤ 512
        · have HZ := Lib.hid (show mayB T i s = true by rw [HR.out, decide_eq_true h2, decide_eq_true h3]; rfl)
          go_wp2
          go_ret
          exact ⟨by rw [HZ.out]; rfl, rfl⟩
        · have HZ := Lib.hid (show mayB T i s = false by rw [HR.out, decide_eq_false h3]; simp)
          go_wp2
          go_ret
          exact ⟨by show Ending.returned (.bool (decide ((s.size : Int) ≤ 512))) = _; rw [HZ.out, decide_eq_false (show ¬ (s.size : Int) ≤ 512 by omega)], rfl⟩
      · have HZ := Lib.hid (show mayB T i s = false by rw [HR.out, decide_eq_false h2]; simp)
        go_wp2
        go_ret
        exact ⟨by rw [HZ.out]; rfl, rfl⟩
def updM (m : Int → Option ByteArray) (i : Int) (s : ByteArray) : Int → Option ByteArray := fun z => if z = i then some s else m z
theorem upd_vals (m : Int → Option ByteArray) (i : Int) (s : ByteArray) : upd (vals m) i (.agg #[.string s]) = vals (updM m i s) := by
  funext z
  unfold upd vals updM
  by_cases h : z = i
  · rw [if_pos h, if_pos h]; rfl
  · rw [if_neg h, if_neg h]
/-- What Add answers, and what has come then. -/
noncomputable def addV (T : Nat) (m : Int → Option ByteArray) (i : Int) (s : ByteArray) : Bool × Int × (Int → Option ByteArray) :=
  if mayB T i s = true then (match m i with | none => (true, 0, updM m i s) | some x => if x.toList = s.toList then (false, 0, m) else (false, 17, m)) else (false, 22, m)
theorem add_bad {T : Nat} {m : Int → Option ByteArray} {i : Int} {s : ByteArray} (h : mayB T i s = false) : addV T m i s = (false, 22, m) := by unfold addV; rw [h]; rfl
theorem add_new {T : Nat} {m : Int → Option ByteArray} {i : Int} {s : ByteArray} (h : mayB T i s = true) (h2 : m i = none) : addV T m i s = (true, 0, updM m i s) := by unfold addV; rw [if_pos h, h2]
theorem add_old {T : Nat} {m : Int → Option ByteArray} {i : Int} {s x : ByteArray} (h : mayB T i s = true) (h2 : m i = some x) (h3 : x.toList = s.toList) : addV T m i s = (false, 0, m) := by unfold addV; rw [if_pos h, h2]; exact if_pos h3
theorem add_other {T : Nat} {m : Int → Option ByteArray} {i : Int} {s x : ByteArray} (h : mayB T i s = true) (h2 : m i = some x) (h3 : ¬ x.toList = s.toList) : addV T m i s = (false, 17, m) := by unfold addV; rw [if_pos h, h2]; exact if_neg h3
theorem may_is {T : Nat} {i : Int} {s : ByteArray} (h : mayB T i s = true) : 0 ≤ i ∧ i < T := by
  unfold mayB isB at h
  simp at h
  exact ⟨h.1.1.1, h.1.1.2⟩
theorem neq_piece (x s : ByteArray) (w : World) : (binOp .neq 67 (.agg #[.string x]) (.agg #[.string s])).run Try.prog w = .ok (.bool (!(x.toList == s.toList))) w := by
  have u9 := Try.underlying9
  have a9 := Try.isAgg9
  have z9 := Try.sizeOf9
  have hS : Try.prog.underlying 67 = some (.struct (Try.prog.fieldsOf 67)) := by kernel_rfl
  have hp : Try.prog.stoodInHeld 67 = false := by kernel_rfl
  rw [run_neq_struct]
  rw [show (10000 : Nat) = 9999 + 1 from rfl]
  rw [run_equalIn_agg w 9999 67 _ _ hS hp]
  simp only [Program.fieldsOf, Try.underlying67]
  go_simp
  by_cases h : x.toList = s.toList <;> simp [h]
def AddIs (w : World) (g q T : Nat) (r : Bool × Int × (Int → Option ByteArray)) (e : Ending) (w' : World) : Prop := e = .returned (.tuple #[.bool r.1, .int .i64 r.2.1]) ∧ StageIs w' g q T r.2.2 ∧ Chg (· = q) w w'
set_option maxRecDepth 100000 in
set_option maxHeartbeats 2000000 in
theorem add_live (g q T : Nat) (m : Int → Option ByteArray) (i : Int) (s : ByteArray) (w : World) (h : StageIs w g q T m) : Calls Try.prog 20 #[.pointer (some ⟨g, 0, none⟩), .int .i64 i, .string s] w (AddIs w g q T (addV T m i s)) := by
  have HM := Lib.hid (made_live g q T m w h)
  have HY := Lib.hid (may_live g q T m i s w h)
  have HH := Lib.hid (has_live g q T m i w h)
  have HST := Lib.hid h
  clear h
  go_enter Try.func20, Try.ntmps20
  go_wp2_with fail
  with_reducible refine HM.out.mono ?_
  rintro e w' ⟨rfl, rfl⟩
  go_wp2_with fail
  with_reducible refine HY.out.mono ?_
  rintro e w' ⟨rfl, rfl⟩
  cases hy : mayB T i s with
  | false =>
    have HA := Lib.hid (add_bad (m := m) hy)
    clear hy
    go_wp2
    exact bodyPost_ret (v := .tuple #[.bool false, .int .i64 22]) (by simp [results, Try.results20, go_sem]) rfl ⟨by rw [HA.out], by rw [HA.out]; exact HST.out, Chg.refl _ _⟩
  | true =>
    have HYT := Lib.hid hy
    clear hy
    go_wp2_with fail
    with_reducible refine HH.out.mono ?_
    rintro e w1 ⟨rfl, hb⟩
    have HS1 := Lib.hid (HST.out.below hb)
    have HC1 := Lib.hid (Chg.of_below hb (· = q))
    clear hb
    have c1 := HS1.out.obj.at_ 1
    simp at c1
    cases hm : m i with
    | none =>
      have HA := Lib.hid (add_new HYT.out hm)
      obtain ⟨w2, hu, m2, g2, z2⟩ := HS1.out.map.update mapT intT i (.agg #[.string s])
      rw [upd_vals] at m2
      have HS2 := Lib.hid (show StageIs w2 g q T (updM m i s) from ⟨HS1.out.obj.over g2 (fun e => map_has HS1.out.map HS1.out.obj e.symm), m2, fun z hz => by
        unfold updM at hz
        by_cases h : z = i
        · rw [h]; exact may_is HYT.out
        · rw [if_neg h] at hz; exact HS1.out.dom z hz, HS1.out.few⟩)
      have HC2 := Lib.hid (HC1.out.trans g2)
      clear hm m2 g2 z2
      go_wp2
      exact bodyPost_ret (v := .tuple #[.bool true, .int .i64 0]) (by simp [results, Try.results20, go_sem]) rfl ⟨by rw [HA.out], by rw [HA.out]; exact HS2.out, HC2.out⟩
    | some x =>
      have hl := (HS1.out.map.lookup mapT intT (.agg #[.string ⟨#[]⟩]) zero_piece i).1
      have ev : vals m i = some (.agg #[.string x]) := by unfold vals; rw [hm]; rfl
      rw [ev] at hl
      simp at hl
      have hne := fun w => neq_piece x s w
      by_cases hx : x.toList = s.toList
      · have HA := Lib.hid (add_old HYT.out hm hx)
        have e1 : (x.toList == s.toList) = true := beq_iff_eq.2 hx
        clear hm ev hx
        go_wp2
        exact bodyPost_ret (v := .tuple #[.bool false, .int .i64 0]) (by simp [results, Try.results20, go_sem]) rfl ⟨by rw [HA.out], by rw [HA.out]; exact HS1.out, HC1.out⟩
      · have HA := Lib.hid (add_other HYT.out hm hx)
        have e1 : (x.toList == s.toList) = false := beq_eq_false_iff_ne.2 hx
        clear hm ev hx
        go_wp2
        exact bodyPost_ret (v := .tuple #[.bool false, .int .i64 17]) (by simp [results, Try.results20, go_sem]) rfl ⟨by rw [HA.out], by rw [HA.out]; exact HS1.out, HC1.out⟩
def MissIs (w : World) (m : Int → Option ByteArray) (e : Ending) (w' : World) : Prop := ∃ j : Nat, e = .returned (.int .i64 j) ∧ (∀ k : Nat, k < j → (m k).isSome = true) ∧ (m j).isSome = false ∧ Below w.heap.size w w'
set_option maxRecDepth 100000 in
set_option maxHeartbeats 2000000 in
theorem missing_live (g q T : Nat) (m : Int → Option ByteArray) (w : World) (h : StageIs w g q T m) : Calls Try.prog 24 #[.pointer (some ⟨g, 0, none⟩)] w (MissIs w m) := by
  have HM := Lib.hid (made_live g q T m w h)
  have HST := Lib.hid h
  clear h
  go_enter Try.func24, Try.ntmps24
  go_wp2_with fail
  with_reducible refine HM.out.mono ?_
  rintro e w' ⟨rfl, rfl⟩
  go_wp2
  go_loopw [3] (fun i wr => ∃ j : Nat, j ≤ T ∧ i = .int .i64 j ∧ Hid (∀ k : Nat, k < j → (m k).isSome = true) ∧ Hid (Below w.heap.size w wr)) (fun i _ => T - (intOf i).toNat)
  case atStart => exact ⟨0, by omega, rfl, Lib.hid (fun k hk => by omega), Lib.hid (Below.refl _ _)⟩
  case round =>
    obtain ⟨j, hj, rfl, HK, HB⟩ := hrel
    have HH := Lib.hid (has_live g q T m j wr (HST.out.below HB.out))
    have hT : (T : Int) ≤ 4096 := by have := HST.out.few; omega
    have hjT : (j : Int) ≤ T := by omega
    cases hm : (m j).isSome with
    | true =>
      have HLT := Lib.hid (show j + 1 ≤ T by have := HST.out.dom j hm; omega)
      have HN := Lib.hid (show ∀ k : Nat, k < j + 1 → (m k).isSome = true from fun k hk => by
        by_cases h : k = j
        · rw [h]; exact hm
        · exact HK.out k (by omega))
      rw [hm] at HH
      clear hm
      go_wp2_with fail
      with_reducible refine HH.out.mono ?_
      rintro e w2 ⟨rfl, hb⟩
      have HB2 := Lib.hid (HB.out.trans (hb.mono HB.out.size))
      clear hb
      go_wp2
      go_roundw
      case rel => exact ⟨j + 1, HLT.out, by go_num, HN, HB2⟩
      case measure => have := HLT.out; simp [intOf]; omega
    | false =>
      have HN := Lib.hid hm
      rw [hm] at HH
      clear hm
      go_wp2_with fail
      with_reducible refine HH.out.mono ?_
      rintro e w2 ⟨rfl, hb⟩
      have HB2 := Lib.hid (HB.out.trans (hb.mono HB.out.size))
      clear hb
      go_wp2
      go_ret
      exact ⟨j, rfl, HK.out, HN.out, HB2.out⟩
end Go.Proofs.Ytepnckglnciinaa.Sm
