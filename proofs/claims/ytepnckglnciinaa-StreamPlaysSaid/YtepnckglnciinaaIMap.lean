/- Maps with whole numbers as keys: what they hold, number by number; looking up, laying, clearing, going through. -/
import Derived.Test.YtepnckglnciinaaMem
import Derived.MapKept
import Derived.Maps.RangeRun
import Derived.Laws.IdiomRangeMap
namespace Go.Proofs.Ytepnckglnciinaa.Mem
open Go.RowKit
open Go.MapKept (IsKey findNow_spec)
open Go.ChangeMaps (setBlock)

def keyIs : Value → Int → Bool
  | .int .i64 k, z => k == z
  | _, _ => false
theorem keyIs_iff {v : Value} {z : Int} : keyIs v z = true ↔ v = .int .i64 z := by
  constructor
  · intro h
    unfold keyIs at h
    split at h
    · rw [eq_of_beq h]
    · cases h
  · rintro rfl
    simp [keyIs]
def mget : List MapEntry → Int → Option Value
  | [], _ => none
  | e :: l, z => if keyIs e.key z = true then some e.val else mget l z
structure Good (es : Array MapEntry) (clock : Nat) : Prop where
  keys : ∀ x ∈ es.toList, ∃ z, x.key = .int .i64 z
  once : (es.toList.map (·.key)).Nodup
  born : ∀ x ∈ es.toList, x.born < clock
  apart : (es.toList.map (·.born)).Nodup
theorem good_nil {c : Nat} : Good #[] c := ⟨(fun _ h => by cases h), List.nodup_nil, (fun _ h => by cases h), List.nodup_nil⟩
/-- Block b is a map that holds m. -/
def IMap (w : World) (b : Nat) (m : Int → Option Value) : Prop := ∃ es clock, w.heap[b]? = some (.map es clock) ∧ Good es clock ∧ ∀ z, mget es.toList z = m z
theorem IMap.bound {w : World} {b : Nat} {m : Int → Option Value} (h : IMap w b m) : b < w.heap.size := by
  obtain ⟨es, c, h1, _⟩ := h
  exact (Array.getElem?_eq_some_iff.1 h1).1
theorem IMap.over {S : Nat → Prop} {w w' : World} {b : Nat} {m : Int → Option Value} (h : IMap w b m) (hc : Chg S w w') (hs : ¬ S b) : IMap w' b m := by
  have hb := h.bound
  obtain ⟨es, c, h1, h2⟩ := h
  exact ⟨es, c, (hc.block b hb hs).trans h1, h2⟩
theorem IMap.below {w w' : World} {b : Nat} {m : Int → Option Value} (h : IMap w b m) (hb : Below w.heap.size w w') : IMap w' b m :=
  h.over (Chg.of_below hb (fun _ => False)) (fun k => k)
theorem IMap.no_cell {w : World} {b : Nat} {m : Int → Option Value} (h : IMap w b m) (q : Nat) : w.cell? ⟨b, q, none⟩ = none := by
  obtain ⟨es, c, h1, _⟩ := h
  simp [World.cell?, h1]
theorem IMap.drew {w : World} {b : Nat} {m : Int → Option Value} (h : IMap w b m) : IMap w.drew b m := h
theorem IMap.made (w : World) : IMap (w.alloc (.map #[] 0)) w.heap.size fun _ => none :=
  ⟨#[], 0, Array.getElem?_push_size, good_nil, fun _ => rfl⟩
theorem isKey (z : Int) : IsKey (.int .i64) (.int .i64 z) := by simp [IsKey]
theorem Good.isKeys {es : Array MapEntry} {c : Nat} (h : Good es c) : ∀ x ∈ es.toList, IsKey (.int .i64) x.key := fun x hx => by
  obtain ⟨z, e⟩ := h.keys x hx
  rw [e]
  exact isKey z
theorem mget_none {l : List MapEntry} {z : Int} (h : ∀ x ∈ l, x.key ≠ .int .i64 z) : mget l z = none := by
  induction l with
  | nil => rfl
  | cons e l ih =>
    unfold mget
    rw [if_neg (fun k => h e List.mem_cons_self (keyIs_iff.1 k))]
    exact ih fun x hx => h x (List.mem_cons_of_mem _ hx)
theorem mget_mem {l : List MapEntry} {z : Int} {e : MapEntry} (hn : (l.map (·.key)).Nodup) (he : e ∈ l) (hk : e.key = .int .i64 z) : mget l z = some e.val := by
  induction l with
  | nil => cases he
  | cons a l ih =>
    rw [List.map_cons, List.nodup_cons] at hn
    unfold mget
    rcases List.mem_cons.1 he with rfl | he
    · rw [if_pos (keyIs_iff.2 hk)]
    · rw [if_neg]
      · exact ih hn.2 he
      · intro ha
        exact hn.1 (by rw [keyIs_iff.1 ha, ← hk]; exact List.mem_map_of_mem he)
/-- Where a key is found, or that it is not there. -/
theorem find_at {es : Array MapEntry} {c : Nat} (h : Good es c) (z : Int) :
    (Instr.findNow (.int .i64) (.int .i64 z) es.toList 0 = some none ∧ mget es.toList z = none ∧ ∀ x ∈ es.toList, x.key ≠ .int .i64 z) ∨
    ∃ j e, Instr.findNow (.int .i64) (.int .i64 z) es.toList 0 = some (some (j, e.val)) ∧ es.toList[j]? = some e ∧ e.key = .int .i64 z ∧ mget es.toList z = some e.val := by
  rcases findNow_spec (isKey z) es.toList 0 h.isKeys with ⟨h1, h2⟩ | ⟨j, e, h1, h2, h3⟩
  · exact .inl ⟨h1, mget_none h2, h2⟩
  · refine .inr ⟨j, e, by rw [Nat.zero_add] at h1; exact h1, h2, h3, mget_mem h.once (List.mem_of_getElem? h2) h3⟩
section
variable {P : Program} {T k e : TypeId} (hT : P.underlying T = some (.map k e)) (hk : P.underlying k = some (.int .i64))
include hT hk
theorem IMap.lookup {w : World} {b : Nat} {m : Int → Option Value} (h : IMap w b m) (zv : Value) (hz : ∀ w, (zeroValue e).run P w = .ok zv w) (z : Int) :
    (Instr.lookup T (.map (some b)) (.int .i64 z) false).run P w = .ok ((m z).getD zv) w ∧ (Instr.lookup T (.map (some b)) (.int .i64 z) true).run P w = .ok (.tuple #[(m z).getD zv, .bool (m z).isSome]) w := by
  obtain ⟨es, c, h1, h2, h3⟩ := h
  rw [← h3 z]
  have hg := MapKept.run_getObj_map (P := P) h1
  have hc := fun q => MapKept.run_checkKey (P := P) (w := w) hk (isKey z) q 9999
  rcases find_at h2 z with ⟨f1, f2, _⟩ | ⟨j, x, f1, _, _, f2⟩
  · have hf := MapKept.run_findKey (P := P) (w := w) hk f1
    rw [f2]
    constructor <;> simp [Instr.lookup, run_underlying hT, hg, hc, hf, hz, Result.andThen]
  · have hf := MapKept.run_findKey (P := P) (w := w) hk f1
    rw [f2]
    constructor <;> simp [Instr.lookup, run_underlying hT, hg, hc, hf, Result.andThen]
end
def upd (m : Int → Option Value) (z : Int) (v : Value) : Int → Option Value := fun y => if y = z then some v else m y
theorem mget_modify {l : List MapEntry} {z : Int} {v : Value} {j : Nat} {x : MapEntry} (hn : (l.map (·.key)).Nodup) (hj : l[j]? = some x) (hx : x.key = .int .i64 z) (y : Int) :
    mget (l.modify j fun e => { e with key := .int .i64 z, val := v }) y = if y = z then some v else mget l y := by
  induction l generalizing j with
  | nil => simp at hj
  | cons a l ih =>
    rw [List.map_cons, List.nodup_cons] at hn
    cases j with
    | zero =>
      simp at hj
      subst hj
      simp only [List.modify_zero_cons, mget]
      by_cases hy : y = z
      · subst hy; simp [keyIs]
      · have e1 : keyIs (.int .i64 z) y = false := Bool.eq_false_iff.2 fun k => hy (by have := keyIs_iff.1 k; injection this with _ h; exact h.symm)
        have e2 : keyIs a.key y = false := Bool.eq_false_iff.2 fun k => hy (by have := keyIs_iff.1 k; rw [hx] at this; injection this with _ h; exact h.symm)
        simp [e1, e2, hy]
    | succ j =>
      simp only [List.modify_succ_cons, mget]
      have hj' : l[j]? = some x := by simpa using hj
      by_cases ha : keyIs a.key y = true
      · rw [if_pos ha, if_pos ha, if_neg]
        rintro rfl
        exact hn.1 (by rw [keyIs_iff.1 ha, ← hx]; exact List.mem_map_of_mem (List.mem_of_getElem? hj'))
      · rw [if_neg ha, if_neg ha]
        exact ih hn.2 hj'
theorem map_modify_same {α : Type} (f : MapEntry → α) (g : MapEntry → MapEntry) : ∀ (l : List MapEntry) (j : Nat), (∀ x, l[j]? = some x → f (g x) = f x) → (l.modify j g).map f = l.map f
  | [], _, _ => by simp
  | a :: l, 0, h => by simp [h a rfl]
  | a :: l, j + 1, h => by
    simp only [List.modify_succ_cons, List.map_cons]
    rw [map_modify_same f g l j (fun x hx => h x (by simpa using hx))]
theorem mget_snoc {l : List MapEntry} {z : Int} {x : MapEntry} (hx : x.key = .int .i64 z) (hn : ∀ e ∈ l, e.key ≠ .int .i64 z) (y : Int) : mget (l ++ [x]) y = if y = z then some x.val else mget l y := by
  induction l with
  | nil =>
    simp only [List.nil_append, mget, hx]
    by_cases hy : y = z
    · subst hy; simp [keyIs]
    · rw [if_neg (fun k => hy (by have := keyIs_iff.1 k; injection this with _ h; exact h.symm)), if_neg hy]
  | cons a l ih =>
    simp only [List.cons_append, mget]
    by_cases ha : keyIs a.key y = true
    · rw [if_pos ha, if_pos ha, if_neg]
      rintro rfl
      exact hn a List.mem_cons_self (keyIs_iff.1 ha)
    · rw [if_neg ha, if_neg ha]
      exact ih fun e he => hn e (List.mem_cons_of_mem _ he)
theorem chg_setBlock {w : World} {b : Nat} (o : Obj) : Chg (· = b) w (setBlock w b o) :=
  ⟨rfl, rfl, rfl, by simp [setBlock], fun k _ hk => by simp [setBlock, Ne.symm hk]⟩
section
variable {P : Program} {T k e : TypeId} (hT : P.underlying T = some (.map k e)) (hk : P.underlying k = some (.int .i64))
include hT hk
theorem IMap.update {w : World} {b : Nat} {m : Int → Option Value} (h : IMap w b m) (z : Int) (v : Value) :
    ∃ w2, (Instr.mapUpdate T (.map (some b)) (.int .i64 z) v).run P w = .ok () w2 ∧ IMap w2 b (upd m z v) ∧ Chg (· = b) w w2 ∧ w2.heap.size = w.heap.size := by
  have hbd := h.bound
  obtain ⟨es, c, h1, h2, h3⟩ := h
  have hg := MapKept.run_getObj_map (P := P) h1
  have hc := fun q => MapKept.run_checkKey (P := P) (w := w) hk (isKey z) q 9999
  have hso := fun o => MapKept.run_setObj_map (P := P) o h1
  rcases find_at h2 z with ⟨f1, f2, f3⟩ | ⟨j, x, f1, f4, f5, f2⟩
  · have hf := MapKept.run_findKey (P := P) (w := w) hk f1
    refine ⟨setBlock w b (.map (es.push { key := .int .i64 z, val := v, born := c }) (c + 1)), ?_, ⟨es.push { key := .int .i64 z, val := v, born := c }, c + 1, by simp [setBlock, hbd], ?_, fun y => ?_⟩, chg_setBlock _, by simp [setBlock]⟩
    · simp [Instr.mapUpdate, run_underlying hT, hg, hc, hf, hso, Result.andThen, setBlock]
    · refine ⟨fun x hx => ?_, ?_, fun x hx => ?_, ?_⟩
      · rw [Array.toList_push] at hx
        rcases List.mem_append.1 hx with hx | hx
        · exact h2.keys x hx
        · rw [List.mem_singleton.1 hx]; exact ⟨z, rfl⟩
      · rw [Array.toList_push, List.map_append, List.nodup_append]
        refine ⟨h2.once, by simp, fun a ha d hd => ?_⟩
        obtain ⟨x, hx, rfl⟩ := List.mem_map.1 ha
        simp at hd
        subst hd
        exact f3 x hx
      · rw [Array.toList_push] at hx
        rcases List.mem_append.1 hx with hx | hx
        · exact Nat.lt_succ_of_lt (h2.born x hx)
        · rw [List.mem_singleton.1 hx]; exact Nat.lt_succ_self _
      · rw [Array.toList_push, List.map_append, List.nodup_append]
        refine ⟨h2.apart, by simp, fun a ha d hd => ?_⟩
        obtain ⟨x, hx, rfl⟩ := List.mem_map.1 ha
        simp at hd
        subst hd
        exact Nat.ne_of_lt (h2.born x hx)
    · rw [Array.toList_push, mget_snoc (z := z) rfl f3, h3]
      rfl
  · have hf := MapKept.run_findKey (P := P) (w := w) hk f1
    have hkey : ((es[j]?).map (·.key)).getD (.int .i64 z) = .int .i64 z := by
      rw [← Array.getElem?_toList, f4]
      simp [f5]
    have hst : (Instr.keyThatStays (((es[j]?).map (·.key)).getD (.int .i64 z)) (.int .i64 z)).run P w = .ok (.int .i64 z) w := by
      rw [hkey]
      simp [Instr.keyThatStays, Instr.sameBits]
    have hl : (es.modify j fun e => { e with key := .int .i64 z, val := v }).toList = es.toList.modify j fun e => { e with key := .int .i64 z, val := v } := by simp
    refine ⟨setBlock w b (.map (es.modify j fun e => { e with key := .int .i64 z, val := v }) c), ?_, ⟨es.modify j fun e => { e with key := .int .i64 z, val := v }, c, by simp [setBlock, hbd], ?_, fun y => ?_⟩, chg_setBlock _, by simp [setBlock]⟩
    · simp [Instr.mapUpdate, run_underlying hT, hg, hc, hf, hst, hso, Result.andThen, setBlock]
    · refine ⟨fun x hx => ?_, ?_, fun x hx => ?_, ?_⟩
      · rw [hl] at hx
        obtain ⟨i, hi⟩ := List.mem_iff_getElem?.1 hx
        rw [List.getElem?_modify] at hi
        cases hq : es.toList[i]? with
        | none => rw [hq] at hi; simp at hi
        | some q =>
          rw [hq] at hi
          by_cases hji : j = i
          · simp [hji] at hi; rw [← hi]; exact ⟨z, rfl⟩
          · simp [hji] at hi; rw [← hi]; exact h2.keys q (List.mem_of_getElem? hq)
      · rw [hl, map_modify_same (·.key) _ _ _ (fun x hx => by rw [f4] at hx; injection hx with hx; rw [← hx, f5])]
        exact h2.once
      · rw [hl] at hx
        obtain ⟨i, hi⟩ := List.mem_iff_getElem?.1 hx
        rw [List.getElem?_modify] at hi
        cases hq : es.toList[i]? with
        | none => rw [hq] at hi; simp at hi
        | some q =>
          have hb := h2.born q (List.mem_of_getElem? hq)
          rw [hq] at hi
          by_cases hji : j = i
          · simp [hji] at hi; rw [← hi]; exact hb
          · simp [hji] at hi; rw [← hi]; exact hb
      · rw [hl, map_modify_same (·.born) (fun e => { e with key := .int .i64 z, val := v }) es.toList j (fun x hx => rfl)]
        exact h2.apart
    · rw [hl, mget_modify h2.once f4 f5, h3]
      rfl
end
theorem IMap.clear {P : Program} {T k e : TypeId} (hT : P.underlying T = some (.map k e)) {w : World} {b : Nat} {m : Int → Option Value} (h : IMap w b m) :
    ∃ w2, (∀ ty, (Builtin.clear_ #[T] ty #[.map (some b)]).run P w = .ok (.tuple #[]) w2) ∧ IMap w2 b (fun _ => none) ∧ Chg (· = b) w w2 ∧ w2.heap.size = w.heap.size := by
  have hbd := h.bound
  obtain ⟨es, c, h1, h2, h3⟩ := h
  have hg := MapKept.run_getObj_map (P := P) h1
  have hso := fun o => MapKept.run_setObj_map (P := P) o h1
  refine ⟨setBlock w b (.map #[] c), ?_, ⟨#[], c, by simp [setBlock, hbd], good_nil, fun _ => rfl⟩, chg_setBlock _, by simp [setBlock]⟩
  intro ty
  simp [Builtin.clear_, run_underlying hT, hg, hso, Result.andThen, setBlock]
/-- How many entries are still to come. -/
def cntLeft (w : World) (b r : Nat) : Nat :=
  match w.heap[b]?, w.heap[r]? with
  | some (.map es _), some (.mapIter _ _ seen _) => (leftOf es seen).size
  | _, _ => 0
/-- A going through the map b that holds m, by the block r; `left` tells which numbers are still to come. -/
def Rng (w : World) (b r : Nat) (m : Int → Option Value) (left : Int → Prop) : Prop :=
  ∃ es clock since seen c0, w.heap[b]? = some (.map es clock) ∧ w.heap[r]? = some (.mapIter (some b) since seen c0) ∧ Good es clock ∧ (∀ z, mget es.toList z = m z) ∧ (∀ x ∈ es.toList, x.born < since) ∧ since ≤ c0 ∧ since ≤ clock ∧
    ∀ z, left z ↔ ∃ x ∈ es.toList, x.key = .int .i64 z ∧ x.born ∉ seen
theorem Rng.over {S : Nat → Prop} {w w' : World} {b r : Nat} {m : Int → Option Value} {left : Int → Prop} (h : Rng w b r m left) (hc : Chg S w w') (hb : ¬ S b) (hr : ¬ S r) : Rng w' b r m left := by
  obtain ⟨es, clock, since, seen, c0, h1, h2, h3⟩ := h
  have lb := (Array.getElem?_eq_some_iff.1 h1).1
  have lr := (Array.getElem?_eq_some_iff.1 h2).1
  exact ⟨es, clock, since, seen, c0, (hc.block b lb hb).trans h1, (hc.block r lr hr).trans h2, h3⟩
theorem cntLeft_over {S : Nat → Prop} {w w' : World} {b r : Nat} {m : Int → Option Value} {left : Int → Prop} (h : Rng w b r m left) (hc : Chg S w w') (hb : ¬ S b) (hr : ¬ S r) : cntLeft w' b r = cntLeft w b r := by
  obtain ⟨es, clock, since, seen, c0, h1, h2, _⟩ := h
  have lb := (Array.getElem?_eq_some_iff.1 h1).1
  have lr := (Array.getElem?_eq_some_iff.1 h2).1
  unfold cntLeft
  rw [hc.block b lb hb, hc.block r lr hr]
theorem Rng.map {w : World} {b r : Nat} {m : Int → Option Value} {left : Int → Prop} (h : Rng w b r m left) : IMap w b m := by
  obtain ⟨es, clock, since, seen, c0, h1, h2, h3, h4, _⟩ := h
  exact ⟨es, clock, h1, h3, h4⟩
theorem IMap.range {P : Program} {T k e : TypeId} (hT : P.underlying T = some (.map k e)) {w : World} {b : Nat} {m : Int → Option Value} (h : IMap w b m) :
    ∃ w2, (Instr.range T (.map (some b))).run P w = .ok (.pointer (some ⟨w.heap.size, 0, none⟩)) w2 ∧ Rng w2 b w.heap.size m (fun z => (m z).isSome) ∧ Below w.heap.size w w2 ∧ w2.heap.size = w.heap.size + 1 := by
  have hbd := h.bound
  obtain ⟨es, c, h1, h2, h3⟩ := h
  refine ⟨_, run_range_map w T k e b es c hT h1, ⟨es, c, c, #[], c, (Below.heap_alloc w _ b hbd).trans h1, Array.getElem?_push_size, h2, h3, h2.born, Nat.le_refl _, Nat.le_refl _, fun z => ?_⟩, (Below.refl _ w).alloc (Nat.le_refl _) _, by simp⟩
  constructor
  · intro hs
    have hs : (m z).isSome = true := hs
    rw [← h3 z] at hs
    rcases find_at h2 z with ⟨_, f2, _⟩ | ⟨j, x, _, f4, f5, _⟩
    · rw [f2] at hs; cases hs
    · exact ⟨x, List.mem_of_getElem? f4, f5, by simp⟩
  · rintro ⟨x, hx, hk, _⟩
    show (m z).isSome = true
    rw [← h3 z, mget_mem h2.once hx hk]
    rfl
theorem born_inj {l : List MapEntry} (hn : (l.map (·.born)).Nodup) {x y : MapEntry} (hx : x ∈ l) (hy : y ∈ l) (h : x.born = y.born) : x = y := by
  induction l with
  | nil => cases hx
  | cons a l ih =>
    rw [List.map_cons, List.nodup_cons] at hn
    rcases List.mem_cons.1 hx with rfl | hx
    · rcases List.mem_cons.1 hy with rfl | hy
      · rfl
      · exact absurd (by rw [h]; exact List.mem_map_of_mem hy) hn.1
    · rcases List.mem_cons.1 hy with hya | hy
      · exact absurd (by rw [← hya, ← h]; exact List.mem_map_of_mem (f := fun x => x.born) hx) hn.1
      · exact ih hn.2 hx hy
theorem key_inj {l : List MapEntry} (hn : (l.map (·.key)).Nodup) {x y : MapEntry} (hx : x ∈ l) (hy : y ∈ l) (h : x.key = y.key) : x = y := by
  induction l with
  | nil => cases hx
  | cons a l ih =>
    rw [List.map_cons, List.nodup_cons] at hn
    rcases List.mem_cons.1 hx with rfl | hx
    · rcases List.mem_cons.1 hy with rfl | hy
      · rfl
      · exact absurd (by rw [h]; exact List.mem_map_of_mem hy) hn.1
    · rcases List.mem_cons.1 hy with hya | hy
      · exact absurd (by rw [← hya, ← h]; exact List.mem_map_of_mem (f := fun x => x.key) hx) hn.1
      · exact ih hn.2 hx hy
theorem left_lt (es : Array MapEntry) (seen : Array Nat) (e : MapEntry) (he : e ∈ es.toList) (hs : e.born ∉ seen) : (leftOf es (seen.push e.born)).size < (leftOf es seen).size := by
  have hf : ∀ t : Array Nat, (leftOf es t).size = (es.toList.filter fun x => !t.contains x.born).length := by
    intro t
    unfold leftOf
    rw [← Array.length_toList, Array.toList_filter]
  rw [hf, hf]
  have e1 : (es.toList.filter fun x => !(seen.push e.born).contains x.born) = (es.toList.filter fun x => !seen.contains x.born).filter fun x => x.born != e.born := by
    rw [List.filter_filter]
    apply List.filter_congr
    intro x _
    have e2 : (x.born == e.born) = decide (x.born = e.born) := rfl
    simp [Bool.and_comm, bne, Bool.not_or, e2]
  rw [e1]
  refine List.length_filter_lt_length_iff_exists.2 ⟨e, ?_, by simp⟩
  rw [List.mem_filter]
  exact ⟨he, by simpa using hs⟩
theorem Rng.next {P : Program} {w : World} {b r : Nat} {m : Int → Option Value} {left : Int → Prop} (h : Rng w b r m left) :
    ((∀ z, ¬ left z) ∧ ∀ ty, (Instr.next (.pointer (some ⟨r, 0, none⟩)) false ty).run P w = .ok (.tuple #[.bool false]) w) ∨
    ∃ z v w2, m z = some v ∧ left z ∧ (∀ ty, (Instr.next (.pointer (some ⟨r, 0, none⟩)) false ty).run P w = .ok (.tuple #[.bool true, .int .i64 z, v]) w2) ∧ (Instr.entry (.pointer (some ⟨r, 0, none⟩))).run P w2 = .ok (.tuple #[.int .i64 z, v]) w2 ∧
      Rng w2 b r m (fun y => left y ∧ y ≠ z) ∧ Chg (· = r) w w2 ∧ w2.heap.size = w.heap.size ∧ cntLeft w2 b r < cntLeft w b r := by
  obtain ⟨es, clock, since, seen, c0, h1, h2, h3, h4, h5, h6, h8, h7⟩ := h
  have lr := (Array.getElem?_eq_some_iff.1 h2).1
  have hbr : b ≠ r := by
    rintro rfl
    rw [h1] at h2
    cases h2
  rcases run_next_at (P := P) w 0 r b since c0 seen es clock h2 h1 h5 h6 with ⟨hz, hrun⟩ | ⟨e, he, w1, hw1, hrun⟩
  · refine .inl ⟨fun z hl => ?_, fun ty => hrun⟩
    obtain ⟨x, hx, _, hs⟩ := (h7 z).1 hl
    have : x ∈ leftOf es seen := by
      unfold leftOf
      rw [Array.mem_filter]
      exact ⟨by simpa using hx, by simpa using hs⟩
    have h0 : leftOf es seen = #[] := Array.eq_empty_of_size_eq_zero hz
    rw [h0] at this
    simp at this
  · have hem : e ∈ es.toList ∧ e.born ∉ seen := by
      unfold leftOf at he
      simp at he
      exact ⟨by simpa using he.1, by simpa using he.2⟩
    obtain ⟨z, hk⟩ := h3.keys e hem.1
    have hb1 : w1.heap = w.heap := by rcases hw1 with rfl | rfl <;> rfl
    have hsame : (setBlock w1 r (.mapIter (some b) since (seen.push e.born) clock)).heap[r]? = some (.mapIter (some b) since (seen.push e.born) clock) := by simp [setBlock, hb1, lr]
    have hmap : (setBlock w1 r (.mapIter (some b) since (seen.push e.born) clock)).heap[b]? = some (.map es clock) := by simp [setBlock, hb1, Ne.symm hbr, h1]
    refine .inr ⟨z, e.val, setBlock w1 r (.mapIter (some b) since (seen.push e.born) clock), ?_, (h7 z).2 ⟨e, hem.1, hk, hem.2⟩, fun ty => by rw [← hk]; exact hrun, ?_, ⟨es, clock, since, seen.push e.born, clock, hmap, hsame, h3, h4, h5, h8, h8, fun y => ?_⟩, ?_, by simp [setBlock, hb1], ?_⟩
    · rw [← h4 z]
      exact mget_mem h3.once hem.1 hk
    · have := run_entry_at (P := P) _ r b since seen es clock e hsame hmap hem.1 h3.apart
      rw [this, hk]
    · show (left y ∧ y ≠ z) ↔ _
      rw [h7 y]
      constructor
      · rintro ⟨⟨x, hx, hkx, hs⟩, hyz⟩
        refine ⟨x, hx, hkx, ?_⟩
        rw [Array.mem_push]
        rintro (hh | hh)
        · exact hs hh
        · have hxe := born_inj h3.apart hx hem.1 hh
          rw [hxe, hk] at hkx
          injection hkx with _ hkx
          exact hyz hkx.symm
      · rintro ⟨x, hx, hkx, hs⟩
        rw [Array.mem_push] at hs
        refine ⟨⟨x, hx, hkx, fun hh => hs (.inl hh)⟩, ?_⟩
        rintro rfl
        apply hs
        right
        rw [key_inj h3.once hx hem.1 (hkx.trans hk.symm)]
    · rcases hw1 with rfl | rfl
      · exact chg_setBlock _
      · exact Chg.trans (b := w.drew) ((Chg.refl _ w).drew) (chg_setBlock _)
    · unfold cntLeft
      rw [hmap, hsame, h1, h2]
      exact left_lt es seen e hem.1 hem.2
end Go.Proofs.Ytepnckglnciinaa.Mem
