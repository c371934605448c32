/- Maps whose keys are values of some kind: what they hold, key by key; looking up, laying, counting up. -/
import Derived.Test.YtblogecapegbmaaGreatMem
import Derived.MapKept
import Derived.WideKeyEntry
import Derived.Maps.RangeRun
namespace Go.Proofs.YtblogecapegbmaaGreat.Mem
open Go.RowKit
open Go.ChangeMaps (setBlock)

/-- How keys are looked for, whatever kind they are of. -/
structure KeyIs (P : Program) (kt : TypeId) {K : Type} (key : K → Value) : Prop where
 inj : ∀ a b, key a = key b → a = b
 check : ∀ e w k, (Instr.checkKey e 10000 kt (key k)).run P w = .ok () w
 find : ∀ (l : List MapEntry) w k, (∀ x ∈ l, ∃ q, x.key = key q) → ((Instr.findKey kt (key k) l).run P w = .ok none w ∧ ∀ x ∈ l, x.key ≠ key k) ∨
  ∃ j e, (Instr.findKey kt (key k) l).run P w = .ok (some (j, e.val)) w ∧ l[j]? = some e ∧ e.key = key k
 stays : ∀ w k, (Instr.keyThatStays (key k) (key k)).run P w = .ok (key k) w
structure GoodK {K : Type} (key : K → Value) (es : Array MapEntry) (clock : Nat) : Prop where
 keys : ∀ x ∈ es.toList, ∃ z, x.key = key z
 once : (es.toList.map (·.key)).Nodup
 born : ∀ x ∈ es.toList, x.born < clock
 apart : (es.toList.map (·.born)).Nodup
/-- Block b is a map that holds m. -/
def KMap {K : Type} (key : K → Value) (w : World) (b : Nat) (m : K → Option Value) : Prop :=
 ∃ es clock, w.heap[b]? = some (.map es clock) ∧ GoodK key es clock ∧ ∀ k v, m k = some v ↔ ∃ x ∈ es.toList, x.key = key k ∧ x.val = v
section
variable {K : Type} {key : K → Value} {w w' : World} {b : Nat} {m : K → Option Value}
theorem KMap.bound (h : KMap key w b m) : b < w.heap.size := by
 obtain ⟨es, c, h1, _⟩ := h
 exact (Array.getElem?_eq_some_iff.1 h1).1
theorem KMap.over {S : Nat → Prop} (h : KMap key w b m) (hc : Chg S w w') (hs : ¬ S b) : KMap key w' b m := by
 have hb := h.bound
 obtain ⟨es, c, h1, h2⟩ := h
 exact ⟨es, c, (hc.block b hb hs).trans h1, h2⟩
theorem KMap.below (h : KMap key w b m) (hb : Below w.heap.size w w') : KMap key w' b m := h.over (Chg.of_below hb (fun _ => False)) (fun k => k)
theorem KMap.drew (h : KMap key w b m) : KMap key w.drew b m := h
theorem KMap.past (h : KMap key w b m) (o : Obj) : KMap key (w.alloc o) b m := h.below ((Below.refl _ w).alloc (Nat.le_refl _) o)
theorem KMap.no_cell (h : KMap key w b m) (q : Nat) : w.cell? ⟨b, q, none⟩ = none := by
 obtain ⟨es, c, h1, _⟩ := h
 simp [World.cell?, h1]
theorem KMap.made (key : K → Value) (w : World) : KMap key (w.alloc (.map #[] 0)) w.heap.size fun _ => none :=
 ⟨#[], 0, Array.getElem?_push_size, ⟨(fun _ h => by cases h), List.nodup_nil, (fun _ h => by cases h), List.nodup_nil⟩, fun k v => ⟨(fun h => by cases h), (fun ⟨x, hx, _⟩ => by cases hx)⟩⟩
end
theorem kkey_inj {l : List MapEntry} (hn : (l.map (·.key)).Nodup) {x y : MapEntry} (hx : x ∈ l) (hy : y ∈ l) (h : x.key = y.key) : x = y := by
 induction l with
 | nil => cases hx
 | cons a l ih =>
  rw [List.map_cons, List.nodup_cons] at hn
  rcases List.mem_cons.1 hx with rfl | hx
  ·rcases List.mem_cons.1 hy with rfl | hy
   ·rfl
   ·exact absurd (by rw [h]; exact List.mem_map_of_mem hy) hn.1
  ·rcases List.mem_cons.1 hy with hya | hy
   ·exact absurd (by rw [← hya, ← h]; exact List.mem_map_of_mem (f := fun x => x.key) hx) hn.1
   ·exact ih hn.2 hx hy
theorem kmod_same {α : Type} (f : MapEntry → α) (g : MapEntry → MapEntry) : ∀ (l : List MapEntry) (j : Nat), (∀ x, l[j]? = some x → f (g x) = f x) → (l.modify j g).map f = l.map f
 | [], _, _ => by simp
 | a :: l, 0, h => by simp [h a rfl]
 | a :: l, j + 1, h => by
  simp only [List.modify_succ_cons, List.map_cons]
  rw [kmod_same f g l j (fun x hx => h x (by simpa using hx))]
theorem kmod_mem {l : List MapEntry} {g : MapEntry → MapEntry} {j : Nat} {x : MapEntry} (h : x ∈ l.modify j g) : x ∈ l ∨ ∃ y, l[j]? = some y ∧ x = g y := by
 induction l generalizing j with
 | nil => simp at h
 | cons a l ih =>
  cases j with
  | zero =>
   simp only [List.modify_zero_cons, List.mem_cons] at h
   rcases h with h | h
   ·exact .inr ⟨a, rfl, h⟩
   ·exact .inl (List.mem_cons_of_mem _ h)
  | succ j =>
   simp only [List.modify_succ_cons, List.mem_cons] at h
   rcases h with h | h
   ·exact .inl (by rw [h]; exact List.mem_cons_self)
   ·rcases ih h with h | ⟨y, h1, h2⟩
    ·exact .inl (List.mem_cons_of_mem _ h)
    ·exact .inr ⟨y, by simpa using h1, h2⟩
theorem kmod_get {l : List MapEntry} {g : MapEntry → MapEntry} {j : Nat} {y : MapEntry} (h : l[j]? = some y) : g y ∈ l.modify j g := by
 apply List.mem_of_getElem? (i := j)
 rw [List.getElem?_modify, h]
 simp
theorem kmod_other {l : List MapEntry} {g : MapEntry → MapEntry} {j : Nat} {x y : MapEntry} (h : l[j]? = some y) (hx : x ∈ l) (hne : x ≠ y) : x ∈ l.modify j g := by
 obtain ⟨i, hi⟩ := List.mem_iff_getElem?.1 hx
 apply List.mem_of_getElem? (i := i)
 rw [List.getElem?_modify, hi]
 by_cases e : j = i
 ·subst e
  rw [h] at hi
  injection hi with hi
  exact absurd hi.symm hne
 ·simp [e]
def updK {K : Type} [DecidableEq K] (m : K → Option Value) (z : K) (v : Value) : K → Option Value := fun y => if y = z then some v else m y
theorem updK_same {K : Type} [DecidableEq K] (m : K → Option Value) (z : K) (v : Value) : updK m z v z = some v := by simp [updK]
theorem updK_other {K : Type} [DecidableEq K] (m : K → Option Value) {z y : K} (v : Value) (h : y ≠ z) : updK m z v y = m y := by simp [updK, h]
section
variable {K : Type} {key : K → Value} {P : Program} {T kt e : TypeId} (hT : P.underlying T = some (.map kt e)) (hk : KeyIs P kt key)
include hT hk
theorem KMap.lookup {w : World} {b : Nat} {m : K → Option Value} (h : KMap key w b m) (zv : Value) (hz : ∀ w, (zeroValue e).run P w = .ok zv w) (z : K) :
  (Instr.lookup T (.map (some b)) (key z) false).run P w = .ok ((m z).getD zv) w ∧ (Instr.lookup T (.map (some b)) (key z) true).run P w = .ok (.tuple #[(m z).getD zv, .bool (m z).isSome]) w := by
 obtain ⟨es, c, h1, h2, h3⟩ := h
 have hg := MapKept.run_getObj_map (P := P) h1
 have hc := fun q => hk.check q w z
 rcases hk.find es.toList w z h2.keys with ⟨f1, f2⟩ | ⟨j, x, f1, f4, f5⟩
 ·have hm : m z = none := by
   cases hq : m z with
   | none => rfl
   | some v => obtain ⟨x, hx, hkx, _⟩ := (h3 z v).1 hq; exact absurd hkx (f2 x hx)
  rw [hm]
  constructor <;> simp [Instr.lookup, run_underlying hT, hg, hc, f1, hz, Result.andThen]
 ·have hm : m z = some x.val := (h3 z _).2 ⟨x, List.mem_of_getElem? f4, f5, rfl⟩
  rw [hm]
  constructor <;> simp [Instr.lookup, run_underlying hT, hg, hc, f1, Result.andThen]
end
section
variable {K : Type} [DecidableEq K] {key : K → Value} {P : Program} {T kt e : TypeId} (hT : P.underlying T = some (.map kt e)) (hk : KeyIs P kt key)
include hT hk
theorem KMap.update {w : World} {b : Nat} {m : K → Option Value} (h : KMap key w b m) (z : K) (v : Value) :
  ∃ w2, (Instr.mapUpdate T (.map (some b)) (key z) v).run P w = .ok () w2 ∧ KMap key w2 b (updK m z v) ∧ Chg (· = b) w w2 ∧ w2.heap.size = w.heap.size := by
 have hbd := h.bound
 obtain ⟨es, c, h1, h2, h3⟩ := h
 have hg := MapKept.run_getObj_map (P := P) h1
 have hc := fun q => hk.check q w z
 have hso := fun o => MapKept.run_setObj_map (P := P) o h1
 have hch : ∀ o, Chg (· = b) w (setBlock w b o) := fun o => ⟨rfl, rfl, rfl, by simp [setBlock], fun k _ hk => by simp [setBlock, Ne.symm hk]⟩
 rcases hk.find es.toList w z h2.keys with ⟨f1, f2⟩ | ⟨j, x, f1, f4, f5⟩
 ·refine ⟨setBlock w b (.map (es.push { key := key z, val := v, born := c }) (c + 1)), ?_, ⟨es.push { key := key z, val := v, born := c }, c + 1, by simp [setBlock, hbd], ⟨fun x hx => ?_, ?_, fun x hx => ?_, ?_⟩, fun y u => ?_⟩, hch _, by simp [setBlock]⟩
  ·simp [Instr.mapUpdate, run_underlying hT, hg, hc, f1, hso, Result.andThen, setBlock]
  ·rw [Array.toList_push] at hx
   rcases List.mem_append.1 hx with hx | hx
   ·exact h2.keys x hx
   ·rw [List.mem_singleton.1 hx]; exact ⟨z, rfl⟩
  ·rw [Array.toList_push, List.map_append, List.nodup_append]
   refine ⟨h2.once, by simp, fun a ha d hd => ?_⟩
   obtain ⟨x, hx, rfl⟩ := List.mem_map.1 ha
   simp at hd
   subst hd
   exact f2 x hx
  ·rw [Array.toList_push] at hx
   rcases List.mem_append.1 hx with hx | hx
   ·exact Nat.lt_succ_of_lt (h2.born x hx)
   ·rw [List.mem_singleton.1 hx]; exact Nat.lt_succ_self _
  ·rw [Array.toList_push, List.map_append, List.nodup_append]
   refine ⟨h2.apart, by simp, fun a ha d hd => ?_⟩
   obtain ⟨x, hx, rfl⟩ := List.mem_map.1 ha
   simp at hd
   subst hd
   exact Nat.ne_of_lt (h2.born x hx)
  ·rw [Array.toList_push]
   by_cases hy : y = z
   ·subst hy
    rw [updK_same]
    constructor
    ·intro e; injection e with e
     exact ⟨_, List.mem_append_right _ (List.mem_singleton.2 rfl), rfl, e⟩
    ·rintro ⟨x, hx, hkx, rfl⟩
     rcases List.mem_append.1 hx with hx | hx
     ·exact absurd hkx (f2 x hx)
     ·rw [List.mem_singleton.1 hx]
   ·rw [updK_other _ _ hy, h3 y u]
    constructor
    ·rintro ⟨x, hx, h⟩; exact ⟨x, List.mem_append_left _ hx, h⟩
    ·rintro ⟨x, hx, hkx, h⟩
     rcases List.mem_append.1 hx with hx | hx
     ·exact ⟨x, hx, hkx, h⟩
     ·rw [List.mem_singleton.1 hx] at hkx
      exact absurd (hk.inj _ _ hkx).symm hy
 ·have hkey : ((es[j]?).map (·.key)).getD (key z) = key z := by
   rw [← Array.getElem?_toList, f4]
   simp [f5]
  have hst : (Instr.keyThatStays (((es[j]?).map (·.key)).getD (key z)) (key z)).run P w = .ok (key z) w := by rw [hkey]; exact hk.stays w z
  have hl : (es.modify j fun e => { e with key := key z, val := v }).toList = es.toList.modify j fun e => { e with key := key z, val := v } := by simp
  refine ⟨setBlock w b (.map (es.modify j fun e => { e with key := key z, val := v }) c), ?_, ⟨es.modify j fun e => { e with key := key z, val := v }, c, by simp [setBlock, hbd], ⟨fun x hx => ?_, ?_, fun x hx => ?_, ?_⟩, fun y u => ?_⟩, hch _, by simp [setBlock]⟩
  ·simp [Instr.mapUpdate, run_underlying hT, hg, hc, f1, hst, hso, Result.andThen, setBlock]
  ·rw [hl] at hx
   rcases kmod_mem hx with hx | ⟨y, _, rfl⟩
   ·exact h2.keys x hx
   ·exact ⟨z, rfl⟩
  ·rw [hl, kmod_same (·.key) _ _ _ (fun x hx => by rw [f4] at hx; injection hx with hx; rw [← hx, f5])]
   exact h2.once
  ·rw [hl] at hx
   rcases kmod_mem hx with hx | ⟨y, hy, rfl⟩
   ·exact h2.born x hx
   ·exact h2.born y (List.mem_of_getElem? hy)
  ·rw [hl, kmod_same (·.born) (fun e => { e with key := key z, val := v }) es.toList j (fun x hx => rfl)]
   exact h2.apart
  ·rw [hl]
   by_cases hy : y = z
   ·subst hy
    rw [updK_same]
    constructor
    ·intro e; injection e with e
     exact ⟨_, kmod_get f4, rfl, e⟩
    ·rintro ⟨q, hq, hkq, rfl⟩
     rcases kmod_mem hq with hq2 | ⟨y2, hy2, rfl⟩
     ·have hqx : q = x := kkey_inj h2.once hq2 (List.mem_of_getElem? f4) (hkq.trans f5.symm)
      subst hqx
      have hn : ((es.toList.modify j fun e => { e with key := key y, val := v }).map (·.key)).Nodup := by
       rw [kmod_same (·.key) _ _ _ (fun x hx => by rw [f4] at hx; injection hx with hx; rw [← hx, f5])]
       exact h2.once
      have := kkey_inj hn hq (kmod_get f4) (by rw [hkq])
      rw [this]
     ·rfl
   ·rw [updK_other _ _ hy, h3 y u]
    constructor
    ·rintro ⟨q, hq, hkq, h⟩
     refine ⟨q, kmod_other f4 hq ?_, hkq, h⟩
     rintro rfl
     exact hy (hk.inj _ _ (hkq.symm.trans f5))
    ·rintro ⟨q, hq, hkq, h⟩
     rcases kmod_mem hq with hq2 | ⟨y2, hy2, rfl⟩
     ·exact ⟨q, hq2, hkq, h⟩
     ·exact absurd (hk.inj _ _ hkq).symm hy
/-- The entry of a key: it was made, or is there; its mark is q. -/
theorem KMap.entry {w : World} {b : Nat} {m : K → Option Value} (h : KMap key w b m) (zv : Value) (hz : ∀ w, (zeroValue e).run P w = .ok zv w) (z : K) :
  ∃ w2 q, (Instr.mapEntry T (.map (some b)) (key z)).run P w = .ok (.tuple #[(m z).getD zv, .int .i64 q]) w2 ∧ KMap key w2 b (updK m z ((m z).getD zv)) ∧ Chg (· = b) w w2 ∧ w2.heap.size = w.heap.size ∧
   ∀ v, ∃ w3, (Instr.entryStore T (.map (some b)) (.int .i64 q) v).run P w2 = .ok () w3 ∧ KMap key w3 b (updK m z v) ∧ Chg (· = b) w2 w3 ∧ w3.heap.size = w2.heap.size := by
 have hbd := h.bound
 have h0 := h
 obtain ⟨es, c, h1, h2, h3⟩ := h
 have hg := MapKept.run_getObj_map (P := P) h1
 have hc := fun q => hk.check q w z
 have hso := fun o => MapKept.run_setObj_map (P := P) o h1
 have hch : ∀ (w : World) o, Chg (· = b) w (setBlock w b o) := fun w o => ⟨rfl, rfl, rfl, by simp [setBlock], fun k _ hk => by simp [setBlock, Ne.symm hk]⟩
 rcases hk.find es.toList w z h2.keys with ⟨f1, f2⟩ | ⟨j, x, f1, f4, f5⟩
 ·have hm : m z = none := by
   cases hq : m z with
   | none => rfl
   | some v => obtain ⟨x, hx, hkx, _⟩ := (h3 z v).1 hq; exact absurd hkx (f2 x hx)
  rw [hm]
  have key1 : ∀ v, ∃ w4, (Instr.mapUpdate T (.map (some b)) (key z) v).run P w = .ok () w4 ∧ w4.heap[b]? = some (.map (es.push { key := key z, val := v, born := c }) (c + 1)) ∧ KMap key w4 b (updK m z v) := by
   intro v
   obtain ⟨w4, r4, k4, _, _⟩ := KMap.update hT hk h0 z v
   have r5 : (Instr.mapUpdate T (.map (some b)) (key z) v).run P w = .ok () (setBlock w b (.map (es.push { key := key z, val := v, born := c }) (c + 1))) := by
    simp [Instr.mapUpdate, run_underlying hT, hg, hc, f1, hso, Result.andThen, setBlock]
   rw [r4] at r5
   injection r5 with _ r5
   exact ⟨w4, r4, by rw [r5]; simp [setBlock, hbd], k4⟩
  have move : ∀ (w5 : World) v, w5.heap[b]? = some (.map (es.push { key := key z, val := v, born := c }) (c + 1)) → KMap key w5 b (updK m z v) := by
   intro w5 v h5
   obtain ⟨w4, _, h4, es4, c4, k1, k2⟩ := key1 v
   rw [h4] at k1
   injection k1 with k1
   injection k1 with k1 k3
   subst k1 k3
   exact ⟨_, _, h5, k2⟩
  have hbw : (setBlock w b (.map (es.push { key := key z, val := zv, born := c }) (c + 1))).heap[b]? = some (.map (es.push { key := key z, val := zv, born := c }) (c + 1)) := by simp [setBlock, hbd]
  refine ⟨setBlock w b (.map (es.push { key := key z, val := zv, born := c }) (c + 1)), c, ?_, move _ zv hbw, hch _ _, by simp [setBlock], fun v => ?_⟩
  ·simp [Instr.mapEntry, run_underlying hT, hg, hc, f1, hz, hso, Result.andThen, setBlock, goInt]
  ·have hb2 : b < (setBlock w b (.map (es.push { key := key z, val := zv, born := c }) (c + 1))).heap.size := by simpa [setBlock] using hbd
   generalize setBlock w b (.map (es.push { key := key z, val := zv, born := c }) (c + 1)) = W at *
   have hidx : (es.push ⟨key z, zv, c⟩).findIdx? (fun e => ((e.born : Nat) : Int) == ((c : Nat) : Int)) = some es.size := by
    rw [WideElems.findIdx_arr]
    exact WideElems.findIdx_born (l := (es.push ⟨key z, zv, c⟩).toList) (j := es.size) (e0 := ⟨key z, zv, c⟩) (by
     simp only [Array.toList_push, List.map_append, List.map_cons, List.map_nil]
     refine List.nodup_append.2 ⟨h2.apart, by simp, fun a ha d hd e1 => ?_⟩
     simp only [List.mem_singleton] at hd
     obtain ⟨x, hx, rfl⟩ := List.mem_map.1 ha
     have := h2.born x hx
     omega) (by simp)
   have hmod : (es.push ⟨key z, zv, c⟩).modify es.size (fun e => { e with val := v }) = es.push ⟨key z, v, c⟩ := by
    apply Array.ext'
    rw [Array.toList_modify, Array.toList_push, Array.toList_push, ← Array.length_toList, WideElems.modify_last]
   refine ⟨setBlock W b (.map (es.push ⟨key z, v, c⟩) (c + 1)), ?_, move _ v (by simp [setBlock, hb2]), hch _ _, by simp [setBlock]⟩
   simp [Instr.entryStore, MapKept.run_getObj_map hbw, asInt, asIntOf, hidx, hmod, MapKept.run_setObj_map _ hbw, Result.andThen, setBlock]
 ·have hm : m z = some x.val := (h3 z _).2 ⟨x, List.mem_of_getElem? f4, f5, rfl⟩
  have hj : es[j]? = some x := by simpa using f4
  have hst := hk.stays w z
  have hsame : es.modify j (fun e => { e with key := key z }) = es := by
   apply Array.ext'
   rw [Array.toList_modify]
   apply List.ext_getElem?
   intro i
   rw [List.getElem?_modify]
   by_cases e : j = i
   ·subst e
    rw [f4]
    simp [← f5]
   ·simp [e]
  rw [hm]
  have hbw : (setBlock w b (.map es c)).heap[b]? = some (.map es c) := by simp [setBlock, hbd]
  have hmm : updK m z x.val = m := by
   funext y
   by_cases hy : y = z
   ·subst hy; rw [updK_same, hm]
   ·rw [updK_other _ _ hy]
  have k0 : KMap key (setBlock w b (.map es c)) b m := ⟨es, c, hbw, h2, h3⟩
  refine ⟨setBlock w b (.map es c), x.born, ?_, by rw [Option.getD_some, hmm]; exact k0, hch _ _, by simp [setBlock], fun v => ?_⟩
  ·simp [Instr.mapEntry, run_underlying hT, hg, hc, f1, hj, f5, hst, hsame, hso, Result.andThen, setBlock, goInt]
  ·generalize setBlock w b (.map es c) = W at *
   have hidx : es.findIdx? (fun e => ((e.born : Nat) : Int) == ((x.born : Nat) : Int)) = some j := by
    rw [WideElems.findIdx_arr]
    exact WideElems.findIdx_born h2.apart f4
   have hmod : es.modify j (fun e => { e with val := v }) = es.modify j (fun e => { e with key := key z, val := v }) := by
    apply Array.ext'
    rw [Array.toList_modify, Array.toList_modify]
    apply List.ext_getElem?
    intro i
    rw [List.getElem?_modify, List.getElem?_modify]
    by_cases e : j = i
    ·subst e
     rw [f4]
     simp [← f5]
    ·simp [e]
   obtain ⟨w4, r4, ⟨es4, c4, k1, k2⟩, _, _⟩ := KMap.update hT hk k0 z v
   have hg2 := MapKept.run_getObj_map (P := P) hbw
   have hso2 := fun o => MapKept.run_setObj_map (P := P) o hbw
   have hc2 := fun q => hk.check q W z
   have hst2 := hk.stays W z
   have f12 : (Instr.findKey kt (key z) es.toList).run P W = .ok (some (j, x.val)) W := by
    rcases hk.find es.toList W z h2.keys with ⟨g1, g2⟩ | ⟨j2, x2, g1, g4, g5⟩
    ·exact absurd f5 (g2 x (List.mem_of_getElem? f4))
    ·have hxx : x2 = x := kkey_inj h2.once (List.mem_of_getElem? g4) (List.mem_of_getElem? f4) (g5.trans f5.symm)
     subst hxx
     have hjj : j2 = j := by
      have l1 := (List.getElem?_eq_some_iff.1 g4).1
      have l2 := (List.getElem?_eq_some_iff.1 f4).1
      have hp := List.pairwise_iff_getElem.1 h2.once
      have e1 := (List.getElem?_eq_some_iff.1 g4).2
      have e2 := (List.getElem?_eq_some_iff.1 f4).2
      rcases Nat.lt_trichotomy j2 j with h | h | h
      ·exact absurd (by rw [List.getElem_map, List.getElem_map, e1, e2]) (hp j2 j (by simpa using l1) (by simpa using l2) h)
      ·exact h
      ·exact absurd (by rw [List.getElem_map, List.getElem_map, e1, e2]) (hp j j2 (by simpa using l2) (by simpa using l1) h)
     subst hjj
     exact g1
   have r5 : (Instr.mapUpdate T (.map (some b)) (key z) v).run P W = .ok () (setBlock W b (.map (es.modify j (fun e => { e with key := key z, val := v })) c)) := by
    simp [Instr.mapUpdate, run_underlying hT, hg2, hc2, f12, hj, f5, hst2, hso2, Result.andThen, setBlock]
   rw [r4] at r5
   injection r5 with _ r5
   refine ⟨w4, ?_, ⟨es4, c4, k1, k2⟩, by rw [r5]; exact hch _ _, by rw [r5]; simp [setBlock]⟩
   rw [r5]
   simp [Instr.entryStore, hg2, asInt, asIntOf, hidx, hmod, hso2, Result.andThen, setBlock]
end
end Go.Proofs.YtblogecapegbmaaGreat.Mem

