/- A window of numbers that is appended to and cut at its head: contracts. -/
import Derived.Test.YtkbpjegegjgbkaaGreatSwD
import Derived.Deep.AppendSrc
import Derived.Deep.Upon
namespace Go.Proofs.YtkbpjegegjgbkaaGreat.Sto
open Go.RowKit
open Oct (Has Chg)
open Rws
open Dv (DoV)
open Mem (IMap)
set_option linter.unusedVariables false

theorem wpList_run_append {P : Program} {w w' : World} {ops : Array Oper} {rest : List Oper} {o : Oper} {a : Act} {Q : Exit → Act → World → Prop} {v u v' : Value} (hgd : o.guard = none) (s x : Operand) (t : TypeId)
    (ho : o.op = .call { callee := .builtin .append, args := #[s, x], argTypes := #[t, t] }) (hs : a.eval s = v) (hx : a.eval x = u)
    (hr : (Builtin.append_ #[t, t] o.type #[v, u]).run P w = .ok v' w') (h : wpList P ops Q rest (a.put o.dst v') w') : wpList P ops Q (o :: rest) a w :=
  wpList_plain hgd fun _ hK => by
    unfold Oper.wp execOp
    simp only [ho, resolve, invoke, builtin, Sem.run_bind, Sem.run_pure, Result.andThen_ok, List.map_toArray, List.map_cons, List.map_nil, hs, hx, hr]
    exact hK _ _ h
/-- A slice of numbers of the call's own, at whatever place in its block. -/
def WinI (w : World) (B : Nat) (v : Value) (l : List Int) : Prop :=
  ∃ g off cap, v = .slice (some ⟨g, off, none⟩) l.length cap ∧ B ≤ g ∧ g < w.heap.size ∧ l.length ≤ cap ∧ (∀ i (h : i < l.length), w.cell? ⟨g, off + i, none⟩ = some (.int .i64 l[i])) ∧
    (∀ j, j < cap → (w.cell? ⟨g, off + j, none⟩).isSome = true) ∧ ∃ cs, Has w g 3 cs
theorem chg_setCells {S : Nat → Prop} {a : World} {g : Nat} (hg : S g) : ∀ (vs : List Value) (o : Nat) (w : World), Chg S a w → Chg S a (w.setCells g o vs)
  | [], _, _, h => h
  | v :: r, o, w, h => chg_setCells hg r (o + 1) _ (h.setCell (p := ⟨g, o, none⟩) (.inl hg) v)
theorem has_setCells {g : Nat} {t : TypeId} : ∀ (vs : List Value) (o : Nat) (w : World), (∃ cs, Has w g t cs) → ∃ cs, Has (w.setCells g o vs) g t cs
  | [], _, _, h => h
  | v :: r, o, w, ⟨_, h⟩ => has_setCells r (o + 1) _ ⟨_, Oct.Has.put h o v⟩
/-- More numbers behind. -/
theorem win_append {w : World} {B : Nat} {v : Value} {l : List Int} (h : WinI w B v l) (hB : B ≤ w.heap.size) {A : Option Addr} {n c : Nat} {ks : List Int} (hr : NumRow w A n ks) (hn : n ≤ 1000) (hl : l.length ≤ 1000000) :
    ∃ v' w' g g', (∀ ty, (Builtin.append_ #[23, 23] ty #[v, .slice A n c]).run Tryz.prog w = .ok v' w') ∧ WinI w' B v' (l ++ ks) ∧ Below B w w' ∧ v.ownBlock = some g ∧ v'.ownBlock = some g' ∧ (g' = g ∨ g' = w.heap.size) ∧ Chg (· = g) w w' := by
  obtain ⟨i0, hi, hz0, hz1, hz2⟩ := info_parts info_i
  obtain ⟨g, off, cap, rfl, h1, h2, h3, h4, h5, cs6, h6⟩ := h
  have hsrc : Src Tryz.prog i0.size 23 (.slice A n c) n (ks.map (Value.int .i64)) w := by
    rw [hz1]
    cases A with
    | none =>
      have hn0 : n = 0 := by
        rcases Nat.eq_zero_or_pos n with k | k
        · exact k
        · obtain ⟨b, off, e, _⟩ := hr.2 k
          cases e
      subst hn0
      obtain rfl : ks = [] := List.eq_nil_of_length_eq_zero hr.1
      exact Src.ofNil w Tryz.underlying23 c
    | some ad =>
      refine Src.ofSlice w Tryz.underlying23 ad n c _ (by rw [List.length_map, hr.1, Nat.mul_one]) (num_news hr) (nums_one ks)
  have hlen : (l ++ ks).length = l.length + n := by rw [List.length_append, hr.1]
  by_cases hroom : l.length + n ≤ cap
  · have hrun := fun ty => run_append_room_src (P := Tryz.prog) w 23 23 ty 3 i0 Tryz.underlying23 hi g off l.length cap _ n _ hsrc hroom
      (fun j hj => by rw [hz1, Nat.mul_one, Nat.add_assoc]; exact h5 _ (by rw [List.length_map, hr.1] at hj; omega)) (fun j hj => Has.free h6 _)
    rw [hz1, Nat.mul_one] at hrun
    have hc := chg_setCells (S := (· = g)) (a := w) rfl (ks.map (Value.int .i64)) (off + l.length) w (Chg.refl _ _)
    have hlm : (ks.map (Value.int .i64)).length = n := by rw [List.length_map, hr.1]
    refine ⟨_, _, g, g, hrun, ⟨g, off, cap, by rw [hlen], h1, Nat.lt_of_lt_of_le h2 hc.size, by rw [hlen]; exact hroom, fun i hi' => ?_, fun j hj => ?_, has_setCells _ _ w ⟨_, h6⟩⟩, hc.below hB (fun k hk e => by omega), rfl, rfl, .inl rfl, hc⟩
    · by_cases hil : i < l.length
      · rw [World.cell?_setCells_out g _ _ w ⟨g, off + i, none⟩ (fun _ _ => .inl (by show off + i < off + l.length; omega)), h4 i hil, List.getElem_append_left hil]
      · have hik : i - l.length < (ks.map (Value.int .i64)).length := by rw [hlm]; rw [hlen] at hi'; omega
        have := World.cell?_setCells_in g (ks.map (Value.int .i64)) (off + l.length) w (fun j hj => by rw [Nat.add_assoc]; exact h5 _ (by rw [hlm] at hj; omega)) (i - l.length) hik
        rw [show off + l.length + (i - l.length) = off + i by omega] at this
        rw [this, List.getElem_append_right (by omega)]
        simp
    · exact World.isSome_setCells g _ _ w _ (h5 j hj)
  · have holds : (Builtin.firstCells i0.size l.length (.slice (some ⟨g, off, none⟩) l.length cap)).run Tryz.prog w.drew = .ok (l.map (Value.int .i64)).toArray w.drew := by
      rw [hz1]
      refine run_firstCells_some w.drew 1 l.length ⟨g, off, none⟩ l.length cap _ (by rw [List.length_map, Nat.mul_one]) (fun j u hu => ?_)
      have hj : j < l.length := by
        have := (List.getElem?_eq_some_iff.1 hu).1
        simpa using this
      rw [List.getElem?_map, List.getElem?_eq_getElem hj] at hu
      have ha : (⟨g, off, none⟩ : Addr).add j = ⟨g, off + j, none⟩ := by
        unfold Addr.add
        split
        · next h => rw [h]; rfl
        · rfl
      rw [ha]
      show w.cell? _ = _
      rw [h4 j hj]
      exact hu
    have hrun := fun ty => run_append_grow_src (P := Tryz.prog) w 23 23 ty 3 i0 (.int .i64 0) Tryz.underlying23 hi hz0 (some ⟨g, off, none⟩) l.length cap _ holds _ n _ hsrc (by omega) (by omega)
      (growslice_fits (by omega) (by rw [hz2]; omega))
    have hge := grownCap_ge w (l.length + n) cap 3
    have hb : Below B w (w.drew.alloc (.cells (((l.map (Value.int .i64)) ++ (ks.map (Value.int .i64))).toArray ++ Builtin.zeroCells (Value.cells (.int .i64 0)) (grownCap w (l.length + n) cap 3 - (l.length + n))) 3)) :=
      ((Below.refl B w).drew).alloc hB _
    refine ⟨_, _, g, w.heap.size, hrun, ⟨w.heap.size, 0, grownCap w (l.length + n) cap 3, by rw [hlen], hB, by simp, by rw [hlen]; exact hge, fun i hi' => ?_, fun j hj => ?_, ⟨_, Has.fresh w.drew 3 _⟩⟩, hb, rfl, rfl, .inr rfl, ((Chg.refl (· = g) w).drew).alloc _⟩
    · rw [Nat.zero_add]
      refine (World.cell?_alloc_new w.drew _ _ i).trans ?_
      rw [Array.getElem?_append_left (by simpa [hr.1] using hi')]
      simp only [List.getElem?_toArray]
      rw [← List.map_append, List.getElem?_map, List.getElem?_eq_getElem hi']
      rfl
    · rw [Nat.zero_add]
      rw [show (w.drew.alloc (.cells (((l.map (Value.int .i64)) ++ (ks.map (Value.int .i64))).toArray ++ Builtin.zeroCells (Value.cells (.int .i64 0)) (grownCap w (l.length + n) cap 3 - (l.length + n))) 3)).cell? ⟨w.heap.size, j, none⟩ = _ from World.cell?_alloc_new w.drew _ _ j]
      rw [Array.getElem?_eq_getElem (by simp [size_zeroCells, hr.1, Value.cells]; omega)]
      rfl
/-- Its head is cut off. -/
theorem win_tail {w : World} {B g off cap : Nat} {z : Int} {l : List Int} (h : WinI w B (.slice (some ⟨g, off, none⟩) (z :: l).length cap) (z :: l)) (hc : ¬ cap = 1) : WinI w B (.slice (some ⟨g, off + 1, none⟩) l.length (cap - 1)) l := by
  obtain ⟨g', off', cap', e, h1, h2, h3, h4, h5, h6⟩ := h
  injection e with e1 _ e2
  injection e1 with e1
  injection e1 with e1 e3 _
  subst e1 e2 e3
  rw [List.length_cons] at h3
  refine ⟨g, off + 1, cap - 1, rfl, h1, h2, by omega, fun i hi => ?_, fun j hj => ?_, h6⟩
  · have := h4 (i + 1) (by rw [List.length_cons]; omega)
    rw [show off + 1 + i = off + (i + 1) by omega, this]
    rfl
  · rw [show off + 1 + j = off + (j + 1) by omega]
    exact h5 _ (by omega)
theorem win_last {w : World} {B g off : Nat} {z : Int} {l : List Int} (h : WinI w B (.slice (some ⟨g, off, none⟩) (z :: l).length 1) (z :: l)) : l = [] ∧ WinI w B (.slice (some ⟨g, off, none⟩) 0 0) [] := by
  obtain ⟨g', off', cap', e, h1, h2, h3, h4, h5, h6⟩ := h
  injection e with e1 _ e2
  injection e1 with e1
  injection e1 with e1 e3 _
  subst e1 e2 e3
  rw [List.length_cons] at h3
  exact ⟨List.eq_nil_of_length_eq_zero (by omega), g, off, 0, rfl, h1, h2, Nat.le_refl _, (fun i hi => by cases hi), (fun j hj => by omega), h6⟩
theorem WinI.below {w w' : World} {B : Nat} {v : Value} {l : List Int} (h : WinI w B v l) (hb : Below w.heap.size w w') : WinI w' B v l := by
  obtain ⟨g, off, cap, e, h1, h2, h3, h4, h5, h6⟩ := h
  have hblk := hb.block g h2
  exact ⟨g, off, cap, e, h1, Nat.lt_of_lt_of_le h2 hb.size, h3, fun i hi => (World.cell?_of_block (a := ⟨g, off + i, none⟩) hblk).trans (h4 i hi), fun j hj => by rw [World.cell?_of_block (a := ⟨g, off + j, none⟩) hblk]; exact h5 j hj, by obtain ⟨cs, h6⟩ := h6; exact ⟨cs, hblk.trans h6⟩⟩
end Go.Proofs.YtkbpjegegjgbkaaGreat.Sto
