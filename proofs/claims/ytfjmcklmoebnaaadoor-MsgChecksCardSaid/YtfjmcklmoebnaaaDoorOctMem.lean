/- Words for memory: which blocks may have changed; a block that is known whole. And a deferred function's region that draws its order. -/
import Derived.Test.YtfjmcklmoebnaaaDoorChecked
import Derived.WalkKit
import Derived.WalkLawsBesides
import Derived.Below
import Derived.Recover
import Derived.Defers
import Derived.Laws.Pointers
import Derived.Outline
import Derived.Lib.Hide
namespace Go.Proofs.YtfjmcklmoebnaaaDoor.Oct
open Go.RowKit

/-- Of the blocks that were there only those of S may have changed. -/
structure Chg (S : Nat → Prop) (w w' : World) : Prop where
  os : w'.os = w.os
  tape : w'.tape = w.tape
  output : w'.output = w.output
  size : w.heap.size ≤ w'.heap.size
  block : ∀ k, k < w.heap.size → ¬ S k → w'.heap[k]? = w.heap[k]?
section
variable {S T : Nat → Prop} {a b c w : World}
theorem Chg.refl (S : Nat → Prop) (w : World) : Chg S w w := ⟨rfl, rfl, rfl, Nat.le_refl _, fun _ _ _ => rfl⟩
theorem Chg.trans (h : Chg S a b) (k : Chg S b c) : Chg S a c :=
  ⟨k.os.trans h.os, k.tape.trans h.tape, k.output.trans h.output, Nat.le_trans h.size k.size, fun i hi hs => (k.block i (Nat.lt_of_lt_of_le hi h.size) hs).trans (h.block i hi hs)⟩
theorem Chg.mono (h : Chg S a b) (hs : ∀ k, S k → T k) : Chg T a b := ⟨h.os, h.tape, h.output, h.size, fun i hi hn => h.block i hi (fun k => hn (hs i k))⟩
/-- What was new to the first may have changed in the second, too. -/
theorem Chg.step (h : Chg S a b) (k : Chg T b c) (hs : ∀ i, i < a.heap.size → T i → S i) : Chg S a c :=
  ⟨k.os.trans h.os, k.tape.trans h.tape, k.output.trans h.output, Nat.le_trans h.size k.size,
    fun i hi hn => (k.block i (Nat.lt_of_lt_of_le hi h.size) (fun t => hn (hs i hi t))).trans (h.block i hi hn)⟩
theorem Chg.drew (h : Chg S a w) : Chg S a w.drew := ⟨h.os, h.tape, h.output, h.size, h.block⟩
theorem Chg.drewN (h : Chg S a w) (n : Nat) : Chg S a (w.drewN n) := ⟨h.os, h.tape, h.output, h.size, h.block⟩
theorem Chg.alloc (h : Chg S a w) (o : Obj) : Chg S a (w.alloc o) :=
  ⟨h.os, h.tape, h.output, Nat.le_trans h.size (by simp), fun i hi hn => (Below.heap_alloc w o i (Nat.lt_of_lt_of_le hi h.size)).trans (h.block i hi hn)⟩
theorem Chg.setCell (h : Chg S a w) {p : Addr} (hp : S p.block ∨ a.heap.size ≤ p.block) (u : Value) : Chg S a (w.setCell p u) :=
  ⟨h.os, h.tape, h.output, by simpa [World.setCell] using h.size, fun i hi hn => (Below.heap_setCell w p u i (by
    rintro rfl
    rcases hp with hp | hp
    · exact hn hp
    · omega)).trans (h.block i hi hn)⟩
theorem Chg.below {B : Nat} (h : Chg S a b) (hb : B ≤ a.heap.size) (hs : ∀ k, k < B → ¬ S k) : Below B a b :=
  ⟨h.os, h.tape, h.output, h.size, fun i hi => h.block i (Nat.lt_of_lt_of_le hi hb) (hs i hi)⟩
theorem Chg.of_below (h : Below a.heap.size a b) (S : Nat → Prop) : Chg S a b := ⟨h.os, h.tape, h.output, h.size, fun i hi _ => h.block i hi⟩
end

/-- Block g holds just these cells, and each of them may be written. -/
def Has (w : World) (g : Nat) (t : TypeId) (cs : Array Value) : Prop := w.heap[g]? = some (.cells cs t (0, 0))
section
variable {w w' : World} {g : Nat} {t : TypeId} {cs : Array Value}
theorem Has.bound (h : Has w g t cs) : g < w.heap.size := (Array.getElem?_eq_some_iff.1 h).1
theorem Has.at_ (h : Has w g t cs) (i : Nat) : w.cell? ⟨g, i, none⟩ = cs[i]? := by
  have e : w.heap[g]? = some (.cells cs t (0, 0)) := h
  simp only [World.cell?, e]
  simp
theorem Has.free (h : Has w g t cs) (i : Nat) : w.frozen? ⟨g, i, none⟩ = false := by
  have e : w.heap[g]? = some (.cells cs t (0, 0)) := h
  simp only [World.frozen?, e]
  simp
theorem Has.fresh (w : World) (t : TypeId) (cs : Array Value) : Has (w.alloc (.cells cs t)) w.heap.size t cs := Array.getElem?_push_size
theorem Has.drew (h : Has w g t cs) : Has w.drew g t cs := h
theorem Has.over {S : Nat → Prop} (h : Has w g t cs) (hb : Chg S w w') (hs : ¬ S g) : Has w' g t cs := by
  unfold Has
  rw [hb.block g h.bound hs]
  exact h
theorem Has.past (h : Has w g t cs) (o : Obj) : Has (w.alloc o) g t cs := h.over (S := fun _ => False) ((Chg.refl _ w).alloc o) (fun k => k)
theorem Has.keep (h : Has w g t cs) {p : Addr} (hp : g ≠ p.block) (u : Value) : Has (w.setCell p u) g t cs := h.over ((Chg.refl (· = p.block) w).setCell (.inl rfl) u) hp
theorem Has.put (h : Has w g t cs) (i : Nat) (u : Value) : Has (w.setCell ⟨g, i, none⟩ u) g t (cs.setIfInBounds i u) := by
  have e : w.heap[g]? = some (.cells cs t (0, 0)) := h
  show ((w.setCell ⟨g, i, none⟩ u).heap)[g]? = _
  simp [World.setCell, Array.getElem?_modify, e]
end

/-- A deferred function's region, in whatever order the tape gives. -/
theorem wpS_region_draw {P : Program} {id : Nat} {ops : Array Oper} {Q : Exit → Act → List Frame → World → Prop} {a : Act} {cs : List Frame} {w : World}
    (h : ∀ t, wpOpsS P ops Q (Region.schedule (P.follows .mixedOrders) ops t) a cs { w with drawn := w.drawn + 1 }) : (Code.region id ops true).wpS P Q a cs w :=
  fun b k hb hr => let ⟨e, a', cs', w', q, r⟩ := wp_opsS _ a cs _ (h _) b k hb hr; ⟨e, a', cs', w', q, .of_steps (.one step_region_draw) r⟩

/-- What a looking has come to: a block of three cells. -/
def Sight (w : World) (s : Nat) (r : ByteArray) (ended : Bool) (why : Int) : Prop := Has w s 91 #[.string r, .bool ended, .int .i64 why]

theorem end_open (s : Nat) (r : ByteArray) (y n : Int) (w : World) (h : Sight w s r false y) :
    Calls Tryd.prog 82 #[.pointer (some ⟨s, 0, none⟩), .int .i64 n] w fun e w' => e = .returned (.tuple #[]) ∧ Sight w' s r true n ∧ Chg (· = s) w w' := by
  have c0 := Has.at_ h 0
  have c1 := Has.at_ h 1
  have c2 := Has.at_ h 2
  have f1 := Has.free h 1
  have f2 := Has.free h 2
  simp at c0 c1 c2
  go_enter Tryd.func82, Tryd.ntmps82
  go_wp2
  go_end0
  exact ⟨rfl, Has.put (Has.put h 1 _) 2 _, ((Chg.refl (· = s) w).setCell (p := ⟨s, 1, none⟩) (.inl rfl) _).setCell (p := ⟨s, 2, none⟩) (.inl rfl) _⟩
theorem end_done (s : Nat) (r : ByteArray) (y n : Int) (w : World) (h : Sight w s r true y) :
    Calls Tryd.prog 82 #[.pointer (some ⟨s, 0, none⟩), .int .i64 n] w fun e w' => e = .returned (.tuple #[]) ∧ w = w' := by
  have c1 := Has.at_ h 1
  simp at c1
  go_enter Tryd.func82, Tryd.ntmps82
  go_wp2
  go_end0
  exact ⟨rfl, rfl⟩
/-- How a looking ends that was not ended by what was thrown. -/
def why (r : ByteArray) (ended : Bool) (y : Int) : Int := if ended then y else if r.toList.isEmpty then 0 else 201
theorem close_empty_open (s : Nat) (r : ByteArray) (y : Int) (w : World) (h : Sight w s r false y) (hr : r.toList.isEmpty = true) :
    Calls Tryd.prog 67 #[.pointer (some ⟨s, 0, none⟩), .nilIface] w fun e w' => e = .returned (.int .i64 0) ∧ Sight w' s ⟨#[]⟩ true 0 ∧ Chg (· = s) w w' := by
  have c0 := Has.at_ h 0
  simp at c0
  go_enter Tryd.func67, Tryd.ntmps67
  go_wp2_with fail
  refine (end_open s r _ 0 _ h).mono ?_
  rintro e w1 ⟨rfl, h1, g1⟩
  have d0 := Has.at_ h1 0
  have d2 := Has.at_ h1 2
  have f0 := Has.free h1 0
  simp at d0 d2
  go_wp2
  go_ret
  exact ⟨rfl, Has.put h1 0 _, g1.setCell (p := ⟨s, 0, none⟩) (.inl rfl) _⟩
theorem close_empty_done (s : Nat) (r : ByteArray) (y : Int) (w : World) (h : Sight w s r true y) (hr : r.toList.isEmpty = true) :
    Calls Tryd.prog 67 #[.pointer (some ⟨s, 0, none⟩), .nilIface] w fun e w' => e = .returned (.int .i64 y) ∧ Sight w' s ⟨#[]⟩ true y ∧ Chg (· = s) w w' := by
  have c0 := Has.at_ h 0
  simp at c0
  go_enter Tryd.func67, Tryd.ntmps67
  go_wp2_with fail
  refine (end_done s r _ 0 _ h).mono ?_
  rintro e w' ⟨rfl, rfl⟩
  have d0 := Has.at_ h 0
  have d2 := Has.at_ h 2
  have f0 := Has.free h 0
  simp at d0 d2
  go_wp2
  go_ret
  exact ⟨rfl, Has.put h 0 _, (Chg.refl (· = s) w).setCell (p := ⟨s, 0, none⟩) (.inl rfl) _⟩
theorem close_full_open (s : Nat) (r : ByteArray) (y : Int) (w : World) (h : Sight w s r false y) (hr : r.toList.isEmpty = false) :
    Calls Tryd.prog 67 #[.pointer (some ⟨s, 0, none⟩), .nilIface] w fun e w' => e = .returned (.int .i64 201) ∧ Sight w' s ⟨#[]⟩ true 201 ∧ Chg (· = s) w w' := by
  have c0 := Has.at_ h 0
  simp at c0
  have hr2 : (!r.toList.isEmpty) = true := by rw [hr]; rfl
  go_enter Tryd.func67, Tryd.ntmps67
  go_wp2_with fail
  refine (end_open s r _ 201 _ h).mono ?_
  rintro e w1 ⟨rfl, h1, g1⟩
  go_wp2_with fail
  refine (end_done s r _ 0 _ h1).mono ?_
  rintro e w' ⟨rfl, rfl⟩
  have d0 := Has.at_ h1 0
  have d2 := Has.at_ h1 2
  have f0 := Has.free h1 0
  simp at d0 d2
  go_wp2
  go_ret
  exact ⟨rfl, Has.put h1 0 _, g1.setCell (p := ⟨s, 0, none⟩) (.inl rfl) _⟩
theorem close_full_done (s : Nat) (r : ByteArray) (y : Int) (w : World) (h : Sight w s r true y) (hr : r.toList.isEmpty = false) :
    Calls Tryd.prog 67 #[.pointer (some ⟨s, 0, none⟩), .nilIface] w fun e w' => e = .returned (.int .i64 y) ∧ Sight w' s ⟨#[]⟩ true y ∧ Chg (· = s) w w' := by
  have c0 := Has.at_ h 0
  simp at c0
  have hr2 : (!r.toList.isEmpty) = true := by rw [hr]; rfl
  go_enter Tryd.func67, Tryd.ntmps67
  go_wp2_with fail
  refine (end_done s r _ 201 _ h).mono ?_
  rintro e w' ⟨rfl, rfl⟩
  go_wp2_with fail
  refine (end_done s r _ 0 _ h).mono ?_
  rintro e w' ⟨rfl, rfl⟩
  have d0 := Has.at_ h 0
  have d2 := Has.at_ h 2
  have f0 := Has.free h 0
  simp at d0 d2
  go_wp2
  go_ret
  exact ⟨rfl, Has.put h 0 _, (Chg.refl (· = s) w).setCell (p := ⟨s, 0, none⟩) (.inl rfl) _⟩
theorem close_any (s : Nat) (r : ByteArray) (e : Bool) (y : Int) (w : World) (h : Sight w s r e y) :
    Calls Tryd.prog 67 #[.pointer (some ⟨s, 0, none⟩), .nilIface] w fun x w' => x = .returned (.int .i64 (why r e y)) ∧ Sight w' s ⟨#[]⟩ true (why r e y) ∧ Chg (· = s) w w' := by
  cases e with
  | true =>
    cases hr : r.toList.isEmpty with
    | true => exact close_empty_done s r y w h hr
    | false => exact close_full_done s r y w h hr
  | false =>
    cases hr : r.toList.isEmpty with
    | true =>
      have hw : why r false y = 0 := by unfold why; rw [hr]; rfl
      rw [hw]
      exact close_empty_open s r y w h hr
    | false =>
      have hw : why r false y = 201 := by unfold why; rw [hr]; rfl
      rw [hw]
      exact close_full_open s r y w h hr
end Go.Proofs.YtfjmcklmoebnaaaDoor.Oct
