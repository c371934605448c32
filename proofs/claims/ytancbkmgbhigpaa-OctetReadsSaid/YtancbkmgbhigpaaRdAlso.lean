/- The document's eye, asked a whole row. -/
import Derived.Test.YtancbkmgbhigpaaRdMod
import Derived.Test.YtancbkmgbhigpaaOctLooks
namespace Go.Proofs.Ytancbkmgbhigpaa.Vc
open Go.RowKit Go.Proofs.Ytancbkmgbhigpaa.Oct

def OwnI (w : World) (b : Nat) (v : Value) (l : List Int) : Prop := w.ownsRow b 3 1 v l.length (l.map (Value.int .i64))
def OwnS (w : World) (b : Nat) (v : Value) (l : List ByteArray) : Prop := w.ownsRow b 9 1 v l.length (l.map Value.string)
theorem own_chg {w w' : World} {b : Nat} {t : TypeId} {v : Value} {n : Nat} {xs : List Value} {S : Nat → Prop} (h : w.ownsRow b t 1 v n xs) (hc : Chg S w w') (hs : ∀ k, b ≤ k → ¬ S k) : w'.ownsRow b t 1 v n xs := by
  refine ⟨h.1, ?_⟩
  rcases h.2 with e | ⟨g, cap, cur, e, hb, hh, k⟩
  · exact .inl e
  · exact .inr ⟨g, cap, cur, e, hb, by rw [hc.block g (Array.getElem?_eq_some_iff.1 hh).1 (hs g hb)]; exact hh, k⟩
theorem chg_grown {a w w' : World} {S : Nat → Prop} {row : Option Nat} (h : Chg S a w) (hg : w.grownBy w' row) (hr : ∀ k, row = some k → a.heap.size ≤ k) : Chg S a w' :=
  ⟨hg.os.trans h.os, hg.tape.trans h.tape, hg.output.trans h.output, Nat.le_trans h.size hg.size, fun i hi hn => (hg.block i (Nat.lt_of_lt_of_le hi h.size) (fun e => by have := hr i e.symm; omega)).trans (h.block i hi hn)⟩
theorem has_grown {w w' : World} {g : Nat} {t : TypeId} {cs : Array Value} {row : Option Nat} (h : Oct.Has w g t cs) (hg : w.grownBy w' row) (hr : some g = row → False) : Oct.Has w' g t cs := by
  unfold Oct.Has at *
  rw [hg.block g (Array.getElem?_eq_some_iff.1 h).1 hr]
  exact h
theorem look_chg {w w' : World} {A : Option Addr} {n : Nat} {xs : List (Int × Int)} {S : Nat → Prop} (h : LookRow w A n xs) (hc : Chg S w w') (hs : ∀ b off, A = some ⟨b, off, none⟩ → ¬ S b) : LookRow w' A n xs :=
  ⟨h.1, fun hn => by
    obtain ⟨b, off, e, hl, hx⟩ := h.2 hn
    have hb : w'.heap[b]? = w.heap[b]? := hc.block b hl (hs b off e)
    exact ⟨b, off, e, Nat.lt_of_lt_of_le hl hc.size, fun i hi => ⟨(World.cell?_of_block (w := w) hb).trans (hx i hi).1, (World.cell?_of_block (w := w) hb).trans (hx i hi).2⟩⟩⟩
/-- Where the document's eye stands when it has been asked so much. -/
def EyeAt (w : World) (x : Nat) (B : ByteArray) (s : St) : Prop :=
  match s.why with
  | none => ∃ a, a ≤ B.size ∧ s.rest = B.extract a B.size ∧ Rye w x B a false 0
  | some y => ∃ a, Rye w x B a true y
/-- What a whole row has come to. -/
def Also (w : World) (x : Nat) (B : ByteArray) (xs : List (Int × Int)) (e : Ending) (w' : World) : Prop :=
  ∃ u v, e = .returned (.tuple #[u, v, .bool (asked B xs).why.isSome]) ∧ OwnI w' w.heap.size u (asked B xs).nums ∧ OwnS w' w.heap.size v (asked B xs).txts ∧ EyeAt w' x B (asked B xs) ∧ Chg (· = x) w w'
theorem also_bad {w : World} {x : Nat} {B : ByteArray} {xs : List (Int × Int)} {j : Nat} (hj : j < xs.length) {u v : Value} {r : ByteArray} {y : Int} {w' : World} {s : St} (hs : asked B (xs.take j) = s) (hw : s.why = none) (ha : ask s.rest xs[j].1 xs[j].2 = .bad r y)
    (hu : OwnI w' w.heap.size u s.nums) (hv : OwnS w' w.heap.size v s.txts) (hk : ∃ a, Rye w' x B a true y) (hc : Chg (· = x) w w') : Also w x B xs (.returned (.tuple #[u, v, .bool true])) w' := by
  have e1 : asked B (xs.take (j + 1)) = ⟨s.nums, s.txts, r, some y⟩ := by
    rw [asked_snoc B xs j hj, hs]
    unfold adv
    rw [hw]
    simp only [ha]
  have e2 : asked B xs = ⟨s.nums, s.txts, r, some y⟩ := by
    rw [asked_ended (j := j + 1) (y := y) (by rw [e1]), e1]
  unfold Also
  rw [e2]
  exact ⟨u, v, rfl, hu, hv, hk, hc⟩
end Go.Proofs.Ytancbkmgbhigpaa.Vc
