/- Rows of structs of any kind that one owns; one struct more behind such a row. -/
import Derived.Test.YtblogecapegbmaaGreatJnC
import Derived.Deep.AppendLies
import Derived.Lib.AppendZeros
import Derived.Laws.AppendOwnNone
import Derived.Great.BuildSlice
namespace Go.Proofs.YtblogecapegbmaaGreat.Jn
open Go.RowKit Go.Proofs.YtblogecapegbmaaGreat.Mem Go.Sort
set_option linter.unusedVariables false set_option linter.unusedSimpArgs false

section
variable {α : Type} {k : Nat} {C : α → Array Value}
def flatC (C : α → Array Value) (xs : List α) : List Value := xs.flatMap fun x => (C x).toList
theorem flatC_app (xs ys : List α) : flatC C (xs ++ ys) = flatC C xs ++ flatC C ys := by simp [flatC]
theorem flatC_len (hk : ∀ x, (C x).size = k) : ∀ xs : List α, (flatC C xs).length = xs.length * k
 | [] => by simp [flatC]
 | x :: r => by
  have ih := flatC_len hk r
  unfold flatC at ih ⊢
  rw [List.flatMap_cons, List.length_append, ih, List.length_cons, Nat.add_mul]
  have := hk x
  simp only [Array.length_toList]
  omega
theorem flatC_get (hk : ∀ x, (C x).size = k) : ∀ (xs : List α) (i j : Nat) (hi : i < xs.length), j < k → (flatC C xs)[i * k + j]? = (C xs[i])[j]?
 | x :: r, 0, j, _, hj => by
  unfold flatC
  rw [List.flatMap_cons, Nat.zero_mul, Nat.zero_add, List.getElem?_append_left (by simp [hk x]; exact hj)]
  simp
 | x :: r, i + 1, j, hi, hj => by
  have ih := flatC_get hk r i j (by simpa using hi) hj
  unfold flatC at ih ⊢
  have e : (i + 1) * k + j = (C x).toList.length + (i * k + j) := by simp only [Array.length_toList, hk x, Nat.add_mul, Nat.one_mul]; omega
  rw [List.flatMap_cons, e, List.getElem?_append_right (Nat.le_add_right _ _), Nat.add_sub_cancel_left, ih]
  rfl
theorem flatC_inv (hk : ∀ x, (C x).size = k) (k0 : 0 < k) {xs : List α} {t : Nat} {u : Value} (h : (flatC C xs)[t]? = some u) : ∃ i j, ∃ hi : i < xs.length, j < k ∧ t = i * k + j ∧ (C xs[i])[j]? = some u := by
 have ht : t < xs.length * k := by rw [← flatC_len hk]; exact (List.getElem?_eq_some_iff.1 h).1
 have hm := Nat.mod_lt t k0
 have hd : t / k < xs.length := (Nat.div_lt_iff_lt_mul k0).2 ht
 have e : t = t / k * k + t % k := by rw [Nat.mul_comm]; exact (Nat.div_add_mod t k).symm
 exact ⟨t / k, t % k, hd, hm, e, by rw [← flatC_get hk xs _ _ hd hm, ← e]; exact h⟩
theorem srow_news {w : World} {a : Addr} {n : Nat} {xs : List α} (hk : ∀ x, (C x).size = k) (k0 : 0 < k) (h : Fc.SRow w k C (some a) n xs) : ∀ j u, (flatC C xs)[j]? = some u → w.cell? (a.add j) = some u := by
 intro t u hu
 obtain ⟨i, j, hi, hj, rfl, he⟩ := flatC_inv hk k0 hu
 obtain ⟨b, off, e, hl, hx⟩ := h.cells (by rw [← h.len]; omega)
 cases e
 have := hx i hi j u he
 rw [Nat.add_assoc] at this
 have e2 : (⟨b, off, none⟩ : Addr).add (i * k + j) = ⟨b, off + (i * k + j), none⟩ := by
  unfold Addr.add
  split
  ·next q => rw [q]; rfl
  ·simp
 rw [e2]
 exact this
/-- A row that one owns. -/
def OwnK (w : World) (B : Nat) (E : TypeId) (k : Nat) (C : α → Array Value) (v : Value) (xs : List α) : Prop := w.ownsRow B E k v xs.length (flatC C xs)
theorem OwnK.nil (w : World) (B : Nat) (E : TypeId) (k : Nat) (C : α → Array Value) : OwnK w B E k C (.slice none 0 0) [] := ⟨by simp [flatC], .inl ⟨rfl, rfl⟩⟩
theorem OwnK.below {w w' : World} {B : Nat} {E : TypeId} {v : Value} {xs : List α} (h : OwnK w B E k C v xs) (hb : Below w.heap.size w w') : OwnK w' B E k C v xs :=
 World.ownsRow.kept h (row := none) ⟨hb.os, hb.tape, hb.output, hb.size, fun q hq _ => hb.block q hq⟩ (by cases v.ownBlock <;> simp)
theorem OwnK.sl {w : World} {B : Nat} {E : TypeId} {v : Value} {xs : List α} (h : OwnK w B E k C v xs) : (v = .slice none 0 0 ∧ xs = []) ∨ ∃ g cap, v = .slice (some ⟨g, 0, none⟩) xs.length cap ∧ B ≤ g ∧ g < w.heap.size ∧ xs.length ≤ cap ∧ cap ≤ maxLen := by
 rcases h.2 with ⟨rfl, e⟩ | ⟨g, cap, cur, rfl, hB, hw, hn, hm, hs, ht⟩
 ·exact .inl ⟨rfl, List.length_eq_zero_iff.1 e⟩
 ·exact .inr ⟨g, cap, rfl, hB, (Array.getElem?_eq_some_iff.1 hw).1, hn, hm⟩
theorem OwnK.any {w : World} {B : Nat} {E : TypeId} {v : Value} {xs : List α} (h : OwnK w B E k C v xs) : ∃ A c, v = .slice A xs.length c ∧ (A = none → xs.length = 0 ∧ c = 0) := by
 rcases h.sl with ⟨rfl, rfl⟩ | ⟨g, cap, rfl, _⟩
 ·exact ⟨none, 0, rfl, fun _ => ⟨rfl, rfl⟩⟩
 ·exact ⟨_, cap, rfl, fun q => by cases q⟩
theorem OwnK.srow {w : World} {B : Nat} {E : TypeId} {A : Option Addr} {n c : Nat} {xs : List α} (hk : ∀ x, (C x).size = k) (h : OwnK w B E k C (.slice A n c) xs) : Fc.SRow w k C A xs.length xs := by
 refine ⟨rfl, fun hn => ?_⟩
 rcases h.2 with ⟨e, z⟩ | ⟨g, cap, cur, e, hB, hw, hn2, hm, hs, ht⟩
 ·omega
 ·cases e
  refine ⟨g, 0, rfl, (Array.getElem?_eq_some_iff.1 hw).1, fun i hi j v hv => ?_⟩
  have hj : j < k := by have := (Array.getElem?_eq_some_iff.1 hv).1; rwa [hk] at this
  have e1 := flatC_get hk xs i j hi hj
  rw [hv, ← ht] at e1
  have hlt : i * k + j < xs.length * k := by
   have : (i + 1) * k ≤ xs.length * k := Nat.mul_le_mul_right k hi
   rw [Nat.add_mul] at this
   omega
  rw [List.getElem?_take_of_lt hlt] at e1
  simp only [World.cell?, hw]
  rw [Nat.zero_add]
  simpa using e1
theorem OwnK.free {w : World} {B : Nat} {E : TypeId} {g n c : Nat} {xs : List α} (h : OwnK w B E k C (.slice (some ⟨g, 0, none⟩) n c) xs) (j : Nat) : w.frozen? ⟨g, j, none⟩ = false := by
 rcases h.2 with ⟨e, z⟩ | ⟨g2, cap, cur, e, hB, hw, hn2, hm, hs, ht⟩
 ·cases e
 ·cases e
  simp [World.frozen?, hw]
theorem OwnK.mono {w : World} {B B' : Nat} {E : TypeId} {v : Value} {xs : List α} (h : OwnK w B E k C v xs) (hb : B' ≤ B) : OwnK w B' E k C v xs := ⟨h.1, h.2.imp id fun ⟨g, cap, cur, e, hB, r⟩ => ⟨g, cap, cur, e, Nat.le_trans hb hB, r⟩⟩
/-- What an append leaves. -/
structure GrewK (B : Nat) (w w' : World) (E : TypeId) (k : Nat) (C : α → Array Value) (u u' : Value) (xs ys : List α) : Prop where
 row : OwnK w' B E k C u' (xs ++ ys)
 below : Below B w w'
 chg : Chg (fun q => u.ownBlock = some q) w w'
 sl : ∃ A c, u' = .slice A (xs.length + ys.length) c
/-- A kind of structs. -/
structure KdOk (P : Program) (E S : TypeId) (k bts : Nat) (C : α → Array Value) (pv : α → Value) (Z : Value) : Prop where
 hS : P.underlying S = some (.slice E)
 hi : ∃ i0, P.info? E = some i0 ∧ i0.zero = some Z ∧ i0.size = k ∧ i0.bytes = bts
 hZ : Z.cells.size = k
 hk : ∀ x, (C x).size = k
 k0 : 0 < k
 hb : bts ≤ 256 ∧ k ≤ 256
 one : ∀ x, (C x).all (·.oneCell') = true
 fill : ∀ e, Instr.fill (fun i => some (i * k, k)) ((Array.range (1 * k)).map (Z.cells[· % Z.cells.size]!)) [(0, pv e)] = some (C e)
theorem flatC_one (h1 : ∀ x, (C x).all (·.oneCell') = true) (xs : List α) : ∀ u ∈ flatC C xs, u.oneCell' = true := by
 intro u hu
 obtain ⟨x, hx, hu⟩ := List.mem_flatMap.1 hu
 exact (Array.all_eq_true_iff_forall_mem.1 (h1 x)) u (by simpa using hu)
theorem grownK {w w1 w2 : World} {B : Nat} {E : TypeId} {v : Value} {l : List α} (hb : Below B w w1) (hB : B ≤ w.heap.size) (ho : OwnK w1 B E k C v l) (hg : w1.grownBy w2 v.ownBlock) : Below B w w2 :=
 hb.grown hg (Nat.le_trans hB hb.size) (fun q hq => (World.ownsRow.lt ho q hq).1)
/-- One struct more. -/
theorem wpl_one {P : Program} {E S : TypeId} {bts : Nat} {pv : α → Value} {Z : Value} (K : KdOk P E S k bts C pv Z) {ops : Array Oper} {rest : List Oper} {o : Oper} {a : Act} {Q : Exit → Act → World → Prop} (s x : Operand) (hgd : o.guard = none)
  (ho : o.op = .call { callee := .builtin .append, args := #[s, x], argTypes := #[S, S] }) {B : Nat} {u : Value} {es : List α} {wc : World} {e : α}
  (h : ((a.eval s = u ∧ (∃ g : Nat, a.eval x = .slice (some ⟨g, 0, none⟩) 1 1 ∧ g = wc.heap.size)) ∧ OwnK wc B E k C u es ∧ B ≤ wc.heap.size ∧ es.length ≤ 4000000) ∧
   ∀ u' w', GrewK B wc w' E k C u u' es [e] → wpList P ops Q rest (a.put o.dst u') w') :
  wpList P ops Q (o :: rest) a (wc.alloc (.cells (C e) E)) := by
 obtain ⟨⟨⟨h1, g0, h2, rfl⟩, h3, h4, h5⟩, hk⟩ := h
 obtain ⟨i0, hi, hz0, hz1, hz2⟩ := K.hi
 obtain ⟨hbb, hkk⟩ := K.hb
 refine wpList_append_lies _ hgd s x S ho B E i0 Z k bts K.hS hi hz0 hz1 hz2 K.hZ K.k0 u es.length (flatC C es) h1 (World.ownsRow.alloc h3 _) ⟨wc.heap.size, 0, none⟩ 1 1 (C e).toList h2 (by simp [K.hk]) ?_ ?_ (by decide) (by unfold maxLen; omega) (by
  have : (es.length + 1) * bts ≤ 4000001 * 256 := Nat.mul_le_mul (by omega) hbb
  omega) (by simp; omega) _ rfl ?_
 ·exact World.news_of_block (Has.fresh wc E (C e))
 ·exact fun u hu => (Array.all_eq_true_iff_forall_mem.1 (K.one e)) u (by simpa using hu)
 ·intro g cap w' hg hgr hor hlt
  refine hk _ _ ⟨?_, ?_, ?_, ⟨_, _, rfl⟩⟩
  ·unfold OwnK
   rw [List.length_append, flatC_app]
   simpa [flatC] using hg
  ·exact ((Below.refl B wc).alloc h4 _).grown hgr (by simp; omega) (fun q hq => ((World.ownsRow.lt h3) q hq).1)
  ·have c : Chg (fun q => u.ownBlock = some q) (wc.alloc (.cells (C e) E)) w' := ⟨hgr.os, hgr.tape, hgr.output, hgr.size, fun q hq hn => hgr.block q hq (fun e => hn e.symm)⟩
   exact ((Chg.refl _ wc).alloc _).trans c
/-- A whole row more. -/
theorem wpl_row {P : Program} {E S : TypeId} {bts : Nat} {pv : α → Value} {Z : Value} (K : KdOk P E S k bts C pv Z) {ops : Array Oper} {rest : List Oper} {o : Oper} {a : Act} {Q : Exit → Act → World → Prop} (s x : Operand) (hgd : o.guard = none)
  (ho : o.op = .call { callee := .builtin .append, args := #[s, x], argTypes := #[S, S] }) {B : Nat} {u : Value} {es ys : List α} {w0 wc : World} {A : Option Addr} {n c : Nat}
  (h : (a.eval s = u ∧ a.eval x = .slice A n c) ∧ OwnK wc B E k C u es ∧ (B ≤ w0.heap.size ∧ Below B w0 wc) ∧ (es.length + n ≤ 1000000) ∧ Fc.SRow wc k C A n ys ∧ (A = none → n = 0 ∧ c = 0) ∧
   ∀ u' w', OwnK w' B E k C u' (es ++ ys) → Below B w0 w' → wpList P ops Q rest (a.put o.dst u') w') :
  wpList P ops Q (o :: rest) a wc := by
 obtain ⟨⟨h1, h2⟩, h3, ⟨h4, h5⟩, h6, h7, h8, hK⟩ := h
 obtain ⟨i0, hi, hz0, hz1, hz2⟩ := K.hi
 obtain ⟨hbb, hkk⟩ := K.hb
 cases A with
 | none =>
  obtain ⟨rfl, rfl⟩ := h8 rfl
  have e : ys = [] := List.length_eq_zero_iff.1 h7.len
  subst e
  exact wpList_append_own_none hgd s x S ho B E i0 k K.hS hi _ _ _ h1 h3 h2 (hK _ _ (by simpa using h3) h5)
 | some ad =>
  refine wpList_append_own _ hgd s x S ho B E i0 Z k bts K.hS hi hz0 hz1 hz2 K.hZ K.k0 u es.length (flatC C es) h1 h3 ad n c (flatC C ys) h2 (by rw [flatC_len K.hk, h7.len]) (srow_news K.hk K.k0 h7) (flatC_one K.one ys) (by unfold maxLen; omega) (by
   have : (es.length + n) * bts ≤ 1000000 * 256 := Nat.mul_le_mul h6 hbb
   omega) (Nat.le_trans h4 h5.size) fun v' w' hg hgr _ => hK _ _ ?_ (grownK h5 h4 h3 hgr)
  unfold OwnK
  rw [List.length_append, flatC_app, h7.len]
  exact hg
/-- A literal row of one struct. -/
theorem wpl_build1 {P : Program} {E S : TypeId} {bts : Nat} {pv : α → Value} {Z : Value} (K : KdOk P E S k bts C pv Z) {ops : Array Oper} {rest : List Oper} {op : Oper} {a : Act} {w : World} {Q : Exit → Act → World → Prop} (y : Operand) (ho : op.op = .buildSlice S 1 #[(0, y)]) (e : α)
  (h : (op.guard = none ∧ a.eval y = pv e) ∧ wpList P ops Q rest (a.put op.dst (.slice (some ⟨w.heap.size, 0, none⟩) 1 1)) (w.alloc (.cells (C e) E))) : wpList P ops Q (op :: rest) a w := by
 obtain ⟨⟨h1, h2⟩, h3⟩ := h
 obtain ⟨i, q0, q1, q2, q3⟩ := K.hi
 obtain ⟨hbb, hkk⟩ := K.hb
 refine wpList_buildSlice h1 S E 1 _ ho (C e) i _ K.hS q0 q1 (by omega) (by have := K.k0; omega) ?_ h3
 have e1 : (#[(0, y)] : Array (Nat × Operand)).map (fun (i, x) => (i, a.eval x)) = #[(0, pv e)] := by simp [h2]
 rw [e1, q2]
 exact K.fill e
end
end Go.Proofs.YtblogecapegbmaaGreat.Jn
