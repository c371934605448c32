/- Join: inodes of one Id, as data; rows that an inode owns; one cell stored. -/
import Derived.Test.YtblogecapegbmaaGreatJnJ
import Derived.Lib.ReflectliteSwap
import Derived.Deep.RegionLaw
namespace Go.Proofs.YtblogecapegbmaaGreat.Jn
open Go.RowKit Go.Proofs.YtblogecapegbmaaGreat.Mem Go.Sort
open Go.Proofs.YtblogecapegbmaaGreat.Vc (joinV vecC stC)
set_option linter.unusedVariables false set_option linter.unusedSimpArgs false

/-- One cell stored into a block that is known. -/
theorem stepG_cell {P : Program} {ops : Array Oper} {o : Oper} {a : Act} {w : World} {K : Act → World → Prop} {Q : Exit → Act → World → Prop} {E : Prop} (ty : TypeId) (x y : Operand) (ho : o.op = .store ty x y) (b off : Nat) (C0 C1 : Array Value) (v : Value) {T : TypeId}
  (h : (Region.wanted o (yielded ops a.tmps) = true ∧ o.dst = none ∧ a.eval x = .pointer (some ⟨b, off, none⟩) ∧ a.eval y = v ∧ (P.info? ty).map (·.size) = some 1 ∧ v.oneCell' = true ∧ off < C0.size ∧ C0.setIfInBounds off v = C1 ∧ Has w b T C0) ∧ ∀ W', Hid (Has W' b T C1) → Hid (Chg (· = b) w W') → K a W') :
  if Region.wanted o (yielded ops a.tmps) = true then Oper.wp P o a w K Q else E := by
 obtain ⟨⟨h1, h0, h2, h3, h4, h5, h6, h7, h8⟩, h9⟩ := h
 rw [if_pos h1]
 obtain ⟨i, hi, hs⟩ : ∃ i, P.info? ty = some i ∧ i.size = 1 := by
  cases hh : P.info? ty with
  | none => rw [hh] at h4; cases h4
  | some i => rw [hh] at h4; simp at h4; exact ⟨i, rfl, h4⟩
 have hc : w.cell? ⟨b, off, none⟩ = some C0[off] := by rw [h8.at_ off]; simp [h6]
 have hr := Go.Lib.rl_storeVar_one ty i hi hs ⟨b, off, none⟩ v _ h5 w hc (h8.free off)
 unfold Oper.wp execOp
 simp only [ho, h2, h3, Instr.storeAt, Instr.sureAddr, Sem.run_bind, Sem.run_pure, Result.andThen_ok, hr]
 have hx := h8.put off v
 rw [h7] at hx
 have := h9 (w.setCell ⟨b, off, none⟩ v) (Lib.hid hx) (Lib.hid ((Chg.refl (· = b) w).setCell (p := ⟨b, off, none⟩) (.inl rfl) v))
 show K (a.put o.dst undef) _
 rw [h0]
 exact this
/-- One struct more, at a step of a drawn region. -/
theorem step_one {α : Type} {k : Nat} {C : α → Array Value} {P : Program} {E S : TypeId} {bts : Nat} {pv : α → Value} {Z : Value} (KD : KdOk P E S k bts C pv Z) {ops : Array Oper} {o : Oper} {a : Act} {Q : Exit → Act → World → Prop} {K : Act → World → Prop} {EE : Prop} (s x : Operand) (hgd : o.guard = none)
  (ho : o.op = .call { callee := .builtin .append, args := #[s, x], argTypes := #[S, S] }) {B g0 : Nat} {u : Value} {es : List α} {wc : World} {e : α}
  (h : ((a.eval s = u ∧ a.eval x = .slice (some ⟨g0, 0, none⟩) 1 1) ∧ Has wc g0 E (C e) ∧ OwnK wc B E k C u es ∧ B ≤ wc.heap.size ∧ es.length ≤ 4000000) ∧
   ∀ u' w', GrewK B wc w' E k C u u' es [e] → K (a.put o.dst u') w') :
  if Region.wanted o (yielded ops a.tmps) = true then Oper.wp P o a wc K Q else EE := by
 obtain ⟨⟨⟨h1, h2⟩, hx, h3, h4, h5⟩, hk⟩ := h
 obtain ⟨i0, hi, hz0, hz1, hz2⟩ := KD.hi
 obtain ⟨hbb, hkk⟩ := KD.hb
 refine step_append_lies _ hgd s x S ho B E i0 Z k bts KD.hS hi hz0 hz1 hz2 KD.hZ KD.k0 u es.length (flatC C es) h1 h3 ⟨g0, 0, none⟩ 1 1 (C e).toList h2 (by simp [KD.hk]) ?_ ?_ (by decide) (by unfold maxLen; omega) (by
  have : (es.length + 1) * bts ≤ 4000001 * 256 := Nat.mul_le_mul (by omega) hbb
  omega) h4 _ rfl ?_
 ·exact World.news_of_block hx
 ·exact fun u hu => (Array.all_eq_true_iff_forall_mem.1 (KD.one e)) u (by simpa using hu)
 ·intro g cap w' hg hgr hor hlt
  refine hk _ _ ⟨?_, ?_, ?_, ⟨_, _, rfl⟩⟩
  ·unfold OwnK
   rw [List.length_append, flatC_app]
   simpa [flatC] using hg
  ·exact (Below.refl B wc).grown hgr h4 (fun q hq => ((World.ownsRow.lt h3) q hq).1)
  ·exact ⟨hgr.os, hgr.tape, hgr.output, hgr.size, fun q hq hn => hgr.block q hq (fun e => hn e.symm)⟩
theorem run_max_s {P : Program} (w : World) (ts : Array TypeId) (t : TypeId) (x y : ByteArray) : (Builtin.max_ ts t #[.string x, .string y]).run P w = .ok (.string (top strLt x y)) w := by
 unfold top strLt
 cases h : Op.bytesLess x.toList y.toList <;> simp [Builtin.max_, Builtin.max2, Op.stringOp, h, asBool]
theorem run_max_n {P : Program} (w : World) (ts : Array TypeId) (t : TypeId) (x y : Int) : (Builtin.max_ ts t #[.int .i64 x, .int .i64 y]).run P w = .ok (.int .i64 (top intLt x y)) w := by
 unfold top intLt
 by_cases h : x < y <;> simp [Builtin.max_, Builtin.max2, h]
/-! ### inodes, as data -/
def stepN (a b : Fc.NodeP) : Fc.NodeP := ⟨a.id, top intLt a.kind b.kind, top strLt a.text b.text, (top ltA (atN a) (atN b)).1, (top ltA (atN a) (atN b)).2.1, (top ltA (atN a) (atN b)).2.2, (top ltZ (szN a) (szN b)).1, (top ltZ (szN a) (szN b)).2, a.ps, a.xs⟩
theorem fold_ps : ∀ (l : List Fc.NodeP) (n : Fc.NodeP) (q : List Fc.PieceP), n.ps = mrgP q → (l.foldl opN n).ps = mrgP (q ++ l.flatMap Fc.NodeP.ps)
 | [], n, q, h => by simpa using h
 | y :: l, n, q, h => by
  rw [List.foldl_cons, fold_ps l (opN n y) (q ++ y.ps) (by
   show mrgP (n.ps ++ y.ps) = _
   rw [h]
   exact mrg_flat klt_int joins_P _ _)]
  simp
theorem fold_xs : ∀ (l : List Fc.NodeP) (n : Fc.NodeP) (q : List Fc.XattrP), n.xs = mrgX q → (l.foldl opN n).xs = mrgX (q ++ l.flatMap Fc.NodeP.xs)
 | [], n, q, h => by simpa using h
 | y :: l, n, q, h => by
  rw [List.foldl_cons, fold_xs l (opN n y) (q ++ y.xs) (by
   show mrgX (n.xs ++ y.xs) = _
   rw [h]
   exact mrg_flat klt_str joins_X _ _)]
  simp
theorem nodes_one (x : Fc.NodeP) (r : List Fc.NodeP) : { (x :: r).foldl stepN x with ps := mrgP ((x :: r).flatMap Fc.NodeP.ps), xs := mrgX ((x :: r).flatMap Fc.NodeP.xs) } = r.foldl opN (nrmN x) := by
 have e1 : ∀ (l : List Fc.NodeP) (s : Fc.NodeP), (l.foldl stepN s).id = s.id := fun l => by
  induction l with
  | nil => exact fun _ => rfl
  | cons y l ih => exact fun s => (ih _).trans rfl
 have e2 : ∀ (l : List Fc.NodeP) (s : Fc.NodeP), (l.foldl opN s).id = s.id := fun l => by
  induction l with
  | nil => exact fun _ => rfl
  | cons y l ih => exact fun s => (ih _).trans rfl
 refine node_ext ?_ ?_ ?_ ?_ ?_ ?_ ?_
 ·exact (e1 (x :: r) x).trans (e2 r (nrmN x)).symm
 ·show ((x :: r).foldl stepN x).kind = _
  rw [fold_proj Fc.NodeP.kind stepN (top intLt) (fun _ _ => rfl), fold_proj Fc.NodeP.kind opN (top intLt) (fun _ _ => rfl)]
  exact fold_all (joins_unit klt_int) List.mem_cons_self
 ·show ((x :: r).foldl stepN x).text = _
  rw [fold_proj Fc.NodeP.text stepN (top strLt) (fun _ _ => rfl), fold_proj Fc.NodeP.text opN (top strLt) (fun _ _ => rfl)]
  exact fold_all (joins_unit klt_str) List.mem_cons_self
 ·show atN ((x :: r).foldl stepN x) = _
  rw [fold_proj atN stepN (top ltA) (fun _ _ => rfl), fold_proj atN opN (top ltA) (fun _ _ => rfl)]
  exact fold_all (joins_unit klt_A) List.mem_cons_self
 ·show szN ((x :: r).foldl stepN x) = _
  rw [fold_proj szN stepN (top ltZ) (fun _ _ => rfl), fold_proj szN opN (top ltZ) (fun _ _ => rfl)]
  exact fold_all (joins_unit klt_Z) List.mem_cons_self
 ·rw [fold_ps r (nrmN x) x.ps rfl]
  rfl
 ·rw [fold_xs r (nrmN x) x.xs rfl]
  rfl
/-- An inode's rows, where they lie. -/
def rowPs (z : Fc.NodeC) : RowP Fc.PieceP := ⟨z.A1, z.n1, z.c1, z.p.ps⟩
def rowXs (z : Fc.NodeC) : RowP Fc.XattrP := ⟨z.A2, z.n2, z.c2, z.p.xs⟩
structure NodeIn (w : World) (z : Fc.NodeC) : Prop where
 ps : RowOk w 4 Fc.pieceC (rowPs z)
 xs : RowOk w 5 Fc.xattrC (rowXs z)
theorem NodeIn.below {w w' : World} {z : Fc.NodeC} (h : NodeIn w z) (hb : Below w.heap.size w w') : NodeIn w' z := ⟨h.ps.below hb, h.xs.below hb⟩
/-- Rows that an inode has for itself. -/
structure NodeOwn (B : Nat) (w : World) (z : Fc.NodeC) : Prop where
 ps : OwnK w B 74 4 Fc.pieceC (.slice z.A1 z.n1 z.c1) z.p.ps
 xs : OwnK w B 77 5 Fc.xattrC (.slice z.A2 z.n2 z.c2) z.p.xs
theorem own_other {α β : Type} {w w' : World} {B B2 : Nat} {E E2 : TypeId} {k k2 : Nat} {C : α → Array Value} {C2 : β → Array Value} {v u : Value} {xs : List α} {es : List β} (h : OwnK w B E k C v xs) (hu : OwnK w B2 E2 k2 C2 u es) (hc : Chg (fun q => u.ownBlock = some q) w w') (hne : E ≠ E2) : OwnK w' B E k C v xs := by
 rcases hu.2 with ⟨rfl, _⟩ | ⟨g, cap, cur, rfl, _, hw, _⟩
 ·exact World.ownsRow.kept h (row := none) ⟨hc.os, hc.tape, hc.output, hc.size, fun q hq _ => hc.block q hq (fun e => by cases e)⟩ (by cases v.ownBlock <;> simp)
 ·refine World.ownsRow.kept h (row := some g) ⟨hc.os, hc.tape, hc.output, hc.size, fun q hq hn => hc.block q hq (fun e => hn (by simpa [Value.ownBlock] using e.symm))⟩ ?_
  rcases h.2 with ⟨rfl, _⟩ | ⟨g2, cap2, cur2, rfl, _, hw2, _⟩
  ·exact .inl rfl
  ·refine .inr fun e => ?_
   have e2 : g2 = g := by simpa [Value.ownBlock] using e
   subst e2
   rw [hw] at hw2
   cases hw2
   exact hne rfl
theorem NodeOwn.below {B : Nat} {w w' : World} {z : Fc.NodeC} (h : NodeOwn B w z) (hb : Below w.heap.size w w') : NodeOwn B w' z := ⟨h.ps.below hb, h.xs.below hb⟩
theorem keepsN (B : Nat) : Keeps B 46 13 Fc.nodeC (NodeOwn B) :=
 ⟨fun V V' y h hb => h.below hb, fun V V' u es y hu hc h => ⟨own_other h.ps hu hc (by decide), own_other h.xs hu hc (by decide)⟩⟩
theorem keepsT {α : Type} (B : Nat) (E : TypeId) (k : Nat) (C : α → Array Value) : Keeps B E k C (fun _ _ => True) := ⟨fun _ _ _ _ _ => trivial, fun _ _ _ _ _ _ _ _ => trivial⟩
theorem has_other {β : Type} {w w' : World} {B2 g : Nat} {T E2 : TypeId} {k2 : Nat} {cs : Array Value} {C2 : β → Array Value} {u : Value} {es : List β} (h : Has w g T cs) (hu : OwnK w B2 E2 k2 C2 u es) (hc : Chg (fun q => u.ownBlock = some q) w w') (hne : T ≠ E2) : Has w' g T cs := by
 refine h.over hc fun e => ?_
 rcases hu.2 with ⟨rfl, _⟩ | ⟨g2, cap, cur, rfl, _, hw, _⟩
 ·cases e
 ·have e2 : g2 = g := by simpa [Value.ownBlock] using e
  subst e2
  unfold Has at h
  rw [h] at hw
  cases hw
  exact hne rfl
theorem sum_sub1 {α : Type} (f : α → Nat) {l ys : List α} (hs : l.Sublist ys) : (l.map f).sum ≤ (ys.map f).sum := by
 induction hs with
 | slnil => exact Nat.le_refl _
 | cons a _ ih => simp only [List.map_cons, List.sum_cons]; omega
 | cons_cons a _ ih => simp only [List.map_cons, List.sum_cons]; omega
theorem sum_sub {α : Type} (f : α → Nat) {l ys xs : List α} (hp : ys.Perm xs) (hs : l.Sublist ys) : (l.map f).sum ≤ (xs.map f).sum := by
 have h1 := sum_sub1 f hs
 have h2 : (ys.map f).sum = (xs.map f).sum := (hp.map f).sum_nat
 omega
end Go.Proofs.YtblogecapegbmaaGreat.Jn
