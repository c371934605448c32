/- Model: rows of events: one more, a row more, cloned; a fold hangs on what is there alone. -/
import Derived.Test.YtblogecapegbmaaGreatMfC
namespace Go.Proofs.YtblogecapegbmaaGreat.Jn
open Go.RowKit Go.Proofs.YtblogecapegbmaaGreat.Mem Go.Sort
open Go.Proofs.YtblogecapegbmaaGreat.Vc (joinV)
set_option linter.unusedVariables false set_option linter.unusedSimpArgs false set_option linter.unusedSectionVars false

theorem kdE : KdOk Tryz.prog 58 56 21 200 Fc.eventC (fun e => .agg (Fc.eventC e)) (.agg (Fc.eventC Sr.zeroE)) := by
  refine ⟨Tryz.underlying56, ?_, rfl, fun _ => rfl, by decide, by decide, fun x => by simp [Fc.eventC, Value.oneCell'], fun e => by kernel_rfl⟩
  have h : (Tryz.prog.info? 58).map (fun i => (i.zero, i.size, i.bytes)) = some (some (.agg (Fc.eventC Sr.zeroE)), 21, 200) := by kernel_rfl
  cases hh : Tryz.prog.info? 58 with
  | none => rw [hh] at h; cases h
  | some i => rw [hh] at h; simp at h; exact ⟨i, rfl, h⟩
set_option maxRecDepth 100000 in
set_option maxHeartbeats 2000000 in
theorem cloneE_any (A : Option Addr) (n c : Nat) (xs : List Fc.EventC) (hn : n ≤ 500000) (w : World) (h : RowOk w 21 Fc.eventC ⟨A, n, c, xs⟩) : Calls Tryz.prog 31 #[.slice A n c] w fun e w' => ∃ v, e = .returned v ∧ OwnK w' w.heap.size 58 21 Fc.eventC v xs ∧ Below w.heap.size w w' := by
  have q22 : ∀ (w : World) (a : Option Addr) (n c n' c' : Nat), (binOp .eql 56 (.slice a n c) (.slice none n' c')).run Tryz.prog w = .ok (.bool a.isNone) w := fun w a n c n' c' => Lib.run_eql_slice_nil w _ _ a n c n' c' Tryz.underlying56
  cases A with
  | none =>
    obtain ⟨rfl, rfl⟩ : n = 0 ∧ c = 0 := h.nil rfl
    have e1 : xs = [] := List.length_eq_zero_iff.1 h.row.len
    subst e1
    clear h
    go_enter Tryz.func31, Tryz.ntmps31
    go_wp2
    go_ret
    exact ⟨_, rfl, OwnK.nil _ _ _ _ _, Below.refl _ _⟩
  | some a =>
    have HH := Lib.hid h
    have hb := (Below.refl w.heap.size w).alloc (Nat.le_refl _) (.cells #[] 58)
    have HB := Lib.hid hb
    have HR := Lib.hid (h.below hb)
    have HO := Lib.hid (show OwnK (w.alloc (.cells #[] 58)) w.heap.size 58 21 Fc.eventC (.slice (some ⟨w.heap.size, 0, none⟩) 0 0) [] from ⟨by simp [flatC], .inr ⟨w.heap.size, 0, #[], rfl, Nat.le_refl _, Has.fresh w 58 #[], Nat.le_refl _, by unfold maxLen; omega, by simp, by simp [flatC]⟩⟩)
    clear h hb
    go_enter Tryz.func31, Tryz.ntmps31
    go_wp2_with (at_builtin; (with_reducible refine wpl_row (B := w.heap.size) (w0 := w) (u := .slice (some ⟨w.heap.size, 0, none⟩) 0 0) (es := []) (ys := xs) (A := some a) (n := n) (c := c) kdE (.tmp 5) (.tmp 6) rfl rfl ?_); refine ⟨⟨rfl, rfl⟩, HO.out, ⟨Nat.le_refl _, HB.out⟩, by simp; omega, HR.out.row, HR.out.nil, ?_⟩)
    intro v1 w2 o2 hb2
    have HR2 := Lib.hid (And.intro o2 hb2)
    clear o2 hb2
    obtain ⟨A1, c1, rfl, _⟩ := HR2.out.1.any
    go_wp2
    go_ret
    exact ⟨_, rfl, by have q := HR2.out.1; simpa using q, HR2.out.2⟩
/-- A whole row more, at a step of a drawn region. -/
theorem step_rowK {α : Type} {k : Nat} {C : α → Array Value} {P : Program} {E S : TypeId} {bts : Nat} {pv : α → Value} {Z : Value} (KD : KdOk P E S k bts C pv Z) {ops : Array Oper} {o : Oper} {a : Act} {Q : Exit → Act → World → Prop} {K : Act → World → Prop} {EE : Prop} (s x : Operand)
    (ho : o.op = .call { callee := .builtin .append, args := #[s, x], argTypes := #[S, S] }) {B : Nat} {u : Value} {es ys : List α} {w0 wc : World} {A : Option Addr} {n c : Nat}
    (h : (Region.wanted o (yielded ops a.tmps) = true ∧ a.eval s = u ∧ a.eval x = .slice A n c) ∧ OwnK wc B E k C u es ∧ (B ≤ w0.heap.size ∧ Below B w0 wc) ∧ (es.length + n ≤ 1000000) ∧ Fc.SRow wc k C A n ys ∧ (A = none → n = 0 ∧ c = 0) ∧
      ∀ u' w', OwnK w' B E k C u' (es ++ ys) → Below B w0 w' → K (a.put o.dst u') w') :
    if Region.wanted o (yielded ops a.tmps) = true then Oper.wp P o a wc K Q else EE := by
  obtain ⟨⟨h0, h1, h2⟩, h3, ⟨h4, h5⟩, h6, h7, h8, hK⟩ := h
  obtain ⟨i0, hi, hz0, hz1, hz2⟩ := KD.hi
  obtain ⟨hbb, hkk⟩ := KD.hb
  rw [if_pos h0]
  cases A with
  | none =>
    obtain ⟨rfl, rfl⟩ := h8 rfl
    have e : ys = [] := List.length_eq_zero_iff.1 h7.len
    subst e
    have hrun := run_append_owned_none (P := P) (w := wc) B S o.type E i0 k KD.hS hi u es.length (flatC C es) h3
    unfold Oper.wp
    simp [execOp, ho, resolve, invoke, builtin, h1, h2, hrun, Result.andThen]
    exact hK _ _ (by simpa using h3) h5
  | some ad =>
    refine wp_append_own _ s x S ho B E i0 Z k bts KD.hS hi hz0 hz1 hz2 KD.hZ KD.k0 u es.length (flatC C es) h1 h3 ad n c (flatC C ys) h2 (by rw [flatC_len KD.hk, h7.len]) (srow_news KD.hk KD.k0 h7) (flatC_one KD.one ys) (by unfold maxLen; omega) (by
      have : (es.length + n) * bts ≤ 1000000 * 256 := Nat.mul_le_mul h6 hbb
      omega) (Nat.le_trans h4 h5.size) fun v' w' hg hgr _ => hK _ _ ?_ (grownK h5 h4 h3 hgr)
    unfold OwnK
    rw [List.length_append, flatC_app, h7.len]
    exact hg
/-! ### folds as sets -/
theorem empty_join : joinP emptyP emptyP = emptyP := by
  have e1 : mrgN [Fc.rootN.p, Fc.rootN.p] = [Fc.rootN.p] := by
    have h : ins stLt Fc.NodeP.id opN nrmN [nrmN Fc.rootN.p] Fc.rootN.p = [opN (nrmN Fc.rootN.p) Fc.rootN.p] := if_pos rfl
    show ins stLt Fc.NodeP.id opN nrmN [nrmN Fc.rootN.p] Fc.rootN.p = _
    rw [h, joins_N.nop _ _ rfl, joins_N.self]
    rfl
  show (⟨joinV (fun _ => 0) (fun _ => 0), mrgN [Fc.rootN.p, Fc.rootN.p], mrgL []⟩ : Fc.StateP) = _
  rw [joinV_self, e1]
  rfl
theorem joins_S : Joins (fun _ : Fc.StateP => ()) joinP (fun a => joinP a a) :=
  ⟨fun _ _ _ => rfl, fun _ => rfl, fun a b _ => joinP_comm a b, fun a b c _ _ => joinP_assoc a b c, fun _ => rfl, fun a b _ => by rw [joinP_assoc, joinP_comm a (joinP a b), joinP_again]⟩
theorem foldP_map (es : List Fc.EventC) : foldP es = (es.map fun e => e.d.p).foldl joinP emptyP := by
  unfold foldP
  rw [List.foldl_map]
theorem foldP_red (es : List Fc.EventC) : red joinP (fun a => joinP a a) (emptyP :: es.map fun e => e.d.p) = some (foldP es) := by
  show some ((es.map fun e => e.d.p).foldl joinP (joinP emptyP emptyP)) = _
  rw [empty_join, foldP_map]
/-- A fold hangs on what is there alone. -/
theorem foldP_set {es ks : List Fc.EventC} (h : ∀ e, e ∈ es ↔ e ∈ ks) : foldP es = foldP ks := by
  have q := red_set joins_S () (emptyP :: es.map fun e => e.d.p) (emptyP :: ks.map fun e => e.d.p) (fun _ _ => rfl) fun z => by
    simp only [List.mem_cons, List.mem_map]
    constructor
    · rintro (rfl | ⟨e, he, rfl⟩)
      · exact .inl rfl
      · exact .inr ⟨e, (h e).1 he, rfl⟩
    · rintro (rfl | ⟨e, he, rfl⟩)
      · exact .inl rfl
      · exact .inr ⟨e, (h e).2 he, rfl⟩
  rw [foldP_red, foldP_red] at q
  exact Option.some.inj q
theorem foldP_empty (es : List Fc.EventC) : joinP (foldP es) emptyP = foldP es := by
  rw [foldP_map]
  exact fold_has joins_S () emptyP rfl _ emptyP rfl (fun _ _ => rfl) (.inl empty_join)
/-- Two folds as one: the fold of all. -/
theorem foldP_app (es ks : List Fc.EventC) : joinP (foldP es) (foldP ks) = foldP (es ++ ks) := by
  have e1 : foldP (es ++ ks) = (ks.map fun e => e.d.p).foldl joinP (foldP es) := by
    unfold foldP
    rw [List.foldl_append, List.foldl_map]
  rw [e1, foldP_map ks, ← fold_assoc joins_S () _ _ _ rfl rfl (fun _ _ => rfl), foldP_empty]
end Go.Proofs.YtblogecapegbmaaGreat.Jn
