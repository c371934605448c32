/- Join: rows cloned. -/
import Derived.Test.YtblogecapegbmaaGreatJnM
namespace Go.Proofs.YtblogecapegbmaaGreat.Jn
open Go.RowKit Go.Proofs.YtblogecapegbmaaGreat.Mem
set_option linter.unusedVariables false set_option linter.unusedSimpArgs false

set_option maxRecDepth 100000 in
set_option maxHeartbeats 2000000 in
theorem cloneP_any (A : Option Addr) (n c : Nat) (xs : List Fc.PieceP) (hn : n ≤ 500000) (w : World) (h : RowOk w 4 Fc.pieceC ⟨A, n, c, xs⟩) : Calls Tryz.prog 36 #[.slice A n c] w fun e w' => ∃ v, e = .returned v ∧ OwnK w' w.heap.size 74 4 Fc.pieceC v xs ∧ Below w.heap.size w w' := by
 have q22 : ∀ (w : World) (a : Option Addr) (n c n' c' : Nat), (binOp .eql 43 (.slice a n c) (.slice none n' c')).run Tryz.prog w = .ok (.bool a.isNone) w := fun w a n c n' c' => Lib.run_eql_slice_nil w _ _ a n c n' c' Tryz.underlying43
 cases A with
 | none =>
  obtain ⟨rfl, rfl⟩ : n = 0 ∧ c = 0 := h.nil rfl
  have e1 : xs = [] := List.length_eq_zero_iff.1 h.row.len
  subst e1
  clear h
  go_enter Tryz.func36, Tryz.ntmps36
  go_wp2
  go_ret
  exact ⟨_, rfl, OwnK.nil _ _ _ _ _, Below.refl _ _⟩
 | some a =>
  have HH := Lib.hid h
  have hb := (Below.refl w.heap.size w).alloc (Nat.le_refl _) (.cells #[] 74)
  have HB := Lib.hid hb
  have HR := Lib.hid (h.below hb)
  have HO := Lib.hid (show OwnK (w.alloc (.cells #[] 74)) w.heap.size 74 4 Fc.pieceC (.slice (some ⟨w.heap.size, 0, none⟩) 0 0) [] from ⟨by simp [flatC], .inr ⟨w.heap.size, 0, #[], rfl, Nat.le_refl _, Has.fresh w 74 #[], Nat.le_refl _, by unfold maxLen; omega, by simp, by simp [flatC]⟩⟩)
  clear h hb
  go_enter Tryz.func36, Tryz.ntmps36
  go_wp2_with (at_builtin; (with_reducible refine wpl_row (B := w.heap.size) (w0 := w) (u := .slice (some ⟨w.heap.size, 0, none⟩) 0 0) (es := []) (ys := xs) (A := some a) (n := n) (c := c) kdP (.tmp 5) (.tmp 6) rfl rfl ?_); refine ⟨⟨rfl, rfl⟩, HO.out, ⟨Nat.le_refl _, HB.out⟩, by simp; omega, HR.out.row, HR.out.nil, ?_⟩)
  intro v1 w2 o2 hb2
  have HR2 := Lib.hid (And.intro o2 hb2)
  clear o2 hb2
  obtain ⟨A1, c1, rfl, _⟩ := HR2.out.1.any
  go_wp2
  go_ret
  exact ⟨_, rfl, by have q := HR2.out.1; simpa using q, HR2.out.2⟩
set_option maxRecDepth 100000 in
set_option maxHeartbeats 2000000 in
theorem cloneX_any (A : Option Addr) (n c : Nat) (xs : List Fc.XattrP) (hn : n ≤ 500000) (w : World) (h : RowOk w 5 Fc.xattrC ⟨A, n, c, xs⟩) : Calls Tryz.prog 37 #[.slice A n c] w fun e w' => ∃ v, e = .returned v ∧ OwnK w' w.heap.size 77 5 Fc.xattrC v xs ∧ Below w.heap.size w w' := by
 have q22 : ∀ (w : World) (a : Option Addr) (n c n' c' : Nat), (binOp .eql 44 (.slice a n c) (.slice none n' c')).run Tryz.prog w = .ok (.bool a.isNone) w := fun w a n c n' c' => Lib.run_eql_slice_nil w _ _ a n c n' c' Tryz.underlying44
 cases A with
 | none =>
  obtain ⟨rfl, rfl⟩ : n = 0 ∧ c = 0 := h.nil rfl
  have e1 : xs = [] := List.length_eq_zero_iff.1 h.row.len
  subst e1
  clear h
  go_enter Tryz.func37, Tryz.ntmps37
  go_wp2
  go_ret
  exact ⟨_, rfl, OwnK.nil _ _ _ _ _, Below.refl _ _⟩
 | some a =>
  have HH := Lib.hid h
  have hb := (Below.refl w.heap.size w).alloc (Nat.le_refl _) (.cells #[] 77)
  have HB := Lib.hid hb
  have HR := Lib.hid (h.below hb)
  have HO := Lib.hid (show OwnK (w.alloc (.cells #[] 77)) w.heap.size 77 5 Fc.xattrC (.slice (some ⟨w.heap.size, 0, none⟩) 0 0) [] from ⟨by simp [flatC], .inr ⟨w.heap.size, 0, #[], rfl, Nat.le_refl _, Has.fresh w 77 #[], Nat.le_refl _, by unfold maxLen; omega, by simp, by simp [flatC]⟩⟩)
  clear h hb
  go_enter Tryz.func37, Tryz.ntmps37
  go_wp2_with (at_builtin; (with_reducible refine wpl_row (B := w.heap.size) (w0 := w) (u := .slice (some ⟨w.heap.size, 0, none⟩) 0 0) (es := []) (ys := xs) (A := some a) (n := n) (c := c) kdX (.tmp 5) (.tmp 6) rfl rfl ?_); refine ⟨⟨rfl, rfl⟩, HO.out, ⟨Nat.le_refl _, HB.out⟩, by simp; omega, HR.out.row, HR.out.nil, ?_⟩)
  intro v1 w2 o2 hb2
  have HR2 := Lib.hid (And.intro o2 hb2)
  clear o2 hb2
  obtain ⟨A1, c1, rfl, _⟩ := HR2.out.1.any
  go_wp2
  go_ret
  exact ⟨_, rfl, by have q := HR2.out.1; simpa using q, HR2.out.2⟩
set_option maxRecDepth 100000 in
set_option maxHeartbeats 2000000 in
theorem cloneL_any (A : Option Addr) (n c : Nat) (xs : List Fc.LinkP) (hn : n ≤ 500000) (w : World) (h : RowOk w 25 Fc.linkC ⟨A, n, c, xs⟩) : Calls Tryz.prog 35 #[.slice A n c] w fun e w' => ∃ v, e = .returned v ∧ OwnK w' w.heap.size 51 25 Fc.linkC v xs ∧ Below w.heap.size w w' := by
 have q22 : ∀ (w : World) (a : Option Addr) (n c n' c' : Nat), (binOp .eql 25 (.slice a n c) (.slice none n' c')).run Tryz.prog w = .ok (.bool a.isNone) w := fun w a n c n' c' => Lib.run_eql_slice_nil w _ _ a n c n' c' Tryz.underlying25
 cases A with
 | none =>
  obtain ⟨rfl, rfl⟩ : n = 0 ∧ c = 0 := h.nil rfl
  have e1 : xs = [] := List.length_eq_zero_iff.1 h.row.len
  subst e1
  clear h
  go_enter Tryz.func35, Tryz.ntmps35
  go_wp2
  go_ret
  exact ⟨_, rfl, OwnK.nil _ _ _ _ _, Below.refl _ _⟩
 | some a =>
  have HH := Lib.hid h
  have hb := (Below.refl w.heap.size w).alloc (Nat.le_refl _) (.cells #[] 51)
  have HB := Lib.hid hb
  have HR := Lib.hid (h.below hb)
  have HO := Lib.hid (show OwnK (w.alloc (.cells #[] 51)) w.heap.size 51 25 Fc.linkC (.slice (some ⟨w.heap.size, 0, none⟩) 0 0) [] from ⟨by simp [flatC], .inr ⟨w.heap.size, 0, #[], rfl, Nat.le_refl _, Has.fresh w 51 #[], Nat.le_refl _, by unfold maxLen; omega, by simp, by simp [flatC]⟩⟩)
  clear h hb
  go_enter Tryz.func35, Tryz.ntmps35
  go_wp2_with (at_builtin; (with_reducible refine wpl_row (B := w.heap.size) (w0 := w) (u := .slice (some ⟨w.heap.size, 0, none⟩) 0 0) (es := []) (ys := xs) (A := some a) (n := n) (c := c) kdL (.tmp 5) (.tmp 6) rfl rfl ?_); refine ⟨⟨rfl, rfl⟩, HO.out, ⟨Nat.le_refl _, HB.out⟩, by simp; omega, HR.out.row, HR.out.nil, ?_⟩)
  intro v1 w2 o2 hb2
  have HR2 := Lib.hid (And.intro o2 hb2)
  clear o2 hb2
  obtain ⟨A1, c1, rfl, _⟩ := HR2.out.1.any
  go_wp2
  go_ret
  exact ⟨_, rfl, by have q := HR2.out.1; simpa using q, HR2.out.2⟩
set_option maxRecDepth 100000 in
set_option maxHeartbeats 2000000 in
theorem cloneN_any (A : Option Addr) (n c : Nat) (xs : List Fc.NodeC) (hn : n ≤ 500000) (w : World) (h : RowOk w 13 Fc.nodeC ⟨A, n, c, xs⟩) : Calls Tryz.prog 34 #[.slice A n c] w fun e w' => ∃ v, e = .returned v ∧ OwnK w' w.heap.size 46 13 Fc.nodeC v xs ∧ Below w.heap.size w w' := by
 have q22 : ∀ (w : World) (a : Option Addr) (n c n' c' : Nat), (binOp .eql 24 (.slice a n c) (.slice none n' c')).run Tryz.prog w = .ok (.bool a.isNone) w := fun w a n c n' c' => Lib.run_eql_slice_nil w _ _ a n c n' c' Tryz.underlying24
 cases A with
 | none =>
  obtain ⟨rfl, rfl⟩ : n = 0 ∧ c = 0 := h.nil rfl
  have e1 : xs = [] := List.length_eq_zero_iff.1 h.row.len
  subst e1
  clear h
  go_enter Tryz.func34, Tryz.ntmps34
  go_wp2
  go_ret
  exact ⟨_, rfl, OwnK.nil _ _ _ _ _, Below.refl _ _⟩
 | some a =>
  have HH := Lib.hid h
  have hb := (Below.refl w.heap.size w).alloc (Nat.le_refl _) (.cells #[] 46)
  have HB := Lib.hid hb
  have HR := Lib.hid (h.below hb)
  have HO := Lib.hid (show OwnK (w.alloc (.cells #[] 46)) w.heap.size 46 13 Fc.nodeC (.slice (some ⟨w.heap.size, 0, none⟩) 0 0) [] from ⟨by simp [flatC], .inr ⟨w.heap.size, 0, #[], rfl, Nat.le_refl _, Has.fresh w 46 #[], Nat.le_refl _, by unfold maxLen; omega, by simp, by simp [flatC]⟩⟩)
  clear h hb
  go_enter Tryz.func34, Tryz.ntmps34
  go_wp2_with (at_builtin; (with_reducible refine wpl_row (B := w.heap.size) (w0 := w) (u := .slice (some ⟨w.heap.size, 0, none⟩) 0 0) (es := []) (ys := xs) (A := some a) (n := n) (c := c) kdN (.tmp 5) (.tmp 6) rfl rfl ?_); refine ⟨⟨rfl, rfl⟩, HO.out, ⟨Nat.le_refl _, HB.out⟩, by simp; omega, HR.out.row, HR.out.nil, ?_⟩)
  intro v1 w2 o2 hb2
  have HR2 := Lib.hid (And.intro o2 hb2)
  clear o2 hb2
  obtain ⟨A1, c1, rfl, _⟩ := HR2.out.1.any
  go_wp2
  go_ret
  exact ⟨_, rfl, by have q := HR2.out.1; simpa using q, HR2.out.2⟩
end Go.Proofs.YtblogecapegbmaaGreat.Jn
