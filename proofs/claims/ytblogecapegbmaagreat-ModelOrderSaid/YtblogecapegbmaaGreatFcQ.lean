/- The empty state: both answers. -/
import Derived.Test.YtblogecapegbmaaGreatFcA
import Derived.Test.YtblogecapegbmaaGreatInstOf
namespace Go.Proofs.YtblogecapegbmaaGreat.Fc
open Go.RowKit Go.Proofs.YtblogecapegbmaaGreat.Mem Go.Proofs.YtblogecapegbmaaGreat.Vc
set_option linter.unusedVariables false

/-- The root, as it begins. -/
def rootN : NodeC := ⟨⟨(0, 0), 2, ByteArray.empty, (0, 0), 493, 9223372036854775808, (0, 0), 0, [], []⟩, none, 0, 0, none, 0, 0⟩
def emptyS (g : Nat) : StateC := ⟨fun _ => 0, some ⟨g, 0, none⟩, 1, 1, none, 0, 0, [rootN], []⟩
theorem root_fit (w : World) : NodeFit w rootN := ⟨SRow.nil _ _ _, SRow.nil _ _ _, by decide, by decide, by decide, by decide, (fun p h => by cases h), (fun p h => by cases h)⟩
theorem empty_fit {w : World} {g : Nat} (h : Has w g 46 (nodeC rootN)) : StateFit w (emptyS g) where
  nodes := ⟨rfl, fun _ => ⟨g, 0, rfl, h.bound, fun i hi j v hv => by
    have h0 : i = 0 := by simp [emptyS] at hi; omega
    subst h0
    rw [Nat.zero_mul, Nat.zero_add, h.at_ j]
    exact hv⟩⟩
  links := SRow.nil _ _ _
  m1 := by show (1 : Nat) ≤ 9223372036854775807; omega
  m2 := by show (0 : Nat) ≤ 9223372036854775807; omega
  each := fun x hx => by
    rw [show (emptyS g).nodes = [rootN] from rfl, List.mem_singleton] at hx
    subst hx
    exact root_fit w
  names := fun x hx => by cases hx
set_option maxRecDepth 100000 in
set_option maxHeartbeats 2000000 in
theorem empty_has (w : World) : Calls Tryz.prog 67 #[] w fun e w' => ∃ g, e = .returned (.agg (stateC (emptyS g))) ∧ Has w' g 46 (nodeC rootN) ∧ w.heap.size ≤ g ∧ Below w.heap.size w w' := by
  have h0 := fun w => Inst.of_zero 0 (by decide) (by decide) (by decide) w
  rw [show Inst.ofK 0 = 9223372036854775808 from by decide, show Inst.ofE 0 = 0 from by decide] at h0
  have HO := Lib.hid h0
  clear h0
  go_enter Tryz.func67, Tryz.ntmps67
  go_wp2_with fail
  refine (HO.out _).mono ?_
  rintro e w1 ⟨rfl, rfl⟩
  go_wp2
  refine bodyPost_ret (v := .agg (stateC (emptyS (w.heap.size + 1 + 1)))) (by simp [results, Tryz.results67, go_sem, stateC, emptyS]) rfl ⟨w.heap.size + 1 + 1, rfl, ?_, by omega, ?_⟩
  · have h := Has.fresh ((w.alloc (.cells (stateC (emptyS (w.heap.size + 1 + 1))) 27)).alloc (.cells (nodeC rootN) 46)) 46 (nodeC rootN)
    simp only [World.size_alloc] at h
    exact h
  · exact (((Below.refl w.heap.size w).alloc (Nat.le_refl _) (.cells (stateC (emptyS (w.heap.size + 1 + 1))) 27)).alloc (by simp) (.cells (nodeC rootN) 46)).alloc (by simp <;> omega) (.cells (nodeC rootN) 46)
theorem empty_any (w : World) : Calls Tryz.prog 67 #[] w fun e w' => ∃ g, e = .returned (.agg (stateC (emptyS g))) ∧ StateFit w' (emptyS g) ∧ w.heap.size ≤ g ∧ Below w.heap.size w w' := (empty_has w).mono fun e w' ⟨g, h1, h2, h3⟩ => ⟨g, h1, empty_fit h2, h3⟩
end Go.Proofs.YtblogecapegbmaaGreat.Fc
