/- Read, of a look that throws what is its own. -/
import Derived.Test.YtfjmcklmoebnaaaDoorOctFail
import Derived.LaidEql
namespace Go.Proofs.YtfjmcklmoebnaaaDoor.Oct
open Go.RowKit

theorem own_same (s : Nat) (w : World) : (binOp .neq 20 (.iface 89 (.pointer (some ⟨s, 0, none⟩))) (.iface 89 (.pointer (some ⟨s, 0, none⟩)))).run Tryd.prog w = .ok (.bool false) w := by
  simp only [binOp]
  simp [Op.equal, Op.maxDepth, run_equalIn_iface_ptr_same (P := Tryd.prog) w 9998 (ti := 20) (tp := 89) (te := 91) (ms := #[]) (i := (Tryd.prog.info? 89).getD default) (j := (Tryd.prog.info? 91).getD default) ⟨s, 0, none⟩ (by kernel_rfl) (by kernel_rfl) (by kernel_rfl) (by kernel_rfl) (by kernel_rfl)]
theorem close_own (s : Nat) (r : ByteArray) (y : Int) (w : World) (h : Sight w s r true y) :
    Calls Tryd.prog 67 #[.pointer (some ⟨s, 0, none⟩), .iface 89 (.pointer (some ⟨s, 0, none⟩))] w fun e w' => e = .returned (.int .i64 y) ∧ Sight w' s ⟨#[]⟩ true y ∧ Chg (· = s) w w' := by
  have c0 := Has.at_ h 0
  simp at c0
  have HO := own_same s
  cases hr : r.toList.isEmpty with
  | true =>
    go_enter Tryd.func67, Tryd.ntmps67
    go_wp2_with fail
    refine (end_done s r _ 0 _ h).mono ?_
    rintro e w' ⟨rfl, rfl⟩
    have d0 := Has.at_ h 0
    have d2 := Has.at_ h 2
    have f0 := Has.free h 0
    simp at d0 d2
    go_wp2
    go_ret
    exact ⟨rfl, Has.put h 0 _, (Chg.refl (· = s) w).setCell (p := ⟨s, 0, none⟩) (.inl rfl) _⟩
  | false =>
    have hr2 : (!r.toList.isEmpty) = true := by rw [hr]; rfl
    go_enter Tryd.func67, Tryd.ntmps67
    go_wp2_with fail
    refine (end_done s r _ 201 _ h).mono ?_
    rintro e w' ⟨rfl, rfl⟩
    go_wp2_with fail
    refine (end_done s r _ 0 _ h).mono ?_
    rintro e w' ⟨rfl, rfl⟩
    have d0 := Has.at_ h 0
    have d2 := Has.at_ h 2
    have f0 := Has.free h 0
    simp at d0 d2
    go_wp2
    go_ret
    exact ⟨rfl, Has.put h 0 _, (Chg.refl (· = s) w).setCell (p := ⟨s, 0, none⟩) (.inl rfl) _⟩
/-- What was thrown, and is caught. -/
def caught (s : Nat) : List PanicEntry := [{ v := .iface 89 (.pointer (some ⟨s, 0, none⟩)), recovered := true }]
theorem catch_own (a e0 s : Nat) (r : ByteArray) (y z : Int) (w : World) (ha : Has w a 89 #[.pointer (some ⟨s, 0, none⟩)]) (hs : Sight w s r true y) (he : Has w e0 29 #[.int .i64 z]) (hse : s ≠ e0) :
    CallsD Tryd.prog 66 #[.pointer (some ⟨a, 0, none⟩), .pointer (some ⟨e0, 0, none⟩)] (.panicking (own s)) w fun e u' w' =>
      e = .returned (.tuple #[]) ∧ u' = .panicking (caught s) ∧ Has w' e0 29 #[.int .i64 y] ∧ Chg (fun k => k = s ∨ k = e0) w w' := by
  have ca := Has.at_ ha 0
  simp at ca
  refine callsD_of_wpS Tryd.func66 rfl fun c₀ cs hu => ?_
  unfold own at hu
  refine wpS_region_two (by kernel_rfl) (by kernel_rfl) (by kernel_rfl) (by kernel_rfl) (by kernel_rfl) (by kernel_rfl) (by kernel_rfl) ?_ ?_
  all_goals
    simp [wpOpsS, go_sem, recoverD, hu, Tryd.ntmps66, ca]
    refine (close_own s r y _ (Has.drew hs)).mono ?_
    rintro e w1 ⟨rfl, h1, g1⟩
    have he1 : Has w1 e0 29 #[.int .i64 z] := (Has.drew he).over g1 (fun k => hse k.symm)
    have c1 := Has.at_ he1 0
    have f1 := Has.free he1 0
    simp at c1
    simp [go_sem, c1, f1, bodyPostS, results, Tryd.results66]
    exact ⟨rfl, Has.put he1 0 _, ((((Chg.refl (fun k => k = s ∨ k = e0) w).drew).trans (g1.mono (fun k hk => Or.inl hk))).setCell (p := ⟨e0, 0, none⟩) (.inl (Or.inr rfl)) _)⟩
/-- Read, of a look that throws its own: what it leaves (G), and the answer. -/
theorem read_throws (A : Option Addr) (n cap : Nat) (l : List UInt8) (f : FuncId) (cp : Array Value) (w : World) (h : RowB w A n l)
    (henter : ∀ (args : Array Value) (W : World), (callFunc f args).run Tryd.prog W = .ok (.enter f args) W) (X : Nat → Prop) (hX0 : ¬ X w.heap.size) (hX2 : ¬ X (w.heap.size + 2))
    (G : ByteArray → Int → World → Prop)
    (hlook : Calls Tryd.prog f (#[.pointer (some ⟨w.heap.size + 3, 0, none⟩)] ++ cp) (lookW w l) fun e w1 => e = .panicked (own (w.heap.size + 1)) ∧ ∃ r y, Sight w1 (w.heap.size + 1) r true y ∧ Chg (fun k => k = w.heap.size + 1 ∨ X k) (lookW w l) w1 ∧ G r y w1) :
    Calls Tryd.prog 45 #[.slice A n cap, .func (.func f) #[] cp] w fun e w' =>
      ∃ r y w1, G r y w1 ∧ e = .returned (.int .i64 y) ∧ Chg (fun k => k = w.heap.size + 1 ∨ X k) (lookW w l) w1 ∧ Chg (fun k => k = w.heap.size + 1 ∨ k = w.heap.size) w1 w' := by
  have hmf : ∀ (fn : Fn) (first cap : Array Value) (w : World), (Instr.makeFunc fn first cap).run Tryd.prog w = .ok (.func fn first cap) w := fun _ _ _ _ => rfl
  have kc : (convert 41 9 (.slice A n cap)).run Tryd.prog (w.alloc (.cells #[.int .i64 0] 29)) = .ok (.string ⟨l.toArray⟩) (w.alloc (.cells #[.int .i64 0] 29)) :=
    conv_RowB _ A n cap l (h.below ((Below.refl _ w).alloc (Nat.le_refl _) _))
  have hne := func_ne f cp
  have HL := Lib.hid hlook
  clear hlook h
  unfold lookW at HL
  go_enter_defers Tryd.func45, Tryd.ntmps45
  iterate 120 (try go_step)
  refine HL.out.mono ?_
  rintro e w1 ⟨rfl, r, y, hs, hc, hG⟩
  have ha := (lookW_at w l).over hc (fun k => k.elim (fun k => by omega) hX2)
  have he := (lookW_err w l).over hc (fun k => k.elim (fun k => by omega) hX0)
  clear HL kc hne henter
  go_wp2
  refine leaves_cons (f := 66) (args := #[.pointer (some ⟨w.heap.size + 2, 0, none⟩), .pointer (some ⟨w.heap.size, 0, none⟩)]) (by simp) (by simp [go_sem]) ?_
  refine (catch_own _ _ _ r y 0 w1 ha hs he (by omega)).mono ?_
  rintro e u' w2 ⟨rfl, rfl, h2, g2⟩
  have c2 := Has.at_ h2 0
  simp at c2
  simp [Leaves, settle, results, Tryd.results45, go_sem, c2, caught]
  exact ⟨r, y, w1, hG, rfl, hc, g2⟩
end Go.Proofs.YtfjmcklmoebnaaaDoor.Oct
