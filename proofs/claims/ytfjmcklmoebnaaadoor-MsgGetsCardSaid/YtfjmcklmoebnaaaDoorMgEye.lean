import Derived.Test.YtfjmcklmoebnaaaDoorReg
import Derived.Test.YtfjmcklmoebnaaaDoorOctGot
import Derived.Laws.DeepStrings4
import Derived.WalkSpells

/- The document's own eye, whatever is asked of it. -/
namespace Go.Proofs.YtfjmcklmoebnaaaDoor.Ry set_option linter.unusedSimpArgs false
open Go.Proofs.YtfjmcklmoebnaaaDoor.Vc
open Go.RowKit Go.Proofs.YtfjmcklmoebnaaaDoor.Oct

/-- The document's eye over B, so far on. -/
def Rye (w : World) (x : Nat) (B : ByteArray) (at_ : Nat) (done : Bool) (y : Int) : Prop := Oct.Has w x 68 #[.string B, .int .i64 (at_ : Int), .bool done, .int .i64 y]
theorem Rye.cells {w : World} {x : Nat} {B : ByteArray} {a : Nat} {d : Bool} {y : Int} (h : Rye w x B a d y) : w.cell? ⟨x, 0, none⟩ = some (.string B) ∧ w.cell? ⟨x, 1, none⟩ = some (.int .i64 (a : Int)) ∧ w.cell? ⟨x, 2, none⟩ = some (.bool d) := ⟨Oct.Has.at_ h 0, Oct.Has.at_ h 1, Oct.Has.at_ h 2⟩
theorem rfail_any (x : Nat) (B : ByteArray) (a : Nat) (z : Int) (w : World) (h : Rye w x B a false 0) :
    Calls Tryd.prog 72 #[.pointer (some ⟨x, 0, none⟩), .int .i64 z] w fun e w' => e = .returned (.tuple #[]) ∧ Rye w' x B a true z ∧ Chg (· = x) w w' := by
  have c2 := Oct.Has.at_ h 2
  have c3 := Oct.Has.at_ h 3
  have f2 := Oct.Has.free h 2
  have f3 := Oct.Has.free h 3
  simp at c2 c3
  go_enter Tryd.func72, Tryd.ntmps72
  go_wp2
  all_goals go_end0
  all_goals exact ⟨rfl, Oct.Has.put (Oct.Has.put h 3 _) 2 _, ((Chg.refl (· = x) w).setCell (p := ⟨x, 3, none⟩) (.inl rfl) _).setCell (p := ⟨x, 2, none⟩) (.inl rfl) _⟩
theorem rfail_done (x : Nat) (B : ByteArray) (a : Nat) (y z : Int) (w : World) (h : Rye w x B a true y) :
    Calls Tryd.prog 72 #[.pointer (some ⟨x, 0, none⟩), .int .i64 z] w fun e w' => e = .returned (.tuple #[]) ∧ w = w' := by
  have c2 := Oct.Has.at_ h 2
  simp at c2
  go_enter Tryd.func72, Tryd.ntmps72
  go_wp2
  go_end0
  exact ⟨rfl, rfl⟩
set_option maxRecDepth 100000 in
set_option maxHeartbeats 2000000 in
theorem rraw_ok (x a n : Nat) (B : ByteArray) (hB : B.size ≤ 1048576) (hn : a + n ≤ B.size) (w : World) (h : Rye w x B a false 0) :
    Calls Tryd.prog 73 #[.pointer (some ⟨x, 0, none⟩), .int .i64 n] w fun e w' => e = .returned (.string (B.extract a (a + n))) ∧ Rye w' x B (a + n) false 0 ∧ Chg (· = x) w w' := by
  have n0 : (0 : Int) ≤ n := by omega
  have a0 : (0 : Int) ≤ a := by omega
  have n1 : (n : Int) ≤ 1048576 := by omega
  have a1 : (a : Int) ≤ 1048576 := by omega
  have b1 : (B.size : Int) ≤ 1048576 := by omega
  have d1 : decide ((n : Int) < 0) = false := decide_eq_false (by omega)
  have d2 : decide ((B.size : Int) - a < n) = false := decide_eq_false (by omega)
  have e1 : IntKind.i64.wrap ((B.size : Int) - a) = (B.size : Int) - a := by rw [IntKind.wrap_i64]; omega
  have e2 : IntKind.i64.wrap (a : Int) = a := by rw [IntKind.wrap_i64]; omega
  have s1 : (0 : Int) ≤ (a : Int) + n := by omega
  have s2 : (a : Int) + n ≤ B.size := by omega
  have s3 : (a : Int) ≤ (a : Int) + n := by omega
  have s4 : ((a : Int) + n).toNat = a + n := by omega
  have s5 : (a : Int).toNat = a := by omega
  have f1 := Oct.Has.free h 1
  have h0 : Rye w.drew x B a false 0 := Oct.Has.drew h
  obtain ⟨c0, c1, c2⟩ := Rye.cells h
  go_enter Tryd.func73, Tryd.ntmps73
  go_wp2_with fail
  clear c0 c1 c2
  have hc0 : Chg (· = x) w w.drew := (Chg.refl _ w).drew
  have f2 := Oct.Has.free h0 1
  refine wp_region_held_drew (S := (fun w' => w'.cell? ⟨x, 0, none⟩ = some (.string B) ∧ w'.cell? ⟨x, 1, none⟩ = some (.int .i64 (a : Int)) ∧ w'.cell? ⟨x, 2, none⟩ = some (.bool false))) (by kernel_rfl) (Rye.cells h0) (fun hHeld => ?_)
  refine wpAnyH_read (i := 0) (d := some 9) (v := ?v2) (by rfl) (by rfl) (by kernel_rfl) (by kernel_rfl) (by kernel_rfl) (fun _ _ _ h => h) (by rfl) ?hy2 (by assumption) ?rest2
  case hy2 =>
    intro w hSw
    try dsimp only at hSw
    go_simp
    try with_reducible rfl
  try simp only [Act.put, List.setIfInBounds_toArray, List.set_cons_zero, List.set_cons_succ]
  refine wpAnyH_read (i := 1) (d := some 10) (v := ?v3) (by rfl) (by rfl) (by kernel_rfl) (by kernel_rfl) (by kernel_rfl) (fun _ _ _ h => h) (by rfl) ?hy3 (by assumption) ?rest3
  case hy3 =>
    intro w hSw
    try dsimp only at hSw
    go_simp
    try with_reducible rfl
  try simp only [Act.put, List.setIfInBounds_toArray, List.set_cons_zero, List.set_cons_succ]
  refine wpAnyH_read (i := 2) (d := some 11) (v := ?v4) (by rfl) (by rfl) (by kernel_rfl) (by kernel_rfl) (by kernel_rfl) (fun _ _ _ h => h) (by rfl) ?hy4 (by assumption) ?rest4
  case hy4 =>
    intro w hSw
    try dsimp only at hSw
    go_simp
    try with_reducible rfl
  try simp only [Act.put, List.setIfInBounds_toArray, List.set_cons_zero, List.set_cons_succ]
  refine wpAnyH_read (i := 3) (d := some 12) (v := ?v5) (by rfl) (by rfl) (by kernel_rfl) (by kernel_rfl) (by kernel_rfl) (fun _ _ _ h => h) (by rfl) ?hy5 (by assumption) ?rest5
  case hy5 =>
    intro w hSw
    try dsimp only at hSw
    go_simp
    try with_reducible rfl
  try simp only [Act.put, List.setIfInBounds_toArray, List.set_cons_zero, List.set_cons_succ]
  refine wpAnyH_read (i := 4) (d := some 13) (v := ?v6) (by rfl) (by rfl) (by kernel_rfl) (by kernel_rfl) (by kernel_rfl) (fun _ _ _ h => h) (by rfl) ?hy6 (by assumption) ?rest6
  case hy6 =>
    intro w hSw
    try dsimp only at hSw
    go_simp
    try with_reducible rfl
  try simp only [Act.put, List.setIfInBounds_toArray, List.set_cons_zero, List.set_cons_succ]
  refine wpAnyH_read (i := 5) (d := some 14) (v := ?v7) (by rfl) (by rfl) (by kernel_rfl) (by kernel_rfl) (by kernel_rfl) (fun _ _ _ h => h) (by rfl) ?hy7 (by assumption) ?rest7
  case hy7 =>
    intro w hSw
    try dsimp only at hSw
    go_simp
    try with_reducible rfl
  try simp only [Act.put, List.setIfInBounds_toArray, List.set_cons_zero, List.set_cons_succ]
  refine wpAnyH_read (i := 6) (d := some 15) (v := ?v8) (by rfl) (by rfl) (by kernel_rfl) (by kernel_rfl) (by kernel_rfl) (fun _ _ _ h => h) (by rfl) ?hy8 (by assumption) ?rest8
  case hy8 =>
    intro w hSw
    try dsimp only at hSw
    go_simp
    try with_reducible rfl
  try simp only [Act.put, List.setIfInBounds_toArray, List.set_cons_zero, List.set_cons_succ]
  refine wpAnyH_read (i := 7) (d := some 16) (v := ?v9) (by rfl) (by rfl) (by kernel_rfl) (by kernel_rfl) (by kernel_rfl) (fun _ _ _ h => h) (by rfl) ?hy9 (by assumption) ?rest9
  case hy9 =>
    intro w hSw
    try dsimp only at hSw
    go_simp
    try with_reducible rfl
  try simp only [Act.put, List.setIfInBounds_toArray, List.set_cons_zero, List.set_cons_succ]
  refine wpAnyH_read (i := 8) (d := some 17) (v := ?v10) (by rfl) (by rfl) (by kernel_rfl) (by kernel_rfl) (by kernel_rfl) (fun _ _ _ h => h) (by rfl) ?hy10 (by assumption) ?rest10
  case hy10 =>
    intro w hSw
    try dsimp only at hSw
    go_simp
    try with_reducible rfl
  try simp only [Act.put, List.setIfInBounds_toArray, List.set_cons_zero, List.set_cons_succ]
  refine wpAnyH_read (i := 9) (d := some 18) (v := ?v11) (by rfl) (by rfl) (by kernel_rfl) (by kernel_rfl) (by kernel_rfl) (fun _ _ _ h => h) (by rfl) ?hy11 (by assumption) ?rest11
  case hy11 =>
    intro w hSw
    try dsimp only at hSw
    go_simp
    try with_reducible rfl
  try simp only [Act.put, List.setIfInBounds_toArray, List.set_cons_zero, List.set_cons_succ]
  refine wpAnyH_read (i := 10) (d := some 19) (v := ?v12) (by rfl) (by rfl) (by kernel_rfl) (by kernel_rfl) (by kernel_rfl) (fun _ _ _ h => h) (by rfl) ?hy12 (by assumption) ?rest12
  case hy12 =>
    intro w hSw
    try dsimp only at hSw
    go_simp
    try with_reducible rfl
  try simp only [Act.put, List.setIfInBounds_toArray, List.set_cons_zero, List.set_cons_succ]
  refine wpAnyH_read (i := 11) (d := some 20) (v := ?v13) (by rfl) (by rfl) (by kernel_rfl) (by kernel_rfl) (by kernel_rfl) (fun _ _ _ h => h) (by rfl) ?hy13 (by assumption) ?rest13
  case hy13 =>
    intro w hSw
    try dsimp only at hSw
    go_simp
    try with_reducible rfl
  try simp only [Act.put, List.setIfInBounds_toArray, List.set_cons_zero, List.set_cons_succ]
  refine wpAnyH_read (i := 12) (d := some 21) (v := ?v14) (by rfl) (by rfl) (by kernel_rfl) (by kernel_rfl) (by kernel_rfl) (fun _ _ _ h => h) (by rfl) ?hy14 (by assumption) ?rest14
  case hy14 =>
    intro w hSw
    try dsimp only at hSw
    go_simp
    try with_reducible rfl
  try simp only [Act.put, List.setIfInBounds_toArray, List.set_cons_zero, List.set_cons_succ]
  refine wpAnyH_read (i := 13) (d := some 22) (v := ?v15) (by rfl) (by rfl) (by kernel_rfl) (by kernel_rfl) (by kernel_rfl) (fun _ _ _ h => h) (by rfl) ?hy15 (by assumption) ?rest15
  case hy15 =>
    intro w hSw
    try dsimp only at hSw
    go_simp
    try with_reducible rfl
  try simp only [Act.put, List.setIfInBounds_toArray, List.set_cons_zero, List.set_cons_succ]
  refine wpAnyH_read (i := 14) (d := some 23) (v := ?v16) (by rfl) (by rfl) (by kernel_rfl) (by kernel_rfl) (by kernel_rfl) (fun _ _ _ h => h) (by rfl) ?hy16 (by assumption) ?rest16
  case hy16 =>
    intro w hSw
    try dsimp only at hSw
    go_simp
    try with_reducible rfl
  try simp only [Act.put, List.setIfInBounds_toArray, List.set_cons_zero, List.set_cons_succ]
  refine wpAnyH_read (i := 15) (d := some 24) (v := ?v17) (by rfl) (by rfl) (by kernel_rfl) (by kernel_rfl) (by kernel_rfl) (fun _ _ _ h => h) (by rfl) ?hy17 (by assumption) ?rest17
  case hy17 =>
    intro w hSw
    try dsimp only at hSw
    go_simp
    try with_reducible rfl
  try simp only [Act.put, List.setIfInBounds_toArray, List.set_cons_zero, List.set_cons_succ]
  refine wpAnyH_done (by kernel_rfl) ?_ _
  obtain ⟨c0, c1, c2⟩ := Rye.cells h0
  go_wp2_with fail
  clear c0 c1 c2 f1 f2 h0
  have h2 : Oct.Has (w.setCell ⟨x, 1, none⟩ (.int .i64 ((a : Int) + n))).drew x 68 #[.string B, .int .i64 ((a : Int) + n), .bool false, .int .i64 0] := Oct.Has.drew (Oct.Has.put h 1 (.int .i64 ((a : Int) + n)))
  have hc2 : Chg (· = x) w (w.setCell ⟨x, 1, none⟩ (.int .i64 ((a : Int) + n))).drew := (((Chg.refl (· = x) w).setCell (p := ⟨x, 1, none⟩) (.inl rfl) _).drew)
  generalize hww : w.setCell ⟨x, 1, none⟩ (.int .i64 ((a : Int) + n)) = ww at *
  clear hww hc0
  refine wp_region_held_drew (S := (fun w' => w'.cell? ⟨x, 0, none⟩ = some (.string B) ∧ w'.cell? ⟨x, 1, none⟩ = some (.int .i64 ((a : Int) + n)) ∧ w'.cell? ⟨x, 2, none⟩ = some (.bool false))) (by kernel_rfl) ⟨Oct.Has.at_ h2 0, Oct.Has.at_ h2 1, Oct.Has.at_ h2 2⟩ (fun hHeld => ?_)
  refine wpAnyH_read (i := 0) (d := some 35) (v := ?v20) (by rfl) (by rfl) (by kernel_rfl) (by kernel_rfl) (by kernel_rfl) (fun _ _ _ h => h) (by rfl) ?hy20 (by assumption) ?rest20
  case hy20 =>
    intro w hSw
    try dsimp only at hSw
    go_simp
    try with_reducible rfl
  try simp only [Act.put, List.setIfInBounds_toArray, List.set_cons_zero, List.set_cons_succ]
  refine wpAnyH_read (i := 1) (d := some 36) (v := ?v21) (by rfl) (by rfl) (by kernel_rfl) (by kernel_rfl) (by kernel_rfl) (fun _ _ _ h => h) (by rfl) ?hy21 (by assumption) ?rest21
  case hy21 =>
    intro w hSw
    try dsimp only at hSw
    go_simp
    try with_reducible rfl
  try simp only [Act.put, List.setIfInBounds_toArray, List.set_cons_zero, List.set_cons_succ]
  refine wpAnyH_read (i := 2) (d := some 37) (v := ?v22) (by rfl) (by rfl) (by kernel_rfl) (by kernel_rfl) (by kernel_rfl) (fun _ _ _ h => h) (by rfl) ?hy22 (by assumption) ?rest22
  case hy22 =>
    intro w hSw
    try dsimp only at hSw
    go_simp
    try with_reducible rfl
  try simp only [Act.put, List.setIfInBounds_toArray, List.set_cons_zero, List.set_cons_succ]
  refine wpAnyH_read (i := 3) (d := some 38) (v := ?v23) (by rfl) (by rfl) (by kernel_rfl) (by kernel_rfl) (by kernel_rfl) (fun _ _ _ h => h) (by rfl) ?hy23 (by assumption) ?rest23
  case hy23 =>
    intro w hSw
    try dsimp only at hSw
    go_simp
    try with_reducible rfl
  try simp only [Act.put, List.setIfInBounds_toArray, List.set_cons_zero, List.set_cons_succ]
  refine wpAnyH_read (i := 4) (d := some 39) (v := ?v24) (by rfl) (by rfl) (by kernel_rfl) (by kernel_rfl) (by kernel_rfl) (fun _ _ _ h => h) (by rfl) ?hy24 (by assumption) ?rest24
  case hy24 =>
    intro w hSw
    try dsimp only at hSw
    go_simp
    try with_reducible rfl
  try simp only [Act.put, List.setIfInBounds_toArray, List.set_cons_zero, List.set_cons_succ]
  refine wpAnyH_read (i := 5) (d := some 40) (v := ?v25) (by rfl) (by rfl) (by kernel_rfl) (by kernel_rfl) (by kernel_rfl) (fun _ _ _ h => h) (by rfl) ?hy25 (by assumption) ?rest25
  case hy25 =>
    intro w hSw
    try dsimp only at hSw
    go_simp
    try with_reducible rfl
  try simp only [Act.put, List.setIfInBounds_toArray, List.set_cons_zero, List.set_cons_succ]
  refine wpAnyH_read (i := 6) (d := some 41) (v := ?v26) (by rfl) (by rfl) (by kernel_rfl) (by kernel_rfl) (by kernel_rfl) (fun _ _ _ h => h) (by rfl) ?hy26 (by assumption) ?rest26
  case hy26 =>
    intro w hSw
    try dsimp only at hSw
    go_simp
    try with_reducible rfl
  try simp only [Act.put, List.setIfInBounds_toArray, List.set_cons_zero, List.set_cons_succ]
  refine wpAnyH_read (i := 7) (d := some 42) (v := ?v27) (by rfl) (by rfl) (by kernel_rfl) (by kernel_rfl) (by kernel_rfl) (fun _ _ _ h => h) (by rfl) ?hy27 (by assumption) ?rest27
  case hy27 =>
    intro w hSw
    try dsimp only at hSw
    go_simp
    try with_reducible rfl
  try simp only [Act.put, List.setIfInBounds_toArray, List.set_cons_zero, List.set_cons_succ]
  refine wpAnyH_read (i := 8) (d := some 43) (v := ?v28) (by rfl) (by rfl) (by kernel_rfl) (by kernel_rfl) (by kernel_rfl) (fun _ _ _ h => h) (by rfl) ?hy28 (by assumption) ?rest28
  case hy28 =>
    intro w hSw
    try dsimp only at hSw
    go_simp
    try with_reducible rfl
  try simp only [Act.put, List.setIfInBounds_toArray, List.set_cons_zero, List.set_cons_succ]
  refine wpAnyH_read (i := 9) (d := some 44) (v := ?v29) (by rfl) (by rfl) (by kernel_rfl) (by kernel_rfl) (by kernel_rfl) (fun _ _ _ h => h) (by rfl) ?hy29 (by assumption) ?rest29
  case hy29 =>
    intro w hSw
    try dsimp only at hSw
    go_simp
    try with_reducible rfl
  try simp only [Act.put, List.setIfInBounds_toArray, List.set_cons_zero, List.set_cons_succ]
  refine wpAnyH_read (i := 10) (d := some 45) (v := ?v30) (by rfl) (by rfl) (by kernel_rfl) (by kernel_rfl) (by kernel_rfl) (fun _ _ _ h => h) (by rfl) ?hy30 (by assumption) ?rest30
  case hy30 =>
    intro w hSw
    try dsimp only at hSw
    go_simp
    try with_reducible rfl
  try simp only [Act.put, List.setIfInBounds_toArray, List.set_cons_zero, List.set_cons_succ]
  refine wpAnyH_read (i := 11) (d := some 46) (v := ?v31) (by rfl) (by rfl) (by kernel_rfl) (by kernel_rfl) (by kernel_rfl) (fun _ _ _ h => h) (by rfl) ?hy31 (by assumption) ?rest31
  case hy31 =>
    intro w hSw
    try dsimp only at hSw
    go_simp
    try with_reducible rfl
  try simp only [Act.put, List.setIfInBounds_toArray, List.set_cons_zero, List.set_cons_succ]
  refine wpAnyH_read (i := 12) (d := some 47) (v := ?v32) (by rfl) (by rfl) (by kernel_rfl) (by kernel_rfl) (by kernel_rfl) (fun _ _ _ h => h) (by rfl) ?hy32 (by assumption) ?rest32
  case hy32 =>
    intro w hSw
    try dsimp only at hSw
    go_simp
    try with_reducible rfl
  try simp only [Act.put, List.setIfInBounds_toArray, List.set_cons_zero, List.set_cons_succ]
  refine wpAnyH_read (i := 13) (d := some 48) (v := ?v33) (by rfl) (by rfl) (by kernel_rfl) (by kernel_rfl) (by kernel_rfl) (fun _ _ _ h => h) (by rfl) ?hy33 (by assumption) ?rest33
  case hy33 =>
    intro w hSw
    try dsimp only at hSw
    go_simp
    try with_reducible rfl
  try simp only [Act.put, List.setIfInBounds_toArray, List.set_cons_zero, List.set_cons_succ]
  refine wpAnyH_read (i := 14) (d := some 49) (v := ?v34) (by rfl) (by rfl) (by kernel_rfl) (by kernel_rfl) (by kernel_rfl) (fun _ _ _ h => h) (by rfl) ?hy34 (by assumption) ?rest34
  case hy34 =>
    intro w hSw
    try dsimp only at hSw
    go_simp
    try with_reducible rfl
  try simp only [Act.put, List.setIfInBounds_toArray, List.set_cons_zero, List.set_cons_succ]
  refine wpAnyH_read (i := 15) (d := some 4) (v := ?v35) (by rfl) (by rfl) (by kernel_rfl) (by kernel_rfl) (by kernel_rfl) (fun _ _ _ h => h) (by rfl) ?hy35 (by assumption) ?rest35
  case hy35 =>
    intro w hSw
    try dsimp only at hSw
    go_simp
    try with_reducible rfl
  try simp only [Act.put, List.setIfInBounds_toArray, List.set_cons_zero, List.set_cons_succ]
  refine wpAnyH_done (by kernel_rfl) ?_ _
  go_wp2
  go_ret
  refine ⟨rfl, ?_, hc2.drew⟩
  unfold Rye
  rw [Int.natCast_add]
  exact Oct.Has.drew h2
theorem rraw_done (x a : Nat) (n : Int) (B : ByteArray) (y : Int) (w : World) (h : Rye w x B a true y) :
    Calls Tryd.prog 73 #[.pointer (some ⟨x, 0, none⟩), .int .i64 n] w fun e w' => e = .returned (.string ⟨#[]⟩) ∧ w = w' := by
  obtain ⟨c0, c1, c2⟩ := Rye.cells h
  go_enter Tryd.func73, Tryd.ntmps73
  go_wp2
  go_ret
  exact ⟨rfl, rfl⟩
set_option maxRecDepth 100000 in
set_option maxHeartbeats 2000000 in
theorem rraw_short (x a n : Nat) (B : ByteArray) (_hB : B.size ≤ 1048576) (hn8 : n ≤ 1048576) (ha : a ≤ B.size) (hn : B.size < a + n) (w : World) (h : Rye w x B a false 0) :
    Calls Tryd.prog 73 #[.pointer (some ⟨x, 0, none⟩), .int .i64 n] w fun e w' => e = .returned (.string ⟨#[]⟩) ∧ Rye w' x B a true 201 ∧ Chg (· = x) w w' := by
  have n0 : (0 : Int) ≤ n := by omega
  have a0 : (0 : Int) ≤ a := by omega
  have d1 : decide ((n : Int) < 0) = false := decide_eq_false (by omega)
  have d2 : decide ((B.size : Int) - a < n) = true := decide_eq_true (by omega)
  have e1 : IntKind.i64.wrap ((B.size : Int) - a) = (B.size : Int) - a := by rw [IntKind.wrap_i64]; omega
  have h0 : Rye w.drew x B a false 0 := Oct.Has.drew h
  have HF := Lib.hid (rfail_any x B a 201 _ h0)
  obtain ⟨c0, c1, c2⟩ := Rye.cells h
  clear hn
  go_enter Tryd.func73, Tryd.ntmps73
  go_wp2_with fail
  clear c0 c1 c2
  refine wp_region_held_drew (S := (fun w' => w'.cell? ⟨x, 0, none⟩ = some (.string B) ∧ w'.cell? ⟨x, 1, none⟩ = some (.int .i64 (a : Int)) ∧ w'.cell? ⟨x, 2, none⟩ = some (.bool false))) (by kernel_rfl) (Rye.cells h0) (fun hHeld => ?_)
  refine wpAnyH_read (i := 0) (d := some 9) (v := ?v38) (by rfl) (by rfl) (by kernel_rfl) (by kernel_rfl) (by kernel_rfl) (fun _ _ _ h => h) (by rfl) ?hy38 (by assumption) ?rest38
  case hy38 =>
    intro w hSw
    try dsimp only at hSw
    go_simp
    try with_reducible rfl
  try simp only [Act.put, List.setIfInBounds_toArray, List.set_cons_zero, List.set_cons_succ]
  refine wpAnyH_read (i := 1) (d := some 10) (v := ?v39) (by rfl) (by rfl) (by kernel_rfl) (by kernel_rfl) (by kernel_rfl) (fun _ _ _ h => h) (by rfl) ?hy39 (by assumption) ?rest39
  case hy39 =>
    intro w hSw
    try dsimp only at hSw
    go_simp
    try with_reducible rfl
  try simp only [Act.put, List.setIfInBounds_toArray, List.set_cons_zero, List.set_cons_succ]
  refine wpAnyH_read (i := 2) (d := some 11) (v := ?v40) (by rfl) (by rfl) (by kernel_rfl) (by kernel_rfl) (by kernel_rfl) (fun _ _ _ h => h) (by rfl) ?hy40 (by assumption) ?rest40
  case hy40 =>
    intro w hSw
    try dsimp only at hSw
    go_simp
    try with_reducible rfl
  try simp only [Act.put, List.setIfInBounds_toArray, List.set_cons_zero, List.set_cons_succ]
  refine wpAnyH_read (i := 3) (d := some 12) (v := ?v41) (by rfl) (by rfl) (by kernel_rfl) (by kernel_rfl) (by kernel_rfl) (fun _ _ _ h => h) (by rfl) ?hy41 (by assumption) ?rest41
  case hy41 =>
    intro w hSw
    try dsimp only at hSw
    go_simp
    try with_reducible rfl
  try simp only [Act.put, List.setIfInBounds_toArray, List.set_cons_zero, List.set_cons_succ]
  refine wpAnyH_read (i := 4) (d := some 13) (v := ?v42) (by rfl) (by rfl) (by kernel_rfl) (by kernel_rfl) (by kernel_rfl) (fun _ _ _ h => h) (by rfl) ?hy42 (by assumption) ?rest42
  case hy42 =>
    intro w hSw
    try dsimp only at hSw
    go_simp
    try with_reducible rfl
  try simp only [Act.put, List.setIfInBounds_toArray, List.set_cons_zero, List.set_cons_succ]
  refine wpAnyH_read (i := 5) (d := some 14) (v := ?v43) (by rfl) (by rfl) (by kernel_rfl) (by kernel_rfl) (by kernel_rfl) (fun _ _ _ h => h) (by rfl) ?hy43 (by assumption) ?rest43
  case hy43 =>
    intro w hSw
    try dsimp only at hSw
    go_simp
    try with_reducible rfl
  try simp only [Act.put, List.setIfInBounds_toArray, List.set_cons_zero, List.set_cons_succ]
  refine wpAnyH_read (i := 6) (d := some 15) (v := ?v44) (by rfl) (by rfl) (by kernel_rfl) (by kernel_rfl) (by kernel_rfl) (fun _ _ _ h => h) (by rfl) ?hy44 (by assumption) ?rest44
  case hy44 =>
    intro w hSw
    try dsimp only at hSw
    go_simp
    try with_reducible rfl
  try simp only [Act.put, List.setIfInBounds_toArray, List.set_cons_zero, List.set_cons_succ]
  refine wpAnyH_read (i := 7) (d := some 16) (v := ?v45) (by rfl) (by rfl) (by kernel_rfl) (by kernel_rfl) (by kernel_rfl) (fun _ _ _ h => h) (by rfl) ?hy45 (by assumption) ?rest45
  case hy45 =>
    intro w hSw
    try dsimp only at hSw
    go_simp
    try with_reducible rfl
  try simp only [Act.put, List.setIfInBounds_toArray, List.set_cons_zero, List.set_cons_succ]
  refine wpAnyH_read (i := 8) (d := some 17) (v := ?v46) (by rfl) (by rfl) (by kernel_rfl) (by kernel_rfl) (by kernel_rfl) (fun _ _ _ h => h) (by rfl) ?hy46 (by assumption) ?rest46
  case hy46 =>
    intro w hSw
    try dsimp only at hSw
    go_simp
    try with_reducible rfl
  try simp only [Act.put, List.setIfInBounds_toArray, List.set_cons_zero, List.set_cons_succ]
  refine wpAnyH_read (i := 9) (d := some 18) (v := ?v47) (by rfl) (by rfl) (by kernel_rfl) (by kernel_rfl) (by kernel_rfl) (fun _ _ _ h => h) (by rfl) ?hy47 (by assumption) ?rest47
  case hy47 =>
    intro w hSw
    try dsimp only at hSw
    go_simp
    try with_reducible rfl
  try simp only [Act.put, List.setIfInBounds_toArray, List.set_cons_zero, List.set_cons_succ]
  refine wpAnyH_read (i := 10) (d := some 19) (v := ?v48) (by rfl) (by rfl) (by kernel_rfl) (by kernel_rfl) (by kernel_rfl) (fun _ _ _ h => h) (by rfl) ?hy48 (by assumption) ?rest48
  case hy48 =>
    intro w hSw
    try dsimp only at hSw
    go_simp
    try with_reducible rfl
  try simp only [Act.put, List.setIfInBounds_toArray, List.set_cons_zero, List.set_cons_succ]
  refine wpAnyH_read (i := 11) (d := some 20) (v := ?v49) (by rfl) (by rfl) (by kernel_rfl) (by kernel_rfl) (by kernel_rfl) (fun _ _ _ h => h) (by rfl) ?hy49 (by assumption) ?rest49
  case hy49 =>
    intro w hSw
    try dsimp only at hSw
    go_simp
    try with_reducible rfl
  try simp only [Act.put, List.setIfInBounds_toArray, List.set_cons_zero, List.set_cons_succ]
  refine wpAnyH_read (i := 12) (d := some 21) (v := ?v50) (by rfl) (by rfl) (by kernel_rfl) (by kernel_rfl) (by kernel_rfl) (fun _ _ _ h => h) (by rfl) ?hy50 (by assumption) ?rest50
  case hy50 =>
    intro w hSw
    try dsimp only at hSw
    go_simp
    try with_reducible rfl
  try simp only [Act.put, List.setIfInBounds_toArray, List.set_cons_zero, List.set_cons_succ]
  refine wpAnyH_read (i := 13) (d := some 22) (v := ?v51) (by rfl) (by rfl) (by kernel_rfl) (by kernel_rfl) (by kernel_rfl) (fun _ _ _ h => h) (by rfl) ?hy51 (by assumption) ?rest51
  case hy51 =>
    intro w hSw
    try dsimp only at hSw
    go_simp
    try with_reducible rfl
  try simp only [Act.put, List.setIfInBounds_toArray, List.set_cons_zero, List.set_cons_succ]
  refine wpAnyH_read (i := 14) (d := some 23) (v := ?v52) (by rfl) (by rfl) (by kernel_rfl) (by kernel_rfl) (by kernel_rfl) (fun _ _ _ h => h) (by rfl) ?hy52 (by assumption) ?rest52
  case hy52 =>
    intro w hSw
    try dsimp only at hSw
    go_simp
    try with_reducible rfl
  try simp only [Act.put, List.setIfInBounds_toArray, List.set_cons_zero, List.set_cons_succ]
  refine wpAnyH_read (i := 15) (d := some 24) (v := ?v53) (by rfl) (by rfl) (by kernel_rfl) (by kernel_rfl) (by kernel_rfl) (fun _ _ _ h => h) (by rfl) ?hy53 (by assumption) ?rest53
  case hy53 =>
    intro w hSw
    try dsimp only at hSw
    go_simp
    try with_reducible rfl
  try simp only [Act.put, List.setIfInBounds_toArray, List.set_cons_zero, List.set_cons_succ]
  refine wpAnyH_done (by kernel_rfl) ?_ _
  go_wp2_with fail
  refine HF.out.mono ?_
  rintro e w2 ⟨rfl, h2, hc⟩
  go_wp2
  go_ret
  exact ⟨rfl, h2, ((Chg.refl (· = x) w).drew).trans hc⟩
theorem numR_lt {R : ByteArray} {k : Nat} (hk : R.size ≤ k) (h7 : k ≤ 7) (j : Nat) : numL (R.data.toList.take j) < 72057594037927936 := by
  have h1 := numL_lt (R.data.toList.take j)
  have h2 : (R.data.toList.take j).length ≤ 7 := by rw [List.length_take, Array.length_toList]; exact Nat.le_trans (Nat.min_le_right _ _) (Nat.le_trans hk h7)
  have h3 : 256 ^ (R.data.toList.take j).length ≤ 256 ^ 7 := Nat.pow_le_pow_right (by decide) h2
  exact Nat.lt_of_lt_of_le h1 (Nat.le_trans h3 (by decide))
set_option maxRecDepth 100000 in
set_option maxHeartbeats 2000000 in
/-- The document's eye reads a number of at most seven bytes. -/
theorem rnum_ok (x a k : Nat) (B : ByteArray) (hB : B.size ≤ 1048576) (h1 : 1 ≤ k) (h7 : k ≤ 7) (hn : a + k ≤ B.size) (w : World) (h : Rye w x B a false 0) :
    Calls Tryd.prog 49 #[.pointer (some ⟨x, 0, none⟩), .int .i64 k] w fun e w' => e = .returned (.int .i64 (numL ((B.data.toList.drop a).take k) : Nat)) ∧ Rye w' x B (a + k) false 0 ∧ Chg (· = x) w w' := by
  have HRW := Lib.hid (rraw_ok x a k B hB hn w h)
  obtain ⟨c0, c1, c2⟩ := Rye.cells h
  have hz : (B.extract a (a + k)).size = k := by simp; omega
  have hR : (B.extract a (a + k)).data.toList = (B.data.toList.drop a).take k := by
    rw [ByteArray.data_extract]
    simp only [Array.toList_extract, List.extract, Nat.add_sub_cancel_left]
  generalize B.extract a (a + k) = R at *
  have HR := Lib.hid hR
  have HZ := Lib.hid hz
  have hz7 : R.size ≤ 7 := by omega
  clear hn h hR hz
  go_enter Tryd.func49, Tryd.ntmps49
  go_wp2_with fail
  refine HRW.out.mono ?_
  rintro e w1 ⟨rfl, h2, hc⟩
  clear c0 c1 c2 HRW
  go_wp2
  go_loop [6, 25] (fun m i => ∃ j : Nat, j ≤ R.size ∧ i = .int .i64 j ∧ m = .int .u64 (numL (R.data.toList.take j) : Nat)) (fun _ i => R.size - (intOf i).toNat)
  case atStart => exact ⟨0, Nat.zero_le _, rfl, rfl⟩
  case round =>
    obtain ⟨j, hj, rfl, rfl⟩ := hrel
    have hlt := numR_lt (Nat.le_refl R.size) hz7 j
    by_cases hj2 : j < R.size
    · have hsn : numL (R.data.toList.take (j + 1)) = numL (R.data.toList.take j) * 256 + (R[j]).toNat := by
        rw [List.take_succ_eq_append_getElem (by rw [Array.length_toList]; exact hj2), numL_snoc]
        rfl
      have HS := Lib.hid hsn
      clear hsn
      generalize numL (R.data.toList.take j) = m at *
      have hb := (R[j]).toNat_lt
      generalize hbb : (R[j]).toNat = b at *
      have hw : IntKind.u64.wrap (b : Int) = b := by rw [IntKind.wrap_u64]; omega
      have hw2 : IntKind.u64.wrap ((m : Int) * 256) = (m : Int) * 256 := by rw [IntKind.wrap_u64]; omega
      have hw3 : IntKind.u64.wrap ((m : Int) * 256 + b) = (m : Int) * 256 + b := by rw [IntKind.wrap_u64]; omega
      go_wp2
      go_round
      case rel => exact ⟨j + 1, by omega, by go_num, by rw [HS.out]; go_num⟩
      case measure => simp [intOf]; omega
    · obtain rfl : j = R.size := by omega
      have hfull : R.data.toList.take R.size = R.data.toList := List.take_of_length_le (by rw [Array.length_toList]; exact Nat.le_refl _)
      rw [hfull, HR.out] at hlt ⊢
      obtain ⟨m, hm⟩ : ∃ m : Nat, m = numL ((B.data.toList.drop a).take k) := ⟨_, rfl⟩
      rw [← hm] at hlt ⊢
      have HM := Lib.hid hm
      clear hm
      have w9 : IntKind.i64.wrap (m : Int) = m := by rw [IntKind.wrap_i64]; omega
      have d9 : decide ((9223372036854775808 : Int) ≤ m) = false := decide_eq_false (by omega)
      go_wp2
      go_ret
      exact ⟨by rw [← HM.out]; rfl, h2, hc⟩
theorem rnum_done (x a : Nat) (k : Int) (B : ByteArray) (y : Int) (w : World) (h : Rye w x B a true y) :
    Calls Tryd.prog 49 #[.pointer (some ⟨x, 0, none⟩), .int .i64 k] w fun e w' => e = .returned (.int .i64 0) ∧ w = w' := by
  obtain ⟨c0, c1, c2⟩ := Rye.cells h
  go_enter Tryd.func49, Tryd.ntmps49
  go_wp2
  go_ret
  exact ⟨rfl, rfl⟩
set_option maxRecDepth 100000 in
set_option maxHeartbeats 2000000 in
theorem rnum_short (x a k : Nat) (B : ByteArray) (hB : B.size ≤ 1048576) (h1 : 1 ≤ k) (h8 : k ≤ 8) (ha : a ≤ B.size) (hn : B.size < a + k) (w : World) (h : Rye w x B a false 0) :
    Calls Tryd.prog 49 #[.pointer (some ⟨x, 0, none⟩), .int .i64 k] w fun e w' => e = .returned (.int .i64 0) ∧ Rye w' x B a true 201 ∧ Chg (· = x) w w' := by
  have HRW := Lib.hid (rraw_short x a k B hB (by omega) ha hn w h)
  obtain ⟨c0, c1, c2⟩ := Rye.cells h
  clear hn h
  go_enter Tryd.func49, Tryd.ntmps49
  go_wp2_with fail
  refine HRW.out.mono ?_
  rintro e w1 ⟨rfl, h2, hc⟩
  clear c0 c1 c2 HRW
  go_wp2
  go_loop [6, 25] (fun m i => i = .int .i64 0 ∧ m = .int .u64 0) (fun _ _ => 0)
  case atStart => exact ⟨rfl, rfl⟩
  case round =>
    obtain ⟨rfl, rfl⟩ := hrel
    go_wp2
    go_ret
    exact ⟨rfl, h2, hc⟩
set_option maxRecDepth 100000 in
set_option maxHeartbeats 2000000 in
theorem rend_open (x a : Nat) (B : ByteArray) (w : World) (h : Rye w x B a false 0) :
    Calls Tryd.prog 53 #[.pointer (some ⟨x, 0, none⟩)] w fun e w' => e = .returned (.int .i64 (if a < B.size then 201 else 0)) ∧ Chg (· = x) w w' := by
  have h0 : Rye w.drew x B a false 0 := Oct.Has.drew h
  by_cases hlt : a < B.size
  · have d2 : decide (a < B.size) = true := decide_eq_true hlt
    have HF := Lib.hid (rfail_any x B a 201 _ h0)
    rw [if_pos hlt]
    clear hlt
    go_enter Tryd.func53, Tryd.ntmps53
    go_wp2_with fail
    refine wp_region_held_drew (S := (fun w' => w'.cell? ⟨x, 0, none⟩ = some (.string B) ∧ w'.cell? ⟨x, 1, none⟩ = some (.int .i64 (a : Int)) ∧ w'.cell? ⟨x, 2, none⟩ = some (.bool false))) (by kernel_rfl) (Rye.cells h0) (fun hHeld => ?_)
    refine wpAnyH_read (i := 0) (d := some 3) (v := ?v56) (by rfl) (by rfl) (by kernel_rfl) (by kernel_rfl) (by kernel_rfl) (fun _ _ _ h => h) (by rfl) ?hy56 (by assumption) ?rest56
    case hy56 =>
      intro w hSw
      try dsimp only at hSw
      go_simp
      try with_reducible rfl
    try simp only [Act.put, List.setIfInBounds_toArray, List.set_cons_zero, List.set_cons_succ]
    refine wpAnyH_read (i := 1) (d := some 4) (v := ?v57) (by rfl) (by rfl) (by kernel_rfl) (by kernel_rfl) (by kernel_rfl) (fun _ _ _ h => h) (by rfl) ?hy57 (by assumption) ?rest57
    case hy57 =>
      intro w hSw
      try dsimp only at hSw
      go_simp
      try with_reducible rfl
    try simp only [Act.put, List.setIfInBounds_toArray, List.set_cons_zero, List.set_cons_succ]
    refine wpAnyH_read (i := 2) (d := some 5) (v := ?v58) (by rfl) (by rfl) (by kernel_rfl) (by kernel_rfl) (by kernel_rfl) (fun _ _ _ h => h) (by rfl) ?hy58 (by assumption) ?rest58
    case hy58 =>
      intro w hSw
      try dsimp only at hSw
      go_simp
      try with_reducible rfl
    try simp only [Act.put, List.setIfInBounds_toArray, List.set_cons_zero, List.set_cons_succ]
    refine wpAnyH_read (i := 3) (d := some 6) (v := ?v59) (by rfl) (by rfl) (by kernel_rfl) (by kernel_rfl) (by kernel_rfl) (fun _ _ _ h => h) (by rfl) ?hy59 (by assumption) ?rest59
    case hy59 =>
      intro w hSw
      try dsimp only at hSw
      go_simp
      try with_reducible rfl
    try simp only [Act.put, List.setIfInBounds_toArray, List.set_cons_zero, List.set_cons_succ]
    refine wpAnyH_read (i := 4) (d := some 7) (v := ?v60) (by rfl) (by rfl) (by kernel_rfl) (by kernel_rfl) (by kernel_rfl) (fun _ _ _ h => h) (by rfl) ?hy60 (by assumption) ?rest60
    case hy60 =>
      intro w hSw
      try dsimp only at hSw
      go_simp
      try with_reducible rfl
    try simp only [Act.put, List.setIfInBounds_toArray, List.set_cons_zero, List.set_cons_succ]
    refine wpAnyH_read (i := 5) (d := some 8) (v := ?v61) (by rfl) (by rfl) (by kernel_rfl) (by kernel_rfl) (by kernel_rfl) (fun _ _ _ h => h) (by rfl) ?hy61 (by assumption) ?rest61
    case hy61 =>
      intro w hSw
      try dsimp only at hSw
      go_simp
      try with_reducible rfl
    try simp only [Act.put, List.setIfInBounds_toArray, List.set_cons_zero, List.set_cons_succ]
    refine wpAnyH_read (i := 6) (d := some 9) (v := ?v62) (by rfl) (by rfl) (by kernel_rfl) (by kernel_rfl) (by kernel_rfl) (fun _ _ _ h => h) (by rfl) ?hy62 (by assumption) ?rest62
    case hy62 =>
      intro w hSw
      try dsimp only at hSw
      go_simp
      try with_reducible rfl
    try simp only [Act.put, List.setIfInBounds_toArray, List.set_cons_zero, List.set_cons_succ]
    refine wpAnyH_read (i := 7) (d := some 10) (v := ?v63) (by rfl) (by rfl) (by kernel_rfl) (by kernel_rfl) (by kernel_rfl) (fun _ _ _ h => h) (by rfl) ?hy63 (by assumption) ?rest63
    case hy63 =>
      intro w hSw
      try dsimp only at hSw
      go_simp
      try with_reducible rfl
    try simp only [Act.put, List.setIfInBounds_toArray, List.set_cons_zero, List.set_cons_succ]
    refine wpAnyH_read (i := 8) (d := some 11) (v := ?v64) (by rfl) (by rfl) (by kernel_rfl) (by kernel_rfl) (by kernel_rfl) (fun _ _ _ h => h) (by rfl) ?hy64 (by assumption) ?rest64
    case hy64 =>
      intro w hSw
      try dsimp only at hSw
      go_simp
      try with_reducible rfl
    try simp only [Act.put, List.setIfInBounds_toArray, List.set_cons_zero, List.set_cons_succ]
    refine wpAnyH_read (i := 9) (d := some 12) (v := ?v65) (by rfl) (by rfl) (by kernel_rfl) (by kernel_rfl) (by kernel_rfl) (fun _ _ _ h => h) (by rfl) ?hy65 (by assumption) ?rest65
    case hy65 =>
      intro w hSw
      try dsimp only at hSw
      go_simp
      try with_reducible rfl
    try simp only [Act.put, List.setIfInBounds_toArray, List.set_cons_zero, List.set_cons_succ]
    refine wpAnyH_read (i := 10) (d := some 13) (v := ?v66) (by rfl) (by rfl) (by kernel_rfl) (by kernel_rfl) (by kernel_rfl) (fun _ _ _ h => h) (by rfl) ?hy66 (by assumption) ?rest66
    case hy66 =>
      intro w hSw
      try dsimp only at hSw
      go_simp
      try with_reducible rfl
    try simp only [Act.put, List.setIfInBounds_toArray, List.set_cons_zero, List.set_cons_succ]
    refine wpAnyH_read (i := 11) (d := some 14) (v := ?v67) (by rfl) (by rfl) (by kernel_rfl) (by kernel_rfl) (by kernel_rfl) (fun _ _ _ h => h) (by rfl) ?hy67 (by assumption) ?rest67
    case hy67 =>
      intro w hSw
      try dsimp only at hSw
      go_simp
      try with_reducible rfl
    try simp only [Act.put, List.setIfInBounds_toArray, List.set_cons_zero, List.set_cons_succ]
    refine wpAnyH_read (i := 12) (d := some 15) (v := ?v68) (by rfl) (by rfl) (by kernel_rfl) (by kernel_rfl) (by kernel_rfl) (fun _ _ _ h => h) (by rfl) ?hy68 (by assumption) ?rest68
    case hy68 =>
      intro w hSw
      try dsimp only at hSw
      go_simp
      try with_reducible rfl
    try simp only [Act.put, List.setIfInBounds_toArray, List.set_cons_zero, List.set_cons_succ]
    refine wpAnyH_read (i := 13) (d := some 16) (v := ?v69) (by rfl) (by rfl) (by kernel_rfl) (by kernel_rfl) (by kernel_rfl) (fun _ _ _ h => h) (by rfl) ?hy69 (by assumption) ?rest69
    case hy69 =>
      intro w hSw
      try dsimp only at hSw
      go_simp
      try with_reducible rfl
    try simp only [Act.put, List.setIfInBounds_toArray, List.set_cons_zero, List.set_cons_succ]
    refine wpAnyH_read (i := 14) (d := some 17) (v := ?v70) (by rfl) (by rfl) (by kernel_rfl) (by kernel_rfl) (by kernel_rfl) (fun _ _ _ h => h) (by rfl) ?hy70 (by assumption) ?rest70
    case hy70 =>
      intro w hSw
      try dsimp only at hSw
      go_simp
      try with_reducible rfl
    try simp only [Act.put, List.setIfInBounds_toArray, List.set_cons_zero, List.set_cons_succ]
    refine wpAnyH_read (i := 15) (d := some 18) (v := ?v71) (by rfl) (by rfl) (by kernel_rfl) (by kernel_rfl) (by kernel_rfl) (fun _ _ _ h => h) (by rfl) ?hy71 (by assumption) ?rest71
    case hy71 =>
      intro w hSw
      try dsimp only at hSw
      go_simp
      try with_reducible rfl
    try simp only [Act.put, List.setIfInBounds_toArray, List.set_cons_zero, List.set_cons_succ]
    refine wpAnyH_read (i := 16) (d := some 19) (v := ?v72) (by rfl) (by rfl) (by kernel_rfl) (by kernel_rfl) (by kernel_rfl) (fun _ _ _ h => h) (by rfl) ?hy72 (by assumption) ?rest72
    case hy72 =>
      intro w hSw
      try dsimp only at hSw
      go_simp
      try with_reducible rfl
    try simp only [Act.put, List.setIfInBounds_toArray, List.set_cons_zero, List.set_cons_succ]
    refine wpAnyH_done (by kernel_rfl) ?_ _
    go_wp2_with fail
    refine HF.out.mono ?_
    rintro e w2 ⟨rfl, h2, hc⟩
    have c3 := Oct.Has.at_ h2 3
    simp at c3
    go_wp2
    go_ret
    exact ⟨rfl, ((Chg.refl (· = x) w).drew).trans hc⟩
  · have d2 : decide (a < B.size) = false := decide_eq_false hlt
    rw [if_neg hlt]
    clear hlt
    have c3 : w.drew.cell? ⟨x, 3, none⟩ = some (.int .i64 0) := Oct.Has.at_ h0 3
    go_enter Tryd.func53, Tryd.ntmps53
    go_wp2_with fail
    refine wp_region_held_drew (S := (fun w' => w'.cell? ⟨x, 0, none⟩ = some (.string B) ∧ w'.cell? ⟨x, 1, none⟩ = some (.int .i64 (a : Int)) ∧ w'.cell? ⟨x, 2, none⟩ = some (.bool false))) (by kernel_rfl) (Rye.cells h0) (fun hHeld => ?_)
    refine wpAnyH_read (i := 0) (d := some 3) (v := ?v75) (by rfl) (by rfl) (by kernel_rfl) (by kernel_rfl) (by kernel_rfl) (fun _ _ _ h => h) (by rfl) ?hy75 (by assumption) ?rest75
    case hy75 =>
      intro w hSw
      try dsimp only at hSw
      go_simp
      try with_reducible rfl
    try simp only [Act.put, List.setIfInBounds_toArray, List.set_cons_zero, List.set_cons_succ]
    refine wpAnyH_read (i := 1) (d := some 4) (v := ?v76) (by rfl) (by rfl) (by kernel_rfl) (by kernel_rfl) (by kernel_rfl) (fun _ _ _ h => h) (by rfl) ?hy76 (by assumption) ?rest76
    case hy76 =>
      intro w hSw
      try dsimp only at hSw
      go_simp
      try with_reducible rfl
    try simp only [Act.put, List.setIfInBounds_toArray, List.set_cons_zero, List.set_cons_succ]
    refine wpAnyH_read (i := 2) (d := some 5) (v := ?v77) (by rfl) (by rfl) (by kernel_rfl) (by kernel_rfl) (by kernel_rfl) (fun _ _ _ h => h) (by rfl) ?hy77 (by assumption) ?rest77
    case hy77 =>
      intro w hSw
      try dsimp only at hSw
      go_simp
      try with_reducible rfl
    try simp only [Act.put, List.setIfInBounds_toArray, List.set_cons_zero, List.set_cons_succ]
    refine wpAnyH_read (i := 3) (d := some 6) (v := ?v78) (by rfl) (by rfl) (by kernel_rfl) (by kernel_rfl) (by kernel_rfl) (fun _ _ _ h => h) (by rfl) ?hy78 (by assumption) ?rest78
    case hy78 =>
      intro w hSw
      try dsimp only at hSw
      go_simp
      try with_reducible rfl
    try simp only [Act.put, List.setIfInBounds_toArray, List.set_cons_zero, List.set_cons_succ]
    refine wpAnyH_read (i := 4) (d := some 7) (v := ?v79) (by rfl) (by rfl) (by kernel_rfl) (by kernel_rfl) (by kernel_rfl) (fun _ _ _ h => h) (by rfl) ?hy79 (by assumption) ?rest79
    case hy79 =>
      intro w hSw
      try dsimp only at hSw
      go_simp
      try with_reducible rfl
    try simp only [Act.put, List.setIfInBounds_toArray, List.set_cons_zero, List.set_cons_succ]
    refine wpAnyH_read (i := 5) (d := some 8) (v := ?v80) (by rfl) (by rfl) (by kernel_rfl) (by kernel_rfl) (by kernel_rfl) (fun _ _ _ h => h) (by rfl) ?hy80 (by assumption) ?rest80
    case hy80 =>
      intro w hSw
      try dsimp only at hSw
      go_simp
      try with_reducible rfl
    try simp only [Act.put, List.setIfInBounds_toArray, List.set_cons_zero, List.set_cons_succ]
    refine wpAnyH_read (i := 6) (d := some 9) (v := ?v81) (by rfl) (by rfl) (by kernel_rfl) (by kernel_rfl) (by kernel_rfl) (fun _ _ _ h => h) (by rfl) ?hy81 (by assumption) ?rest81
    case hy81 =>
      intro w hSw
      try dsimp only at hSw
      go_simp
      try with_reducible rfl
    try simp only [Act.put, List.setIfInBounds_toArray, List.set_cons_zero, List.set_cons_succ]
    refine wpAnyH_read (i := 7) (d := some 10) (v := ?v82) (by rfl) (by rfl) (by kernel_rfl) (by kernel_rfl) (by kernel_rfl) (fun _ _ _ h => h) (by rfl) ?hy82 (by assumption) ?rest82
    case hy82 =>
      intro w hSw
      try dsimp only at hSw
      go_simp
      try with_reducible rfl
    try simp only [Act.put, List.setIfInBounds_toArray, List.set_cons_zero, List.set_cons_succ]
    refine wpAnyH_read (i := 8) (d := some 11) (v := ?v83) (by rfl) (by rfl) (by kernel_rfl) (by kernel_rfl) (by kernel_rfl) (fun _ _ _ h => h) (by rfl) ?hy83 (by assumption) ?rest83
    case hy83 =>
      intro w hSw
      try dsimp only at hSw
      go_simp
      try with_reducible rfl
    try simp only [Act.put, List.setIfInBounds_toArray, List.set_cons_zero, List.set_cons_succ]
    refine wpAnyH_read (i := 9) (d := some 12) (v := ?v84) (by rfl) (by rfl) (by kernel_rfl) (by kernel_rfl) (by kernel_rfl) (fun _ _ _ h => h) (by rfl) ?hy84 (by assumption) ?rest84
    case hy84 =>
      intro w hSw
      try dsimp only at hSw
      go_simp
      try with_reducible rfl
    try simp only [Act.put, List.setIfInBounds_toArray, List.set_cons_zero, List.set_cons_succ]
    refine wpAnyH_read (i := 10) (d := some 13) (v := ?v85) (by rfl) (by rfl) (by kernel_rfl) (by kernel_rfl) (by kernel_rfl) (fun _ _ _ h => h) (by rfl) ?hy85 (by assumption) ?rest85
    case hy85 =>
      intro w hSw
      try dsimp only at hSw
      go_simp
      try with_reducible rfl
    try simp only [Act.put, List.setIfInBounds_toArray, List.set_cons_zero, List.set_cons_succ]
    refine wpAnyH_read (i := 11) (d := some 14) (v := ?v86) (by rfl) (by rfl) (by kernel_rfl) (by kernel_rfl) (by kernel_rfl) (fun _ _ _ h => h) (by rfl) ?hy86 (by assumption) ?rest86
    case hy86 =>
      intro w hSw
      try dsimp only at hSw
      go_simp
      try with_reducible rfl
    try simp only [Act.put, List.setIfInBounds_toArray, List.set_cons_zero, List.set_cons_succ]
    refine wpAnyH_read (i := 12) (d := some 15) (v := ?v87) (by rfl) (by rfl) (by kernel_rfl) (by kernel_rfl) (by kernel_rfl) (fun _ _ _ h => h) (by rfl) ?hy87 (by assumption) ?rest87
    case hy87 =>
      intro w hSw
      try dsimp only at hSw
      go_simp
      try with_reducible rfl
    try simp only [Act.put, List.setIfInBounds_toArray, List.set_cons_zero, List.set_cons_succ]
    refine wpAnyH_read (i := 13) (d := some 16) (v := ?v88) (by rfl) (by rfl) (by kernel_rfl) (by kernel_rfl) (by kernel_rfl) (fun _ _ _ h => h) (by rfl) ?hy88 (by assumption) ?rest88
    case hy88 =>
      intro w hSw
      try dsimp only at hSw
      go_simp
      try with_reducible rfl
    try simp only [Act.put, List.setIfInBounds_toArray, List.set_cons_zero, List.set_cons_succ]
    refine wpAnyH_read (i := 14) (d := some 17) (v := ?v89) (by rfl) (by rfl) (by kernel_rfl) (by kernel_rfl) (by kernel_rfl) (fun _ _ _ h => h) (by rfl) ?hy89 (by assumption) ?rest89
    case hy89 =>
      intro w hSw
      try dsimp only at hSw
      go_simp
      try with_reducible rfl
    try simp only [Act.put, List.setIfInBounds_toArray, List.set_cons_zero, List.set_cons_succ]
    refine wpAnyH_read (i := 15) (d := some 18) (v := ?v90) (by rfl) (by rfl) (by kernel_rfl) (by kernel_rfl) (by kernel_rfl) (fun _ _ _ h => h) (by rfl) ?hy90 (by assumption) ?rest90
    case hy90 =>
      intro w hSw
      try dsimp only at hSw
      go_simp
      try with_reducible rfl
    try simp only [Act.put, List.setIfInBounds_toArray, List.set_cons_zero, List.set_cons_succ]
    refine wpAnyH_read (i := 16) (d := some 19) (v := ?v91) (by rfl) (by rfl) (by kernel_rfl) (by kernel_rfl) (by kernel_rfl) (fun _ _ _ h => h) (by rfl) ?hy91 (by assumption) ?rest91
    case hy91 =>
      intro w hSw
      try dsimp only at hSw
      go_simp
      try with_reducible rfl
    try simp only [Act.put, List.setIfInBounds_toArray, List.set_cons_zero, List.set_cons_succ]
    refine wpAnyH_done (by kernel_rfl) ?_ _
    go_wp2
    go_ret
    exact ⟨rfl, (Chg.refl (· = x) w).drew⟩
set_option maxRecDepth 100000 in
set_option maxHeartbeats 2000000 in
theorem rend_done (x a : Nat) (B : ByteArray) (y : Int) (w : World) (h : Rye w x B a true y) :
    Calls Tryd.prog 53 #[.pointer (some ⟨x, 0, none⟩)] w fun e w' => e = .returned (.int .i64 y) ∧ Chg (· = x) w w' := by
  have h0 : Rye w.drew x B a true y := Oct.Has.drew h
  have c3 : w.drew.cell? ⟨x, 3, none⟩ = some (.int .i64 y) := Oct.Has.at_ h0 3
  go_enter Tryd.func53, Tryd.ntmps53
  go_wp2_with fail
  refine wp_region_held_drew (S := (fun w' => w'.cell? ⟨x, 0, none⟩ = some (.string B) ∧ w'.cell? ⟨x, 1, none⟩ = some (.int .i64 (a : Int)) ∧ w'.cell? ⟨x, 2, none⟩ = some (.bool true))) (by kernel_rfl) (Rye.cells h0) (fun hHeld => ?_)
  refine wpAnyH_read (i := 0) (d := some 3) (v := ?v94) (by rfl) (by rfl) (by kernel_rfl) (by kernel_rfl) (by kernel_rfl) (fun _ _ _ h => h) (by rfl) ?hy94 (by assumption) ?rest94
  case hy94 =>
    intro w hSw
    try dsimp only at hSw
    go_simp
    try with_reducible rfl
  try simp only [Act.put, List.setIfInBounds_toArray, List.set_cons_zero, List.set_cons_succ]
  refine wpAnyH_read (i := 1) (d := some 4) (v := ?v95) (by rfl) (by rfl) (by kernel_rfl) (by kernel_rfl) (by kernel_rfl) (fun _ _ _ h => h) (by rfl) ?hy95 (by assumption) ?rest95
  case hy95 =>
    intro w hSw
    try dsimp only at hSw
    go_simp
    try with_reducible rfl
  try simp only [Act.put, List.setIfInBounds_toArray, List.set_cons_zero, List.set_cons_succ]
  refine wpAnyH_read (i := 2) (d := some 5) (v := ?v96) (by rfl) (by rfl) (by kernel_rfl) (by kernel_rfl) (by kernel_rfl) (fun _ _ _ h => h) (by rfl) ?hy96 (by assumption) ?rest96
  case hy96 =>
    intro w hSw
    try dsimp only at hSw
    go_simp
    try with_reducible rfl
  try simp only [Act.put, List.setIfInBounds_toArray, List.set_cons_zero, List.set_cons_succ]
  refine wpAnyH_read (i := 3) (d := some 6) (v := ?v97) (by rfl) (by rfl) (by kernel_rfl) (by kernel_rfl) (by kernel_rfl) (fun _ _ _ h => h) (by rfl) ?hy97 (by assumption) ?rest97
  case hy97 =>
    intro w hSw
    try dsimp only at hSw
    go_simp
    try with_reducible rfl
  try simp only [Act.put, List.setIfInBounds_toArray, List.set_cons_zero, List.set_cons_succ]
  refine wpAnyH_read (i := 4) (d := some 7) (v := ?v98) (by rfl) (by rfl) (by kernel_rfl) (by kernel_rfl) (by kernel_rfl) (fun _ _ _ h => h) (by rfl) ?hy98 (by assumption) ?rest98
  case hy98 =>
    intro w hSw
    try dsimp only at hSw
    go_simp
    try with_reducible rfl
  try simp only [Act.put, List.setIfInBounds_toArray, List.set_cons_zero, List.set_cons_succ]
  refine wpAnyH_read (i := 5) (d := some 8) (v := ?v99) (by rfl) (by rfl) (by kernel_rfl) (by kernel_rfl) (by kernel_rfl) (fun _ _ _ h => h) (by rfl) ?hy99 (by assumption) ?rest99
  case hy99 =>
    intro w hSw
    try dsimp only at hSw
    go_simp
    try with_reducible rfl
  try simp only [Act.put, List.setIfInBounds_toArray, List.set_cons_zero, List.set_cons_succ]
  refine wpAnyH_skip (i := 6) (d := some 9) (by rfl) (by rfl) (by kernel_rfl) (by kernel_rfl) (by kernel_rfl) (fun _ _ _ h => h) (by rfl) (by assumption) ?_
  try simp only [Act.put, List.setIfInBounds_toArray, List.set_cons_zero, List.set_cons_succ]
  refine wpAnyH_skip (i := 7) (d := some 10) (by rfl) (by rfl) (by kernel_rfl) (by kernel_rfl) (by kernel_rfl) (fun _ _ _ h => h) (by rfl) (by assumption) ?_
  try simp only [Act.put, List.setIfInBounds_toArray, List.set_cons_zero, List.set_cons_succ]
  refine wpAnyH_skip (i := 8) (d := some 11) (by rfl) (by rfl) (by kernel_rfl) (by kernel_rfl) (by kernel_rfl) (fun _ _ _ h => h) (by rfl) (by assumption) ?_
  try simp only [Act.put, List.setIfInBounds_toArray, List.set_cons_zero, List.set_cons_succ]
  refine wpAnyH_skip (i := 9) (d := some 12) (by rfl) (by rfl) (by kernel_rfl) (by kernel_rfl) (by kernel_rfl) (fun _ _ _ h => h) (by rfl) (by assumption) ?_
  try simp only [Act.put, List.setIfInBounds_toArray, List.set_cons_zero, List.set_cons_succ]
  refine wpAnyH_skip (i := 10) (d := some 13) (by rfl) (by rfl) (by kernel_rfl) (by kernel_rfl) (by kernel_rfl) (fun _ _ _ h => h) (by rfl) (by assumption) ?_
  try simp only [Act.put, List.setIfInBounds_toArray, List.set_cons_zero, List.set_cons_succ]
  refine wpAnyH_skip (i := 11) (d := some 14) (by rfl) (by rfl) (by kernel_rfl) (by kernel_rfl) (by kernel_rfl) (fun _ _ _ h => h) (by rfl) (by assumption) ?_
  try simp only [Act.put, List.setIfInBounds_toArray, List.set_cons_zero, List.set_cons_succ]
  refine wpAnyH_skip (i := 12) (d := some 15) (by rfl) (by rfl) (by kernel_rfl) (by kernel_rfl) (by kernel_rfl) (fun _ _ _ h => h) (by rfl) (by assumption) ?_
  try simp only [Act.put, List.setIfInBounds_toArray, List.set_cons_zero, List.set_cons_succ]
  refine wpAnyH_skip (i := 13) (d := some 16) (by rfl) (by rfl) (by kernel_rfl) (by kernel_rfl) (by kernel_rfl) (fun _ _ _ h => h) (by rfl) (by assumption) ?_
  try simp only [Act.put, List.setIfInBounds_toArray, List.set_cons_zero, List.set_cons_succ]
  refine wpAnyH_skip (i := 14) (d := some 17) (by rfl) (by rfl) (by kernel_rfl) (by kernel_rfl) (by kernel_rfl) (fun _ _ _ h => h) (by rfl) (by assumption) ?_
  try simp only [Act.put, List.setIfInBounds_toArray, List.set_cons_zero, List.set_cons_succ]
  refine wpAnyH_skip (i := 15) (d := some 18) (by rfl) (by rfl) (by kernel_rfl) (by kernel_rfl) (by kernel_rfl) (fun _ _ _ h => h) (by rfl) (by assumption) ?_
  try simp only [Act.put, List.setIfInBounds_toArray, List.set_cons_zero, List.set_cons_succ]
  refine wpAnyH_read (i := 16) (d := some 19) (v := ?v110) (by rfl) (by rfl) (by kernel_rfl) (by kernel_rfl) (by kernel_rfl) (fun _ _ _ h => h) (by rfl) ?hy110 (by assumption) ?rest110
  case hy110 =>
    intro w hSw
    try dsimp only at hSw
    go_simp
    try with_reducible rfl
  try simp only [Act.put, List.setIfInBounds_toArray, List.set_cons_zero, List.set_cons_succ]
  refine wpAnyH_done (by kernel_rfl) ?_ _
  go_wp2
  go_ret
  exact ⟨rfl, (Chg.refl (· = x) w).drew⟩
set_option maxRecDepth 100000 in
set_option maxHeartbeats 2000000 in
theorem rraw_far (x a n : Nat) (B : ByteArray) (hB : B.size ≤ 1048576) (ha : a ≤ B.size) (hn : 1048576 < n) (w : World) (h : Rye w x B a false 0) :
    Calls Tryd.prog 73 #[.pointer (some ⟨x, 0, none⟩), .int .i64 n] w fun e w' => e = .returned (.string ⟨#[]⟩) ∧ Rye w' x B a true 201 ∧ Chg (· = x) w w' := by
  have n0 : (0 : Int) ≤ n := by omega
  have a0 : (0 : Int) ≤ a := by omega
  have d1 : decide ((n : Int) < 0) = false := decide_eq_false (by omega)
  have d2 : decide ((B.size : Int) - a < n) = true := decide_eq_true (by omega)
  have e1 : IntKind.i64.wrap ((B.size : Int) - a) = (B.size : Int) - a := by rw [IntKind.wrap_i64]; omega
  have h0 : Rye w.drew x B a false 0 := Oct.Has.drew h
  have HF := Lib.hid (rfail_any x B a 201 _ h0)
  obtain ⟨c0, c1, c2⟩ := Rye.cells h
  clear hn
  go_enter Tryd.func73, Tryd.ntmps73
  go_wp2_with fail
  clear c0 c1 c2
  refine wp_region_held_drew (S := (fun w' => w'.cell? ⟨x, 0, none⟩ = some (.string B) ∧ w'.cell? ⟨x, 1, none⟩ = some (.int .i64 (a : Int)) ∧ w'.cell? ⟨x, 2, none⟩ = some (.bool false))) (by kernel_rfl) (Rye.cells h0) (fun hHeld => ?_)
  refine wpAnyH_read (i := 0) (d := some 9) (v := ?v113) (by rfl) (by rfl) (by kernel_rfl) (by kernel_rfl) (by kernel_rfl) (fun _ _ _ h => h) (by rfl) ?hy113 (by assumption) ?rest113
  case hy113 =>
    intro w hSw
    try dsimp only at hSw
    go_simp
    try with_reducible rfl
  try simp only [Act.put, List.setIfInBounds_toArray, List.set_cons_zero, List.set_cons_succ]
  refine wpAnyH_read (i := 1) (d := some 10) (v := ?v114) (by rfl) (by rfl) (by kernel_rfl) (by kernel_rfl) (by kernel_rfl) (fun _ _ _ h => h) (by rfl) ?hy114 (by assumption) ?rest114
  case hy114 =>
    intro w hSw
    try dsimp only at hSw
    go_simp
    try with_reducible rfl
  try simp only [Act.put, List.setIfInBounds_toArray, List.set_cons_zero, List.set_cons_succ]
  refine wpAnyH_read (i := 2) (d := some 11) (v := ?v115) (by rfl) (by rfl) (by kernel_rfl) (by kernel_rfl) (by kernel_rfl) (fun _ _ _ h => h) (by rfl) ?hy115 (by assumption) ?rest115
  case hy115 =>
    intro w hSw
    try dsimp only at hSw
    go_simp
    try with_reducible rfl
  try simp only [Act.put, List.setIfInBounds_toArray, List.set_cons_zero, List.set_cons_succ]
  refine wpAnyH_read (i := 3) (d := some 12) (v := ?v116) (by rfl) (by rfl) (by kernel_rfl) (by kernel_rfl) (by kernel_rfl) (fun _ _ _ h => h) (by rfl) ?hy116 (by assumption) ?rest116
  case hy116 =>
    intro w hSw
    try dsimp only at hSw
    go_simp
    try with_reducible rfl
  try simp only [Act.put, List.setIfInBounds_toArray, List.set_cons_zero, List.set_cons_succ]
  refine wpAnyH_read (i := 4) (d := some 13) (v := ?v117) (by rfl) (by rfl) (by kernel_rfl) (by kernel_rfl) (by kernel_rfl) (fun _ _ _ h => h) (by rfl) ?hy117 (by assumption) ?rest117
  case hy117 =>
    intro w hSw
    try dsimp only at hSw
    go_simp
    try with_reducible rfl
  try simp only [Act.put, List.setIfInBounds_toArray, List.set_cons_zero, List.set_cons_succ]
  refine wpAnyH_read (i := 5) (d := some 14) (v := ?v118) (by rfl) (by rfl) (by kernel_rfl) (by kernel_rfl) (by kernel_rfl) (fun _ _ _ h => h) (by rfl) ?hy118 (by assumption) ?rest118
  case hy118 =>
    intro w hSw
    try dsimp only at hSw
    go_simp
    try with_reducible rfl
  try simp only [Act.put, List.setIfInBounds_toArray, List.set_cons_zero, List.set_cons_succ]
  refine wpAnyH_read (i := 6) (d := some 15) (v := ?v119) (by rfl) (by rfl) (by kernel_rfl) (by kernel_rfl) (by kernel_rfl) (fun _ _ _ h => h) (by rfl) ?hy119 (by assumption) ?rest119
  case hy119 =>
    intro w hSw
    try dsimp only at hSw
    go_simp
    try with_reducible rfl
  try simp only [Act.put, List.setIfInBounds_toArray, List.set_cons_zero, List.set_cons_succ]
  refine wpAnyH_read (i := 7) (d := some 16) (v := ?v120) (by rfl) (by rfl) (by kernel_rfl) (by kernel_rfl) (by kernel_rfl) (fun _ _ _ h => h) (by rfl) ?hy120 (by assumption) ?rest120
  case hy120 =>
    intro w hSw
    try dsimp only at hSw
    go_simp
    try with_reducible rfl
  try simp only [Act.put, List.setIfInBounds_toArray, List.set_cons_zero, List.set_cons_succ]
  refine wpAnyH_read (i := 8) (d := some 17) (v := ?v121) (by rfl) (by rfl) (by kernel_rfl) (by kernel_rfl) (by kernel_rfl) (fun _ _ _ h => h) (by rfl) ?hy121 (by assumption) ?rest121
  case hy121 =>
    intro w hSw
    try dsimp only at hSw
    go_simp
    try with_reducible rfl
  try simp only [Act.put, List.setIfInBounds_toArray, List.set_cons_zero, List.set_cons_succ]
  refine wpAnyH_read (i := 9) (d := some 18) (v := ?v122) (by rfl) (by rfl) (by kernel_rfl) (by kernel_rfl) (by kernel_rfl) (fun _ _ _ h => h) (by rfl) ?hy122 (by assumption) ?rest122
  case hy122 =>
    intro w hSw
    try dsimp only at hSw
    go_simp
    try with_reducible rfl
  try simp only [Act.put, List.setIfInBounds_toArray, List.set_cons_zero, List.set_cons_succ]
  refine wpAnyH_read (i := 10) (d := some 19) (v := ?v123) (by rfl) (by rfl) (by kernel_rfl) (by kernel_rfl) (by kernel_rfl) (fun _ _ _ h => h) (by rfl) ?hy123 (by assumption) ?rest123
  case hy123 =>
    intro w hSw
    try dsimp only at hSw
    go_simp
    try with_reducible rfl
  try simp only [Act.put, List.setIfInBounds_toArray, List.set_cons_zero, List.set_cons_succ]
  refine wpAnyH_read (i := 11) (d := some 20) (v := ?v124) (by rfl) (by rfl) (by kernel_rfl) (by kernel_rfl) (by kernel_rfl) (fun _ _ _ h => h) (by rfl) ?hy124 (by assumption) ?rest124
  case hy124 =>
    intro w hSw
    try dsimp only at hSw
    go_simp
    try with_reducible rfl
  try simp only [Act.put, List.setIfInBounds_toArray, List.set_cons_zero, List.set_cons_succ]
  refine wpAnyH_read (i := 12) (d := some 21) (v := ?v125) (by rfl) (by rfl) (by kernel_rfl) (by kernel_rfl) (by kernel_rfl) (fun _ _ _ h => h) (by rfl) ?hy125 (by assumption) ?rest125
  case hy125 =>
    intro w hSw
    try dsimp only at hSw
    go_simp
    try with_reducible rfl
  try simp only [Act.put, List.setIfInBounds_toArray, List.set_cons_zero, List.set_cons_succ]
  refine wpAnyH_read (i := 13) (d := some 22) (v := ?v126) (by rfl) (by rfl) (by kernel_rfl) (by kernel_rfl) (by kernel_rfl) (fun _ _ _ h => h) (by rfl) ?hy126 (by assumption) ?rest126
  case hy126 =>
    intro w hSw
    try dsimp only at hSw
    go_simp
    try with_reducible rfl
  try simp only [Act.put, List.setIfInBounds_toArray, List.set_cons_zero, List.set_cons_succ]
  refine wpAnyH_read (i := 14) (d := some 23) (v := ?v127) (by rfl) (by rfl) (by kernel_rfl) (by kernel_rfl) (by kernel_rfl) (fun _ _ _ h => h) (by rfl) ?hy127 (by assumption) ?rest127
  case hy127 =>
    intro w hSw
    try dsimp only at hSw
    go_simp
    try with_reducible rfl
  try simp only [Act.put, List.setIfInBounds_toArray, List.set_cons_zero, List.set_cons_succ]
  refine wpAnyH_read (i := 15) (d := some 24) (v := ?v128) (by rfl) (by rfl) (by kernel_rfl) (by kernel_rfl) (by kernel_rfl) (fun _ _ _ h => h) (by rfl) ?hy128 (by assumption) ?rest128
  case hy128 =>
    intro w hSw
    try dsimp only at hSw
    go_simp
    try with_reducible rfl
  try simp only [Act.put, List.setIfInBounds_toArray, List.set_cons_zero, List.set_cons_succ]
  refine wpAnyH_done (by kernel_rfl) ?_ _
  go_wp2_with fail
  refine HF.out.mono ?_
  rintro e w2 ⟨rfl, h2, hc⟩
  go_wp2
  go_ret
  exact ⟨rfl, h2, ((Chg.refl (· = x) w).drew).trans hc⟩
set_option maxRecDepth 100000 in
set_option maxHeartbeats 2000000 in
theorem rraw_neg (x a : Nat) (n : Int) (B : ByteArray) (hn : n < 0) (w : World) (h : Rye w x B a false 0) :
    Calls Tryd.prog 73 #[.pointer (some ⟨x, 0, none⟩), .int .i64 n] w fun e w' => e = .returned (.string ⟨#[]⟩) ∧ Rye w' x B a true 201 ∧ Chg (· = x) w w' := by
  have d1 : decide (n < 0) = true := decide_eq_true hn
  have h0 : Rye w.drew x B a false 0 := Oct.Has.drew h
  have HF := Lib.hid (rfail_any x B a 201 _ h0)
  obtain ⟨c0, c1, c2⟩ := Rye.cells h
  clear hn
  go_enter Tryd.func73, Tryd.ntmps73
  go_wp2_with fail
  clear c0 c1 c2
  refine wp_region_held_drew (S := (fun w' => w'.cell? ⟨x, 0, none⟩ = some (.string B) ∧ w'.cell? ⟨x, 1, none⟩ = some (.int .i64 (a : Int)) ∧ w'.cell? ⟨x, 2, none⟩ = some (.bool false))) (by kernel_rfl) (Rye.cells h0) (fun hHeld => ?_)
  refine wpAnyH_read (i := 0) (d := some 9) (v := ?v131) (by rfl) (by rfl) (by kernel_rfl) (by kernel_rfl) (by kernel_rfl) (fun _ _ _ h => h) (by rfl) ?hy131 (by assumption) ?rest131
  case hy131 =>
    intro w hSw
    try dsimp only at hSw
    go_simp
    try with_reducible rfl
  try simp only [Act.put, List.setIfInBounds_toArray, List.set_cons_zero, List.set_cons_succ]
  refine wpAnyH_read (i := 1) (d := some 10) (v := ?v132) (by rfl) (by rfl) (by kernel_rfl) (by kernel_rfl) (by kernel_rfl) (fun _ _ _ h => h) (by rfl) ?hy132 (by assumption) ?rest132
  case hy132 =>
    intro w hSw
    try dsimp only at hSw
    go_simp
    try with_reducible rfl
  try simp only [Act.put, List.setIfInBounds_toArray, List.set_cons_zero, List.set_cons_succ]
  refine wpAnyH_read (i := 2) (d := some 11) (v := ?v133) (by rfl) (by rfl) (by kernel_rfl) (by kernel_rfl) (by kernel_rfl) (fun _ _ _ h => h) (by rfl) ?hy133 (by assumption) ?rest133
  case hy133 =>
    intro w hSw
    try dsimp only at hSw
    go_simp
    try with_reducible rfl
  try simp only [Act.put, List.setIfInBounds_toArray, List.set_cons_zero, List.set_cons_succ]
  refine wpAnyH_skip (i := 3) (d := some 12) (by rfl) (by rfl) (by kernel_rfl) (by kernel_rfl) (by kernel_rfl) (fun _ _ _ h => h) (by rfl) (by assumption) ?_
  try simp only [Act.put, List.setIfInBounds_toArray, List.set_cons_zero, List.set_cons_succ]
  refine wpAnyH_skip (i := 4) (d := some 13) (by rfl) (by rfl) (by kernel_rfl) (by kernel_rfl) (by kernel_rfl) (fun _ _ _ h => h) (by rfl) (by assumption) ?_
  try simp only [Act.put, List.setIfInBounds_toArray, List.set_cons_zero, List.set_cons_succ]
  refine wpAnyH_skip (i := 5) (d := some 14) (by rfl) (by rfl) (by kernel_rfl) (by kernel_rfl) (by kernel_rfl) (fun _ _ _ h => h) (by rfl) (by assumption) ?_
  try simp only [Act.put, List.setIfInBounds_toArray, List.set_cons_zero, List.set_cons_succ]
  refine wpAnyH_skip (i := 6) (d := some 15) (by rfl) (by rfl) (by kernel_rfl) (by kernel_rfl) (by kernel_rfl) (fun _ _ _ h => h) (by rfl) (by assumption) ?_
  try simp only [Act.put, List.setIfInBounds_toArray, List.set_cons_zero, List.set_cons_succ]
  refine wpAnyH_skip (i := 7) (d := some 16) (by rfl) (by rfl) (by kernel_rfl) (by kernel_rfl) (by kernel_rfl) (fun _ _ _ h => h) (by rfl) (by assumption) ?_
  try simp only [Act.put, List.setIfInBounds_toArray, List.set_cons_zero, List.set_cons_succ]
  refine wpAnyH_skip (i := 8) (d := some 17) (by rfl) (by rfl) (by kernel_rfl) (by kernel_rfl) (by kernel_rfl) (fun _ _ _ h => h) (by rfl) (by assumption) ?_
  try simp only [Act.put, List.setIfInBounds_toArray, List.set_cons_zero, List.set_cons_succ]
  refine wpAnyH_skip (i := 9) (d := some 18) (by rfl) (by rfl) (by kernel_rfl) (by kernel_rfl) (by kernel_rfl) (fun _ _ _ h => h) (by rfl) (by assumption) ?_
  try simp only [Act.put, List.setIfInBounds_toArray, List.set_cons_zero, List.set_cons_succ]
  refine wpAnyH_skip (i := 10) (d := some 19) (by rfl) (by rfl) (by kernel_rfl) (by kernel_rfl) (by kernel_rfl) (fun _ _ _ h => h) (by rfl) (by assumption) ?_
  try simp only [Act.put, List.setIfInBounds_toArray, List.set_cons_zero, List.set_cons_succ]
  refine wpAnyH_skip (i := 11) (d := some 20) (by rfl) (by rfl) (by kernel_rfl) (by kernel_rfl) (by kernel_rfl) (fun _ _ _ h => h) (by rfl) (by assumption) ?_
  try simp only [Act.put, List.setIfInBounds_toArray, List.set_cons_zero, List.set_cons_succ]
  refine wpAnyH_skip (i := 12) (d := some 21) (by rfl) (by rfl) (by kernel_rfl) (by kernel_rfl) (by kernel_rfl) (fun _ _ _ h => h) (by rfl) (by assumption) ?_
  try simp only [Act.put, List.setIfInBounds_toArray, List.set_cons_zero, List.set_cons_succ]
  refine wpAnyH_skip (i := 13) (d := some 22) (by rfl) (by rfl) (by kernel_rfl) (by kernel_rfl) (by kernel_rfl) (fun _ _ _ h => h) (by rfl) (by assumption) ?_
  try simp only [Act.put, List.setIfInBounds_toArray, List.set_cons_zero, List.set_cons_succ]
  refine wpAnyH_skip (i := 14) (d := some 23) (by rfl) (by rfl) (by kernel_rfl) (by kernel_rfl) (by kernel_rfl) (fun _ _ _ h => h) (by rfl) (by assumption) ?_
  try simp only [Act.put, List.setIfInBounds_toArray, List.set_cons_zero, List.set_cons_succ]
  refine wpAnyH_read (i := 15) (d := some 24) (v := ?v146) (by rfl) (by rfl) (by kernel_rfl) (by kernel_rfl) (by kernel_rfl) (fun _ _ _ h => h) (by rfl) ?hy146 (by assumption) ?rest146
  case hy146 =>
    intro w hSw
    try dsimp only at hSw
    go_simp
    try with_reducible rfl
  try simp only [Act.put, List.setIfInBounds_toArray, List.set_cons_zero, List.set_cons_succ]
  refine wpAnyH_done (by kernel_rfl) ?_ _
  go_wp2_with fail
  refine HF.out.mono ?_
  rintro e w2 ⟨rfl, h2, hc⟩
  go_wp2
  go_ret
  exact ⟨rfl, h2, ((Chg.refl (· = x) w).drew).trans hc⟩
theorem numR8 {R : ByteArray} {k j : Nat} (hk : R.size ≤ k) (h8 : k ≤ 8) (hj : j < R.size) : numL (R.data.toList.take j) < 72057594037927936 := by
  have h1 := numL_lt (R.data.toList.take j)
  have h2 : (R.data.toList.take j).length ≤ 7 := by rw [List.length_take]; omega
  have h3 : 256 ^ (R.data.toList.take j).length ≤ 256 ^ 7 := Nat.pow_le_pow_right (by decide) h2
  exact Nat.lt_of_lt_of_le h1 (Nat.le_trans h3 (by decide))
theorem num8_lt (l : List UInt8) (k : Nat) (h8 : k ≤ 8) : numL (l.take k) < 18446744073709551616 := by
  have h1 := numL_lt (l.take k)
  have h2 : (l.take k).length ≤ 8 := by rw [List.length_take]; omega
  have h3 : 256 ^ (l.take k).length ≤ 256 ^ 8 := Nat.pow_le_pow_right (by decide) h2
  exact Nat.lt_of_lt_of_le h1 (Nat.le_trans h3 (by decide))
/-- What the document's eye has done where the program's came to that; zero: what it answers where looking has ended. -/
def RDid (zero : Value) (g : Got) (x : Nat) (B : ByteArray) (w : World) (e : Ending) (w' : World) : Prop :=
  match g with
  | .num v r => ∃ a, e = .returned (.int .i64 v) ∧ a ≤ B.size ∧ r = B.extract a B.size ∧ Rye w' x B a false 0 ∧ Chg (· = x) w w'
  | .txt t r => ∃ a, e = .returned (.string t) ∧ a ≤ B.size ∧ r = B.extract a B.size ∧ Rye w' x B a false 0 ∧ Chg (· = x) w w'
  | .bad _ y => ∃ a, e = .returned zero ∧ Rye w' x B a true y ∧ Chg (· = x) w w'
theorem ext_list (r : ByteArray) (n : Nat) : (r.extract n r.size).data.toList = r.data.toList.drop n := by
  rw [ByteArray.data_extract]
  simp only [Array.toList_extract, List.extract]
  rw [List.take_of_length_le]
  rw [List.length_drop, Array.length_toList]
  exact Nat.le_refl _
theorem ext_ext (r : ByteArray) (a b : Nat) (_h : a ≤ r.size) : (r.extract a r.size).extract b (r.extract a r.size).size = r.extract (a + b) r.size := by
  apply ByteArray.ext
  apply Array.ext'
  rw [ext_list, ext_list, ext_list, List.drop_drop]
theorem ext_cut (r : ByteArray) (a b : Nat) (_h : a + b ≤ r.size) : (r.extract a r.size).extract 0 b = r.extract a (a + b) := by
  have h1 : ((r.extract a r.size).extract 0 b).data.toList = ((r.extract a r.size).data.toList).take b := by
    rw [ByteArray.data_extract]
    simp only [Array.toList_extract, List.extract, Nat.sub_zero, List.drop_zero]
  have h2 : (r.extract a (a + b)).data.toList = (r.data.toList.drop a).take b := by
    rw [ByteArray.data_extract]
    simp only [Array.toList_extract, List.extract, Nat.add_sub_cancel_left]
  apply ByteArray.ext
  apply Array.ext'
  rw [h1, h2, ext_list]
theorem ext_size (r : ByteArray) (a : Nat) (_h : a ≤ r.size) : (r.extract a r.size).size = r.size - a := by simp
theorem rraw_got (x a : Nat) (n : Int) (B : ByteArray) (hB : B.size ≤ 1048576) (ha : a ≤ B.size) (w : World) (h : Rye w x B a false 0) :
    Calls Tryd.prog 73 #[.pointer (some ⟨x, 0, none⟩), .int .i64 n] w (RDid (.string ⟨#[]⟩) (gotRaw (B.extract a B.size) n) x B w) := by
  have hz := ext_size B a ha
  by_cases hn : 0 ≤ n ∧ n ≤ (B.extract a B.size).size
  · have e : gotRaw (B.extract a B.size) n = .txt ((B.extract a B.size).extract 0 n.toNat) ((B.extract a B.size).extract n.toNat (B.extract a B.size).size) := if_pos hn
    obtain ⟨m, rfl⟩ := Int.eq_ofNat_of_zero_le hn.1
    have hm : a + m ≤ B.size := by have := hn.2; rw [hz] at this; omega
    rw [e]
    refine (rraw_ok x a m B hB hm w h).mono ?_
    rintro e w' ⟨rfl, h2, hc⟩
    exact ⟨a + m, by rw [show (m : Int).toNat = m from rfl, ext_cut B a m hm], hm, by rw [show (m : Int).toNat = m from rfl, ext_ext B a m ha], h2, hc⟩
  · have e : gotRaw (B.extract a B.size) n = .bad (B.extract a B.size) 201 := if_neg hn
    rw [e]
    by_cases h0 : n < 0
    · refine (rraw_neg x a n B h0 w h).mono ?_
      rintro e w' ⟨rfl, h2, hc⟩
      exact ⟨a, rfl, h2, hc⟩
    · obtain ⟨m, rfl⟩ := Int.eq_ofNat_of_zero_le (show 0 ≤ n by omega)
      by_cases h8 : m ≤ 1048576
      · refine (rraw_short x a m B hB h8 ha (by rw [hz] at hn; omega) w h).mono ?_
        rintro e w' ⟨rfl, h2, hc⟩
        exact ⟨a, rfl, h2, hc⟩
      · refine (rraw_far x a m B hB ha (by omega) w h).mono ?_
        rintro e w' ⟨rfl, h2, hc⟩
        exact ⟨a, rfl, h2, hc⟩
end Go.Proofs.YtfjmcklmoebnaaaDoor.Ry
/- Numbers, texts, and how many are left, whatever is asked of the document's eye. -/
namespace Go.Proofs.YtfjmcklmoebnaaaDoor.Ry set_option linter.unusedSimpArgs false
open Go.Proofs.YtfjmcklmoebnaaaDoor.Vc
open Go.RowKit Go.Proofs.YtfjmcklmoebnaaaDoor.Oct

set_option maxRecDepth 100000 in
set_option maxHeartbeats 4000000 in
theorem rnum8 (x a k : Nat) (B : ByteArray) (hB : B.size ≤ 1048576) (h1 : 1 ≤ k) (h8 : k ≤ 8) (hn : a + k ≤ B.size) (w : World) (h : Rye w x B a false 0) (V : Nat) (hV : V = numL ((B.data.toList.drop a).take k)) :
    Calls Tryd.prog 49 #[.pointer (some ⟨x, 0, none⟩), .int .i64 k] w fun e w' =>
      if V < 9223372036854775808 then e = .returned (.int .i64 (V : Nat)) ∧ Rye w' x B (a + k) false 0 ∧ Chg (· = x) w w'
      else e = .returned (.int .i64 0) ∧ Rye w' x B (a + k) true 201 ∧ Chg (· = x) w w' := by
  have HRW := Lib.hid (rraw_ok x a k B hB hn w h)
  obtain ⟨c0, c1, c2⟩ := Rye.cells h
  have hz : (B.extract a (a + k)).size = k := by simp; omega
  have hR : (B.extract a (a + k)).data.toList = (B.data.toList.drop a).take k := by
    rw [ByteArray.data_extract]
    simp only [Array.toList_extract, List.extract, Nat.add_sub_cancel_left]
  have hV8 : V < 18446744073709551616 := by rw [hV]; exact num8_lt _ k h8
  rw [← hR] at hV
  generalize B.extract a (a + k) = R at *
  have HV := Lib.hid hV
  have HZ := Lib.hid hz
  have hz8 : R.size ≤ 8 := by omega
  clear hn h hR hz hV
  by_cases hb : V < 9223372036854775808
  · simp only [if_pos hb]
    go_enter Tryd.func49, Tryd.ntmps49
    go_wp2_with fail
    refine HRW.out.mono ?_
    rintro e w1 ⟨rfl, h2, hc⟩
    clear c0 c1 c2 HRW
    go_wp2
    go_loop [6, 25] (fun m i => ∃ j : Nat, j ≤ R.size ∧ i = .int .i64 j ∧ m = .int .u64 (numL (R.data.toList.take j) : Nat)) (fun _ i => R.size - (intOf i).toNat)
    case atStart => exact ⟨0, Nat.zero_le _, rfl, rfl⟩
    case round =>
      obtain ⟨j, hj, rfl, rfl⟩ := hrel
      by_cases hj2 : j < R.size
      · have hlt := numR8 (Nat.le_refl R.size) hz8 hj2
        have hsn : numL (R.data.toList.take (j + 1)) = numL (R.data.toList.take j) * 256 + (R[j]).toNat := by
          rw [List.take_succ_eq_append_getElem (by rw [Array.length_toList]; exact hj2), numL_snoc]
          rfl
        have HS := Lib.hid hsn
        clear hsn
        generalize numL (R.data.toList.take j) = m at *
        have hb2 := (R[j]).toNat_lt
        generalize hbb : (R[j]).toNat = b at *
        have hw : IntKind.u64.wrap (b : Int) = b := by rw [IntKind.wrap_u64]; omega
        have hw2 : IntKind.u64.wrap ((m : Int) * 256) = (m : Int) * 256 := by rw [IntKind.wrap_u64]; omega
        have hw3 : IntKind.u64.wrap ((m : Int) * 256 + b) = (m : Int) * 256 + b := by rw [IntKind.wrap_u64]; omega
        go_wp2
        go_round
        case rel => exact ⟨j + 1, by omega, by go_num, by rw [HS.out]; go_num⟩
        case measure => simp [intOf]; omega
      · obtain rfl : j = R.size := by omega
        have hfull : R.data.toList.take R.size = R.data.toList := List.take_of_length_le (by rw [Array.length_toList]; exact Nat.le_refl _)
        rw [hfull, ← HV.out]
        have w9 : IntKind.i64.wrap (V : Int) = V := by rw [IntKind.wrap_i64]; omega
        have d9 : decide ((9223372036854775808 : Int) ≤ V) = false := decide_eq_false (by omega)
        go_wp2
        go_ret
        exact ⟨rfl, h2, hc⟩
  · simp only [if_neg hb]
    go_enter Tryd.func49, Tryd.ntmps49
    go_wp2_with fail
    refine HRW.out.mono ?_
    rintro e w1 ⟨rfl, h2, hc⟩
    clear c0 c1 c2 HRW
    go_wp2
    go_loop [6, 25] (fun m i => ∃ j : Nat, j ≤ R.size ∧ i = .int .i64 j ∧ m = .int .u64 (numL (R.data.toList.take j) : Nat)) (fun _ i => R.size - (intOf i).toNat)
    case atStart => exact ⟨0, Nat.zero_le _, rfl, rfl⟩
    case round =>
      obtain ⟨j, hj, rfl, rfl⟩ := hrel
      by_cases hj2 : j < R.size
      · have hlt := numR8 (Nat.le_refl R.size) hz8 hj2
        have hsn : numL (R.data.toList.take (j + 1)) = numL (R.data.toList.take j) * 256 + (R[j]).toNat := by
          rw [List.take_succ_eq_append_getElem (by rw [Array.length_toList]; exact hj2), numL_snoc]
          rfl
        have HS := Lib.hid hsn
        clear hsn
        generalize numL (R.data.toList.take j) = m at *
        have hb2 := (R[j]).toNat_lt
        generalize hbb : (R[j]).toNat = b at *
        have hw : IntKind.u64.wrap (b : Int) = b := by rw [IntKind.wrap_u64]; omega
        have hw2 : IntKind.u64.wrap ((m : Int) * 256) = (m : Int) * 256 := by rw [IntKind.wrap_u64]; omega
        have hw3 : IntKind.u64.wrap ((m : Int) * 256 + b) = (m : Int) * 256 + b := by rw [IntKind.wrap_u64]; omega
        go_wp2
        go_round
        case rel => exact ⟨j + 1, by omega, by go_num, by rw [HS.out]; go_num⟩
        case measure => simp [intOf]; omega
      · obtain rfl : j = R.size := by omega
        have hfull : R.data.toList.take R.size = R.data.toList := List.take_of_length_le (by rw [Array.length_toList]; exact Nat.le_refl _)
        rw [hfull, ← HV.out]
        have d9 : decide ((9223372036854775808 : Int) ≤ V) = true := decide_eq_true (by omega)
        have HF := Lib.hid (rfail_any x B (a + k) 201 _ h2)
        go_wp2_with fail
        refine HF.out.mono ?_
        rintro e w3 ⟨rfl, h3, hc3⟩
        go_wp2
        go_ret
        exact ⟨rfl, h3, hc.trans hc3⟩
theorem rnum_width (x a : Nat) (k : Int) (B : ByteArray) (hk : k < 1 ∨ 8 < k) (w : World) (h : Rye w x B a false 0) :
    Calls Tryd.prog 49 #[.pointer (some ⟨x, 0, none⟩), .int .i64 k] w fun e w' => e = .returned (.int .i64 0) ∧ Rye w' x B a true 22 ∧ Chg (· = x) w w' := by
  have HF := Lib.hid (rfail_any x B a 22 _ h)
  obtain ⟨c0, c1, c2⟩ := Rye.cells h
  by_cases h1 : k < 1
  · clear hk
    go_enter Tryd.func49, Tryd.ntmps49
    go_wp2_with fail
    refine HF.out.mono ?_
    rintro e w3 ⟨rfl, h3, hc3⟩
    go_wp2
    go_ret
    exact ⟨rfl, h3, hc3⟩
  · have h2 : 8 < k := hk.resolve_left h1
    clear hk
    go_enter Tryd.func49, Tryd.ntmps49
    go_wp2_with fail
    refine HF.out.mono ?_
    rintro e w3 ⟨rfl, h3, hc3⟩
    go_wp2
    go_ret
    exact ⟨rfl, h3, hc3⟩
theorem rnum_got (x a : Nat) (k : Int) (B : ByteArray) (hB : B.size ≤ 1048576) (ha : a ≤ B.size) (w : World) (h : Rye w x B a false 0) :
    Calls Tryd.prog 49 #[.pointer (some ⟨x, 0, none⟩), .int .i64 k] w (RDid (.int .i64 0) (gotNum (B.extract a B.size) k) x B w) := by
  have hz := ext_size B a ha
  unfold gotNum
  by_cases hk : 1 ≤ k ∧ k ≤ 8
  · rw [if_pos hk]
    obtain ⟨m, rfl⟩ := Int.eq_ofNat_of_zero_le (show 0 ≤ k by omega)
    rw [show (m : Int).toNat = m from rfl]
    by_cases hr : (m : Int) ≤ (B.extract a B.size).size
    · rw [if_pos hr]
      have hm : a + m ≤ B.size := by rw [hz] at hr; omega
      have h2 := rnum8 x a m B hB (by omega) (by omega) hm w h _ rfl
      rw [ext_list]
      by_cases hv : numL ((B.data.toList.drop a).take m) < 9223372036854775808
      · simp only [if_pos hv] at h2 ⊢
        refine h2.mono ?_
        rintro e w' ⟨rfl, h3, hc⟩
        exact ⟨a + m, rfl, hm, by rw [ext_ext B a m ha], h3, hc⟩
      · simp only [if_neg hv] at h2 ⊢
        refine h2.mono ?_
        rintro e w' ⟨rfl, h3, hc⟩
        exact ⟨a + m, rfl, h3, hc⟩
    · rw [if_neg hr]
      refine (rnum_short x a m B hB (by omega) (by omega) ha (by rw [hz] at hr; omega) w h).mono ?_
      rintro e w' ⟨rfl, h3, hc⟩
      exact ⟨a, rfl, h3, hc⟩
  · rw [if_neg hk]
    refine (rnum_width x a k B (by omega) w h).mono ?_
    rintro e w' ⟨rfl, h3, hc⟩
    exact ⟨a, rfl, h3, hc⟩
set_option maxHeartbeats 1000000 in
theorem rtext_short (x a : Nat) (most : Int) (B : ByteArray) (hB : B.size ≤ 1048576) (ha : a ≤ B.size) (hn : B.size < a + 2) (w : World) (h : Rye w x B a false 0) :
    Calls Tryd.prog 52 #[.pointer (some ⟨x, 0, none⟩), .int .i64 most] w fun e w' => e = .returned (.string ⟨#[]⟩) ∧ Rye w' x B a true 201 ∧ Chg (· = x) w w' := by
  have HN := Lib.hid (rnum_short x a 2 B hB (by omega) (by omega) ha hn w h)
  clear h hn
  by_cases hm : 0 ≤ most
  · have dm : ¬ most < 0 := by omega
    go_enter Tryd.func52, Tryd.ntmps52
    go_wp2_with fail
    refine HN.out.mono ?_
    rintro e w1 ⟨rfl, h1, hc1⟩
    have HRW := Lib.hid (rraw_done x a 0 B 201 w1 h1)
    go_wp2_with fail
    refine HRW.out.mono ?_
    rintro e w2 ⟨rfl, rfl⟩
    go_wp2
    go_ret
    exact ⟨rfl, h1, hc1⟩
  · have dm : most < 0 := by omega
    go_enter Tryd.func52, Tryd.ntmps52
    go_wp2_with fail
    refine HN.out.mono ?_
    rintro e w1 ⟨rfl, h1, hc1⟩
    have HF := Lib.hid (rfail_done x B a 201 203 w1 h1)
    have HRW := Lib.hid (rraw_done x a 0 B 201 w1 h1)
    go_wp2_with fail
    refine HF.out.mono ?_
    rintro e w2 ⟨rfl, rfl⟩
    go_wp2_with fail
    refine HRW.out.mono ?_
    rintro e w2 ⟨rfl, rfl⟩
    go_wp2
    go_ret
    exact ⟨rfl, h1, hc1⟩
set_option maxHeartbeats 1000000 in
theorem rtext_long (x a : Nat) (most : Int) (B : ByteArray) (hB : B.size ≤ 1048576) (hn : a + 2 ≤ B.size) (V : Nat) (hV : V = numL ((B.data.toList.drop a).take 2)) (hm : most < (V : Int)) (w : World) (h : Rye w x B a false 0) :
    Calls Tryd.prog 52 #[.pointer (some ⟨x, 0, none⟩), .int .i64 most] w fun e w' => e = .returned (.string ⟨#[]⟩) ∧ Rye w' x B (a + 2) true 203 ∧ Chg (· = x) w w' := by
  have h2 := rnum_ok x a 2 B hB (by omega) (by omega) hn w h
  rw [← hV] at h2
  have HN := Lib.hid h2
  clear h hn h2 hV
  go_enter Tryd.func52, Tryd.ntmps52
  go_wp2_with fail
  refine HN.out.mono ?_
  rintro e w1 ⟨rfl, h1, hc1⟩
  have HF := Lib.hid (rfail_any x B (a + 2) 203 w1 h1)
  go_wp2_with fail
  refine HF.out.mono ?_
  rintro e w2 ⟨rfl, h2, hc2⟩
  have HRW := Lib.hid (rraw_done x (a + 2) V B 203 w2 h2)
  go_wp2_with fail
  refine HRW.out.mono ?_
  rintro e w3 ⟨rfl, rfl⟩
  go_wp2
  go_ret
  exact ⟨rfl, h2, hc1.trans hc2⟩
set_option maxHeartbeats 1000000 in
theorem rtext_in (x a : Nat) (most : Int) (B : ByteArray) (hB : B.size ≤ 1048576) (hn : a + 2 ≤ B.size) (V : Nat) (hV : V = numL ((B.data.toList.drop a).take 2)) (hm : (V : Int) ≤ most) (w : World) (h : Rye w x B a false 0) :
    Calls Tryd.prog 52 #[.pointer (some ⟨x, 0, none⟩), .int .i64 most] w (RDid (.string ⟨#[]⟩) (gotRaw (B.extract (a + 2) B.size) V) x B w) := by
  have h2 := rnum_ok x a 2 B hB (by omega) (by omega) hn w h
  rw [← hV] at h2
  have HN := Lib.hid h2
  have HG := Lib.hid (fun W h => rraw_got x (a + 2) (V : Int) B hB hn W h)
  have dm : ¬ most < (V : Int) := by omega
  clear h hn h2 hV
  go_enter Tryd.func52, Tryd.ntmps52
  go_wp2_with fail
  refine HN.out.mono ?_
  rintro e w1 ⟨rfl, h1, hc1⟩
  have HC1 := Lib.hid hc1
  have HG1 := Lib.hid (HG.out _ h1)
  clear h1 hc1 HG
  go_wp2_with fail
  refine HG1.out.mono ?_
  intro e w2 hd
  cases hg : gotRaw (B.extract (a + 2) B.size) V with
  | num v r =>
    unfold gotRaw at hg
    split at hg <;> cases hg
  | txt t r =>
    rw [hg] at hd
    obtain ⟨a2, rfl, ha2, hr2, h2, hc2⟩ := hd
    go_wp2
    go_ret
    unfold RDid
    simp only [hg]
    exact ⟨a2, rfl, ha2, hr2, h2, HC1.out.trans hc2⟩
  | bad r y =>
    rw [hg] at hd
    obtain ⟨a2, rfl, h2, hc2⟩ := hd
    go_wp2
    go_ret
    unfold RDid
    simp only [hg]
    exact ⟨a2, rfl, h2, HC1.out.trans hc2⟩
theorem rtext_got (x a : Nat) (most : Int) (B : ByteArray) (hB : B.size ≤ 1048576) (ha : a ≤ B.size) (w : World) (h : Rye w x B a false 0) :
    Calls Tryd.prog 52 #[.pointer (some ⟨x, 0, none⟩), .int .i64 most] w (RDid (.string ⟨#[]⟩) (gotText (B.extract a B.size) most) x B w) := by
  have hz := ext_size B a ha
  unfold gotText
  by_cases h2 : 2 ≤ (B.extract a B.size).size
  · have hn : a + 2 ≤ B.size := by rw [hz] at h2; omega
    rw [if_pos h2, ext_list]
    by_cases hm : ((numL ((B.data.toList.drop a).take 2) : Nat) : Int) ≤ most
    · rw [if_pos hm]
      have h3 := rtext_in x a most B hB hn _ rfl hm w h
      generalize numL ((B.data.toList.drop a).take 2) = V at *
      rw [ext_ext B a 2 ha]
      unfold gotRaw at h3
      rw [ext_size B (a + 2) hn] at h3 ⊢
      by_cases hc : 2 + V ≤ (B.extract a B.size).size
      · rw [if_pos hc]
        rw [if_pos (by rw [hz] at hc; omega)] at h3
        exact h3
      · rw [if_neg hc]
        rw [if_neg (by rw [hz] at hc; omega)] at h3
        exact h3
    · rw [if_neg hm]
      refine (rtext_long x a most B hB hn _ rfl (by omega) w h).mono ?_
      rintro e w' ⟨rfl, h3, hc⟩
      exact ⟨a + 2, rfl, h3, hc⟩
  · rw [if_neg h2]
    refine (rtext_short x a most B hB ha (by rw [hz] at h2; omega) w h).mono ?_
    rintro e w' ⟨rfl, h3, hc⟩
    exact ⟨a, rfl, h3, hc⟩
end Go.Proofs.YtfjmcklmoebnaaaDoor.Ry
