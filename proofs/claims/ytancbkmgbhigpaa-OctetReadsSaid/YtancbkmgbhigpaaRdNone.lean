/- Of noughts none (the statement's own tests) is another number, of empty texts none is another text: slices.ContainsFunc. -/
import Derived.Test.YtancbkmgbhigpaaOctLooks
namespace Go.Proofs.Ytancbkmgbhigpaa.Oct
open Go.RowKit

theorem rep_cell {w : World} {B : Nat} {e : TypeId} {g c p : Nat} {z : Value} (h : w.ownsRow B e 1 (.slice (some ⟨g, 0, none⟩) p c) p (List.replicate p z)) {j : Nat} (hj : j < p) : w.cell? ⟨g, j, none⟩ = some z := by
  have := World.ownsRow.cells h (g := g) rfl j z (by rw [List.getElem?_replicate]; simp [hj])
  have ha : (⟨g, 0, none⟩ : Addr).add j = ⟨g, j, none⟩ := by
    unfold Addr.add
    split
    · next h => rw [h]
    · simp
  rw [ha] at this
  exact this
theorem idx_i (f : FuncId) (henter : ∀ (args : Array Value) (W : World), (callFunc f args).run Try.prog W = .ok (.enter f args) W)
    (hf : ∀ W, Calls Try.prog f #[.int .i64 0] W fun x W' => x = .returned (.bool false) ∧ W = W') (v : Value) (B p : Nat) (hp : p ≤ 1000) (w : World) (h : Noughts w B v p) :
    Calls Try.prog 33 #[v, .func (.func f) #[] #[]] w fun x w' => x = .returned (.int .i64 (-1)) ∧ w = w' := by
  rcases h.2 with ⟨rfl, rfl⟩ | ⟨g, c, cur, rfl, _, _⟩
  · clear h
    go_enter Try.func33, Try.ntmps33
    go_wp2
    go_loop [8] (fun i => i = .int .i64 0) (fun _ => 0)
    case atStart => rfl
    case round =>
      subst hrel
      go_wp2
      go_ret
      exact ⟨rfl, rfl⟩
  · have HF := Lib.hid hf
    have HC := Lib.hid (fun (j : Nat) (hj : j < p) => rep_cell h hj)
    clear h hf
    go_enter Try.func33, Try.ntmps33
    go_wp2
    go_loop [8] (fun i => ∃ j : Nat, j ≤ p ∧ i = .int .i64 j) (fun i => p - (intOf i).toNat)
    case atStart => exact ⟨0, Nat.zero_le _, rfl⟩
    case round =>
      obtain ⟨j, hj, rfl⟩ := hrel
      by_cases hlt : j < p
      · have hc := HC.out j hlt
        go_wp2_with fail
        refine (HF.out _).mono ?_
        rintro x w' ⟨rfl, rfl⟩
        go_wp2
        go_round
        case rel => exact ⟨j + 1, by omega, by go_num⟩
        case measure => simp [intOf]; omega
      · obtain rfl : j = p := by omega
        go_wp2
        go_ret
        exact ⟨rfl, rfl⟩
theorem cont_i (f : FuncId) (henter : ∀ (args : Array Value) (W : World), (callFunc f args).run Try.prog W = .ok (.enter f args) W)
    (hf : ∀ W, Calls Try.prog f #[.int .i64 0] W fun x W' => x = .returned (.bool false) ∧ W = W') (v : Value) (B p : Nat) (hp : p ≤ 1000) (w : World) (h : Noughts w B v p) :
    Calls Try.prog 13 #[v, .func (.func f) #[] #[]] w fun x w' => x = .returned (.bool false) ∧ w = w' := by
  have HI := Lib.hid (idx_i f henter hf v B p hp w h)
  clear hf h
  go_enter Try.func13, Try.ntmps13
  go_wp2_with fail
  refine HI.out.mono ?_
  rintro x w' ⟨rfl, rfl⟩
  go_wp2
  go_ret
  exact ⟨rfl, rfl⟩
theorem idx_s (f : FuncId) (henter : ∀ (args : Array Value) (W : World), (callFunc f args).run Try.prog W = .ok (.enter f args) W)
    (hf : ∀ W, Calls Try.prog f #[.string ⟨#[]⟩] W fun x W' => x = .returned (.bool false) ∧ W = W') (v : Value) (B p : Nat) (hp : p ≤ 1000) (w : World) (h : Empties w B v p) :
    Calls Try.prog 34 #[v, .func (.func f) #[] #[]] w fun x w' => x = .returned (.int .i64 (-1)) ∧ w = w' := by
  rcases h.2 with ⟨rfl, rfl⟩ | ⟨g, c, cur, rfl, _, _⟩
  · clear h
    go_enter Try.func34, Try.ntmps34
    go_wp2
    go_loop [8] (fun i => i = .int .i64 0) (fun _ => 0)
    case atStart => rfl
    case round =>
      subst hrel
      go_wp2
      go_ret
      exact ⟨rfl, rfl⟩
  · have HF := Lib.hid hf
    have HC := Lib.hid (fun (j : Nat) (hj : j < p) => rep_cell h hj)
    clear h hf
    go_enter Try.func34, Try.ntmps34
    go_wp2
    go_loop [8] (fun i => ∃ j : Nat, j ≤ p ∧ i = .int .i64 j) (fun i => p - (intOf i).toNat)
    case atStart => exact ⟨0, Nat.zero_le _, rfl⟩
    case round =>
      obtain ⟨j, hj, rfl⟩ := hrel
      by_cases hlt : j < p
      · have hc := HC.out j hlt
        go_wp2_with fail
        refine (HF.out _).mono ?_
        rintro x w' ⟨rfl, rfl⟩
        go_wp2
        go_round
        case rel => exact ⟨j + 1, by omega, by go_num⟩
        case measure => simp [intOf]; omega
      · obtain rfl : j = p := by omega
        go_wp2
        go_ret
        exact ⟨rfl, rfl⟩
theorem cont_s (f : FuncId) (henter : ∀ (args : Array Value) (W : World), (callFunc f args).run Try.prog W = .ok (.enter f args) W)
    (hf : ∀ W, Calls Try.prog f #[.string ⟨#[]⟩] W fun x W' => x = .returned (.bool false) ∧ W = W') (v : Value) (B p : Nat) (hp : p ≤ 1000) (w : World) (h : Empties w B v p) :
    Calls Try.prog 15 #[v, .func (.func f) #[] #[]] w fun x w' => x = .returned (.bool false) ∧ w = w' := by
  have HI := Lib.hid (idx_s f henter hf v B p hp w h)
  clear hf h
  go_enter Try.func15, Try.ntmps15
  go_wp2_with fail
  refine HI.out.mono ?_
  rintro x w' ⟨rfl, rfl⟩
  go_wp2
  go_ret
  exact ⟨rfl, rfl⟩
theorem nob1 (W : World) : Calls Try.prog 14 #[.int .i64 0] W fun x W' => x = .returned (.bool false) ∧ W = W' := by
  go_enter Try.func14, Try.ntmps14
  go_wp2
  go_ret
  exact ⟨rfl, rfl⟩
theorem nob2 (W : World) : Calls Try.prog 16 #[.string ⟨#[]⟩] W fun x W' => x = .returned (.bool false) ∧ W = W' := by
  go_enter Try.func16, Try.ntmps16
  go_wp2
  go_ret
  exact ⟨rfl, rfl⟩
theorem ent1 (args : Array Value) (W : World) : (callFunc 14 args).run Try.prog W = .ok (.enter 14 args) W := by kernel_rfl
theorem ent2 (args : Array Value) (W : World) : (callFunc 16 args).run Try.prog W = .ok (.enter 16 args) W := by kernel_rfl
end Go.Proofs.Ytancbkmgbhigpaa.Oct
