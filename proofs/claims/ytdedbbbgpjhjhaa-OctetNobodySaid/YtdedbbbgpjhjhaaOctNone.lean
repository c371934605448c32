/- Of noughts none is another number, of empty texts none is another text: slices.ContainsFunc. -/
import Derived.Test.YtdedbbbgpjhjhaaOctLooks
namespace Go.Proofs.Ytdedbbbgpjhjhaa.Oct
open Go.RowKit

theorem rep_cell {w : World} {B : Nat} {e : TypeId} {g c p : Nat} {z : Value} (h : w.ownsRow B e 1 (.slice (some ⟨g, 0, none⟩) p c) p (List.replicate p z)) {j : Nat} (hj : j < p) : w.cell? ⟨g, j, none⟩ = some z := by
  have := World.ownsRow.cells h (g := g) rfl j z (by rw [List.getElem?_replicate]; simp [hj])
  have ha : (⟨g, 0, none⟩ : Addr).add j = ⟨g, j, none⟩ := by
    unfold Addr.add
    split
    · next h => rw [h]
    · simp
  rw [ha] at this
  exact this
theorem idx_i (f : FuncId) (henter : ∀ (args : Array Value) (W : World), (callFunc f args).run Try.prog W = .ok (.enter f args) W)
    (hf : ∀ W, Calls Try.prog f #[.int .i64 0] W fun x W' => x = .returned (.bool false) ∧ W = W') (v : Value) (B p : Nat) (hp : p ≤ 1000) (w : World) (h : Noughts w B v p) :
    Calls Try.prog 57 #[v, .func (.func f) #[] #[]] w fun x w' => x = .returned (.int .i64 (-1)) ∧ w = w' := by
  rcases h.2 with ⟨rfl, rfl⟩ | ⟨g, c, cur, rfl, _, _⟩
  · clear h
    go_enter Try.func57, Try.ntmps57
    go_wp2
    go_loop [8] (fun i => i = .int .i64 0) (fun _ => 0)
    case atStart => rfl
    case round =>
      subst hrel
      go_wp2
      go_ret
      exact ⟨rfl, rfl⟩
  · have HF := Lib.hid hf
    have HC := Lib.hid (fun (j : Nat) (hj : j < p) => rep_cell h hj)
    clear h hf
    go_enter Try.func57, Try.ntmps57
    go_wp2
    go_loop [8] (fun i => ∃ j : Nat, j ≤ p ∧ i = .int .i64 j) (fun i => p - (intOf i).toNat)
    case atStart => exact ⟨0, Nat.zero_le _, rfl⟩
    case round =>
      obtain ⟨j, hj, rfl⟩ := hrel
      by_cases hlt : j < p
      · have hc := HC.out j hlt
        go_wp2_with fail
        refine (HF.out _).mono ?_
        rintro x w' ⟨rfl, rfl⟩
        go_wp2
        go_round
        case rel => exact ⟨j + 1, by omega, by go_num⟩
        case measure => simp [intOf]; omega
      · obtain rfl : j = p := by omega
        go_wp2
        go_ret
        exact ⟨rfl, rfl⟩
theorem cont_i (f : FuncId) (henter : ∀ (args : Array Value) (W : World), (callFunc f args).run Try.prog W = .ok (.enter f args) W)
    (hf : ∀ W, Calls Try.prog f #[.int .i64 0] W fun x W' => x = .returned (.bool false) ∧ W = W') (v : Value) (B p : Nat) (hp : p ≤ 1000) (w : World) (h : Noughts w B v p) :
    Calls Try.prog 24 #[v, .func (.func f) #[] #[]] w fun x w' => x = .returned (.bool false) ∧ w = w' := by
  have HI := Lib.hid (idx_i f henter hf v B p hp w h)
  clear hf h
  go_enter Try.func24, Try.ntmps24
  go_wp2_with fail
  refine HI.out.mono ?_
  rintro x w' ⟨rfl, rfl⟩
  go_wp2
  go_ret
  exact ⟨rfl, rfl⟩
theorem idx_s (f : FuncId) (henter : ∀ (args : Array Value) (W : World), (callFunc f args).run Try.prog W = .ok (.enter f args) W)
    (hf : ∀ W, Calls Try.prog f #[.string ⟨#[]⟩] W fun x W' => x = .returned (.bool false) ∧ W = W') (v : Value) (B p : Nat) (hp : p ≤ 1000) (w : World) (h : Empties w B v p) :
    Calls Try.prog 58 #[v, .func (.func f) #[] #[]] w fun x w' => x = .returned (.int .i64 (-1)) ∧ w = w' := by
  rcases h.2 with ⟨rfl, rfl⟩ | ⟨g, c, cur, rfl, _, _⟩
  · clear h
    go_enter Try.func58, Try.ntmps58
    go_wp2
    go_loop [8] (fun i => i = .int .i64 0) (fun _ => 0)
    case atStart => rfl
    case round =>
      subst hrel
      go_wp2
      go_ret
      exact ⟨rfl, rfl⟩
  · have HF := Lib.hid hf
    have HC := Lib.hid (fun (j : Nat) (hj : j < p) => rep_cell h hj)
    clear h hf
    go_enter Try.func58, Try.ntmps58
    go_wp2
    go_loop [8] (fun i => ∃ j : Nat, j ≤ p ∧ i = .int .i64 j) (fun i => p - (intOf i).toNat)
    case atStart => exact ⟨0, Nat.zero_le _, rfl⟩
    case round =>
      obtain ⟨j, hj, rfl⟩ := hrel
      by_cases hlt : j < p
      · have hc := HC.out j hlt
        go_wp2_with fail
        refine (HF.out _).mono ?_
        rintro x w' ⟨rfl, rfl⟩
        go_wp2
        go_round
        case rel => exact ⟨j + 1, by omega, by go_num⟩
        case measure => simp [intOf]; omega
      · obtain rfl : j = p := by omega
        go_wp2
        go_ret
        exact ⟨rfl, rfl⟩
theorem cont_s (f : FuncId) (henter : ∀ (args : Array Value) (W : World), (callFunc f args).run Try.prog W = .ok (.enter f args) W)
    (hf : ∀ W, Calls Try.prog f #[.string ⟨#[]⟩] W fun x W' => x = .returned (.bool false) ∧ W = W') (v : Value) (B p : Nat) (hp : p ≤ 1000) (w : World) (h : Empties w B v p) :
    Calls Try.prog 26 #[v, .func (.func f) #[] #[]] w fun x w' => x = .returned (.bool false) ∧ w = w' := by
  have HI := Lib.hid (idx_s f henter hf v B p hp w h)
  clear hf h
  go_enter Try.func26, Try.ntmps26
  go_wp2_with fail
  refine HI.out.mono ?_
  rintro x w' ⟨rfl, rfl⟩
  go_wp2
  go_ret
  exact ⟨rfl, rfl⟩
theorem nob1 (W : World) : Calls Try.prog 32 #[.int .i64 0] W fun x W' => x = .returned (.bool false) ∧ W = W' := by
  go_enter Try.func32, Try.ntmps32
  go_wp2
  go_ret
  exact ⟨rfl, rfl⟩
theorem nob2 (W : World) : Calls Try.prog 33 #[.string ⟨#[]⟩] W fun x W' => x = .returned (.bool false) ∧ W = W' := by
  go_enter Try.func33, Try.ntmps33
  go_wp2
  go_ret
  exact ⟨rfl, rfl⟩
theorem ent1 (args : Array Value) (W : World) : (callFunc 32 args).run Try.prog W = .ok (.enter 32 args) W := by kernel_rfl
theorem ent2 (args : Array Value) (W : World) : (callFunc 33 args).run Try.prog W = .ok (.enter 33 args) W := by kernel_rfl
theorem func_nil (w : World) : (binOp .neq 44 .nilFunc .nilFunc).run Try.prog w = .ok (.bool false) w := by kernel_rfl
set_option maxRecDepth 100000 in
/-- Looking by nobody. -/
theorem read_nil (A : Option Addr) (n cap : Nat) (l : List UInt8) (w : World) (h : RowB w A n l) :
    Calls Try.prog 18 #[.slice A n cap, .nilFunc] w fun e w' => e = .returned (.int .i64 (why ⟨l.toArray⟩ false 0)) ∧ Below w.heap.size w w' := by
  have kc : (convert 22 9 (.slice A n cap)).run Try.prog (w.alloc (.cells #[.int .i64 0] 31)) = .ok (.string ⟨l.toArray⟩) (w.alloc (.cells #[.int .i64 0] 31)) :=
    conv_RowB _ A n cap l (h.below ((Below.refl _ w).alloc (Nat.le_refl _) _))
  have hne := func_nil
  have H1 := Has.fresh w 31 #[.int .i64 0]
  have hs : Sight (((w.alloc (.cells #[.int .i64 0] 31)).alloc (.cells #[.string ⟨l.toArray⟩, .bool false, .int .i64 0] 77)).alloc (.cells #[.pointer (some ⟨w.heap.size + 1, 0, none⟩)] 57)) (w.heap.size + 1) ⟨l.toArray⟩ false 0 := by
    have h := Has.fresh (w.alloc (.cells #[.int .i64 0] 31)) 77 #[.string ⟨l.toArray⟩, .bool false, .int .i64 0]
    rw [World.size_alloc] at h
    exact h.past _
  have ha : Has (((w.alloc (.cells #[.int .i64 0] 31)).alloc (.cells #[.string ⟨l.toArray⟩, .bool false, .int .i64 0] 77)).alloc (.cells #[.pointer (some ⟨w.heap.size + 1, 0, none⟩)] 57)) (w.heap.size + 2) 57 #[.pointer (some ⟨w.heap.size + 1, 0, none⟩)] := by
    have h := Has.fresh ((w.alloc (.cells #[.int .i64 0] 31)).alloc (.cells #[.string ⟨l.toArray⟩, .bool false, .int .i64 0] 77)) 57 #[.pointer (some ⟨w.heap.size + 1, 0, none⟩)]
    rw [World.size_alloc, World.size_alloc] at h
    exact h
  have he := (H1.past (.cells #[.string ⟨l.toArray⟩, .bool false, .int .i64 0] 77)).past (.cells #[.pointer (some ⟨w.heap.size + 1, 0, none⟩)] 57)
  have hbel : Below w.heap.size w (((w.alloc (.cells #[.int .i64 0] 31)).alloc (.cells #[.string ⟨l.toArray⟩, .bool false, .int .i64 0] 77)).alloc (.cells #[.pointer (some ⟨w.heap.size + 1, 0, none⟩)] 57)) :=
    (((Below.refl _ w).alloc (Nat.le_refl _) _).alloc (by simp) _).alloc (by simp; omega) _
  have HS := Lib.hid (And.intro hs (And.intro ha (And.intro he hbel)))
  clear h H1 hs ha he hbel
  go_enter_defers Try.func18, Try.ntmps18
  iterate 120 (try go_step)
  clear kc hne
  go_wp2
  refine leaves_cons (f := 54) (args := #[.pointer (some ⟨w.heap.size + 2, 0, none⟩), .pointer (some ⟨w.heap.size, 0, none⟩)]) (by simp) (by simp [go_sem]) ?_
  refine (catch_idle _ _ _ ⟨l.toArray⟩ false 0 0 _ HS.out.2.1 HS.out.1 HS.out.2.2.1 (by omega)).mono ?_
  rintro e u' w2 ⟨rfl, rfl, h2, g2⟩
  have c2 := Has.at_ h2 0
  simp at c2
  simp [Leaves, settle, results, Try.results18, go_sem, c2]
  have hB := HS.out.2.2.2
  refine hB.trans (g2.below hB.size fun k hk => by omega)
end Go.Proofs.Ytdedbbbgpjhjhaa.Oct
