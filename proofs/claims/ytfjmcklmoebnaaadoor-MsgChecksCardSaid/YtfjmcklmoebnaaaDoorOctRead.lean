/- Read: the deferred end of a looking, and a looking that comes to its end without a throw. -/
import Derived.Test.YtfjmcklmoebnaaaDoorOctMem
import Derived.WalkMore
import Derived.Laws.BytesArg
import Derived.Laws.IdiomStrings
namespace Go.Proofs.YtfjmcklmoebnaaaDoor.Oct
open Go.RowKit

theorem go_step_ready (md : Region.Mode) (ops : Array Oper) (fuel t : Nat) (listed : Array Bool) (acc rs : List Nat) (i : Nat) (hr : Region.ready md ops listed = rs) (hi : rs[t % rs.length]? = some i) :
    Region.linearise.go md ops (fuel + 1) t listed acc = Region.linearise.go md ops fuel (t / rs.length) (listed.setIfInBounds i true) (i :: acc) := by
  unfold Region.ready at hr
  simp only [Region.linearise.go]
  rw [hr, hi]
/-- A region of four operations of which the first two stand in either order. -/
theorem sched_two (ops : Array Oper) (h4 : ops.size = 4) (r0 : Region.ready .any ops #[false, false, false, false] = [0, 1]) (r1 : Region.ready .any ops #[true, false, false, false] = [1])
    (r2 : Region.ready .any ops #[false, true, false, false] = [0]) (r3 : Region.ready .any ops #[true, true, false, false] = [2]) (r4 : Region.ready .any ops #[true, true, true, false] = [3]) (t : Nat) :
    Region.schedule true ops t = [0, 1, 2, 3] ∨ Region.schedule true ops t = [1, 0, 2, 3] := by
  have hs : Region.schedule true ops t = Region.linearise.go .any ops 4 t #[false, false, false, false] [] := by
    unfold Region.schedule Region.linearise
    simp only [Bool.true_or, if_true]
    rw [h4]
    rfl
  rw [hs]
  rcases Nat.mod_two_eq_zero_or_one t with h | h
  · left
    rw [go_step_ready .any ops 3 t _ [] [0, 1] 0 r0 (by show [0, 1][t % 2]? = _; rw [h]; rfl)]
    show Region.linearise.go .any ops 3 (t / 2) #[true, false, false, false] [0] = _
    rw [go_step_ready .any ops 2 _ _ [0] [1] 1 r1 (by show [1][t / 2 % 1]? = _; rw [Nat.mod_one]; rfl)]
    show Region.linearise.go .any ops 2 (t / 2 / 1) #[true, true, false, false] [1, 0] = _
    rw [go_step_ready .any ops 1 _ _ [1, 0] [2] 2 r3 (by show [2][t / 2 / 1 % 1]? = _; rw [Nat.mod_one]; rfl)]
    show Region.linearise.go .any ops 1 (t / 2 / 1 / 1) #[true, true, true, false] [2, 1, 0] = _
    rw [go_step_ready .any ops 0 _ _ [2, 1, 0] [3] 3 r4 (by show [3][t / 2 / 1 / 1 % 1]? = _; rw [Nat.mod_one]; rfl)]
    rfl
  · right
    rw [go_step_ready .any ops 3 t _ [] [0, 1] 1 r0 (by show [0, 1][t % 2]? = _; rw [h]; rfl)]
    show Region.linearise.go .any ops 3 (t / 2) #[false, true, false, false] [1] = _
    rw [go_step_ready .any ops 2 _ _ [1] [0] 0 r2 (by show [0][t / 2 % 1]? = _; rw [Nat.mod_one]; rfl)]
    show Region.linearise.go .any ops 2 (t / 2 / 1) #[true, true, false, false] [0, 1] = _
    rw [go_step_ready .any ops 1 _ _ [0, 1] [2] 2 r3 (by show [2][t / 2 / 1 % 1]? = _; rw [Nat.mod_one]; rfl)]
    show Region.linearise.go .any ops 1 (t / 2 / 1 / 1) #[true, true, true, false] [2, 0, 1] = _
    rw [go_step_ready .any ops 0 _ _ [2, 0, 1] [3] 3 r4 (by show [3][t / 2 / 1 / 1 % 1]? = _; rw [Nat.mod_one]; rfl)]
    rfl
theorem wpS_region_two {P : Program} {id : Nat} {ops : Array Oper} {Q : Exit → Act → List Frame → World → Prop} {a : Act} {cs : List Frame} {w : World} (hm : P.follows .mixedOrders = true)
    (h4 : ops.size = 4) (r0 : Region.ready .any ops #[false, false, false, false] = [0, 1]) (r1 : Region.ready .any ops #[true, false, false, false] = [1])
    (r2 : Region.ready .any ops #[false, true, false, false] = [0]) (r3 : Region.ready .any ops #[true, true, false, false] = [2]) (r4 : Region.ready .any ops #[true, true, true, false] = [3])
    (ha : wpOpsS P ops Q [0, 1, 2, 3] a cs w.drew) (hb : wpOpsS P ops Q [1, 0, 2, 3] a cs w.drew) : (Code.region id ops true).wpS P Q a cs w := by
  apply wpS_region_draw
  intro t
  rw [hm]
  rcases sched_two ops h4 r0 r1 r2 r3 r4 t with h | h
  · rw [h]; exact ha
  · rw [h]; exact hb

theorem catch_idle (a e0 s : Nat) (r : ByteArray) (b : Bool) (y z : Int) (w : World) (ha : Has w a 89 #[.pointer (some ⟨s, 0, none⟩)]) (hs : Sight w s r b y) (he : Has w e0 29 #[.int .i64 z]) (hse : s ≠ e0) :
    CallsD Tryd.prog 66 #[.pointer (some ⟨a, 0, none⟩), .pointer (some ⟨e0, 0, none⟩)] .returning w fun e u' w' =>
      e = .returned (.tuple #[]) ∧ u' = .returning ∧ Has w' e0 29 #[.int .i64 (why r b y)] ∧ Chg (fun k => k = s ∨ k = e0) w w' := by
  have ca := Has.at_ ha 0
  simp at ca
  refine callsD_of_wpS Tryd.func66 rfl fun c₀ cs hu => ?_
  refine wpS_region_two (by kernel_rfl) (by kernel_rfl) (by kernel_rfl) (by kernel_rfl) (by kernel_rfl) (by kernel_rfl) (by kernel_rfl) ?_ ?_
  all_goals
    simp [wpOpsS, go_sem, recoverD, hu, Tryd.ntmps66, ca]
    refine (close_any s r b y _ (Has.drew hs)).mono ?_
    rintro e w1 ⟨rfl, h1, g1⟩
    have he1 : Has w1 e0 29 #[.int .i64 z] := (Has.drew he).over g1 (fun k => hse k.symm)
    have c1 := Has.at_ he1 0
    have f1 := Has.free he1 0
    simp at c1
    simp [go_sem, c1, f1, bodyPostS, results, Tryd.results66]
    refine ⟨.returning, by rw [← hu], rfl, Has.put he1 0 _, ?_⟩
    exact ((((Chg.refl (fun k => k = s ∨ k = e0) w).drew).trans (g1.mono (fun k hk => Or.inl hk))).setCell (p := ⟨e0, 0, none⟩) (.inl (Or.inr rfl)) _)

/-- Bytes that came in, or of the call's own: the slice's cells are these. -/
def RowB (w : World) (A : Option Addr) (n : Nat) (l : List UInt8) : Prop :=
  l.length = n ∧ (0 < n → ∃ b off, A = some ⟨b, off, none⟩ ∧ b < w.heap.size ∧ ∀ i (h : i < l.length), w.cell? ⟨b, off + i, none⟩ = some (.int .u8 (l[i].toNat : Int)))
theorem RowB.chg {S : Nat → Prop} {w w' : World} {A : Option Addr} {n : Nat} {l : List UInt8} (h : RowB w A n l) (hc : Chg S w w') (hs : ∀ b off, A = some ⟨b, off, none⟩ → ¬ S b) : RowB w' A n l :=
  ⟨h.1, fun hn => by
    obtain ⟨b, off, e, hb, hx⟩ := h.2 hn
    exact ⟨b, off, e, Nat.lt_of_lt_of_le hb hc.size, fun i hi => (World.cell?_of_block (hc.block b hb (hs b off e))).trans (hx i hi)⟩⟩
theorem RowB.below {w w' : World} {A : Option Addr} {n : Nat} {l : List UInt8} (h : RowB w A n l) (hb : Below w.heap.size w w') : RowB w' A n l :=
  ⟨h.1, fun hn => by
    obtain ⟨b, off, e, hl, hx⟩ := h.2 hn
    exact ⟨b, off, e, Nat.lt_of_lt_of_le hl hb.size, fun i hi => (hb.cell (p := ⟨b, off + i, none⟩) hl).trans (hx i hi)⟩⟩
theorem conv_RowB (w : World) (A : Option Addr) (n cap : Nat) (l : List UInt8) (h : RowB w A n l) :
    (convert 41 9 (.slice A n cap)).run Tryd.prog w = .ok (.string ⟨l.toArray⟩) w := by
  obtain ⟨hl, hr⟩ := h
  subst hl
  cases hA : A with
  | none =>
    have h0 : l = [] := by
      cases l with
      | nil => rfl
      | cons x l =>
        obtain ⟨b, off, e, _⟩ := hr (by simp)
        rw [hA] at e
        cases e
    subst h0
    exact run_convert_bytes_nil (P := Tryd.prog) w 41 5 Tryd.underlying41 Tryd.underlying5 _ _ 9 Tryd.underlying9
  | some ad =>
    refine run_convert_bytes_back (P := Tryd.prog) w 41 9 5 ad cap l Tryd.underlying41 Tryd.underlying5 Tryd.underlying9 ?_
    intro j hj
    obtain ⟨b, off, e, _, hx⟩ := hr (by omega)
    rw [hA] at e
    injection e with e
    subst e
    have ha : (⟨b, off, none⟩ : Addr).add j = ⟨b, off + j, none⟩ := by
      unfold Addr.add
      split
      · next h => rw [h]; rfl
      · rfl
    rw [ha]
    exact hx j hj

theorem func_ne (f : FuncId) (cp : Array Value) (w : World) : (binOp .neq 65 (.func (.func f) #[] cp) .nilFunc).run Tryd.prog w = .ok (.bool true) w := by kernel_rfl
/-- The world in which a looking begins. -/
def lookW (w : World) (l : List UInt8) : World :=
  (((w.alloc (.cells #[.int .i64 0] 29)).alloc (.cells #[.string ⟨l.toArray⟩, .bool false, .int .i64 0] 91)).alloc (.cells #[.pointer (some ⟨w.heap.size + 1, 0, none⟩)] 89)).alloc (.cells #[.pointer (some ⟨w.heap.size + 1, 0, none⟩)] 94)
theorem lookW_size (w : World) (l : List UInt8) : (lookW w l).heap.size = w.heap.size + 4 := by simp [lookW]
theorem lookW_err (w : World) (l : List UInt8) : Has (lookW w l) w.heap.size 29 #[.int .i64 0] := (((Has.fresh w _ _).past _).past _).past _
theorem lookW_sight (w : World) (l : List UInt8) : Sight (lookW w l) (w.heap.size + 1) ⟨l.toArray⟩ false 0 := by
  have h := Has.fresh (w.alloc (.cells #[.int .i64 0] 29)) 91 #[.string ⟨l.toArray⟩, .bool false, .int .i64 0]
  rw [World.size_alloc] at h
  exact (h.past _).past _
theorem lookW_at (w : World) (l : List UInt8) : Has (lookW w l) (w.heap.size + 2) 89 #[.pointer (some ⟨w.heap.size + 1, 0, none⟩)] := by
  have h := Has.fresh ((w.alloc (.cells #[.int .i64 0] 29)).alloc (.cells #[.string ⟨l.toArray⟩, .bool false, .int .i64 0] 91)) 89 #[.pointer (some ⟨w.heap.size + 1, 0, none⟩)]
  rw [World.size_alloc, World.size_alloc] at h
  exact h.past _
theorem lookW_eye (w : World) (l : List UInt8) : Has (lookW w l) (w.heap.size + 3) 94 #[.pointer (some ⟨w.heap.size + 1, 0, none⟩)] := by
  have h := Has.fresh (((w.alloc (.cells #[.int .i64 0] 29)).alloc (.cells #[.string ⟨l.toArray⟩, .bool false, .int .i64 0] 91)).alloc (.cells #[.pointer (some ⟨w.heap.size + 1, 0, none⟩)] 89)) 94 #[.pointer (some ⟨w.heap.size + 1, 0, none⟩)]
  rw [World.size_alloc, World.size_alloc, World.size_alloc] at h
  exact h
theorem lookW_below (w : World) (l : List UInt8) : Below w.heap.size w (lookW w l) :=
  ((((Below.refl _ w).alloc (Nat.le_refl _) _).alloc (by simp) _).alloc (by simp; omega) _).alloc (by simp; omega) _

/-- Read, of a look that comes to its end: what it leaves (G), and the answer. -/
theorem read_look (A : Option Addr) (n cap : Nat) (l : List UInt8) (f : FuncId) (cp : Array Value) (w : World) (h : RowB w A n l)
    (henter : ∀ (args : Array Value) (W : World), (callFunc f args).run Tryd.prog W = .ok (.enter f args) W) (X : Nat → Prop) (hX0 : ¬ X w.heap.size) (hX2 : ¬ X (w.heap.size + 2))
    (G : ByteArray → Bool → Int → World → Prop)
    (hlook : Calls Tryd.prog f (#[.pointer (some ⟨w.heap.size + 3, 0, none⟩)] ++ cp) (lookW w l) fun e w1 => e = .returned (.tuple #[]) ∧ ∃ r b y, Sight w1 (w.heap.size + 1) r b y ∧ Chg (fun k => k = w.heap.size + 1 ∨ X k) (lookW w l) w1 ∧ G r b y w1) :
    Calls Tryd.prog 45 #[.slice A n cap, .func (.func f) #[] cp] w fun e w' =>
      ∃ r b y w1, G r b y w1 ∧ e = .returned (.int .i64 (why r b y)) ∧ Chg (fun k => k = w.heap.size + 1 ∨ X k) (lookW w l) w1 ∧ Chg (fun k => k = w.heap.size + 1 ∨ k = w.heap.size) w1 w' := by
  have hmf : ∀ (fn : Fn) (first cap : Array Value) (w : World), (Instr.makeFunc fn first cap).run Tryd.prog w = .ok (.func fn first cap) w := fun _ _ _ _ => rfl
  have kc : (convert 41 9 (.slice A n cap)).run Tryd.prog (w.alloc (.cells #[.int .i64 0] 29)) = .ok (.string ⟨l.toArray⟩) (w.alloc (.cells #[.int .i64 0] 29)) :=
    conv_RowB _ A n cap l (h.below ((Below.refl _ w).alloc (Nat.le_refl _) _))
  have hne := func_ne f cp
  have HL := Lib.hid hlook
  clear hlook h
  unfold lookW at HL
  go_enter_defers Tryd.func45, Tryd.ntmps45
  iterate 120 (try go_step)
  refine HL.out.mono ?_
  rintro e w1 ⟨rfl, r, b, y, hs, hc, hG⟩
  have ha := (lookW_at w l).over hc (fun k => k.elim (fun k => by omega) hX2)
  have he := (lookW_err w l).over hc (fun k => k.elim (fun k => by omega) hX0)
  clear HL kc hne henter
  go_wp2
  refine leaves_cons (f := 66) (args := #[.pointer (some ⟨w.heap.size + 2, 0, none⟩), .pointer (some ⟨w.heap.size, 0, none⟩)]) (by simp) (by simp [go_sem]) ?_
  refine (catch_idle _ _ _ r b y 0 w1 ha hs he (by omega)).mono ?_
  rintro e u' w2 ⟨rfl, rfl, h2, g2⟩
  have c2 := Has.at_ h2 0
  simp at c2
  simp [Leaves, settle, results, Tryd.results45, go_sem, c2]
  cases b with
  | false => exact ⟨r, .inl ⟨y, w1, hG, rfl, hc, g2⟩⟩
  | true => exact ⟨r, .inr ⟨y, w1, hG, rfl, hc, g2⟩⟩
end Go.Proofs.YtfjmcklmoebnaaaDoor.Oct
