/- A store in memory, and what its parts answer. -/
import Derived.Test.YtidkckapjelbmaaStG
import Derived.Test.YtidkckapjelbmaaDevE
namespace Go.Proofs.Ytidkckapjelbmaa.Sto
open Go.RowKit
open Oct (Has Chg)
open Rws
open Mem (IMap)

/-- What a store knows of a block that is there. -/
structure NodeV where
  kids : List Int
  high : Int
  named : Int
  held : Int
/-- A store: its last commit, its blocks, what is kept, its device. -/
structure SV where
  gen : Int
  root : Int
  note : ByteArray
  nodes : Int → Option NodeV
  kept : Int → Bool
  dev : Dv.St
/-- Where a store's parts stand. -/
structure Fr where
  t : Nat
  k : Nat
  d : Nat
  dk : Nat
  dd : Nat
  g : Int → Nat
def thereM (F : Fr) (f : Int → Option NodeV) : Int → Option Value := fun z => (f z).map fun _ => .pointer (some ⟨F.g z, 0, none⟩)
def keptM (f : Int → Bool) : Int → Option Value := fun z => if f z = true then some (.agg #[]) else none
def nodeC (n : NodeV) (A : Option Addr) (c : Nat) : Array Value := #[.slice A n.kids.length c, .int .i64 n.high, .int .i64 n.named, .int .i64 n.held]
/-- A node stands at a block. -/
def NodeIs (w : World) (g : Nat) (n : NodeV) : Prop := ∃ A c, Has w g 83 (nodeC n A c) ∧ OwnI w 0 (.slice A n.kids.length c) n.kids
/-- The store s stands at block p. -/
structure StoIs (w : World) (p : Nat) (F : Fr) (s : SV) : Prop where
  obj : Has w p 55 #[.int .i64 s.gen, .int .i64 s.root, .string s.note, .pointer (some ⟨F.d, 0, none⟩), .map (some F.t), .map (some F.k)]
  dev : Dv.DevIs w F.d F.dk F.dd s.dev
  there : IMap w F.t (thereM F s.nodes)
  kept : IMap w F.k (keptM s.kept)
  node : ∀ z n, s.nodes z = some n → NodeIs w (F.g z) n
  inj : ∀ z y, (s.nodes z).isSome = true → (s.nodes y).isSome = true → F.g z = F.g y → z = y
  tk : F.t ≠ F.k
  tdk : F.t ≠ F.dk
  tdd : F.t ≠ F.dd
  kdk : F.k ≠ F.dk
  kdd : F.k ≠ F.dd
theorem own_below {w w' : World} {b n : Nat} {e : TypeId} {v : Value} {xs : List Value} (h : w.ownsRow b e 1 v n xs) (hb : Below w.heap.size w w') : w'.ownsRow b e 1 v n xs := own_chg h (Chg.of_below hb (fun _ => False)) (fun _ _ h => h)
theorem NodeIs.below {w w' : World} {g : Nat} {n : NodeV} (h : NodeIs w g n) (hb : Below w.heap.size w w') : NodeIs w' g n := by
  obtain ⟨A, c, h1, h2⟩ := h
  exact ⟨A, c, h1.over (Chg.of_below hb (fun _ => False)) (fun h => h), own_below h2 hb⟩
theorem StoIs.below {w w' : World} {p : Nat} {F : Fr} {s : SV} (h : StoIs w p F s) (hb : Below w.heap.size w w') : StoIs w' p F s :=
  ⟨h.obj.over (Chg.of_below hb (fun _ => False)) (fun h => h), h.dev.below hb, h.there.below hb, h.kept.below hb, fun z n hz => (h.node z n hz).below hb, h.inj, h.tk, h.tdk, h.tdd, h.kdk, h.kdd⟩
theorem mapN : Try.prog.underlying 52 = some (.map 3 81) := Try.underlying52
theorem mapK : Try.prog.underlying 53 = some (.map 3 109) := Try.underlying53
theorem zero_node (w : World) : (zeroValue 81).run Try.prog w = .ok (.pointer none) w := by kernel_rfl
theorem zero_unit (w : World) : (zeroValue 109).run Try.prog w = .ok (.agg #[]) w := by kernel_rfl
theorem made_sto (p : Nat) (F : Fr) (s : SV) (w : World) (h : StoIs w p F s) :
    Calls Try.prog 33 #[.pointer (some ⟨p, 0, none⟩)] w fun e w' => e = .returned (.bool true) ∧ w = w' := by
  have c3 := Has.at_ h.obj 3
  simp at c3
  clear h
  go_enter Try.func33, Try.ntmps33
  go_wp2
  go_ret
  exact ⟨rfl, rfl⟩
theorem has_sto (p : Nat) (F : Fr) (s : SV) (i : Int) (w : World) (h : StoIs w p F s) :
    Calls Try.prog 34 #[.pointer (some ⟨p, 0, none⟩), .int .i64 i] w fun e w' => e = .returned (.bool (s.nodes i).isSome) ∧ w = w' := by
  have c4 := Has.at_ h.obj 4
  simp at c4
  have hl := (h.there.lookup mapN Dv.intT (.pointer none) zero_node i).2
  have e1 : (thereM F s.nodes i).isSome = (s.nodes i).isSome := by unfold thereM; cases s.nodes i <;> rfl
  rw [e1] at hl
  generalize (thereM F s.nodes i).getD (.pointer none) = v at hl
  generalize (s.nodes i).isSome = b at *
  clear h e1
  go_enter Try.func34, Try.ntmps34
  go_wp2
  go_ret
  exact ⟨rfl, rfl⟩
def freeB (s : SV) (i : Int) : Bool := !s.kept i && !(s.nodes i).isSome
theorem free_sto (p : Nat) (F : Fr) (s : SV) (i : Int) (w : World) (h : StoIs w p F s) :
    Calls Try.prog 53 #[.pointer (some ⟨p, 0, none⟩), .int .i64 i] w fun e w' => e = .returned (.bool (freeB s i)) ∧ Below w.heap.size w w' := by
  have c5 := Has.at_ h.obj 5
  simp at c5
  have hl := (h.kept.lookup mapK Dv.intT (.agg #[]) zero_unit i).2
  have e1 : (keptM s.kept i).isSome = s.kept i := by unfold keptM; cases s.kept i <;> rfl
  have e2 : (keptM s.kept i).getD (.agg #[]) = .agg #[] := by unfold keptM; cases s.kept i <;> rfl
  rw [e1, e2] at hl
  have HB := Lib.hid ((Below.refl w.heap.size w).alloc (Nat.le_refl _) (.cells #[] 109))
  have HH := Lib.hid (has_sto p F s i _ (h.below HB.out))
  have HF := Lib.hid (show freeB s i = (!s.kept i && !(s.nodes i).isSome) from rfl)
  clear h e1 e2
  rw [HF.out]
  generalize (s.nodes i).isSome = b at *
  cases hk : s.kept i with
  | true =>
    rw [hk] at hl
    go_enter Try.func53, Try.ntmps53
    go_wp2
    go_ret
    exact ⟨rfl, HB.out⟩
  | false =>
    rw [hk] at hl
    go_enter Try.func53, Try.ntmps53
    go_wp2_with fail
    refine HH.out.mono ?_
    rintro e w' ⟨rfl, rfl⟩
    go_wp2
    go_ret
    exact ⟨rfl, HB.out⟩
end Go.Proofs.Ytidkckapjelbmaa.Sto
