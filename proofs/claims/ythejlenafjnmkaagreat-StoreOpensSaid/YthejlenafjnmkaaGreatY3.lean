/- Whatever lies on a device: how high what hangs on a block is, and what loading it comes to. -/
import Derived.Test.YthejlenafjnmkaaGreatSwA
import Derived.Test.YthejlenafjnmkaaGreatY2

namespace Go.Proofs.YthejlenafjnmkaaGreat.Sto
open Go.RowKit
set_option linter.unusedVariables false

/-- The highest of all, if each has a height. -/
def maxO (f : Int → Option Nat) : List Int → Option Nat
  | [] => some 0
  | k :: l => (f k).bind fun a => (maxO f l).map fun b => max a b
/-- How high what hangs on a block is, if it ends within so many levels. -/
def hgt (g : Int → Option (List Int)) : Nat → Int → Option Nat
  | 0, _ => none
  | n + 1, z => (g z).bind fun ks => (maxO (hgt g n) ks).map (· + 1)
theorem hgt_inv {g : Int → Option (List Int)} {n h : Nat} {z : Int} (e : hgt g n z = some h) : ∃ m ks q, n = m + 1 ∧ g z = some ks ∧ maxO (hgt g m) ks = some q ∧ h = q + 1 := by
  cases n with
  | zero => cases e
  | succ m =>
    unfold hgt at e
    cases hg : g z with
    | none => rw [hg] at e; cases e
    | some ks =>
      rw [hg] at e
      have e : (maxO (hgt g m) ks).map (· + 1) = some h := e
      cases hq : maxO (hgt g m) ks with
      | none => rw [hq] at e; cases e
      | some q =>
        rw [hq] at e
        injection e with e
        exact ⟨m, ks, q, rfl, rfl, hq, e.symm⟩
theorem hgt_mk {g : Int → Option (List Int)} {m q : Nat} {z : Int} {ks : List Int} (hg : g z = some ks) (hq : maxO (hgt g m) ks = some q) : hgt g (m + 1) z = some (q + 1) := by
  unfold hgt
  rw [hg]
  show (maxO (hgt g m) ks).map (· + 1) = _
  rw [hq]
  rfl
theorem maxO_inv {f : Int → Option Nat} : ∀ {l : List Int} {q : Nat}, maxO f l = some q → ∀ k ∈ l, ∃ a, f k = some a ∧ a ≤ q
  | [], _, _, k, hk => by cases hk
  | x :: l, q, e, k, hk => by
    unfold maxO at e
    cases hx : f x with
    | none => rw [hx] at e; cases e
    | some a =>
      rw [hx] at e
      have e : (maxO f l).map (fun b => max a b) = some q := e
      cases hl : maxO f l with
      | none => rw [hl] at e; cases e
      | some b =>
        rw [hl] at e
        have e : max a b = q := Option.some.inj e
        rcases List.mem_cons.1 hk with e1 | e1
        · subst e1
          exact ⟨a, hx, by omega⟩
        · obtain ⟨c, h1, h2⟩ := maxO_inv hl k e1
          exact ⟨c, h1, by omega⟩
theorem maxO_mk {f : Int → Option Nat} : ∀ (l : List Int), (∀ k ∈ l, (f k).isSome = true) → ∃ q, maxO f l = some q
  | [], _ => ⟨0, rfl⟩
  | x :: l, h => by
    obtain ⟨a, ha⟩ := Option.isSome_iff_exists.1 (h x List.mem_cons_self)
    obtain ⟨b, hb⟩ := maxO_mk l fun k hk => h k (List.mem_cons_of_mem _ hk)
    refine ⟨max a b, ?_⟩
    unfold maxO
    rw [ha, hb]
    rfl
theorem maxO_same {f f' : Int → Option Nat} : ∀ (l : List Int), (∀ k ∈ l, f k = f' k) → maxO f l = maxO f' l
  | [], _ => rfl
  | x :: l, h => by
    unfold maxO
    rw [h x List.mem_cons_self, maxO_same l fun k hk => h k (List.mem_cons_of_mem _ hk)]
theorem maxO_least {f : Int → Option Nat} {B : Nat} : ∀ {l : List Int} {q : Nat}, maxO f l = some q → (∀ k ∈ l, ∀ a, f k = some a → a ≤ B) → q ≤ B
  | [], q, e, _ => by
    injection e with e
    omega
  | x :: l, q, e, h => by
    unfold maxO at e
    cases hx : f x with
    | none => rw [hx] at e; cases e
    | some a =>
      rw [hx] at e
      have e : (maxO f l).map (fun b => max a b) = some q := e
      cases hl : maxO f l with
      | none => rw [hl] at e; cases e
      | some b =>
        rw [hl] at e
        have e : max a b = q := Option.some.inj e
        have h1 := h x List.mem_cons_self a hx
        have h2 := maxO_least hl fun k hk => h k (List.mem_cons_of_mem _ hk)
        omega
theorem hgt_low {g : Int → Option (List Int)} : ∀ {n h : Nat} {z : Int}, hgt g n z = some h → 1 ≤ h ∧ h ≤ n
  | 0, h, z, e => by cases e
  | n + 1, h, z, e => by
    obtain ⟨m, ks, q, e1, e2, e3, e4⟩ := hgt_inv e
    injection e1 with e1
    subst e1
    have := maxO_least e3 (B := n) fun k hk a ha => (hgt_low ha).2
    omega
theorem hgt_tight {g : Int → Option (List Int)} : ∀ {n h : Nat} {z : Int}, hgt g n z = some h → ∀ m, h ≤ m → hgt g m z = some h
  | 0, h, z, e => by cases e
  | n + 1, h, z, e => fun m hm => by
    obtain ⟨j, ks, q, e1, e2, e3, e4⟩ := hgt_inv e
    injection e1 with e1
    subst e1
    obtain ⟨m', rfl⟩ : ∃ m', m = m' + 1 := ⟨m - 1, by omega⟩
    have hsame : maxO (hgt g m') ks = maxO (hgt g n) ks := maxO_same ks fun k hk => by
      obtain ⟨a, ha, hle⟩ := maxO_inv e3 k hk
      rw [ha]
      exact hgt_tight ha m' (by omega)
    rw [e4]
    exact hgt_mk e2 (hsame.trans e3)
theorem hgt_more {g : Int → Option (List Int)} {n h : Nat} {z : Int} (e : hgt g n z = some h) {m : Nat} (hm : n ≤ m) : hgt g m z = some h := hgt_tight e m (by have := (hgt_low e).2; omega)
theorem hgt_one {g : Int → Option (List Int)} {n m a b : Nat} {z : Int} (h1 : hgt g n z = some a) (h2 : hgt g m z = some b) : a = b := by
  have e1 := hgt_more h1 (m := max n m) (by omega)
  have e2 := hgt_more h2 (m := max n m) (by omega)
  rw [e1] at e2
  injection e2
/-- What hangs on a block. -/
inductive Hangs (g : Int → Option (List Int)) : Int → Int → Prop
  | here (z : Int) : Hangs g z z
  | step {z k y : Int} {ks : List Int} (hg : g z = some ks) (hk : k ∈ ks) (h : Hangs g k y) : Hangs g z y
theorem Hangs.trans {g : Int → Option (List Int)} {x y z : Int} (h : Hangs g x y) (k : Hangs g y z) : Hangs g x z := by
  induction h with
  | here => exact k
  | step hg hk _ ih => exact .step hg hk (ih k)
theorem hgt_hangs {g : Int → Option (List Int)} {x y : Int} (h : Hangs g x y) : ∀ {n a : Nat}, hgt g n x = some a → ∃ b, hgt g n y = some b ∧ b ≤ a := by
  induction h with
  | here => intro n a e; exact ⟨a, e, Nat.le_refl _⟩
  | step hg hk _ ih =>
    intro n a e
    obtain ⟨m, ks, q, e1, e2, e3, e4⟩ := hgt_inv e
    rw [hg] at e2
    injection e2 with e2
    subst e2
    obtain ⟨c, h1, h2⟩ := maxO_inv e3 _ hk
    obtain ⟨b, h3, h4⟩ := ih h1
    exact ⟨b, hgt_more h3 (by omega), by omega⟩
/-- Nothing that ends lies below itself. -/
theorem hgt_not {g : Int → Option (List Int)} {z k : Int} {ks : List Int} {n : Nat} (hg : g z = some ks) (hk : k ∈ ks) (h : Hangs g k z) : hgt g n z = none := by
  cases e : hgt g n z with
  | none => rfl
  | some a =>
    obtain ⟨m, ks', q, e1, e2, e3, e4⟩ := hgt_inv e
    rw [hg] at e2
    injection e2 with e2
    subst e2
    obtain ⟨c, h1, h2⟩ := maxO_inv e3 _ hk
    obtain ⟨b, h3, h4⟩ := hgt_hangs h h1
    have := hgt_one h3 e
    omega
/-- What those that are there name is what the device tells; heights are so many at most. -/
theorem hgt_down {g : Int → Option (List Int)} {f : Int → Option NodeV} (hd : Down f) (hg : ∀ z n, f z = some n → g z = some n.kids) : ∀ (m : Nat) (z : Int) (n : NodeV), f z = some n → n.high ≤ m → ∃ h, hgt g m z = some h
  | 0, z, n, hz, hm => by
    have := (hd z n hz).1
    omega
  | m + 1, z, n, hz, hm => by
    obtain ⟨q, hq⟩ := maxO_mk (f := hgt g m) n.kids fun k hk => by
      obtain ⟨u, hu, hlt⟩ := (hd z n hz).2.2 k hk
      obtain ⟨h, hh⟩ := hgt_down hd hg m k u hu (by omega)
      rw [hh]
      rfl
    exact ⟨q + 1, hgt_mk (hg z n hz) hq⟩
/-- What a block of a device tells. -/
def tellsD (D : Dv.St) (z : Int) : Option (List Int × ByteArray) := (readV (bareV 0 0 ⟨#[]⟩ D) z).1
def gD (D : Dv.St) (z : Int) : Option (List Int) := (tellsD D z).map (·.1)
theorem tells_is {s : SV} {D : Dv.St} (hd : s.dev = D) (z : Int) : (readV s z).1 = tellsD D z := by
  subst hd
  rfl
/-- What is loaded: what lies below, with what it names. -/
structure LoadG (N : Nat) (D : Dv.St) (s : SV) : Prop where
  acc : Acc N s.nodes []
  low : Low s
  sub : ∀ z n, s.nodes z = some n → gD D z = some n.kids ∧ n.kids.length ≤ 16
  held : ∀ z n, s.nodes z = some n → n.held = 0
  dev : s.dev = D
theorem LoadG.hgt {N : Nat} {D : Dv.St} {s : SV} (h : LoadG N D s) {z : Int} {n : NodeV} (hz : s.nodes z = some n) : ∃ a, hgt (gD D) 64 z = some a :=
  hgt_down h.acc.down (fun z n hz => (h.sub z n hz).1) 64 z n hz (h.low z n hz).2
theorem LoadG.hangs {N : Nat} {D : Dv.St} {s : SV} (h : LoadG N D s) {z y : Int} (hz : (s.nodes z).isSome = true) (hy : Hangs (gD D) z y) : (s.nodes y).isSome = true := by
  induction hy with
  | here => exact hz
  | step hg hk _ ih =>
    obtain ⟨n, hn⟩ := Option.isSome_iff_exists.1 hz
    have e := (h.sub _ n hn).1
    rw [hg] at e
    injection e with e
    subst e
    obtain ⟨m, hm, _⟩ := (h.acc.down _ n hn).2.2 _ hk
    exact ih (by rw [hm]; rfl)
end Go.Proofs.YthejlenafjnmkaaGreat.Sto
/- The document's store is made; how high a block is, by the document: contracts. -/
namespace Go.Proofs.YthejlenafjnmkaaGreat.Sto
open Go.RowKit
open Oct (Has Chg)
open Rws
open Dv (mk mk_get mk_size mk_ext mk_set RefIs ROwn)
set_option linter.unusedVariables false

theorem info_c : (Tryz.prog.info? 101).map (fun i => (i.zero, i.size, i.bytes)) = some (some (.agg #[.bool false, .slice none 0 0, .int .i64 0]), 3, 40) := by kernel_rfl
theorem made_cells (n : Nat) : madeCells (Value.agg #[.bool false, .slice none 0 0, .int .i64 0]).cells (n * 3) = mk (3 * n) (cellR fun _ => noRC) := by
  apply Array.ext
  · rw [size_madeCells, mk_size, Nat.mul_comm]
  · intro j h1 h2
    have h3 : j < 3 * n := by rw [mk_size] at h2; exact h2
    simp only [madeCells, mk, Array.getElem_map, Array.getElem_range, List.getElem_toArray, List.getElem_map, List.getElem_range]
    have hd : j % 3 = 0 ∨ j % 3 = 1 ∨ j % 3 = 2 := by omega
    have hs : (Value.agg #[.bool false, .slice none 0 0, .int .i64 0]).cells = #[.bool false, .slice none 0 0, .int .i64 0] := rfl
    rw [hs]
    unfold cellR
    show (#[Value.bool false, .slice none 0 0, .int .i64 0] : Array Value)[j % 3]! = _
    rcases hd with e | e | e <;> rw [e] <;> rfl
theorem make_c (n : Nat) (hn : n ≤ 4096) (w : World) : (Instr.makeSlice 93 (.int .i64 n) (.int .i64 n)).run Tryz.prog w = .ok (.slice (some ⟨w.heap.size, 0, none⟩) n n) (w.alloc (.cells (mk (3 * n) (cellR fun _ => noRC)) 101)) := by
  obtain ⟨i0, hi, hz0, hz1, hz2⟩ := info_parts info_c
  have h := run_makeSlice (P := Tryz.prog) w 93 101 i0 (.agg #[.bool false, .slice none 0 0, .int .i64 0]) Tryz.underlying93 hi hz0 .i64 .i64 n n (by omega) (Int.le_refl _) (by rw [hz1]; omega) (by rw [hz2]; omega) (by omega)
  rw [hz1, Int.toNat_natCast, made_cells] at h
  exact h
theorem make_i (n : Nat) (hn : n ≤ 4096) (w : World) : (Instr.makeSlice 40 (.int .i64 n) (.int .i64 n)).run Tryz.prog w = .ok (.slice (some ⟨w.heap.size, 0, none⟩) n n) (w.alloc (.cells (mk n fun _ => .int .i64 0) 3)) := by
  obtain ⟨i0, hi, hz0, hz1, hz2⟩ := info_parts info_i
  have h := run_makeSlice (P := Tryz.prog) w 40 3 i0 (.int .i64 0) Tryz.underlying40 hi hz0 .i64 .i64 n n (by omega) (Int.le_refl _) (by rw [hz1]; omega) (by rw [hz2]; omega) (by omega)
  rw [hz1, Nat.mul_one, Int.toNat_natCast] at h
  rw [h]
  exact congrArg (fun x => Result.ok _ (w.alloc (.cells x _))) (Dv.made_mk _ _)
set_option maxRecDepth 100000 in
set_option maxHeartbeats 2000000 in
theorem rbare (pd a b c : Nat) (D : Dv.St) (g ro : Int) (t : ByteArray) (w : World) (h : RefIs w pd a b c D) :
    Calls Tryz.prog 39 #[.pointer (some ⟨pd, 0, none⟩), .agg #[.int .i64 g, .int .i64 ro, .string t]] w fun e w' => ∃ p cb kb, e = .returned (.pointer (some ⟨p, 0, none⟩)) ∧ RefS w' p cb kb pd a b c D.size (g, ro, t) D (fun _ => noRC) (fun _ => false) ∧ w.heap.size ≤ p ∧ w.heap.size ≤ cb ∧ w.heap.size ≤ kb ∧ Below w.heap.size w w' := by
  have c0 := Has.at_ h.obj 0
  simp at c0
  have hlo := h.lo
  have hhi := h.hi
  have HH := Lib.hid h
  have mC := make_c D.size hhi
  have mB := Dv.make_b D.size hhi
  have hw1 := (((Chg.refl (fun _ => False) w).alloc (.cells #[.int .i64 g, .int .i64 ro, .string t] 90)).drew)
  have k1 := Has.at_ ((h.over (Chg.to hw1) (fun _ _ h => h)).obj) 0
  have k2 := Has.at_ ((h.over (Chg.to (hw1.alloc (.cells (mk (3 * D.size) (cellR fun _ => noRC)) 101))) (fun _ _ h => h)).obj) 0
  have k3 := Has.at_ ((h.over (Chg.to (hw1.alloc (.cells (mk D.size fun _ => .bool false) 4))) (fun _ _ h => h)).obj) 0
  have hw0 := ((Chg.refl (fun _ => False) w).alloc (.cells #[.int .i64 g, .int .i64 ro, .string t] 90))
  have k4 := Has.at_ ((h.over (Chg.to (hw0.alloc (.cells (mk (3 * D.size) (cellR fun _ => noRC)) 101)).drew) (fun _ _ h => h)).obj) 0
  have k5 := Has.at_ ((h.over (Chg.to (hw0.alloc (.cells (mk D.size fun _ => .bool false) 4)).drew) (fun _ _ h => h)).obj) 0
  simp at k1 k2 k3 k4 k5
  generalize hN : D.size = N at *
  have HN := Lib.hid hN
  clear h hN hw1 hw0
  go_enter Tryz.func39, Tryz.ntmps39
  go_wp2
  go_region
  all_goals
    go_wp2
    go_ret
    refine ⟨_, _, _, rfl, ⟨Dv.at3, ⟨by first | exact Dv.at1 | exact Dv.at2, fun i hi => World.ownsRow_nil _ _ _ _⟩, by first | exact Dv.at1 | exact Dv.at2, HH.out.below ?_, HN.out⟩, by omega, by omega, by omega, ?_⟩
    · exact Below.drew (((((Below.refl _ w).alloc (Nat.le_refl _) _).alloc (by simp) _).alloc (by simp; omega) _).alloc (by simp; omega) _)
    · exact Below.drew (((((Below.refl _ w).alloc (Nat.le_refl _) _).alloc (by simp) _).alloc (by simp; omega) _).alloc (by simp; omega) _)
/-- What has been seen of heights: 0 not yet, -1 on the way (or none), else how high. -/
structure SeenI (g : Int → Option (List Int)) (N : Nat) (se : Nat → Int) : Prop where
  val : ∀ z, se z = 0 ∨ se z = -1 ∨ 0 < se z
  out : ∀ z, N ≤ z → se z = 0
  is_ : ∀ z, 0 < se z → ∃ h ks, hgt g 64 z = some h ∧ (h : Int) = se z ∧ g z = some ks ∧ ∀ k ∈ ks, 0 < se k.toNat
/-- What height comes to. -/
structure HOut (g : Int → Option (List Int)) (N : Nat) (se : Nat → Int) (id : Nat) (r : Int) (se' : Nat → Int) : Prop where
  keep : ∀ z, se z ≠ 0 → se' z = se z
  low : 0 ≤ r
  ok : 0 < r → ∃ h, hgt g 64 id = some h ∧ (h : Int) = r ∧ se' id = r ∧ SeenI g N se' ∧ (∀ z, se' z = -1 → se z = -1) ∧ ∀ z, 0 < se' z → 0 < se z ∨ Hangs g id z
  bad : r = 0 → hgt g 64 id = none ∨ ∃ z : Nat, Hangs g id z ∧ se z = -1
def markN (se : Nat → Int) (id : Nat) (v : Int) : Nat → Int := fun z => if z = id then v else se z
theorem cntR_mono {q r : Nat → Bool} (h : ∀ i, q i = true → r i = true) : ∀ N, cntR q N ≤ cntR r N
  | 0 => Nat.le_refl _
  | N + 1 => by
    rw [cntR_succ, cntR_succ]
    have := cntR_mono h N
    by_cases e : q N = true
    · rw [if_pos e, if_pos (h N e)]; omega
    · rw [if_neg e]; omega
theorem cntR_less {q r : Nat → Bool} (h : ∀ i, q i = true → r i = true) {j : Nat} (h1 : r j = true) (h2 : q j = false) : ∀ N, j < N → cntR q N + 1 ≤ cntR r N
  | 0, e => by omega
  | N + 1, e => by
    rw [cntR_succ, cntR_succ]
    by_cases ej : j = N
    · subst ej
      have := cntR_mono h j
      rw [if_pos h1, if_neg (by rw [h2]; decide)]
      omega
    · have := cntR_less h h1 h2 N (by omega)
      by_cases e : q N = true
      · rw [if_pos e, if_pos (h N e)]; omega
      · rw [if_neg e]; omega
/-- How many were not seen yet. -/
def unseen (N : Nat) (se : Nat → Int) : Nat := cntR (fun i => se i == 0) N
theorem unseen_keep {N : Nat} {se se' : Nat → Int} (h : ∀ z, se z ≠ 0 → se' z = se z) : unseen N se' ≤ unseen N se :=
  cntR_mono (fun i hi => by
    have hi : se' i = 0 := by simpa using hi
    cases e : decide (se i = 0) with
    | true => simpa using e
    | false =>
      have e : se i ≠ 0 := by simpa using e
      have := h i e
      omega) N
theorem unseen_mark {N : Nat} {se : Nat → Int} {id : Nat} (hid : id < N) (h0 : se id = 0) {v : Int} (hv : v ≠ 0) : unseen N (markN se id v) + 1 ≤ unseen N se :=
  cntR_less (fun i hi => by
    have hi : markN se id v i = 0 := by simpa using hi
    unfold markN at hi
    split at hi
    · exact absurd hi hv
    · simpa using hi) (j := id) (by simp [h0]) (by simp [markN, hv]) N hid
/-- On the way through what a block names. -/
structure HMid (g : Int → Option (List Int)) (N : Nat) (se : Nat → Int) (id : Nat) (ks : List Int) (q : Nat) (high : Int) (sj : Nat → Int) : Prop where
  keep : ∀ z, markN se id (-1) z ≠ 0 → sj z = markN se id (-1) z
  seen : SeenI g N sj
  neg : ∀ z, sj z = -1 → markN se id (-1) z = -1
  pos : ∀ z, 0 < sj z → 0 < se z ∨ ∃ k ∈ ks.take q, Hangs g k z
  done : ∀ k ∈ ks.take q, 0 < sj k.toNat
  top : ∃ h, maxO (hgt g 64) (ks.take q) = some h ∧ (h : Int) = high
theorem maxO_snoc {f : Int → Option Nat} {a b : Nat} {z : Int} : ∀ {l : List Int}, maxO f l = some a → f z = some b → maxO f (l ++ [z]) = some (max a b)
  | [], h, hz => by
    injection h with h
    subst h
    show maxO f [z] = _
    unfold maxO maxO
    rw [hz]
    show some (max b 0) = _
    congr 1
    omega
  | x :: l, h, hz => by
    unfold maxO at h
    cases hx : f x with
    | none => rw [hx] at h; cases h
    | some c =>
      rw [hx] at h
      cases hl : maxO f l with
      | none => rw [hl] at h; cases h
      | some d =>
        rw [hl] at h
        have h : max c d = a := Option.some.inj h
        have := maxO_snoc hl hz
        show maxO f (x :: (l ++ [z])) = _
        unfold maxO
        rw [hx, this]
        show some (max c (max d b)) = _
        congr 1
        omega
theorem SeenI.mark {g : Int → Option (List Int)} {N : Nat} {se : Nat → Int} (h : SeenI g N se) {id : Nat} (hid : id < N) (h0 : se id = 0) : SeenI g N (markN se id (-1)) := by
  refine ⟨fun z => ?_, fun z hz => ?_, fun z hz => ?_⟩
  · unfold markN
    split
    · right; left; rfl
    · exact h.val z
  · unfold markN
    rw [if_neg (by omega)]
    exact h.out z hz
  · unfold markN at hz
    split at hz
    · omega
    · rename_i hne
      obtain ⟨a, ks, e1, e2, e3, e4⟩ := h.is_ z hz
      refine ⟨a, ks, e1, by unfold markN; rw [if_neg hne]; exact e2, e3, fun k hk => ?_⟩
      have := e4 k hk
      unfold markN
      split
      · rename_i e
        rw [e, h0] at this
        omega
      · exact this
theorem hmid_start {g : Int → Option (List Int)} {N : Nat} {se : Nat → Int} (h : SeenI g N se) {id : Nat} (hid : id < N) (h0 : se id = 0) (ks : List Int) : HMid g N se id ks 0 0 (markN se id (-1)) :=
  ⟨fun z _ => rfl, h.mark hid h0, fun z hz => hz, (fun z hz => by
    left
    unfold markN at hz
    split at hz
    · omega
    · exact hz), (fun k hk => by rw [List.take_zero] at hk; cases hk), ⟨0, (by rw [List.take_zero]; rfl), rfl⟩⟩
theorem HMid.step {g : Int → Option (List Int)} {N : Nat} {se : Nat → Int} {id : Nat} {ks : List Int} {q : Nat} {high : Int} {sj s2 : Nat → Int} (h : HMid g N se id ks q high sj) (hq : q < ks.length) {k : Nat} (hk : ks[q] = (k : Int)) {r : Int} (hr : 0 < r) (ho : HOut g N sj k r s2) :
    HMid g N se id ks (q + 1) (max high r) s2 := by
  obtain ⟨a, e1, e2, e3, e4, e5, e6⟩ := ho.ok hr
  have ht : ks.take (q + 1) = ks.take q ++ [(k : Int)] := by rw [List.take_succ_eq_append_getElem hq, hk]
  refine ⟨fun z hz => ?_, e4, fun z hz => h.neg z (e5 z hz), fun z hz => ?_, fun x hx => ?_, ?_⟩
  · have h1 := h.keep z hz
    have h2 := ho.keep z (by rw [h1]; exact hz)
    rw [h2, h1]
  · rcases e6 z hz with h1 | h1
    · rcases h.pos z h1 with h2 | ⟨x, hx, hx2⟩
      · exact .inl h2
      · exact .inr ⟨x, by rw [ht]; exact List.mem_append_left _ hx, hx2⟩
    · exact .inr ⟨k, by rw [ht]; simp, h1⟩
  · rw [ht] at hx
    rcases List.mem_append.1 hx with hx | hx
    · have h1 := h.done x hx
      have h2 := ho.keep x.toNat (by omega)
      rw [h2]
      exact h1
    · rw [List.mem_singleton.1 hx, Int.toNat_natCast, e3]
      exact hr
  · obtain ⟨b, hb, hb2⟩ := h.top
    refine ⟨max b a, ?_, by omega⟩
    rw [ht]
    exact maxO_snoc hb e1
theorem HMid.bad {g : Int → Option (List Int)} {N : Nat} {se : Nat → Int} {id : Nat} {ks : List Int} {q : Nat} {high : Int} {sj s2 : Nat → Int} (h : HMid g N se id ks q high sj) (h0 : se id = 0) (hg : g id = some ks) (hq : q < ks.length) {k : Nat} (hk : ks[q] = (k : Int)) (ho : HOut g N sj k 0 s2) : HOut g N se id 0 s2 := by
  have hm : (k : Int) ∈ ks := by rw [← hk]; exact List.getElem_mem hq
  have hkeep : ∀ z, se z ≠ 0 → s2 z = se z := fun z hz => by
    have hne : z ≠ id := fun e => hz (by rw [e]; exact h0)
    have h1 : markN se id (-1) z = se z := if_neg hne
    have h2 := h.keep z (by rw [h1]; exact hz)
    have h3 := ho.keep z (by rw [h2, h1]; exact hz)
    rw [h3, h2, h1]
  refine ⟨hkeep, Int.le_refl _, fun h => by omega, fun _ => ?_⟩
  rcases ho.bad rfl with h1 | ⟨z, h1, h2⟩
  · left
    cases e : hgt g 64 id with
    | none => rfl
    | some a =>
      obtain ⟨m, ks', q', e1, e2, e3, e4⟩ := hgt_inv e
      rw [hg] at e2
      injection e2 with e2
      subst e2
      obtain ⟨c, c1, c2⟩ := maxO_inv e3 _ hm
      rw [hgt_more c1 (show m ≤ 64 by omega)] at h1
      cases h1
  · have h3 := h.neg z h2
    unfold markN at h3
    split at h3
    · rename_i e
      subst e
      exact .inl (hgt_not hg hm h1)
    · exact .inr ⟨z, .step hg hm h1, h3⟩
theorem HMid.high {g : Int → Option (List Int)} {N : Nat} {se : Nat → Int} {id : Nat} {ks : List Int} {high : Int} {sj : Nat → Int} (h : HMid g N se id ks ks.length high sj) (h0 : se id = 0) (hg : g id = some ks) (hh : 64 ≤ high) : HOut g N se id 0 sj := by
  have hkeep : ∀ z, se z ≠ 0 → sj z = se z := fun z hz => by
    have hne : z ≠ id := fun e => hz (by rw [e]; exact h0)
    have h1 : markN se id (-1) z = se z := if_neg hne
    rw [h.keep z (by rw [h1]; exact hz), h1]
  refine ⟨hkeep, Int.le_refl _, fun h => by omega, fun _ => .inl ?_⟩
  obtain ⟨a, ha, ha2⟩ := h.top
  rw [List.take_of_length_le (Nat.le_refl _)] at ha
  cases e : hgt g 64 id with
  | none => rfl
  | some b =>
    obtain ⟨m, ks', q', e1, e2, e3, e4⟩ := hgt_inv e
    rw [hg] at e2
    injection e2 with e2
    subst e2
    have hlow := (hgt_low e).2
    have hs : maxO (hgt g m) ks = maxO (hgt g 64) ks := maxO_same ks fun k hk => by
      obtain ⟨c, c1, _⟩ := maxO_inv e3 _ hk
      rw [c1, hgt_more c1 (show m ≤ 64 by omega)]
    rw [hs, ha] at e3
    injection e3 with e3
    omega
theorem HMid.done_ {g : Int → Option (List Int)} {N : Nat} {se : Nat → Int} {id : Nat} {ks : List Int} {high : Int} {sj : Nat → Int} (h : HMid g N se id ks ks.length high sj) (hid : id < N) (h0 : se id = 0) (hg : g id = some ks) (hh : ¬ 64 ≤ high) : HOut g N se id (high + 1) (markN sj id (high + 1)) := by
  obtain ⟨a, ha, ha2⟩ := h.top
  rw [List.take_of_length_le (Nat.le_refl _)] at ha
  have hhgt : hgt g 64 id = some (a + 1) := by
    refine hgt_mk (m := 63) hg ?_
    rw [← ha]
    refine maxO_same ks fun k hk => ?_
    obtain ⟨c, c1, c2⟩ := maxO_inv ha _ hk
    rw [c1]
    exact hgt_tight c1 63 (by omega)
  have hat : markN sj id (high + 1) id = high + 1 := if_pos rfl
  have hne : ∀ {z : Nat}, z ≠ id → markN sj id (high + 1) z = sj z := fun {z} hz => if_neg hz
  have hpos : ∀ z, 0 < sj z → 0 < markN sj id (high + 1) z := fun z hz => by
    by_cases e : z = id
    · rw [e, hat]; omega
    · rw [hne e]; exact hz
  have hdone := h.done
  rw [List.take_of_length_le (Nat.le_refl _)] at hdone
  refine ⟨fun z hz => ?_, by omega, fun _ => ⟨a + 1, hhgt, by omega, hat, ⟨fun z => ?_, fun z hz => ?_, fun z hz => ?_⟩, fun z hz => ?_, fun z hz => ?_⟩, fun h => by omega⟩
  · have e : z ≠ id := fun e => hz (by rw [e]; exact h0)
    have h1 : markN se id (-1) z = se z := if_neg e
    rw [hne e, h.keep z (by rw [h1]; exact hz), h1]
  · by_cases e : z = id
    · rw [e, hat]; omega
    · rw [hne e]; exact h.seen.val z
  · rw [hne (by omega)]
    exact h.seen.out z hz
  · by_cases e : z = id
    · subst e
      exact ⟨a + 1, ks, hhgt, by rw [hat]; omega, hg, fun k hk => hpos _ (hdone k hk)⟩
    · rw [hne e] at hz
      obtain ⟨b, ks', e1, e2, e3, e4⟩ := h.seen.is_ z hz
      exact ⟨b, ks', e1, by rw [hne e]; exact e2, e3, fun k hk => hpos _ (e4 k hk)⟩
  · by_cases e : z = id
    · rw [e, hat] at hz; omega
    · rw [hne e] at hz
      have := h.neg z hz
      unfold markN at this
      rw [if_neg e] at this
      exact this
  · by_cases e : z = id
    · rw [e]; exact .inr (.here _)
    · rw [hne e] at hz
      rcases h.pos z hz with h1 | ⟨k, hk, hk2⟩
      · exact .inl h1
      · rw [List.take_of_length_le (Nat.le_refl _)] at hk
        exact .inr (.step hg hk hk2)
end Go.Proofs.YthejlenafjnmkaaGreat.Sto
/- How high a block is, by the document: contract of height. -/
namespace Go.Proofs.YthejlenafjnmkaaGreat.Sto
open Go.RowKit
open Oct (Has Chg)
open Rws
open Dv (mk mk_get mk_size mk_ext mk_set RefIs ROwn)
set_option linter.unusedVariables false

theorem ref_chg {w w' : World} {pd a b c sb : Nat} {D : Dv.St} (h : RefIs w pd a b c D) (hc : Chg (· = sb) w w') (hn : ¬ ROwn pd a b c sb) : RefIs w' pd a b c D :=
  h.over (Chg.to hc) (fun k hk e => hn (by rw [← e]; exact hk))
theorem seen_put {w : World} {sb N id : Nat} {se : Nat → Int} (h : Has w sb 3 (mk N fun i => .int .i64 (se i))) (v : Int) : Has (w.setCell ⟨sb, id, none⟩ (.int .i64 v)) sb 3 (mk N fun i => .int .i64 (markN se id v i)) := by
  have h2 := Has.put h id (.int .i64 v)
  rw [mk_set] at h2
  have e : (mk N fun y => if y = id then Value.int .i64 v else .int .i64 (se y)) = mk N fun i => .int .i64 (markN se id v i) := mk_ext _ _ _ fun i _ => by
    unfold markN
    split <;> rfl
  rw [e] at h2
  exact h2
theorem seen_at {w : World} {sb N id : Nat} {se : Nat → Int} (h : Has w sb 3 (mk N fun i => .int .i64 (se i))) (hid : id < N) : w.cell? ⟨sb, id, none⟩ = some (.int .i64 (se id)) := by
  have g := Has.at_ h id
  rw [mk_get _ _ _ hid] at g
  exact g
theorem tells_in {D : Dv.St} (hon : D.on = true) {z : Nat} (hz : z < D.size) : Dv.rdE D z = 0 ∧ tellsD D z = parseB D.size (Dv.rdS D z) := by
  have hin : Dv.inside D z = true := by
    unfold Dv.inside
    rw [decide_eq_true (by omega), decide_eq_true (by omega)]
    rfl
  have e : Dv.rdE D z = 0 := by
    unfold Dv.rdE
    rw [hon, hin]
    rfl
  refine ⟨e, ?_⟩
  unfold tellsD readV
  have e2 : Dv.rdE (bareV 0 0 ⟨#[]⟩ D).dev z = 0 := e
  rw [if_pos e2]
  show (readB (parseB D.size (Dv.rdS D z))).1 = _
  cases parseB D.size (Dv.rdS D z) <;> rfl
theorem kidsE_len : ∀ (k : Nat) (st : ES) (acc : List Int), (kidsE k st acc).1.length = acc.length + k
  | 0, _, _ => rfl
  | k + 1, st, acc => by
    show (kidsE k _ _).1.length = _
    rw [kidsE_len k, List.length_append, List.length_singleton]
    omega
theorem rtE_len {st : ES} {t : ByteArray} {q : ByteArray} (h : rtE st 3900 = (t, some q)) : t.size ≤ 3900 := by
  cases st with
  | none => cases h
  | some r =>
    unfold rtE at h
    cases hg : Oct.gotText r 3900 with
    | txt t' q' =>
      simp only [hg] at h
      have e1 : t' = t := congrArg Prod.fst h
      subst e1
      unfold Oct.gotText at hg
      split at hg
      · split at hg
        · split at hg
          · injection hg with hg _
            rw [← hg]
            simp
            omega
          · cases hg
        · cases hg
      · cases hg
    | num v q' => simp only [hg] at h; cases h
    | bad q' y => simp only [hg] at h; cases h
theorem parse_names {size : Int} {bytes : ByteArray} {ks : List Int} {t : ByteArray} (h : parseB size bytes = some (ks, t)) : (∀ k ∈ ks, nameB k size = true) ∧ ks.length ≤ 16 ∧ t.size ≤ 3900 := by
  rw [parseB_e] at h
  split at h
  · unfold blockE blkE at h
    split at h
    · rename_i hc
      injection h with h
      have h1 : (kidsE (min (rnE (some (hdE bytes)) 1).1 16).toNat (rnE (some (hdE bytes)) 1).2 []).1 = ks := congrArg Prod.fst h
      have h2 := congrArg Prod.snd h
      refine ⟨fun k hk => List.all_eq_true.1 hc.2.2 k (by rw [h1]; exact hk), ?_, ?_⟩
      · rw [← h1, kidsE_len]
        simp
        omega
      · cases hq : (rtE (kidsE (min (rnE (some (hdE bytes)) 1).1 16).toNat (rnE (some (hdE bytes)) 1).2 []).2 3900).2 with
        | none => rw [hq] at hc; cases hc.1
        | some q => exact rtE_len (Prod.ext h2 hq)
    · cases h
  · cases h
theorem HOut.top {g : Int → Option (List Int)} {N : Nat} {se s2 : Nat → Int} {id : Nat} {r : Int} (h : HOut g N se id r s2) : 0 ≤ r ∧ r ≤ 64 := by
  have h0 := h.low
  by_cases e : 0 < r
  · obtain ⟨a, h1, h2, _⟩ := h.ok e
    have := hgt_low h1
    omega
  · omega
theorem name_nat {z : Int} {N : Nat} (h : nameB z N = true) : ∃ k : Nat, z = k ∧ 2 ≤ k ∧ k < N := by
  unfold nameB at h
  simp at h
  exact ⟨z.toNat, by omega, by omega, by omega⟩
def HIs (g : Int → Option (List Int)) (N : Nat) (se : Nat → Int) (id sb : Nat) (w : World) (e : Ending) (w' : World) : Prop :=
  ∃ r se', e = .returned (.int .i64 r) ∧ HOut g N se id r se' ∧ Has w' sb 3 (mk N fun i => .int .i64 (se' i)) ∧ Chg (· = sb) w w'
set_option maxRecDepth 100000 in
set_option maxHeartbeats 4000000 in
theorem rheight (pd a b c sb N : Nat) (D : Dv.St) (hN : D.size = N) (hon : D.on = true) (hsm : ∀ i, (Dv.rdS D i).size ≤ 4104) (hsb : ¬ ROwn pd a b c sb) : ∀ (m : Nat) (se : Nat → Int) (id : Nat) (w : World), unseen N se ≤ m → id < N → SeenI (gD D) N se → RefIs w pd a b c D → Has w sb 3 (mk N fun i => .int .i64 (se i)) →
    Calls Tryz.prog 52 #[.pointer (some ⟨pd, 0, none⟩), .int .i64 id, .int .i64 64, .slice (some ⟨sb, 0, none⟩) N N] w (HIs (gD D) N se id sb w) := by
  intro m
  induction m with
  | zero =>
    intro se id w hm hid hse hr hs
    by_cases h0 : se id = 0
    · have := unseen_mark hid h0 (v := -1) (by decide)
      omega
    · skip
      have c1 := seen_at hs hid
      have hv := hse.val id
      have HS := Lib.hid hs
      have HSE := Lib.hid hse
      generalize hx : se id = x at *
      have HX := Lib.hid hx
      clear hx hs hse hr
      have t0 : (x == 0) = false := beq_eq_false_iff_ne.2 h0
      rcases hv with hv | hv | hv
      · exact absurd hv h0
      · subst hv
        go_enter Tryz.func52, Tryz.ntmps52
        go_wp2
        go_ret
        exact ⟨0, se, rfl, ⟨fun z _ => rfl, Int.le_refl _, fun h => by omega, fun _ => .inr ⟨id, .here _, HX.out⟩⟩, HS.out, Chg.refl _ _⟩
      · have t1 : ¬ x < 0 := by omega
        go_enter Tryz.func52, Tryz.ntmps52
        go_wp2
        go_ret
        refine ⟨x, se, rfl, ⟨fun z _ => rfl, by omega, fun _ => ?_, fun h => by omega⟩, HS.out, Chg.refl _ _⟩
        obtain ⟨q, ks, e1, e2, e3, e4⟩ := HSE.out.is_ id (by rw [HX.out]; exact hv)
        exact ⟨q, e1, by rw [e2, HX.out], HX.out, HSE.out, fun z hz => hz, fun z hz => .inl hz⟩
  | succ m ih =>
    intro se id w hm hid hse hr hs
    by_cases h0 : se id = 0
    · skip
      have c1 := seen_at hs hid
      have ho0 := hr.obj
      have c0 := Has.at_ ho0 0
      simp at c0
      obtain ⟨hre, hte⟩ := tells_in hon (z := id) (by omega)
      have HRD := Lib.hid (Dv.rread_all pd a b c D id w hr)
      rw [hre] at HRD
      have HBL := Lib.hid (fun W => rblock_of (Dv.rdS D id) (hsm id) N W _ rfl)
      have HG := Lib.hid (show gD D id = (parseB N (Dv.rdS D id)).map (·.1) by unfold gD; rw [hte, hN])
      have HNM := Lib.hid (fun (ks : List Int) (t : ByteArray) (h : parseB N (Dv.rdS D id) = some (ks, t)) => parse_names h)
      generalize Dv.rdS D id = bytes at *
      generalize parseB N bytes = o at *
      have HS := Lib.hid hs
      have HSE := Lib.hid hse
      have HR := Lib.hid hr
      have H0 := Lib.hid h0
      have HSB := Lib.hid hs.bound
      have HUN := Lib.hid (show unseen N (markN se id (-1)) ≤ m by have := unseen_mark hid h0 (v := -1) (by decide); omega)
      have hN2 := hr.hi
      rw [hN] at hN2
      rw [h0] at c1
      have hDN := hN
      clear hs hse hr h0 hre hte ho0 hm
      go_enter Tryz.func52, Tryz.ntmps52
      go_wp2_with fail
      refine HRD.out.mono ?_
      rintro e w1 ⟨rfl, hb1⟩
      have c2 := Has.at_ (HR.out.below hb1).obj 0
      simp [hDN] at c2
      have HB1 := Lib.hid hb1
      clear hb1 HRD c0 c1
      go_wp2_with fail
      refine (HBL.out w1).mono ?_
      rintro e w2 ⟨hbo, hb2⟩
      have hb12 := HB1.out.trans (hb2.mono HB1.out.size)
      have hs2 := has_blw HS.out hb12
      have hr2 := HR.out.below hb12
      have HC2 := Lib.hid (show Chg (· = sb) w w2 from Chg.of_below hb12 _)
      have HSZ := Lib.hid (show w.heap.size ≤ w1.heap.size from HB1.out.size)
      cases o with
      | none =>
        obtain rfl := hbo
        have hs3 := hs2.past (.cells #[.slice none 0 0, .string ⟨#[]⟩] 51)
        have c3 := seen_at hs3 hid
        have f3 := Has.free hs3 id
        have HS4 := Lib.hid (seen_put (id := id) hs3 (-1))
        have HC4 := Lib.hid ((HC2.out.alloc (.cells #[.slice none 0 0, .string ⟨#[]⟩] 51)).setCell (p := ⟨sb, id, none⟩) (.inl rfl) (.int .i64 (-1)))
        clear hs2 hr2 hs3 hb2 hb12 c2 HBL
        go_wp2
        go_ret
        refine ⟨0, markN se id (-1), rfl, ⟨fun z hz => if_neg (fun e => hz (by rw [e]; exact H0.out)), Int.le_refl _, fun h => by omega, fun _ => .inl ?_⟩, HS4.out, HC4.out⟩
        show (gD D id).bind _ = none
        rw [HG.out]
        rfl
      | some bt =>
        obtain ⟨ks, t⟩ := bt
        obtain ⟨v, rfl, hov⟩ := hbo
        obtain ⟨hnm, hlen, _⟩ := HNM.out ks t rfl
        have HNK := Lib.hid hnm
        have HGK := Lib.hid (show gD D id = some ks from HG.out)
        have HOV := Lib.hid (own_low hov HSZ.out)
        obtain ⟨A, cap, rfl⟩ := own_sl hov
        have hx3 := Has.fresh w2 51 #[.slice A ks.length cap, .string t]
        have hs3 := hs2.past (.cells #[.slice A ks.length cap, .string t] 51)
        have hc3 := HC2.out.alloc (.cells #[.slice A ks.length cap, .string t] 51)
        have ho3 : OwnI (w2.alloc (.cells #[.slice A ks.length cap, .string t] 51)) w.heap.size (.slice A ks.length cap) ks := World.ownsRow.alloc HOV.out _
        have hr3 := hr2.below ((Below.refl w2.heap.size w2).alloc (Nat.le_refl _) (.cells #[.slice A ks.length cap, .string t] 51))
        have hne : w2.heap.size ≠ sb := by
          have := HSB.out
          have := HB1.out.size
          have := hb2.size
          omega
        have c3 := seen_at hs3 hid
        have f3 := Has.free hs3 id
        rw [H0.out] at c3
        have hs4 := seen_put (id := id) hs3 (-1)
        have hsc : Chg (· = sb) (w2.alloc (.cells #[.slice A ks.length cap, .string t] 51)) ((w2.alloc (.cells #[.slice A ks.length cap, .string t] 51)).setCell ⟨sb, id, none⟩ (.int .i64 (-1))) := (Chg.refl (· = sb) _).setCell (p := ⟨sb, id, none⟩) (.inl rfl) _
        have hx4 := hx3.over hsc hne
        have k4 := Has.at_ hx4 0
        simp at k4
        have HS4 := Lib.hid hs4
        have HC4 := Lib.hid (hc3.trans hsc)
        have HO4 := Lib.hid (own_chg ho3 hsc (fun k hk e => by have := HSB.out; omega))
        have HR4 := Lib.hid (ref_chg hr3 hsc hsb)
        have HIH := Lib.hid ih
        have HM0 := Lib.hid (hmid_start (g := gD D) HSE.out hid H0.out ks)
        have HLK := Lib.hid hlen
        obtain ⟨W4, hW4⟩ : ∃ W4 : World, W4 = (w2.alloc (.cells #[.slice A ks.length cap, .string t] 51)).setCell ⟨sb, id, none⟩ (.int .i64 (-1)) := ⟨_, rfl⟩
        have HW4 := Lib.hid hW4
        rw [← hW4] at HS4 HC4 HO4 HR4
        clear hs2 hr2 hs3 hb2 hb12 c2 HBL hx3 hc3 ho3 hr3 hs4 hsc hx4 hne hov hnm HOV HG HNM ih hW4 hsm hon hN hDN
        go_wp2_with fail
        rw [← HW4.out]
        clear k4 c3 f3 HC2 HSZ HB1
        go_loopw [13, 55] (fun hi i wr => ∃ (q : Nat) (high : Int) (sj : Nat → Int), q ≤ ks.length ∧ i = .int .i64 q ∧ hi = .int .i64 high ∧ 0 ≤ high ∧ high ≤ 64 ∧ Hid (HMid (gD D) N se id ks q high sj) ∧ Hid (Has wr sb 3 (mk N fun i => .int .i64 (sj i))) ∧ Hid (Chg (· = sb) w wr) ∧ Hid (OwnI wr w.heap.size (.slice A ks.length cap) ks) ∧ Hid (RefIs wr pd a b c D)) (fun _ i _ => ks.length - (intOf i).toNat)
        case atStart => exact ⟨0, 0, markN se id (-1), Nat.zero_le _, rfl, rfl, by decide, by decide, HM0, HS4, HC4, HO4, HR4⟩
        case round =>
          obtain ⟨q, high, sj, hq, rfl, rfl, hh0, hh1, HMJ, HSJ, HCJ, HOJ, HRJ⟩ := hrel
          have hlk := HLK.out
          by_cases hlq : q < ks.length
          · have hrow := row_of_own HOJ.out rfl
            obtain ⟨gb, off, rfl, hbl, hcl⟩ := hrow.2 (by omega)
            have c1 := hcl q hlq
            have hkn := HNK.out _ (List.getElem_mem hlq)
            obtain ⟨z, hz⟩ : ∃ z, ks[q] = z := ⟨_, rfl⟩
            rw [hz] at c1 hkn
            obtain ⟨kn, rfl, hk2, hk3⟩ := name_nat hkn
            have HZ := Lib.hid hz
            have hun : unseen N sj ≤ m := Nat.le_trans (unseen_keep HMJ.out.keep) HUN.out
            have HCL := Lib.hid (HIH.out sj kn wr hun hk3 HMJ.out.seen HRJ.out HSJ.out)
            clear hrow hcl hbl hkn hz hun hk2
            go_wp2_with fail
            refine HCL.out.mono ?_
            rintro e w5 ⟨r, s5, rfl, ho5, hs5, hc5⟩
            have hrt := ho5.top
            have HS5 := Lib.hid hs5
            have HC5 := Lib.hid (HCJ.out.trans hc5)
            have HO5 := Lib.hid (own_chg HOJ.out hc5 (fun k hk e => by have := HSB.out; omega))
            have HR5 := Lib.hid (ref_chg HRJ.out hc5 hsb)
            have HH5 := Lib.hid ho5
            have HLQ := Lib.hid hlq
            clear ho5 hs5 hc5 HCL c1
            by_cases hr0 : r = 0
            · subst hr0
              have HB := Lib.hid (HMid.bad HMJ.out H0.out HGK.out HLQ.out HZ.out HH5.out)
              go_wp2
              go_ret
              exact ⟨0, s5, rfl, HB.out, HS5.out, HC5.out⟩
            · have hr1 : (r == 0) = false := beq_eq_false_iff_ne.2 hr0
              have HMS := Lib.hid (HMid.step HMJ.out HLQ.out HZ.out (show 0 < r by omega) HH5.out)
              by_cases hlt : high < r
              · have hnl : ¬ r < high := by omega
                have HMS2 := Lib.hid (show HMid (gD D) N se id ks (q + 1) r s5 by have h := HMS.out; rw [show max high r = r by omega] at h; exact h)
                clear hr0
                go_wp2
                go_roundw
                case rel => exact ⟨q + 1, r, s5, by omega, by go_num, rfl, by omega, by omega, HMS2, HS5, HC5, HO5, HR5⟩
                case measure => simp [intOf]; omega
              · have HMS2 := Lib.hid (show HMid (gD D) N se id ks (q + 1) high s5 by have h := HMS.out; rw [show max high r = high by omega] at h; exact h)
                by_cases heq : r = high
                · subst heq
                  clear hr0
                  go_wp2
                  go_roundw
                  case rel => exact ⟨q + 1, r, s5, by omega, by go_num, rfl, by omega, by omega, HMS2, HS5, HC5, HO5, HR5⟩
                  case measure => simp [intOf]; omega
                · have hnl : r < high := by omega
                  clear hr0
                  go_wp2
                  go_roundw
                  case rel => exact ⟨q + 1, high, s5, by omega, by go_num, rfl, by omega, by omega, HMS2, HS5, HC5, HO5, HR5⟩
                  case measure => simp [intOf]; omega
          · obtain rfl : q = ks.length := by omega
            by_cases h64 : 64 ≤ high
            · have HB := Lib.hid (HMid.high HMJ.out H0.out HGK.out h64)
              go_wp2
              go_ret
              exact ⟨0, sj, rfl, HB.out, HSJ.out, HCJ.out⟩
            · have HB := Lib.hid (HMid.done_ HMJ.out hid H0.out HGK.out h64)
              have c5 := seen_at HSJ.out hid
              have f5 := Has.free HSJ.out id
              have HS6 := Lib.hid (seen_put (id := id) HSJ.out (high + 1))
              have HC6 := Lib.hid (HCJ.out.setCell (p := ⟨sb, id, none⟩) (.inl rfl) (.int .i64 (high + 1)))
              go_wp2
              go_ret
              exact ⟨high + 1, markN sj id (high + 1), rfl, HB.out, HS6.out, HC6.out⟩
    · skip
      have c1 := seen_at hs hid
      have hv := hse.val id
      have HS := Lib.hid hs
      have HSE := Lib.hid hse
      generalize hx : se id = x at *
      have HX := Lib.hid hx
      clear hx hs hse hr
      have t0 : (x == 0) = false := beq_eq_false_iff_ne.2 h0
      rcases hv with hv | hv | hv
      · exact absurd hv h0
      · subst hv
        go_enter Tryz.func52, Tryz.ntmps52
        go_wp2
        go_ret
        exact ⟨0, se, rfl, ⟨fun z _ => rfl, Int.le_refl _, fun h => by omega, fun _ => .inr ⟨id, .here _, HX.out⟩⟩, HS.out, Chg.refl _ _⟩
      · have t1 : ¬ x < 0 := by omega
        go_enter Tryz.func52, Tryz.ntmps52
        go_wp2
        go_ret
        refine ⟨x, se, rfl, ⟨fun z _ => rfl, by omega, fun _ => ?_, fun h => by omega⟩, HS.out, Chg.refl _ _⟩
        obtain ⟨q, ks, e1, e2, e3, e4⟩ := HSE.out.is_ id (by rw [HX.out]; exact hv)
        exact ⟨q, e1, by rw [e2, HX.out], HX.out, HSE.out, fun z hz => hz, fun z hz => .inl hz⟩
end Go.Proofs.YthejlenafjnmkaaGreat.Sto
/- The document's store is opened: contract of Open. -/
namespace Go.Proofs.YthejlenafjnmkaaGreat.Sto
open Go.RowKit
open Oct (Has Chg)
open Rws
open Dv (mk_get mk_size mk_ext mk_set RefIs ROwn)
set_option linter.unusedVariables false

theorem CellsIs.held {w : World} {cb N : Nat} {c : Nat → RC} (h : CellsIs w cb N c) {i : Nat} (hi : i < N) (v : Int) :
    CellsIs (w.setCell ⟨cb, i * 3 + 2, none⟩ (.int .i64 v)) cb N (fun j => if j = i then { c i with held := v } else c j) := by
  have hc : Chg (· = cb) w (w.setCell ⟨cb, i * 3 + 2, none⟩ (.int .i64 v)) := (Chg.refl (· = cb) w).setCell (p := ⟨cb, i * 3 + 2, none⟩) (.inl rfl) _
  refine ⟨?_, fun j hj => ?_⟩
  · have h2 := Has.put h.at_ (i * 3 + 2) (.int .i64 v)
    rw [mk_set] at h2
    have e : (Dv.mk (3 * N) fun y => if y = i * 3 + 2 then Value.int .i64 v else cellR c y) = Dv.mk (3 * N) (cellR fun j => if j = i then { c i with held := v } else c j) := mk_ext _ _ _ fun j hj => by
      unfold cellR
      by_cases e : j / 3 = i
      · simp only [e, if_true]
        have hd : j = i * 3 ∨ j = i * 3 + 1 ∨ j = i * 3 + 2 := by omega
        rcases hd with e2 | e2 | e2
        · rw [if_neg (by omega), if_pos (by omega), if_pos (by omega)]
        · rw [if_neg (by omega), if_neg (by omega), if_pos (by omega), if_neg (by omega), if_pos (by omega)]
          rfl
        · rw [if_pos e2, if_neg (by omega), if_neg (by omega)]
      · rw [if_neg (by omega)]
        simp only [e, if_false]
    rw [e] at h2
    exact h2
  · by_cases e : j = i
    · subst e
      simp only [if_true]
      exact own_apart (h.row j hj) h.at_ hc (by decide)
    · simp only [e, if_false]
      exact own_apart (h.row j hj) h.at_ hc (by decide)
section
variable {w : World} {p cb kb pd a b c N : Nat} {B : BgV} {D : Dv.St} {cs : Nat → RC} {kp : Nat → Bool}
theorem RefS.chg {w' : World} {g : Nat} (h : RefS w p cb kb pd a b c N B D cs kp) (hc : Chg (· = g) w w') (hn : ¬ ROwn pd a b c g) (h1 : p ≠ g) {cs' : Nat → RC} {kp' : Nat → Bool} (h2 : CellsIs w' cb N cs') (h3 : Has w' kb 4 (Dv.mk N fun i => .bool (kp' i))) : RefS w' p cb kb pd a b c N B D cs' kp' :=
  ⟨h.obj.over hc h1, h2, h3, ref_chg h.dev hc hn, h.size⟩
theorem RefS.put (h : RefS w p cb kb pd a b c N B D cs kp) (hn : ¬ ROwn pd a b c cb) {i : Nat} (hi : i < N) (r : RC) (hr : OwnI w 0 r.v r.kids) :
    RefS (((w.setCell ⟨cb, i * 3, none⟩ (.bool r.is)).setCell ⟨cb, i * 3 + 1, none⟩ r.v).setCell ⟨cb, i * 3 + 2, none⟩ (.int .i64 r.held)) p cb kb pd a b c N B D (fun j => if j = i then r else cs j) kp := by
  have hc : Chg (· = cb) w (((w.setCell ⟨cb, i * 3, none⟩ (.bool r.is)).setCell ⟨cb, i * 3 + 1, none⟩ r.v).setCell ⟨cb, i * 3 + 2, none⟩ (.int .i64 r.held)) :=
    (((Chg.refl (· = cb) w).setCell (p := ⟨cb, i * 3, none⟩) (.inl rfl) _).setCell (p := ⟨cb, i * 3 + 1, none⟩) (.inl rfl) _).setCell (p := ⟨cb, i * 3 + 2, none⟩) (.inl rfl) _
  exact h.chg hc hn (has_ne h.obj h.cells.at_ (by decide)) (h.cells.put hi r hr) (h.kept.over hc (has_ne h.kept h.cells.at_ (by decide)))
theorem RefS.hold (h : RefS w p cb kb pd a b c N B D cs kp) (hn : ¬ ROwn pd a b c cb) {i : Nat} (hi : i < N) (v : Int) :
    RefS (w.setCell ⟨cb, i * 3 + 2, none⟩ (.int .i64 v)) p cb kb pd a b c N B D (fun j => if j = i then { cs i with held := v } else cs j) kp := by
  have hc : Chg (· = cb) w (w.setCell ⟨cb, i * 3 + 2, none⟩ (.int .i64 v)) := (Chg.refl (· = cb) w).setCell (p := ⟨cb, i * 3 + 2, none⟩) (.inl rfl) _
  exact h.chg hc hn (has_ne h.obj h.cells.at_ (by decide)) (h.cells.held hi v) (h.kept.over hc (has_ne h.kept h.cells.at_ (by decide)))
theorem RefS.keep (h : RefS w p cb kb pd a b c N B D cs kp) (hn : ¬ ROwn pd a b c kb) {i : Nat} (hi : i < N) (v : Bool) :
    RefS (w.setCell ⟨kb, i, none⟩ (.bool v)) p cb kb pd a b c N B D cs (fun j => if j = i then v else kp j) := by
  have hc : Chg (· = kb) w (w.setCell ⟨kb, i, none⟩ (.bool v)) := (Chg.refl (· = kb) w).setCell (p := ⟨kb, i, none⟩) (.inl rfl) _
  refine h.chg hc hn (has_ne h.obj h.kept (by decide)) ⟨h.cells.at_.over hc (has_ne h.cells.at_ h.kept (by decide)), fun j hj => own_apart (h.cells.row j hj) h.kept hc (by decide)⟩ ?_
  have h2 := Has.put h.kept i (.bool v)
  rw [mk_set] at h2
  have e : (Dv.mk N fun y => if y = i then Value.bool v else .bool (kp y)) = Dv.mk N fun y => .bool (if y = i then v else kp y) := mk_ext _ _ _ fun j hj => by split <;> rfl
  rw [e] at h2
  exact h2
end
/-- What a store is that was opened, by the document. -/
structure OpenedR (D : Dv.St) (root : Int) (N : Nat) (cs : Nat → RC) (kp : Nat → Bool) : Prop where
  yes : ∀ i : Nat, i < N → Hangs (gD D) root i → (cs i).is = true ∧ kp i = true ∧ gD D i = some (cs i).kids ∧ (cs i).held = if (i : Int) = root then 1 else 0
  no : ∀ i : Nat, i < N → ¬ Hangs (gD D) root i → cs i = noRC ∧ kp i = false
  few : ∀ i, (cs i).kids.length ≤ 16
/-- What Open comes to, by the document. -/
def RNil (e : Ending) (E : Int) : Prop := e = .returned (.tuple #[.pointer none, .int .i64 E])
def RSto (e : Ending) (w' : World) (pd a b c N : Nat) (B : BgV) (D : Dv.St) (P : (Nat → RC) → (Nat → Bool) → Prop) : Prop :=
  ∃ p cb kb cs kp, e = .returned (.tuple #[.pointer (some ⟨p, 0, none⟩), .int .i64 0]) ∧ RefS w' p cb kb pd a b c N B D cs kp ∧ P cs kp
def ROpen (pd a b c N : Nat) (D : Dv.St) (e : Ending) (w' : World) : Prop :=
  ((newV D).2 ≠ 0 ∧ RNil e (newV D).2) ∨
  ((newV D).2 = 0 ∧ (newV D).1.2.1 = 0 ∧ RSto e w' pd a b c N (newV D).1 D (fun cs kp => (∀ i, cs i = noRC) ∧ ∀ i, kp i = false)) ∨
  ((newV D).2 = 0 ∧ (newV D).1.2.1 ≠ 0 ∧ hgt (gD D) 64 (newV D).1.2.1 = none ∧ RNil e 5) ∨
  ((newV D).2 = 0 ∧ (newV D).1.2.1 ≠ 0 ∧ (hgt (gD D) 64 (newV D).1.2.1).isSome = true ∧ RSto e w' pd a b c N (newV D).1 D (OpenedR D (newV D).1.2.1 N))
theorem parseG_root {size : Int} (hz : 0 < size) {bytes : ByteArray} {b : BgV} (h : parseG size bytes = some b) : 1 ≤ b.1 ∧ b.1 ≤ 1099511627776 ∧ 0 ≤ b.2.1 ∧ b.2.1 < size ∧ b.2.1 ≠ 1 := by
  rw [parseG_e hz] at h
  split at h
  · unfold beginE bgE1 bgE2 bgE3 bgE4 bgE5 at h
    split at h
    · rename_i hc
      injection h with h
      subst h
      refine ⟨hc.2.2.2.1, hc.2.2.2.2.1, ?_, hc.2.2.2.2.2.2, hc.2.2.2.2.2.1⟩
      show 0 ≤ (rnE _ 4).1
      generalize (rnE (rwE (some (hdE bytes)) 1).2 6).2 = st
      cases st with
      | none => exact Int.le_refl _
      | some r =>
        unfold rnE
        cases hg : Oct.gotNum r 4 with
        | num v q =>
          obtain ⟨m, rfl, _⟩ := gotNum_nat hg
          simp only [hg]
          omega
        | txt t q => simp [hg]
        | bad q y => simp [hg]
    · cases h
  · cases h
end Go.Proofs.YthejlenafjnmkaaGreat.Sto
