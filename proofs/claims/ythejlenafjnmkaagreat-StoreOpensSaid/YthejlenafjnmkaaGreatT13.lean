import Derived.Test.YthejlenafjnmkaaGreatT12
import Derived.Test.YthejlenafjnmkaaGreatT10
import Derived.Test.YthejlenafjnmkaaGreatT11
import Derived.Deep.QuietTactic
import Derived.BigQuiet

/- What holds of a store whatever befalls it: in pure terms. -/
namespace Go.Proofs.YthejlenafjnmkaaGreat.Sto
open Go.RowKit
open Dv (DoV)
set_option linter.unusedVariables false

/-- What lies on a device fits. -/
def Small (d : Dv.St) : Prop := ∀ i b, d.dirty i = some b ∨ d.kept i = some b → b.size ≤ 4096
theorem Small.act {d : Dv.St} (h : Small d) : Small (Dv.act d) ∧ (Dv.act d).size = d.size := by
  unfold Dv.act
  split
  · exact ⟨h, rfl⟩
  · split
    · exact ⟨h, rfl⟩
    · exact ⟨h, rfl⟩
theorem Small.put {d : Dv.St} (h : Small d) (i : Int) (b : ByteArray) (hb : b.size ≤ 4096) : Small (Dv.putD d i b) ∧ (Dv.putD d i b).size = d.size := by
  refine ⟨fun j c hc => ?_, rfl⟩
  rcases hc with hc | hc
  · have hc : (if j = i then some b else d.dirty j) = some c := hc
    split at hc
    · injection hc with hc
      subst hc
      exact hb
    · exact h j c (.inl hc)
  · exact h j c (.inr hc)
theorem Small.wr {d : Dv.St} (h : Small d) (i : Int) (b : ByteArray) : Small (Dv.wrD d i b) ∧ (Dv.wrD d i b).size = d.size := by
  unfold Dv.wrD
  split
  · rename_i hq
    unfold Dv.writeD
    split
    · exact h.act
    · have := h.act.1.put i b hq.2.2
      exact ⟨this.1, this.2.trans h.act.2⟩
  · exact ⟨h, rfl⟩
theorem Small.fl {d : Dv.St} (h : Small d) : Small (Dv.flD d) ∧ (Dv.flD d).size = d.size := by
  unfold Dv.flD
  split
  · unfold Dv.flushD
    split
    · exact h.act
    · refine ⟨fun j c hc => ?_, h.act.2⟩
      rcases hc with hc | hc
      · cases hc
      · have hc : ((d.dirty j).or (d.kept j)) = some c := hc
        cases hd : d.dirty j with
        | some x =>
          rw [hd] at hc
          exact h j c (.inl (hd.trans hc))
        | none =>
          rw [hd] at hc
          exact h j c (.inr hc)
  · exact ⟨h, rfl⟩
theorem Small.lay {d : Dv.St} (h : Small d) (g ro : Int) (t : ByteArray) : Small (layD d g ro t) ∧ (layD d g ro t).size = d.size := by
  unfold layD
  split
  · have := h.fl.1.wr (g % 2) (beginB g ro (Dv.flD d).size t)
    exact ⟨this.1, this.2.trans h.fl.2⟩
  · exact h.fl
theorem Small.com {s : SV} (h : Small s.dev) (ro : Int) (t : ByteArray) : Small (commitD s ro t) ∧ (commitD s ro t).size = s.dev.size := by
  unfold commitD
  split
  · have := (h.lay (s.gen + 1) ro t).1.fl
    exact ⟨this.1, this.2.trans (h.lay (s.gen + 1) ro t).2⟩
  · exact h.lay (s.gen + 1) ro t
theorem Small.read {d : Dv.St} (h : Small d) (i : Int) : (Dv.rdS d i).size ≤ 4104 := by
  unfold Dv.rdS
  split
  · unfold Dv.readS
    cases h1 : d.dirty i with
    | some x => exact Nat.le_trans (h i x (.inl h1)) (by decide)
    | none =>
      cases h2 : d.kept i with
      | some x => exact Nat.le_trans (h i x (.inr h2)) (by decide)
      | none => decide
  · decide
/-- What holds of a store upon N blocks that so many things have befallen. -/
structure Inv (N a : Nat) (s : SV) : Prop where
  acc : Acc N s.nodes []
  low : Low s
  size : s.dev.size = N
  two : 8 ≤ N ∧ N ≤ 40
  small : Small s.dev
  gen : 1 ≤ s.gen ∧ s.gen ≤ 1 + a
  held : ∀ z n, s.nodes z = some n → 0 ≤ n.held ∧ n.held ≤ a
  kept : ∀ z, s.kept z = true → ∃ i : Nat, z = i ∧ 2 ≤ i ∧ i < N
theorem Inv.more {N a : Nat} {s : SV} (h : Inv N a s) : Inv N (a + 1) s :=
  ⟨h.acc, h.low, h.size, h.two, h.small, ⟨h.gen.1, by have := h.gen.2; omega⟩, fun z n hz => by have := h.held z n hz; omega, h.kept⟩
theorem inv_nodes {N a : Nat} {s : SV} (h : Inv N a s) {f : Int → Option NodeV} (hacc : Acc N f []) (hlow : ∀ z n, f z = some n → 1 ≤ n.high ∧ n.high ≤ 64) (hh : ∀ z n, f z = some n → 0 ≤ n.held ∧ n.held ≤ a + 1) : Inv N (a + 1) { s with nodes := f } :=
  ⟨hacc, hlow, h.size, h.two, h.small, ⟨h.gen.1, by have := h.gen.2; show s.gen ≤ _; omega⟩, fun z n hz => by have := hh z n hz; omega, h.kept⟩
theorem inv_sub {N a : Nat} {s : SV} (h : Inv N a s) {f : Int → Option NodeV} (hacc : Acc N f []) (hs : Subn s.nodes f) : Inv N (a + 1) { s with nodes := f } :=
  inv_nodes h hacc (fun z n hz => by
    obtain ⟨m, hm, _, e2, _⟩ := hs z n hz
    rw [e2]
    exact h.low z m hm) (fun z n hz => by
    obtain ⟨m, hm, _, _, e3⟩ := hs z n hz
    rw [e3]
    have := h.held z m hm
    omega)
theorem held_all {f : Int → Option NodeV} {k q z : Int} {n : NodeV} (h : heldN f k q z = some n) : (z = k ∧ n.held = q) ∨ f z = some n := by
  unfold heldN at h
  by_cases e : z = k
  · rw [if_pos e] at h
    cases hf : f z with
    | none => rw [hf] at h; cases h
    | some m =>
      rw [hf] at h
      simp at h
      subst h
      exact .inl ⟨e, rfl⟩
  · rw [if_neg e] at h
    exact .inr h
theorem inv_held {N a : Nat} {s : SV} (h : Inv N a s) (k q : Int) (h0 : 0 ≤ q) (h1 : q ≤ a + 1) : Inv N (a + 1) { s with nodes := heldN s.nodes k q } :=
  inv_nodes h (acc_held h.acc k q) (fun z n hz => by
    obtain ⟨m, hm, _, e2, _⟩ := held_is hz
    rw [e2]
    exact h.low z m hm) (fun z n hz => by
    rcases held_all hz with ⟨_, e⟩ | e
    · rw [e]
      exact ⟨h0, h1⟩
    · have := h.held z n e
      omega)
theorem drop_acc {N a : Nat} {s : SV} (h : Inv N a s) {id : Int} {nd : NodeV} (hn : s.nodes id = some nd) (h1 : 1 ≤ nd.held) : Acc N (dropN s.nodes id nd.held) [] ∧ Subn (heldN s.nodes id (nd.held - 1)) (dropN s.nodes id nd.held) :=
  acc_leave 64 _ [] id (acc_held h.acc id (nd.held - 1)) (fun m hm => by
    obtain ⟨q, hq, _, e2, _⟩ := held_is hm
    rw [e2]
    exact (h.low id q hq).2)
theorem inv_drop {N a : Nat} {s : SV} (h : Inv N a s) {id : Int} {nd : NodeV} (hn : s.nodes id = some nd) (h1 : 1 ≤ nd.held) : Inv N (a + 1) { s with nodes := dropN s.nodes id nd.held } := by
  obtain ⟨ha, hs⟩ := drop_acc h hn h1
  have hi := h.held id nd hn
  have hj := inv_held h id (nd.held - 1) (by omega) (by omega)
  exact inv_nodes h ha (fun z n hz => by
    obtain ⟨m, hm, _, e2, _⟩ := hs z n hz
    rw [e2]
    exact hj.low z m hm) (fun z n hz => by
    obtain ⟨m, hm, _, _, e3⟩ := hs z n hz
    rw [e3]
    have := hj.held z m hm
    omega)
/-- What naming does. -/
theorem bumps_at (z : Int) : ∀ (l : List Int) (f : Int → Option NodeV) (n : NodeV), f z = some n → 0 ≤ n.named → n.named + l.length ≤ 1000000000000 → bumps f l z = some { n with named := n.named + ((l.count z : Nat) : Int) }
  | [], f, n, h, _, _ => by
    show f z = _
    rw [h]
    simp
  | k :: l, f, n, h, h0, h1 => by
    show bumps (bump1 f k) l z = _
    rw [List.length_cons] at h1
    by_cases e : z = k
    · subst e
      have hb : bump1 f z z = some { n with named := n.named + 1 } := by
        unfold bump1
        rw [if_pos rfl, h]
        show some { n with named := wrap64 (n.named + 1) } = _
        rw [show wrap64 (n.named + 1) = n.named + 1 by unfold wrap64; omega]
      rw [bumps_at z l _ _ hb (by show 0 ≤ n.named + 1; omega) (by show n.named + 1 + _ ≤ _; omega), List.count_cons_self]
      congr 2
      show n.named + 1 + _ = _
      omega
    · have hb : bump1 f k z = some n := by
        unfold bump1
        rw [if_neg e]
        exact h
      rw [bumps_at z l _ _ hb h0 (by omega), List.count_cons_of_ne (Ne.symm e)]
theorem bumps_none (z : Int) (l : List Int) (f : Int → Option NodeV) (h : f z = none) : bumps f l z = none := by
  have := bumps_some z l f
  rw [h] at this
  cases hb : bumps f l z with
  | none => rfl
  | some _ => rw [hb] at this; cases this
theorem highs_le {f : Int → Option NodeV} : ∀ (l : List Int) (m : Int), m ≤ highs f l m ∧ ∀ k ∈ l, ∀ n, f k = some n → n.high ≤ highs f l m
  | [], m => ⟨Int.le_refl _, fun k hk => by cases hk⟩
  | x :: l, m => by
    have h := highs_le (f := f) l (max m ((f x).map (·.high) |>.getD 0))
    unfold highs
    refine ⟨by omega, fun k hk n hn => ?_⟩
    rcases List.mem_cons.1 hk with e | hk
    · subst e
      rw [hn] at h ⊢
      have := h.1
      simp at this ⊢
      omega
    · exact h.2 k hk n hn
theorem above_lt {f : Int → Option NodeV} {l : List Int} {k : Int} {n : NodeV} (hk : k ∈ l) (hn : f k = some n) : n.high < aboveV f l := by
  have := (highs_le l 0).2 k hk n hn
  unfold aboveV
  omega
/-- A block more. -/
theorem acc_add {N : Nat} {s : SV} (h : Acc N s.nodes []) (hN : N ≤ 40) {id : Nat} (h2 : 2 ≤ id) (hid : id < N) (hf : s.nodes id = none) {kids : List Int} (hl : kids.length ≤ 16) (hk : ∀ k ∈ kids, (s.nodes k).isSome = true) : Acc N (addV s id kids).nodes [] := by
  have hne : ∀ k ∈ kids, k ≠ (id : Int) := fun k hk' e => by
    have := hk k hk'
    rw [e, hf] at this
    cases this
  have hnk : ∀ z n, s.nodes z = some n → ∀ k ∈ n.kids, k ≠ (id : Int) := fun z n hz k hk' e => by
    obtain ⟨m, hm, _⟩ := (h.down z n hz).2.2 k hk'
    rw [e, hf] at hm
    cases hm
  have hold : ∀ z n, s.nodes z = some n → (addV s id kids).nodes z = some { n with named := n.named + ((kids.count z : Nat) : Int) } := fun z n hz => by
    have e : z ≠ (id : Int) := fun e => by rw [e, hf] at hz; cases hz
    refine bumps_at z kids _ n (by unfold insN; rw [if_neg e]; exact hz) (by have := h.cnt z n hz; omega) ?_
    have := h.few z n hz
    omega
  have hnew : (addV s id kids).nodes id = some (newNode s kids) := by
    have h1 : insN s.nodes id (newNode s kids) id = some (newNode s kids) := if_pos rfl
    have h2 := bumps_at id kids _ _ h1 (by show (0 : Int) ≤ 0; omega) (by show (0 : Int) + _ ≤ _; omega)
    have hc : kids.count (id : Int) = 0 := List.count_eq_zero.2 fun hk' => hne _ hk' rfl
    rw [hc] at h2
    exact h2
  have hinv : ∀ z n, (addV s id kids).nodes z = some n → (z = (id : Int) ∧ n = newNode s kids) ∨ ∃ m, s.nodes z = some m ∧ n = { m with named := m.named + ((kids.count z : Nat) : Int) } := fun z n hz => by
    by_cases e : z = (id : Int)
    · subst e
      rw [hnew] at hz
      injection hz with hz
      exact .inl ⟨rfl, hz.symm⟩
    · cases hm : s.nodes z with
      | none =>
        rw [show (addV s id kids).nodes z = none from bumps_none z kids _ (by unfold insN; rw [if_neg e]; exact hm)] at hz
        cases hz
      | some m =>
        rw [hold z m hm] at hz
        injection hz with hz
        exact .inr ⟨m, rfl, hz.symm⟩
  have hkk : ∀ z, kidsN ((addV s id kids).nodes z) = if z = (id : Int) then kids else kidsN (s.nodes z) := fun z => by
    by_cases e : z = (id : Int)
    · subst e
      rw [hnew, if_pos rfl]
      rfl
    · rw [if_neg e]
      cases hm : s.nodes z with
      | none => rw [show (addV s id kids).nodes z = none from bumps_none z kids _ (by unfold insN; rw [if_neg e]; exact hm)]
      | some m => rw [hold z m hm]; rfl
  have htot : ∀ z, tot N (addV s id kids).nodes z = tot N s.nodes z + kids.count z := fun z => by
    refine sum_one _ _ id _ (fun j hj => ?_) ?_ N hid
    · rw [hkk, if_neg (by omega)]
    · rw [hkk, if_pos rfl, hf]
      simp [kidsN]
  have hdown : Down (addV s id kids).nodes := fun z n hz => by
    rcases hinv z n hz with ⟨e, e2⟩ | ⟨m, hm, e2⟩
    · subst e2
      refine ⟨?_, by show kids.length ≤ 1000; omega, fun k hk' => ?_⟩
      · show 1 ≤ aboveV s.nodes kids
        have := (highs_le (f := s.nodes) kids 0).1
        unfold aboveV
        omega
      · obtain ⟨m, hm⟩ := Option.isSome_iff_exists.1 (hk k hk')
        exact ⟨{ m with named := m.named + ((kids.count k : Nat) : Int) }, hold k m hm, show m.high < aboveV s.nodes kids from above_lt hk' hm⟩
    · subst e2
      obtain ⟨a, b, c⟩ := h.down z m hm
      refine ⟨a, b, fun k hk' => ?_⟩
      obtain ⟨q, hq, hh⟩ := c k hk'
      exact ⟨_, hold k q hq, hh⟩
  have hcnt : ∀ z n, (addV s id kids).nodes z = some n → n.named = ((tot N (addV s id kids).nodes z : Nat) : Int) := fun z n hz => by
    rw [htot]
    rcases hinv z n hz with ⟨e, e2⟩ | ⟨m, hm, e2⟩
    · subst e e2
      have hc : kids.count (id : Int) = 0 := List.count_eq_zero.2 fun hk' => hne _ hk' rfl
      have ht : tot N s.nodes id = 0 := by
        have : tot N s.nodes id ≤ N * 0 := sum_le _ 0 N fun j _ => by
          cases hj : s.nodes (j : Int) with
          | none => simp [kidsN]
          | some m => exact Nat.le_of_eq (List.count_eq_zero.2 fun hk' => hnk _ m hj _ hk' rfl)
        omega
      rw [hc, ht]
      rfl
    · subst e2
      have := h.cnt z m hm
      show m.named + _ = _
      rw [List.count_nil] at this
      omega
  refine ⟨hdown, fun z hz => ?_, fun z n hz => by rw [List.count_nil, Nat.add_zero]; exact hcnt z n hz, fun z n hz => ?_, fun k hk' => by cases hk'⟩
  · rw [addV_some] at hz
    by_cases e : z = (id : Int)
    · exact ⟨id, e, h2, hid⟩
    · refine h.ids z ?_
      simpa [e] using hz
  · rw [hcnt z n hz]
    have := tot_le (N := N) hdown z
    have : N * 1000 ≤ 40 * 1000 := Nat.mul_le_mul_right _ hN
    omega
theorem add_is {N : Nat} {s : SV} (h : Acc N s.nodes []) {id : Nat} (hf : s.nodes id = none) {kids : List Int} (hl : kids.length ≤ 16) {z : Int} {n : NodeV} (hz : (addV s id kids).nodes z = some n) :
    (z = (id : Int) ∧ n.held = 0 ∧ n.kids = kids ∧ n.high = aboveV s.nodes kids) ∨ ∃ m, s.nodes z = some m ∧ n.kids = m.kids ∧ n.high = m.high ∧ n.held = m.held := by
  by_cases e : z = (id : Int)
  · subst e
    have h1 : insN s.nodes id (newNode s kids) id = some (newNode s kids) := if_pos rfl
    have h2 := bumps_at id kids _ _ h1 (by show (0 : Int) ≤ 0; omega) (by show (0 : Int) + _ ≤ _; omega)
    have h3 : (addV s id kids).nodes id = some { newNode s kids with named := (newNode s kids).named + ((kids.count (id : Int) : Nat) : Int) } := h2
    rw [h3] at hz
    injection hz with hz
    subst hz
    exact .inl ⟨rfl, rfl, rfl, rfl⟩
  · cases hm : s.nodes z with
    | none =>
      rw [show (addV s id kids).nodes z = none from bumps_none z kids _ (by unfold insN; rw [if_neg e]; exact hm)] at hz
      cases hz
    | some m =>
      have h1 := bumps_at z kids (insN s.nodes id (newNode s kids)) m (by unfold insN; rw [if_neg e]; exact hm) (by have := h.cnt z m hm; omega) (by have := h.few z m hm; omega)
      have h2 : (addV s id kids).nodes z = some { m with named := m.named + ((kids.count z : Nat) : Int) } := h1
      rw [h2] at hz
      injection hz with hz
      subst hz
      exact .inr ⟨m, rfl, rfl, rfl, rfl⟩
theorem least_in {s : SV} {j : Nat} (h : least s = some j) : s.nodes j = none ∧ s.kept j = false ∧ 2 ≤ j ∧ j < 2 + (s.dev.size - 2) := by
  obtain ⟨h1, h2, h3⟩ := least_is _ _ _ h
  refine ⟨free_none h1, ?_, h2, h3⟩
  unfold freeB at h1
  simp at h1
  exact h1.1
theorem inv_put {N a : Nat} {s : SV} (h : Inv N a s) (kids : List Int) (data : ByteArray) : Inv N (a + 1) (putV s kids data).2.2 := by
  unfold putV
  split
  · rename_i hc
    obtain ⟨h1, h2, h3, h4⟩ := canB_parts hc
    cases hL : least s with
    | none => exact h.more
    | some j =>
      obtain ⟨k1, k2, k3, k4⟩ := least_in hL
      have hj : j < N := by have := h.size; have := h.two; omega
      have hw := h.small.wr j (blockB kids data)
      by_cases h0 : Dv.wrE s.dev j (blockB kids data) = 0
      · rw [show putAt s kids data (some j) = (((j : Nat) : Int), 0, addV { s with dev := Dv.wrD s.dev j (blockB kids data) } j kids) from if_pos h0]
        have ha := acc_add h.acc h.two.2 k3 hj k1 h1 h3
        refine ⟨ha, fun z n hz => ?_, hw.2.trans h.size, h.two, hw.1, ⟨h.gen.1, by have := h.gen.2; show s.gen ≤ _; omega⟩, fun z n hz => ?_, h.kept⟩
        · rcases add_is h.acc k1 h1 hz with ⟨_, _, _, e⟩ | ⟨m, hm, _, e, _⟩
          · rw [e]
            have := (highs_le (f := s.nodes) kids 0).1
            unfold aboveV at h4 ⊢
            omega
          · rw [e]
            exact h.low z m hm
        · rcases add_is h.acc k1 h1 hz with ⟨_, e, _⟩ | ⟨m, hm, _, _, e⟩
          · rw [e]
            omega
          · rw [e]
            have := h.held z m hm
            omega
      · rw [show putAt s kids data (some j) = (0, Dv.wrE s.dev j (blockB kids data), { s with dev := Dv.wrD s.dev j (blockB kids data) }) from if_neg h0]
        exact ⟨h.acc, h.low, hw.2.trans h.size, h.two, hw.1, ⟨h.gen.1, by have := h.gen.2; show s.gen ≤ _; omega⟩, fun z n hz => by have := h.held z n hz; omega, h.kept⟩
  · exact h.more
theorem keepV_in {f : Int → Option NodeV} : ∀ (n : Nat) (K : Int → Bool) (id z : Int), Down f → (f id).isSome = true → keepV f n K id z = true → K z = true ∨ (f z).isSome = true
  | 0, K, id, z, _, _, h => .inl h
  | n + 1, K, id, z, hd, hs, h => by
    obtain ⟨nd, hn⟩ := Option.isSome_iff_exists.1 hs
    unfold keepV at h
    split at h
    · exact .inl h
    · rw [hn] at h
      have h : nd.kids.foldl (keepV f n) (fun z => z == id || K z) z = true := h
      have hk : ∀ (l : List Int) (K' : Int → Bool), (∀ k ∈ l, (f k).isSome = true) → (∀ z, K' z = true → K z = true ∨ (f z).isSome = true) → l.foldl (keepV f n) K' z = true → K z = true ∨ (f z).isSome = true := by
        intro l
        induction l with
        | nil => intro K' _ h2 h3; exact h2 z h3
        | cons k l ih =>
          intro K' h1 h2 h3
          refine ih _ (fun k hk => h1 k (List.mem_cons_of_mem _ hk)) (fun y hy => ?_) h3
          rcases keepV_in n K' k y hd (h1 k List.mem_cons_self) hy with e | e
          · exact h2 y e
          · exact .inr e
      refine hk nd.kids _ (fun k hk => ?_) (fun y hy => ?_) h
      · obtain ⟨m, hm, _⟩ := (hd id nd hn).2.2 k hk
        rw [hm]
        rfl
      · simp at hy
        rcases hy with e | e
        · rw [e]
          exact .inr hs
        · exact .inl e
theorem kept_in {N a : Nat} {s : SV} (h : Inv N a s) {root : Int} (hr : root = 0 ∨ (s.nodes root).isSome = true) {z : Int} (hz : keptOf s root z = true) : (s.nodes z).isSome = true := by
  unfold keptOf at hz
  split at hz
  · cases hz
  · rename_i h0
    rcases keepV_in 64 _ root z h.acc.down (hr.resolve_left h0) hz with e | e
    · cases e
    · exact e
theorem inv_commit {N a : Nat} {s : SV} (h : Inv N a s) {root : Int} (hr : root = 0 ∨ (s.nodes root).isSome = true) (note : ByteArray) : Inv N (a + 1) (commitV s root note) := by
  have hc := h.small.com root note
  unfold commitV
  split
  · refine ⟨h.acc, h.low, hc.2.trans h.size, h.two, hc.1, ⟨by have := h.gen.1; show 1 ≤ s.gen + 1; omega, by have := h.gen.2; show s.gen + 1 ≤ _; omega⟩, fun z n hz => by have := h.held z n hz; omega, fun z hz => ?_⟩
    exact h.acc.ids z (kept_in h hr hz)
  · exact ⟨h.acc, h.low, hc.2.trans h.size, h.two, hc.1, ⟨h.gen.1, by have := h.gen.2; show s.gen ≤ _; omega⟩, fun z n hz => by have := h.held z n hz; omega, h.kept⟩
end Go.Proofs.YthejlenafjnmkaaGreat.Sto
/- Whatever befalls a store: contract. -/
namespace Go.Proofs.YthejlenafjnmkaaGreat.Sto
open Go.RowKit
open Oct (Has Chg)
open Rws
open Dv (DoV)
open Mem (IMap)
set_option linter.unusedVariables false

/-- What a thing that befalls a store comes to: the error, and the store. -/
def DoesV (N : Nat) (s : SV) (k : DoV) (E : Int) (s' : SV) : Prop :=
  ((opM k.op = 5 ∨ opM k.op = 6) ∧ ((s.nodes k.i = none ∧ E = 22 ∧ s' = s) ∨ ∃ nd, s.nodes k.i = some nd ∧ E = 0 ∧ s' = { s with nodes := heldN s.nodes k.i (nd.held + 1) })) ∨
  (opM k.op = 7 ∧ (((s.nodes k.i = none ∨ ∃ nd, s.nodes k.i = some nd ∧ nd.held = 0) ∧ E = 22 ∧ s' = s) ∨ ∃ nd, s.nodes k.i = some nd ∧ 1 ≤ nd.held ∧ E = 0 ∧ s' = { s with nodes := dropN s.nodes k.i nd.held })) ∨
  (opM k.op = 8 ∧ E = 0 ∧ ∃ f, Acc N f [] ∧ Subn s.nodes f ∧ s' = { s with nodes := f }) ∨
  (opM k.op = 9 ∧ ((((k.i ≠ 0 ∧ s.nodes k.i = none) ∨ ((k.i = 0 ∨ (s.nodes k.i).isSome = true) ∧ 3900 < k.s.size)) ∧ E = 22 ∧ s' = s) ∨ ((k.i = 0 ∨ (s.nodes k.i).isSome = true) ∧ k.s.size ≤ 3900 ∧ E = commitE s k.i k.s ∧ s' = commitV s k.i k.s))) ∨
  (opM k.op = 10 ∧ E = (getV s k.i).2 ∧ s' = s) ∨
  (opM k.op ≠ 9 ∧ E = (putV s k.ks k.s).2.1 ∧ s' = (putV s k.ks k.s).2.2)
theorem inv_does {N a : Nat} {s s' : SV} {k : DoV} {E : Int} (h : Inv N a s) (hd : DoesV N s k E s') : Inv N (a + 1) s' := by
  rcases hd with ⟨_, ⟨_, _, e⟩ | ⟨nd, hn, _, e⟩⟩ | ⟨_, ⟨_, _, e⟩ | ⟨nd, hn, h1, _, e⟩⟩ | ⟨_, _, f, ha, hs, e⟩ | ⟨_, ⟨_, _, e⟩ | ⟨hr, _, _, e⟩⟩ | ⟨_, _, e⟩ | ⟨_, _, e⟩
  · rw [e]; exact h.more
  · rw [e]
    have := h.held _ nd hn
    exact inv_held h _ _ (by omega) (by omega)
  · rw [e]; exact h.more
  · rw [e]; exact inv_drop h hn h1
  · rw [e]; exact inv_sub h ha hs
  · rw [e]; exact h.more
  · rw [e]; exact inv_commit h hr _
  · rw [e]; exact h.more
  · rw [e]; exact inv_put h _ _
/-- What that changes of what was there. -/
def DoS (p : Nat) (F : Fr) (s : SV) (k : Nat) : Prop := ComS p F k ∨ AddS F s k
theorem dos_lt {w : World} {p : Nat} {F : Fr} {s : SV} (h : StoIs w p F s) {k : Nat} (hk : DoS p F s k) : k < w.heap.size := by
  rcases hk with (e | e | e | e | e) | (e | ⟨z, hz, e⟩)
  · rw [e]; exact h.obj.bound
  · rw [e]; exact h.kept.bound
  · rw [e]; exact (show Has w F.d _ _ from h.dev.obj).bound
  · rw [e]; exact h.dev.kept.bound
  · rw [e]; exact h.dev.dirt.bound
  · rw [e]; exact h.there.bound
  · rw [e]; exact node_lt h hz
theorem com_dos {p : Nat} {F : Fr} {s : SV} {k : Nat} (h : ComS p F k) : DoS p F s k := .inl h
theorem add_dos {p : Nat} {F : Fr} {s : SV} {k : Nat} (h : AddS F s k) : DoS p F s k := .inr h
theorem put_dos {p : Nat} {F : Fr} {s : SV} {k : Nat} (h : PutS F s k) : DoS p F s k := h.elim .inr (fun e => .inl (.inr (.inr e)))
theorem stands_same {w w' : World} {p : Nat} {F : Fr} {s s' : SV} (h : StoIs w' p F s') (hs : ∀ z, (s'.nodes z).isSome = true → (s.nodes z).isSome = true) : Stands w p F s.nodes s' w' := ⟨F, h, rfl, rfl, rfl, rfl, rfl, fun z hz => .inl ⟨hs z hz, rfl⟩⟩
/-- What is left behind a thing that befell a store. -/
def After (N : Nat) (p : Nat) (F : Fr) (s : SV) (k : DoV) (w : World) (E : Int) (w' : World) : Prop := ∃ s', DoesV N s k E s' ∧ Stands w p F s.nodes s' w' ∧ Chg (DoS p F s) w w'
def PostE (N : Nat) (p : Nat) (F : Fr) (s : SV) (k : DoV) (w : World) (e : Ending) (w' : World) : Prop := ∃ E, e = .returned (.int .i64 E) ∧ After N p F s k w E w'
def PostV (N : Nat) (p : Nat) (F : Fr) (s : SV) (k : DoV) (w : World) (e : Ending) (w' : World) : Prop := ∃ v, e = .returned (.int .i64 v) ∧ After N p F s k w 0 w'
def PostB (N : Nat) (p : Nat) (F : Fr) (s : SV) (k : DoV) (w : World) (e : Ending) (w' : World) : Prop := ∃ A n c t E, e = .returned (.tuple #[.agg #[.slice A n c, .string t], .int .i64 E]) ∧ After N p F s k w E w'
def PostP (N : Nat) (p : Nat) (F : Fr) (s : SV) (k : DoV) (w : World) (e : Ending) (w' : World) : Prop := ∃ v E, e = .returned (.tuple #[.int .i64 v, .int .i64 E]) ∧ After N p F s k w E w'
theorem hold_post (N a : Nat) (p : Nat) (F : Fr) (s : SV) (k : DoV) (hI : Inv N a s) (ha : a ≤ 1000) (hk : opM k.op = 5 ∨ opM k.op = 6) (w : World) (h : StoIs w p F s) :
    Calls Tryz.prog 29 #[.pointer (some ⟨p, 0, none⟩), .int .i64 k.i] w (PostE N p F s k w) := by
  cases hn : s.nodes k.i with
  | none =>
    refine (hold_bad p F s k.i hn w h).mono ?_
    rintro e w' ⟨rfl, rfl⟩
    exact ⟨22, rfl, s, .inl ⟨hk, .inl ⟨hn, rfl, rfl⟩⟩, stands_same h (fun _ h => h), Chg.refl _ _⟩
  | some nd =>
    have := hI.held _ nd hn
    refine (hold_sto p F s k.i nd hn this.1 (by omega) w h).mono ?_
    rintro e w' ⟨rfl, h1, h2⟩
    exact ⟨0, rfl, _, .inl ⟨hk, .inr ⟨nd, hn, rfl, rfl⟩⟩, stands_same h1 (fun z hz => by rw [← heldN_some s.nodes k.i (nd.held + 1) z]; exact hz), h2.mono fun q hq => .inr (.inr ⟨k.i, by rw [hn]; rfl, hq⟩)⟩
theorem drop_post (N a : Nat) (p : Nat) (F : Fr) (s : SV) (k : DoV) (hI : Inv N a s) (ha : a ≤ 1000) (hk : opM k.op = 7) (w : World) (h : StoIs w p F s) :
    Calls Tryz.prog 54 #[.pointer (some ⟨p, 0, none⟩), .int .i64 k.i] w (PostE N p F s k w) := by
  by_cases hb : s.nodes k.i = none ∨ ∃ nd, s.nodes k.i = some nd ∧ nd.held = 0
  · refine (drop_bad p F s k.i hb w h).mono ?_
    rintro e w' ⟨rfl, rfl⟩
    exact ⟨22, rfl, s, .inr (.inl ⟨hk, .inl ⟨hb, rfl, rfl⟩⟩), stands_same h (fun _ h => h), Chg.refl _ _⟩
  · cases hn : s.nodes k.i with
    | none => exact (hb (.inl hn)).elim
    | some nd =>
      have hh := hI.held _ nd hn
      have h1 : 1 ≤ nd.held := by
        rcases Int.lt_or_eq_of_le hh.1 with q | q
        · omega
        · exact (hb (.inr ⟨nd, hn, q.symm⟩)).elim
      refine (drop_sto p F N s hI.acc hI.low k.i nd hn h1 (by omega) w h).mono ?_
      rintro e w' ⟨rfl, h2, h3⟩
      exact ⟨0, rfl, _, .inr (.inl ⟨hk, .inr ⟨nd, hn, h1, rfl, rfl⟩⟩), stands_same h2 (fun z hz => by rw [← heldN_some s.nodes k.i (nd.held - 1) z]; exact (drop_acc hI hn h1).2.isSome hz), h3.mono fun q hq => add_dos hq⟩
theorem sweep_post (N a : Nat) (p : Nat) (F : Fr) (s : SV) (k : DoV) (hI : Inv N a s) (hk : opM k.op = 8) (w : World) (h : StoIs w p F s) :
    Calls Tryz.prog 55 #[.pointer (some ⟨p, 0, none⟩)] w (PostV N p F s k w) := by
  refine (sweep_sto p F N s hI.acc hI.low w h).mono ?_
  rintro e w' ⟨f, v, rfl, h1, h2, h3, h4⟩
  exact ⟨v, rfl, _, .inr (.inr (.inl ⟨hk, rfl, f, h2, h3, rfl⟩)), stands_same h1 (fun z hz => h3.isSome hz), h4.mono fun q hq => add_dos hq⟩
theorem commit_post (N a : Nat) (p : Nat) (F : Fr) (s : SV) (k : DoV) (hI : Inv N a s) (ha : a ≤ 1000) (hk : opM k.op = 9) (w : World) (h : StoIs w p F s) :
    Calls Tryz.prog 30 #[.pointer (some ⟨p, 0, none⟩), .int .i64 k.i, .string k.s] w (PostE N p F s k w) := by
  have hg := hI.gen
  by_cases h1 : k.i ≠ 0 ∧ s.nodes k.i = none
  · refine (commit_none p F s k.i h1.1 h1.2 k.s w h).mono ?_
    rintro e w' ⟨rfl, rfl⟩
    exact ⟨22, rfl, s, .inr (.inr (.inr (.inl ⟨hk, .inl ⟨.inl h1, rfl, rfl⟩⟩))), stands_same h (fun _ h => h), Chg.refl _ _⟩
  · have hr : k.i = 0 ∨ (s.nodes k.i).isSome = true := by
      by_cases h0 : k.i = 0
      · exact .inl h0
      · cases hn : s.nodes k.i with
        | none => exact (h1 ⟨h0, hn⟩).elim
        | some _ => exact .inr rfl
    by_cases h2 : 3900 < k.s.size
    · refine (commit_long p F s k.i hr k.s h2 w h).mono ?_
      rintro e w' ⟨rfl, rfl⟩
      exact ⟨22, rfl, s, .inr (.inr (.inr (.inl ⟨hk, .inl ⟨.inr ⟨hr, h2⟩, rfl, rfl⟩⟩))), stands_same h (fun _ h => h), Chg.refl _ _⟩
    · have hsome : ∀ z, ((commitV s k.i k.s).nodes z).isSome = true → (s.nodes z).isSome = true := fun z hz => by
        unfold commitV at hz
        split at hz <;> exact hz
      by_cases h0 : k.i = 0
      · have hc := commit_zero p F s k.s (by omega) (by omega) (by omega) w h
        rw [← h0] at hc
        refine hc.mono ?_
        rintro e w' ⟨rfl, h3, h4⟩
        exact ⟨_, rfl, _, .inr (.inr (.inr (.inl ⟨hk, .inr ⟨hr, by omega, rfl, rfl⟩⟩))), stands_same h3 hsome, h4.mono fun q hq => com_dos hq⟩
      · obtain ⟨nd, hn⟩ := Option.isSome_iff_exists.1 (hr.resolve_left h0)
        refine (commit_sto p F s hI.low hI.acc.down k.i nd hn h0 k.s (by omega) (by omega) (by omega) w h).mono ?_
        rintro e w' ⟨rfl, h3, h4⟩
        exact ⟨_, rfl, _, .inr (.inr (.inr (.inl ⟨hk, .inr ⟨hr, by omega, rfl, rfl⟩⟩))), stands_same h3 hsome, h4.mono fun q hq => com_dos hq⟩
theorem get_post (N a : Nat) (p : Nat) (F : Fr) (s : SV) (k : DoV) (hI : Inv N a s) (hk : opM k.op = 10) (w : World) (h : StoIs w p F s) :
    Calls Tryz.prog 32 #[.pointer (some ⟨p, 0, none⟩), .int .i64 k.i] w (PostB N p F s k w) := by
  obtain ⟨x, hx⟩ : ∃ x, getV s k.i = x := ⟨_, rfl⟩
  obtain ⟨o, E⟩ := x
  have hd : DoesV N s k E s := .inr (.inr (.inr (.inr (.inl ⟨hk, by rw [hx], rfl⟩))))
  refine (get_sto p F s k.i w h (hI.small.read _) o E hx).mono ?_
  rintro e w' ⟨hq, hb⟩
  have hA : After N p F s k w E w' := ⟨s, hd, stands_same (h.below hb) (fun _ h => h), Chg.of_below hb _⟩
  cases o with
  | none => exact ⟨none, 0, 0, _, E, hq, hA⟩
  | some b =>
    obtain ⟨ks, t⟩ := b
    obtain ⟨v, hq, hov⟩ := hq
    obtain ⟨A5, c5, rfl⟩ := own_sl hov
    exact ⟨A5, ks.length, c5, t, E, hq, hA⟩
theorem put_post (N a : Nat) (p : Nat) (F : Fr) (s : SV) (k : DoV) (hk : opM k.op ≠ 9) (A : Option Addr) (n c : Nat) (hI : Inv N a s) (w : World) (h : StoIs w p F s) (hr : NumRow w A n k.ks) (hA : 0 < n → ∀ b off, A = some ⟨b, off, none⟩ → ¬ PutS F s b) :
    Calls Tryz.prog 28 #[.pointer (some ⟨p, 0, none⟩), .slice A n c, .string k.s] w (PostP N p F s k w) := by
  refine (put_sto p F s hI.low A n c k.ks k.s w h hr hA _ rfl).mono ?_
  rintro e w' ⟨rfl, h1, h2⟩
  exact ⟨_, _, rfl, _, .inr (.inr (.inr (.inr (.inr ⟨hk, rfl, rfl⟩)))), h1, h2.mono fun q hq => put_dos hq⟩
/-- A store stays where only a block of another kind has changed. -/
theorem StoIs.block {w w' : World} {p : Nat} {F : Fr} {s : SV} (h : StoIs w p F s) {g : Nat} {cs : Array Value} (hg : Has w g 51 cs) (hc : Chg (· = g) w w') : StoIs w' p F s := by
  have hdo : Has w F.d _ _ := h.dev.obj
  refine ⟨h.obj.over hc (has_ne h.obj hg (by decide)), h.dev.over hc.to (has_ne hdo hg (by decide)) (map_ne h.dev.kept hg) (map_ne h.dev.dirt hg), h.there.over hc.to (map_ne h.there hg), h.kept.over hc.to (map_ne h.kept hg), fun z n hz => ?_, h.inj, h.tk, h.tdk, h.tdd, h.kdk, h.kdd⟩
  obtain ⟨A, c, k1, k2⟩ := h.node z n hz
  exact ⟨A, c, k1.over hc (has_ne k1 hg (by decide)), own_apart k2 hg hc (by decide)⟩
/-- The answer is stored. -/
theorem After.stored {N p : Nat} {F : Fr} {s : SV} {k : DoV} {w w3 w4 w5 : World} {E : Int} (h : After N p F s k w3 E w4) (hb : Below w.heap.size w w3) {g : Nat} (hw : w.heap.size ≤ g) {cs : Array Value} (hg : Has w4 g 51 cs) (hc : Chg (· = g) w4 w5) : After N p F s k w E w5 := by
  obtain ⟨s', h1, ⟨F', i1, i2, i3, i4, i5, i6, i7⟩, h3⟩ := h
  refine ⟨s', h1, ⟨F', i1.block hg hc, i2, i3, i4, i5, i6, fun z hz => (i7 z hz).imp id fun q => Nat.le_trans hb.size q⟩, ((Chg.of_below hb (DoS p F s)).trans h3).step hc fun i hi e => by omega⟩
def DoesIs (N : Nat) (p : Nat) (F : Fr) (s : SV) (k : DoV) (w : World) (e : Ending) (w' : World) : Prop := ∃ v A n c t E, e = .returned (.tuple #[.int .i64 v, .agg #[.slice A n c, .string t], .int .i64 E]) ∧ After N p F s k w E w'
set_option maxRecDepth 100000 in
set_option maxHeartbeats 4000000 in
theorem does_sto (N a : Nat) (p dp : Nat) (F : Fr) (s : SV) (k : DoV) (A : Option Addr) (n c : Nat) (hI : Inv N a s) (ha : a ≤ 1000) (h11 : opM k.op < 11) (w : World) (h : StoIs w p F s) (hr : NumRow w A n k.ks) (hA : 0 < n → ∀ b off, A = some ⟨b, off, none⟩ → ¬ PutS F s b) :
    Calls Tryz.prog 21 #[.pointer (some ⟨p, 0, none⟩), .pointer (some ⟨dp, 0, none⟩), .agg #[.int .i64 k.op, .int .i64 k.i, .slice A n c, .string k.s]] w (DoesIs N p F s k w) := by
  have hr0 := (Has.fresh w 42 #[.int .i64 k.op, .int .i64 k.i, .slice A n c, .string k.s]).past (.cells #[.slice none 0 0, .string ⟨#[]⟩] 51)
  have hr1 := Has.fresh (w.alloc (.cells #[.int .i64 k.op, .int .i64 k.i, .slice A n c, .string k.s] 42)) 51 #[.slice none 0 0, .string ⟨#[]⟩]
  rw [World.size_alloc] at hr1
  have hB : Below w.heap.size w ((w.alloc (.cells #[.int .i64 k.op, .int .i64 k.i, .slice A n c, .string k.s] 42)).alloc (.cells #[.slice none 0 0, .string ⟨#[]⟩] 51)) := ((Below.refl _ w).alloc (Nat.le_refl _) _).alloc (by simp) _
  have HO := Lib.hid (op_any k.op k.i (.string k.s) (.slice A n c) ((w.alloc (.cells #[.int .i64 k.op, .int .i64 k.i, .slice A n c, .string k.s] 42)).alloc (.cells #[.slice none 0 0, .string ⟨#[]⟩] 51)))
  have tail : ∀ w3, Below ((w.alloc (.cells #[.int .i64 k.op, .int .i64 k.i, .slice A n c, .string k.s] 42)).alloc (.cells #[.slice none 0 0, .string ⟨#[]⟩] 51)).heap.size ((w.alloc (.cells #[.int .i64 k.op, .int .i64 k.i, .slice A n c, .string k.s] 42)).alloc (.cells #[.slice none 0 0, .string ⟨#[]⟩] 51)) w3 → StoIs w3 p F s ∧ NumRow w3 A n k.ks ∧ Has w3 w.heap.size 42 #[.int .i64 k.op, .int .i64 k.i, .slice A n c, .string k.s] ∧ Has w3 (w.heap.size + 1) 51 #[.slice none 0 0, .string ⟨#[]⟩] ∧ Below w.heap.size w w3 := fun w3 hb => by
    have hq := hB.trans (hb.mono (by simp; omega))
    exact ⟨h.below hq, hr.below hq, has_blw hr0 hb, has_blw hr1 hb, hq⟩
  have HT := Lib.hid tail
  have HI := Lib.hid hI
  have HAA := Lib.hid hA
  have HDS := Lib.hid (fun q (hq : DoS p F s q) => dos_lt h hq)
  clear h hr hr0 hr1 hB tail hI hA
  have g11 : (opM k.op == 11) = false := beq_eq_false_iff_ne.2 (by omega)
  have HA1 := Lib.hid ha
  obtain ⟨m, hm⟩ : ∃ m, opM k.op = m := ⟨_, rfl⟩
  rw [hm] at HO g11
  have HM := Lib.hid hm
  clear hm h11 ha
  by_cases k5 : m = 5
  · subst k5
    go_enter Tryz.func21, Tryz.ntmps21
    go_wp2_with fail
    refine HO.out.mono ?_
    rintro e w3 ⟨rfl, hb3⟩
    obtain ⟨hn3, hx3, hd3, hk3, hw3⟩ := HT.out w3 hb3
    have HK3 := Lib.hid hk3
    have HW3 := Lib.hid hw3
    have d0 := Has.at_ hd3 0
    have d1 := Has.at_ hd3 1
    have d2 := Has.at_ hd3 2
    have d3 := Has.at_ hd3 3
    simp at d0 d1 d2 d3
    have HC := Lib.hid (hold_post N a p F s k HI.out HA1.out (.inl HM.out) w3 hn3)
    clear hb3 hn3 hx3 hd3 hk3 hw3 HO HT
    generalize k.i = KI at *
    generalize k.s = KS at *
    go_wp2_with fail
    refine HC.out.mono ?_
    rintro e w4 ⟨E, rfl, hAf⟩
    have hk4 : Has w4 (w.heap.size + 1) 51 #[.slice none 0 0, .string ⟨#[]⟩] := by
      obtain ⟨_, _, _, hc⟩ := hAf
      exact HK3.out.over hc fun e => by have := HDS.out _ e; omega
    have j0 := Has.at_ hk4 0
    have j1 := Has.at_ hk4 1
    have f0 := Has.free hk4 0
    have f1 := Has.free hk4 1
    simp at j0 j1
    have h22 := Has.put (Has.put hk4 0 (.slice none 0 0)) 1 (.string ⟨#[]⟩)
    have j2 := Has.at_ h22 0
    have j3 := Has.at_ h22 1
    simp at j2 j3
    have HAF := Lib.hid (hAf.stored HW3.out (show w.heap.size ≤ w.heap.size + 1 by omega) hk4 (((Chg.refl (· = w.heap.size + 1) w4).setCell (p := ⟨w.heap.size + 1, 0, none⟩) (.inl rfl) (.slice none 0 0)).setCell (p := ⟨w.heap.size + 1, 1, none⟩) (.inl rfl) (.string ⟨#[]⟩)))
    clear hAf hk4 h22
    go_wp2
    exact bodyPost_ret (v := .tuple #[.int .i64 0, .agg #[.slice none 0 0, .string ⟨#[]⟩], .int .i64 E]) (by simp [results, Tryz.results21, go_sem, j2, j3]) rfl ⟨_, _, _, _, _, _, rfl, HAF.out⟩
  · have t5 : (m == 5) = false := beq_eq_false_iff_ne.2 k5
    by_cases k6 : m = 6
    · subst k6
      go_enter Tryz.func21, Tryz.ntmps21
      go_wp2_with fail
      refine HO.out.mono ?_
      rintro e w3 ⟨rfl, hb3⟩
      obtain ⟨hn3, hx3, hd3, hk3, hw3⟩ := HT.out w3 hb3
      have HK3 := Lib.hid hk3
      have HW3 := Lib.hid hw3
      have d0 := Has.at_ hd3 0
      have d1 := Has.at_ hd3 1
      have d2 := Has.at_ hd3 2
      have d3 := Has.at_ hd3 3
      simp at d0 d1 d2 d3
      have HC := Lib.hid (hold_post N a p F s k HI.out HA1.out (.inr HM.out) w3 hn3)
      clear hb3 hn3 hx3 hd3 hk3 hw3 HO HT
      generalize k.i = KI at *
      generalize k.s = KS at *
      go_wp2_with fail
      refine HC.out.mono ?_
      rintro e w4 ⟨E, rfl, hAf⟩
      have hk4 : Has w4 (w.heap.size + 1) 51 #[.slice none 0 0, .string ⟨#[]⟩] := by
        obtain ⟨_, _, _, hc⟩ := hAf
        exact HK3.out.over hc fun e => by have := HDS.out _ e; omega
      have j0 := Has.at_ hk4 0
      have j1 := Has.at_ hk4 1
      have f0 := Has.free hk4 0
      have f1 := Has.free hk4 1
      simp at j0 j1
      have h22 := Has.put (Has.put hk4 0 (.slice none 0 0)) 1 (.string ⟨#[]⟩)
      have j2 := Has.at_ h22 0
      have j3 := Has.at_ h22 1
      simp at j2 j3
      have HAF := Lib.hid (hAf.stored HW3.out (show w.heap.size ≤ w.heap.size + 1 by omega) hk4 (((Chg.refl (· = w.heap.size + 1) w4).setCell (p := ⟨w.heap.size + 1, 0, none⟩) (.inl rfl) (.slice none 0 0)).setCell (p := ⟨w.heap.size + 1, 1, none⟩) (.inl rfl) (.string ⟨#[]⟩)))
      clear hAf hk4 h22
      go_wp2
      exact bodyPost_ret (v := .tuple #[.int .i64 0, .agg #[.slice none 0 0, .string ⟨#[]⟩], .int .i64 E]) (by simp [results, Tryz.results21, go_sem, j2, j3]) rfl ⟨_, _, _, _, _, _, rfl, HAF.out⟩
    · have t6 : (m == 6) = false := beq_eq_false_iff_ne.2 k6
      by_cases k7 : m = 7
      · subst k7
        go_enter Tryz.func21, Tryz.ntmps21
        go_wp2_with fail
        refine HO.out.mono ?_
        rintro e w3 ⟨rfl, hb3⟩
        obtain ⟨hn3, hx3, hd3, hk3, hw3⟩ := HT.out w3 hb3
        have HK3 := Lib.hid hk3
        have HW3 := Lib.hid hw3
        have d0 := Has.at_ hd3 0
        have d1 := Has.at_ hd3 1
        have d2 := Has.at_ hd3 2
        have d3 := Has.at_ hd3 3
        simp at d0 d1 d2 d3
        have HC := Lib.hid (drop_post N a p F s k HI.out HA1.out HM.out w3 hn3)
        clear hb3 hn3 hx3 hd3 hk3 hw3 HO HT
        generalize k.i = KI at *
        generalize k.s = KS at *
        go_wp2_with fail
        refine HC.out.mono ?_
        rintro e w4 ⟨E, rfl, hAf⟩
        have hk4 : Has w4 (w.heap.size + 1) 51 #[.slice none 0 0, .string ⟨#[]⟩] := by
          obtain ⟨_, _, _, hc⟩ := hAf
          exact HK3.out.over hc fun e => by have := HDS.out _ e; omega
        have j0 := Has.at_ hk4 0
        have j1 := Has.at_ hk4 1
        have f0 := Has.free hk4 0
        have f1 := Has.free hk4 1
        simp at j0 j1
        have h22 := Has.put (Has.put hk4 0 (.slice none 0 0)) 1 (.string ⟨#[]⟩)
        have j2 := Has.at_ h22 0
        have j3 := Has.at_ h22 1
        simp at j2 j3
        have HAF := Lib.hid (hAf.stored HW3.out (show w.heap.size ≤ w.heap.size + 1 by omega) hk4 (((Chg.refl (· = w.heap.size + 1) w4).setCell (p := ⟨w.heap.size + 1, 0, none⟩) (.inl rfl) (.slice none 0 0)).setCell (p := ⟨w.heap.size + 1, 1, none⟩) (.inl rfl) (.string ⟨#[]⟩)))
        clear hAf hk4 h22
        go_wp2
        exact bodyPost_ret (v := .tuple #[.int .i64 0, .agg #[.slice none 0 0, .string ⟨#[]⟩], .int .i64 E]) (by simp [results, Tryz.results21, go_sem, j2, j3]) rfl ⟨_, _, _, _, _, _, rfl, HAF.out⟩
      · have t7 : (m == 7) = false := beq_eq_false_iff_ne.2 k7
        by_cases k8 : m = 8
        · subst k8
          go_enter Tryz.func21, Tryz.ntmps21
          go_wp2_with fail
          refine HO.out.mono ?_
          rintro e w3 ⟨rfl, hb3⟩
          obtain ⟨hn3, hx3, hd3, hk3, hw3⟩ := HT.out w3 hb3
          have HK3 := Lib.hid hk3
          have HW3 := Lib.hid hw3
          have d0 := Has.at_ hd3 0
          have d1 := Has.at_ hd3 1
          have d2 := Has.at_ hd3 2
          have d3 := Has.at_ hd3 3
          simp at d0 d1 d2 d3
          have HC := Lib.hid (sweep_post N a p F s k HI.out HM.out w3 hn3)
          clear hb3 hn3 hx3 hd3 hk3 hw3 HO HT
          generalize k.i = KI at *
          generalize k.s = KS at *
          go_wp2_with fail
          refine HC.out.mono ?_
          rintro e w4 ⟨v, rfl, hAf⟩
          have hk4 : Has w4 (w.heap.size + 1) 51 #[.slice none 0 0, .string ⟨#[]⟩] := by
            obtain ⟨_, _, _, hc⟩ := hAf
            exact HK3.out.over hc fun e => by have := HDS.out _ e; omega
          have j0 := Has.at_ hk4 0
          have j1 := Has.at_ hk4 1
          have f0 := Has.free hk4 0
          have f1 := Has.free hk4 1
          simp at j0 j1
          have h22 := Has.put (Has.put hk4 0 (.slice none 0 0)) 1 (.string ⟨#[]⟩)
          have j2 := Has.at_ h22 0
          have j3 := Has.at_ h22 1
          simp at j2 j3
          have HAF := Lib.hid (hAf.stored HW3.out (show w.heap.size ≤ w.heap.size + 1 by omega) hk4 (((Chg.refl (· = w.heap.size + 1) w4).setCell (p := ⟨w.heap.size + 1, 0, none⟩) (.inl rfl) (.slice none 0 0)).setCell (p := ⟨w.heap.size + 1, 1, none⟩) (.inl rfl) (.string ⟨#[]⟩)))
          clear hAf hk4 h22
          go_wp2
          exact bodyPost_ret (v := .tuple #[.int .i64 v, .agg #[.slice none 0 0, .string ⟨#[]⟩], .int .i64 0]) (by simp [results, Tryz.results21, go_sem, j2, j3]) rfl ⟨_, _, _, _, _, _, rfl, HAF.out⟩
        · have t8 : (m == 8) = false := beq_eq_false_iff_ne.2 k8
          by_cases k9 : m = 9
          · subst k9
            go_enter Tryz.func21, Tryz.ntmps21
            go_wp2_with fail
            refine HO.out.mono ?_
            rintro e w3 ⟨rfl, hb3⟩
            obtain ⟨hn3, hx3, hd3, hk3, hw3⟩ := HT.out w3 hb3
            have HK3 := Lib.hid hk3
            have HW3 := Lib.hid hw3
            have d0 := Has.at_ hd3 0
            have d1 := Has.at_ hd3 1
            have d2 := Has.at_ hd3 2
            have d3 := Has.at_ hd3 3
            simp at d0 d1 d2 d3
            have HC := Lib.hid (commit_post N a p F s k HI.out HA1.out HM.out w3 hn3)
            clear hb3 hn3 hx3 hd3 hk3 hw3 HO HT
            generalize k.i = KI at *
            generalize k.s = KS at *
            go_wp2_with fail
            refine HC.out.mono ?_
            rintro e w4 ⟨E, rfl, hAf⟩
            have hk4 : Has w4 (w.heap.size + 1) 51 #[.slice none 0 0, .string ⟨#[]⟩] := by
              obtain ⟨_, _, _, hc⟩ := hAf
              exact HK3.out.over hc fun e => by have := HDS.out _ e; omega
            have j0 := Has.at_ hk4 0
            have j1 := Has.at_ hk4 1
            have f0 := Has.free hk4 0
            have f1 := Has.free hk4 1
            simp at j0 j1
            have h22 := Has.put (Has.put hk4 0 (.slice none 0 0)) 1 (.string ⟨#[]⟩)
            have j2 := Has.at_ h22 0
            have j3 := Has.at_ h22 1
            simp at j2 j3
            have HAF := Lib.hid (hAf.stored HW3.out (show w.heap.size ≤ w.heap.size + 1 by omega) hk4 (((Chg.refl (· = w.heap.size + 1) w4).setCell (p := ⟨w.heap.size + 1, 0, none⟩) (.inl rfl) (.slice none 0 0)).setCell (p := ⟨w.heap.size + 1, 1, none⟩) (.inl rfl) (.string ⟨#[]⟩)))
            clear hAf hk4 h22
            go_wp2
            exact bodyPost_ret (v := .tuple #[.int .i64 0, .agg #[.slice none 0 0, .string ⟨#[]⟩], .int .i64 E]) (by simp [results, Tryz.results21, go_sem, j2, j3]) rfl ⟨_, _, _, _, _, _, rfl, HAF.out⟩
          · have t9 : (m == 9) = false := beq_eq_false_iff_ne.2 k9
            by_cases k10 : m = 10
            · subst k10
              go_enter Tryz.func21, Tryz.ntmps21
              go_wp2_with fail
              refine HO.out.mono ?_
              rintro e w3 ⟨rfl, hb3⟩
              obtain ⟨hn3, hx3, hd3, hk3, hw3⟩ := HT.out w3 hb3
              have HK3 := Lib.hid hk3
              have HW3 := Lib.hid hw3
              have d0 := Has.at_ hd3 0
              have d1 := Has.at_ hd3 1
              have d2 := Has.at_ hd3 2
              have d3 := Has.at_ hd3 3
              simp at d0 d1 d2 d3
              have HC := Lib.hid (get_post N a p F s k HI.out HM.out w3 hn3)
              clear hb3 hn3 hx3 hd3 hk3 hw3 HO HT
              generalize k.i = KI at *
              generalize k.s = KS at *
              go_wp2_with fail
              refine HC.out.mono ?_
              rintro e w4 ⟨A5, n5, c5, t5, E, rfl, hAf⟩
              have hk4 : Has w4 (w.heap.size + 1) 51 #[.slice none 0 0, .string ⟨#[]⟩] := by
                obtain ⟨_, _, _, hc⟩ := hAf
                exact HK3.out.over hc fun e => by have := HDS.out _ e; omega
              have hz4 : w.heap.size ≤ w4.heap.size := by
                obtain ⟨_, _, _, hc⟩ := hAf
                exact Nat.le_trans HW3.out.size hc.size
              have hk5 : Has (w4.alloc (.cells #[.slice A5 n5 c5, .string t5] 51)).drew (w.heap.size + 1) 51 #[.slice none 0 0, .string ⟨#[]⟩] := hk4.past _
              have hf5 : Has (w4.alloc (.cells #[.slice A5 n5 c5, .string t5] 51)).drew w4.heap.size 51 #[.slice A5 n5 c5, .string t5] := Has.fresh w4 _ _
              have j0 := Has.at_ hk5 0
              have j1 := Has.at_ hk5 1
              have q0 := Has.at_ hf5 0
              have q1 := Has.at_ hf5 1
              have f0 := Has.free (show Has (w4.alloc (.cells #[.slice A5 n5 c5, .string t5] 51)) (w.heap.size + 1) 51 _ from hk5) 0
              have f1 := Has.free (show Has (w4.alloc (.cells #[.slice A5 n5 c5, .string t5] 51)) (w.heap.size + 1) 51 _ from hk5) 1
              simp at j0 j1 q0 q1
              have hk6 : Has (w4.alloc (.cells #[.slice A5 n5 c5, .string t5] 51)) (w.heap.size + 1) 51 #[.slice none 0 0, .string ⟨#[]⟩] := hk5
              have h22 := Has.put (Has.put hk6 0 (.slice A5 n5 c5)) 1 (.string t5)
              have j2 := Has.at_ h22 0
              have j3 := Has.at_ h22 1
              simp at j2 j3
              have hAf5 : After N p F s k w3 E (w4.alloc (.cells #[.slice A5 n5 c5, .string t5] 51)) := by
                obtain ⟨s', h1, ⟨F', i1, i2⟩, h3⟩ := hAf
                exact ⟨s', h1, ⟨F', i1.below ((Below.refl _ _).alloc (Nat.le_refl _) _), i2⟩, h3.alloc _⟩
              have hAf6 := hAf5.stored HW3.out (show w.heap.size ≤ w.heap.size + 1 by omega) hk6 (((Chg.refl (· = w.heap.size + 1) _).setCell (p := ⟨w.heap.size + 1, 0, none⟩) (.inl rfl) (.slice A5 n5 c5)).setCell (p := ⟨w.heap.size + 1, 1, none⟩) (.inl rfl) (.string t5))
              have HAF := Lib.hid (show After N p F s k w E (((w4.alloc (.cells #[.slice A5 n5 c5, .string t5] 51)).setCell ⟨w.heap.size + 1, 0, none⟩ (.slice A5 n5 c5)).setCell ⟨w.heap.size + 1, 1, none⟩ (.string t5)).drew by
                obtain ⟨s', h1, ⟨F', i1, i2⟩, h3⟩ := hAf6
                exact ⟨s', h1, ⟨F', i1.below ((Below.refl _ _).drew), i2⟩, h3.drew⟩)
              clear hAf hAf5 hAf6 hk4 hk5 hk6 hf5 h22 hz4
              go_wp2_with fail
              go_region
              go_wp2
              exact bodyPost_ret (v := .tuple #[.int .i64 0, .agg #[.slice A5 n5 c5, .string t5], .int .i64 E]) (by simp [results, Tryz.results21, go_sem, j2, j3]) rfl ⟨_, _, _, _, _, _, rfl, HAF.out⟩
            · have t10 : (m == 10) = false := beq_eq_false_iff_ne.2 k10
              go_enter Tryz.func21, Tryz.ntmps21
              go_wp2_with fail
              refine HO.out.mono ?_
              rintro e w3 ⟨rfl, hb3⟩
              obtain ⟨hn3, hx3, hd3, hk3, hw3⟩ := HT.out w3 hb3
              have HK3 := Lib.hid hk3
              have HW3 := Lib.hid hw3
              have d0 := Has.at_ hd3 0
              have d1 := Has.at_ hd3 1
              have d2 := Has.at_ hd3 2
              have d3 := Has.at_ hd3 3
              simp at d0 d1 d2 d3
              have HC := Lib.hid (put_post N a p F s k (by rw [HM.out]; exact k9) A n c HI.out w3 hn3 hx3 HAA.out)
              clear hb3 hn3 hx3 hd3 hk3 hw3 HO HT
              generalize k.i = KI at *
              generalize k.s = KS at *
              go_wp2_with fail
              refine HC.out.mono ?_
              rintro e w4 ⟨v, E, rfl, hAf⟩
              have hk4 : Has w4 (w.heap.size + 1) 51 #[.slice none 0 0, .string ⟨#[]⟩] := by
                obtain ⟨_, _, _, hc⟩ := hAf
                exact HK3.out.over hc fun e => by have := HDS.out _ e; omega
              have j0 := Has.at_ hk4 0
              have j1 := Has.at_ hk4 1
              have f0 := Has.free hk4 0
              have f1 := Has.free hk4 1
              simp at j0 j1
              have h22 := Has.put (Has.put hk4 0 (.slice none 0 0)) 1 (.string ⟨#[]⟩)
              have j2 := Has.at_ h22 0
              have j3 := Has.at_ h22 1
              simp at j2 j3
              have HAF := Lib.hid (hAf.stored HW3.out (show w.heap.size ≤ w.heap.size + 1 by omega) hk4 (((Chg.refl (· = w.heap.size + 1) w4).setCell (p := ⟨w.heap.size + 1, 0, none⟩) (.inl rfl) (.slice none 0 0)).setCell (p := ⟨w.heap.size + 1, 1, none⟩) (.inl rfl) (.string ⟨#[]⟩)))
              clear hAf hk4 h22
              go_wp2
              exact bodyPost_ret (v := .tuple #[.int .i64 v, .agg #[.slice none 0 0, .string ⟨#[]⟩], .int .i64 E]) (by simp [results, Tryz.results21, go_sem, j2, j3]) rfl ⟨_, _, _, _, _, _, rfl, HAF.out⟩
end Go.Proofs.YthejlenafjnmkaaGreat.Sto
/- Whether scripts are short: how many things befall a store then. -/
namespace Go.Proofs.YthejlenafjnmkaaGreat.Sto
open Go.RowKit
open Oct (Has Chg)
open Rws
open Dv (DoV)
set_option linter.unusedVariables false

def sumL (ls : List Rw) (j : Nat) : Nat := ((ls.take j).map fun l => l.xs.length).sum
theorem sumL_succ {ls : List Rw} {j : Nat} (h : j < ls.length) (hl : ls[j].xs.length = ls[j].n) : sumL ls (j + 1) = sumL ls j + ls[j].n := by
  unfold sumL
  rw [List.take_succ_eq_append_getElem h, List.map_append, List.sum_append]
  simp [hl]
/-- Some truth value is answered; true only of few. -/
def ShortIs (ls : List Rw) (m : Nat) (e : Ending) : Prop := ∃ b, e = .returned (.bool b) ∧ (b = true → sumL ls m ≤ 60)
set_option maxRecDepth 100000 in
set_option maxHeartbeats 4000000 in
theorem short_few (A : Option Addr) (m c : Nat) (ls : List Rw) (hm : m ≤ 9223372036854775807) (w : World) (h : ListRow w A m ls) :
    Calls Tryz.prog 5 #[.slice A m c] w fun e w' => ShortIs ls m e ∧ Below w.heap.size w w' := by
  have HL := Lib.hid h
  clear h
  go_enter Tryz.func5, Tryz.ntmps5
  go_wp2
  go_loopw [3, 4, 10] (fun s a i wr => ∃ j N M : Nat, j ≤ m ∧ i = .int .i64 j ∧ s = .int .i64 N ∧ a = .int .i64 M ∧ N ≤ 24578 ∧ M ≤ 61 ∧ Below w.heap.size w wr ∧ (N ≤ 8192 → M ≤ 60 → M = sumL ls j)) (fun _ _ i _ => m - (intOf i).toNat)
  case atStart => exact ⟨0, 0, 0, Nat.zero_le _, rfl, rfl, rfl, by omega, by omega, Below.refl _ _, fun _ _ => rfl⟩
  case round =>
    obtain ⟨j, N, M, hj, rfl, rfl, rfl, hN, hM, hb, hq⟩ := hrel
    have HQ := Lib.hid hq
    clear hq
    by_cases hlt : j < m
    · obtain ⟨b, off, rfl, hbl, hcl⟩ := HL.out.cells (by omega)
      have hjx : j < ls.length := by rw [HL.out.len]; exact hlt
      have cx := (hb.cell (p := ⟨b, off + j, none⟩) hbl).trans (hcl j hjx)
      obtain ⟨hr, hn⟩ := HL.out.each _ (List.getElem_mem hjx)
      have HSM := Lib.hid (show sumL ls (j + 1) = sumL ls j + ls[j].n from sumL_succ hjx hr.len)
      clear hcl
      generalize ls[j] = l at *
      obtain ⟨B, n, cc, xs⟩ := l
      simp only at cx hr hn HSM
      have HR := Lib.hid hr
      have HB := Lib.hid hb
      clear hr hb
      obtain ⟨wo, hwo⟩ : ∃ wo : World, wo = wr := ⟨_, rfl⟩
      subst hwo
      go_wp2
      clear cx
      go_loopw [3, 4, 7] (fun s a i wr => ∃ k N M : Nat, k ≤ n ∧ i = .int .i64 k ∧ s = .int .i64 N ∧ a = .int .i64 M ∧ N ≤ 24578 ∧ M ≤ 61 ∧ Below w.heap.size w wr ∧ (N ≤ 8192 → M ≤ 60 → M = sumL ls j + k)) (fun _ _ i _ => n - (intOf i).toNat)
      case atStart => exact ⟨0, N, M, Nat.zero_le _, rfl, rfl, rfl, hN, hM, HB.out, HQ.out⟩
      case round =>
        obtain ⟨k, N2, M2, hk, rfl, rfl, rfl, hN2, hM2, hb2, hq2⟩ := hrel
        have HQ2 := Lib.hid hq2
        have HK2 := Lib.hid hk
        clear hq2
        have HB2 := Lib.hid hb2
        by_cases g1 : (k : Int) < (n : Int)
        · by_cases g2 : (M2 : Int) ≤ 60
          · by_cases g3 : (N2 : Int) ≤ 8192
            · have HG := Lib.hid (And.intro hk (And.intro hN2 (And.intro hM2 (And.intro hj (And.intro hN (And.intro hM (And.intro hlt (And.intro hn hm))))))))
              clear hk hN2 hM2 hj hN hM hlt hm hb2 hbl hjx
              go_wp2
              obtain ⟨b2, off2, rfl, hbl2, hcl2⟩ := HR.out.cells (by omega)
              have hkx : k < xs.length := by rw [HR.out.len]; omega
              obtain ⟨_, _, x2, x3⟩ := hcl2 k hkx
              have x2 := (HB2.out.cell (p := ⟨b2, off2 + k * 4 + 2, none⟩) hbl2).trans x2
              have x3 := (HB2.out.cell (p := ⟨b2, off2 + k * 4 + 3, none⟩) hbl2).trans x3
              clear hcl2
              generalize xs[k] = y at *
              obtain ⟨⟨yo, yi, ys, yk⟩, yA, yn, yc⟩ := y
              simp only at x2 x3
              clear hbl2 hkx
              rcases Nat.lt_trichotomy ys.size 8193 with p1 | p1 | p1
              · have q1 : (ys.size : Int) < 8193 := by omega
                have q2 : ¬ 8193 < (ys.size : Int) := by omega
                have hA : ys.size ≤ 8193 := by omega
                rcases Nat.lt_trichotomy yn 8193 with p2 | p2 | p2
                · have q3 : (yn : Int) < 8193 := by omega
                  have q4 : ¬ 8193 < (yn : Int) := by omega
                  have hB : yn ≤ 8193 := by omega
                  have hE := Lib.hid (And.intro hA hB)
                  clear p1 p2 hA hB
                  go_quiet (fail)
                  go_wp2
                  obtain ⟨hk, hN2, hM2, _⟩ := HG.out
                  obtain ⟨hA, hB⟩ := hE.out
                  refine ⟨⟨k + 1, N2 + (ys.size + yn), M2 + 1, by omega, by go_num, by go_num, by go_num, by omega, by omega, below_drewN HB2.out _, fun e1 e2 => by have := HQ2.out (by omega) (by omega); omega⟩, by simp [intOf]; omega⟩
                · have q3 : ¬ (yn : Int) < 8193 := by omega
                  have q4 : ¬ 8193 < (yn : Int) := by omega
                  have hB : yn ≤ 8193 := by omega
                  have hE := Lib.hid (And.intro hA hB)
                  clear p1 p2 hA hB
                  go_quiet (fail)
                  go_wp2
                  obtain ⟨hk, hN2, hM2, _⟩ := HG.out
                  obtain ⟨hA, hB⟩ := hE.out
                  refine ⟨⟨k + 1, N2 + (ys.size + yn), M2 + 1, by omega, by go_num, by go_num, by go_num, by omega, by omega, below_drewN HB2.out _, fun e1 e2 => by have := HQ2.out (by omega) (by omega); omega⟩, by simp [intOf]; omega⟩
                · have q3 : ¬ (yn : Int) < 8193 := by omega
                  have q4 : 8193 < (yn : Int) := by omega
                  have hB : 8193 ≤ 8193 := by omega
                  have hE := Lib.hid (And.intro hA hB)
                  clear p1 p2 hA hB
                  go_quiet (fail)
                  go_wp2
                  obtain ⟨hk, hN2, hM2, _⟩ := HG.out
                  obtain ⟨hA, hB⟩ := hE.out
                  refine ⟨⟨k + 1, N2 + (ys.size + 8193), M2 + 1, by omega, by go_num, by go_num, by go_num, by omega, by omega, below_drewN HB2.out _, fun e1 e2 => by have := HQ2.out (by omega) (by omega); omega⟩, by simp [intOf]; omega⟩
              · have q1 : ¬ (ys.size : Int) < 8193 := by omega
                have q2 : ¬ 8193 < (ys.size : Int) := by omega
                have hA : ys.size ≤ 8193 := by omega
                rcases Nat.lt_trichotomy yn 8193 with p2 | p2 | p2
                · have q3 : (yn : Int) < 8193 := by omega
                  have q4 : ¬ 8193 < (yn : Int) := by omega
                  have hB : yn ≤ 8193 := by omega
                  have hE := Lib.hid (And.intro hA hB)
                  clear p1 p2 hA hB
                  go_quiet (fail)
                  go_wp2
                  obtain ⟨hk, hN2, hM2, _⟩ := HG.out
                  obtain ⟨hA, hB⟩ := hE.out
                  refine ⟨⟨k + 1, N2 + (ys.size + yn), M2 + 1, by omega, by go_num, by go_num, by go_num, by omega, by omega, below_drewN HB2.out _, fun e1 e2 => by have := HQ2.out (by omega) (by omega); omega⟩, by simp [intOf]; omega⟩
                · have q3 : ¬ (yn : Int) < 8193 := by omega
                  have q4 : ¬ 8193 < (yn : Int) := by omega
                  have hB : yn ≤ 8193 := by omega
                  have hE := Lib.hid (And.intro hA hB)
                  clear p1 p2 hA hB
                  go_quiet (fail)
                  go_wp2
                  obtain ⟨hk, hN2, hM2, _⟩ := HG.out
                  obtain ⟨hA, hB⟩ := hE.out
                  refine ⟨⟨k + 1, N2 + (ys.size + yn), M2 + 1, by omega, by go_num, by go_num, by go_num, by omega, by omega, below_drewN HB2.out _, fun e1 e2 => by have := HQ2.out (by omega) (by omega); omega⟩, by simp [intOf]; omega⟩
                · have q3 : ¬ (yn : Int) < 8193 := by omega
                  have q4 : 8193 < (yn : Int) := by omega
                  have hB : 8193 ≤ 8193 := by omega
                  have hE := Lib.hid (And.intro hA hB)
                  clear p1 p2 hA hB
                  go_quiet (fail)
                  go_wp2
                  obtain ⟨hk, hN2, hM2, _⟩ := HG.out
                  obtain ⟨hA, hB⟩ := hE.out
                  refine ⟨⟨k + 1, N2 + (ys.size + 8193), M2 + 1, by omega, by go_num, by go_num, by go_num, by omega, by omega, below_drewN HB2.out _, fun e1 e2 => by have := HQ2.out (by omega) (by omega); omega⟩, by simp [intOf]; omega⟩
              · have q1 : ¬ (ys.size : Int) < 8193 := by omega
                have q2 : 8193 < (ys.size : Int) := by omega
                have hA : 8193 ≤ 8193 := by omega
                rcases Nat.lt_trichotomy yn 8193 with p2 | p2 | p2
                · have q3 : (yn : Int) < 8193 := by omega
                  have q4 : ¬ 8193 < (yn : Int) := by omega
                  have hB : yn ≤ 8193 := by omega
                  have hE := Lib.hid (And.intro hA hB)
                  clear p1 p2 hA hB
                  go_quiet (fail)
                  go_wp2
                  obtain ⟨hk, hN2, hM2, _⟩ := HG.out
                  obtain ⟨hA, hB⟩ := hE.out
                  refine ⟨⟨k + 1, N2 + (8193 + yn), M2 + 1, by omega, by go_num, by go_num, by go_num, by omega, by omega, below_drewN HB2.out _, fun e1 e2 => by have := HQ2.out (by omega) (by omega); omega⟩, by simp [intOf]; omega⟩
                · have q3 : ¬ (yn : Int) < 8193 := by omega
                  have q4 : ¬ 8193 < (yn : Int) := by omega
                  have hB : yn ≤ 8193 := by omega
                  have hE := Lib.hid (And.intro hA hB)
                  clear p1 p2 hA hB
                  go_quiet (fail)
                  go_wp2
                  obtain ⟨hk, hN2, hM2, _⟩ := HG.out
                  obtain ⟨hA, hB⟩ := hE.out
                  refine ⟨⟨k + 1, N2 + (8193 + yn), M2 + 1, by omega, by go_num, by go_num, by go_num, by omega, by omega, below_drewN HB2.out _, fun e1 e2 => by have := HQ2.out (by omega) (by omega); omega⟩, by simp [intOf]; omega⟩
                · have q3 : ¬ (yn : Int) < 8193 := by omega
                  have q4 : 8193 < (yn : Int) := by omega
                  have hB : 8193 ≤ 8193 := by omega
                  have hE := Lib.hid (And.intro hA hB)
                  clear p1 p2 hA hB
                  go_quiet (fail)
                  go_wp2
                  obtain ⟨hk, hN2, hM2, _⟩ := HG.out
                  obtain ⟨hA, hB⟩ := hE.out
                  refine ⟨⟨k + 1, N2 + (8193 + 8193), M2 + 1, by omega, by go_num, by go_num, by go_num, by omega, by omega, below_drewN HB2.out _, fun e1 e2 => by have := HQ2.out (by omega) (by omega); omega⟩, by simp [intOf]; omega⟩
            · have HG := Lib.hid (And.intro hN2 (And.intro hM2 (And.intro hlt hm)))
              clear hk hN2 hM2 hj hN hM hb2 hn hbl hjx
              go_wp2
              go_roundw
              case rel =>
                obtain ⟨hN2, hM2, hlt, _⟩ := HG.out
                exact ⟨j + 1, N2, M2, by omega, by go_num, rfl, rfl, hN2, hM2, HB2.out, fun e1 e2 => by have := HQ2.out e1 e2; have := HSM.out; have := HK2.out; omega⟩
              case measure => simp [intOf]; omega
          · have HG := Lib.hid (And.intro hN2 (And.intro hM2 (And.intro hlt hm)))
            clear hk hN2 hM2 hj hN hM hb2 hn hbl hjx
            go_wp2
            go_roundw
            case rel =>
              obtain ⟨hN2, hM2, hlt, _⟩ := HG.out
              exact ⟨j + 1, N2, M2, by omega, by go_num, rfl, rfl, hN2, hM2, HB2.out, fun e1 e2 => by have := HQ2.out e1 e2; have := HSM.out; have := HK2.out; omega⟩
            case measure => simp [intOf]; omega
        · have HG := Lib.hid (And.intro hN2 (And.intro hM2 (And.intro hlt hm)))
          clear hk hN2 hM2 hj hN hM hb2 hn hbl hjx
          go_wp2
          go_roundw
          case rel =>
            obtain ⟨hN2, hM2, hlt, _⟩ := HG.out
            exact ⟨j + 1, N2, M2, by omega, by go_num, rfl, rfl, hN2, hM2, HB2.out, fun e1 e2 => by have := HQ2.out e1 e2; have := HSM.out; have := HK2.out; omega⟩
          case measure => simp [intOf]; omega
    · obtain rfl : j = m := by omega
      have HB := Lib.hid hb
      clear hb hj
      by_cases g1 : (M : Int) ≤ 60
      · go_wp2
        go_ret
        exact ⟨⟨_, rfl, fun hbb => by first | cases hbb; done | (simp at hbb; have := HQ.out (by omega) (by omega); omega)⟩, HB.out⟩
      · go_wp2
        go_ret
        exact ⟨⟨_, rfl, fun hbb => by first | cases hbb; done | (simp at hbb; have := HQ.out (by omega) (by omega); omega)⟩, HB.out⟩
end Go.Proofs.YthejlenafjnmkaaGreat.Sto
/- Contracts that the laws of a store share; a store on a device that nothing befalls, in pure terms. -/
namespace Go.Proofs.YthejlenafjnmkaaGreat.Sto
open Go.RowKit
open Oct (Has Chg)
open Rws
open Dv (DoV)
open Mem (IMap)
set_option linter.unusedVariables false

theorem take_snoc_eq {α : Type} {l k : List α} {j : Nat} (h1 : j < l.length) (h2 : j < k.length) (h : l.take j = k.take j) (he : l[j] = k[j]) : l.take (j + 1) = k.take (j + 1) := by
  rw [List.take_succ_eq_append_getElem h1, List.take_succ_eq_append_getElem h2, h, he]
set_option maxRecDepth 100000 in
theorem eqi_any (A B : Option Addr) (n m c d : Nat) (l k : List Int) (hn : n ≤ 9223372036854775807) (w : World) (h : NumRow w A n l) (h2 : NumRow w B m k) :
    Calls Tryz.prog 23 #[.slice A n c, .slice B m d] w fun e w' => e = .returned (.bool (decide (l = k))) ∧ Below w.heap.size w w' := by
  have HR := Lib.hid h
  have HR2 := Lib.hid h2
  clear h h2
  go_enter Tryz.func23, Tryz.ntmps23
  by_cases hnm : n = m
  · subst hnm
    go_wp2
    go_loopw [13] (fun z wr => ∃ j : Nat, j ≤ n ∧ z = .int .i64 j ∧ l.take j = k.take j ∧ Below w.heap.size w wr) (fun z _ => n - (intOf z).toNat)
    case atStart => exact ⟨0, Nat.zero_le _, rfl, rfl, Below.refl _ _⟩
    case round =>
      obtain ⟨j, hj, rfl, ht, hb⟩ := hrel
      have HB := Lib.hid hb
      have HT := Lib.hid ht
      clear hb ht
      by_cases hlt : j < n
      · obtain ⟨b, off, rfl, hbl, hcl⟩ := (HR.out.below HB.out).2 (by omega)
        obtain ⟨b2, off2, rfl, hbl2, hcl2⟩ := (HR2.out.below HB.out).2 (by omega)
        have j1 : j < l.length := by rw [HR.out.1]; exact hlt
        have j2 : j < k.length := by rw [HR2.out.1]; exact hlt
        have c1 := hcl j j1
        have c2 := hcl2 j j2
        have HN := Lib.hid (take_snoc_eq j1 j2 HT.out)
        have HE := Lib.hid (show l[j] ≠ k[j] → decide (l = k) = false from fun he => decide_eq_false fun e => he (by subst e; rfl))
        clear hcl hcl2 hbl hbl2
        generalize l[j] = x at *
        generalize k[j] = y at *
        clear j1 j2
        by_cases hxy : x = y
        · have HN := Lib.hid (HN.out hxy)
          have t1 : (x != y) = false := by rw [hxy]; simp
          clear hxy HE
          go_wp2_with fail
          go_quiet (fail)
          go_wp2
          go_roundw
          case rel => exact ⟨j + 1, by omega, by go_num, HN.out, below_drewN HB.out _⟩
          case measure => simp [intOf]; omega
        · have t1 : (x != y) = true := by simpa using hxy
          have HF := Lib.hid (HE.out hxy)
          clear hxy HE
          go_wp2_with fail
          go_quiet (fail)
          go_wp2
          go_ret
          exact ⟨by rw [HF.out]; rfl, below_drewN HB.out _⟩
      · obtain rfl : j = n := by omega
        have he : decide (l = k) = true := by
          have := HT.out
          rw [List.take_of_length_le (by rw [HR.out.1]; exact Nat.le_refl _), List.take_of_length_le (by rw [HR2.out.1]; exact Nat.le_refl _)] at this
          exact decide_eq_true this
        have HF := Lib.hid he
        clear he
        go_wp2
        go_ret
        exact ⟨by rw [HF.out]; rfl, HB.out⟩
  · have t1 : ((n : Int) == (m : Int)) = false := beq_eq_false_iff_ne.2 (by omega)
    have he : decide (l = k) = false := decide_eq_false fun e => hnm (by rw [← HR.out.1, ← HR2.out.1, e])
    rw [he]
    clear he hnm
    go_wp2
    go_ret
    exact ⟨rfl, Below.refl _ _⟩
theorem size_of (c : Int) : ∃ k : Nat, 8 ≤ k ∧ k ≤ 40 ∧ wrap64 (8 + wrap64 ((IntKind.u64.wrap c).tmod 33)) = (k : Int) := by
  have h0 : 0 ≤ IntKind.u64.wrap c := by unfold IntKind.wrap; simp [IntKind.signed, IntKind.bits]; omega
  have h1 : 0 ≤ (IntKind.u64.wrap c).tmod 33 := Int.tmod_nonneg _ h0
  have h2 : (IntKind.u64.wrap c).tmod 33 < 33 := Int.tmod_lt_of_pos _ (by decide)
  generalize (IntKind.u64.wrap c).tmod 33 = r at *
  refine ⟨8 + r.toNat, by omega, by omega, ?_⟩
  unfold wrap64
  omega
theorem size_sto (x : Int) (K : Nat) (hK : wrap64 (8 + wrap64 ((IntKind.u64.wrap x).tmod 33)) = (K : Int)) (w : World) :
    Calls Tryz.prog 8 #[.int .i64 x] w fun e w' => e = .returned (.int .i64 K) ∧ Below w.heap.size w w' := by
  rw [← hK]
  go_enter Tryz.func8, Tryz.ntmps8
  go_wp2
  go_ret
  exact ⟨rfl, Below.refl _ _⟩
set_option maxRecDepth 100000 in
theorem refs_sto (p : Nat) (F : Fr) (s : SV) (id : Int) (nd : NodeV) (hn : s.nodes id = some nd) (w : World) (h : StoIs w p F s) :
    Calls Tryz.prog 43 #[.pointer (some ⟨p, 0, none⟩), .int .i64 id] w fun e w' => e = .returned (.tuple #[.int .i64 nd.named, .int .i64 nd.held, .bool true]) ∧ Below w.heap.size w w' := by
  have HM := Lib.hid (made_sto p F s w h)
  have HS := Lib.hid (has_sto p F s id w h)
  rw [show (s.nodes id).isSome = true by rw [hn]; rfl] at HS
  have hl := (h.there.lookup mapN Dv.intT (.pointer none) zero_node id).1
  have e1 : (thereM F s.nodes id).getD (.pointer none) = .pointer (some ⟨F.g id, 0, none⟩) := by unfold thereM; rw [hn]; rfl
  rw [e1] at hl
  have c4 := Has.at_ h.obj 4
  simp at c4
  obtain ⟨A2, c2, q1, q2⟩ := h.node id nd hn
  have k2 := Has.at_ q1 2
  have k3 := Has.at_ q1 3
  simp [nodeC] at k2 k3
  have HB := Lib.hid (Below.refl w.heap.size w)
  clear h hn e1 q1 q2
  generalize F.g id = G at *
  obtain ⟨ks, hi, M, H⟩ := nd
  simp only at k2 k3
  go_enter Tryz.func43, Tryz.ntmps43
  go_wp2_with fail
  refine HM.out.mono ?_
  rintro e w' ⟨rfl, rfl⟩
  go_wp2_with fail
  refine HS.out.mono ?_
  rintro e w' ⟨rfl, rfl⟩
  go_wp2_with fail
  go_quiet (fail)
  go_wp2
  go_ret3
  exact ⟨rfl, below_drewN HB.out _⟩
theorem row_put {w : World} {p b n c : Nat} {A : Option Addr} {F : Fr} {s : SV} {xs : List Value} (h : w.ownsRow b 3 1 (.slice A n c) n xs) (hs : StoIs w p F s) : 0 < n → ∀ q off, A = some ⟨q, off, none⟩ → ¬ PutS F s q := by
  intro h0 q off e
  rcases h.2 with ⟨e1, e0⟩ | ⟨g, cap, cur, e1, hb, hh, k⟩
  · omega
  · injection e1 with e1 _ _
    rw [e] at e1
    injection e1 with e1
    injection e1 with e1 _ _
    subst e1
    exact put_not hs (show Has w q 3 _ from hh) (by decide) (by decide)
theorem calm_does {N a : Nat} {s s' : SV} {k : DoV} {E : Int} (hI : Inv N a s) (h : Calm s.dev) (hd : DoesV N s k E s') : Calm s'.dev := by
  rcases hd with ⟨_, ⟨_, _, e⟩ | ⟨nd, hn, _, e⟩⟩ | ⟨_, ⟨_, _, e⟩ | ⟨nd, hn, h1, _, e⟩⟩ | ⟨_, _, f, ha, hs, e⟩ | ⟨_, ⟨_, _, e⟩ | ⟨hr, h1, _, e⟩⟩ | ⟨_, _, e⟩ | ⟨_, _, e⟩
  · rw [e]; exact h
  · rw [e]; exact h
  · rw [e]; exact h
  · rw [e]; exact h
  · rw [e]; exact h
  · rw [e]; exact h
  · rw [e, (commit_calm h (by have := hI.size; have := hI.two; omega) k.i k.s h1).1]
    exact (h.fl.put _ _).fl
  · rw [e]; exact h
  · rw [e]
    unfold putV
    split
    · rename_i hc
      cases hL : least s with
      | none => exact h
      | some j =>
        obtain ⟨_, _, k3, k4⟩ := least_in hL
        obtain ⟨h1, h2, _⟩ := canB_parts hc
        have hw := wr_calm h (i := j) (s := blockB k.ks k.s) (by omega) (by omega) (by rw [blockB_size]; omega)
        rw [show putAt s k.ks k.s (some j) = (((j : Nat) : Int), 0, addV { s with dev := Dv.wrD s.dev j (blockB k.ks k.s) } j k.ks) from if_pos hw.1]
        show Calm (Dv.wrD s.dev j (blockB k.ks k.s))
        rw [hw.2]
        exact h.put _ _
    · exact h
/-- Numbers below a bound of which something holds. -/
def numsL (N : Nat) (q : Int → Bool) : List Int := ((List.range N).map fun i : Nat => (i : Int)).filter q
def cntN (N : Nat) (q : Int → Bool) : Nat := ((List.range N).map fun i : Nat => if q i = true then 1 else 0).sum
theorem numsL_len (q : Int → Bool) : ∀ N, (numsL N q).length = cntN N q
  | 0 => rfl
  | N + 1 => by
    have h := numsL_len q N
    unfold numsL cntN at h ⊢
    rw [List.range_succ, List.map_append, List.filter_append, List.length_append, h, List.map_append, List.sum_append]
    congr 1
    by_cases e : q (N : Int) = true
    · simp [e]
    · simp [e]
theorem numsL_nodup (N : Nat) (q : Int → Bool) : (numsL N q).Nodup := by
  refine List.Nodup.sublist List.filter_sublist ?_
  exact List.Pairwise.map _ (fun a b h => by omega) (List.nodup_range (n := N))
theorem numsL_mem {N : Nat} {q : Int → Bool} {z : Int} : z ∈ numsL N q ↔ (∃ i : Nat, z = i ∧ i < N) ∧ q z = true := by
  unfold numsL
  rw [List.mem_filter, List.mem_map]
  constructor
  · rintro ⟨⟨i, hi, e⟩, hq⟩
    exact ⟨⟨i, e.symm, List.mem_range.1 hi⟩, hq⟩
  · rintro ⟨⟨i, e, hi⟩, hq⟩
    exact ⟨⟨i, List.mem_range.2 hi, e.symm⟩, hq⟩
def isQ (s : SV) : Int → Bool := fun z => (s.nodes z).isSome
def keptQ (s : SV) : Int → Bool := fun z => s.kept z && !(s.nodes z).isSome
/-- How many blocks are free. -/
def freeZ (N : Nat) (s : SV) : Int := (N : Int) - 2 - cntN N (isQ s) - cntN N (keptQ s)
theorem cntN_le (q : Int → Bool) : ∀ N, cntN N q ≤ N := fun N => by
  have := sum_le (fun i : Nat => if q i = true then 1 else 0) 1 N fun j _ => by split <;> omega
  unfold cntN
  omega
theorem free_is {N a : Nat} {s : SV} (h : Inv N a s) {e : Ending} (he : FreeIs s e) : e = .returned (.int .i64 (freeZ N s)) := by
  refine free_val he (numsL N (isQ s)) (numsL N (keptQ s)) (numsL_nodup _ _) (numsL_nodup _ _) (fun z => ?_) (fun z => ?_) _ ?_
  · rw [numsL_mem]
    constructor
    · intro hz
      obtain ⟨i, e, _, hi⟩ := h.acc.ids z hz
      exact ⟨⟨i, e, hi⟩, hz⟩
    · exact fun hz => hz.2
  · rw [numsL_mem]
    constructor
    · rintro ⟨hk, hn⟩
      obtain ⟨i, e, _, hi⟩ := h.kept z hk
      refine ⟨⟨i, e, hi⟩, ?_⟩
      unfold keptQ
      rw [hk, hn]
      rfl
    · rintro ⟨_, hq⟩
      unfold keptQ at hq
      simp at hq
      exact ⟨hq.1, by rw [hq.2]; rfl⟩
  · rw [numsL_len, numsL_len, h.size]
    unfold freeZ wrap64
    have := cntN_le (isQ s) N
    have := cntN_le (keptQ s) N
    have := h.two
    omega
theorem cnt_same {N : Nat} {q r : Int → Bool} (h : ∀ j : Nat, j < N → q j = r j) : cntN N q = cntN N r := sum_same _ _ N fun j hj => by
  show (if q j = true then 1 else 0) = if r j = true then 1 else 0
  rw [h j hj]
theorem free_put {N a : Nat} {s : SV} (h : Inv N a s) {j : Nat} (hj : j < N) (h1 : s.nodes j = none) (h2 : s.kept j = false) (kids : List Int) (D : Dv.St) : freeZ N (addV { s with dev := D } j kids) = freeZ N s - 1 := by
  have e1 : cntN N (isQ (addV { s with dev := D } j kids)) = cntN N (isQ s) + 1 := by
    refine sum_one _ _ j 1 (fun i hi => ?_) ?_ N hj
    · show (if ((addV { s with dev := D } j kids).nodes i).isSome = true then 1 else 0) = if (s.nodes i).isSome = true then 1 else 0
      rw [addV_some]
      have : ¬ (i : Int) = (j : Int) := by omega
      simp [this]
    · show (if ((addV { s with dev := D } j kids).nodes j).isSome = true then 1 else 0) = (if (s.nodes j).isSome = true then 1 else 0) + 1
      rw [addV_some, h1]
      simp
  have e2 : cntN N (keptQ (addV { s with dev := D } j kids)) = cntN N (keptQ s) := by
    refine cnt_same fun i _ => ?_
    show (s.kept i && !((addV { s with dev := D } j kids).nodes i).isSome) = (s.kept i && !(s.nodes i).isSome)
    rw [addV_some]
    by_cases e : (i : Int) = (j : Int)
    · rw [e, h2]
      rfl
    · simp [e]
  unfold freeZ
  rw [e1, e2]
  omega
theorem least_none {s : SV} : ∀ (n i : Nat), leastFrom s n i = none → ∀ j, i ≤ j → j < i + n → freeB s j = false
  | 0, i, _, j, h1, h2 => by omega
  | n + 1, i, h, j, h1, h2 => by
    unfold leastFrom at h
    split at h
    · cases h
    · rename_i hf
      by_cases e : j = i
      · subst e
        simpa using hf
      · exact least_none n (i + 1) h j (by omega) (by omega)
theorem sum_two : ∀ N, 2 ≤ N → ((List.range N).map fun i : Nat => if i < 2 then 0 else 1).sum = N - 2
  | 0, h => by omega
  | 1, h => by omega
  | 2, _ => rfl
  | N + 3, _ => by
    rw [List.range_succ, List.map_append, List.sum_append, sum_two (N + 2) (by omega)]
    simp
theorem sum_both (g h : Nat → Nat) : ∀ N, ((List.range N).map g).sum + ((List.range N).map h).sum = ((List.range N).map fun i => g i + h i).sum
  | 0 => rfl
  | N + 1 => by
    have := sum_both g h N
    simp only [List.range_succ, List.map_append, List.sum_append, List.map_cons, List.map_nil, List.sum_cons, List.sum_nil]
    omega
theorem free_zero {N a : Nat} {s : SV} (h : Inv N a s) (hL : least s = none) : freeZ N s = 0 := by
  have hN := h.two
  have hf := least_none (s := s) (s.dev.size - 2) 2 hL
  have e : cntN N (isQ s) + cntN N (keptQ s) = N - 2 := by
    rw [← sum_two N (by omega)]
    refine (sum_both _ _ N).trans (sum_same _ _ N fun i hi => ?_)
    show (if (s.nodes i).isSome = true then 1 else 0) + (if (s.kept i && !(s.nodes i).isSome) = true then 1 else 0) = if i < 2 then 0 else 1
    by_cases h2 : i < 2
    · rw [if_pos h2]
      have n0 : (s.nodes i).isSome = false := by
        cases hn : (s.nodes i).isSome with
        | false => rfl
        | true =>
          obtain ⟨k, e, h3, _⟩ := h.acc.ids i hn
          omega
      have k0 : s.kept i = false := by
        cases hk : s.kept i with
        | false => rfl
        | true =>
          obtain ⟨k, e, h3, _⟩ := h.kept i hk
          omega
      rw [n0, k0]
      rfl
    · rw [if_neg h2]
      have hb := hf i (by omega) (by have := h.size; omega)
      unfold freeB at hb
      cases hn : (s.nodes i).isSome with
      | true => simp
      | false =>
        rw [hn] at hb
        simp at hb
        rw [hb]
        rfl
  unfold freeZ
  omega
theorem add_new {s : SV} {id : Int} {kids : List Int} (hf : s.nodes id = none) (hk : ∀ k ∈ kids, (s.nodes k).isSome = true) (hl : kids.length ≤ 16) : (addV s id kids).nodes id = some (newNode s kids) := by
  have h1 : insN s.nodes id (newNode s kids) id = some (newNode s kids) := if_pos rfl
  have h2 := bumps_at id kids _ _ h1 (by show (0 : Int) ≤ 0; omega) (by show (0 : Int) + _ ≤ _; omega)
  have hc : kids.count id = 0 := List.count_eq_zero.2 fun hk' => by
    have := hk _ hk'
    rw [hf] at this
    cases this
  rw [hc] at h2
  exact h2
/-- What a Put comes to upon such a device. -/
theorem put_calm {N a : Nat} {s : SV} (hI : Inv N a s) (h : Calm s.dev) (kids : List Int) (data : ByteArray) :
    putV s kids data = (0, 22, s) ∨ (putV s kids data = (0, 28, s) ∧ least s = none) ∨
    ∃ j : Nat, putV s kids data = ((j : Int), 0, addV { s with dev := Dv.putD s.dev j (blockB kids data) } j kids) ∧ 2 ≤ j ∧ j < N ∧ s.nodes j = none ∧ s.kept j = false ∧ kids.length ≤ 16 ∧ data.size ≤ 3900 ∧ ∀ k ∈ kids, (s.nodes k).isSome = true := by
  by_cases hc : canB s kids data = true
  · have e : putV s kids data = putAt s kids data (least s) := if_pos hc
    cases hL : least s with
    | none => exact .inr (.inl ⟨by rw [e, hL]; rfl, rfl⟩)
    | some j =>
      obtain ⟨k1, k2, k3, k4⟩ := least_in hL
      obtain ⟨h1, h2, h3, _⟩ := canB_parts hc
      have hw := wr_calm h (i := j) (s := blockB kids data) (by omega) (by omega) (by rw [blockB_size]; omega)
      refine .inr (.inr ⟨j, ?_, k3, by have := hI.size; have := hI.two; omega, k1, k2, h1, h2, h3⟩)
      rw [e, hL]
      rw [show putAt s kids data (some j) = (((j : Nat) : Int), 0, addV { s with dev := Dv.wrD s.dev j (blockB kids data) } j kids) from if_pos hw.1, hw.2]
  · exact .inl (if_neg hc)
theorem get_back {N a : Nat} {s : SV} (hI : Inv N a s) (h : Calm s.dev) {kids : List Int} {data : ByteArray} {j : Nat} (h1 : 2 ≤ j) (h2 : j < N) (h3 : kids.length ≤ 16) (h4 : data.size ≤ 3900) (h5 : ∀ k ∈ kids, (s.nodes k).isSome = true) :
    getV (addV { s with dev := Dv.putD s.dev j (blockB kids data) } j kids) j = (some (kids, data), 0) := by
  have e0 : ((addV { s with dev := Dv.putD s.dev j (blockB kids data) } j kids).nodes j).isSome = true := by rw [addV_some]; simp
  have hr := rd_calm (h.put j (blockB kids data)) (i := j) (by omega) (by show (j : Int) < s.dev.size; have := hI.size; omega)
  have hs : Dv.readS (Dv.putD s.dev j (blockB kids data)) j = blockB kids data := by
    show (((if (j : Int) = j then some (blockB kids data) else s.dev.dirty j).or (s.dev.kept j)).getD ⟨#[]⟩) = _
    rw [if_pos rfl]
    rfl
  unfold getV
  rw [if_pos e0]
  show (if Dv.rdE (Dv.putD s.dev j (blockB kids data)) j = 0 then readB (parseB s.dev.size (Dv.rdS (Dv.putD s.dev j (blockB kids data)) j)) else (none, Dv.rdE (Dv.putD s.dev j (blockB kids data)) j)) = _
  rw [if_pos hr.1, hr.2, hs, parseB_back _ _ _ (fun k hk => ?_) h3 h4]
  · rfl
  · obtain ⟨i, e, e2, e3⟩ := hI.acc.ids k (h5 k hk)
    have := hI.size
    have := hI.two
    unfold nameB
    constructor
    · simp
      omega
    · omega
theorem eqi_same (A B : Option Addr) (n m c d : Nat) (l : List Int) (hn : n ≤ 9223372036854775807) (w : World) (h : NumRow w A n l) (h2 : NumRow w B m l) :
    Calls Tryz.prog 23 #[.slice A n c, .slice B m d] w fun e w' => e = .returned (.bool true) ∧ Below w.heap.size w w' := by
  refine (eqi_any A B n m c d l l hn w h h2).mono ?_
  rintro e w' ⟨rfl, hb⟩
  exact ⟨by rw [decide_eq_true (rfl : l = l)], hb⟩
theorem dos_list (w : World) (A : Option Addr) (n c b : Nat) (xs : List DoC) (h : DoRow w A n xs) (hn : n ≤ 9223372036854775807) (hc : Has w b 22 #[.slice A n c]) : ListRow w (some ⟨b, 0, none⟩) 1 [⟨A, n, c, xs⟩] :=
  ⟨rfl, fun _ => ⟨b, 0, rfl, hc.bound, fun i hi => by
    obtain rfl : i = 0 := by simpa using hi
    exact Has.at_ hc 0⟩, fun y hy => by
    rw [List.mem_singleton.1 hy]
    exact ⟨h, hn⟩⟩
theorem Fresh.dos {B p : Nat} {F : Fr} {s : SV} (h : Fresh B p F s) : ∀ k, DoS p F s k → B ≤ k := fun k hk => hk.elim (h.com k) fun e => h.put k (.inl e)
theorem Fresh.step {B p : Nat} {F F' : Fr} {s s' : SV} {n : Nat} (h : Fresh B p F s) (hn : B ≤ n) (e1 : F'.t = F.t) (e2 : F'.k = F.k) (e3 : F'.d = F.d) (e4 : F'.dk = F.dk) (e5 : F'.dd = F.dd)
    (hg : ∀ z, (s'.nodes z).isSome = true → ((s.nodes z).isSome = true ∧ F'.g z = F.g z) ∨ n ≤ F'.g z) : Fresh B p F' s' :=
  ⟨h.p, by rw [e1]; exact h.t, by rw [e2]; exact h.k, by rw [e3]; exact h.d, by rw [e4]; exact h.dk, by rw [e5]; exact h.dd, fun z hz => by
    rcases hg z hz with ⟨h1, h2⟩ | h1
    · rw [h2]; exact h.g z h1
    · exact Nat.le_trans hn h1⟩
theorem Small.calm {d : Dv.St} (h : Small d) : Small (calmFl d) := fun j c hc => by
  rcases hc with hc | hc
  · cases hc
  · have hc : ((d.dirty j).or (d.kept j)) = some c := hc
    cases hd : d.dirty j with
    | some x =>
      rw [hd] at hc
      exact h j c (.inl (hd.trans hc))
    | none =>
      rw [hd] at hc
      exact h j c (.inr hc)
/-- A new store. -/
theorem inv_new {K : Nat} (h : 8 ≤ K ∧ K ≤ 40) (note : ByteArray) (hn : note.size ≤ 3900) : Inv K 0 (bareV 1 0 note (fmtZ note (Dv.newSt K))) ∧ Calm (fmtZ note (Dv.newSt K)) := by
  have hs : Small (Dv.newSt K) := fun j c hc => by rcases hc with hc | hc <;> cases hc
  have h1 := ((hs.put 0 ⟨#[]⟩ (by decide)).1.put 1 ⟨#[]⟩ (by decide)).1.calm
  have h2 := (h1.put 1 (beginB 1 0 (Dv.newSt K).size note) (by rw [beginB_size]; omega)).1.calm
  refine ⟨⟨⟨(fun z n hz => by cases hz), (fun z hz => by cases hz), (fun z n hz => by cases hz), (fun z n hz => by cases hz), (fun k hk => by cases hk)⟩, (fun z n hz => by cases hz), rfl, h, h2, ⟨Int.le_refl _, by show (1 : Int) ≤ 1 + (0 : Nat); omega⟩, (fun z n hz => by cases hz), (fun z hz => by cases hz)⟩, ?_⟩
  exact ((((Calm.put ⟨rfl, rfl⟩ 0 _).put 1 _).fl).put 1 _).fl
end Go.Proofs.YthejlenafjnmkaaGreat.Sto
