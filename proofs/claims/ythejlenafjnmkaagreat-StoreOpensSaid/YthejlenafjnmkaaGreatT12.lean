import Derived.Test.YthejlenafjnmkaaGreatT11
import Derived.Test.YthejlenafjnmkaaGreatT8
import Derived.Test.YthejlenafjnmkaaGreatT9

/- What goes when a block is left: in pure terms, and the contracts of leave and Drop. -/
namespace Go.Proofs.YthejlenafjnmkaaGreat.Sto
open Go.RowKit
open Oct (Has Chg)
open Rws
open Mem (IMap)
set_option linter.unusedVariables false

def delN (f : Int → Option NodeV) (k : Int) : Int → Option NodeV := fun z => if z = k then none else f z
def dec1 (f : Int → Option NodeV) (k : Int) : Int → Option NodeV := fun z => if z = k then (f z).map fun n => { n with named := wrap64 (n.named - 1) } else f z
/-- What is there when a block is left (at most so many levels). -/
def leaveV : Nat → (Int → Option NodeV) → Int → (Int → Option NodeV)
  | 0, f, _ => f
  | n + 1, f, id => match f id with
    | none => f
    | some nd => if nd.named = 0 ∧ nd.held = 0 then nd.kids.foldl (fun g k => leaveV n (dec1 g k) k) (delN f id) else f
def leaveK (n : Nat) (g : Int → Option NodeV) (k : Int) : Int → Option NodeV := leaveV n (dec1 g k) k
def kidsN (o : Option NodeV) : List Int := match o with
  | some n => n.kids
  | none => []
/-- How often a block is named by those that are there. -/
def tot (N : Nat) (f : Int → Option NodeV) (z : Int) : Nat := ((List.range N).map fun i : Nat => (kidsN (f i)).count z).sum
theorem sum_same (g h : Nat → Nat) : ∀ N, (∀ j, j < N → g j = h j) → ((List.range N).map g).sum = ((List.range N).map h).sum
  | 0, _ => rfl
  | N + 1, e => by
    simp only [List.range_succ, List.map_append, List.sum_append, List.map_cons, List.map_nil]
    rw [sum_same g h N (fun j hj => e j (by omega)), e N (by omega)]
theorem sum_one (g h : Nat → Nat) (i c : Nat) (hne : ∀ j, j ≠ i → g j = h j) (hi : g i = h i + c) : ∀ N, i < N → ((List.range N).map g).sum = ((List.range N).map h).sum + c
  | 0, e => by omega
  | N + 1, e => by
    simp only [List.range_succ, List.map_append, List.sum_append, List.map_cons, List.map_nil, List.sum_cons, List.sum_nil]
    by_cases q : i = N
    · subst q
      rw [sum_same g h i (fun j hj => hne j (by omega)), hi]
      omega
    · rw [sum_one g h i c hne hi N (by omega), hne N (by omega)]
      omega
theorem sum_le (g : Nat → Nat) (c : Nat) : ∀ N, (∀ j, j < N → g j ≤ c) → ((List.range N).map g).sum ≤ N * c
  | 0, _ => by simp
  | N + 1, e => by
    simp only [List.range_succ, List.map_append, List.sum_append, List.map_cons, List.map_nil, List.sum_cons, List.sum_nil]
    have := sum_le g c N (fun j hj => e j (by omega))
    have := e N (by omega)
    rw [Nat.add_mul, Nat.one_mul]
    omega
theorem delN_at (f : Int → Option NodeV) (k : Int) : delN f k k = none := if_pos rfl
theorem delN_ne (f : Int → Option NodeV) {k z : Int} (h : z ≠ k) : delN f k z = f z := if_neg h
theorem delN_some {f : Int → Option NodeV} {k z : Int} {n : NodeV} (h : delN f k z = some n) : z ≠ k ∧ f z = some n := by
  unfold delN at h
  split at h
  · cases h
  · exact ⟨by assumption, h⟩
theorem dec1_at {f : Int → Option NodeV} {k : Int} {n : NodeV} (h : f k = some n) : dec1 f k k = some { n with named := wrap64 (n.named - 1) } := by
  unfold dec1
  rw [if_pos rfl, h]
  rfl
theorem dec1_ne (f : Int → Option NodeV) {k z : Int} (h : z ≠ k) : dec1 f k z = f z := if_neg h
theorem dec1_some (f : Int → Option NodeV) (k z : Int) : (dec1 f k z).isSome = (f z).isSome := by
  unfold dec1
  split
  · cases f z <;> rfl
  · rfl
theorem dec1_is {f : Int → Option NodeV} {k z : Int} {n : NodeV} (h : dec1 f k z = some n) : ∃ m, f z = some m ∧ n.kids = m.kids ∧ n.high = m.high ∧ n.held = m.held := by
  by_cases e : z = k
  · subst e
    unfold dec1 at h
    rw [if_pos rfl] at h
    cases hf : f z with
    | none => rw [hf] at h; cases h
    | some m =>
      rw [hf] at h
      simp at h
      subst h
      exact ⟨m, rfl, rfl, rfl, rfl⟩
  · rw [dec1_ne f e] at h
    exact ⟨n, h, rfl, rfl, rfl⟩
theorem dec1_kids (f : Int → Option NodeV) (k z : Int) : kidsN (dec1 f k z) = kidsN (f z) := by
  by_cases e : z = k
  · subst e
    unfold dec1
    rw [if_pos rfl]
    cases f z <;> rfl
  · rw [dec1_ne f e]
/-- What is left of a store's blocks is as it was, but for how often it is named. -/
def Subn (f g : Int → Option NodeV) : Prop := ∀ z n', g z = some n' → ∃ n, f z = some n ∧ n'.kids = n.kids ∧ n'.high = n.high ∧ n'.held = n.held
theorem Subn.refl (f : Int → Option NodeV) : Subn f f := fun z n h => ⟨n, h, rfl, rfl, rfl⟩
theorem Subn.trans {f g h : Int → Option NodeV} (a : Subn f g) (b : Subn g h) : Subn f h := fun z n q => by
  obtain ⟨m, q1, q2, q3, q4⟩ := b z n q
  obtain ⟨l, p1, p2, p3, p4⟩ := a z m q1
  exact ⟨l, p1, q2.trans p2, q3.trans p3, q4.trans p4⟩
theorem sub_del (f : Int → Option NodeV) (k : Int) : Subn f (delN f k) := fun z n h => ⟨n, (delN_some h).2, rfl, rfl, rfl⟩
theorem sub_dec (f : Int → Option NodeV) (k : Int) : Subn f (dec1 f k) := fun z n h => dec1_is h
theorem Subn.isSome {f g : Int → Option NodeV} (h : Subn f g) {z : Int} (hz : (g z).isSome = true) : (f z).isSome = true := by
  obtain ⟨n, hn⟩ := Option.isSome_iff_exists.1 hz
  obtain ⟨m, hm, _⟩ := h z n hn
  rw [hm]
  rfl
/-- Each block that is there is named as often as it says, by those that are there and by those that are yet to be told. -/
structure Acc (N : Nat) (f : Int → Option NodeV) (P : List Int) : Prop where
  down : Down f
  ids : ∀ z, (f z).isSome = true → ∃ i : Nat, z = i ∧ 2 ≤ i ∧ i < N
  cnt : ∀ z n, f z = some n → n.named = ((tot N f z + P.count z : Nat) : Int)
  few : ∀ z n, f z = some n → n.named ≤ 1000000000
  pend : ∀ k ∈ P, (f k).isSome = true
theorem tot_del {N : Nat} {f : Int → Option NodeV} {id : Int} {nd : NodeV} (h : f id = some nd) (hi : ∃ i : Nat, id = i ∧ 2 ≤ i ∧ i < N) (z : Int) : tot N f z = tot N (delN f id) z + nd.kids.count z := by
  obtain ⟨i, rfl, _, hN⟩ := hi
  refine sum_one _ _ i _ (fun j hj => ?_) ?_ N hN
  · rw [delN_ne f (show (j : Int) ≠ i by omega)]
  · rw [delN_at, h]
    simp [kidsN]
theorem tot_dec (N : Nat) (f : Int → Option NodeV) (k z : Int) : tot N (dec1 f k) z = tot N f z := by
  unfold tot
  exact sum_same _ _ N fun j _ => by rw [dec1_kids]
theorem named_by {N : Nat} {f : Int → Option NodeV} {P : List Int} (h : Acc N f P) {z k : Int} {n : NodeV} (hz : f z = some n) (hk : k ∈ n.kids) : 1 ≤ tot N f k := by
  rw [tot_del hz (h.ids z (by rw [hz]; rfl)) k]
  have := List.count_pos_iff.2 hk
  omega
theorem tot_le {N : Nat} {f : Int → Option NodeV} (h : Down f) (z : Int) : tot N f z ≤ N * 1000 := by
  refine sum_le _ 1000 N fun j _ => ?_
  cases hf : f (j : Int) with
  | none => simp [kidsN]
  | some n => exact Nat.le_trans (List.count_le_length) (h _ n hf).2.1
theorem acc_del {N : Nat} {f : Int → Option NodeV} {P : List Int} (h : Acc N f P) {id : Int} {nd : NodeV} (hf : f id = some nd) (h0 : nd.named = 0) : Acc N (delN f id) (nd.kids ++ P) := by
  have hc := h.cnt id nd hf
  rw [h0] at hc
  have hkid : ∀ z n, f z = some n → ∀ k ∈ n.kids, k ≠ id := fun z n hz k hk e => by
    subst e
    have := named_by h hz hk
    omega
  refine ⟨fun z n hz => ?_, fun z hz => h.ids z ((sub_del f id).isSome hz), fun z n hz => ?_, fun z n hz => h.few z n (delN_some hz).2, fun k hk => ?_⟩
  · obtain ⟨hne, hz⟩ := delN_some hz
    obtain ⟨a, b, c⟩ := h.down z n hz
    refine ⟨a, b, fun k hk => ?_⟩
    obtain ⟨m, hm, hh⟩ := c k hk
    exact ⟨m, by rw [delN_ne f (hkid z n hz k hk)]; exact hm, hh⟩
  · obtain ⟨hne, hz⟩ := delN_some hz
    rw [h.cnt z n hz, tot_del hf (h.ids id (by rw [hf]; rfl)) z, List.count_append]
    congr 1
    omega
  · rcases List.mem_append.1 hk with hk | hk
    · rw [delN_ne f (hkid id nd hf k hk)]
      obtain ⟨m, hm, _⟩ := (h.down id nd hf).2.2 k hk
      rw [hm]
      rfl
    · rw [delN_ne f (fun e => ?_)]
      · exact h.pend k hk
      · subst e
        have := List.count_pos_iff.2 hk
        omega
theorem acc_dec {N : Nat} {f : Int → Option NodeV} {k : Int} {P : List Int} (h : Acc N f (k :: P)) : Acc N (dec1 f k) P := by
  refine ⟨fun z n hz => ?_, fun z hz => h.ids z (by rw [← dec1_some f k z]; exact hz), fun z n hz => ?_, fun z n hz => ?_, fun j hj => by rw [dec1_some]; exact h.pend j (List.mem_cons_of_mem _ hj)⟩
  · obtain ⟨m, hm, e1, e2, _⟩ := dec1_is hz
    obtain ⟨a, b, c⟩ := h.down z m hm
    rw [e1, e2]
    refine ⟨a, b, fun j hj => ?_⟩
    obtain ⟨q, hq, hh⟩ := c j hj
    have hs : (dec1 f k j).isSome = true := by rw [dec1_some, hq]; rfl
    obtain ⟨q', hq'⟩ := Option.isSome_iff_exists.1 hs
    obtain ⟨q2, hq2, _, e4, _⟩ := dec1_is hq'
    rw [hq] at hq2
    injection hq2 with hq2
    subst hq2
    exact ⟨q', hq', by rw [e4]; exact hh⟩
  · rw [tot_dec]
    by_cases e : z = k
    · subst e
      have hs : (f z).isSome = true := by rw [← dec1_some f z z, hz]; rfl
      obtain ⟨m, hm⟩ := Option.isSome_iff_exists.1 hs
      rw [dec1_at hm] at hz
      injection hz with hz
      subst hz
      have h1 := h.cnt z m hm
      have h2 := h.few z m hm
      rw [List.count_cons_self] at h1
      show wrap64 (m.named - 1) = _
      unfold wrap64
      omega
    · rw [dec1_ne f e] at hz
      rw [h.cnt z n hz, List.count_cons_of_ne (Ne.symm e)]
  · by_cases e : z = k
    · subst e
      have hs : (f z).isSome = true := by rw [← dec1_some f z z, hz]; rfl
      obtain ⟨m, hm⟩ := Option.isSome_iff_exists.1 hs
      rw [dec1_at hm] at hz
      injection hz with hz
      subst hz
      have h1 := h.cnt z m hm
      have h2 := h.few z m hm
      rw [List.count_cons_self] at h1
      show wrap64 (m.named - 1) ≤ _
      unfold wrap64
      omega
    · rw [dec1_ne f e] at hz
      exact h.few z n hz
theorem acc_kids {N n : Nat} (ih : ∀ f P id, Acc N f P → (∀ nd, f id = some nd → nd.high ≤ n) → Acc N (leaveV n f id) P ∧ Subn f (leaveV n f id)) :
    ∀ (ks : List Int) (g : Int → Option NodeV) (P : List Int), Acc N g (ks ++ P) → (∀ k ∈ ks, ∀ nd, g k = some nd → nd.high ≤ n) → Acc N (ks.foldl (leaveK n) g) P ∧ Subn g (ks.foldl (leaveK n) g)
  | [], g, P, h, _ => ⟨h, Subn.refl g⟩
  | k :: ks, g, P, h, hh => by
    have h1 : Acc N (dec1 g k) (ks ++ P) := acc_dec h
    have h2 := ih (dec1 g k) (ks ++ P) k h1 (fun nd hnd => by
      obtain ⟨m, hm, _, e2, _⟩ := dec1_is hnd
      rw [e2]
      exact hh k List.mem_cons_self m hm)
    have hs : Subn g (leaveK n g k) := (sub_dec g k).trans h2.2
    have h3 := acc_kids ih ks (leaveK n g k) P h2.1 (fun j hj nd hnd => by
      obtain ⟨m, hm, _, e2, _⟩ := hs j nd hnd
      rw [e2]
      exact hh j (List.mem_cons_of_mem _ hj) m hm)
    exact ⟨h3.1, hs.trans h3.2⟩
theorem acc_leave {N : Nat} : ∀ (n : Nat) (f : Int → Option NodeV) (P : List Int) (id : Int), Acc N f P → (∀ nd, f id = some nd → nd.high ≤ n) → Acc N (leaveV n f id) P ∧ Subn f (leaveV n f id)
  | 0, f, P, id, h, _ => ⟨h, Subn.refl f⟩
  | n + 1, f, P, id, h, hh => by
    unfold leaveV
    cases hf : f id with
    | none => exact ⟨h, Subn.refl f⟩
    | some nd =>
      show Acc N (if nd.named = 0 ∧ nd.held = 0 then nd.kids.foldl (leaveK n) (delN f id) else f) P ∧ Subn f (if nd.named = 0 ∧ nd.held = 0 then nd.kids.foldl (leaveK n) (delN f id) else f)
      by_cases h0 : nd.named = 0 ∧ nd.held = 0
      · rw [if_pos h0]
        have h1 := acc_del h hf h0.1
        have h2 := acc_kids (acc_leave n) nd.kids (delN f id) P h1 (fun k hk m hm => by
          obtain ⟨q, hq, hlt⟩ := (h.down id nd hf).2.2 k hk
          have hm := (delN_some hm).2
          rw [hq] at hm
          injection hm with hm
          subst hm
          have := hh nd hf
          omega)
        exact ⟨h2.1, (sub_del f id).trans h2.2⟩
      · rw [if_neg h0]
        exact ⟨h, Subn.refl f⟩
end Go.Proofs.YthejlenafjnmkaaGreat.Sto
/- Contracts of leave, Drop and Sweep. -/
namespace Go.Proofs.YthejlenafjnmkaaGreat.Sto
open Go.RowKit
open Oct (Has Chg)
open Rws
open Mem (IMap Shr Rng cntLeft)
set_option linter.unusedVariables false

theorem loose_nd (g : Nat) (n : NodeV) (w : World) (h : NodeIs w g n) :
    Calls Tryz.prog 112 #[.pointer (some ⟨g, 0, none⟩)] w fun e w' => e = .returned (.bool (decide (n.named = 0 ∧ n.held = 0))) ∧ w = w' := by
  obtain ⟨A, c, h1, _⟩ := h
  have c2 := Has.at_ h1 2
  have c3 := Has.at_ h1 3
  simp [nodeC] at c2 c3
  clear h1
  obtain ⟨ks, hi, M, H⟩ := n
  by_cases m0 : M = 0
  · by_cases k0 : H = 0
    · subst m0 k0
      have e : (decide ((0 : Int) = 0 ∧ (0 : Int) = 0)) = true := by decide
      rw [e]
      go_enter Tryz.func112, Tryz.ntmps112
      go_wp2
      go_ret
      exact ⟨rfl, rfl⟩
    · have e : (decide (M = 0 ∧ H = 0)) = false := decide_eq_false (fun k => k0 k.2)
      rw [e]
      have t : (H == 0) = false := beq_eq_false_iff_ne.2 k0
      clear e k0
      subst m0
      go_enter Tryz.func112, Tryz.ntmps112
      go_wp2
      go_ret
      exact ⟨rfl, rfl⟩
  · have e : (decide (M = 0 ∧ H = 0)) = false := decide_eq_false (fun k => m0 k.1)
    rw [e]
    have t : (M == 0) = false := beq_eq_false_iff_ne.2 m0
    clear e m0
    go_enter Tryz.func112, Tryz.ntmps112
    go_wp2
    go_ret
    exact ⟨rfl, rfl⟩
theorem StoIs.del {w w6 : World} {p : Nat} {F : Fr} {s : SV} (h : StoIs w p F s) {id : Int} (hm : IMap w6 F.t (fun y => if y = id then none else thereM F s.nodes y)) (hc : Chg (· = F.t) w w6) : StoIs w6 p F { s with nodes := delN s.nodes id } := by
  have pt : p ≠ F.t := fun e => map_ne h.there h.obj e.symm
  have dt : F.d ≠ F.t := fun e => map_ne h.there (show Oct.Has w F.d _ _ from h.dev.obj) e.symm
  refine ⟨h.obj.over hc pt, h.dev.over hc.to dt h.tdk.symm h.tdd.symm, ?_, h.kept.over hc.to h.tk.symm, fun z m hz => ?_, fun z y hz hy e => h.inj z y ((sub_del s.nodes id).isSome hz) ((sub_del s.nodes id).isSome hy) e, h.tk, h.tdk, h.tdd, h.kdk, h.kdd⟩
  · have e : thereM F (delN s.nodes id) = fun y => if y = id then none else thereM F s.nodes y := by
      funext z
      unfold thereM delN
      by_cases e : z = id
      · simp [e]
      · simp [e]
    show IMap w6 F.t (thereM F (delN s.nodes id))
    rw [e]
    exact hm
  · obtain ⟨A, c, k1, k2⟩ := h.node z m (delN_some hz).2
    exact ⟨A, c, k1.over hc (fun e => map_ne h.there k1 e.symm), own_map k2 h.there hc⟩
theorem StoIs.dec {w : World} {p : Nat} {F : Fr} {s : SV} (h : StoIs w p F s) {k : Int} {nd : NodeV} (hk : s.nodes k = some nd) : StoIs (w.setCell ⟨F.g k, 2, none⟩ (.int .i64 (wrap64 (nd.named - 1)))) p F { s with nodes := dec1 s.nodes k } := by
  obtain ⟨a1, a2, a3, a4, a5, a6⟩ := h.apart hk
  have hc : Chg (· = F.g k) w (w.setCell ⟨F.g k, 2, none⟩ (.int .i64 (wrap64 (nd.named - 1)))) := (Chg.refl (· = F.g k) w).setCell (p := ⟨F.g k, 2, none⟩) (.inl rfl) _
  have hm : thereM F (dec1 s.nodes k) = thereM F s.nodes := by
    funext z
    unfold thereM
    have := dec1_some s.nodes k z
    cases h1 : dec1 s.nodes k z <;> cases h2 : s.nodes z <;> rw [h1, h2] at this <;> first | rfl | (simp at this)
  refine ⟨h.obj.over hc a1, h.dev.over hc.to a4 a5 a6, ?_, h.kept.over hc.to a3, fun z n hz => ?_, fun z y hz hy => h.inj z y (by rw [← dec1_some s.nodes k z]; exact hz) (by rw [← dec1_some s.nodes k y]; exact hy), h.tk, h.tdk, h.tdd, h.kdk, h.kdd⟩
  · show IMap _ F.t (thereM F (dec1 s.nodes k))
    rw [hm]
    exact h.there.over hc.to a2
  · have hz' : dec1 s.nodes k z = some n := hz
    obtain ⟨Ak, ck, k1, k2⟩ := h.node k nd hk
    by_cases e : z = k
    · subst e
      rw [dec1_at hk] at hz'
      injection hz' with hz'
      subst hz'
      exact ⟨Ak, ck, Oct.Has.put k1 2 _, own_apart k2 k1 hc (by decide)⟩
    · rw [dec1_ne _ e] at hz'
      obtain ⟨A, c, h1, h2⟩ := h.node z n hz'
      exact ⟨A, c, h1.over hc (fun q => e (h.inj z k (by rw [hz']; rfl) (by rw [hk]; rfl) q)), own_apart h2 k1 hc (by decide)⟩
theorem add_sub {F : Fr} {s : SV} {f : Int → Option NodeV} (h : Subn s.nodes f) {k : Nat} (hk : AddS F { s with nodes := f } k) : AddS F s k := by
  rcases hk with e | ⟨z, hz, e⟩
  · exact .inl e
  · exact .inr ⟨z, h.isSome hz, e⟩
set_option maxRecDepth 100000 in
set_option maxHeartbeats 2000000 in
theorem leave_sto (p : Nat) (F : Fr) (N : Nat) (n : Nat) : ∀ (s : SV) (P : List Int) (_ : Acc N s.nodes P) (id : Int) (nd : NodeV) (_ : s.nodes id = some nd) (_ : nd.high ≤ n) (w : World) (_ : StoIs w p F s),
    Calls Tryz.prog 91 #[.pointer (some ⟨p, 0, none⟩), .int .i64 id] w fun e w' => e = .returned (.tuple #[]) ∧ StoIs w' p F { s with nodes := leaveV n s.nodes id } ∧ Chg (AddS F s) w w' ∧ Shr F.t w w' := by
  induction n with
  | zero =>
    intro s P hacc id nd hnd hh w h
    have := (hacc.down id nd hnd).1
    omega
  | succ n ih =>
    intro s P hacc id nd hnd hh w h
    have HIH := Lib.hid ih
    have hl := (h.there.lookup mapN Dv.intT (.pointer none) zero_node id).1
    have e3 : (thereM F s.nodes id).getD (.pointer none) = .pointer (some ⟨F.g id, 0, none⟩) := by unfold thereM; rw [hnd]; rfl
    rw [e3] at hl
    have c4 := Has.at_ h.obj 4
    simp at c4
    have HL := Lib.hid (loose_nd (F.g id) nd w (h.node id nd hnd))
    have HH := Lib.hid h
    have HACC := Lib.hid hacc
    have HND := Lib.hid hnd
    have HHI := Lib.hid hh
    clear e3 ih hacc hnd hh h
    by_cases h0 : nd.named = 0 ∧ nd.held = 0
    · have HE := Lib.hid (show leaveV (n + 1) s.nodes id = nd.kids.foldl (leaveK n) (delN s.nodes id) by
        show (match s.nodes id with | none => s.nodes | some nd => if nd.named = 0 ∧ nd.held = 0 then nd.kids.foldl (leaveK n) (delN s.nodes id) else s.nodes) = _
        rw [HND.out]
        exact if_pos h0)
      rw [show decide (nd.named = 0 ∧ nd.held = 0) = true from decide_eq_true h0] at HL
      have HN0 := Lib.hid h0.1
      obtain ⟨w6, hdel, m6, g6, z6, s6⟩ := HH.out.there.delete mapN Dv.intT id
      have h6 := HH.out.del m6 (Oct.Chg.of g6)
      obtain ⟨A2, c2, q1, q2⟩ := HH.out.node id nd HND.out
      have q6 := q1.over (Oct.Chg.of g6) (fun e => map_ne HH.out.there q1 e.symm)
      have k0 := Has.at_ q6 0
      simp [nodeC] at k0
      have HROW := Lib.hid (row_of_own q2 rfl)
      have HNOT := Lib.hid (row_not q2 HH.out)
      have H6 := Lib.hid (show StoIs w6 p F { s with nodes := (nd.kids.take 0).foldl (leaveK n) (delN s.nodes id) } from h6)
      have HC6 := Lib.hid ((Oct.Chg.of g6).mono fun k hk => (.inl hk : AddS F s k))
      have HS6 := Lib.hid s6
      have HPUR := Lib.hid (fun (j : Nat) (hj : j ≤ nd.kids.length) => acc_kids (acc_leave (N := N) n) (nd.kids.take j) (delN s.nodes id) (nd.kids.drop j ++ P) (by
        rw [← List.append_assoc, List.take_append_drop]
        exact acc_del HACC.out HND.out HN0.out) (fun k hk m hm => by
          obtain ⟨q, hq, hlt⟩ := (HACC.out.down id nd HND.out).2.2 k (List.mem_of_mem_take hk)
          have hm := (delN_some hm).2
          rw [hq] at hm
          injection hm with hm
          subst hm
          have := HHI.out
          omega))
      have HLN := Lib.hid ((HACC.out.down id nd HND.out).2.1)
      clear m6 g6 z6 h6 q1 q2 q6 s6 h0
      go_enter Tryz.func91, Tryz.ntmps91
      go_wp2_with fail
      refine HL.out.mono ?_
      rintro e w' ⟨rfl, rfl⟩
      go_wp2
      clear hl c4 hdel k0
      go_loopw [26] (fun i wr => ∃ j : Nat, j ≤ nd.kids.length ∧ i = .int .i64 j ∧ Hid (StoIs wr p F { s with nodes := (nd.kids.take j).foldl (leaveK n) (delN s.nodes id) }) ∧ Hid (Chg (AddS F s) w wr) ∧ Hid (Shr F.t w wr)) (fun i _ => nd.kids.length - (intOf i).toNat)
      case atStart => exact ⟨0, Nat.zero_le _, rfl, H6, HC6, HS6⟩
      case round =>
        obtain ⟨j, hj, rfl, HJ, HC, HSJ⟩ := hrel
        clear H6 HC6 HS6
        have hl9 := HLN.out
        have hrow := row_chg HROW.out HC.out HNOT.out
        by_cases hlt : j < nd.kids.length
        · obtain ⟨b, off, rfl, hbl, hcl⟩ := hrow.2 (by omega)
          have k1 := hcl j hlt
          obtain ⟨hA, hSub⟩ := HPUR.out j hj
          have hdj : nd.kids.drop j = nd.kids[j] :: nd.kids.drop (j + 1) := List.drop_eq_getElem_cons hlt
          rw [hdj, List.cons_append] at hA
          obtain ⟨m, hm⟩ := Option.isSome_iff_exists.1 (hA.pend _ List.mem_cons_self)
          have hSub0 : Subn s.nodes ((nd.kids.take j).foldl (leaveK n) (delN s.nodes id)) := (sub_del s.nodes id).trans hSub
          have hhi : m.high ≤ n := by
            obtain ⟨q, hq, _, e2, _⟩ := hSub0 _ m hm
            obtain ⟨q', hq', hlt'⟩ := (HACC.out.down id nd HND.out).2.2 _ (List.getElem_mem hlt)
            rw [hq] at hq'
            injection hq' with hq'
            subst hq'
            have := HHI.out
            omega
          have hl := (HJ.out.there.lookup mapN Dv.intT (.pointer none) zero_node nd.kids[j]).1
          have e3 : (thereM F ((nd.kids.take j).foldl (leaveK n) (delN s.nodes id)) nd.kids[j]).getD (.pointer none) = .pointer (some ⟨F.g nd.kids[j], 0, none⟩) := by unfold thereM; rw [hm]; rfl
          replace hl : (Instr.lookup 85 (.map (some F.t)) (.int .i64 nd.kids[j]) false).run Tryz.prog wr = .ok (.pointer (some ⟨F.g nd.kids[j], 0, none⟩)) wr := by rw [← e3]; exact hl
          have d4 := Has.at_ HJ.out.obj 4
          simp at d4
          obtain ⟨A3, c3, r1, r2⟩ := HJ.out.node _ m hm
          have r0 := Has.at_ r1 2
          have f0 := Has.free r1 2
          simp [nodeC] at r0
          have hd := HJ.out.dec hm
          have HD := Lib.hid hd
          have hcd : Chg (AddS F s) wr (wr.setCell ⟨F.g nd.kids[j], 2, none⟩ (.int .i64 (wrap64 (m.named - 1)))) := (Chg.refl (AddS F s) wr).setCell (p := ⟨F.g nd.kids[j], 2, none⟩) (.inl (.inr ⟨nd.kids[j], hSub0.isSome (by rw [hm]; rfl), rfl⟩)) _
          have HCD := Lib.hid (HC.out.trans hcd)
          have hsd : Shr F.t wr (wr.setCell ⟨F.g nd.kids[j], 2, none⟩ (.int .i64 (wrap64 (m.named - 1)))) := Mem.Shr.of (((Chg.refl (· = F.g nd.kids[j]) wr).setCell (p := ⟨F.g nd.kids[j], 2, none⟩) (.inl rfl) _).to) (map_ne HJ.out.there r1)
          have HSD := Lib.hid (HSJ.out.trans hsd)
          have HR := Lib.hid (HIH.out { s with nodes := dec1 ((nd.kids.take j).foldl (leaveK n) (delN s.nodes id)) nd.kids[j] } (nd.kids.drop (j + 1) ++ P) (acc_dec hA) nd.kids[j] _ (dec1_at hm) hhi _ hd)
          have HSB := Lib.hid (fun k (hk : AddS F { s with nodes := dec1 ((nd.kids.take j).foldl (leaveK n) (delN s.nodes id)) nd.kids[j] } k) => add_sub (hSub0.trans (sub_dec _ _)) hk)
          have HT := Lib.hid (show (nd.kids.take (j + 1)).foldl (leaveK n) (delN s.nodes id) = leaveV n (dec1 ((nd.kids.take j).foldl (leaveK n) (delN s.nodes id)) nd.kids[j]) nd.kids[j] by
            rw [List.take_succ_eq_append_getElem hlt, List.foldl_append]
            rfl)
          clear hrow hcl hbl hm hA hSub hSub0 hhi e3 r1 r2 hd hcd hsd hdj
          generalize m.named = M at *
          generalize nd.kids[j] = kid at *
          go_wp2_with fail
          refine HR.out.mono ?_
          rintro e w7 ⟨rfl, h7, c7, s7⟩
          have HS := Lib.hid (show StoIs w7 p F { s with nodes := (nd.kids.take (j + 1)).foldl (leaveK n) (delN s.nodes id) } by rw [HT.out]; exact h7)
          have HC7 := Lib.hid (HCD.out.trans (c7.mono HSB.out))
          have HS7 := Lib.hid (HSD.out.trans s7)
          clear h7 c7 s7 HR
          go_wp2
          go_roundw
          case rel => exact ⟨j + 1, by omega, by go_num, HS, HC7, HS7⟩
          case measure => simp [intOf]; omega
        · have hje : j = nd.kids.length := by omega
          have hfull : nd.kids.take j = nd.kids := List.take_of_length_le (by omega)
          rw [hfull] at HJ
          subst hje
          go_wp2
          go_end0
          exact ⟨rfl, by rw [HE.out]; exact HJ.out, HC.out, HSJ.out⟩
    · have HE := Lib.hid (show leaveV (n + 1) s.nodes id = s.nodes by
        show (match s.nodes id with | none => s.nodes | some nd => if nd.named = 0 ∧ nd.held = 0 then nd.kids.foldl (leaveK n) (delN s.nodes id) else s.nodes) = _
        rw [HND.out]
        exact if_neg h0)
      rw [show decide (nd.named = 0 ∧ nd.held = 0) = false from decide_eq_false h0] at HL
      clear h0
      go_enter Tryz.func91, Tryz.ntmps91
      go_wp2_with fail
      refine HL.out.mono ?_
      rintro e w' ⟨rfl, rfl⟩
      go_wp2
      exact bodyPost_ret (v := .tuple #[]) (by simp [results, Tryz.results91, go_sem]) rfl ⟨rfl, by rw [HE.out]; exact HH.out, Chg.refl _ _, Mem.Shr.refl _ _⟩
end Go.Proofs.YthejlenafjnmkaaGreat.Sto
/- Contracts of Drop and Sweep. -/
namespace Go.Proofs.YthejlenafjnmkaaGreat.Sto
open Go.RowKit
open Oct (Has Chg)
open Rws
open Mem (IMap Shr Rng cntLeft)
set_option linter.unusedVariables false

theorem held_is {f : Int → Option NodeV} {k q z : Int} {n : NodeV} (h : heldN f k q z = some n) : ∃ m, f z = some m ∧ n.kids = m.kids ∧ n.high = m.high ∧ n.named = m.named := by
  unfold heldN at h
  by_cases e : z = k
  · rw [if_pos e] at h
    cases hf : f z with
    | none => rw [hf] at h; cases h
    | some m =>
      rw [hf] at h
      simp at h
      subst h
      exact ⟨m, rfl, rfl, rfl, rfl⟩
  · rw [if_neg e] at h
    exact ⟨n, h, rfl, rfl, rfl⟩
theorem held_kids (f : Int → Option NodeV) (k q z : Int) : kidsN (heldN f k q z) = kidsN (f z) := by
  unfold heldN
  split
  · cases f z <;> rfl
  · rfl
theorem acc_held {N : Nat} {f : Int → Option NodeV} {P : List Int} (h : Acc N f P) (k q : Int) : Acc N (heldN f k q) P := by
  have ht : ∀ z, tot N (heldN f k q) z = tot N f z := fun z => by
    unfold tot
    exact sum_same _ _ N fun j _ => by rw [held_kids]
  refine ⟨fun z n hz => ?_, fun z hz => h.ids z (by rw [← heldN_some f k q z]; exact hz), fun z n hz => ?_, fun z n hz => ?_, fun j hj => by rw [heldN_some]; exact h.pend j hj⟩
  · obtain ⟨m, hm, e1, e2, _⟩ := held_is hz
    obtain ⟨a, b, c⟩ := h.down z m hm
    rw [e1, e2]
    refine ⟨a, b, fun j hj => ?_⟩
    obtain ⟨r, hr, hh⟩ := c j hj
    have hs : (heldN f k q j).isSome = true := by rw [heldN_some, hr]; rfl
    obtain ⟨r', hr'⟩ := Option.isSome_iff_exists.1 hs
    obtain ⟨r2, hr2, _, e4, _⟩ := held_is hr'
    rw [hr] at hr2
    injection hr2 with hr2
    subst hr2
    exact ⟨r', hr', by rw [e4]; exact hh⟩
  · obtain ⟨m, hm, _, _, e3⟩ := held_is hz
    rw [ht, e3]
    exact h.cnt z m hm
  · obtain ⟨m, hm, _, _, e3⟩ := held_is hz
    rw [e3]
    exact h.few z m hm
/-- What Drop leaves. -/
def dropN (f : Int → Option NodeV) (id q : Int) : Int → Option NodeV := leaveV 64 (heldN f id (q - 1)) id
set_option maxRecDepth 100000 in
set_option maxHeartbeats 1000000 in
theorem drop_sto (p : Nat) (F : Fr) (N : Nat) (s : SV) (hacc : Acc N s.nodes []) (hlow : Low s) (id : Int) (nd : NodeV) (hn : s.nodes id = some nd) (h0 : 1 ≤ nd.held) (h1 : nd.held ≤ 1000000000) (w : World) (h : StoIs w p F s) :
    Calls Tryz.prog 54 #[.pointer (some ⟨p, 0, none⟩), .int .i64 id] w fun e w' => e = .returned (.int .i64 0) ∧ StoIs w' p F { s with nodes := dropN s.nodes id nd.held } ∧ Chg (AddS F s) w w' := by
  have HM := Lib.hid (made_sto p F s w h)
  have HS := Lib.hid (has_sto p F s id w h)
  have hsm : (s.nodes id).isSome = true := by rw [hn]; rfl
  rw [hsm] at HS
  have hl := (h.there.lookup mapN Dv.intT (.pointer none) zero_node id).1
  have e1 : (thereM F s.nodes id).getD (.pointer none) = .pointer (some ⟨F.g id, 0, none⟩) := by unfold thereM; rw [hn]; rfl
  rw [e1] at hl
  have c4 := Has.at_ h.obj 4
  simp at c4
  obtain ⟨A2, c2, q1, q2⟩ := h.node id nd hn
  have k2 := Has.at_ q1 3
  have k3 := Has.free q1 3
  simp [nodeC] at k2
  have he := h.holds hn (nd.held - 1)
  have HC := Lib.hid ((Chg.refl (AddS F s) w).setCell (p := ⟨F.g id, 3, none⟩) (.inl (.inr ⟨id, hsm, rfl⟩)) (.int .i64 (nd.held - 1)))
  have hh : heldN s.nodes id (nd.held - 1) id = some { nd with held := nd.held - 1 } := by
    unfold heldN
    rw [if_pos rfl, hn]
    rfl
  have HLV := Lib.hid (leave_sto p F N 64 { s with nodes := heldN s.nodes id (nd.held - 1) } [] (acc_held hacc id _) id _ hh (by have := hlow id nd hn; show nd.high ≤ _; omega) _ he)
  have HSB := Lib.hid (fun k (hk : AddS F { s with nodes := heldN s.nodes id (nd.held - 1) } k) => (by
    rcases hk with e | ⟨z, hz, e⟩
    · exact .inl e
    · exact .inr ⟨z, by rw [← heldN_some s.nodes id (nd.held - 1) z]; exact hz, e⟩ : AddS F s k))
  have t0 : (nd.held == 0) = false := beq_eq_false_iff_ne.2 (by omega)
  have t1 : wrap64 (nd.held - 1) = nd.held - 1 := by unfold wrap64; omega
  clear h hn hsm e1 q1 q2 hacc hlow he hh
  unfold dropN
  generalize F.g id = G at *
  generalize nd.held = H at *
  have HZ := Lib.hid h0
  go_enter Tryz.func54, Tryz.ntmps54
  go_wp2_with fail
  refine HM.out.mono ?_
  rintro e w' ⟨rfl, rfl⟩
  go_wp2_with fail
  refine HS.out.mono ?_
  rintro e w' ⟨rfl, rfl⟩
  go_wp2_with fail
  refine HLV.out.mono ?_
  rintro e w' ⟨rfl, h7, c7, _⟩
  go_wp2
  go_ret
  exact ⟨rfl, h7, HC.out.trans (c7.mono HSB.out)⟩
set_option maxRecDepth 100000 in
theorem drop_bad (p : Nat) (F : Fr) (s : SV) (id : Int) (hb : s.nodes id = none ∨ ∃ nd, s.nodes id = some nd ∧ nd.held = 0) (w : World) (h : StoIs w p F s) :
    Calls Tryz.prog 54 #[.pointer (some ⟨p, 0, none⟩), .int .i64 id] w fun e w' => e = .returned (.int .i64 22) ∧ w = w' := by
  have HM := Lib.hid (made_sto p F s w h)
  have HS := Lib.hid (has_sto p F s id w h)
  rcases hb with hn | ⟨nd, hn, h0⟩
  · rw [show (s.nodes id).isSome = false by rw [hn]; rfl] at HS
    clear h hn
    go_enter Tryz.func54, Tryz.ntmps54
    go_wp2_with fail
    refine HM.out.mono ?_
    rintro e w' ⟨rfl, rfl⟩
    go_wp2_with fail
    refine HS.out.mono ?_
    rintro e w' ⟨rfl, rfl⟩
    go_wp2
    go_ret
    exact ⟨rfl, rfl⟩
  · rw [show (s.nodes id).isSome = true by rw [hn]; rfl] at HS
    have hl := (h.there.lookup mapN Dv.intT (.pointer none) zero_node id).1
    have e1 : (thereM F s.nodes id).getD (.pointer none) = .pointer (some ⟨F.g id, 0, none⟩) := by unfold thereM; rw [hn]; rfl
    rw [e1] at hl
    have c4 := Has.at_ h.obj 4
    simp at c4
    obtain ⟨A2, c2, q1, q2⟩ := h.node id nd hn
    have k2 := Has.at_ q1 3
    simp [nodeC] at k2
    rw [h0] at k2
    clear h hn e1 q1 q2 h0
    go_enter Tryz.func54, Tryz.ntmps54
    go_wp2_with fail
    refine HM.out.mono ?_
    rintro e w' ⟨rfl, rfl⟩
    go_wp2_with fail
    refine HS.out.mono ?_
    rintro e w' ⟨rfl, rfl⟩
    go_wp2
    go_ret
    exact ⟨rfl, rfl⟩
/-- A store stays where only a block that is neither cells nor a map has changed. -/
theorem StoIs.iter {w w' : World} {p : Nat} {F : Fr} {s : SV} (h : StoIs w p F s) {r : Nat} {a : Option Nat} {b d : Nat} {c : Array Nat} (ho : w.heap[r]? = some (.mapIter a b c d)) (hc : Chg (· = r) w w') : StoIs w' p F s := by
  have hcl : ∀ g t cs, Has w g t cs → g ≠ r := by
    rintro g t cs k rfl
    unfold Oct.Has at k
    rw [ho] at k
    injection k with k
    cases k
  have hmp : ∀ g m, IMap w g m → g ≠ r := by
    rintro g m ⟨es, cl, k, _⟩ rfl
    rw [ho] at k
    injection k with k
    cases k
  refine ⟨h.obj.over hc (hcl _ _ _ h.obj), h.dev.over hc.to (hcl _ _ _ (show Oct.Has w F.d _ _ from h.dev.obj)) (hmp _ _ h.dev.kept) (hmp _ _ h.dev.dirt), h.there.over hc.to (hmp _ _ h.there), h.kept.over hc.to (hmp _ _ h.kept), fun z n hz => ?_, h.inj, h.tk, h.tdk, h.tdd, h.kdk, h.kdd⟩
  obtain ⟨A, c, k1, k2⟩ := h.node z n hz
  refine ⟨A, c, k1.over hc (hcl _ _ _ k1), k2.1, ?_⟩
  rcases k2.2 with k | ⟨q, cap, cur, e1, hb, hh, k⟩
  · exact .inl k
  · refine .inr ⟨q, cap, cur, e1, hb, ?_, k⟩
    rw [hc.block q (Array.getElem?_eq_some_iff.1 hh).1 (fun hq => ?_)]
    · exact hh
    · subst hq
      rw [ho] at hh
      injection hh with hh
      cases hh
/-- What Sweep leaves. -/
def SweepIs (p : Nat) (F : Fr) (N : Nat) (s : SV) (w : World) (e : Ending) (w' : World) : Prop := ∃ f v, e = .returned (.int .i64 v) ∧ StoIs w' p F { s with nodes := f } ∧ Acc N f [] ∧ Subn s.nodes f ∧ Chg (AddS F s) w w'
set_option maxRecDepth 100000 in
set_option maxHeartbeats 2000000 in
theorem sweep_sto (p : Nat) (F : Fr) (N : Nat) (s : SV) (hacc : Acc N s.nodes []) (hlow : Low s) (w : World) (h : StoIs w p F s) :
    Calls Tryz.prog 55 #[.pointer (some ⟨p, 0, none⟩)] w (SweepIs p F N s w) := by
  have HM := Lib.hid (made_sto p F s w h)
  have HLOW := Lib.hid hlow
  have HH := Lib.hid h
  obtain ⟨es, c, hmap, _⟩ := map_keys h.there
  have c4 := Has.at_ h.obj 4
  simp at c4
  have hlen : ∀ ty, (Builtin.len_ #[85] ty #[.map (some F.t)]).run Tryz.prog w = .ok (goInt es.size) w := fun ty =>
    run_len_map w _ ty F.t es c (by have := mapN; simp [Program.mapKeyOf, Program.mapElemOf, this]) hmap
  obtain ⟨w2, hr, hR, hB, hz⟩ := h.there.range mapN
  have H2 := Lib.hid (h.below hB)
  have HR := Lib.hid hR
  have HC := Lib.hid (Chg.of_below hB (AddS F s))
  have HACC := Lib.hid hacc
  have hrt : ∀ k, AddS F s k → k ≠ w.heap.size := by
    rintro k (e | ⟨z, hz, e⟩)
    · rw [e]; exact Nat.ne_of_lt h.there.bound
    · rw [e]; exact Nat.ne_of_lt (node_lt h hz)
  have HRT := Lib.hid hrt
  clear h hlow hacc hR hB hz hmap hrt
  go_enter Tryz.func55, Tryz.ntmps55
  go_wp2_with fail
  refine HM.out.mono ?_
  rintro e w' ⟨rfl, rfl⟩
  go_wp2
  go_loopw [4] (fun _ wr => ∃ (left : Int → Prop) (f : Int → Option NodeV), Hid (StoIs wr p F { s with nodes := f }) ∧ Hid (Acc N f []) ∧ Hid (Subn s.nodes f) ∧ Hid (Rng wr F.t w.heap.size (thereM F f) left) ∧ Hid (Chg (AddS F s) w wr)) (fun _ wr => cntLeft wr F.t w.heap.size)
  case atStart => exact ⟨_, s.nodes, H2, HACC, Lib.hid (Subn.refl _), HR, HC⟩
  case round =>
    obtain ⟨left, f, HJ, HA, HSUB, HRG, HCJ⟩ := hrel
    rcases HRG.out.next (P := Tryz.prog) with ⟨hno, hnx⟩ | ⟨z, v, w3, hm, hlz, hnx, hen, hR3, g3, z3, hlt⟩
    · obtain ⟨es2, c2, hmap2, _⟩ := map_keys HJ.out.there
      have d4 := Has.at_ HJ.out.obj 4
      simp at d4
      have hlen2 : ∀ ty, (Builtin.len_ #[85] ty #[.map (some F.t)]).run Tryz.prog wr = .ok (goInt es2.size) wr := fun ty =>
        run_len_map wr _ ty F.t es2 c2 (by have := mapN; simp [Program.mapKeyOf, Program.mapElemOf, this]) hmap2
      clear hno hmap2 c4 hlen hr
      go_wp2
      go_ret
      exact ⟨f, _, rfl, HJ.out, HA.out, HSUB.out, HCJ.out⟩
    · have hzs : (f z).isSome = true := by rw [← thereM_some F f z, hm]; rfl
      obtain ⟨nd, hnd⟩ := Option.isSome_iff_exists.1 hzs
      have h3 : StoIs w3 p F { s with nodes := f } := by
        obtain ⟨_, _, _, _, _, _, q, _⟩ := HRG.out
        exact HJ.out.iter q (Oct.Chg.of g3)
      have hhi : nd.high ≤ 64 := by
        obtain ⟨q, hq, _, e2, _⟩ := HSUB.out z nd hnd
        have := HLOW.out z q hq
        omega
      have HLV := Lib.hid (leave_sto p F N 64 { s with nodes := f } [] HA.out z nd hnd hhi w3 h3)
      have HPU := Lib.hid (acc_leave 64 f [] z HA.out (fun m hm' => by rw [hnd] at hm'; injection hm' with hm'; subst hm'; exact hhi))
      have HR3 := Lib.hid hR3
      have HC3 := Lib.hid (show Chg (AddS F s) w w3 from HCJ.out.step (Oct.Chg.of g3) (fun i hi e => by omega))
      have HLT := Lib.hid hlt
      have HHR := Lib.hid HRT
      clear h3 hhi hnd hzs hR3 g3 z3 hlt hm hlz c4 hlen hr
      go_wp2_with fail
      refine HLV.out.mono ?_
      rintro e w4 ⟨rfl, h4, c4, s4⟩
      have h5 := HR3.out.shr c4.to (fun k => HRT.out _ (add_sub HSUB.out k) rfl) s4 h4.there
      have HS4 := Lib.hid h4
      have HC4 := Lib.hid (HC3.out.trans (c4.mono fun k hk => add_sub HSUB.out hk))
      have HR4 := Lib.hid h5.1
      have HL4 := Lib.hid h5.2
      clear h4 c4 s4 h5
      go_wp2
      go_roundw
      case rel => exact ⟨_, _, HS4, Lib.hid HPU.out.1, Lib.hid (HSUB.out.trans HPU.out.2), HR4, HC4⟩
      case measure => exact Nat.lt_of_le_of_lt HL4.out HLT.out
end Go.Proofs.YthejlenafjnmkaaGreat.Sto
/- Calls that refuse, and a commit of no root: contracts. -/
namespace Go.Proofs.YthejlenafjnmkaaGreat.Sto
open Go.RowKit
open Oct (Has Chg)
open Rws
open Mem (IMap)
set_option linter.unusedVariables false

theorem hold_bad (p : Nat) (F : Fr) (s : SV) (id : Int) (hn : s.nodes id = none) (w : World) (h : StoIs w p F s) :
    Calls Tryz.prog 29 #[.pointer (some ⟨p, 0, none⟩), .int .i64 id] w fun e w' => e = .returned (.int .i64 22) ∧ w = w' := by
  have HM := Lib.hid (made_sto p F s w h)
  have HS := Lib.hid (has_sto p F s id w h)
  rw [show (s.nodes id).isSome = false by rw [hn]; rfl] at HS
  clear h hn
  go_enter Tryz.func29, Tryz.ntmps29
  go_wp2_with fail
  refine HM.out.mono ?_
  rintro e w' ⟨rfl, rfl⟩
  go_wp2_with fail
  refine HS.out.mono ?_
  rintro e w' ⟨rfl, rfl⟩
  go_wp2
  go_ret
  exact ⟨rfl, rfl⟩
set_option maxRecDepth 100000 in
theorem commit_none (p : Nat) (F : Fr) (s : SV) (root : Int) (hr0 : root ≠ 0) (hn : s.nodes root = none) (note : ByteArray) (w : World) (h : StoIs w p F s) :
    Calls Tryz.prog 30 #[.pointer (some ⟨p, 0, none⟩), .int .i64 root, .string note] w fun e w' => e = .returned (.int .i64 22) ∧ w = w' := by
  have HM := Lib.hid (made_sto p F s w h)
  have HS := Lib.hid (has_sto p F s root w h)
  rw [show (s.nodes root).isSome = false by rw [hn]; rfl] at HS
  have t1 : (root != 0) = true := by simpa using hr0
  clear h hn hr0
  go_enter Tryz.func30, Tryz.ntmps30
  go_wp2_with fail
  refine HM.out.mono ?_
  rintro e w' ⟨rfl, rfl⟩
  go_wp2_with fail
  refine HS.out.mono ?_
  rintro e w' ⟨rfl, rfl⟩
  go_wp2
  go_ret
  exact ⟨rfl, rfl⟩
set_option maxRecDepth 100000 in
theorem commit_long (p : Nat) (F : Fr) (s : SV) (root : Int) (hr : root = 0 ∨ (s.nodes root).isSome = true) (note : ByteArray) (hl : 3900 < note.size) (w : World) (h : StoIs w p F s) :
    Calls Tryz.prog 30 #[.pointer (some ⟨p, 0, none⟩), .int .i64 root, .string note] w fun e w' => e = .returned (.int .i64 22) ∧ w = w' := by
  have HM := Lib.hid (made_sto p F s w h)
  have HS := Lib.hid (has_sto p F s root w h)
  have t2 : 3900 < (note.size : Int) := by omega
  by_cases h0 : root = 0
  · subst h0
    clear h hr hl HS
    go_enter Tryz.func30, Tryz.ntmps30
    go_wp2_with fail
    refine HM.out.mono ?_
    rintro e w' ⟨rfl, rfl⟩
    go_wp2
    go_ret
    exact ⟨rfl, rfl⟩
  · have hs : (s.nodes root).isSome = true := hr.resolve_left h0
    rw [hs] at HS
    have t1 : (root != 0) = true := by simpa using h0
    clear h hr hl hs h0
    go_enter Tryz.func30, Tryz.ntmps30
    go_wp2_with fail
    refine HM.out.mono ?_
    rintro e w' ⟨rfl, rfl⟩
    go_wp2_with fail
    refine HS.out.mono ?_
    rintro e w' ⟨rfl, rfl⟩
    go_wp2
    go_ret
    exact ⟨rfl, rfl⟩
set_option maxRecDepth 100000 in
set_option maxHeartbeats 2000000 in
/-- A commit of no root. -/
theorem commit_zero (p : Nat) (F : Fr) (s : SV) (note : ByteArray) (hnote : note.size ≤ 3900) (hg0 : 0 ≤ s.gen) (hg1 : s.gen < 1099511627776) (w : World) (h : StoIs w p F s) :
    Calls Tryz.prog 30 #[.pointer (some ⟨p, 0, none⟩), .int .i64 0, .string note] w fun e w' => e = .returned (.int .i64 (commitE s 0 note)) ∧ StoIs w' p F (commitV s 0 note) ∧ Chg (ComS p F) w w' := by
  have HH := Lib.hid h
  have HM := Lib.hid (made_sto p F s w h)
  have t2 : ¬ 3900 < (note.size : Int) := by omega
  have t3 : (s.gen == 1099511627776) = false := beq_eq_false_iff_ne.2 (by omega)
  have HNT := Lib.hid hnote
  have c0 := Has.at_ h.obj 0
  simp at c0
  obtain ⟨GEN, hGEN⟩ : ∃ G, s.gen = G := ⟨_, rfl⟩
  rw [hGEN] at c0 t3 hg0 hg1
  have HGN := Lib.hid hGEN
  have hB0 := (Below.refl w.heap.size w).alloc (Nat.le_refl _) (.cells #[.int .i64 (GEN + 1), .int .i64 0, .string note] 83)
  have HB0 := Lib.hid hB0
  have HRB := Lib.hid (Oct.Has.fresh w 83 #[.int .i64 (GEN + 1), .int .i64 0, .string note])
  obtain ⟨E1, hE1⟩ : ∃ E, layE s.dev (GEN + 1) 0 note = E := ⟨_, rfl⟩
  obtain ⟨Z1, hZ1⟩ : ∃ Z, layD s.dev (GEN + 1) 0 note = Z := ⟨_, rfl⟩
  have HLAY := Lib.hid (lay_sto p F s (GEN + 1) 0 note (by omega) hnote _ (h.below hB0) E1 Z1 hE1 hZ1)
  have HCE := Lib.hid (show commitE s 0 note = if E1 = 0 then Dv.flE Z1 else E1 by unfold commitE; rw [hGEN, hE1, hZ1])
  have HCD := Lib.hid (show commitD s 0 note = if E1 = 0 then Dv.flD Z1 else Z1 by unfold commitD; rw [hGEN, hE1, hZ1])
  clear h hnote hB0 hGEN hE1 hZ1
  go_enter Tryz.func30, Tryz.ntmps30
  go_wp2_with fail
  refine HM.out.mono ?_
  rintro e w' ⟨rfl, rfl⟩
  go_wp2_with fail
  refine HLAY.out.mono ?_
  rintro e w1 ⟨rfl, h1, c1⟩
  have H1 := Lib.hid h1
  have HC1 := Lib.hid ((Chg.of_below HB0.out (ComS p F)).trans (c1.mono fun k hk => (.inr (.inr hk) : ComS p F k)))
  have HR1 := Lib.hid (HRB.out.over c1 (fun e => by
    have h0 := HH.out.below HB0.out
    have hdo : Has _ F.d _ _ := h0.dev.obj
    rcases e with e | e | e
    · exact has_ne HRB.out hdo (by decide) e
    · exact map_ne h0.dev.kept HRB.out e.symm
    · exact map_ne h0.dev.dirt HRB.out e.symm))
  clear h1 c1 c0 HM HLAY
  by_cases h0 : E1 = 0
  · subst h0
    have HCE2 := Lib.hid (show commitE s 0 note = Dv.flE Z1 from HCE.out.trans (if_pos rfl))
    have HCD2 := Lib.hid (show commitD s 0 note = Dv.flD Z1 from HCD.out.trans (if_pos rfl))
    have c3 := Has.at_ H1.out.obj 3
    simp at c3
    have HFL := Lib.hid (Dv.flush_all F.d F.dk F.dd Z1 w1 H1.out.dev)
    go_wp2_with fail
    refine HFL.out.mono ?_
    rintro e w2 ⟨rfl, hd2, hc2⟩
    have H2 := Lib.hid (H1.out.devs hd2 (Oct.Chg.of hc2))
    have HC2 := Lib.hid (HC1.out.trans ((Oct.Chg.of hc2).mono fun k hk => (.inr (.inr hk) : ComS p F k)))
    have HR2 := Lib.hid (HR1.out.over (Oct.Chg.of hc2) (fun e => by
      have hdo : Has _ F.d _ _ := H1.out.dev.obj
      rcases e with e | e | e
      · exact has_ne HR1.out hdo (by decide) e
      · exact map_ne H1.out.dev.kept HR1.out e.symm
      · exact map_ne H1.out.dev.dirt HR1.out e.symm))
    clear hd2 hc2 c3 HFL
    obtain ⟨E2, hE2⟩ : ∃ E, Dv.flE Z1 = E := ⟨_, rfl⟩
    rw [hE2] at HCE2 ⊢
    clear hE2
    by_cases h0 : E2 = 0
    · subst h0
      have b0 := Has.at_ HR2.out 0
      have b1 := Has.at_ HR2.out 1
      have b2 := Has.at_ HR2.out 2
      have d0 := Has.at_ H2.out.obj 0
      have d1 := Has.at_ H2.out.obj 1
      have d2 := Has.at_ H2.out.obj 2
      have f0 := Has.free H2.out.obj 0
      have f1 := Has.free H2.out.obj 1
      have f2 := Has.free H2.out.obj 2
      simp at b0 b1 b2 d0 d1 d2
      have H3 := Lib.hid (H2.out.begins (GEN + 1) 0 note)
      have e5 := Has.at_ H3.out.obj 5
      simp at e5
      obtain ⟨w6, hu, m6, g6, z6⟩ := IMap.clear mapK H3.out.kept
      have H6 := Lib.hid (H3.out.unkept m6 (Oct.Chg.of g6))
      have HC6 := Lib.hid (((((HC2.out.setCell (p := ⟨p, 0, none⟩) (.inl (.inl rfl)) (.int .i64 (GEN + 1))).setCell (p := ⟨p, 1, none⟩) (.inl (.inl rfl)) (.int .i64 0)).setCell (p := ⟨p, 2, none⟩) (.inl (.inl rfl)) (.string note))).trans ((Oct.Chg.of g6).mono fun k hk => (.inr (.inl hk) : ComS p F k)))
      have HV := Lib.hid (show commitV s 0 note = ⟨GEN + 1, 0, note, s.nodes, fun _ => false, Dv.flD Z1⟩ by
        unfold commitV
        rw [if_pos (HCE2.out), HCD2.out, HGN.out]
        unfold keptOf
        rw [if_pos rfl])
      clear m6 g6 z6
      have HE := Lib.hid (show StoIs w6 p F (commitV s 0 note) by rw [HV.out]; exact H6.out)
      go_wp2
      go_ret
      exact ⟨by rw [HCE2.out]; rfl, HE.out, HC6.out⟩
    · have hne : (E2 != 0) = true := by simpa using h0
      have HV := Lib.hid (show commitV s 0 note = { s with dev := Dv.flD Z1 } by unfold commitV; rw [if_neg (by rw [HCE2.out]; exact h0), HCD2.out])
      clear h0
      go_wp2
      go_ret
      exact ⟨by rw [HCE2.out]; rfl, by rw [HV.out]; exact H2.out, HC2.out⟩
  · have hne : (E1 != 0) = true := by simpa using h0
    have HCE2 := Lib.hid (show commitE s 0 note = E1 from HCE.out.trans (if_neg h0))
    have HV := Lib.hid (show commitV s 0 note = { s with dev := Z1 } by unfold commitV; rw [if_neg (by rw [HCE2.out]; exact h0), HCD.out, if_neg h0])
    clear h0
    go_wp2
    go_ret
    exact ⟨by rw [HCE2.out]; rfl, by rw [HV.out]; exact H1.out, HC1.out⟩
end Go.Proofs.YthejlenafjnmkaaGreat.Sto
