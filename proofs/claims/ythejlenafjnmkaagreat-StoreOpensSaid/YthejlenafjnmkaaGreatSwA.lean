/- A tree on a device, and the store that is opened there: in pure terms. -/
import Derived.Test.YthejlenafjnmkaaGreatT13
namespace Go.Proofs.YthejlenafjnmkaaGreat.Sto
open Go.RowKit
open Dv (DoV)
set_option linter.unusedVariables false

/-- What a block of a tree says: its level, what it names, what it holds. -/
structure TV where
  high : Int
  kids : List Int
  data : ByteArray
/-- T is what hangs on a root. -/
structure TreeT (N : Nat) (T : Int → Option TV) (root : Int) : Prop where
  top : root ≠ 0 → (T root).isSome = true
  ids : ∀ z v, T z = some v → ∃ i : Nat, z = i ∧ 2 ≤ i ∧ i < N
  kid : ∀ z v, T z = some v → 1 ≤ v.high ∧ v.high ≤ 64 ∧ v.kids.length ≤ 16 ∧ v.data.size ≤ 3900 ∧ ∀ k ∈ v.kids, ∃ u, T k = some u ∧ u.high < v.high
  min : ∀ L : Int → Prop, (root ≠ 0 → L root) → (∀ z v, L z → T z = some v → ∀ k ∈ v.kids, L k) → ∀ z, (T z).isSome = true → L z
/-- A device tells a tree. -/
def ReadsT (d : Dv.St) (T : Int → Option TV) : Prop := ∀ z v, T z = some v → Dv.readS d z = blockB v.kids v.data
def getT (T : Int → Option TV) (z : Int) : Option (List Int × ByteArray) × Int := match T z with
  | some v => (some (v.kids, v.data), 0)
  | none => (none, 22)
/-- What holds while a tree is loaded. -/
structure LoadI (N : Nat) (T : Int → Option TV) (D : Dv.St) (s : SV) : Prop where
  acc : Acc N s.nodes []
  sub : ∀ z n, s.nodes z = some n → ∃ v, T z = some v ∧ n.kids = v.kids ∧ n.high ≤ v.high
  dev : s.dev = D
theorem highs_max {f : Int → Option NodeV} {B : Int} : ∀ (l : List Int) (m : Int), 0 ≤ B → m ≤ B → (∀ k ∈ l, ∀ n, f k = some n → n.high ≤ B) → highs f l m ≤ B
  | [], m, _, h, _ => h
  | x :: l, m, h0, h1, h => by
    unfold highs
    refine highs_max l _ h0 ?_ (fun k hk => h k (List.mem_cons_of_mem _ hk))
    cases hx : f x with
    | none => simp; omega
    | some n => have := h x List.mem_cons_self n hx; simp; omega
theorem read_tree {N : Nat} {T : Int → Option TV} {D : Dv.St} {root : Int} (hT : TreeT N T root) (hR : ReadsT D T) (hC : Calm D) (hS : D.size = N) (hN : N ≤ 40) {s : SV} (hd : s.dev = D) {id : Int} {v : TV} (hv : T id = some v) : readV s id = (some (v.kids, v.data), 0) := by
  obtain ⟨i, e, h2, hi⟩ := hT.ids id v hv
  obtain ⟨_, _, h3, h4, h5⟩ := hT.kid id v hv
  have hr := rd_calm hC (i := id) (by omega) (by omega)
  unfold readV
  rw [hd, if_pos hr.1, hr.2, hR id v hv, parseB_back _ _ _ (fun k hk => ?_) h3 h4]
  · rfl
  · obtain ⟨u, hu, _⟩ := h5 k hk
    obtain ⟨j, e, e2, e3⟩ := hT.ids k u hu
    unfold nameB
    constructor
    · simp
      omega
    · omega
theorem load_ok {N : Nat} {T : Int → Option TV} {D : Dv.St} {root : Int} (hT : TreeT N T root) (hR : ReadsT D T) (hC : Calm D) (hS : D.size = N) (hN : N ≤ 40) : ∀ (n : Nat) (s : SV) (id : Int) (v : TV), LoadI N T D s → T id = some v → v.high ≤ n →
    (loadV n s id).1 = 0 ∧ LoadI N T D (loadV n s id).2 ∧ ((loadV n s id).2.nodes id).isSome = true ∧ ∀ z, ((loadV n s id).2.nodes z).isSome = true → (s.nodes z).isSome = true ∨ ∃ u, T z = some u ∧ u.high ≤ v.high
  | 0, s, id, v, hI, hv, hh => by
    have := (hT.kid id v hv).1
    omega
  | n + 1, s, id, v, hI, hv, hh => by
    by_cases hs : (s.nodes id).isSome = true
    · have e : loadV (n + 1) s id = (0, s) := if_pos hs
      rw [e]
      exact ⟨rfl, hI, hs, fun z hz => .inl hz⟩
    · have hkid := hT.kid id v hv
      have hks : ∀ (l : List Int) (s : SV), LoadI N T D s → (∀ k ∈ l, ∃ u, T k = some u ∧ u.high < v.high) →
          (loadKids (loadV n) l s).1 = 0 ∧ LoadI N T D (loadKids (loadV n) l s).2 ∧ (∀ k ∈ l, ((loadKids (loadV n) l s).2.nodes k).isSome = true) ∧ (∀ z, (s.nodes z).isSome = true → ((loadKids (loadV n) l s).2.nodes z).isSome = true) ∧
          ∀ z, ((loadKids (loadV n) l s).2.nodes z).isSome = true → (s.nodes z).isSome = true ∨ ∃ u, T z = some u ∧ u.high < v.high := by
        intro l
        induction l with
        | nil => intro s hI _; exact ⟨rfl, hI, (fun k hk => by cases hk), fun z hz => hz, fun z hz => .inl hz⟩
        | cons k l ih =>
          intro s hI hl
          obtain ⟨u, hu, hlt⟩ := hl k List.mem_cons_self
          obtain ⟨a1, a2, a3, a4⟩ := load_ok hT hR hC hS hN n s k u hI hu (by omega)
          have e : loadKids (loadV n) (k :: l) s = loadKids (loadV n) l (loadV n s k).2 := if_pos a1
          obtain ⟨b1, b2, b3, b4, b5⟩ := ih (loadV n s k).2 a2 (fun j hj => hl j (List.mem_cons_of_mem _ hj))
          rw [e]
          refine ⟨b1, b2, fun j hj => ?_, fun z hz => b4 z ((keeps_load n s k).mono z hz), fun z hz => ?_⟩
          · rcases List.mem_cons.1 hj with e | hj
            · rw [e]; exact b4 k a3
            · exact b3 j hj
          · rcases b5 z hz with q | q
            · rcases a4 z q with r | ⟨y, hy, hy2⟩
              · exact .inl r
              · exact .inr ⟨y, hy, by omega⟩
            · exact .inr q
      obtain ⟨b1, b2, b3, b4, b5⟩ := hks v.kids s hI hkid.2.2.2.2
      obtain ⟨s1, hs1⟩ : ∃ s1, (loadKids (loadV n) v.kids s).2 = s1 := ⟨_, rfl⟩
      rw [hs1] at b2 b3 b4 b5
      have hab : aboveV s1.nodes v.kids ≤ v.high := by
        have := highs_max (f := s1.nodes) (B := v.high - 1) v.kids 0 (by have := hkid.1; omega) (by have := hkid.1; omega) (fun k hk m hm => by
          obtain ⟨u, hu, hlt⟩ := hkid.2.2.2.2 k hk
          obtain ⟨u', hu', _, hm2⟩ := b2.sub k m hm
          rw [hu] at hu'
          injection hu' with hu'
          subst hu'
          omega)
        unfold aboveV
        omega
      have e : loadV (n + 1) s id = (0, addV s1 id v.kids) := by
        have e1 : loadV (n + 1) s id = loadRead (loadV n) s id (readV s id) := if_neg hs
        rw [e1, read_tree hT hR hC hS hN hI.dev hv]
        show loadOut id v.kids (loadKids (loadV n) v.kids s) = _
        unfold loadOut
        rw [if_pos b1, hs1, if_neg (by have := hkid.2.1; omega)]
      obtain ⟨i, ei, h2, hi⟩ := hT.ids id v hv
      have hnone : s1.nodes id = none := by
        cases hq : s1.nodes id with
        | none => rfl
        | some m =>
          rcases b5 id (by rw [hq]; rfl) with q | ⟨u, hu, hlt⟩
          · exact (hs q).elim
          · rw [hv] at hu
            injection hu with hu
            subst hu
            omega
      subst ei
      have hacc := acc_add b2.acc hN h2 hi hnone hkid.2.2.1 b3
      rw [e]
      refine ⟨rfl, ⟨hacc, fun z m hz => ?_, b2.dev⟩, by rw [addV_some]; simp, fun z hz => ?_⟩
      · rcases add_is b2.acc hnone hkid.2.2.1 hz with ⟨e, _, e2, e3⟩ | ⟨q, hq, e1, e2, _⟩
        · subst e
          exact ⟨v, hv, e2, by rw [e3]; exact hab⟩
        · obtain ⟨u, hu, k1, k2⟩ := b2.sub z q hq
          exact ⟨u, hu, e1.trans k1, by rw [e2]; exact k2⟩
      · have hz' : ((addV s1 i v.kids).nodes z).isSome = true := hz
        rw [addV_some] at hz'
        by_cases e : z = (i : Int)
        · rw [e]
          exact .inr ⟨v, hv, Int.le_refl _⟩
        · rcases b5 z (by simpa [e] using hz') with q | ⟨u, hu, hlt⟩
          · exact .inl q
          · exact .inr ⟨u, hu, by omega⟩
/-- What a store is that was opened upon a tree. -/
structure OpenI (N : Nat) (T : Int → Option TV) (g root : Int) (note : ByteArray) (D : Dv.St) (V : SV) : Prop where
  gen : V.gen = g
  root : V.root = root
  note : V.note = note
  dev : V.dev = D
  get : ∀ z, getV V z = getT T z
  there : ∀ z, (V.nodes z).isSome = (T z).isSome
theorem open_tree {N : Nat} {T : Int → Option TV} {D : Dv.St} {g root : Int} {note : ByteArray} (hT : TreeT N T root) (hR : ReadsT D T) (hC : Calm D) (hS : D.size = N) (hN : N ≤ 40) (hnew : newV D = ((g, root, note), 0)) :
    (∃ V, openV D = (some V, 0) ∧ OpenI N T g root note D V) ∧ ∀ b, newV D = (b, 0) → b.2.1 ≠ 0 → ∀ s1, loadV 64 (bareV b.1 b.2.1 b.2.2 D) b.2.1 = (0, s1) → Down s1.nodes := by
  have hbare : LoadI N T D (bareV g root note D) := ⟨⟨(fun z n hz => by cases hz), (fun z hz => by cases hz), (fun z n hz => by cases hz), (fun z n hz => by cases hz), (fun k hk => by cases hk)⟩, (fun z n hz => by cases hz), rfl⟩
  have hget : ∀ (V : SV), V.dev = D → (∀ z, (V.nodes z).isSome = (T z).isSome) → ∀ z, getV V z = getT T z := fun V hd hv z => by
    unfold getV getT
    cases hz : T z with
    | none =>
      rw [if_neg (by rw [hv, hz]; decide)]
    | some v =>
      rw [if_pos (by rw [hv, hz]; rfl)]
      exact read_tree hT hR hC hS hN hd hz
  by_cases h0 : root = 0
  · subst h0
    have hnone : ∀ z, T z = none := fun z => by
      cases hz : T z with
      | none => rfl
      | some v => exact (hT.min (fun _ => False) (fun h => h rfl) (fun z v h => h.elim) z (by rw [hz]; rfl)).elim
    have e : openV D = (some (bareV g 0 note D), 0) := by
      unfold openV
      rw [hnew]
      exact (show openN D ((g, 0, note), 0) = openR (bareV g 0 note D) by unfold openN; exact if_pos rfl).trans (show openR (bareV g 0 note D) = _ by unfold openR; exact if_pos rfl)
    have hv : ∀ z, ((bareV g 0 note D).nodes z).isSome = (T z).isSome := fun z => by rw [hnone z]; rfl
    refine ⟨⟨_, e, rfl, rfl, rfl, rfl, hget _ rfl hv, hv⟩, fun b hb hb0 s1 hs1 => ?_⟩
    rw [hnew] at hb
    injection hb with hb _
    subst hb
    exact (hb0 rfl).elim
  · obtain ⟨v, hv⟩ := Option.isSome_iff_exists.1 (hT.top h0)
    obtain ⟨a1, a2, a3, a4⟩ := load_ok hT hR hC hS hN 64 (bareV g root note D) root v hbare hv (hT.kid root v hv).2.1
    obtain ⟨s1, hs1⟩ : ∃ s1, (loadV 64 (bareV g root note D) root).2 = s1 := ⟨_, rfl⟩
    have hl : loadV 64 (bareV g root note D) root = (0, s1) := by
      rw [← hs1, ← a1]
    rw [hs1] at a2 a3
    have hk := keeps_load 64 (bareV g root note D) root
    rw [hs1] at hk
    have e : openV D = (some (rootV s1), 0) := by
      unfold openV
      rw [hnew]
      refine (show openN D ((g, root, note), 0) = openR (bareV g root note D) by unfold openN; exact if_pos rfl).trans ?_
      refine (show openR (bareV g root note D) = openL (loadV 64 (bareV g root note D) root) by unfold openR; exact if_neg (show ¬ (bareV g root note D).root = 0 from h0)).trans ?_
      show openL (loadV 64 (bareV g root note D) root) = _
      rw [hl]
      rfl
    have hthere : ∀ z, (s1.nodes z).isSome = (T z).isSome := fun z => by
      cases hz : T z with
      | none =>
        cases hq : s1.nodes z with
        | none => rfl
        | some m =>
          obtain ⟨u, hu, _⟩ := a2.sub z m hq
          rw [hz] at hu
          cases hu
      | some v' =>
        exact hT.min (fun z => (s1.nodes z).isSome = true) (fun _ => a3) (fun y u hy hu k hk' => by
          obtain ⟨m, hm⟩ := Option.isSome_iff_exists.1 hy
          obtain ⟨u', hu', e1, _⟩ := a2.sub y m hm
          rw [hu] at hu'
          injection hu' with hu'
          subst hu'
          obtain ⟨q, hq, _⟩ := (a2.acc.down y m hm).2.2 k (by rw [e1]; exact hk')
          rw [hq]
          rfl) z (by rw [hz]; rfl)
    have hv2 : ∀ z, ((rootV s1).nodes z).isSome = (T z).isSome := fun z => by
      show (heldN s1.nodes s1.root 1 z).isSome = _
      rw [heldN_some]
      exact hthere z
    refine ⟨⟨_, e, hk.beg.1, hk.beg.2.1, hk.beg.2.2, hk.dev, hget _ hk.dev hv2, hv2⟩, fun b hb _ s2 hs2 => ?_⟩
    rw [hnew] at hb
    injection hb with hb _
    subst hb
    have hs2 : loadV 64 (bareV g root note D) root = (0, s2) := hs2
    rw [hl] at hs2
    injection hs2 with _ hs2
    subst hs2
    exact a2.acc.down
end Go.Proofs.YthejlenafjnmkaaGreat.Sto
