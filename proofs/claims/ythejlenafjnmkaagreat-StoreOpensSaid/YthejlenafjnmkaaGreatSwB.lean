/- What lies on a device whatever becomes of its power: in pure terms. -/
import Derived.Test.YthejlenafjnmkaaGreatSwA
namespace Go.Proofs.YthejlenafjnmkaaGreat.Sto
open Go.RowKit
open Dv (DoV)
set_option linter.unusedVariables false

/-- A block lies on a device whatever becomes of its power. -/
def AtD (d : Dv.St) (z : Int) (b : ByteArray) : Prop := d.dirty z = none ∧ d.kept z = some b
theorem AtD.read {d : Dv.St} {z : Int} {b : ByteArray} (h : AtD d z b) : Dv.readS d z = b := by
  unfold Dv.readS
  rw [h.1, h.2]
  rfl
theorem AtD.crash {d : Dv.St} {z : Int} {b : ByteArray} (h : AtD d z b) (ks : List Int) : AtD (Dv.startD (Dv.crashD d ks)) z b := by
  refine ⟨rfl, ?_⟩
  show (if z ∈ ks then (d.dirty z).or (d.kept z) else d.kept z) = some b
  rw [h.1, h.2]
  split <;> rfl
theorem AtD.fl {d : Dv.St} {z : Int} {b : ByteArray} (h : AtD d z b) : AtD (calmFl d) z b := by
  refine ⟨rfl, ?_⟩
  show (d.dirty z).or (d.kept z) = some b
  rw [h.1, h.2]
  rfl
theorem AtD.put {d : Dv.St} {z i : Int} {b s : ByteArray} (h : AtD d z b) (hne : z ≠ i) : AtD (Dv.putD d i s) z b := by
  refine ⟨?_, h.2⟩
  show (if z = i then some s else d.dirty z) = none
  rw [if_neg hne]
  exact h.1
theorem crash_calm (d : Dv.St) (ks : List Int) : Calm (Dv.startD (Dv.crashD d ks)) ∧ (Dv.startD (Dv.crashD d ks)).size = d.size := ⟨⟨rfl, rfl⟩, rfl⟩
theorem Small.crash {d : Dv.St} (h : Small d) (ks : List Int) : Small (Dv.startD (Dv.crashD d ks)) := fun j c hc => by
  rcases hc with hc | hc
  · cases hc
  · have hc : (if j ∈ ks then (d.dirty j).or (d.kept j) else d.kept j) = some c := hc
    split at hc
    · cases hd : d.dirty j with
      | some x =>
        rw [hd] at hc
        exact h j c (.inl (hd.trans hc))
      | none =>
        rw [hd] at hc
        exact h j c (.inr hc)
    · exact h j c (.inr hc)
/-- What a commit laid lies on a device, whatever becomes of its power. -/
structure Safe (N : Nat) (d : Dv.St) (g root : Int) (note : ByteArray) (T : Int → Option TV) : Prop where
  size : d.size = N
  small : Small d
  tree : TreeT N T root
  dev : ∀ z v, T z = some v → AtD d z (blockB v.kids v.data)
  beg : AtD d (g % 2) (beginB g root N note)
  note : note.size ≤ 3900
  gen : 1 ≤ g ∧ g ≤ 2000
  oth : ∃ b, AtD d ((g + 1) % 2) b ∧ ∀ x, parseG N b = some x → x.1 < g
theorem Safe.same {N : Nat} {d e : Dv.St} {g root : Int} {note : ByteArray} {T : Int → Option TV} (h : Safe N d g root note T) (h1 : e.size = d.size) (h2 : e.dirty = d.dirty) (h3 : e.kept = d.kept) : Safe N e g root note T := by
  have ha : ∀ z b, AtD d z b → AtD e z b := fun z b k => ⟨by rw [h2]; exact k.1, by rw [h3]; exact k.2⟩
  obtain ⟨b, k1, k2⟩ := h.oth
  exact ⟨h1.trans h.size, fun i c hc => h.small i c (by rw [h2, h3] at hc; exact hc), h.tree, fun z v hz => ha _ _ (h.dev z v hz), ha _ _ h.beg, h.note, h.gen, b, ha _ _ k1, k2⟩
theorem parse_begin {N : Nat} (hN : N ≤ 40) {g root : Int} {note : ByteArray} (hg : 1 ≤ g ∧ g ≤ 2000) (hr : root = 0 ∨ ∃ i : Nat, root = i ∧ 2 ≤ i ∧ i < N) (hn : note.size ≤ 3900) : parseG N (beginB g root N note) = some (g, root, note) := by
  obtain ⟨G, rfl⟩ : ∃ G : Nat, g = G := ⟨g.toNat, by omega⟩
  rcases hr with rfl | ⟨i, rfl, h2, h3⟩
  · exact parseG_back N G 0 note (by omega) (.inl rfl) (by omega) (by omega) hn
  · refine parseG_back N G i note (by omega) (.inr ?_) (by omega) (by omega) hn
    unfold nameB
    simp
    omega
theorem Safe.root {N : Nat} {d : Dv.St} {g root : Int} {note : ByteArray} {T : Int → Option TV} (h : Safe N d g root note T) : root = 0 ∨ ∃ i : Nat, root = i ∧ 2 ≤ i ∧ i < N := by
  by_cases h0 : root = 0
  · exact .inl h0
  · obtain ⟨v, hv⟩ := Option.isSome_iff_exists.1 (h.tree.top h0)
    exact .inr (h.tree.ids root v hv)
theorem new_is {N : Nat} {D : Dv.St} (hC : Calm D) (hS : D.size = N) (hN : 8 ≤ N) {g root : Int} {note : ByteArray} (hg : 1 ≤ g) (h1 : parseG N (Dv.readS D (g % 2)) = some (g, root, note)) (h2 : ∀ x, parseG N (Dv.readS D ((g + 1) % 2)) = some x → x.1 < g) :
    newV D = ((g, root, note), 0) := by
  obtain ⟨a1, a2⟩ := rd_calm hC (i := 0) (by omega) (by omega)
  obtain ⟨b1, b2⟩ := rd_calm hC (i := 1) (by omega) (by omega)
  have e : newV D = (if (topStep (topStep bg0 (parseG N (Dv.readS D 0))) (parseG N (Dv.readS D 1))).1 = 0 then (bg0, 2) else (topStep (topStep bg0 (parseG N (Dv.readS D 0))) (parseG N (Dv.readS D 1)), 0)) := by
    unfold newV scanV
    rw [if_pos a1, hS, a2]
    unfold scanV
    rw [if_pos b1, hS, b2]
    rfl
  have hz : topStep (topStep bg0 (parseG N (Dv.readS D 0))) (parseG N (Dv.readS D 1)) = (g, root, note) := by
    have hq2 : g % 2 = 0 ∨ g % 2 = 1 := by omega
    rcases hq2 with q | q
    · rw [q] at h1
      rw [show (g + 1) % 2 = 1 by omega] at h2
      rw [h1]
      have e1 : topStep bg0 (some (g, root, note)) = (g, root, note) := if_pos (show (0 : Int) < g by omega)
      rw [e1]
      cases hp : parseG N (Dv.readS D 1) with
      | none => rfl
      | some x => exact if_neg (by have := h2 x hp; show ¬ g < x.1; omega)
    · rw [q] at h1
      rw [show (g + 1) % 2 = 0 by omega] at h2
      rw [h1]
      cases hp : parseG N (Dv.readS D 0) with
      | none => exact if_pos (show (0 : Int) < g by omega)
      | some x =>
        have hx := h2 x hp
        show topStep (if (0 : Int) < x.1 then x else bg0) (some (g, root, note)) = _
        split
        · exact if_pos hx
        · exact if_pos (show (0 : Int) < g by omega)
  rw [e, hz, if_neg (show ¬ g = 0 by omega)]
/-- What a device is that can be opened. -/
structure CanOpen (N : Nat) (D : Dv.St) (g root : Int) (note : ByteArray) (T : Int → Option TV) : Prop where
  calm : Calm D
  size : D.size = N
  small : Small D
  tree : TreeT N T root
  reads : ReadsT D T
  new : newV D = ((g, root, note), 0)
theorem Safe.crash {N : Nat} {d : Dv.St} {g root : Int} {note : ByteArray} {T : Int → Option TV} (h : Safe N d g root note T) (hN : 8 ≤ N ∧ N ≤ 40) (ks : List Int) : CanOpen N (Dv.startD (Dv.crashD d ks)) g root note T := by
  have hc := crash_calm d ks
  obtain ⟨b, k1, k2⟩ := h.oth
  refine ⟨hc.1, hc.2.trans h.size, h.small.crash ks, h.tree, fun z v hz => ((h.dev z v hz).crash ks).read, new_is hc.1 (hc.2.trans h.size) hN.1 h.gen.1 ?_ ?_⟩
  · rw [(h.beg.crash ks).read]
    exact parse_begin hN.2 h.gen h.root h.note
  · rw [(k1.crash ks).read]
    exact k2
/-- A commit under way: its beginning is written, and may be kept or not. -/
structure Half (N : Nat) (d : Dv.St) (g root : Int) (note : ByteArray) (T : Int → Option TV) (root2 : Int) (note2 : ByteArray) (T2 : Int → Option TV) : Prop where
  size : d.size = N
  small : Small d
  tree : TreeT N T root
  dev : ∀ z v, T z = some v → AtD d z (blockB v.kids v.data)
  beg : AtD d (g % 2) (beginB g root N note)
  nt : note.size ≤ 3900
  gen : 1 ≤ g ∧ g + 1 ≤ 2000
  rt : root = 0 ∨ ∃ i : Nat, root = i ∧ 2 ≤ i ∧ i < N
  tree2 : TreeT N T2 root2
  dev2 : ∀ z v, T2 z = some v → AtD d z (blockB v.kids v.data)
  nt2 : note2.size ≤ 3900
  rt2 : root2 = 0 ∨ ∃ i : Nat, root2 = i ∧ 2 ≤ i ∧ i < N
  dirt : d.dirty ((g + 1) % 2) = some (beginB (g + 1) root2 N note2)
  kept : ∃ b, d.kept ((g + 1) % 2) = some b ∧ ∀ x, parseG N b = some x → x.1 < g
theorem Half.crash {N : Nat} {d : Dv.St} {g root root2 : Int} {note note2 : ByteArray} {T T2 : Int → Option TV} (h : Half N d g root note T root2 note2 T2) (hN : 8 ≤ N ∧ N ≤ 40) (ks : List Int) :
    CanOpen N (Dv.startD (Dv.crashD d ks)) g root note T ∨ CanOpen N (Dv.startD (Dv.crashD d ks)) (g + 1) root2 note2 T2 := by
  have hc := crash_calm d ks
  have hg := h.gen
  have hbeg := parse_begin hN.2 (g := g) (by omega) h.rt h.nt
  have hrd : Dv.readS (Dv.startD (Dv.crashD d ks)) ((g + 1) % 2) = if (g + 1) % 2 ∈ ks then beginB (g + 1) root2 N note2 else (d.kept ((g + 1) % 2)).getD ⟨#[]⟩ := by
    show ((none : Option ByteArray).or (if (g + 1) % 2 ∈ ks then (d.dirty ((g + 1) % 2)).or (d.kept ((g + 1) % 2)) else d.kept ((g + 1) % 2))).getD ⟨#[]⟩ = _
    split
    · rw [h.dirt]
      rfl
    · rfl
  by_cases hk : (g + 1) % 2 ∈ ks
  · right
    rw [if_pos hk] at hrd
    refine ⟨hc.1, hc.2.trans h.size, h.small.crash ks, h.tree2, fun z v hz => ((h.dev2 z v hz).crash ks).read, new_is hc.1 (hc.2.trans h.size) hN.1 (by omega) ?_ ?_⟩
    · rw [hrd]
      exact parse_begin hN.2 (by omega) h.rt2 h.nt2
    · rw [show (g + 1 + 1) % 2 = g % 2 by omega, (h.beg.crash ks).read, hbeg]
      intro x hx
      injection hx with hx
      subst hx
      show g < g + 1
      omega
  · left
    rw [if_neg hk] at hrd
    obtain ⟨b, k1, k2⟩ := h.kept
    refine ⟨hc.1, hc.2.trans h.size, h.small.crash ks, h.tree, fun z v hz => ((h.dev z v hz).crash ks).read, new_is hc.1 (hc.2.trans h.size) hN.1 (by omega) ?_ ?_⟩
    · rw [(h.beg.crash ks).read]
      exact hbeg
    · rw [hrd, k1]
      exact k2
theorem Half.same {N : Nat} {d e : Dv.St} {g root root2 : Int} {note note2 : ByteArray} {T T2 : Int → Option TV} (h : Half N d g root note T root2 note2 T2) (h1 : e.size = d.size) (h2 : e.dirty = d.dirty) (h3 : e.kept = d.kept) : Half N e g root note T root2 note2 T2 := by
  have ha : ∀ z b, AtD d z b → AtD e z b := fun z b k => ⟨by rw [h2]; exact k.1, by rw [h3]; exact k.2⟩
  exact ⟨h1.trans h.size, fun i c hc => h.small i c (by rw [h2, h3] at hc; exact hc), h.tree, fun z v hz => ha _ _ (h.dev z v hz), ha _ _ h.beg, h.nt, h.gen, h.rt, h.tree2, fun z v hz => ha _ _ (h.dev2 z v hz), h.nt2, h.rt2, by rw [h2]; exact h.dirt, by rw [h3]; exact h.kept⟩
/-- What is kept is closed. -/
theorem keepV_mono {f : Int → Option NodeV} : ∀ (n : Nat) (K : Int → Bool) (id z : Int), K z = true → keepV f n K id z = true
  | 0, K, id, z, h => h
  | n + 1, K, id, z, h => by
    unfold keepV
    split
    · exact h
    · cases hf : f id with
      | none => exact h
      | some nd =>
        show nd.kids.foldl (keepV f n) (fun z => z == id || K z) z = true
        have hk : ∀ (l : List Int) (K' : Int → Bool), K' z = true → l.foldl (keepV f n) K' z = true := by
          intro l
          induction l with
          | nil => intro K' h; exact h
          | cons k l ih => intro K' h; exact ih _ (keepV_mono n K' k z h)
        exact hk _ _ (by simp [h])
theorem keepF_mono {f : Int → Option NodeV} (n : Nat) (z : Int) : ∀ (l : List Int) (K : Int → Bool), K z = true → l.foldl (keepV f n) K z = true
  | [], K, h => h
  | k :: l, K, h => keepF_mono n z l _ (keepV_mono n K k z h)
theorem keepV_done {f : Int → Option NodeV} (hd : Down f) : ∀ (n : Nat) (K : Int → Bool) (id : Int) (nd : NodeV), f id = some nd → nd.high ≤ n →
    keepV f n K id id = true ∧ ∀ z, keepV f n K id z = true → K z = false → ∀ m, f z = some m → ∀ k ∈ m.kids, keepV f n K id k = true
  | 0, K, id, nd, hn, hh => by
    have := (hd id nd hn).1
    omega
  | n + 1, K, id, nd, hn, hh => by
    by_cases hK : K id = true
    · have e : keepV f (n + 1) K id = K := if_pos hK
      rw [e]
      exact ⟨hK, fun z hz h0 => by rw [hz] at h0; cases h0⟩
    · have e : keepV f (n + 1) K id = nd.kids.foldl (keepV f n) (fun z => z == id || K z) := by
        have e1 : keepV f (n + 1) K id = (match f id with | none => K | some nd => nd.kids.foldl (keepV f n) (fun z => z == id || K z)) := if_neg hK
        rw [e1, hn]
      rw [e]
      have hk : ∀ (l : List Int) (K' : Int → Bool), (∀ k ∈ l, ∃ m, f k = some m ∧ m.high ≤ n) →
          (∀ k ∈ l, l.foldl (keepV f n) K' k = true) ∧ ∀ z, l.foldl (keepV f n) K' z = true → K' z = false → ∀ m, f z = some m → ∀ k ∈ m.kids, l.foldl (keepV f n) K' k = true := by
        intro l
        induction l with
        | nil => intro K' _; exact ⟨(fun k hk => by cases hk), fun z hz h0 => by rw [show K' z = true from hz] at h0; cases h0⟩
        | cons k l ih =>
          intro K' hl
          obtain ⟨m, hm, hmh⟩ := hl k List.mem_cons_self
          obtain ⟨a1, a2⟩ := keepV_done hd n K' k m hm hmh
          obtain ⟨b1, b2⟩ := ih (keepV f n K' k) (fun j hj => hl j (List.mem_cons_of_mem _ hj))
          refine ⟨fun j hj => ?_, fun z hz h0 q hq j hj => ?_⟩
          · rcases List.mem_cons.1 hj with e | hj
            · rw [e]; exact keepF_mono n k l _ a1
            · exact b1 j hj
          · cases hc : keepV f n K' k z with
            | true => exact keepF_mono n j l _ (a2 z hc h0 q hq j hj)
            | false => exact b2 z hz hc q hq j hj
      obtain ⟨c1, c2⟩ := hk nd.kids (fun z => z == id || K z) (fun k hk => by
        obtain ⟨m, hm, hlt⟩ := (hd id nd hn).2.2 k hk
        exact ⟨m, hm, by omega⟩)
      refine ⟨keepF_mono n id _ _ (by simp), fun z hz h0 m hm k hk => ?_⟩
      by_cases e : z = id
      · subst e
        rw [hn] at hm
        injection hm with hm
        subst hm
        exact c1 k hk
      · exact c2 z hz (by simp [e, h0]) m hm k hk
theorem keepV_least {f : Int → Option NodeV} {L : Int → Prop} (hL : ∀ z m, L z → f z = some m → ∀ k ∈ m.kids, L k) : ∀ (n : Nat) (K : Int → Bool) (id : Int), (∀ z, K z = true → L z) → L id → ∀ z, keepV f n K id z = true → L z
  | 0, K, id, h, _, z, hz => h z hz
  | n + 1, K, id, h, hi, z, hz => by
    unfold keepV at hz
    split at hz
    · exact h z hz
    · cases hf : f id with
      | none =>
        rw [hf] at hz
        exact h z hz
      | some nd =>
        rw [hf] at hz
        have hz : nd.kids.foldl (keepV f n) (fun z => z == id || K z) z = true := hz
        have hk : ∀ (l : List Int) (K' : Int → Bool), (∀ k ∈ l, L k) → (∀ z, K' z = true → L z) → l.foldl (keepV f n) K' z = true → L z := by
          intro l
          induction l with
          | nil => intro K' _ h2 h3; exact h2 z h3
          | cons k l ih => intro K' h1 h2 h3; exact ih _ (fun j hj => h1 j (List.mem_cons_of_mem _ hj)) (keepV_least hL n K' k h2 (h1 k List.mem_cons_self)) h3
        refine hk nd.kids _ (hL id nd hi hf) (fun y hy => ?_) hz
        simp at hy
        rcases hy with e | e
        · rw [e]; exact hi
        · exact h y e
end Go.Proofs.YthejlenafjnmkaaGreat.Sto
