/- What is there stays what it is; rows of blocks that begin anywhere: contracts. -/
import Derived.Test.YtkbpjegegjgbkaaGreatSxB
namespace Go.Proofs.YtkbpjegegjgbkaaGreat.Sto
open Go.RowKit
open Oct (Has Chg)
open Rws
open Dv (DoV)
open Mem (IMap)
set_option linter.unusedVariables false

/-- What a block that is there holds. -/
def bodyN (K : Nat) (s : SV) (z : Int) : List Int × ByteArray := (kidsN (s.nodes z), dataOf K s z)
theorem body_of {K : Nat} {s : SV} {z : Int} {n : NodeV} (h : s.nodes z = some n) : bodyN K s z = (n.kids, dataOf K s z) := by
  unfold bodyN
  rw [h]
  rfl
theorem data_dev {K : Nat} {s s' : SV} {z : Int} (h : Dv.readS s'.dev z = Dv.readS s.dev z) : dataOf K s' z = dataOf K s z := by
  unfold dataOf
  rw [h]
theorem body_stay {N a : Nat} {s s' : SV} {k : DoV} {E : Int} (hI : Inv N a s) (h : Calm s.dev) (hd : DoesV N s k E s') (h9 : opM k.op ≠ 9) {z : Int} (h1 : (s.nodes z).isSome = true) (h2 : (s'.nodes z).isSome = true) : bodyN N s' z = bodyN N s z := by
  obtain ⟨n, hn⟩ := Option.isSome_iff_exists.1 h1
  obtain ⟨n', hn'⟩ := Option.isSome_iff_exists.1 h2
  rw [body_of hn, body_of hn']
  have hsame : ∀ f : Int → Option NodeV, (∀ n', f z = some n' → ∃ m, s.nodes z = some m ∧ n'.kids = m.kids) → s' = { s with nodes := f } → (n'.kids, dataOf N s' z) = (n.kids, dataOf N s z) := fun f hf e => by
    rw [e] at hn'
    obtain ⟨m, hm, e2⟩ := hf n' hn'
    rw [hn] at hm
    injection hm with hm
    rw [e2, ← hm, e, data_dev (s := s) (s' := { s with nodes := f }) rfl]
  have hnone : s' = s → (n'.kids, dataOf N s' z) = (n.kids, dataOf N s z) := fun e => hsame s.nodes (fun m hm => ⟨m, hm, rfl⟩) e
  rcases hd with ⟨_, ⟨_, _, e⟩ | ⟨nd, _, _, e⟩⟩ | ⟨_, ⟨_, _, e⟩ | ⟨nd, hq, h1, _, e⟩⟩ | ⟨_, _, f, _, hs, e⟩ | ⟨q9, _⟩ | ⟨_, _, e⟩ | ⟨_, _, e⟩
  · exact hnone e
  · refine hsame _ (fun m hm => ?_) e
    obtain ⟨m2, hm2, e2, _⟩ := held_is hm
    exact ⟨m2, hm2, e2⟩
  · exact hnone e
  · refine hsame _ (fun m hm => ?_) e
    obtain ⟨m2, hm2, e2, _⟩ := (drop_acc hI hq h1).2 z m hm
    obtain ⟨m3, hm3, e3, _⟩ := held_is hm2
    exact ⟨m3, hm3, e2.trans e3⟩
  · refine hsame _ (fun m hm => ?_) e
    obtain ⟨m2, hm2, e2, _⟩ := hs z m hm
    exact ⟨m2, hm2, e2⟩
  · exact (h9 q9).elim
  · exact hnone e
  · rcases put_calm hI h k.ks k.s with q | ⟨q, _⟩ | ⟨j, q, _, _, hf, _, hl, _⟩
    · rw [q] at e
      exact hnone e
    · rw [q] at e
      exact hnone e
    · rw [q] at e
      have hne : z ≠ (j : Int) := fun e => by rw [e, hf] at hn; cases hn
      have hn2 : (addV s j k.ks).nodes z = some n' := by
        rw [e] at hn'
        exact hn'
      rcases add_is hI.acc hf hl hn2 with ⟨e1, _⟩ | ⟨m, hm, e2, _⟩
      · exact (hne e1).elim
      · rw [hn] at hm
        injection hm with hm
        rw [e2, ← hm, e, data_dev (s := s) (s' := addV { s with dev := Dv.putD s.dev j (blockB k.ks k.s) } j k.ks) (read_put s.dev _ hne)]
/-- A row of blocks, wherever it begins. -/
structure RowE (w : World) (A : Option Addr) (n : Nat) (es : List BE) : Prop where
  len : n = es.length
  cells : 0 < n → ∃ q o, A = some ⟨q, o, none⟩ ∧ q < w.heap.size ∧ ∀ i (hi : i < es.length), w.cell? ⟨q, o + i * 2, none⟩ = some es[i].v ∧ w.cell? ⟨q, o + i * 2 + 1, none⟩ = some (.string es[i].t)
  each : ∀ e ∈ es, NumRow w e.A e.ks.length e.ks ∧ e.ks.length ≤ 9223372036854775807
theorem RowE.below {w w' : World} {A : Option Addr} {n : Nat} {es : List BE} (h : RowE w A n es) (hb : Below w.heap.size w w') : RowE w' A n es :=
  ⟨h.len, fun hn => by
    obtain ⟨q, o, e, hq, hx⟩ := h.cells hn
    exact ⟨q, o, e, Nat.lt_of_lt_of_le hq hb.size, fun i hi => ⟨(hb.cell (p := ⟨q, o + i * 2, none⟩) hq).trans (hx i hi).1, (hb.cell (p := ⟨q, o + i * 2 + 1, none⟩) hq).trans (hx i hi).2⟩⟩, fun e he => ⟨(h.each e he).1.below hb, (h.each e he).2⟩⟩
set_option maxRecDepth 100000 in
set_option maxHeartbeats 2000000 in
theorem eqe_any (A : Option Addr) (n c : Nat) (es : List BE) (B : Option Addr) (m d : Nat) (fs : List BE) (hn : n ≤ 9223372036854775807) (w : World) (h : RowE w A n es) (h2 : RowE w B m fs) :
    Calls Tryz.prog 46 #[.slice A n c, .slice B m d, .func (.func 47) #[] #[]] w fun e w' => EqIs (es.map BE.val) (fs.map BE.val) e ∧ Below w.heap.size w w' := by
  have HO := Lib.hid h
  have HO2 := Lib.hid h2
  have HC1 := Lib.hid (And.intro h.len h.cells)
  have HC2 := Lib.hid (And.intro h2.len h2.cells)
  clear h h2
  by_cases hnm : n = m
  · subst hnm
    have HL := Lib.hid (show es.length = n ∧ fs.length = n from ⟨HC1.out.1.symm, HC2.out.1.symm⟩)
    go_enter Tryz.func46, Tryz.ntmps46
    go_wp2
    go_loopw [17] (fun i wr => ∃ j : Nat, j ≤ n ∧ i = .int .i64 j ∧ Hid ((es.take j).map BE.val = (fs.take j).map BE.val) ∧ Hid (Below w.heap.size w wr)) (fun i _ => n - (intOf i).toNat)
    case atStart => exact ⟨0, Nat.zero_le _, rfl, Lib.hid rfl, Lib.hid (Below.refl _ _)⟩
    case round =>
      obtain ⟨j, hj, rfl, HT, HB⟩ := hrel
      by_cases hlt : j < n
      · have j1 : j < es.length := by rw [HL.out.1]; exact hlt
        have j2 : j < fs.length := by rw [HL.out.2]; exact hlt
        obtain ⟨q1, o1, rfl, hq1, hx1⟩ := HC1.out.2 (by omega)
        obtain ⟨q2, o2, rfl, hq2, hx2⟩ := HC2.out.2 (by omega)
        obtain ⟨c0, c1⟩ := hx1 j j1
        obtain ⟨d0, d1⟩ := hx2 j j2
        replace c0 := (HB.out.cell (p := ⟨q1, o1 + j * 2, none⟩) hq1).trans c0
        replace c1 := (HB.out.cell (p := ⟨q1, o1 + j * 2 + 1, none⟩) hq1).trans c1
        replace d0 := (HB.out.cell (p := ⟨q2, o2 + j * 2, none⟩) hq2).trans d0
        replace d1 := (HB.out.cell (p := ⟨q2, o2 + j * 2 + 1, none⟩) hq2).trans d1
        have hr1 := (HO.out.below HB.out).each _ (List.getElem_mem j1)
        have hr2 := (HO2.out.below HB.out).each _ (List.getElem_mem j2)
        have HNX := Lib.hid (show (es[j].val = fs[j].val → (es.take (j + 1)).map BE.val = (fs.take (j + 1)).map BE.val) ∧ (es[j].val ≠ fs[j].val → es.map BE.val ≠ fs.map BE.val) from by
          refine ⟨fun e => ?_, fun e k => e ?_⟩
          · rw [List.take_succ_eq_append_getElem j1, List.take_succ_eq_append_getElem j2, List.map_append, List.map_append, HT.out, List.map_cons, List.map_cons, e]
          · have h1 := congrArg (fun l => l[j]?) k
            simp only [List.getElem?_map, List.getElem?_eq_getElem j1, List.getElem?_eq_getElem j2, Option.map_some] at h1
            injection h1)
        clear hx1 hx2
        generalize es[j] = ea at *
        generalize fs[j] = fa at *
        obtain ⟨A1, c1', k1, t1⟩ := ea
        obtain ⟨A2, c2', k2, t2⟩ := fa
        simp only [BE.v] at c0 d0
        have hk1 : k1.length ≤ 9223372036854775807 := hr1.2
        have hr1 : NumRow wr A1 k1.length k1 := hr1.1
        have hr2 : NumRow wr A2 k2.length k2 := hr2.1
        have hf1 := Has.fresh wr 38 #[.slice A1 k1.length c1', .string t1]
        have hf2 := Has.fresh (wr.alloc (.cells #[.slice A1 k1.length c1', .string t1] 38)) 38 #[.slice A2 k2.length c2', .string t2]
        have hf3 := hf1.past (.cells #[.slice A2 k2.length c2', .string t2] 38)
        rw [World.size_alloc] at hf2
        have m0 := Has.at_ hf3 0
        have m1 := Has.at_ hf3 1
        have m2 := Has.at_ hf2 0
        have m3 := Has.at_ hf2 1
        simp at m0 m1 m2 m3
        have hbw : Below wr.heap.size wr ((wr.alloc (.cells #[.slice A1 k1.length c1', .string t1] 38)).alloc (.cells #[.slice A2 k2.length c2', .string t2] 38)) := ((Below.refl _ wr).alloc (Nat.le_refl _) _).alloc (by simp) _
        have HBW := Lib.hid (HB.out.trans (hbw.mono HB.out.size))
        have hqw : q2 < wr.heap.size := Nat.lt_of_lt_of_le hq2 HB.out.size
        replace d0 := (World.cell?_alloc_lt wr (.cells #[.slice A1 k1.length c1', .string t1] 38) ⟨q2, o2 + j * 2, none⟩ hqw).trans d0
        replace d1 := (World.cell?_alloc_lt wr (.cells #[.slice A1 k1.length c1', .string t1] 38) ⟨q2, o2 + j * 2 + 1, none⟩ hqw).trans d1
        have HSM := Lib.hid (same1_any A1 k1.length c1' k1 t1 A2 k2.length c2' k2 t2 hk1 _ (hr1.below hbw) (hr2.below hbw))
        clear hr1 hr2 hf1 hf2 hf3 hbw j1 j2 hq1 hq2 hqw
        go_wp2_with fail
        refine HSM.out.mono ?_
        rintro e w3 ⟨⟨b, rfl, hb⟩, b3⟩
        have HB3 := Lib.hid (HBW.out.trans (b3.mono HBW.out.size))
        cases b with
        | true =>
          have HN := Lib.hid (HNX.out.1 (hb.1 rfl))
          clear b3 hb HSM c0 c1 d0 d1 m0 m1 m2 m3
          go_wp2
          go_roundw
          case rel => exact ⟨j + 1, by omega, by go_num, HN, HB3⟩
          case measure => simp [intOf]; omega
        | false =>
          have HN := Lib.hid (HNX.out.2 (fun k => by have := hb.2 k; cases this))
          clear b3 hb HSM c0 c1 d0 d1 m0 m1 m2 m3
          go_wp2
          go_ret
          exact ⟨⟨_, rfl, ⟨(fun h => by cases h), fun h => (HN.out h).elim⟩⟩, HB3.out⟩
      · have hje : j = n := by omega
        have HE := Lib.hid (show es.map BE.val = fs.map BE.val by
          have h := HT.out
          rw [List.take_of_length_le (by rw [HL.out.1]; omega), List.take_of_length_le (by rw [HL.out.2]; omega)] at h
          exact h)
        clear hj
        subst hje
        go_wp2
        go_ret
        exact ⟨⟨_, rfl, ⟨fun _ => HE.out, fun _ => rfl⟩⟩, HB.out⟩
  · have HL := Lib.hid (show es.length ≠ fs.length by rw [← HC1.out.1, ← HC2.out.1]; exact hnm)
    have hne : ((n : Int) != (m : Int)) = true := by simpa using (show ¬ (n : Int) = (m : Int) by omega)
    go_enter Tryz.func46, Tryz.ntmps46
    go_wp2
    go_ret
    exact ⟨⟨_, rfl, ⟨(fun h => by cases h), fun h => (HL.out (by have := congrArg List.length h; simpa using this)).elim⟩⟩, Below.refl _ _⟩
theorem samee_any (A : Option Addr) (n c : Nat) (es : List BE) (B : Option Addr) (m d : Nat) (fs : List BE) (hn : n ≤ 9223372036854775807) (w : World) (h : RowE w A n es) (h2 : RowE w B m fs) :
    Calls Tryz.prog 22 #[.slice A n c, .slice B m d] w fun e w' => EqIs (es.map BE.val) (fs.map BE.val) e ∧ Below w.heap.size w w' := by
  have HE := Lib.hid (eqe_any A n c es B m d fs hn w h h2)
  clear h h2
  go_enter Tryz.func22, Tryz.ntmps22
  go_wp2_with fail
  refine HE.out.mono ?_
  rintro e w' ⟨⟨b, rfl, hb⟩, b2⟩
  have HB := Lib.hid (And.intro hb b2)
  clear hb b2
  go_wp2
  go_ret
  exact ⟨⟨b, rfl, HB.out.1⟩, HB.out.2⟩
/-- One block, and the row of it alone. -/
theorem alone_row {w : World} {q o : Nat} {e : BE} (hq : q < w.heap.size) (h0 : w.cell? ⟨q, o, none⟩ = some e.v) (h1 : w.cell? ⟨q, o + 1, none⟩ = some (.string e.t)) (hr : NumRow w e.A e.ks.length e.ks) (hl : e.ks.length ≤ 9223372036854775807) : RowE w (some ⟨q, o, none⟩) 1 [e] :=
  ⟨rfl, fun _ => ⟨q, o, rfl, hq, fun i hi => by
    obtain rfl : i = 0 := by simpa using hi
    exact ⟨h0, h1⟩⟩, fun y hy => by
    rw [List.mem_singleton.1 hy]
    exact ⟨hr, hl⟩⟩
theorem dos_two (w : World) (A : Option Addr) (n c b g : Nat) (xs : List DoC) (y : DoC) (h : DoRow w A n xs) (hn : n ≤ 9223372036854775807) (hy : Fits w y) (hg : Has w g 25 #[.int .i64 y.v.op, .int .i64 y.v.i, .slice y.A y.n y.c, .string y.v.s])
    (hc : Has w b 22 #[.slice A n c, .slice (some ⟨g, 0, none⟩) 1 1]) : ListRow w (some ⟨b, 0, none⟩) 2 [⟨A, n, c, xs⟩, ⟨some ⟨g, 0, none⟩, 1, 1, [y]⟩] :=
  ⟨rfl, fun _ => ⟨b, 0, rfl, hc.bound, fun i hi => by
    match i, hi with
    | 0, _ => exact Has.at_ hc 0
    | 1, _ => exact Has.at_ hc 1
    | i + 2, hi => exact absurd hi (by simp)⟩, fun z hz => by
    rcases List.mem_cons.1 hz with e | hz
    · rw [e]
      exact ⟨h, hn⟩
    · rw [List.mem_singleton.1 hz]
      refine ⟨⟨rfl, fun _ => ⟨g, 0, rfl, hg.bound, fun i hi => ?_⟩, fun x hx => ?_⟩, (show 1 ≤ 9223372036854775807 by decide)⟩
      · obtain rfl : i = 0 := by simpa using hi
        exact ⟨Has.at_ hg 0, Has.at_ hg 1, Has.at_ hg 2, Has.at_ hg 3⟩
      · rw [List.mem_singleton.1 hx]
        exact hy⟩
/-- What is gathered of what is there. -/
structure WasI (W0 wr : World) (K : Nat) (s : SV) (q : Nat) (l : List Int) (A1 A9 : Option Addr) (c1 c9 : Nat) (es : List BE) : Prop where
  bel : Below W0.heap.size W0 wr
  out : OutRow wr W0.heap.size (.slice A9 q c9) es
  vals : es.map BE.val = (l.take q).map (bodyN K s)
  row : OwnI wr W0.heap.size (.slice A1 l.length c1) l
theorem WasI.below {W0 wr w' : World} {K : Nat} {s : SV} {q : Nat} {l : List Int} {A1 A9 : Option Addr} {c1 c9 : Nat} {es : List BE} (h : WasI W0 wr K s q l A1 A9 c1 c9 es) (hb : Below wr.heap.size wr w') : WasI W0 w' K s q l A1 A9 c1 c9 es :=
  ⟨h.bel.trans (hb.mono h.bel.size), h.out.below hb, h.vals, own_below h.row hb⟩
theorem WasI.len {W0 wr : World} {K : Nat} {s : SV} {q : Nat} {l : List Int} {A1 A9 : Option Addr} {c1 c9 : Nat} {es : List BE} (h : WasI W0 wr K s q l A1 A9 c1 c9 es) (hq : q ≤ l.length) : es.length = q := by
  have := congrArg List.length h.vals
  rw [List.length_map, List.length_map, List.length_take] at this
  omega
theorem refs_none (p : Nat) (F : Fr) (s : SV) (id : Int) (hn : s.nodes id = none) (w : World) (h : StoIs w p F s) :
    Calls Tryz.prog 21 #[.pointer (some ⟨p, 0, none⟩), .int .i64 id] w fun e w' => e = .returned (.tuple #[.int .i64 0, .int .i64 0, .bool false]) ∧ w = w' := by
  have HM := Lib.hid (made_sto p F s w h)
  have HS := Lib.hid (has_sto p F s id w h)
  rw [show (s.nodes id).isSome = false by rw [hn]; rfl] at HS
  clear h hn
  go_enter Tryz.func21, Tryz.ntmps21
  go_wp2_with fail
  refine HM.out.mono ?_
  rintro e w' ⟨rfl, rfl⟩
  go_wp2_with fail
  refine HS.out.mono ?_
  rintro e w' ⟨rfl, rfl⟩
  go_wp2
  go_ret3
  exact ⟨rfl, rfl⟩
theorem own_over {w w' : World} {B k n : Nat} {t : TypeId} {v : Value} {xs : List Value} {S : Nat → Prop} (h : w.ownsRow B t k v n xs) (hc : Chg S w w') (hS : ∀ g, S g → g < B) : w'.ownsRow B t k v n xs := by
  obtain ⟨hl, h⟩ := h
  refine ⟨hl, ?_⟩
  rcases h with h | ⟨g, c, cur, e, hB, hh, hr⟩
  · exact .inl h
  · exact .inr ⟨g, c, cur, e, hB, (hc.block g (Array.getElem?_eq_some_iff.1 hh).1 (fun q => by have := hS g q; omega)).trans hh, hr⟩
theorem OutRow.over {w w' : World} {B : Nat} {v : Value} {es : List BE} {S : Nat → Prop} (h : OutRow w B v es) (hc : Chg S w w') (hS : ∀ g, S g → g < B) : OutRow w' B v es :=
  ⟨own_over h.row hc hS, fun e he => own_over (h.each e he) hc hS⟩
end Go.Proofs.YtkbpjegegjgbkaaGreat.Sto
