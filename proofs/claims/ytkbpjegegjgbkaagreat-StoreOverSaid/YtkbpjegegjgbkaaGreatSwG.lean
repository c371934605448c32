/- Whether two rows of gathered blocks are alike: contracts. -/
import Derived.Test.YtkbpjegegjgbkaaGreatSwF
namespace Go.Proofs.YtkbpjegegjgbkaaGreat.Sto
open Go.RowKit
open Oct (Has Chg)
open Rws
open Dv (DoV)
open Mem (IMap)
set_option linter.unusedVariables false

theorem txt_same {x y : ByteArray} (h : x = y) : (x.toList == y.toList) = true := by subst h; simp
theorem txt_other {x y : ByteArray} (h : ¬ x = y) : (x.toList == y.toList) = false := by
  refine beq_eq_false_iff_ne.2 fun e => h ?_
  rw [ByteArray.toList_eq, ByteArray.toList_eq] at e
  obtain ⟨⟨d⟩⟩ := x
  obtain ⟨⟨k⟩⟩ := y
  simp at e
  rw [e]
/-- A truth value is answered, true where the two are alike, false where they are not. -/
def EqIs {α : Type} (x y : α) (e : Ending) : Prop := ∃ b, e = .returned (.bool b) ∧ (b = true ↔ x = y)
set_option maxRecDepth 100000 in
theorem same1_any (A : Option Addr) (n c : Nat) (ks : List Int) (t : ByteArray) (B : Option Addr) (m d : Nat) (ls : List Int) (u : ByteArray) (hn : n ≤ 9223372036854775807) (w : World) (h : NumRow w A n ks) (h2 : NumRow w B m ls) :
    Calls Tryz.prog 47 #[.agg #[.slice A n c, .string t], .agg #[.slice B m d, .string u]] w fun e w' => EqIs (ks, t) (ls, u) e ∧ Below w.heap.size w w' := by
  have hr0 := (Has.fresh w 38 #[.slice A n c, .string t]).past (.cells #[.slice B m d, .string u] 38)
  have hr1 := Has.fresh (w.alloc (.cells #[.slice A n c, .string t] 38)) 38 #[.slice B m d, .string u]
  rw [World.size_alloc] at hr1
  have a0 := Has.at_ hr0 0
  have a1 := Has.at_ hr0 1
  have b0 := Has.at_ hr1 0
  have b1 := Has.at_ hr1 1
  simp at a0 a1 b0 b1
  have hb : Below w.heap.size w ((w.alloc (.cells #[.slice A n c, .string t] 38)).alloc (.cells #[.slice B m d, .string u] 38)) := ((Below.refl _ w).alloc (Nat.le_refl _) _).alloc (by simp) _
  have HB := Lib.hid hb
  have HE := Lib.hid (eqi_any A B n m c d ks ls hn _ (h.below hb) (h2.below hb))
  clear h h2 hr0 hr1 hb
  by_cases e : t = u
  · subst e
    go_enter Tryz.func47, Tryz.ntmps47
    go_wp2_with fail
    refine HE.out.mono ?_
    rintro x w' ⟨rfl, hb2⟩
    have HB2 := Lib.hid (HB.out.trans (hb2.mono HB.out.size))
    clear hb2
    go_wp2
    go_ret
    exact ⟨⟨_, rfl, by rw [decide_eq_true_iff, Prod.mk.injEq]; exact ⟨fun h => ⟨h, rfl⟩, fun h => h.1⟩⟩, HB2.out⟩
  · have q := txt_other e
    go_enter Tryz.func47, Tryz.ntmps47
    go_wp2
    go_ret
    exact ⟨⟨_, rfl, ⟨(fun h => by cases h), fun h => (e (by injection h)).elim⟩⟩, HB.out⟩
theorem cells_at (es : List BE) : ∀ (i : Nat) (h : i < es.length), (cellsOf es)[i * 2]? = some es[i].v ∧ (cellsOf es)[i * 2 + 1]? = some (.string es[i].t) := by
  induction es with
  | nil => intro i h; cases h
  | cons e es ih =>
    intro i h
    have e1 : cellsOf (e :: es) = e.v :: .string e.t :: cellsOf es := rfl
    rw [e1]
    cases i with
    | zero => exact ⟨rfl, rfl⟩
    | succ i =>
      have hi : i < es.length := by simpa using h
      have := ih i hi
      rw [show (i + 1) * 2 = i * 2 + 1 + 1 by omega, show i * 2 + 1 + 1 + 1 = (i * 2 + 1) + 1 + 1 by omega]
      simp only [List.getElem?_cons_succ, List.getElem_cons_succ]
      exact this
theorem out_cells {w : World} {B : Nat} {A : Option Addr} {n c : Nat} {es : List BE} (h : OutRow w B (.slice A n c) es) : n = es.length ∧ (0 < n → ∃ q, A = some ⟨q, 0, none⟩ ∧ q < w.heap.size ∧ ∀ i (hi : i < es.length), w.cell? ⟨q, i * 2, none⟩ = some es[i].v ∧ w.cell? ⟨q, i * 2 + 1, none⟩ = some (.string es[i].t)) := by
  rcases h.row.2 with ⟨e, e0⟩ | ⟨q, cap, cur, e, hb, hh, k1, k2, k3, k4⟩
  · injection e with e1 e2 e3
    exact ⟨by rw [e0]; exact e2, fun h => by omega⟩
  · injection e with e1 e2 e3
    refine ⟨e2, fun h0 => ⟨q, e1, (Array.getElem?_eq_some_iff.1 hh).1, fun i hi => ?_⟩⟩
    have hrow : w.ownsRow B 38 2 (.slice (some ⟨q, 0, none⟩) es.length cap) es.length (cellsOf es) := ⟨h.row.1, .inr ⟨q, cap, cur, rfl, hb, hh, k1, k2, k3, k4⟩⟩
    rw [World.ownsRow.cellAt hrow (i * 2) (by omega), World.ownsRow.cellAt hrow (i * 2 + 1) (by omega)]
    exact cells_at es i hi
set_option maxRecDepth 100000 in
set_option maxHeartbeats 2000000 in
theorem eqf_any (B1 B2 : Nat) (A : Option Addr) (n c : Nat) (es : List BE) (B : Option Addr) (m d : Nat) (fs : List BE) (hn : n ≤ 9223372036854775807) (w : World) (h : OutRow w B1 (.slice A n c) es) (h2 : OutRow w B2 (.slice B m d) fs) :
    Calls Tryz.prog 46 #[.slice A n c, .slice B m d, .func (.func 47) #[] #[]] w fun e w' => EqIs (es.map BE.val) (fs.map BE.val) e ∧ Below w.heap.size w w' := by
  have HO := Lib.hid h
  have HO2 := Lib.hid h2
  obtain ⟨hn1, hc1⟩ := out_cells h
  obtain ⟨hm1, hc2⟩ := out_cells h2
  have HC1 := Lib.hid (And.intro hn1 hc1)
  have HC2 := Lib.hid (And.intro hm1 hc2)
  clear h h2 hn1 hc1 hm1 hc2
  by_cases hnm : n = m
  · subst hnm
    have HL := Lib.hid (show es.length = n ∧ fs.length = n from ⟨HC1.out.1.symm, HC2.out.1.symm⟩)
    go_enter Tryz.func46, Tryz.ntmps46
    go_wp2
    go_loopw [17] (fun i wr => ∃ j : Nat, j ≤ n ∧ i = .int .i64 j ∧ Hid ((es.take j).map BE.val = (fs.take j).map BE.val) ∧ Hid (Below w.heap.size w wr)) (fun i _ => n - (intOf i).toNat)
    case atStart => exact ⟨0, Nat.zero_le _, rfl, Lib.hid rfl, Lib.hid (Below.refl _ _)⟩
    case round =>
      obtain ⟨j, hj, rfl, HT, HB⟩ := hrel
      by_cases hlt : j < n
      · have j1 : j < es.length := by rw [HL.out.1]; exact hlt
        have j2 : j < fs.length := by rw [HL.out.2]; exact hlt
        obtain ⟨q1, rfl, hq1, hx1⟩ := HC1.out.2 (by omega)
        obtain ⟨q2, rfl, hq2, hx2⟩ := HC2.out.2 (by omega)
        obtain ⟨c0, c1⟩ := hx1 j j1
        obtain ⟨d0, d1⟩ := hx2 j j2
        replace c0 := (HB.out.cell (p := ⟨q1, j * 2, none⟩) hq1).trans c0
        replace c1 := (HB.out.cell (p := ⟨q1, j * 2 + 1, none⟩) hq1).trans c1
        replace d0 := (HB.out.cell (p := ⟨q2, j * 2, none⟩) hq2).trans d0
        replace d1 := (HB.out.cell (p := ⟨q2, j * 2 + 1, none⟩) hq2).trans d1
        have hr1 := (HO.out.below HB.out).each _ (List.getElem_mem j1)
        have hr2 := (HO2.out.below HB.out).each _ (List.getElem_mem j2)
        have HNX := Lib.hid (show (es[j].val = fs[j].val → (es.take (j + 1)).map BE.val = (fs.take (j + 1)).map BE.val) ∧ (es[j].val ≠ fs[j].val → es.map BE.val ≠ fs.map BE.val) from by
          refine ⟨fun e => ?_, fun e k => e ?_⟩
          · rw [List.take_succ_eq_append_getElem j1, List.take_succ_eq_append_getElem j2, List.map_append, List.map_append, HT.out, List.map_cons, List.map_cons, e]
          · have h1 := congrArg (fun l => l[j]?) k
            simp only [List.getElem?_map, List.getElem?_eq_getElem j1, List.getElem?_eq_getElem j2, Option.map_some] at h1
            injection h1)
        clear hx1 hx2
        generalize es[j] = ea at *
        generalize fs[j] = fa at *
        obtain ⟨A1, c1', k1, t1⟩ := ea
        obtain ⟨A2, c2', k2, t2⟩ := fa
        simp only [BE.v] at c0 d0
        have hrr : wr.ownsRow B1 3 1 (.slice A1 k1.length c1') k1.length (k1.map (Value.int .i64)) := hr1
        have hr1 : NumRow wr A1 k1.length k1 := row_of_own hr1 rfl
        have hr2 : NumRow wr A2 k2.length k2 := row_of_own hr2 rfl
        have hf1 := Has.fresh wr 38 #[.slice A1 k1.length c1', .string t1]
        have hf2 := Has.fresh (wr.alloc (.cells #[.slice A1 k1.length c1', .string t1] 38)) 38 #[.slice A2 k2.length c2', .string t2]
        have hf3 := hf1.past (.cells #[.slice A2 k2.length c2', .string t2] 38)
        rw [World.size_alloc] at hf2
        have m0 := Has.at_ hf3 0
        have m1 := Has.at_ hf3 1
        have m2 := Has.at_ hf2 0
        have m3 := Has.at_ hf2 1
        simp at m0 m1 m2 m3
        have hbw : Below wr.heap.size wr ((wr.alloc (.cells #[.slice A1 k1.length c1', .string t1] 38)).alloc (.cells #[.slice A2 k2.length c2', .string t2] 38)) := ((Below.refl _ wr).alloc (Nat.le_refl _) _).alloc (by simp) _
        have HBW := Lib.hid (HB.out.trans (hbw.mono HB.out.size))
        have hqw : q2 < wr.heap.size := Nat.lt_of_lt_of_le hq2 HB.out.size
        replace d0 := (World.cell?_alloc_lt wr (.cells #[.slice A1 k1.length c1', .string t1] 38) ⟨q2, j * 2, none⟩ hqw).trans d0
        replace d1 := (World.cell?_alloc_lt wr (.cells #[.slice A1 k1.length c1', .string t1] 38) ⟨q2, j * 2 + 1, none⟩ hqw).trans d1
        have hk1 : k1.length ≤ 9223372036854775807 := by
          rcases hrr.2 with ⟨_, e0⟩ | ⟨_, _, _, _, _, _, e3, e4, _⟩
          · omega
          · unfold maxLen at e4; omega
        have HSM := Lib.hid (same1_any A1 k1.length c1' k1 t1 A2 k2.length c2' k2 t2 hk1 _ (hr1.below hbw) (hr2.below hbw))
        clear hr1 hr2 hrr hf1 hf2 hf3 hbw j1 j2 hq1 hq2 hqw
        go_wp2_with fail
        refine HSM.out.mono ?_
        rintro e w3 ⟨⟨b, rfl, hb⟩, b3⟩
        have HB3 := Lib.hid (HBW.out.trans (b3.mono HBW.out.size))
        cases b with
        | true =>
          have HN := Lib.hid (HNX.out.1 (hb.1 rfl))
          clear b3 hb HSM c0 c1 d0 d1 m0 m1 m2 m3
          go_wp2
          go_roundw
          case rel => exact ⟨j + 1, by omega, by go_num, HN, HB3⟩
          case measure => simp [intOf]; omega
        | false =>
          have HN := Lib.hid (HNX.out.2 (fun k => by have := hb.2 k; cases this))
          clear b3 hb HSM c0 c1 d0 d1 m0 m1 m2 m3
          go_wp2
          go_ret
          exact ⟨⟨_, rfl, ⟨(fun h => by cases h), fun h => (HN.out h).elim⟩⟩, HB3.out⟩
      · have hje : j = n := by omega
        have HE := Lib.hid (show es.map BE.val = fs.map BE.val by
          have h := HT.out
          rw [List.take_of_length_le (by rw [HL.out.1]; omega), List.take_of_length_le (by rw [HL.out.2]; omega)] at h
          exact h)
        clear hj
        subst hje
        go_wp2
        go_ret
        exact ⟨⟨_, rfl, ⟨fun _ => HE.out, fun _ => rfl⟩⟩, HB.out⟩
  · have HL := Lib.hid (show es.length ≠ fs.length by rw [← HC1.out.1, ← HC2.out.1]; exact hnm)
    have hne : ((n : Int) != (m : Int)) = true := by simpa using (show ¬ (n : Int) = (m : Int) by omega)
    go_enter Tryz.func46, Tryz.ntmps46
    go_wp2
    go_ret
    exact ⟨⟨_, rfl, ⟨(fun h => by cases h), fun h => (HL.out (by have := congrArg List.length h; simpa using this)).elim⟩⟩, Below.refl _ _⟩
theorem same_any (B1 B2 : Nat) (A : Option Addr) (n c : Nat) (es : List BE) (B : Option Addr) (m d : Nat) (fs : List BE) (hn : n ≤ 9223372036854775807) (w : World) (h : OutRow w B1 (.slice A n c) es) (h2 : OutRow w B2 (.slice B m d) fs) :
    Calls Tryz.prog 22 #[.slice A n c, .slice B m d] w fun e w' => EqIs (es.map BE.val) (fs.map BE.val) e ∧ Below w.heap.size w w' := by
  have HE := Lib.hid (eqf_any B1 B2 A n c es B m d fs hn w h h2)
  clear h h2
  go_enter Tryz.func22, Tryz.ntmps22
  go_wp2_with fail
  refine HE.out.mono ?_
  rintro e w' ⟨⟨b, rfl, hb⟩, b2⟩
  have HB := Lib.hid (And.intro hb b2)
  clear hb b2
  go_wp2
  go_ret
  exact ⟨⟨b, rfl, HB.out.1⟩, HB.out.2⟩
end Go.Proofs.YtkbpjegegjgbkaaGreat.Sto
