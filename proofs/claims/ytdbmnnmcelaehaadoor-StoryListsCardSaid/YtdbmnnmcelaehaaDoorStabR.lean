/- Rows of events one behind the other; rows that are cut; how many events are gone through. -/
import Derived.Test.YtdbmnnmcelaehaaDoorStabQ
import Derived.Test.YtdbmnnmcelaehaaDoorSmrC
import Derived.Lib.AppendZeros
namespace Go.Proofs.YtdbmnnmcelaehaaDoor.Stab
open Go.RowKit Go.Proofs.YtdbmnnmcelaehaaDoor.Mem
open Go.Proofs.YtdbmnnmcelaehaaDoor.Sr (EOwn eL info_parts_ev event_one zeroE)
set_option linter.unusedVariables false set_option linter.unusedSimpArgs false

theorem srow_drop {α : Type} {w : World} {k : Nat} {f : α → Array Value} {b off n : Nat} {xs : List α} (h : Fc.SRow w k f (some ⟨b, off, none⟩) n xs) (i : Nat) : Fc.SRow w k f (some ⟨b, off + i * k, none⟩) (n - i) (xs.drop i) := by
  refine ⟨by rw [List.length_drop, h.len], fun hn => ?_⟩
  obtain ⟨b', off', e, hl, hx⟩ := h.cells (by omega)
  cases e
  refine ⟨b, off + i * k, rfl, hl, fun j hj c v hv => ?_⟩
  have hj2 : i + j < xs.length := by rw [List.length_drop] at hj; omega
  rw [List.getElem_drop] at hv
  have := hx (i + j) hj2 c v hv
  rwa [Nat.add_mul, ← Nat.add_assoc] at this
theorem srow_take {α : Type} {w : World} {k : Nat} {f : α → Array Value} {A : Option Addr} {n : Nat} {xs : List α} (h : Fc.SRow w k f A n xs) {i : Nat} (hi : i ≤ n) : Fc.SRow w k f A i (xs.take i) := by
  refine ⟨by rw [List.length_take, h.len]; omega, fun hn => ?_⟩
  obtain ⟨b', off', e, hl, hx⟩ := h.cells (by omega)
  refine ⟨b', off', e, hl, fun j hj c v hv => ?_⟩
  have hj2 : j < xs.length := by rw [List.length_take] at hj; omega
  rw [List.getElem_take] at hv
  exact hx j hj2 c v hv
theorem own_srow {w : World} {B g cap n : Nat} {es : List Fc.EventC} (h : EOwn w B (.slice (some ⟨g, 0, none⟩) n cap) es) : Fc.SRow w 21 Fc.eventC (some ⟨g, 0, none⟩) n es := by
  obtain ⟨e, hc, hB, z, hr⟩ := own_rw h
  exact srow_rw hr (Nat.le_refl _) e (fun i hi => by show _ = some ((es[i]?).getD zeroE); rw [List.getElem?_eq_getElem (by omega)]; rfl)
theorem own_news {w : World} {a : Addr} {n : Nat} {es : List Fc.EventC} (h : Fc.SRow w 21 Fc.eventC (some a) n es) : ∀ j u, (es.flatMap eL)[j]? = some u → w.cell? (a.add j) = some u := by
  by_cases c0 : 0 < n
  · obtain ⟨b, off, e, hl, hx⟩ := h.cells c0
    cases e
    exact srow_news h
  · have e1 : es = [] := List.length_eq_zero_iff.1 (by rw [h.len]; omega)
    subst e1
    intro j u hu
    simp at hu
def sumAt (n m : Nat) : Nat → Nat
  | 0 => 0
  | 1 => n
  | _ => n + m
def accAt (l r : List Fc.EventC) : Nat → List Fc.EventC
  | 0 => []
  | 1 => l
  | _ => l ++ r
theorem grownB {w w1 w2 : World} {v : Value} {l : List Fc.EventC} (hb : Below w.heap.size w w1) (ho : EOwn w1 w.heap.size v l) (hg : w1.grownBy w2 v.ownBlock) : Below w.heap.size w w2 :=
  hb.grown hg hb.size (fun k hk => (World.ownsRow.lt ho k hk).1)
set_option maxRecDepth 100000 in
theorem grow_any (m : Nat) (hm : m ≤ 4000000) (w : World) :
    Calls Tryd.prog 45 #[.slice none 0 0, .int .i64 m] w fun e w' => ∃ v, e = .returned v ∧ EOwn w' w.heap.size v [] ∧ Below w.heap.size w w' := by
  by_cases h0 : m = 0
  · subst h0
    go_enter Tryd.func45, Tryd.ntmps45
    go_wp2
    go_ret
    exact ⟨_, rfl, eown_nil _ _, Below.refl _ w⟩
  · obtain ⟨i0, hi, hz0, hz1, hz2⟩ := info_parts_ev
    have hr : ∀ ty, (Builtin.append_ #[38, 3] ty #[.slice none 0 0, .int .i64 (m : Int)]).run Tryd.prog w = _ := fun ty => Lib.run_append_nil_zeros (P := Tryd.prog) w 38 3 ty 31 i0 (.agg (Fc.eventC zeroE)) .i64 .i64 Tryd.underlying38 Tryd.underlying3 hi hz0 m (by omega) (by omega) (by omega) (by rw [hz2]; omega)
    have hown := World.ownsRow_made (base := w.heap.size) (e := 31) (size := 21) w.drew (Builtin.zeroCells (Value.agg (Fc.eventC zeroE)).cells m ++ Builtin.zeroCells (Value.agg (Fc.eventC zeroE)).cells (grownCap w m 0 31 - m)) (grownCap w m 0 31) (Nat.le_refl _) (grownCap_le_maxLen _ _ _ _ (by unfold maxLen; omega)) (by
      have := grownCap_ge w m 0 31
      have z1 : (Fc.eventC zeroE).size = 21 := rfl
      simp [Builtin.zeroCells, Value.cells, z1]
      omega)
    have HO := Lib.hid hown
    have HB := Lib.hid ((Below.refl w.heap.size w).drew.alloc (Nat.le_refl _) (.cells (Builtin.zeroCells (Value.agg (Fc.eventC zeroE)).cells m ++ Builtin.zeroCells (Value.agg (Fc.eventC zeroE)).cells (grownCap w m 0 31 - m)) 31))
    have m0 : 0 < (m : Int) := by omega
    have m1 : (m : Int) ≤ 4000000 := by omega
    clear hi hz0 hz1 hz2 hown
    go_enter Tryd.func45, Tryd.ntmps45
    go_wp2_with (at_builtin; refine Lib.wpList_append_run _ rfl _ _ _ _ rfl _ _ rfl rfl _ _ (hr _) ?_)
    go_ret
    exact ⟨_, rfl, HO.out, HB.out⟩
set_option maxRecDepth 100000 in
set_option maxHeartbeats 4000000 in
theorem concat_any (T m d : Nat) (a : Addr) (n c : Nat) (l : List Fc.EventC) (hn : n ≤ 500000) (b : Addr) (r : List Fc.EventC) (hm : m ≤ 500000) (w : World) (hT : Has w T 38 #[.slice (some a) n c, .slice (some b) m d]) (h : Fc.SRow w 21 Fc.eventC (some a) n l) (h2 : Fc.SRow w 21 Fc.eventC (some b) m r) :
    Calls Tryd.prog 21 #[.slice (some ⟨T, 0, none⟩) 2 2] w (EOut (l ++ r) w) := by
  obtain ⟨i0, hi, hz0, hz1, hz2⟩ := info_parts_ev
  have HI := Lib.hid (And.intro hi (And.intro hz0 (And.intro hz1 hz2)))
  have HT := Lib.hid hT
  have HR1 := Lib.hid h
  have HR2 := Lib.hid h2
  have c0 := Has.at_ hT 0
  have c1 := Has.at_ hT 1
  simp at c0 c1
  clear hi hz0 hz1 hz2 hT h h2
  go_enter Tryd.func21, Tryd.ntmps21
  go_wp2
  go_loop [3, 11] (fun s i => ∃ k : Nat, k ≤ 2 ∧ i = .int .i64 k ∧ s = .int .i64 (sumAt n m k)) (fun _ i => 2 - (intOf i).toNat)
  case atStart => exact ⟨0, by omega, rfl, rfl⟩
  case round =>
    obtain ⟨k, hk, rfl, rfl⟩ := hrel
    rcases (by omega : k = 0 ∨ k = 1 ∨ k = 2) with rfl | rfl | rfl
    · simp only [sumAt]
      go_wp2
      go_round
      case rel => exact ⟨1, by omega, rfl, rfl⟩
      case measure => simp [intOf]
    · simp only [sumAt]
      go_wp2
      go_round
      case rel => exact ⟨2, by omega, rfl, by first | go_num | simp [sumAt]⟩
      case measure => simp [intOf]
    · simp only [sumAt]
      go_wp2_with fail
      have hg := grow_any (n + m) (by omega) w
      rw [Int.natCast_add] at hg
      refine hg.mono ?_
      rintro e w1 ⟨v, rfl, ho, hb⟩
      have HO0 := Lib.hid ho
      have HB0 := Lib.hid hb
      clear ho hb hg c0 c1
      go_wp2
      go_loopw [6, 27] (fun v i wr => ∃ k : Nat, k ≤ 2 ∧ i = .int .i64 k ∧ Hid (EOwn wr w.heap.size v (accAt l r k)) ∧ Hid (Below w.heap.size w wr)) (fun _ i _ => 2 - (intOf i).toNat)
      case atStart => exact ⟨0, by omega, rfl, HO0, HB0⟩
      case round =>
        obtain ⟨k, hk, rfl, HO, HB⟩ := hrel
        clear HO0 HB0
        have d0 := Has.at_ (Has.over HT.out (Chg.of_below HB.out (fun _ => False)) (fun k => k)) 0
        have d1 := Has.at_ (Has.over HT.out (Chg.of_below HB.out (fun _ => False)) (fun k => k)) 1
        simp at d0 d1
        rcases (by omega : k = 0 ∨ k = 1 ∨ k = 2) with rfl | rfl | rfl
        · have NW := Lib.hid (own_news (HR1.out.below HB.out))
          have HL := Lib.hid HR1.out.len
          go_wp2_with (at_builtin; refine wpList_append_own _ rfl _ _ _ rfl w.heap.size 31 i0 (.agg (Fc.eventC zeroE)) 21 200 Tryd.underlying38 HI.out.1 HI.out.2.1 HI.out.2.2.1 HI.out.2.2.2 rfl (by decide) _ _ _ rfl HO.out a n c (l.flatMap eL) rfl ?c01 NW.out (flat_one l) ?c02 ?c03 ?c04 ?_)
          case c01 => rw [flat_len eL_len, HL.out]
          case c02 => unfold maxLen; simp only [accAt, List.length_nil]; omega
          case c03 => simp only [accAt, List.length_nil]; omega
          case c04 => exact HB.out.size
          intro v1 w2 o2 g2 _
          have HB2 := Lib.hid (grownB HB.out HO.out g2)
          have HO2 := Lib.hid (show EOwn w2 w.heap.size v1 (accAt l r 1) by
            unfold EOwn
            simp only [accAt, List.length_append, List.flatMap_append, List.length_nil, List.flatMap_nil, List.nil_append, Nat.zero_add] at o2 ⊢
            rw [HL.out]
            exact o2)
          clear o2 g2 NW
          go_wp2
          go_roundw
          case rel => exact ⟨1, by omega, rfl, HO2, HB2⟩
          case measure => simp [intOf]
        · have NW := Lib.hid (own_news (HR2.out.below HB.out))
          have HL := Lib.hid HR2.out.len
          have HL1 := Lib.hid HR1.out.len
          go_wp2_with (at_builtin; refine wpList_append_own _ rfl _ _ _ rfl w.heap.size 31 i0 (.agg (Fc.eventC zeroE)) 21 200 Tryd.underlying38 HI.out.1 HI.out.2.1 HI.out.2.2.1 HI.out.2.2.2 rfl (by decide) _ _ _ rfl HO.out b m d (r.flatMap eL) rfl ?c11 NW.out (flat_one r) ?c12 ?c13 ?c14 ?_)
          case c11 => rw [flat_len eL_len, HL.out]
          case c12 => unfold maxLen; simp only [accAt]; rw [HL1.out]; omega
          case c13 => simp only [accAt]; rw [HL1.out]; omega
          case c14 => exact HB.out.size
          intro v1 w2 o2 g2 _
          have HB2 := Lib.hid (grownB HB.out HO.out g2)
          have HO2 := Lib.hid (show EOwn w2 w.heap.size v1 (accAt l r 2) by
            unfold EOwn
            simp only [accAt, List.length_append, List.flatMap_append] at o2 ⊢
            rw [HL.out]
            exact o2)
          clear o2 g2 NW
          go_wp2
          go_roundw
          case rel => exact ⟨2, by omega, rfl, HO2, HB2⟩
          case measure => simp [intOf]
        · go_wp2
          go_ret
          exact ⟨_, rfl, HO.out, HB.out⟩
/-- a truth value, true only if there are at most 60 -/
def BoolLe (n : Nat) (e : Ending) : Prop := ∃ b, e = .returned (.bool b) ∧ (b = true → n ≤ 60)
set_option maxRecDepth 100000 in
set_option maxHeartbeats 4000000 in
theorem small_le (A : Option Addr) (n c : Nat) (es : List Fc.EventC) (hn : n ≤ 9223372036854775807) (w : World) (h : Fc.SRow w 21 Fc.eventC A n es) (hf : ∀ e ∈ es, Fc.StateFit w e.d) : Calls Tryd.prog 6 #[.slice A n c] w fun e w' => BoolLe n e ∧ Below w.heap.size w w' := by
  have HR := Lib.hid h
  have HFX := Lib.hid (show ∀ V, Below w.heap.size w V → ∀ e ∈ es, Fc.StateFit V e.d from fun V hb e he => (hf e he).below hb)
  clear h hf
  go_enter Tryd.func6, Tryd.ntmps6
  by_cases h1 : (60 : Int) < n
  · go_wp2
    go_ret
    exact ⟨⟨false, rfl, (fun h => by cases h)⟩, Below.refl _ _⟩
  go_wp2
  go_loopw [10] (fun i wr => ∃ j : Nat, j ≤ n ∧ i = .int .i64 j ∧ Hid (Below w.heap.size w wr)) (fun i _ => n - (intOf i).toNat)
  case atStart => exact ⟨0, by omega, rfl, Lib.hid (Below.refl _ _)⟩
  case round =>
    obtain ⟨j, hj, rfl, HI⟩ := hrel
    by_cases hlt : j < n
    · have hlti : (j : Int) < n := by omega
      have HJ := Lib.hid hlt
      obtain ⟨b, off, hA, hbl, hx1, mr⟩ := (HR.out.below HI.out).range hlt
      have HF1 := Lib.hid (HFX.out _ HI.out _ (List.getElem_mem hx1))
      obtain ⟨e, hp⟩ : ∃ e, e = es[j] := ⟨_, rfl⟩
      rw [← hp] at mr HF1
      have MR := Lib.hid mr
      have HB1 := Lib.hid (HI.out.alloc HI.out.size (.cells (Fc.eventC e) 31))
      have HN := Lib.hid (Has.fresh wr 31 (Fc.eventC e))
      have HF2 := Lib.hid (HF1.out.below ((Below.refl _ _).alloc (Nat.le_refl _) (.cells (Fc.eventC e) 31)))
      clear hj hlt hbl hx1 mr hp
      rw [hA]
      go_wp2_with (first | ((with_reducible refine Who.wpList_loadC 31 (.tmp 12) rfl b (off + j * 21) (Fc.eventC e) ?_); refine And.intro ⟨by rfl, by rfl, ⟨_, Tryd.underlying31, rfl⟩, Sr.info_event⟩ (And.intro (MR.out) ?_); (try simp only [Act.put, List.setIfInBounds_toArray, List.set_cons_zero, List.set_cons_succ])) | ((with_reducible refine Who.wpList_newC 31 4 (.tmp 13) rfl rfl rfl (Fc.eventC Sr.zeroE) (Fc.eventC e) ?_); refine And.intro ⟨rfl, rfl, rfl, Sr.alloc_event, by rfl, by rfl, Sr.info_event, rfl, Sr.event_one _⟩ ?_; (try simp only [Act.put, List.setIfInBounds_toArray, List.set_cons_zero, List.set_cons_succ]); (try simp only [World.size_alloc])) | ((with_reducible refine Who.wpList_loadC 29 (.tmp 14) rfl wr.heap.size 11 (Fc.stateC e.d) ?_); refine And.intro ⟨by rfl, by rfl, ⟨_, Tryd.underlying29, rfl⟩, Sr.info_state⟩ (And.intro (Sr.state_range HN.out) ?_); (try simp only [Act.put, List.setIfInBounds_toArray, List.set_cons_zero, List.set_cons_succ])) | fail)
      refine (Sr.Small_any e.d _ HF2.out).mono ?_
      rintro q w2 ⟨⟨z, rfl⟩, hb⟩
      have HB2 := Lib.hid (HB1.out.trans (hb.mono HB1.out.size))
      have HN2 := Lib.hid (HN.out.below hb)
      clear hb
      have c19 : w2.cell? ⟨wr.heap.size, 19, none⟩ = some (.slice e.d.A1 e.d.n1 e.d.c1) := HN2.out.at_ 19
      have c20 : w2.cell? ⟨wr.heap.size, 20, none⟩ = some (.slice e.d.A2 e.d.n2 e.d.c2) := HN2.out.at_ 20
      cases z with
      | false =>
        go_wp2
        go_ret
        exact ⟨⟨false, rfl, (fun h => by cases h)⟩, HB2.out⟩
      | true =>
        by_cases q1 : (10 : Int) < e.d.n1
        · go_wp2
          go_ret
          exact ⟨⟨false, rfl, (fun h => by cases h)⟩, HB2.out⟩
        by_cases q2 : (20 : Int) < e.d.n2
        · go_wp2
          go_ret
          exact ⟨⟨false, rfl, (fun h => by cases h)⟩, HB2.out⟩
        go_wp2
        go_roundw
        case rel => exact ⟨j + 1, HJ.out, by go_num, HB2⟩
        case measure => have := HJ.out; simp [intOf]; omega
    · obtain rfl : j = n := by omega
      go_wp2
      go_ret
      exact ⟨⟨true, rfl, (fun _ => by omega)⟩, HI.out⟩
end Go.Proofs.YtdbmnnmcelaehaaDoor.Stab
