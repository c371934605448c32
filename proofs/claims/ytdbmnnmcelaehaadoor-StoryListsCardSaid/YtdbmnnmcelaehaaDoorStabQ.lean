/- Events in order, each that is alike once: Clone, and story's Order. -/
import Derived.Test.YtdbmnnmcelaehaaDoorStabP
import Derived.Test.YtdbmnnmcelaehaaDoorSrF
import Derived.Lib.SliceRun
namespace Go.Proofs.YtdbmnnmcelaehaaDoor.Stab
open Go.RowKit Go.Proofs.YtdbmnnmcelaehaaDoor.Mem
open Go.Proofs.YtdbmnnmcelaehaaDoor.Sr (EOwn eL info_parts_ev event_one zeroE)
set_option linter.unusedVariables false set_option linter.unusedSimpArgs false

theorem chg_low {w W W' : World} {B g : Nat} (h : Below B w W) (hc : Chg (· = g) W W') (hg : B ≤ g) (hB : B ≤ w.heap.size) : Below B w W' := h.trans (hc.below (B := B) (Nat.le_trans hB h.size) (fun k hk e => by omega))
theorem flat_at {α : Type} {f : α → List Value} {k : Nat} (hk : ∀ x, (f x).length = k) : ∀ (l : List α) (i j : Nat) (x : α), l[i]? = some x → j < k → (l.flatMap f)[i * k + j]? = (f x)[j]?
  | [], i, j, x, h, _ => by simp at h
  | y :: r, 0, j, x, h, hj => by
    simp at h
    subst h
    rw [List.flatMap_cons, Nat.zero_mul, Nat.zero_add, List.getElem?_append_left (by rw [hk]; exact hj)]
  | y :: r, i + 1, j, x, h, hj => by
    have h2 : r[i]? = some x := by simpa using h
    rw [List.flatMap_cons, List.getElem?_append_right (by rw [hk, Nat.succ_mul]; omega), hk]
    have e : (i + 1) * k + j - k = i * k + j := by rw [Nat.succ_mul]; omega
    rw [e]
    exact flat_at hk r i j x h2 hj
theorem flat_len {α : Type} {f : α → List Value} {k : Nat} (hk : ∀ x, (f x).length = k) (l : List α) : (l.flatMap f).length = l.length * k := by
  induction l with
  | nil => simp
  | cons x r ih => simp [ih, hk, Nat.succ_mul]; omega
theorem eL_len (e : Fc.EventC) : (eL e).length = 21 := rfl
/-- the cells of a row that is only read -/
theorem srow_news {w : World} {b off n : Nat} {es : List Fc.EventC} (h : Fc.SRow w 21 Fc.eventC (some ⟨b, off, none⟩) n es) : ∀ j u, (es.flatMap eL)[j]? = some u → w.cell? ((⟨b, off, none⟩ : Addr).add j) = some u := by
  intro j u hu
  have hj : j < es.length * 21 := by rw [← flat_len eL_len]; exact (List.getElem?_eq_some_iff.1 hu).1
  have hi : j / 21 < es.length := by omega
  obtain ⟨b', off', e, hl, hx⟩ := h.cells (by rw [← h.len]; omega)
  cases e
  have ej : j = j / 21 * 21 + j % 21 := by omega
  rw [Fc.add_plain]
  have hf := flat_at eL_len es (j / 21) (j % 21) es[j / 21] (List.getElem?_eq_getElem hi) (by omega)
  rw [← ej, hu] at hf
  have := hx (j / 21) hi (j % 21) u (by simpa [eL] using hf.symm)
  rwa [Nat.add_assoc, ← ej] at this
theorem flat_one (es : List Fc.EventC) : ∀ v ∈ es.flatMap eL, v.oneCell' = true := by
  intro v hv
  obtain ⟨x, _, hx⟩ := List.mem_flatMap.1 hv
  exact (Array.all_eq_true_iff_forall_mem.1 (event_one x)) v (by simpa [eL] using hx)
/-- a row of one's own as a row that one may exchange -/
theorem own_rw {w : World} {B g cap n : Nat} {es : List Fc.EventC} (h : EOwn w B (.slice (some ⟨g, 0, none⟩) n cap) es) : es.length = n ∧ n ≤ cap ∧ B ≤ g ∧ ∃ z, RwE w g n (fun i => (es[i]?).getD zeroE) z := by
  unfold EOwn at h
  rcases h.2 with ⟨e, _⟩ | ⟨g', cap', cur, e, hB, hw, hn, hm, hs, ht⟩
  · cases e
  · cases e
    refine ⟨rfl, hn, hB, cur.toList.drop (es.length * 21), cur, hw, by simp; omega, fun i j hi hj => ?_, fun j hj => ?_⟩
    · show cur[i * 21 + j]? = (Fc.eventC ((es[i]?).getD zeroE))[j]?
      have hf := flat_at eL_len es i j es[i] (List.getElem?_eq_getElem hi) hj
      rw [← ht, List.getElem?_take] at hf
      have m := mul_in (k := 21) hi
      rw [if_pos (by omega)] at hf
      rw [show (es[i]?).getD zeroE = es[i] by rw [List.getElem?_eq_getElem hi]; rfl]
      simpa [eL] using hf
    · rw [List.getElem?_drop]
      simp
/-- what a copy comes to -/
def EOut (es : List Fc.EventC) (w : World) (e : Ending) (w' : World) : Prop := ∃ v, e = .returned v ∧ EOwn w' w.heap.size v es ∧ Below w.heap.size w w'
theorem eown_nil (w : World) (B : Nat) : EOwn w B (.slice none 0 0) [] := ⟨rfl, .inl ⟨rfl, rfl⟩⟩
theorem eown_sl {w : World} {B : Nat} {v : Value} {es : List Fc.EventC} (h : EOwn w B v es) : ∃ A c, v = .slice A es.length c ∧ (A = none → v = .slice none 0 0 ∧ es = []) ∧ ∀ a, A = some a → ∃ g, a = ⟨g, 0, none⟩ := by
  unfold EOwn at h
  rcases h.2 with ⟨rfl, e⟩ | ⟨g', cap', cur, rfl, hB, hw, hn, hm, hs, ht⟩
  · exact ⟨none, 0, by rw [e], fun _ => ⟨rfl, List.length_eq_zero_iff.1 e⟩, fun a h => by cases h⟩
  · exact ⟨_, cap', rfl, (fun h => by cases h), fun a h => ⟨g', (Option.some.inj h).symm⟩⟩
set_option maxRecDepth 100000 in
set_option maxHeartbeats 2000000 in
theorem clone_any (A : Option Addr) (n c : Nat) (es : List Fc.EventC) (hn : n ≤ 4000000) (w : World) (h : Fc.SRow w 21 Fc.eventC A n es) : Calls Tryd.prog 11 #[.slice A n c] w (EOut es w) := by
  have q22 : ∀ (w : World) (a : Option Addr) (n c n' c' : Nat), (binOp .eql 38 (.slice a n c) (.slice none n' c')).run Tryd.prog w = .ok (.bool a.isNone) w := fun w a n c n' c' => Lib.run_eql_slice_nil w _ _ a n c n' c' Tryd.underlying38
  have hlen := h.len
  cases A with
  | none =>
    have hn0 : n = 0 := by
      by_cases c : 0 < n
      · obtain ⟨b, off, e, _⟩ := h.cells c
        cases e
      · omega
    subst hn0
    have e1 : es = [] := List.length_eq_zero_iff.1 hlen
    subst e1
    clear h
    go_enter Tryd.func11, Tryd.ntmps11
    go_wp2
    go_ret
    exact ⟨_, rfl, eown_nil _ _, Below.refl _ _⟩
  | some a =>
    obtain ⟨i0, hi, hz0, hz1, hz2⟩ := info_parts_ev
    have HX := Lib.hid (And.intro hi (And.intro hz0 (And.intro hz1 hz2)))
    have HB := Lib.hid ((Below.refl w.heap.size w).alloc (Nat.le_refl _) (.cells #[] 31))
    have HO := Lib.hid (show (w.alloc (.cells #[] 31)).ownsRow w.heap.size 31 21 (.slice (some ⟨w.heap.size, 0, none⟩) 0 0) 0 [] from ⟨rfl, .inr ⟨w.heap.size, 0, #[], rfl, Nat.le_refl _, Has.fresh w 31 #[], Nat.le_refl _, by unfold maxLen; omega, by simp, by simp⟩⟩)
    have HN : Hid (∀ j u, (es.flatMap eL)[j]? = some u → (w.alloc (.cells #[] 31)).cell? (a.add j) = some u) := Lib.hid (by
      by_cases c0 : 0 < n
      · obtain ⟨b, off, e, hl, hx⟩ := h.cells c0
        cases e
        exact srow_news (h.below HB.out)
      · have e1 : es = [] := List.length_eq_zero_iff.1 (by omega)
        subst e1
        intro j u hu
        simp at hu)
    have HL := Lib.hid (show (es.flatMap eL).length = n * 21 by rw [flat_len eL_len, hlen])
    have HE := Lib.hid hlen
    clear h hi hz0 hz1 hz2 hlen
    go_enter Tryd.func11, Tryd.ntmps11
    go_wp2_with (at_builtin; refine wpList_append_own _ rfl (.tmp 5) (.tmp 6) 38 rfl w.heap.size 31 i0 (.agg (Fc.eventC zeroE)) 21 200 Tryd.underlying38 HX.out.1 HX.out.2.1 HX.out.2.2.1 HX.out.2.2.2 rfl (by decide) _ 0 [] rfl HO.out a n c (es.flatMap eL) rfl HL.out HN.out (flat_one es) (by unfold maxLen; omega) (by omega) (by simp) ?_)
    intro v1 w2 o2 g2 _
    have o3 : EOwn w2 w.heap.size v1 es := by unfold EOwn; rw [HE.out]; simpa using o2
    have hb2 := HB.out.grown g2 (by simp) (fun k hk => Nat.le_of_eq (by simpa [Value.ownBlock] using hk))
    obtain ⟨A1, c1, rfl, _⟩ := eown_sl o3
    have HR := Lib.hid (And.intro o3 hb2)
    clear o2 g2 o3 hb2
    go_wp2
    go_ret
    exact ⟨_, rfl, HR.out.1, HR.out.2⟩
set_option maxRecDepth 100000 in
theorem insertion0 (w : World) : Calls Tryd.prog 63 #[.slice none 0 0, .int .i64 0, .int .i64 0, (.func (.func 34) #[] #[])] w fun e w' => e = .returned (.tuple #[]) ∧ w' = w := by
  go_enter Tryd.func63, Tryd.ntmps63
  go_wp2
  go_loopw [8] (fun s wr => s = .int .i64 1 ∧ wr = w) (fun _ _ => 0)
  case atStart => exact ⟨rfl, rfl⟩
  case round =>
    obtain ⟨rfl, rfl⟩ := hrel
    go_wp2
    go_end0
    exact ⟨rfl, rfl⟩
set_option maxRecDepth 100000 in
theorem stable0 (w : World) : Calls Tryd.prog 51 #[.slice none 0 0, .int .i64 0, (.func (.func 34) #[] #[])] w fun e w' => e = .returned (.tuple #[]) ∧ w' = w := by
  have HI := Lib.hid (insertion0 w)
  go_enter Tryd.func51, Tryd.ntmps51
  go_wp2
  go_loopw [7, 8] (fun sa sb wr => sa = .int .i64 0 ∧ sb = .int .i64 20 ∧ wr = w) (fun _ _ _ => 0)
  case atStart => exact ⟨rfl, rfl, rfl⟩
  case round =>
    obtain ⟨rfl, rfl, rfl⟩ := hrel
    go_wp2_with fail
    go_at_call 63
    refine HI.out.mono ?_
    rintro e w2 ⟨rfl, rfl⟩
    go_wp2_with fail
    go_loopw [6, 7, 8] (fun sB sa sb wr => sB = .int .i64 20 ∧ wr = w2) (fun _ _ _ _ => 0)
    case atStart => exact ⟨rfl, rfl⟩
    case round =>
      obtain ⟨rfl, rfl⟩ := hrel
      go_wp2
      go_end0
      exact ⟨rfl, rfl⟩
set_option maxRecDepth 100000 in
theorem sorted0 (w : World) : Calls Tryd.prog 33 #[.slice none 0 0, (.func (.func 34) #[] #[])] w fun e w' => e = .returned (.tuple #[]) ∧ w' = w := by
  have HI := Lib.hid (stable0 w)
  go_enter Tryd.func33, Tryd.ntmps33
  go_wp2_with fail
  go_at_call 51
  refine HI.out.mono ?_
  rintro e w2 ⟨rfl, rfl⟩
  go_wp2
  go_end0
  exact ⟨rfl, rfl⟩
set_option maxRecDepth 100000 in
theorem compact0 (w : World) : Calls Tryd.prog 35 #[.slice none 0 0, (.func (.func 36) #[] #[])] w fun e w' => e = .returned (.slice none 0 0) ∧ w' = w := by
  go_enter Tryd.func35, Tryd.ntmps35
  go_wp2
  go_ret
  exact ⟨rfl, rfl⟩
/-- what Order comes to -/
def OrdIs (es : List Fc.EventC) (w : World) (e : Ending) (w' : World) : Prop := ∃ A m c' os, e = .returned (.slice A m c') ∧ OrdL es os ∧ os.length ≤ es.length ∧ Fc.SRow w' 21 Fc.eventC A m os ∧ Below w.heap.size w w'
set_option maxRecDepth 100000 in
set_option maxHeartbeats 2000000 in
theorem order_all (A : Option Addr) (n c : Nat) (es : List Fc.EventC) (hn : n ≤ 4000000) (w : World) (h : Fc.SRow w 21 Fc.eventC A n es) : Calls Tryd.prog 13 #[.slice A n c] w (OrdIs es w) := by
  have HC := Lib.hid (clone_any A n c es hn w h)
  have hlen := h.len
  clear h
  subst hlen
  go_enter Tryd.func13, Tryd.ntmps13
  go_wp2_with fail
  go_at_call 11
  refine HC.out.mono ?_
  rintro e w1 ⟨v, rfl, ho, hb⟩
  clear HC
  obtain ⟨A1, c1, rfl, hnil, hsome⟩ := eown_sl ho
  cases A1 with
  | none =>
    obtain ⟨e0, rfl⟩ := hnil rfl
    have HB := Lib.hid hb
    have HS := Lib.hid (sorted0 w1)
    have HK := Lib.hid (compact0 w1)
    cases e0
    clear hb ho hnil hsome
    go_wp2_with fail
    go_at_call 33
    refine HS.out.mono ?_
    rintro e w2 ⟨rfl, rfl⟩
    go_wp2_with fail
    go_at_call 35
    refine HK.out.mono ?_
    rintro e w2 ⟨rfl, rfl⟩
    go_wp2
    go_ret
    exact ⟨none, 0, 0, [], rfl, ⟨List.Pairwise.nil, fun e => ⟨(fun h => by cases h), fun ⟨i, h, _⟩ => by simp at h⟩⟩, Nat.le_refl _, Fc.SRow.nil _ _ _, HB.out⟩
  | some a =>
    obtain ⟨g, rfl⟩ := hsome a rfl
    obtain ⟨_, hcap, hg, z, hr⟩ := own_rw ho
    have HB := Lib.hid hb
    have HS := Lib.hid (sorted_any g c1 es.length _ z (by omega) w1 hr)
    clear hb ho hnil hsome hr
    go_wp2_with fail
    go_at_call 33
    refine HS.out.mono ?_
    rintro e w2 ⟨rfl, hc, p, h1, h2, h3⟩
    have HB2 := Lib.hid (chg_low HB.out hc hg (Nat.le_refl _))
    have HK := Lib.hid (compact_any g c1 es.length (fun k => (es[p k]?).getD zeroE) z (by omega) hcap w2 h2)
    have HO := Lib.hid (ordL_of_sort (x := fun i => (es[i]?).getD zeroE) (es := es) rfl (fun i hi => by show _ = some ((es[i]?).getD zeroE); rw [List.getElem?_eq_getElem hi]; rfl) h1 h3)
    clear hc h1 h2 h3 HS HB
    go_wp2_with fail
    go_at_call 35
    refine HK.out.mono ?_
    rintro e w3 ⟨c', rfl, hcc, hch, hs⟩
    have HB3 := Lib.hid (chg_low HB2.out hch hg (Nat.le_refl _))
    have HSR := Lib.hid hs
    clear hch hs HK HB2
    go_wp2
    go_ret
    exact ⟨_, _, c', _, rfl, HO.out, dd_len _ _, HSR.out, HB3.out⟩
end Go.Proofs.YtdbmnnmcelaehaaDoor.Stab
