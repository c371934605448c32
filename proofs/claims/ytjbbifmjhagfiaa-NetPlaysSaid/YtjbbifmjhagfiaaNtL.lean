/- Messages on their way: Take, Lose. -/
import Derived.Test.YtjbbifmjhagfiaaNtK
namespace Go.Proofs.Ytjbbifmjhagfiaa.Nt
open Go.RowKit Go.Proofs.Ytjbbifmjhagfiaa.Mem Go.Proofs.Ytjbbifmjhagfiaa.Vc
set_option linter.unusedVariables false

theorem peek_ok {V : NetV} {k : Int} (h : (peekM V k).2 = 0) : ∃ j : Nat, k = j ∧ V.way[j]? = some (peekM V k).1 := by
  by_cases h0 : k < 0
  · rw [peek_low h0] at h; simp at h
  · by_cases h1 : (V.way.length : Int) ≤ k
    · rw [peek_high h1] at h; simp at h
    · have hj : k.toNat < V.way.length := by omega
      refine ⟨k.toNat, by omega, ?_⟩
      rw [peek_in (j := k.toNat) (by omega) (List.getElem?_eq_getElem hj)]
      exact List.getElem?_eq_getElem hj
noncomputable def takeV (V : NetV) (k : Int) : NetV := if (peekM V k).2 = 0 then { V with way := V.way.eraseIdx k.toNat } else V
theorem take_no {V : NetV} {k : Int} (h : ¬ (peekM V k).2 = 0) : takeV V k = V := if_neg h
theorem take_yes {V : NetV} {k : Int} (h : (peekM V k).2 = 0) : takeV V k = { V with way := V.way.eraseIdx k.toNat } := if_pos h
def TakeIs (w : World) (B g : Nat) (v : Value) (V : NetV) (k : Int) (e : Ending) (w' : World) : Prop := e = .returned (.tuple #[.agg (msgC (peekM V k).1), .int .i64 (peekM V k).2]) ∧ ∃ v', NetIs w' B g v' (takeV V k) ∧ NStep w w' g v v'
set_option maxRecDepth 100000 in
set_option maxHeartbeats 4000000 in
theorem take_any (B g : Nat) (v : Value) (V : NetV) (k : Int) (w : World) (hB : B ≤ w.heap.size) (h : NetIs w B g v V) : Calls Try.prog 44 #[.pointer (some ⟨g, 0, none⟩), .int .i64 k] w (TakeIs w B g v V k) := by
  have hal := alloc_msg
  have HB := Lib.hid ((Below.refl w.heap.size w).alloc (Nat.le_refl _) (.cells (msgC msg0) 36))
  have HR := Lib.hid (Has.fresh w 36 (msgC msg0))
  have HI := Lib.hid (h.below HB.out)
  have HC := Lib.hid (peek_any B g v V k _ HI.out)
  have HBB := Lib.hid hB
  have HGB := Lib.hid h.head.bound
  have HLT := Lib.hid (fun k (hk : v.ownBlock = some k) => (World.ownsRow.lt h.row k hk).2)
  clear h hB
  go_enter Try.func44, Try.ntmps44
  go_wp2_with ((with_reducible refine Who.wpList_alloc 36 4 rfl rfl rfl (msgC msg0) hal ?_); (try simp only [Act.put, List.setIfInBounds_toArray, List.set_cons_zero, List.set_cons_succ]); (try simp only [World.size_alloc]))
  with_reducible refine HC.out.mono ?_
  rintro e w1 ⟨rfl, hb⟩
  have HI1 := Lib.hid (HI.out.below hb)
  have HR1 := Lib.hid (HR.out.below hb)
  have HB1 := Lib.hid (HB.out.trans (hb.mono HB.out.size))
  obtain ⟨⟨m, r⟩, hr⟩ : ∃ x, x = peekM V k := ⟨_, rfl⟩
  rw [← hr]
  have HP := Lib.hid hr
  clear hb hr
  dsimp only
  -- the message in a block of its own
  have HM2 := Lib.hid (Has.fresh w1 36 (msgC m))
  have HI2 := Lib.hid (HI1.out.below ((Below.refl w1.heap.size w1).alloc (Nat.le_refl _) (.cells (msgC m) 36)))
  have HR2 := Lib.hid (HR1.out.past (.cells (msgC m) 36))
  have HB2 := Lib.hid (HB1.out.alloc (HB1.out.size) (.cells (msgC m) 36))
  have hs0 := HR1.out.bound
  by_cases q : r = 0
  · subst q
    have HT := Lib.hid (take_yes (V := V) (k := k) (by rw [← HP.out]))
    obtain ⟨j, hj1, hj2⟩ := peek_ok (V := V) (k := k) (by rw [← HP.out])
    subst hj1
    have hjl : j < V.way.length := (List.getElem?_eq_some_iff.1 hj2).1
    have HJ := Lib.hid hjl
    obtain ⟨A, c, hv, _⟩ := HI2.out.row.sl
    have HV := Lib.hid hv
    have c1 : (w1.alloc (.cells (msgC m) 36)).cell? ⟨g, 1, none⟩ = some v := HI2.out.head.at_ 1
    rw [hv] at c1
    have hgb := HI1.out.head.bound
    have HD := Lib.hid (del_any B v V.way j _ HI2.out.row hjl HI2.out.few)
    rw [hv] at HD
    have j1 : (j : Int) + 1 ≤ 1000000 := by have := HI2.out.few; omega
    clear hv hj2 hjl
    go_wp2_with ((with_reducible refine Who.wpList_newC 36 6 (.tmp 12) rfl rfl rfl (msgC msg0) (msgC m) ?_); refine And.intro ⟨rfl, rfl, rfl, hal, by rfl, by rfl, info_size _, rfl, msgC_one _⟩ ?_; (try simp only [Act.put, List.setIfInBounds_toArray, List.set_cons_zero, List.set_cons_succ]))
    with_reducible refine HD.out.mono ?_
    rintro e w3 ⟨v3, rfl, ho, hc, hob⟩
    rw [← HV.out] at hc hob
    have hG3 : Has w3 g 88 (netC v V.sent V.lost) := HI2.out.head.over hc (fun e => HI2.out.row.apart HI2.out.head (by decide) e)
    have hR3 : Has w3 w.heap.size 36 (msgC msg0) := HR2.out.over hc (fun e => by have := HLT.out _ e; omega)
    have hM3 : Has w3 w1.heap.size 36 (msgC m) := HM2.out.over hc (fun e => by have := HLT.out _ e; omega)
    obtain ⟨A3, c3, rfl, _⟩ := ho.sl
    have d1 : w3.cell? ⟨g, 1, none⟩ = some v := hG3.at_ 1
    rw [HV.out] at d1
    have f1 := hG3.free 1
    generalize hv3 : (Value.slice A3 (V.way.eraseIdx j).length c3) = v3 at ho hob
    have HM4 := Lib.hid (hM3.keep (p := ⟨g, 1, none⟩) (fun e => by have := HGB.out; have e2 : w1.heap.size = g := e; omega) v3)
    have HR4 := Lib.hid (hR3.keep (p := ⟨g, 1, none⟩) (fun e => by have := HGB.out; have e2 : w.heap.size = g := e; omega) v3)
    have cg : Chg (· = g) w3 (w3.setCell ⟨g, 1, none⟩ v3) := (Chg.refl (· = g) w3).setCell (p := ⟨g, 1, none⟩) (.inl rfl) v3
    have hap3 := ho.apart hG3 (by decide)
    have hN4 : NetIs (w3.setCell ⟨g, 1, none⟩ v3) B g v3 { V with way := V.way.eraseIdx j } := ⟨hG3.put 1 _, HI2.out.lo, ho.chg cg (fun k hk e => hap3 (by rw [hk, e])), by have := HI2.out.few; show (V.way.eraseIdx j).length ≤ 160; rw [List.length_eraseIdx]; split <;> omega⟩
    have cz := Who.chg_setCells w.heap.size (msgC m).toList 0 (w3.setCell ⟨g, 1, none⟩ v3)
    have HN5 := Lib.hid (hN4.chg cz (fun e => by have := HGB.out; omega) (fun k hk e => by rw [hob] at hk; have := HLT.out _ hk; omega))
    have HST := Lib.hid (show NStep w ((w3.setCell ⟨g, 1, none⟩ v3).setCells w.heap.size 0 (msgC m).toList) g v v3 from
      ⟨(((Chg.of_below HB2.out _).trans (hc.mono (fun k e => .inr e))).trans (cg.mono (fun k e => .inl e))).step cz (fun i hi e => by omega), fun k hk => .inl (by rw [← hob]; exact hk)⟩)
    clear ho hc hob hG3 hR3 hM3 cg hap3 hN4 cz c1
    subst hv3
    go_wp2_with (first | ((with_reducible refine Who.wpList_loadC 36 (.tmp 6) rfl w1.heap.size 0 (msgC m) ?_); refine And.intro ⟨by rfl, by rfl, ⟨_, Try.underlying36, rfl⟩, info_size _⟩ (And.intro (Who.has_range HM4.out) ?_); (try simp only [Act.put, List.setIfInBounds_toArray, List.set_cons_zero, List.set_cons_succ])) | ((with_reducible refine Who.wpList_storeC 36 (.tmp 4) (.tmp 27) rfl w.heap.size 0 (msgC m) ?_); refine And.intro ⟨rfl, by rfl, by rfl, info_size _, msgC_one _⟩ (And.intro (Who.has_there HR4.out rfl) ?_); (try simp only [Act.put, List.setIfInBounds_toArray, List.set_cons_zero, List.set_cons_succ])))
    refine bodyPost_ret (v := .tuple #[.agg (msgC m), .int .i64 0]) (Who.results_cell_tmp Try.results44 _ _ w.heap.size 0 (msgC m) _ (by rfl) (Who.has_range (Who.has_over HR4.out rfl)) Try.underlying36 rfl (info_size _)) rfl ⟨by rw [← HP.out], _, by rw [HT.out]; exact HN5.out, HST.out⟩
  · have HT := Lib.hid (take_no (V := V) (k := k) (by rw [← HP.out]; exact q))
    have e1 : (r == 0) = false := beq_eq_false_iff_ne.2 q
    have cz := Who.chg_setCells w.heap.size (msgC m).toList 0 (w1.alloc (.cells (msgC m) 36))
    have HN5 := Lib.hid (HI2.out.chg cz (fun e => by have := HGB.out; omega) (fun k hk e => by have := HLT.out _ hk; omega))
    have HST := Lib.hid (show NStep w ((w1.alloc (.cells (msgC m) 36)).setCells w.heap.size 0 (msgC m).toList) g v v from ⟨(Chg.of_below HB2.out _).step cz (fun i hi e => by omega), fun k hk => .inl hk⟩)
    clear q cz
    go_wp2_with (first | ((with_reducible refine Who.wpList_newC 36 6 (.tmp 12) rfl rfl rfl (msgC msg0) (msgC m) ?_); refine And.intro ⟨rfl, rfl, rfl, hal, by rfl, by rfl, info_size _, rfl, msgC_one _⟩ ?_; (try simp only [Act.put, List.setIfInBounds_toArray, List.set_cons_zero, List.set_cons_succ])) | ((with_reducible refine Who.wpList_loadC 36 (.tmp 6) rfl w1.heap.size 0 (msgC m) ?_); refine And.intro ⟨by rfl, by rfl, ⟨_, Try.underlying36, rfl⟩, info_size _⟩ (And.intro (Who.has_range HM2.out) ?_); (try simp only [Act.put, List.setIfInBounds_toArray, List.set_cons_zero, List.set_cons_succ])) | ((with_reducible refine Who.wpList_storeC 36 (.tmp 4) (.tmp 27) rfl w.heap.size 0 (msgC m) ?_); refine And.intro ⟨rfl, by rfl, by rfl, info_size _, msgC_one _⟩ (And.intro (Who.has_there HR2.out rfl) ?_); (try simp only [Act.put, List.setIfInBounds_toArray, List.set_cons_zero, List.set_cons_succ])))
    refine bodyPost_ret (v := .tuple #[.agg (msgC m), .int .i64 r]) (Who.results_cell_tmp Try.results44 _ _ w.heap.size 0 (msgC m) _ (by rfl) (Who.has_range (Who.has_over HR2.out rfl)) Try.underlying36 rfl (info_size _)) rfl ⟨by rw [← HP.out], _, by rw [HT.out]; exact HN5.out, HST.out⟩
noncomputable def loseV (V : NetV) (k : Int) : NetV × Int := if (peekM V k).2 = 0 then ({ takeV V k with lost := V.lost + 1 }, 0) else (V, (peekM V k).2)
theorem lose_no {V : NetV} {k : Int} (h : ¬ (peekM V k).2 = 0) : loseV V k = (V, (peekM V k).2) := if_neg h
theorem lose_yes {V : NetV} {k : Int} (h : (peekM V k).2 = 0) : loseV V k = ({ takeV V k with lost := V.lost + 1 }, 0) := if_pos h
theorem take_lost (V : NetV) (k : Int) : (takeV V k).lost = V.lost := by unfold takeV; split <;> rfl
set_option maxRecDepth 100000 in
set_option maxHeartbeats 4000000 in
theorem lose_any (B g : Nat) (v : Value) (V : NetV) (k : Int) (w : World) (hB : B ≤ w.heap.size) (hf : V.Few) (h : NetIs w B g v V) : Calls Try.prog 46 #[.pointer (some ⟨g, 0, none⟩), .int .i64 k] w (NOut w B g v (loseV V k)) := by
  have hal := alloc_msg
  obtain ⟨s0, s1, l0, l1⟩ := hf
  have HC := Lib.hid (take_any B g v V k w hB h)
  have HGB := Lib.hid h.head.bound
  clear h hB
  go_enter Try.func46, Try.ntmps46
  go_wp2_with fail
  with_reducible refine HC.out.mono ?_
  rintro e w1 ⟨rfl, v1, hn, hst⟩
  obtain ⟨⟨m, r⟩, hr⟩ : ∃ x, x = peekM V k := ⟨_, rfl⟩
  rw [← hr]
  have HP := Lib.hid hr
  clear hr
  dsimp only
  have hba := (Below.refl w1.heap.size w1).alloc (Nat.le_refl _) (.cells (msgC m) 36)
  have HN := Lib.hid (hn.below hba)
  have HST := Lib.hid (show NStep w (w1.alloc (.cells (msgC m) 36)) g v v1 from ⟨hst.1.trans (Chg.of_below hba _), hst.2⟩)
  clear hn hst hba
  by_cases q : r = 0
  · subst q
    have HD := Lib.hid (lose_yes (V := V) (k := k) (by rw [← HP.out]))
    have d3 : (w1.alloc (.cells (msgC m) 36)).cell? ⟨g, 3, none⟩ = some (.int .i64 V.lost) := by have h := HN.out.head.at_ 3; rw [take_lost] at h; exact h
    have f3 := HN.out.head.free 3
    have HN2 := Lib.hid (net_lost HN.out (V.lost + 1))
    have HS2 := Lib.hid (HST.out.post ((Chg.refl (· = g) _).setCell (p := ⟨g, 3, none⟩) (.inl rfl) (.int .i64 (V.lost + 1))))
    generalize hW : w1.alloc (.cells (msgC m) 36) = w2 at *
    go_wp2_with (((with_reducible refine Who.wpList_newC 36 5 (.tmp 11) rfl rfl rfl (msgC msg0) (msgC m) ?_); refine And.intro ⟨rfl, rfl, rfl, hal, by rfl, by rfl, info_size _, rfl, msgC_one _⟩ ?_; rw [hW]; (try simp only [Act.put, List.setIfInBounds_toArray, List.set_cons_zero, List.set_cons_succ])))
    go_ret
    exact ⟨by rw [HD.out]; rfl, v1, by rw [HD.out]; exact HN2.out, HS2.out⟩
  · have HD := Lib.hid (lose_no (V := V) (k := k) (by rw [← HP.out]; exact q))
    have HT := Lib.hid (take_no (V := V) (k := k) (by rw [← HP.out]; exact q))
    have e1 : (r == 0) = false := beq_eq_false_iff_ne.2 q
    clear q
    go_wp2_with (((with_reducible refine Who.wpList_newC 36 5 (.tmp 11) rfl rfl rfl (msgC msg0) (msgC m) ?_); refine And.intro ⟨rfl, rfl, rfl, hal, by rfl, by rfl, info_size _, rfl, msgC_one _⟩ ?_; (try simp only [Act.put, List.setIfInBounds_toArray, List.set_cons_zero, List.set_cons_succ])))
    go_ret
    exact ⟨by rw [HD.out, ← HP.out]; rfl, v1, by rw [HD.out]; have h := HN.out; rw [HT.out] at h; exact h, HST.out⟩
end Go.Proofs.Ytjbbifmjhagfiaa.Nt
