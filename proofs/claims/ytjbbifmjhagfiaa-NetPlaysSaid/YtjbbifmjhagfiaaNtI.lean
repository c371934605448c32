/- Messages on their way: put, Send, Double. -/
import Derived.Test.YtjbbifmjhagfiaaNtH
import Derived.Deep.RegionLaw
namespace Go.Proofs.Ytjbbifmjhagfiaa.Nt
open Go.RowKit Go.Proofs.Ytjbbifmjhagfiaa.Mem Go.Proofs.Ytjbbifmjhagfiaa.Vc
set_option linter.unusedVariables false

theorem fill_msg (m : MsgP) : Instr.fill (fun i => some (i * 19, 19)) ((Array.range (1 * 19)).map ((Value.agg (msgC msg0)).cells[· % (Value.agg (msgC msg0)).cells.size]!)) [(0, Value.agg (msgC m))] = some (msgC m) := by kernel_rfl
theorem step_build {ops : Array Oper} {o : Oper} {a : Act} {w : World} {K : Act → World → Prop} {Q : Exit → Act → World → Prop} {E : Prop} (x : Operand) (ho : o.op = .buildSlice 28 1 #[(0, x)]) (m : MsgP)
    (h : (Region.wanted o (yielded ops a.tmps) = true ∧ a.eval x = .agg (msgC m)) ∧ K (a.put o.dst (.slice (some ⟨w.heap.size, 0, none⟩) 1 1)) (w.alloc (.cells (msgC m) 36))) :
    if Region.wanted o (yielded ops a.tmps) = true then Oper.wp Try.prog o a w K Q else E := by
  obtain ⟨⟨h1, h2⟩, h3⟩ := h
  rw [if_pos h1]
  have hq := info_msg
  cases hi : Try.prog.info? 36 with
  | none => rw [hi] at hq; simp at hq
  | some i =>
    rw [hi] at hq
    simp at hq
    obtain ⟨q1, q2, q3⟩ := hq
    refine wp_buildSlice 28 36 1 _ ho (msgC m) i _ Try.underlying28 hi q1 (by omega) (by omega) ?_ h3
    have e : (#[(0, x)] : Array (Nat × Operand)).map (fun (i, x) => (i, a.eval x)) = #[(0, .agg (msgC m))] := by simp [h2]
    rw [e, q2]
    exact fill_msg m
theorem step_loadA {P : Program} {ops : Array Oper} {o : Oper} {a : Act} {w : World} {K : Act → World → Prop} {Q : Exit → Act → World → Prop} {E : Prop} (ty : TypeId) (x : Operand) (ho : o.op = .load ty x) (b q : Nat) (C : Array Value)
    (h : (Region.wanted o (yielded ops a.tmps) = true ∧ a.eval x = .pointer (some ⟨b, q, none⟩) ∧ (∃ d, P.underlying ty = some d ∧ d.isRow = true) ∧ (P.info? ty).map (·.size) = some C.size) ∧ w.rangeAt b q C.toList ∧ K (a.put o.dst (.agg C)) w) :
    if Region.wanted o (yielded ops a.tmps) = true then Oper.wp P o a w K Q else E := by
  obtain ⟨⟨h1, h2, ⟨d, h3, h4⟩, h5⟩, h6, h7⟩ := h
  rw [if_pos h1]
  exact wp_load_mid ty x ho b q h2 C.toList d h6 h3 h4 (by simpa using h5) (by simpa using h7)
/-- What a call that changes a net leaves: its row is as it was, or new. -/
def NStep (w w' : World) (g : Nat) (v v' : Value) : Prop := Chg (fun k => k = g ∨ v.ownBlock = some k) w w' ∧ ∀ k, v'.ownBlock = some k → v.ownBlock = some k ∨ w.heap.size ≤ k
theorem NStep.same {w w' : World} {g : Nat} {v : Value} (h : Below w.heap.size w w') : NStep w w' g v v := ⟨Chg.of_below h _, fun k hk => .inl hk⟩
def putV (V : NetV) (m : MsgP) : NetV × Int := if 160 ≤ V.way.length then (V, 28) else ({ V with way := V.way ++ [m] }, 0)
theorem put_full {V : NetV} {m : MsgP} (h : 160 ≤ V.way.length) : putV V m = (V, 28) := if_pos h
theorem put_room {V : NetV} {m : MsgP} (h : ¬ 160 ≤ V.way.length) : putV V m = ({ V with way := V.way ++ [m] }, 0) := if_neg h
def NOut (w : World) (B g : Nat) (v : Value) (r : NetV × Int) (e : Ending) (w' : World) : Prop := e = .returned (.int .i64 r.2) ∧ ∃ v', NetIs w' B g v' r.1 ∧ NStep w w' g v v'
theorem Has.grown {w w' : World} {g : Nat} {t : TypeId} {cs : Array Value} {row : Option Nat} (h : Has w g t cs) (hg : w.grownBy w' row) (hne : row ≠ some g) : Has w' g t cs := by
  unfold Has
  rw [hg.block g h.bound (fun e => hne e.symm)]
  exact h
theorem Chg.grown {w w' : World} {row : Option Nat} (hg : w.grownBy w' row) : Chg (fun k => row = some k) w w' := ⟨hg.os, hg.tape, hg.output, hg.size, fun k hk hn => hg.block k hk (fun e => hn e.symm)⟩
theorem put_post {w w1 w' : World} {B g g' cap : Nat} {v : Value} {V : NetV} {m : MsgP} (h : NetIs w B g v V) (hl : V.way.length + 1 ≤ 160) (hb : Below w.heap.size w w1)
    (ho : w'.ownsRow B 36 19 (.slice (some ⟨g', 0, none⟩) (V.way.length + 1) cap) (V.way.length + 1) (V.way.flatMap mL ++ mL m)) (hg2 : w1.grownBy w' v.ownBlock) (hor : v.ownBlock = some g' ∨ g' = w1.heap.size) :
    Has w' g 88 (netC v V.sent V.lost) ∧ NetIs (w'.setCell ⟨g, 1, none⟩ (.slice (some ⟨g', 0, none⟩) (V.way.length + 1) cap)) B g (.slice (some ⟨g', 0, none⟩) (V.way.length + 1) cap) { V with way := V.way ++ [m] } ∧ NStep w (w'.setCell ⟨g, 1, none⟩ (.slice (some ⟨g', 0, none⟩) (V.way.length + 1) cap)) g v (.slice (some ⟨g', 0, none⟩) (V.way.length + 1) cap) := by
  have hap := h.row.apart h.head (by decide)
  have h1 : Has w' g 88 (netC v V.sent V.lost) := Has.grown (h.head.below hb) hg2 hap
  have hrow : MOwn w' B (.slice (some ⟨g', 0, none⟩) (V.way.length + 1) cap) (V.way ++ [m]) := by
    unfold MOwn
    rw [List.length_append, List.flatMap_append]
    simpa using ho
  have hap2 := hrow.apart h1 (by decide)
  have c1 := (Chg.refl (· = g) w').setCell (p := ⟨g, 1, none⟩) (.inl rfl) (.slice (some ⟨g', 0, none⟩) (V.way.length + 1) cap)
  refine ⟨h1, ⟨h1.put 1 _, h.lo, hrow.chg c1 (fun k hk e => hap2 (by rw [hk, e])), by simp; omega⟩, ?_, fun k hk => ?_⟩
  · have c0 : Chg (fun k => k = g ∨ v.ownBlock = some k) w w1 := Chg.of_below hb _
    exact (c0.trans ((Chg.grown hg2).mono (fun k e => .inr e))).trans (c1.mono (fun k e => .inl e))
  · have e : g' = k := by simpa [Value.ownBlock] using hk
    subst e
    rcases hor with hor | hor
    · exact .inl hor
    · exact .inr (by rw [hor]; exact hb.size)
set_option maxRecDepth 100000 in
set_option maxHeartbeats 4000000 in
theorem put_any (B g : Nat) (v : Value) (V : NetV) (m : MsgP) (w : World) (hB : B ≤ w.heap.size) (h : NetIs w B g v V) : Calls Try.prog 67 #[.pointer (some ⟨g, 0, none⟩), .agg (msgC m)] w (NOut w B g v (putV V m)) := by
  obtain ⟨A, c, hv, _⟩ := h.row.sl
  have hgb := h.head.bound
  have HI := Lib.hid h
  have c1 : w.cell? ⟨g, 1, none⟩ = some v := h.head.at_ 1
  have f1 := h.head.free 1
  have HB := Lib.hid ((Below.refl w.heap.size w).alloc (Nat.le_refl _) (.cells (msgC m) 36))
  have HV := Lib.hid hv
  rw [hv] at c1
  by_cases q : 160 ≤ V.way.length
  · have HP := Lib.hid (put_full (m := m) q)
    have q1 : (160 : Int) ≤ (V.way.length : Int) := by omega
    clear h hv q
    go_enter Try.func67, Try.ntmps67
    go_wp2
    go_ret
    exact ⟨by rw [HP.out]; rfl, v, by rw [HP.out]; exact HI.out.below HB.out, NStep.same HB.out⟩
  · have HP := Lib.hid (put_room (m := m) q)
    have q1 : ¬ (160 : Int) ≤ (V.way.length : Int) := by omega
    have HBB := Lib.hid hB
    have HL := Lib.hid (show V.way.length + 1 ≤ 160 by omega)
    obtain ⟨i0, hi, hz0, hz1, hz2⟩ := info_parts info_msg
    have HX := Lib.hid (And.intro hi (And.intro hz0 (And.intro hz1 hz2)))
    have HW := Lib.hid (show MOwn (w.alloc (.cells (msgC m) 36)) B v V.way from h.row.below HB.out)
    have HM := Lib.hid (Has.fresh w 36 (msgC m))
    have HG := Lib.hid (h.head.past (.cells (msgC m) 36))
    rw [hv] at HW
    clear h hv q hi hz0 hz1 hz2 hB
    go_enter Try.func67, Try.ntmps67
    go_wp2
    refine wp_region_held_drew (S := fun _ => True) (by kernel_rfl) trivial (fun hHeld => ?_)
    refine Vc.wpAnyH_read (i := 0) (d := some 11) (v := ?v0) (by rfl) (by rfl) (by kernel_rfl) (by kernel_rfl) (by kernel_rfl) (fun _ _ _ h => h) (by rfl) ?hy0 (by assumption) ?rest0
    case hy0 =>
      intro w hSw
      go_simp
      try with_reducible rfl
    (try simp only [Act.put, List.setIfInBounds_toArray, List.set_cons_zero, List.set_cons_succ])
    refine Vc.wpAnyH_read (i := 1) (d := some 12) (v := ?v1) (by rfl) (by rfl) (by kernel_rfl) (by kernel_rfl) (by kernel_rfl) (fun _ _ _ h => h) (by rfl) ?hy1 (by assumption) ?rest1
    case hy1 =>
      intro w hSw
      go_simp
      try with_reducible rfl
    (try simp only [Act.put, List.setIfInBounds_toArray, List.set_cons_zero, List.set_cons_succ])
    refine Vc.wpAnyH_read (i := 2) (d := some 13) (v := ?v2) (by rfl) (by rfl) (by kernel_rfl) (by kernel_rfl) (by kernel_rfl) (fun _ _ _ h => h) (by rfl) ?hy2 (by assumption) ?rest2
    case hy2 =>
      intro w hSw
      go_simp
      try with_reducible rfl
    (try simp only [Act.put, List.setIfInBounds_toArray, List.set_cons_zero, List.set_cons_succ])
    refine Vc.wpAnyH_read (i := 3) (d := some 14) (v := ?v3) (by rfl) (by rfl) (by kernel_rfl) (by kernel_rfl) (by kernel_rfl) (fun _ _ _ h => h) (by rfl) ?hy3 (by assumption) ?rest3
    case hy3 =>
      intro w hSw
      go_simp
      try with_reducible rfl
    (try simp only [Act.put, List.setIfInBounds_toArray, List.set_cons_zero, List.set_cons_succ])
    refine wpAnyH_ready (rs := [4, 5]) (by kernel_rfl) (by simp) ?_
    refine (AllReadyH.cons rfl (fun K hK => ?_) (AllReadyH.cons rfl (fun K hK => ?_) AllReadyH.nil))
    · go_simp
      refine hK.out _ _ trivial (fun hHeld => ?_)
      clear hK K
      (try simp only [Act.put, List.setIfInBounds_toArray, List.set_cons_zero, List.set_cons_succ])
      refine wpAnyH_ready (rs := [5]) (by kernel_rfl) (by simp) ?_
      refine (AllReadyH.cons rfl (fun K hK => ?_) AllReadyH.nil)
      · refine step_loadA 36 (.tmp 3) (by rfl) w.heap.size 0 (msgC m) ?_
        refine And.intro ⟨by rfl, by rfl, ⟨_, Try.underlying36, rfl⟩, info_size _⟩ (And.intro (Who.has_range (by exact HM.out)) ?_)
        go_simp
        refine hK.out _ _ trivial (fun hHeld => ?_)
        clear hK K
        (try simp only [Act.put, List.setIfInBounds_toArray, List.set_cons_zero, List.set_cons_succ])
        refine wpAnyH_ready (rs := [6]) (by kernel_rfl) (by simp) ?_
        refine (AllReadyH.cons rfl (fun K hK => ?_) AllReadyH.nil)
        · refine step_build (.tmp 16) (by rfl) m ?_
          refine And.intro ⟨by rfl, by rfl⟩ ?_
          go_simp
          refine hK.out _ _ trivial (fun hHeld => ?_)
          clear hK K
          (try simp only [Act.put, List.setIfInBounds_toArray, List.set_cons_zero, List.set_cons_succ])
          refine wpAnyH_ready (rs := [7]) (by kernel_rfl) (by simp) ?_
          refine (AllReadyH.cons rfl (fun K hK => ?_) AllReadyH.nil)
          · refine step_append_lies _ (by rfl) (.tmp 15) (.tmp 17) 28 (by rfl) B 36 i0 (.agg (msgC msg0)) 19 160 Try.underlying28 HX.out.1 HX.out.2.1 HX.out.2.2.1 HX.out.2.2.2 rfl (by decide) (.slice A V.way.length c) V.way.length (V.way.flatMap mL) (by rfl) (World.ownsRow.alloc HW.out _) ⟨w.heap.size + 1, 0, none⟩ 1 1 (mL m) (by rfl) rfl ?c10 ?c20 (by decide) (by unfold maxLen; have := HL.out; omega) (by have := HL.out; omega) (by have := HBB.out; simp; omega) _ rfl ?_
            case c10 =>
              have hq := Has.fresh (w.alloc (.cells (msgC m) 36)).drew 36 (msgC m); rw [show (w.alloc (.cells (msgC m) 36)).drew.heap.size = w.heap.size + 1 from World.size_alloc ..] at hq
              exact World.news_of_block hq
            case c20 => exact fun u hu => (Array.all_eq_true_iff_forall_mem.1 (msgC_one m)) u (by simpa [mL] using hu)
            intro g' cap w' ho hg2 hor hlt
            go_simp
            refine hK.out _ _ trivial (fun hHeld => ?_)
            clear hK K
            (try simp only [Act.put, List.setIfInBounds_toArray, List.set_cons_zero, List.set_cons_succ])
            have HQ := Lib.hid (put_post (m := m) HI.out HL.out ((Below.refl w.heap.size w).alloc (Nat.le_refl _) (.cells (msgC m) 36) |>.drew |>.alloc (by simp) (.cells (msgC m) 36)) ho (by rw [HV.out]; exact hg2) (by rw [HV.out]; exact hor))
            clear ho hg2 hor hlt
            have d1 : w'.cell? ⟨g, 1, none⟩ = some v := HQ.out.1.at_ 1
            have e1 := HQ.out.1.free 1
            rw [HV.out] at d1
            refine Vc.wpAnyH_read (i := 8) (d := some 19) (v := ?v80) (by rfl) (by rfl) (by kernel_rfl) (by kernel_rfl) (by kernel_rfl) (fun _ _ _ h => h) (by rfl) ?hy80 (by assumption) ?rest80
            case hy80 =>
              intro w hSw
              go_simp
              try with_reducible rfl
            (try simp only [Act.put, List.setIfInBounds_toArray, List.set_cons_zero, List.set_cons_succ])
            refine Vc.wpAnyH_read (i := 9) (d := some 20) (v := ?v90) (by rfl) (by rfl) (by kernel_rfl) (by kernel_rfl) (by kernel_rfl) (fun _ _ _ h => h) (by rfl) ?hy90 (by assumption) ?rest90
            case hy90 =>
              intro w hSw
              go_simp
              try with_reducible rfl
            (try simp only [Act.put, List.setIfInBounds_toArray, List.set_cons_zero, List.set_cons_succ])
            refine wpAnyH_ready (rs := [10]) (by kernel_rfl) (by simp) ?_
            refine AllReadyH.cons rfl (fun K hK => ?_) AllReadyH.nil
            go_simp
            refine hK.out _ _ trivial (fun hHeld => ?_)
            clear hK K
            (try simp only [Act.put, List.setIfInBounds_toArray, List.set_cons_zero, List.set_cons_succ])
            refine wpAnyH_done (by kernel_rfl) ?_ _
            go_wp2
            go_ret
            exact ⟨by rw [HP.out]; rfl, _, by rw [HP.out]; exact HQ.out.2.1, HQ.out.2.2⟩
    · refine step_loadA 36 (.tmp 3) (by rfl) w.heap.size 0 (msgC m) ?_
      refine And.intro ⟨by rfl, by rfl, ⟨_, Try.underlying36, rfl⟩, info_size _⟩ (And.intro (Who.has_range (by exact HM.out)) ?_)
      go_simp
      refine hK.out _ _ trivial (fun hHeld => ?_)
      clear hK K
      (try simp only [Act.put, List.setIfInBounds_toArray, List.set_cons_zero, List.set_cons_succ])
      refine wpAnyH_ready (rs := [4, 6]) (by kernel_rfl) (by simp) ?_
      refine (AllReadyH.cons rfl (fun K hK => ?_) (AllReadyH.cons rfl (fun K hK => ?_) AllReadyH.nil))
      · go_simp
        refine hK.out _ _ trivial (fun hHeld => ?_)
        clear hK K
        (try simp only [Act.put, List.setIfInBounds_toArray, List.set_cons_zero, List.set_cons_succ])
        refine wpAnyH_ready (rs := [6]) (by kernel_rfl) (by simp) ?_
        refine (AllReadyH.cons rfl (fun K hK => ?_) AllReadyH.nil)
        · refine step_build (.tmp 16) (by rfl) m ?_
          refine And.intro ⟨by rfl, by rfl⟩ ?_
          go_simp
          refine hK.out _ _ trivial (fun hHeld => ?_)
          clear hK K
          (try simp only [Act.put, List.setIfInBounds_toArray, List.set_cons_zero, List.set_cons_succ])
          refine wpAnyH_ready (rs := [7]) (by kernel_rfl) (by simp) ?_
          refine (AllReadyH.cons rfl (fun K hK => ?_) AllReadyH.nil)
          · refine step_append_lies _ (by rfl) (.tmp 15) (.tmp 17) 28 (by rfl) B 36 i0 (.agg (msgC msg0)) 19 160 Try.underlying28 HX.out.1 HX.out.2.1 HX.out.2.2.1 HX.out.2.2.2 rfl (by decide) (.slice A V.way.length c) V.way.length (V.way.flatMap mL) (by rfl) (World.ownsRow.alloc HW.out _) ⟨w.heap.size + 1, 0, none⟩ 1 1 (mL m) (by rfl) rfl ?c11 ?c21 (by decide) (by unfold maxLen; have := HL.out; omega) (by have := HL.out; omega) (by have := HBB.out; simp; omega) _ rfl ?_
            case c11 =>
              have hq := Has.fresh (w.alloc (.cells (msgC m) 36)).drew 36 (msgC m); rw [show (w.alloc (.cells (msgC m) 36)).drew.heap.size = w.heap.size + 1 from World.size_alloc ..] at hq
              exact World.news_of_block hq
            case c21 => exact fun u hu => (Array.all_eq_true_iff_forall_mem.1 (msgC_one m)) u (by simpa [mL] using hu)
            intro g' cap w' ho hg2 hor hlt
            go_simp
            refine hK.out _ _ trivial (fun hHeld => ?_)
            clear hK K
            (try simp only [Act.put, List.setIfInBounds_toArray, List.set_cons_zero, List.set_cons_succ])
            have HQ := Lib.hid (put_post (m := m) HI.out HL.out ((Below.refl w.heap.size w).alloc (Nat.le_refl _) (.cells (msgC m) 36) |>.drew |>.alloc (by simp) (.cells (msgC m) 36)) ho (by rw [HV.out]; exact hg2) (by rw [HV.out]; exact hor))
            clear ho hg2 hor hlt
            have d1 : w'.cell? ⟨g, 1, none⟩ = some v := HQ.out.1.at_ 1
            have e1 := HQ.out.1.free 1
            rw [HV.out] at d1
            refine Vc.wpAnyH_read (i := 8) (d := some 19) (v := ?v81) (by rfl) (by rfl) (by kernel_rfl) (by kernel_rfl) (by kernel_rfl) (fun _ _ _ h => h) (by rfl) ?hy81 (by assumption) ?rest81
            case hy81 =>
              intro w hSw
              go_simp
              try with_reducible rfl
            (try simp only [Act.put, List.setIfInBounds_toArray, List.set_cons_zero, List.set_cons_succ])
            refine Vc.wpAnyH_read (i := 9) (d := some 20) (v := ?v91) (by rfl) (by rfl) (by kernel_rfl) (by kernel_rfl) (by kernel_rfl) (fun _ _ _ h => h) (by rfl) ?hy91 (by assumption) ?rest91
            case hy91 =>
              intro w hSw
              go_simp
              try with_reducible rfl
            (try simp only [Act.put, List.setIfInBounds_toArray, List.set_cons_zero, List.set_cons_succ])
            refine wpAnyH_ready (rs := [10]) (by kernel_rfl) (by simp) ?_
            refine AllReadyH.cons rfl (fun K hK => ?_) AllReadyH.nil
            go_simp
            refine hK.out _ _ trivial (fun hHeld => ?_)
            clear hK K
            (try simp only [Act.put, List.setIfInBounds_toArray, List.set_cons_zero, List.set_cons_succ])
            refine wpAnyH_done (by kernel_rfl) ?_ _
            go_wp2
            go_ret
            exact ⟨by rw [HP.out]; rfl, _, by rw [HP.out]; exact HQ.out.2.1, HQ.out.2.2⟩
      · refine step_build (.tmp 16) (by rfl) m ?_
        refine And.intro ⟨by rfl, by rfl⟩ ?_
        go_simp
        refine hK.out _ _ trivial (fun hHeld => ?_)
        clear hK K
        (try simp only [Act.put, List.setIfInBounds_toArray, List.set_cons_zero, List.set_cons_succ])
        refine wpAnyH_ready (rs := [4]) (by kernel_rfl) (by simp) ?_
        refine (AllReadyH.cons rfl (fun K hK => ?_) AllReadyH.nil)
        · go_simp
          refine hK.out _ _ trivial (fun hHeld => ?_)
          clear hK K
          (try simp only [Act.put, List.setIfInBounds_toArray, List.set_cons_zero, List.set_cons_succ])
          refine wpAnyH_ready (rs := [7]) (by kernel_rfl) (by simp) ?_
          refine (AllReadyH.cons rfl (fun K hK => ?_) AllReadyH.nil)
          · refine step_append_lies _ (by rfl) (.tmp 15) (.tmp 17) 28 (by rfl) B 36 i0 (.agg (msgC msg0)) 19 160 Try.underlying28 HX.out.1 HX.out.2.1 HX.out.2.2.1 HX.out.2.2.2 rfl (by decide) (.slice A V.way.length c) V.way.length (V.way.flatMap mL) (by rfl) (World.ownsRow.alloc HW.out _) ⟨w.heap.size + 1, 0, none⟩ 1 1 (mL m) (by rfl) rfl ?c12 ?c22 (by decide) (by unfold maxLen; have := HL.out; omega) (by have := HL.out; omega) (by have := HBB.out; simp; omega) _ rfl ?_
            case c12 =>
              have hq := Has.fresh (w.alloc (.cells (msgC m) 36)).drew 36 (msgC m); rw [show (w.alloc (.cells (msgC m) 36)).drew.heap.size = w.heap.size + 1 from World.size_alloc ..] at hq
              exact World.news_of_block hq
            case c22 => exact fun u hu => (Array.all_eq_true_iff_forall_mem.1 (msgC_one m)) u (by simpa [mL] using hu)
            intro g' cap w' ho hg2 hor hlt
            go_simp
            refine hK.out _ _ trivial (fun hHeld => ?_)
            clear hK K
            (try simp only [Act.put, List.setIfInBounds_toArray, List.set_cons_zero, List.set_cons_succ])
            have HQ := Lib.hid (put_post (m := m) HI.out HL.out ((Below.refl w.heap.size w).alloc (Nat.le_refl _) (.cells (msgC m) 36) |>.drew |>.alloc (by simp) (.cells (msgC m) 36)) ho (by rw [HV.out]; exact hg2) (by rw [HV.out]; exact hor))
            clear ho hg2 hor hlt
            have d1 : w'.cell? ⟨g, 1, none⟩ = some v := HQ.out.1.at_ 1
            have e1 := HQ.out.1.free 1
            rw [HV.out] at d1
            refine Vc.wpAnyH_read (i := 8) (d := some 19) (v := ?v82) (by rfl) (by rfl) (by kernel_rfl) (by kernel_rfl) (by kernel_rfl) (fun _ _ _ h => h) (by rfl) ?hy82 (by assumption) ?rest82
            case hy82 =>
              intro w hSw
              go_simp
              try with_reducible rfl
            (try simp only [Act.put, List.setIfInBounds_toArray, List.set_cons_zero, List.set_cons_succ])
            refine Vc.wpAnyH_read (i := 9) (d := some 20) (v := ?v92) (by rfl) (by rfl) (by kernel_rfl) (by kernel_rfl) (by kernel_rfl) (fun _ _ _ h => h) (by rfl) ?hy92 (by assumption) ?rest92
            case hy92 =>
              intro w hSw
              go_simp
              try with_reducible rfl
            (try simp only [Act.put, List.setIfInBounds_toArray, List.set_cons_zero, List.set_cons_succ])
            refine wpAnyH_ready (rs := [10]) (by kernel_rfl) (by simp) ?_
            refine AllReadyH.cons rfl (fun K hK => ?_) AllReadyH.nil
            go_simp
            refine hK.out _ _ trivial (fun hHeld => ?_)
            clear hK K
            (try simp only [Act.put, List.setIfInBounds_toArray, List.set_cons_zero, List.set_cons_succ])
            refine wpAnyH_done (by kernel_rfl) ?_ _
            go_wp2
            go_ret
            exact ⟨by rw [HP.out]; rfl, _, by rw [HP.out]; exact HQ.out.2.1, HQ.out.2.2⟩
end Go.Proofs.Ytjbbifmjhagfiaa.Nt
