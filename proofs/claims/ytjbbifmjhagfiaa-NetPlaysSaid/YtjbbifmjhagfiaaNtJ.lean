/- Messages on their way: Send, Double. -/
import Derived.Test.YtjbbifmjhagfiaaNtI
namespace Go.Proofs.Ytjbbifmjhagfiaa.Nt
open Go.RowKit Go.Proofs.Ytjbbifmjhagfiaa.Mem Go.Proofs.Ytjbbifmjhagfiaa.Vc
set_option linter.unusedVariables false

theorem NStep.pre {w W2 w2 : World} {g : Nat} {v v2 : Value} (h0 : Chg (· = g) w W2) (h : NStep W2 w2 g v v2) : NStep w w2 g v v2 :=
  ⟨(h0.mono (fun k e => .inl e)).trans h.1, fun k hk => (h.2 k hk).imp id (Nat.le_trans h0.size)⟩
theorem NStep.post {w w2 w3 : World} {g : Nat} {v v2 : Value} (h : NStep w w2 g v v2) (h0 : Chg (· = g) w2 w3) : NStep w w3 g v v2 := ⟨h.1.trans (h0.mono (fun k e => .inl e)), h.2⟩
open Classical in
noncomputable def sendV (V : NetV) (m : MsgP) : NetV × Int :=
  if OkM m then (if 160 ≤ V.way.length then ({ V with sent := V.sent + 1, lost := V.lost + 1 }, 28) else ({ V with sent := V.sent + 1, way := V.way ++ [m] }, 0)) else (V, 201)
theorem send_bad {V : NetV} {m : MsgP} (h : ¬ OkM m) : sendV V m = (V, 201) := by unfold sendV; rw [if_neg h]
theorem send_full {V : NetV} {m : MsgP} (h : OkM m) (h2 : 160 ≤ V.way.length) : sendV V m = ({ V with sent := V.sent + 1, lost := V.lost + 1 }, 28) := by unfold sendV; rw [if_pos h, if_pos h2]
theorem send_room {V : NetV} {m : MsgP} (h : OkM m) (h2 : ¬ 160 ≤ V.way.length) : sendV V m = ({ V with sent := V.sent + 1, way := V.way ++ [m] }, 0) := by unfold sendV; rw [if_pos h, if_neg h2]
def NetV.Few (V : NetV) : Prop := 0 ≤ V.sent ∧ V.sent ≤ 1000000 ∧ 0 ≤ V.lost ∧ V.lost ≤ 1000000
theorem net_sent {w : World} {B g : Nat} {v : Value} {V : NetV} (h : NetIs w B g v V) (s : Int) : NetIs (w.setCell ⟨g, 2, none⟩ (.int .i64 s)) B g v { V with sent := s } :=
  ⟨h.head.put 2 _, h.lo, h.row.chg ((Chg.refl (· = g) w).setCell (p := ⟨g, 2, none⟩) (.inl rfl) _) (fun k hk e => h.row.apart h.head (by decide) (by rw [hk, e])), h.few⟩
theorem net_lost {w : World} {B g : Nat} {v : Value} {V : NetV} (h : NetIs w B g v V) (s : Int) : NetIs (w.setCell ⟨g, 3, none⟩ (.int .i64 s)) B g v { V with lost := s } :=
  ⟨h.head.put 3 _, h.lo, h.row.chg ((Chg.refl (· = g) w).setCell (p := ⟨g, 3, none⟩) (.inl rfl) _) (fun k hk e => h.row.apart h.head (by decide) (by rw [hk, e])), h.few⟩
set_option maxRecDepth 100000 in
set_option maxHeartbeats 4000000 in
theorem send_any (B g : Nat) (v : Value) (V : NetV) (m : MsgP) (w : World) (hB : B ≤ w.heap.size) (hf : V.Few) (h : NetIs w B g v V) : Calls Try.prog 42 #[.pointer (some ⟨g, 0, none⟩), .agg (msgC m)] w (NOut w B g v (sendV V m)) := by
  obtain ⟨s0, s1, l0, l1⟩ := hf
  have hgb := h.head.bound
  have hgn : g ≠ w.heap.size := by omega
  have HI := Lib.hid h
  have c0 : w.cell? ⟨g, 0, none⟩ = some (.bool true) := h.head.at_ 0
  have HB := Lib.hid ((Below.refl w.heap.size w).alloc (Nat.le_refl _) (.cells (msgC m) 36))
  have HBB := Lib.hid hB
  have HM := Lib.hid (Has.fresh w 36 (msgC m))
  have HC := Lib.hid (fun W => check_any m W)
  have HG := Lib.hid hgn
  clear h hB hgn
  go_enter Try.func42, Try.ntmps42
  go_wp2_with ((with_reducible refine Who.wpList_loadC 36 (.tmp 3) rfl w.heap.size 0 (msgC m) ?_); refine And.intro ⟨by rfl, by rfl, ⟨_, Try.underlying36, rfl⟩, info_size _⟩ (And.intro (Who.has_range HM.out) ?_); (try simp only [Act.put, List.setIfInBounds_toArray, List.set_cons_zero, List.set_cons_succ]))
  with_reducible refine (HC.out _).mono ?_
  rintro e w1 ⟨rfl, hb⟩
  have HB1 := Lib.hid (HB.out.trans (hb.mono HB.out.size))
  have HM1 := Lib.hid (HM.out.below hb)
  have HI1 := Lib.hid ((HI.out.below HB.out).below hb)
  clear hb c0
  by_cases q : OkM m
  · have HQ := Lib.hid q
    clear q
    rw [err_yes HQ.out]
    have hgb1 := HI1.out.head.bound
    have d2 : w1.cell? ⟨g, 2, none⟩ = some (.int .i64 V.sent) := HI1.out.head.at_ 2
    have f2 := HI1.out.head.free 2
    have HM2 := Lib.hid (HM1.out.keep (p := ⟨g, 2, none⟩) (fun e => HG.out e.symm) (.int .i64 (V.sent + 1)))
    have HI2 := Lib.hid (net_sent HI1.out (V.sent + 1))
    have HS := Lib.hid (((Chg.of_below HB1.out (· = g)).setCell (p := ⟨g, 2, none⟩) (.inl rfl) (.int .i64 (V.sent + 1))))
    have HBB2 := Lib.hid (show B ≤ (w1.setCell ⟨g, 2, none⟩ (.int .i64 (V.sent + 1))).heap.size from Nat.le_trans HBB.out HS.out.size)
    go_wp2_with ((with_reducible refine Who.wpList_loadC 36 (.tmp 3) rfl w.heap.size 0 (msgC m) ?_); refine And.intro ⟨by rfl, by rfl, ⟨_, Try.underlying36, rfl⟩, info_size _⟩ (And.intro (Who.has_range HM2.out) ?_); (try simp only [Act.put, List.setIfInBounds_toArray, List.set_cons_zero, List.set_cons_succ]))
    with_reducible refine (put_any B g v _ m _ HBB2.out HI2.out).mono ?_
    rintro e w2 ⟨rfl, v2, hn, hst⟩
    by_cases q2 : 160 ≤ V.way.length
    · have HP := Lib.hid (send_full HQ.out q2)
      rw [put_full (by exact q2)] at hn ⊢
      have d3 : w2.cell? ⟨g, 3, none⟩ = some (.int .i64 V.lost) := hn.head.at_ 3
      have f3 := hn.head.free 3
      have HN := Lib.hid (net_lost hn (V.lost + 1))
      have HT := Lib.hid ((NStep.pre HS.out hst).post ((Chg.refl (· = g) w2).setCell (p := ⟨g, 3, none⟩) (.inl rfl) (.int .i64 (V.lost + 1))))
      clear hn hst q2 d2 f2
      go_wp2
      go_ret
      exact ⟨by rw [HP.out]; rfl, v2, by rw [HP.out]; exact HN.out, HT.out⟩
    · have HP := Lib.hid (send_room HQ.out q2)
      rw [put_room (by exact q2)] at hn ⊢
      have HN := Lib.hid hn
      have HT := Lib.hid (NStep.pre HS.out hst)
      clear hn hst q2 d2 f2
      go_wp2
      go_ret
      exact ⟨by rw [HP.out]; rfl, v2, by rw [HP.out]; exact HN.out, HT.out⟩
  · have HP := Lib.hid (send_bad (V := V) q)
    rw [err_no q]
    clear q
    go_wp2
    go_ret
    exact ⟨by rw [HP.out]; rfl, v, by rw [HP.out]; exact HI1.out, NStep.same HB1.out⟩
noncomputable def doubleV (V : NetV) (k : Int) : NetV × Int := if (peekM V k).2 = 0 then putV V (peekM V k).1 else (V, (peekM V k).2)
theorem double_no {V : NetV} {k : Int} (h : ¬ (peekM V k).2 = 0) : doubleV V k = (V, (peekM V k).2) := if_neg h
theorem double_yes {V : NetV} {k : Int} (h : (peekM V k).2 = 0) : doubleV V k = putV V (peekM V k).1 := if_pos h
set_option maxRecDepth 100000 in
set_option maxHeartbeats 4000000 in
theorem double_any (B g : Nat) (v : Value) (V : NetV) (k : Int) (w : World) (hB : B ≤ w.heap.size) (h : NetIs w B g v V) : Calls Try.prog 45 #[.pointer (some ⟨g, 0, none⟩), .int .i64 k] w (NOut w B g v (doubleV V k)) := by
  have HI := Lib.hid h
  have HBB := Lib.hid hB
  have HC := Lib.hid (peek_any B g v V k w h)
  have hal := alloc_msg
  clear h hB
  go_enter Try.func45, Try.ntmps45
  go_wp2_with fail
  with_reducible refine HC.out.mono ?_
  rintro e w1 ⟨rfl, hb⟩
  have HK := Lib.hid (show peekM V k = peekM V k from rfl)
  obtain ⟨⟨m, r⟩, hr⟩ : ∃ x, x = peekM V k := ⟨_, rfl⟩
  rw [← hr]
  have HR := Lib.hid hr
  have HI1 := Lib.hid (HI.out.below hb)
  have HB1 := Lib.hid hb
  have HM := Lib.hid (Has.fresh w1 36 (msgC m))
  clear hb hr HK
  dsimp only
  by_cases q : r = 0
  · subst q
    have HD := Lib.hid (double_yes (V := V) (k := k) (by rw [← HR.out]))
    have HI2 := Lib.hid (HI1.out.below ((Below.refl w1.heap.size w1).alloc (Nat.le_refl _) (.cells (msgC m) 36)))
    have HS := Lib.hid ((Chg.of_below HB1.out (· = g)).alloc (.cells (msgC m) 36))
    have HBB2 := Lib.hid (Nat.le_trans HBB.out HS.out.size)
    go_wp2_with (first | ((with_reducible refine Who.wpList_newC 36 5 (.tmp 11) rfl rfl rfl (msgC msg0) (msgC m) ?_); refine And.intro ⟨rfl, rfl, rfl, hal, by rfl, by rfl, info_size _, rfl, msgC_one _⟩ ?_; (try simp only [Act.put, List.setIfInBounds_toArray, List.set_cons_zero, List.set_cons_succ])) | ((with_reducible refine Who.wpList_loadC 36 (.tmp 5) rfl w1.heap.size 0 (msgC m) ?_); refine And.intro ⟨by rfl, by rfl, ⟨_, Try.underlying36, rfl⟩, info_size _⟩ (And.intro (Who.has_range HM.out) ?_); (try simp only [Act.put, List.setIfInBounds_toArray, List.set_cons_zero, List.set_cons_succ])))
    with_reducible refine (put_any B g v V m _ HBB2.out HI2.out).mono ?_
    rintro e w2 ⟨rfl, v2, hn, hst⟩
    have HN := Lib.hid hn
    have HT := Lib.hid (NStep.pre HS.out hst)
    clear hn hst
    go_wp2
    go_ret
    exact ⟨by rw [HD.out, ← HR.out]; rfl, v2, by rw [HD.out, ← HR.out]; exact HN.out, HT.out⟩
  · have HD := Lib.hid (double_no (V := V) (k := k) (by rw [← HR.out]; exact q))
    have e1 : (r == 0) = false := beq_eq_false_iff_ne.2 q
    have HX := Lib.hid ((HB1.out).alloc (HB1.out.size) (.cells (msgC m) 36))
    clear q
    go_wp2_with (first | ((with_reducible refine Who.wpList_newC 36 5 (.tmp 11) rfl rfl rfl (msgC msg0) (msgC m) ?_); refine And.intro ⟨rfl, rfl, rfl, hal, by rfl, by rfl, info_size _, rfl, msgC_one _⟩ ?_; (try simp only [Act.put, List.setIfInBounds_toArray, List.set_cons_zero, List.set_cons_succ])))
    go_ret
    exact ⟨by rw [HD.out, ← HR.out]; rfl, v, by rw [HD.out]; exact HI.out.below HX.out, NStep.same HX.out⟩
end Go.Proofs.Ytjbbifmjhagfiaa.Nt
