/- Messages on their way: Clone; nets that no call made. -/
import Derived.Test.YtjbbifmjhagfiaaNtL
namespace Go.Proofs.Ytjbbifmjhagfiaa.Nt
open Go.RowKit Go.Proofs.Ytjbbifmjhagfiaa.Mem Go.Proofs.Ytjbbifmjhagfiaa.Vc
set_option linter.unusedVariables false

def RowOut (ms : List MsgP) (w : World) (e : Ending) (w' : World) : Prop := ∃ v', e = .returned v' ∧ MOwn w' w.heap.size v' ms ∧ Below w.heap.size w w'
set_option maxRecDepth 100000 in
set_option maxHeartbeats 2000000 in
theorem cloneRow_any (B : Nat) (v : Value) (ms : List MsgP) (w : World) (h : MOwn w B v ms) (hl : ms.length ≤ 160) :
    Calls Try.prog 47 #[v] w (RowOut ms w) := by
  have q22 : ∀ (w : World) (a : Option Addr) (n c n' c' : Nat), (binOp .eql 28 (.slice a n c) (.slice none n' c')).run Try.prog w = .ok (.bool a.isNone) w := fun w a n c n' c' => Lib.run_eql_slice_nil w _ _ a n c n' c' Try.underlying28
  rcases h.2 with ⟨rfl, e0⟩ | ⟨g, cap, cur, rfl, hB, hw, hn, hm, hs, ht⟩
  · have e1 : ms = [] := List.length_eq_zero_iff.1 e0
    subst e1
    clear h hl e0
    go_enter Try.func47, Try.ntmps47
    go_wp2
    go_ret
    exact ⟨_, rfl, MOwn.nil _ _, Below.refl _ _⟩
  · obtain ⟨i0, hi, hz0, hz1, hz2⟩ := info_parts info_msg
    have HX := Lib.hid (And.intro hi (And.intro hz0 (And.intro hz1 hz2)))
    have HB := Lib.hid ((Below.refl w.heap.size w).alloc (Nat.le_refl _) (.cells #[] 36))
    have HO := Lib.hid (show (w.alloc (.cells #[] 36)).ownsRow w.heap.size 36 19 (.slice (some ⟨w.heap.size, 0, none⟩) 0 0) 0 [] from ⟨rfl, .inr ⟨w.heap.size, 0, #[], rfl, Nat.le_refl _, Has.fresh w 36 #[], Nat.le_refl _, by unfold maxLen; omega, by simp, by simp⟩⟩)
    have HH := Lib.hid (h.below HB.out)
    have HL := Lib.hid hl
    have hlen := flat_len mL_len ms
    have HLN := Lib.hid hlen
    clear h hl hB hw hn hm hs ht hi hz0 hz1 hz2 hlen
    go_enter Try.func47, Try.ntmps47
    go_wp2_with (at_builtin; refine wpList_append_own _ rfl (.tmp 5) (.tmp 6) 28 rfl w.heap.size 36 i0 (.agg (msgC msg0)) 19 160 Try.underlying28 HX.out.1 HX.out.2.1 HX.out.2.2.1 HX.out.2.2.2 rfl (by decide) _ 0 [] rfl HO.out ⟨g, 0, none⟩ ms.length cap (ms.flatMap mL) rfl HLN.out ?c1 ?c2 (by unfold maxLen; have := HL.out; omega) (by have := HL.out; omega) (by simp) ?_)
    case c1 => exact fun j u hu => World.ownsRow.cells HH.out (g := g) rfl j u hu
    case c2 =>
      intro u hu
      obtain ⟨x, _, hx⟩ := List.mem_flatMap.1 hu
      exact (Array.all_eq_true_iff_forall_mem.1 (msgC_one x)) u (by simpa [mL] using hx)
    intro v1 w2 o2 g2 _
    have o3 : MOwn w2 w.heap.size v1 ms := by unfold MOwn; simpa using o2
    have hb2 := HB.out.grown g2 (by simp) (fun k hk => Nat.le_of_eq (by simpa [Value.ownBlock] using hk))
    obtain ⟨A1, c1, rfl, _⟩ := o3.sl
    have HR := Lib.hid (And.intro o3 hb2)
    clear o2 g2 o3 hb2
    go_wp2
    go_ret
    exact ⟨_, rfl, HR.out.1, HR.out.2⟩
set_option maxRecDepth 100000 in
set_option maxHeartbeats 2000000 in
theorem clone_any (B g : Nat) (v : Value) (V : NetV) (w : World) (h : NetIs w B g v V) : Calls Try.prog 13 #[.pointer (some ⟨g, 0, none⟩)] w fun e w' => ∃ v', e = .returned (.pointer (some ⟨w.heap.size, 0, none⟩)) ∧ NetIs w' w.heap.size w.heap.size v' V ∧ Below w.heap.size w w' := by
  have hgb := h.head.bound
  obtain ⟨A, c, hv, _⟩ := h.row.sl
  have c0 : w.cell? ⟨g, 0, none⟩ = some (.bool true) := h.head.at_ 0
  have c1 : w.cell? ⟨g, 1, none⟩ = some v := h.head.at_ 1
  have c2 : w.cell? ⟨g, 2, none⟩ = some (.int .i64 V.sent) := h.head.at_ 2
  have c3 : w.cell? ⟨g, 3, none⟩ = some (.int .i64 V.lost) := h.head.at_ 3
  have HB := Lib.hid ((Below.refl w.heap.size w).alloc (Nat.le_refl _) (.cells (netC v V.sent V.lost) 88))
  have HN := Lib.hid (Has.fresh w 88 (netC v V.sent V.lost))
  have HI := Lib.hid (h.below HB.out)
  have HC := Lib.hid (cloneRow_any B v V.way _ HI.out.row HI.out.few)
  unfold netC at HB HN HI HC
  rw [hv] at c1 HB HN HC HI
  have HV := Lib.hid hv
  clear h hv
  go_enter Try.func13, Try.ntmps13
  go_wp2_with fail
  with_reducible refine HC.out.mono ?_
  rintro e w2 ⟨v2, rfl, ho, hb⟩
  have hn2 : Has w2 w.heap.size 88 (netC (.slice A V.way.length c) V.sent V.lost) := HN.out.below hb
  obtain ⟨A2, c2', rfl, _⟩ := ho.sl
  have d1 : w2.cell? ⟨w.heap.size, 1, none⟩ = some (.slice A V.way.length c) := hn2.at_ 1
  have f1 := hn2.free 1
  generalize hv2 : (Value.slice A2 V.way.length c2') = v2 at ho
  have cg : Chg (· = w.heap.size) w2 (w2.setCell ⟨w.heap.size, 1, none⟩ v2) := (Chg.refl (· = w.heap.size) w2).setCell (p := ⟨w.heap.size, 1, none⟩) (.inl rfl) v2
  have ho2 : MOwn w2 w.heap.size v2 V.way := ⟨ho.1, by
    rcases ho.2 with e | ⟨q, cap, cur, e, hq, hr⟩
    · exact .inl e
    · exact .inr ⟨q, cap, cur, e, by simp at hq; omega, hr⟩⟩
  have HR := Lib.hid (show NetIs (w2.setCell ⟨w.heap.size, 1, none⟩ v2) w.heap.size w.heap.size v2 V ∧ Below w.heap.size w (w2.setCell ⟨w.heap.size, 1, none⟩ v2) from
    ⟨⟨hn2.put 1 _, Nat.le_refl _, ho2.chg cg (fun k hk e => ho2.apart hn2 (by decide) (by rw [hk, e])), HI.out.few⟩, (HB.out.trans (hb.mono HB.out.size)).setCell (p := ⟨w.heap.size, 1, none⟩) (Nat.le_refl _) v2⟩)
  clear ho hb hn2 cg ho2 c0 c1 c2 c3
  subst hv2
  go_wp2
  go_ret
  exact ⟨_, rfl, HR.out.1, HR.out.2⟩
/-- A net that no call made. -/
def Dead (w : World) (p : Option Addr) : Prop := p = none ∨ ∃ g, p = some ⟨g, 0, none⟩ ∧ Has w g 88 #[.bool false, .slice none 0 0, .int .i64 0, .int .i64 0]
theorem Dead.below {w w' : World} {p : Option Addr} (h : Dead w p) (hb : Below w.heap.size w w') : Dead w' p := h.imp id (fun ⟨g, e, k⟩ => ⟨g, e, k.below hb⟩)
set_option maxRecDepth 100000 in
set_option maxHeartbeats 2000000 in
theorem peek_dead (p : Option Addr) (k : Int) (w : World) (h : Dead w p) : Calls Try.prog 17 #[.pointer p, .int .i64 k] w fun e w' => e = .returned (.tuple #[.agg (msgC msg0), .int .i64 200]) ∧ Below w.heap.size w w' := by
  have hal := alloc_msg
  rcases h with rfl | ⟨g, rfl, hh⟩
  · go_enter Try.func17, Try.ntmps17
    have HN := Lib.hid (Has.fresh w 36 (msgC msg0))
    go_wp2_with (first | ((with_reducible refine Who.wpList_alloc 36 4 rfl rfl rfl (msgC msg0) hal ?_); (try simp only [Act.put, List.setIfInBounds_toArray, List.set_cons_zero, List.set_cons_succ]); (try simp only [World.size_alloc])) | ((with_reducible refine Who.wpList_storeC 36 (.tmp 4) (.tmp 15) rfl w.heap.size 0 (msgC msg0) ?_); refine And.intro ⟨rfl, by rfl, by rfl, info_size _, msgC_one _⟩ (And.intro (Who.has_there HN.out rfl) ?_); (try simp only [Act.put, List.setIfInBounds_toArray, List.set_cons_zero, List.set_cons_succ])))
    refine bodyPost_ret (v := .tuple #[.agg (msgC msg0), .int .i64 200]) (Who.results_cell_tmp Try.results17 _ _ w.heap.size 0 (msgC msg0) _ (by rfl) (Who.has_range (Who.has_over HN.out rfl)) Try.underlying36 rfl (info_size _)) rfl ⟨rfl, Who.below_setCells ((Below.refl w.heap.size w).alloc (Nat.le_refl _) (.cells (msgC msg0) 36)) (Nat.le_refl _) 0 _⟩
  · have hgb := hh.bound
    have c0 := hh.at_ 0
    have c1 := hh.at_ 1
    have c2 := hh.at_ 2
    have c3 := hh.at_ 3
    simp at c0 c1 c2 c3
    clear hh
    go_enter Try.func17, Try.ntmps17
    have HN := Lib.hid (Has.fresh w 36 (msgC msg0))
    go_wp2_with (first | ((with_reducible refine Who.wpList_alloc 36 4 rfl rfl rfl (msgC msg0) hal ?_); (try simp only [Act.put, List.setIfInBounds_toArray, List.set_cons_zero, List.set_cons_succ]); (try simp only [World.size_alloc])) | ((with_reducible refine Who.wpList_storeC 36 (.tmp 4) (.tmp 15) rfl w.heap.size 0 (msgC msg0) ?_); refine And.intro ⟨rfl, by rfl, by rfl, info_size _, msgC_one _⟩ (And.intro (Who.has_there HN.out rfl) ?_); (try simp only [Act.put, List.setIfInBounds_toArray, List.set_cons_zero, List.set_cons_succ])))
    refine bodyPost_ret (v := .tuple #[.agg (msgC msg0), .int .i64 200]) (Who.results_cell_tmp Try.results17 _ _ w.heap.size 0 (msgC msg0) _ (by rfl) (Who.has_range (Who.has_over HN.out rfl)) Try.underlying36 rfl (info_size _)) rfl ⟨rfl, Who.below_setCells ((Below.refl w.heap.size w).alloc (Nat.le_refl _) (.cells (msgC msg0) 36)) (Nat.le_refl _) 0 _⟩
set_option maxRecDepth 100000 in
set_option maxHeartbeats 2000000 in
theorem send_dead (p : Option Addr) (m : MsgP) (w : World) (h : Dead w p) : Calls Try.prog 42 #[.pointer p, .agg (msgC m)] w fun e w' => e = .returned (.int .i64 200) ∧ Below w.heap.size w w' := by
  have hal := alloc_msg
  rcases h with rfl | ⟨g, rfl, hh⟩
  · go_enter Try.func42, Try.ntmps42
    go_wp2
    go_ret
    exact ⟨rfl, (Below.refl w.heap.size w).alloc (Nat.le_refl _) (.cells (msgC m) 36)⟩
  · have hgb := hh.bound
    have c0 := hh.at_ 0
    have c1 := hh.at_ 1
    have c2 := hh.at_ 2
    have c3 := hh.at_ 3
    simp at c0 c1 c2 c3
    clear hh
    go_enter Try.func42, Try.ntmps42
    go_wp2
    go_ret
    exact ⟨rfl, (Below.refl w.heap.size w).alloc (Nat.le_refl _) (.cells (msgC m) 36)⟩
set_option maxRecDepth 100000 in
set_option maxHeartbeats 2000000 in
theorem clone_dead (p : Option Addr) (w : World) (h : Dead w p) : Calls Try.prog 13 #[.pointer p] w fun e w' => e = .returned (.pointer none) ∧ Below w.heap.size w w' := by
  have hal := alloc_msg
  rcases h with rfl | ⟨g, rfl, hh⟩
  · go_enter Try.func13, Try.ntmps13
    go_wp2
    go_ret
    exact ⟨rfl, Below.refl _ _⟩
  · have hgb := hh.bound
    have c0 := hh.at_ 0
    have c1 := hh.at_ 1
    have c2 := hh.at_ 2
    have c3 := hh.at_ 3
    simp at c0 c1 c2 c3
    clear hh
    go_enter Try.func13, Try.ntmps13
    go_wp2
    go_ret
    exact ⟨rfl, Below.refl _ _⟩
set_option maxRecDepth 100000 in
set_option maxHeartbeats 2000000 in
theorem count_dead (p : Option Addr) (w : World) (h : Dead w p) : Calls Try.prog 14 #[.pointer p] w fun e w' => e = .returned (.tuple #[.int .i64 0, .int .i64 0, .int .i64 0]) ∧ Below w.heap.size w w' := by
  have hal := alloc_msg
  rcases h with rfl | ⟨g, rfl, hh⟩
  · go_enter Try.func14, Try.ntmps14
    go_wp2
    exact bodyPost_ret (v := .tuple #[.int .i64 0, .int .i64 0, .int .i64 0]) (by simp [results, Try.results14, go_sem]) rfl ⟨rfl, Below.refl _ _⟩
  · have hgb := hh.bound
    have c0 := hh.at_ 0
    have c1 := hh.at_ 1
    have c2 := hh.at_ 2
    have c3 := hh.at_ 3
    simp at c0 c1 c2 c3
    clear hh
    go_enter Try.func14, Try.ntmps14
    go_wp2
    go_quiet (fail)
    go_wp2
    exact bodyPost_ret (v := .tuple #[.int .i64 0, .int .i64 0, .int .i64 0]) (by simp [results, Try.results14, go_sem]) rfl ⟨rfl, ⟨rfl, rfl, rfl, Nat.le_refl _, fun _ _ => rfl⟩⟩
set_option maxRecDepth 100000 in
set_option maxHeartbeats 2000000 in
theorem take_dead (p : Option Addr) (k : Int) (w : World) (h : Dead w p) : Calls Try.prog 44 #[.pointer p, .int .i64 k] w fun e w' => e = .returned (.tuple #[.agg (msgC msg0), .int .i64 200]) ∧ Below w.heap.size w w' := by
  have hal := alloc_msg
  have HB := Lib.hid ((Below.refl w.heap.size w).alloc (Nat.le_refl _) (.cells (msgC msg0) 36))
  have HR := Lib.hid (Has.fresh w 36 (msgC msg0))
  have HC := Lib.hid (peek_dead p k _ (h.below HB.out))
  clear h
  go_enter Try.func44, Try.ntmps44
  go_wp2_with ((with_reducible refine Who.wpList_alloc 36 4 rfl rfl rfl (msgC msg0) hal ?_); (try simp only [Act.put, List.setIfInBounds_toArray, List.set_cons_zero, List.set_cons_succ]); (try simp only [World.size_alloc]))
  with_reducible refine HC.out.mono ?_
  rintro e w1 ⟨rfl, hb⟩
  have HR1 := Lib.hid (HR.out.below hb)
  have HB1 := Lib.hid ((HB.out.trans (hb.mono HB.out.size)).alloc (Nat.le_trans HB.out.size hb.size) (.cells (msgC msg0) 36))
  have HM2 := Lib.hid (Has.fresh w1 36 (msgC msg0))
  have HR2 := Lib.hid (HR1.out.past (.cells (msgC msg0) 36))
  clear hb
  go_wp2_with (first | ((with_reducible refine Who.wpList_newC 36 6 (.tmp 12) rfl rfl rfl (msgC msg0) (msgC msg0) ?_); refine And.intro ⟨rfl, rfl, rfl, hal, by rfl, by rfl, info_size _, rfl, msgC_one _⟩ ?_; (try simp only [Act.put, List.setIfInBounds_toArray, List.set_cons_zero, List.set_cons_succ])) | ((with_reducible refine Who.wpList_loadC 36 (.tmp 6) rfl w1.heap.size 0 (msgC msg0) ?_); refine And.intro ⟨by rfl, by rfl, ⟨_, Try.underlying36, rfl⟩, info_size _⟩ (And.intro (Who.has_range HM2.out) ?_); (try simp only [Act.put, List.setIfInBounds_toArray, List.set_cons_zero, List.set_cons_succ])) | ((with_reducible refine Who.wpList_storeC 36 (.tmp 4) (.tmp 27) rfl w.heap.size 0 (msgC msg0) ?_); refine And.intro ⟨rfl, by rfl, by rfl, info_size _, msgC_one _⟩ (And.intro (Who.has_there HR2.out rfl) ?_); (try simp only [Act.put, List.setIfInBounds_toArray, List.set_cons_zero, List.set_cons_succ])))
  refine bodyPost_ret (v := .tuple #[.agg (msgC msg0), .int .i64 200]) (Who.results_cell_tmp Try.results44 _ _ w.heap.size 0 (msgC msg0) _ (by rfl) (Who.has_range (Who.has_over HR2.out rfl)) Try.underlying36 rfl (info_size _)) rfl ⟨rfl, Who.below_setCells HB1.out (Nat.le_refl _) 0 _⟩
set_option maxRecDepth 100000 in
set_option maxHeartbeats 2000000 in
theorem lose_dead (p : Option Addr) (k : Int) (w : World) (h : Dead w p) : Calls Try.prog 46 #[.pointer p, .int .i64 k] w fun e w' => e = .returned (.int .i64 200) ∧ Below w.heap.size w w' := by
  have hal := alloc_msg
  have HC := Lib.hid (take_dead p k w h)
  clear h
  go_enter Try.func46, Try.ntmps46
  go_wp2_with fail
  with_reducible refine HC.out.mono ?_
  rintro e w1 ⟨rfl, hb⟩
  have HB1 := Lib.hid (hb.alloc hb.size (.cells (msgC msg0) 36))
  clear hb
  go_wp2_with ((with_reducible refine Who.wpList_newC 36 5 (.tmp 11) rfl rfl rfl (msgC msg0) (msgC msg0) ?_); refine And.intro ⟨rfl, rfl, rfl, hal, by rfl, by rfl, info_size _, rfl, msgC_one _⟩ ?_; (try simp only [Act.put, List.setIfInBounds_toArray, List.set_cons_zero, List.set_cons_succ]))
  go_ret
  exact ⟨rfl, HB1.out⟩
set_option maxRecDepth 100000 in
set_option maxHeartbeats 2000000 in
theorem double_dead (p : Option Addr) (k : Int) (w : World) (h : Dead w p) : Calls Try.prog 45 #[.pointer p, .int .i64 k] w fun e w' => e = .returned (.int .i64 200) ∧ Below w.heap.size w w' := by
  have hal := alloc_msg
  have HC := Lib.hid (peek_dead p k w h)
  clear h
  go_enter Try.func45, Try.ntmps45
  go_wp2_with fail
  with_reducible refine HC.out.mono ?_
  rintro e w1 ⟨rfl, hb⟩
  have HB1 := Lib.hid (hb.alloc hb.size (.cells (msgC msg0) 36))
  clear hb
  go_wp2_with ((with_reducible refine Who.wpList_newC 36 5 (.tmp 11) rfl rfl rfl (msgC msg0) (msgC msg0) ?_); refine And.intro ⟨rfl, rfl, rfl, hal, by rfl, by rfl, info_size _, rfl, msgC_one _⟩ ?_; (try simp only [Act.put, List.setIfInBounds_toArray, List.set_cons_zero, List.set_cons_succ]))
  go_ret
  exact ⟨rfl, HB1.out⟩
end Go.Proofs.Ytjbbifmjhagfiaa.Nt
