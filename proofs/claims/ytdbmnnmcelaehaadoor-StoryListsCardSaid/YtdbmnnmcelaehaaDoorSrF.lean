/- Rows of texts compared; About of one event; the example. -/
import Derived.Test.YtdbmnnmcelaehaaDoorSrE
import Derived.Great.BuildSlice
namespace Go.Proofs.YtdbmnnmcelaehaaDoor.Sr
open Go.RowKit Go.Proofs.YtdbmnnmcelaehaaDoor.Mem Go.Proofs.YtdbmnnmcelaehaaDoor.Tx
open Go.Proofs.YtdbmnnmcelaehaaDoor.Fc (fitS NodeP LinkP NodeC PieceP XattrP nodeC linkC pieceC xattrC)
open Go.Proofs.YtdbmnnmcelaehaaDoor.Vc (vecC stC eq8 eqv neq_st eql_st)
set_option linter.unusedVariables false set_option linter.unusedSimpArgs false

theorem eqs_own (u v : Value) (a b : Nat) (l k : List ByteArray) (hl : 0 < l.length) (hk : 0 < k.length) (h1 : l.length ≤ 9223372036854775807) (h2 : k.length ≤ 9223372036854775807) (w : World) (hu : OwnS w a u l) (hv : OwnS w b v k) :
    Calls Tryd.prog 7 #[u, v] w fun e w' => e = .returned (.bool (decide (l = k))) ∧ Below w.heap.size w w' := by
  obtain ⟨A, c, rfl, hx⟩ := own_row hu
  obtain ⟨B, d, rfl, hy⟩ := own_row hv
  obtain ⟨g, o, rfl, _, hc⟩ := hx hl
  obtain ⟨g2, o2, rfl, _, hc2⟩ := hy hk
  refine (Tryd.slices_Equal_string g o l.length c g2 o2 k.length d l k w (Nat.le_refl _) (Nat.le_refl _) h1 h2 (fun j hj => by rw [hc j hj]; simp [List.getD, List.getElem?_eq_getElem hj]) (fun j hj => by rw [hc2 j hj]; simp [List.getD, List.getElem?_eq_getElem hj])).mono ?_
  rintro e w' ⟨rfl, q, rfl⟩
  exact ⟨by rw [List.take_length, List.take_length], ⟨rfl, rfl, rfl, Nat.le_refl _, fun _ _ => rfl⟩⟩
theorem own_lit {w : World} {B g : Nat} {l : List ByteArray} {cs : Array Value} (h : Has w g 9 cs) (hg : B ≤ g) (hcs : cs.toList = l.map Value.string) (hl : l.length ≤ 1000) : OwnS w B (.slice (some ⟨g, 0, none⟩) l.length l.length) l :=
  ⟨by rw [List.length_map, Nat.mul_one], .inr ⟨g, l.length, cs, rfl, hg, h, Nat.le_refl _, by unfold maxLen; omega, by rw [Nat.mul_one, ← Array.length_toList, hcs, List.length_map], by rw [hcs, Nat.mul_one]; exact List.take_of_length_le (by rw [List.length_map]; exact Nat.le_refl _)⟩⟩
theorem srow_one {α : Type} {w : World} {k g : Nat} {f : α → Array Value} {t : TypeId} {x : α} (h : Has w g t (f x)) : Fc.SRow w k f (some ⟨g, 0, none⟩) 1 [x] :=
  ⟨rfl, fun _ => ⟨g, 0, rfl, h.bound, fun i hi j v hv => by
    have hi0 : i = 0 := by simp at hi; omega
    subst hi0
    have := h.at_ j
    rw [Nat.zero_mul, Nat.add_zero, Nat.zero_add, this]
    exact hv⟩⟩
theorem info_ev : (Tryd.prog.info? 31).map (fun i => (i.zero, i.size, i.bytes)) = some (some (.agg (Fc.eventC zeroE)), 21, 200) := by kernel_rfl
theorem info_parts_ev : ∃ i, Tryd.prog.info? 31 = some i ∧ i.zero = some (.agg (Fc.eventC zeroE)) ∧ i.size = 21 ∧ i.bytes = 200 := by
  cases hh : Tryd.prog.info? 31 with
  | none => have := info_ev; rw [hh] at this; cases this
  | some i => have := info_ev; rw [hh] at this; simp at this; exact ⟨i, rfl, this⟩
theorem fill_ev (e : Fc.EventC) : Instr.fill (fun i => some (i * 21, 21)) ((Array.range (1 * 21)).map ((Value.agg (Fc.eventC zeroE)).cells[· % (Value.agg (Fc.eventC zeroE)).cells.size]!)) [(0, Value.agg (Fc.eventC e))] = some (Fc.eventC e) := by kernel_rfl
theorem wpList_build_ev {ops : Array Oper} {rest : List Oper} {o : Oper} {a : Act} {w : World} {Q : Exit → Act → World → Prop} (x : Operand) (ho : o.op = .buildSlice 38 1 #[(0, x)]) (e : Fc.EventC)
    (h : (o.guard = none ∧ a.eval x = .agg (Fc.eventC e)) ∧ wpList Tryd.prog ops Q rest (a.put o.dst (.slice (some ⟨w.heap.size, 0, none⟩) 1 1)) (w.alloc (.cells (Fc.eventC e) 31))) : wpList Tryd.prog ops Q (o :: rest) a w := by
  obtain ⟨⟨h1, h2⟩, h3⟩ := h
  obtain ⟨i, q0, q1, q2, q3⟩ := info_parts_ev
  refine wpList_buildSlice h1 38 31 1 _ ho (Fc.eventC e) i _ Tryd.underlying38 q0 q1 (by omega) (by omega) ?_ h3
  have e1 : (#[(0, x)] : Array (Nat × Operand)).map (fun (i, x) => (i, a.eval x)) = #[(0, .agg (Fc.eventC e))] := by simp [h2]
  rw [e1, q2]
  exact fill_ev e
def eL (e : Fc.EventC) : List Value := (Fc.eventC e).toList
def EOwn (w : World) (B : Nat) (v : Value) (es : List Fc.EventC) : Prop := w.ownsRow B 31 21 v es.length (es.flatMap eL)
structure GrewE (B : Nat) (w w' : World) (u u' : Value) (es : List Fc.EventC) (e : Fc.EventC) : Prop where
  row : EOwn w' B u' (es ++ [e])
  below : Below B w w'
  chg : Chg (fun k => u.ownBlock = some k) w w'
  sl : ∃ A c, u' = .slice A (es.length + 1) c
theorem wpl_event {ops : Array Oper} {rest : List Oper} {o : Oper} {a : Act} {Q : Exit → Act → World → Prop} (s x : Operand) (hgd : o.guard = none)
    (ho : o.op = .call { callee := .builtin .append, args := #[s, x], argTypes := #[38, 38] }) {B : Nat} {u : Value} {es : List Fc.EventC} {wc : World} {e : Fc.EventC}
    (h : ((a.eval s = u ∧ (∃ g : Nat, a.eval x = .slice (some ⟨g, 0, none⟩) 1 1 ∧ g = wc.heap.size)) ∧ EOwn wc B u es ∧ B ≤ wc.heap.size ∧ es.length ≤ 4000000) ∧
      ∀ u' w', GrewE B wc w' u u' es e → wpList Tryd.prog ops Q rest (a.put o.dst u') w') :
    wpList Tryd.prog ops Q (o :: rest) a (wc.alloc (.cells (Fc.eventC e) 31)) := by
  obtain ⟨⟨⟨h1, g0, h2, rfl⟩, h3, h4, h5⟩, hk⟩ := h
  obtain ⟨i0, hi, hz0, hz1, hz2⟩ := info_parts_ev
  refine wpList_append_lies _ hgd s x 38 ho B 31 i0 (.agg (Fc.eventC zeroE)) 21 200 Tryd.underlying38 hi hz0 hz1 hz2 rfl (by decide) u es.length (es.flatMap eL) h1 (World.ownsRow.alloc h3 _) ⟨wc.heap.size, 0, none⟩ 1 1 (eL e) h2 rfl ?_ ?_ (by decide) (by unfold maxLen; omega) (by omega) (by simp; omega) _ rfl ?_
  · exact World.news_of_block (Has.fresh wc 31 (Fc.eventC e))
  · exact fun u hu => (Array.all_eq_true_iff_forall_mem.1 (event_one e)) u (by simpa [eL] using hu)
  · intro g cap w' hg hgr hor hlt
    refine hk _ _ ⟨?_, ?_, ?_, ⟨_, _, rfl⟩⟩
    · unfold EOwn
      rw [List.length_append, List.flatMap_append]
      simpa using hg
    · exact ((Below.refl B wc).alloc h4 _).grown hgr (by simp; omega) (fun q hq => ((World.ownsRow.lt h3) q hq).1)
    · have c : Chg (fun k => u.ownBlock = some k) (wc.alloc (.cells (Fc.eventC e) 31)) w' := ⟨hgr.os, hgr.tape, hgr.output, hgr.size, fun k hk hn => hgr.block k hk (fun e => hn e.symm)⟩
      exact ((Chg.refl _ wc).alloc _).trans c
set_option maxRecDepth 100000 in
theorem about1_any (x : NodeC) (id : Int × Int) (g : Nat) (w : World) (h : Has w g 23 #[.int .i64 id.1, .int .i64 id.2]) : Calls Tryd.prog 38 #[.agg (nodeC x), .pointer (some ⟨g, 0, none⟩)] w fun e w' => e = .returned (.bool (x.p.id.1 == id.1 && x.p.id.2 == id.2)) ∧ Below w.heap.size w w' := by
  have hb0 := (Below.refl w.heap.size w).alloc (Nat.le_refl _) (.cells (nodeC x) 62)
  have HB0 := Lib.hid hb0
  have HX := Lib.hid (Has.fresh w 62 (nodeC x))
  have HG := Lib.hid (h.past (.cells (nodeC x) 62))
  have hq := fun W => eql_st x.p.id.1 x.p.id.2 id.1 id.2 W
  unfold stC at hq
  clear hb0 h
  go_enter Tryd.func38, Tryd.ntmps38
  go_wp2_with (first | ((with_reducible refine Who.wpList_loadC 23 (.tmp 4) rfl w.heap.size 0 (#[.int .i64 x.p.id.1, .int .i64 x.p.id.2]) ?_); refine And.intro ⟨by rfl, by rfl, ⟨_, Tryd.underlying23, rfl⟩, info_st⟩ (And.intro (nid_range HX.out) ?_); (try simp only [Act.put, List.setIfInBounds_toArray, List.set_cons_zero, List.set_cons_succ])) | ((with_reducible refine Who.wpList_loadC 23 (.tmp 1) rfl g 0 (#[.int .i64 id.1, .int .i64 id.2]) ?_); refine And.intro ⟨by rfl, by rfl, ⟨_, Tryd.underlying23, rfl⟩, info_st⟩ (And.intro (Who.has_range HG.out) ?_); (try simp only [Act.put, List.setIfInBounds_toArray, List.set_cons_zero, List.set_cons_succ])) | fail)
  go_ret
  exact ⟨rfl, HB0.out⟩
set_option maxRecDepth 100000 in
set_option maxHeartbeats 2000000 in
theorem index_one (A : Option Addr) (c : Nat) (x : NodeC) (id : Int × Int) (g : Nat) (w : World) (hr : Fc.SRow w 13 nodeC A 1 [x]) (h : Has w g 23 #[.int .i64 id.1, .int .i64 id.2]) (hid : x.p.id = id) : Calls Tryd.prog 54 #[.slice A 1 c, .func (.func 38) #[] #[.pointer (some ⟨g, 0, none⟩)]] w fun e w' => e = .returned (.int .i64 0) ∧ Below w.heap.size w w' := by
  obtain ⟨b, off, rfl, hb, hx, mr⟩ := hr.range (i := 0) (by omega)
  have MR := Lib.hid (show w.rangeAt b off (nodeC x).toList by have q := mr; rw [Nat.zero_mul, Nat.add_zero] at q; exact q)
  have hz := about1_any x id g w h
  rw [show (x.p.id.1 == id.1 && x.p.id.2 == id.2) = true by rw [hid]; simp] at hz
  have HZ := Lib.hid hz
  clear hz hr h hid hx mr hb
  go_enter Tryd.func54, Tryd.ntmps54
  go_wp2
  go_loopw [8] (fun i wr => i = .int .i64 0 ∧ Hid (wr = w)) (fun i _ => 1 - (intOf i).toNat)
  case atStart => exact ⟨rfl, Lib.hid rfl⟩
  case round =>
    obtain ⟨rfl, HE⟩ := hrel
    have hwe := HE.out
    subst hwe
    clear HE
    go_wp2_with (first | ((with_reducible refine Who.wpList_loadC 62 (.tmp 14) rfl b off (nodeC x) ?_); refine And.intro ⟨by rfl, by rfl, ⟨_, Tryd.underlying62, rfl⟩, info_inode⟩ (And.intro (MR.out) ?_); (try simp only [Act.put, List.setIfInBounds_toArray, List.set_cons_zero, List.set_cons_succ])) | fail)
    refine HZ.out.mono ?_
    rintro e w2 ⟨rfl, hb⟩
    have HB := Lib.hid hb
    clear hb
    go_wp2
    go_ret
    exact ⟨rfl, HB.out⟩
set_option maxRecDepth 100000 in
theorem contains_one (A : Option Addr) (c : Nat) (x : NodeC) (id : Int × Int) (g : Nat) (w : World) (hr : Fc.SRow w 13 nodeC A 1 [x]) (h : Has w g 23 #[.int .i64 id.1, .int .i64 id.2]) (hid : x.p.id = id) : Calls Tryd.prog 41 #[.slice A 1 c, .func (.func 38) #[] #[.pointer (some ⟨g, 0, none⟩)]] w fun e w' => e = .returned (.bool true) ∧ Below w.heap.size w w' := by
  have HI := Lib.hid (index_one A c x id g w hr h hid)
  clear hr h hid
  go_enter Tryd.func41, Tryd.ntmps41
  go_wp2_with fail
  refine HI.out.mono ?_
  rintro e w2 ⟨rfl, hb⟩
  have HB := Lib.hid hb
  clear hb
  go_wp2
  go_ret
  exact ⟨rfl, HB.out⟩
/-- A row of one is answered. -/
def LenOne (e : Ending) : Prop := ∃ A c, e = .returned (.slice A 1 c)
set_option maxRecDepth 100000 in
set_option maxHeartbeats 4000000 in
theorem about_one (A : Option Addr) (c : Nat) (ev : Fc.EventC) (x : NodeC) (id : Int × Int) (w : World) (hr : Fc.SRow w 21 Fc.eventC A 1 [ev]) (hn : Fc.SRow w 13 nodeC ev.d.A1 1 [x]) (hn1 : ev.d.n1 = 1) (hid : x.p.id = id) : Calls Tryd.prog 15 #[.slice A 1 c, .agg #[.int .i64 id.1, .int .i64 id.2]] w fun e w' => LenOne e ∧ Below w.heap.size w w' := by
  obtain ⟨b, off, rfl, hb, hx, mr⟩ := hr.range (i := 0) (by omega)
  have hb0 := (Below.refl w.heap.size w).alloc (Nat.le_refl _) (.cells #[.int .i64 id.1, .int .i64 id.2] 23)
  have HB0 := Lib.hid hb0
  have MR := Lib.hid (show (w.alloc (.cells #[.int .i64 id.1, .int .i64 id.2] 23)).rangeAt b off (Fc.eventC ev).toList by have q := Fc.row_range_below mr hb0 hb; rw [Nat.zero_mul, Nat.add_zero] at q; exact q)
  have HG := Lib.hid (Has.fresh w 23 #[.int .i64 id.1, .int .i64 id.2])
  have hb1 := hb0.alloc hb0.size (.cells (Fc.eventC ev) 31)
  have HB1 := Lib.hid hb1
  have HE := Lib.hid (Has.fresh (w.alloc (.cells #[.int .i64 id.1, .int .i64 id.2] 23)) 31 (Fc.eventC ev))
  have HC := Lib.hid (contains_one ev.d.A1 ev.d.c1 x id w.heap.size _ (hn.below hb1) (HG.out.past (.cells (Fc.eventC ev) 31)) hid)
  have c19 : ((w.alloc (.cells #[.int .i64 id.1, .int .i64 id.2] 23)).alloc (.cells (Fc.eventC ev) 31)).cell? ⟨w.heap.size + 1, 19, none⟩ = some (.slice ev.d.A1 1 ev.d.c1) := by
    have q := HE.out.at_ 19
    rw [World.size_alloc] at q
    rw [q]
    show some (Value.slice ev.d.A1 ev.d.n1 ev.d.c1) = _
    rw [hn1]
  have HEQ := Lib.hid (show Has ((w.alloc (.cells #[.int .i64 id.1, .int .i64 id.2] 23)).alloc (.cells (Fc.eventC ev) 31)) (w.heap.size + 1) 31 (Fc.eventC ev) by have q := HE.out; rw [World.size_alloc] at q; exact q)
  have halv := alloc_event
  clear hb0 hb1 hr hn hn1 hid hx mr hb HE
  go_enter Tryd.func15, Tryd.ntmps15
  go_wp2
  go_loopw [7, 14] (fun a i wr => (i = .int .i64 0 ∧ a = .slice none 0 0 ∧ Hid (wr = w.alloc (.cells #[.int .i64 id.1, .int .i64 id.2] 23))) ∨ (i = .int .i64 1 ∧ (∃ A c, a = .slice A 1 c) ∧ Hid (Below w.heap.size w wr))) (fun _ i _ => 1 - (intOf i).toNat)
  case atStart => exact .inl ⟨rfl, rfl, Lib.hid rfl⟩
  case round =>
    rcases hrel with ⟨rfl, rfl, HW⟩ | ⟨rfl, ⟨A2, c2, rfl⟩, HW⟩
    · have hwe := HW.out
      subst hwe
      clear HW
      go_wp2_with (first | ((with_reducible refine Who.wpList_loadC 31 (.tmp 16) rfl b off (Fc.eventC ev) ?_); refine And.intro ⟨by rfl, by rfl, ⟨_, Tryd.underlying31, rfl⟩, info_event⟩ (And.intro (MR.out) ?_); (try simp only [Act.put, List.setIfInBounds_toArray, List.set_cons_zero, List.set_cons_succ])) | ((with_reducible refine Who.wpList_newC 31 9 (.tmp 17) rfl rfl rfl (Fc.eventC zeroE) (Fc.eventC ev) ?_); refine And.intro ⟨rfl, rfl, rfl, halv, by rfl, by rfl, info_event, rfl, event_one _⟩ ?_; (try simp only [Act.put, List.setIfInBounds_toArray, List.set_cons_zero, List.set_cons_succ]); (try simp only [World.size_alloc])) | fail)
      refine HC.out.mono ?_
      rintro e w2 ⟨rfl, hb⟩
      have HB2 := Lib.hid (HB1.out.trans (hb.mono HB1.out.size))
      have HE2 := Lib.hid (HEQ.out.below hb)
      clear hb c19
      go_wp2_with (first | ((with_reducible refine Who.wpList_loadC 31 (.tmp 9) rfl (w.heap.size + 1) 0 (Fc.eventC ev) ?_); refine And.intro ⟨by rfl, by rfl, ⟨_, Tryd.underlying31, rfl⟩, info_event⟩ (And.intro (Who.has_range HE2.out) ?_); (try simp only [Act.put, List.setIfInBounds_toArray, List.set_cons_zero, List.set_cons_succ])) | ((with_reducible refine wpList_build_ev (.tmp 31) rfl ev ?_); refine And.intro ⟨rfl, by rfl⟩ ?_; (try simp only [Act.put, List.setIfInBounds_toArray, List.set_cons_zero, List.set_cons_succ])) | (at_builtin; (with_reducible refine wpl_event (B := w.heap.size) (u := .slice none 0 0) (es := []) (e := ev) (.tmp 30) (.tmp 32) rfl rfl ?_); refine And.intro ⟨⟨by rfl, ⟨_, by rfl, by simp⟩⟩, ⟨rfl, .inl ⟨rfl, rfl⟩⟩, HB2.out.size, Nat.zero_le _⟩ ?_))
      intro u3 w3 hg
      obtain ⟨A3, c3, rfl⟩ := hg.sl
      have HB3 := Lib.hid (HB2.out.trans hg.below)
      clear hg
      go_wp2
      go_roundw
      case rel => exact .inr ⟨by go_num, ⟨_, _, rfl⟩, HB3⟩
      case measure => simp [intOf]
    · go_wp2
      go_ret
      exact ⟨⟨_, _, rfl⟩, HW.out⟩
end Go.Proofs.YtdbmnnmcelaehaaDoor.Sr
