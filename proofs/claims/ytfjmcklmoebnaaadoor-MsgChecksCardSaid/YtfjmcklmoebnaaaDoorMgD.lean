import Derived.Test.YtfjmcklmoebnaaaDoorMgB
import Derived.Test.YtfjmcklmoebnaaaDoorVcSee2
import Derived.Test.YtfjmcklmoebnaaaDoorStBase
import Derived.Test.YtfjmcklmoebnaaaDoorOctGot

/- What an eye sees of a message: the model; the program's see. -/
namespace Go.Proofs.YtfjmcklmoebnaaaDoor.Mg
open Go.RowKit Go.Proofs.YtfjmcklmoebnaaaDoor.Mem Go.Proofs.YtfjmcklmoebnaaaDoor.Nt
open Go.Proofs.YtfjmcklmoebnaaaDoor.Oct (Looks Sight own gotNum gotText Got)
open Go.Proofs.YtfjmcklmoebnaaaDoor.Vc (seeV vecC)
set_option linter.unusedVariables false set_option linter.unusedSimpArgs false

abbrev ParX (α : Type) := Except Int (α × ByteArray)
def bnd {α β : Type} (x : ParX α) (f : α → ByteArray → ParX β) : ParX β := match x with | .ok (a, r) => f a r | .error y => .error y
theorem bnd_ok {α β : Type} {x : ParX α} {f : α → ByteArray → ParX β} {a : α} {r : ByteArray} (h : x = .ok (a, r)) : bnd x f = f a r := by rw [h]; rfl
theorem bnd_err {α β : Type} {x : ParX α} {f : α → ByteArray → ParX β} {y : Int} (h : x = .error y) : bnd x f = .error y := by rw [h]; rfl
def gN (r : ByteArray) (k : Int) : ParX Int := match gotNum r k with | .num v q => .ok (v, q) | .bad _ y => .error y | .txt _ _ => .error 1
def gT (r : ByteArray) (k : Int) : ParX ByteArray := match gotText r k with | .txt v q => .ok (v, q) | .bad _ y => .error y | .num _ _ => .error 1
def gV (r : ByteArray) : ParX (Nat → Int) := if 48 ≤ r.size ∧ Vc.goodB (seeV r) = true then .ok (seeV r, r.extract 48 r.size) else .error 201
def gM2 (a : Int) (r : ByteArray) : ParX (Int × Int) := bnd (gN r 6) fun b r => .ok ((a, b), r)
def gM (r : ByteArray) : ParX (Int × Int) := bnd (gN r 6) gM2
def tl5 (m : MsgP) (r : ByteArray) : ParX MsgP := bnd (gT r 512) fun d r => .ok ({ m with data := d }, r)
def tl4 (m : MsgP) (r : ByteArray) : ParX MsgP := if m.kind = 2 then bnd (gN r 2) fun n r => tl5 { m with tot := n } r else .ok (m, r)
def tl3 (m : MsgP) (r : ByteArray) : ParX MsgP := bnd (gN r 2) fun n r => tl4 { m with ix := n } r
def tl2 (m : MsgP) (r : ByteArray) : ParX MsgP := bnd (gM r) fun k r => if m.kind = 4 then .ok ({ m with mark := k }, r) else tl3 { m with mark := k } r
def tl1 (m : MsgP) (r : ByteArray) : ParX MsgP := if m.kind = 1 ∨ m.kind = 2 then bnd (gM r) fun k r => tl2 { m with base := k } r else if m.kind = 4 then tl2 m r else .ok (m, r)
def hdM (k f t v : Int) : MsgP := { msg0 with kind := k, fr := f, to := t, vol := v }
def sn4 (k f t v : Int) (r : ByteArray) : ParX MsgP := bnd (gV r) fun z r => tl1 { hdM k f t v with seen := z } r
def sn3 (k f t : Int) (r : ByteArray) : ParX MsgP := bnd (gN r 1) (sn4 k f t)
def sn2 (k f : Int) (r : ByteArray) : ParX MsgP := bnd (gN r 1) (sn3 k f)
def sn1 (k : Int) (r : ByteArray) : ParX MsgP := bnd (gN r 1) (sn2 k)
def seeP (r : ByteArray) : ParX MsgP := bnd (gN r 1) sn1
/-- What a call that looks comes to. -/
def VX {α : Type} (V : α → Value) (X : ParX α) (q s : Nat) (w : World) (e : Ending) (w' : World) : Prop :=
  match X with
  | .ok (a, r) => e = .returned (V a) ∧ Looks w' q s r ∧ Oct.Chg (· = s) w w'
  | .error y => e = .panicked (own s) ∧ (∃ r, Sight w' s r true y) ∧ Oct.Chg (· = s) w w'
theorem num_x (k : Int) (q s : Nat) (r : ByteArray) (hqs : q ≠ s) (w : World) (h : Looks w q s r) : Calls Tryd.prog 68 #[.pointer (some ⟨q, 0, none⟩), .int .i64 k] w (VX (fun v => .int .i64 v) (gN r k) q s w) := by
  refine (Oct.num_got q s k r hqs w h).mono fun e w' hd => ?_
  unfold gN
  cases hg : gotNum r k with
  | num v r1 => rw [hg] at hd; exact hd
  | bad r1 y => rw [hg] at hd; exact ⟨hd.1, ⟨r1, hd.2.1⟩, hd.2.2⟩
  | txt v r1 =>
    exfalso
    unfold gotNum at hg
    repeat' split at hg
    all_goals cases hg
theorem text_x (k : Int) (q s : Nat) (r : ByteArray) (hqs : q ≠ s) (w : World) (h : Looks w q s r) : Calls Tryd.prog 71 #[.pointer (some ⟨q, 0, none⟩), .int .i64 k] w (VX (fun v => .string v) (gT r k) q s w) := by
  refine (Oct.text_got q s k r hqs w h).mono fun e w' hd => ?_
  unfold gT
  cases hg : gotText r k with
  | txt v r1 => rw [hg] at hd; exact hd
  | bad r1 y => rw [hg] at hd; exact ⟨hd.1, ⟨r1, hd.2.1⟩, hd.2.2⟩
  | num v r1 =>
    exfalso
    unfold gotText at hg
    repeat' split at hg
    all_goals cases hg
theorem vec_x (q s : Nat) (r : ByteArray) (hqs : q ≠ s) (w : World) (h : Looks w q s r) : Calls Tryd.prog 69 #[.pointer (some ⟨q, 0, none⟩)] w (VX (fun z => .agg (vecC z)) (gV r) q s w) := by
  unfold gV
  by_cases hg : 48 ≤ r.size ∧ Vc.goodB (seeV r) = true
  · rw [if_pos hg]
    exact Vc.see_ok q s r hg.1 hg.2 hqs w h
  · rw [if_neg hg]
    refine (Vc.see_bad q s r ?_ hqs w h).mono fun e w' hd => ?_
    · by_cases h8 : r.size < 48
      · exact .inl h8
      · refine .inr ?_
        cases hb : Vc.goodB (seeV r) with
        | false => rfl
        | true => exact absurd ⟨by omega, hb⟩ hg
    · obtain ⟨e1, r1, h1, h2⟩ := hd
      exact ⟨e1, ⟨r1, h1⟩, h2⟩
theorem looks_over {S : Nat → Prop} {w w' : World} {q s : Nat} {r : ByteArray} (h : Looks w q s r) (hc : Chg S w w') (hq : ¬ S q) (hs : ¬ S s) : Looks w' q s r := ⟨Oct.Has.over h.eye (Oct.Chg.of hc) hq, Oct.Has.over h.sight (Oct.Chg.of hc) hs⟩
structure SeeI (w W : World) (q s : Nat) (r : ByteArray) : Prop where
  looks : Looks W q s r
  chg : Oct.Chg (· = s) w W
  lo : q < w.heap.size ∧ s < w.heap.size
theorem SeeI.start {w : World} {q s : Nat} {r : ByteArray} (h : Looks w q s r) : SeeI w w q s r := ⟨h, Oct.Chg.refl _ _, h.eye.bound, Oct.Has.bound h.sight⟩
theorem SeeI.got {w W W' : World} {q s : Nat} {r r' : ByteArray} (h : SeeI w W q s r) (hl : Looks W' q s r') (hc : Oct.Chg (· = s) W W') : SeeI w W' q s r' := ⟨hl, h.chg.trans hc, h.lo⟩
theorem SeeI.alloc {w W : World} {q s : Nat} {r : ByteArray} (h : SeeI w W q s r) (o : Obj) : SeeI w (W.alloc o) q s r := ⟨Vc.Looks.past h.looks o, h.chg.alloc o, h.lo⟩
theorem SeeI.put {w W W' : World} {q s g : Nat} {r : ByteArray} (h : SeeI w W q s r) (hc : Chg (· = g) W W') (hg : w.heap.size ≤ g) : SeeI w W' q s r :=
  ⟨looks_over h.looks hc (by have := h.lo; omega) (by have := h.lo; omega), h.chg.step (Oct.Chg.of hc) (fun i hi e => by omega), h.lo⟩
theorem SeeI.low {w W W' : World} {q s : Nat} {r : ByteArray} (h : SeeI w W q s r) (hb : Below W.heap.size W W') : SeeI w W' q s r := ⟨Vc.Looks.below h.looks hb, h.chg.trans (Oct.Chg.of (Chg.of_below hb _)), h.lo⟩
theorem SeeI.size {w W : World} {q s : Nat} {r : ByteArray} (h : SeeI w W q s r) : w.heap.size ≤ W.heap.size := h.chg.size
theorem has_got {W W' : World} {g s : Nat} {t : TypeId} {cs : Array Value} (h : Has W g t cs) (hc : Oct.Chg (· = s) W W') (hg : g ≠ s) : Has W' g t cs := h.over hc.to hg
theorem wpList_storeM {P : Program} {ops : Array Oper} {rest : List Oper} {op : Oper} {a : Act} {w : World} {Q : Exit → Act → World → Prop} (ty : TypeId) (x y : Operand) (ho : op.op = .store ty x y) (b o : Nat) (t : TypeId) (C0 C C1 : Array Value)
    (h : (op.guard = none ∧ a.eval x = .pointer (some ⟨b, o, none⟩) ∧ a.eval y = .agg C ∧ (P.info? ty).map (·.size) = some C.size ∧ C.all (·.oneCell') = true ∧ o + C.size ≤ C0.size ∧ Lib.lay C0 o C.toList = C1 ∧ Has w b t C0) ∧ ∀ W', Hid (Has W' b t C1) → Hid (Chg (· = b) w W') → wpList P ops Q rest (a.put op.dst undef) W') : wpList P ops Q (op :: rest) a w := by
  obtain ⟨⟨h1, h2, h3, h4, h5, h6, h7, h8⟩, h9⟩ := h
  refine Who.wpList_storeC ty x y ho b o C ⟨⟨h1, h2, h3, h4, h5⟩, fun j hj => ?_, h9 _ (Lib.hid ?_) (Lib.hid (Who.chg_setCells b C.toList o w))⟩
  · rw [h8.at_ (o + j)]
    exact ⟨by simp; omega, h8.free _⟩
  · have k := Who.has_setCells C.toList o w C0 h8
    rw [h7] at k
    exact k
theorem mark_size (a b : Int) : (Tryd.prog.info? 23).map (·.size) = some (#[.int .i64 a, .int .i64 b] : Array Value).size := info_mark
theorem mark_one (a b : Int) : (#[.int .i64 a, .int .i64 b] : Array Value).all (·.oneCell') = true := by simp [Value.oneCell']
theorem vec_size (z : Nat → Int) : (Tryd.prog.info? 25).map (·.size) = some (vecC z).size := info_vec
theorem vec_one (z : Nat → Int) : (vecC z).all (·.oneCell') = true := by simp [vecC, Value.oneCell']
theorem results_two {P : Program} {fn : Func} {p : Tmp} {t : TypeId} (hr : fn.results = #[.cell p t]) (tmps : Array Value) (w : World) (b : Nat) (C : Array Value) (d : TypeDesc) (hp : tmps.getD p undef = .pointer (some ⟨b, 0, none⟩)) (hc : Has w b t C) (hu : P.underlying t = some d) (hd : d.isRow = true) (hi : (P.info? t).map (·.size) = some C.size) : (results fn tmps).run P w = .ok (.agg C) w := Who.results_cell hr tmps w b 0 C d hp (Who.has_range hc) hu hd hi
theorem alloc_mark (w : World) : (Instr.alloc 23 true (.tuple #[])).run Tryd.prog w = .ok (.pointer (some ⟨w.heap.size, 0, none⟩)) (w.alloc (.cells #[.int .i64 0, .int .i64 0] 23)) := by
  have hz := Tryd.zeroValue23
  go_simp
set_option maxRecDepth 100000 in
set_option maxHeartbeats 2000000 in
theorem mark_x (q s : Nat) (r : ByteArray) (hqs : q ≠ s) (w : World) (h : Looks w q s r) : Calls Tryd.prog 70 #[.pointer (some ⟨q, 0, none⟩)] w (VX (fun k => .agg #[.int .i64 k.1, .int .i64 k.2]) (gM r) q s w) := by
  have HI := Lib.hid ((SeeI.start h).alloc (.cells #[.int .i64 0, .int .i64 0] 23))
  have HG := Lib.hid (Has.fresh w 23 #[.int .i64 0, .int .i64 0])
  have HQ := Lib.hid hqs
  have HN := Lib.hid (num_x 6 q s r hqs _ HI.out.looks)
  have hal := alloc_mark
  have HGS := Lib.hid (show w.heap.size ≠ s by have := HI.out.lo; omega)
  clear h hqs
  go_enter Tryd.func70, Tryd.ntmps70
  cases hx : gN r 6 with
  | error y =>
    have HXE := Lib.hid (show gM r = .error y from bnd_err hx)
    rw [hx] at HN
    go_wp2_with fail
    refine HN.out.mono ?_
    rintro e w1 ⟨rfl, h1, h2⟩
    have HE := Lib.hid (show VX (fun k : Int × Int => Value.agg #[.int .i64 k.1, .int .i64 k.2]) (gM r) q s w (.panicked (own s)) w1 from by rw [HXE.out]; exact ⟨rfl, h1, HI.out.chg.trans h2⟩)
    clear h1 h2
    go_wp2
    show _ ∧ _
    exact ⟨rfl, HE.out⟩
  | ok a =>
    obtain ⟨a, r1⟩ := a
    have HX1 := Lib.hid (show gM r = gM2 a r1 from bnd_ok hx)
    rw [hx] at HN
    clear hx
    go_wp2_with fail
    refine HN.out.mono ?_
    rintro e w1 ⟨rfl, h1, h2⟩
    have HI1 := Lib.hid (HI.out.got h1 h2)
    have HG1 := Lib.hid (has_got HG.out h2 HGS.out)
    have HN2 := Lib.hid (num_x 6 q s r1 HQ.out _ h1)
    clear h1 h2 HN
    cases hx : gN r1 6 with
    | error y =>
      have HXE := Lib.hid (show gM r = .error y from HX1.out.trans (bnd_err hx))
      rw [hx] at HN2
      go_wp2_with fail
      refine HN2.out.mono ?_
      rintro e w2 ⟨rfl, h1, h2⟩
      have HE := Lib.hid (show VX (fun k : Int × Int => Value.agg #[.int .i64 k.1, .int .i64 k.2]) (gM r) q s w (.panicked (own s)) w2 from by rw [HXE.out]; exact ⟨rfl, h1, HI1.out.chg.trans h2⟩)
      clear h1 h2
      go_wp2
      show _ ∧ _
      exact ⟨rfl, HE.out⟩
    | ok b =>
      obtain ⟨b, r2⟩ := b
      have HX2 := Lib.hid (show gM r = .ok ((a, b), r2) from HX1.out.trans (bnd_ok hx))
      rw [hx] at HN2
      clear hx
      go_wp2_with fail
      refine HN2.out.mono ?_
      rintro e w2 ⟨rfl, h1, h2⟩
      have HI2 := Lib.hid (HI1.out.got h1 h2)
      have HG2 := Lib.hid (has_got HG1.out h2 HGS.out)
      clear h1 h2 HN2
      go_wp2_with ((with_reducible refine wpList_storeM 23 (.tmp 2) (.tmp 7) rfl w.heap.size 0 23 #[.int .i64 0, .int .i64 0] #[.int .i64 a, .int .i64 b] #[.int .i64 a, .int .i64 b] ?_); refine And.intro ⟨rfl, by rfl, by rfl, mark_size _ _, mark_one _ _, of_decide_eq_true rfl, rfl, HG2.out⟩ ?_; intro W5 HX5 HC5; (try simp only [Act.put, List.setIfInBounds_toArray, List.set_cons_zero, List.set_cons_succ]))
      refine bodyPost_ret (v := .agg #[.int .i64 a, .int .i64 b]) (results_two Tryd.results70 _ _ w.heap.size _ _ (by rfl) HX5.out Tryd.underlying23 rfl (mark_size _ _)) rfl ?_
      have HI3 := HI2.out.put HC5.out (Nat.le_refl _)
      rw [HX2.out]
      exact ⟨rfl, HI3.looks, HI3.chg⟩
end Go.Proofs.YtfjmcklmoebnaaaDoor.Mg
/- What an eye sees of a message: the program's see, walked. -/
namespace Go.Proofs.YtfjmcklmoebnaaaDoor.Mg
open Go.RowKit Go.Proofs.YtfjmcklmoebnaaaDoor.Mem Go.Proofs.YtfjmcklmoebnaaaDoor.Nt
open Go.Proofs.YtfjmcklmoebnaaaDoor.Oct (Looks Sight own gotNum gotText Got)
open Go.Proofs.YtfjmcklmoebnaaaDoor.Vc (seeV vecC)
set_option linter.unusedVariables false set_option linter.unusedSimpArgs false

set_option maxRecDepth 100000 in
set_option maxHeartbeats 16000000 in
theorem see_x (q s : Nat) (r : ByteArray) (hqs : q ≠ s) (w : World) (h : Looks w q s r) : Calls Tryd.prog 47 #[.pointer (some ⟨q, 0, none⟩)] w (VX (fun m => .agg (msgC m)) (seeP r) q s w) := by
  have HI0 := Lib.hid ((SeeI.start h).alloc (.cells (msgC msg0) 27))
  have HG0 := Lib.hid (Has.fresh w 27 (msgC msg0))
  have HQ := Lib.hid hqs
  have HN0 := Lib.hid (num_x 1 q s r hqs _ HI0.out.looks)
  have hal := alloc_msg
  have HGS := Lib.hid (show w.heap.size ≠ s by have := HI0.out.lo; omega)
  have HX0 := Lib.hid (show seeP r = bnd (gN r 1) sn1 from rfl)
  clear h hqs
  go_enter Tryd.func47, Tryd.ntmps47
  cases hx : gN r 1 with
  | error y =>
    have HXE := Lib.hid (show seeP r = .error y from bnd_err hx)
    rw [hx] at HN0
    go_wp2_with fail
    refine HN0.out.mono ?_
    rintro e wx ⟨rfl, h1, h2⟩
    have HE := Lib.hid (show VX (fun m => Value.agg (msgC m)) (seeP r) q s w (.panicked (own s)) wx from by rw [HXE.out]; exact ⟨rfl, h1, HI0.out.chg.trans h2⟩)
    clear h1 h2
    go_wp2
    show _ ∧ _
    exact ⟨rfl, HE.out⟩
  | ok a =>
    obtain ⟨k, r1⟩ := a
    have HX1 := Lib.hid (show seeP r = sn1 k r1 from HX0.out.trans (bnd_ok hx))
    rw [hx] at HN0
    clear hx
    go_wp2_with ((with_reducible refine Who.wpList_alloc 27 2 rfl rfl rfl (msgC msg0) hal ?_); (try simp only [Act.put, List.setIfInBounds_toArray, List.set_cons_zero, List.set_cons_succ]); (try simp only [World.size_alloc]))
    refine HN0.out.mono ?_
    rintro e w1 ⟨rfl, h1, h2⟩
    have HI1 := Lib.hid (HI0.out.got h1 h2)
    have HG1 := Lib.hid (has_got HG0.out h2 HGS.out)
    have HN1 := Lib.hid (num_x 1 q s r1 HQ.out _ h1)
    clear h1 h2 HN0
    cases hx : gN r1 1 with
    | error y =>
      have HXE := Lib.hid (show seeP r = .error y from HX1.out.trans (bnd_err hx))
      rw [hx] at HN1
      go_wp2_with fail
      refine HN1.out.mono ?_
      rintro e wx ⟨rfl, h1, h2⟩
      have HE := Lib.hid (show VX (fun m => Value.agg (msgC m)) (seeP r) q s w (.panicked (own s)) wx from by rw [HXE.out]; exact ⟨rfl, h1, HI1.out.chg.trans h2⟩)
      clear h1 h2
      go_wp2
      show _ ∧ _
      exact ⟨rfl, HE.out⟩
    | ok a =>
      obtain ⟨f, r2⟩ := a
      have HX2 := Lib.hid (show seeP r = sn2 k f r2 from HX1.out.trans (bnd_ok hx))
      rw [hx] at HN1
      clear hx
      go_wp2_with fail
      refine HN1.out.mono ?_
      rintro e w2 ⟨rfl, h1, h2⟩
      have HI2 := Lib.hid (HI1.out.got h1 h2)
      have HG2 := Lib.hid (has_got HG1.out h2 HGS.out)
      have HN2 := Lib.hid (num_x 1 q s r2 HQ.out _ h1)
      clear h1 h2 HN1
      cases hx : gN r2 1 with
      | error y =>
        have HXE := Lib.hid (show seeP r = .error y from HX2.out.trans (bnd_err hx))
        rw [hx] at HN2
        go_wp2_with fail
        refine HN2.out.mono ?_
        rintro e wx ⟨rfl, h1, h2⟩
        have HE := Lib.hid (show VX (fun m => Value.agg (msgC m)) (seeP r) q s w (.panicked (own s)) wx from by rw [HXE.out]; exact ⟨rfl, h1, HI2.out.chg.trans h2⟩)
        clear h1 h2
        go_wp2
        show _ ∧ _
        exact ⟨rfl, HE.out⟩
      | ok a =>
        obtain ⟨t, r3⟩ := a
        have HX3 := Lib.hid (show seeP r = sn3 k f t r3 from HX2.out.trans (bnd_ok hx))
        rw [hx] at HN2
        clear hx
        go_wp2_with fail
        refine HN2.out.mono ?_
        rintro e w3 ⟨rfl, h1, h2⟩
        have HI3 := Lib.hid (HI2.out.got h1 h2)
        have HG3 := Lib.hid (has_got HG2.out h2 HGS.out)
        have HN3 := Lib.hid (num_x 1 q s r3 HQ.out _ h1)
        clear h1 h2 HN2
        cases hx : gN r3 1 with
        | error y =>
          have HXE := Lib.hid (show seeP r = .error y from HX3.out.trans (bnd_err hx))
          rw [hx] at HN3
          go_wp2_with fail
          refine HN3.out.mono ?_
          rintro e wx ⟨rfl, h1, h2⟩
          have HE := Lib.hid (show VX (fun m => Value.agg (msgC m)) (seeP r) q s w (.panicked (own s)) wx from by rw [HXE.out]; exact ⟨rfl, h1, HI3.out.chg.trans h2⟩)
          clear h1 h2
          go_wp2
          show _ ∧ _
          exact ⟨rfl, HE.out⟩
        | ok a =>
          obtain ⟨v, r4⟩ := a
          have HX4 := Lib.hid (show seeP r = sn4 k f t v r4 from HX3.out.trans (bnd_ok hx))
          rw [hx] at HN3
          clear hx
          go_wp2_with fail
          refine HN3.out.mono ?_
          rintro e w4 ⟨rfl, h1, h2⟩
          have HI4 := Lib.hid (HI3.out.got h1 h2)
          have HG4 := Lib.hid (has_got HG3.out h2 HGS.out)
          clear h1 h2 HN3
          have HI5 := Lib.hid (HI4.out.alloc (.cells (msgC (hdM k f t v)) 27))
          have HG5 := Lib.hid (HG4.out.past (.cells (msgC (hdM k f t v)) 27))
          have HM5 := Lib.hid (Has.fresh w4 27 (msgC (hdM k f t v)))
          have HG1 := Lib.hid (show w.heap.size < w4.heap.size ∧ w4.heap.size ≠ s by have h1 := HG4.out.bound; have h2 := HI4.out.lo; have h3 := HI4.out.size; omega)
          have HN5 := Lib.hid (vec_x q s r4 HQ.out _ HI5.out.looks)
          cases hx : gV r4 with
          | error y =>
            have HXE := Lib.hid (show seeP r = .error y from HX4.out.trans (bnd_err hx))
            rw [hx] at HN5
            go_wp2_with ((with_reducible refine Who.wpList_newC 27 3 (.tmp 13) rfl rfl rfl (msgC msg0) (msgC (hdM k f t v)) ?_); refine And.intro ⟨rfl, rfl, rfl, hal, by rfl, by rfl, info_size _, rfl, msgC_one _⟩ ?_; (try simp only [Act.put, List.setIfInBounds_toArray, List.set_cons_zero, List.set_cons_succ]); (try simp only [World.size_alloc]))
            refine HN5.out.mono ?_
            rintro e wx ⟨rfl, h1, h2⟩
            have HE := Lib.hid (show VX (fun m => Value.agg (msgC m)) (seeP r) q s w (.panicked (own s)) wx from by rw [HXE.out]; exact ⟨rfl, h1, HI5.out.chg.trans h2⟩)
            clear h1 h2
            go_wp2
            show _ ∧ _
            exact ⟨rfl, HE.out⟩
          | ok a =>
            obtain ⟨z, r5⟩ := a
            have HX5 := Lib.hid (show seeP r = tl1 { hdM k f t v with seen := z } r5 from HX4.out.trans (bnd_ok hx))
            rw [hx] at HN5
            clear hx
            go_wp2_with ((with_reducible refine Who.wpList_newC 27 3 (.tmp 13) rfl rfl rfl (msgC msg0) (msgC (hdM k f t v)) ?_); refine And.intro ⟨rfl, rfl, rfl, hal, by rfl, by rfl, info_size _, rfl, msgC_one _⟩ ?_; (try simp only [Act.put, List.setIfInBounds_toArray, List.set_cons_zero, List.set_cons_succ]); (try simp only [World.size_alloc]))
            refine HN5.out.mono ?_
            rintro e w5 ⟨rfl, h1, h2⟩
            have HI6 := Lib.hid (HI5.out.got h1 h2)
            have HG6 := Lib.hid (has_got HG5.out h2 HGS.out)
            have HM6 := Lib.hid (has_got HM5.out h2 HG1.out.2)
            clear h1 h2 HN5 HI0 HG0 HX0 HI1 HX1 HI2 HG2 HX2 HI3 HG3 HX3 HI4 HG4 HX4 HI5 HG5 HM5
            obtain ⟨m, hm⟩ : ∃ m, m = ({ hdM k f t v with seen := z } : MsgP) := ⟨_, rfl⟩
            have HMK := Lib.hid (show m.kind = k by rw [hm]; rfl)
            rw [← hm] at HX5
            have HML := Lib.hid (show Lib.lay (msgC (hdM k f t v)) 10 (vecC z).toList = msgC m by rw [hm]; rfl)
            clear hm
            generalize hg1 : w4.heap.size = g1 at *
            clear hg1
            by_cases q1 : k = 1
            · have HK := Lib.hid (show m.kind = 1 from HMK.out.trans q1)
              have HZ7 := Lib.hid (show seeP r = bnd (gM r5) fun k r => tl2 { m with base := k } r from HX5.out.trans (by unfold tl1; rw [if_pos (.inl HK.out)]))
              have HKO := Lib.hid (show ∀ W, Calls Tryd.prog 27 #[.int .i64 k] W fun e w' => e = .returned (.agg #[.string ⟨#[97, 115, 107]⟩, .bool true, .bool true, .bool true, .bool false, .bool false]) ∧ Below W.heap.size W w' from fun W => (show kindC k = #[.string ⟨#[97, 115, 107]⟩, .bool true, .bool true, .bool true, .bool false, .bool false] by unfold kindC; simp [q1]) ▸ kindOf_any k W)
              clear q1
              go_wp2_with ((with_reducible refine wpList_storeM 25 (.tmp 16) (.tmp 15) rfl g1 10 27 (msgC (hdM k f t v)) (vecC z) (msgC m) ?_); refine And.intro ⟨rfl, by rfl, by rfl, vec_size _, vec_one _, of_decide_eq_true rfl, HML.out, HM6.out⟩ ?_; intro W5 HV5 HC5; have d0 : W5.cell? ⟨g1, 0, none⟩ = some (.int .i64 k) := HMK.out ▸ HV5.out.at_ 0; (try simp only [Act.put, List.setIfInBounds_toArray, List.set_cons_zero, List.set_cons_succ]))
              with_reducible refine (HKO.out _).mono ?_
              rintro e w6 ⟨rfl, hb⟩
              have HI7 := Lib.hid (((HI6.out.put HC5.out (Nat.le_of_lt HG1.out.1)).low hb).alloc (.cells #[.string ⟨#[97, 115, 107]⟩, .bool true, .bool true, .bool true, .bool false, .bool false] 47))
              have HG7 := Lib.hid (((HG6.out.over HC5.out (Nat.ne_of_lt HG1.out.1)).below hb).past (.cells #[.string ⟨#[97, 115, 107]⟩, .bool true, .bool true, .bool true, .bool false, .bool false] 47))
              have HM7 := Lib.hid ((HV5.out.below hb).past (.cells #[.string ⟨#[97, 115, 107]⟩, .bool true, .bool true, .bool true, .bool false, .bool false] 47))
              have HK7 := Lib.hid (Has.fresh w6 47 #[.string ⟨#[97, 115, 107]⟩, .bool true, .bool true, .bool true, .bool false, .bool false])
              have HK1 := Lib.hid (show w6.heap.size ≠ s ∧ w6.heap.size ≠ g1 ∧ w.heap.size < w6.heap.size by have h1 := (HV5.out.below hb).bound; have h2 := HI6.out.lo; have h3 := HI6.out.size; have h4 := HG1.out; omega)
              clear hb d0 HC5 HV5 HKO
              have u1 : (w6.alloc (.cells #[.string ⟨#[97, 115, 107]⟩, .bool true, .bool true, .bool true, .bool false, .bool false] 47)).cell? ⟨w6.heap.size, 1, none⟩ = some (.bool true) := HK7.out.at_ 1
              go_wp2_with fail
              have HN7 := Lib.hid (mark_x q s r5 HQ.out _ HI7.out.looks)
              cases hx : gM r5 with
              | error y =>
                have HXE := Lib.hid (show seeP r = .error y from HZ7.out.trans (bnd_err hx))
                rw [hx] at HN7
                refine HN7.out.mono ?_
                rintro e wx ⟨rfl, h1, h2⟩
                have HE := Lib.hid (show VX (fun m => Value.agg (msgC m)) (seeP r) q s w (.panicked (own s)) wx from by rw [HXE.out]; exact ⟨rfl, h1, HI7.out.chg.trans h2⟩)
                clear h1 h2
                go_wp2
                show _ ∧ _
                exact ⟨rfl, HE.out⟩
              | ok a =>
                obtain ⟨b1, r7⟩ := a
                rw [hx] at HN7
                have HY := Lib.hid (HZ7.out.trans (bnd_ok hx))
                clear hx
                obtain ⟨m7, hm7⟩ : ∃ m', m' = ({ m with base := b1 } : MsgP) := ⟨_, rfl⟩
                have HK7k := Lib.hid (show m7.kind = 1 by rw [hm7]; exact HK.out)
                have HZ8 := Lib.hid (show seeP r = tl2 m7 r7 from by rw [hm7]; exact HY.out)
                have HLA := Lib.hid (show Lib.lay (msgC m) 4 (#[.int .i64 b1.1, .int .i64 b1.2] : Array Value).toList = msgC m7 by rw [hm7]; rfl)
                have HMN := Lib.hid hm7
                clear hm7 HY
                refine HN7.out.mono ?_
                rintro e w7 ⟨rfl, h1, h2⟩
                have HI7g := Lib.hid (HI7.out.got h1 h2)
                have HG7g := Lib.hid (has_got HG7.out h2 HGS.out)
                have HM7g := Lib.hid (has_got HM7.out h2 HG1.out.2)
                have HK7g := Lib.hid (has_got HK7.out h2 HK1.out.1)
                clear h1 h2 HN7 u1
                go_wp2_with ((with_reducible refine wpList_storeM 23 (.tmp 24) (.tmp 23) rfl g1 4 27 (msgC m) #[.int .i64 b1.1, .int .i64 b1.2] (msgC m7) ?_); refine And.intro ⟨rfl, by rfl, by rfl, mark_size _ _, mark_one _ _, of_decide_eq_true rfl, HLA.out, HM7g.out⟩ ?_; intro V7 HM8 HC8; have HI8 := Lib.hid (HI7g.out.put HC8.out (Nat.le_of_lt HG1.out.1)); have HG8 := Lib.hid (HG7g.out.over HC8.out (Nat.ne_of_lt HG1.out.1)); have HK8 := Lib.hid (HK7g.out.over HC8.out HK1.out.2.1); have u2 : V7.cell? ⟨w6.heap.size, 2, none⟩ = some (.bool true) := HK8.out.at_ 2; (try simp only [Act.put, List.setIfInBounds_toArray, List.set_cons_zero, List.set_cons_succ]))
                have HN8 := Lib.hid (mark_x q s r7 HQ.out _ HI8.out.looks)
                cases hx : gM r7 with
                | error y =>
                  have HXE := Lib.hid (show seeP r = .error y from HZ8.out.trans (bnd_err hx))
                  rw [hx] at HN8
                  refine HN8.out.mono ?_
                  rintro e wx ⟨rfl, h1, h2⟩
                  have HE := Lib.hid (show VX (fun m => Value.agg (msgC m)) (seeP r) q s w (.panicked (own s)) wx from by rw [HXE.out]; exact ⟨rfl, h1, HI8.out.chg.trans h2⟩)
                  clear h1 h2
                  go_wp2
                  show _ ∧ _
                  exact ⟨rfl, HE.out⟩
                | ok a =>
                  obtain ⟨b2, r8⟩ := a
                  rw [hx] at HN8
                  have HY := Lib.hid (HZ8.out.trans (bnd_ok hx))
                  clear hx
                  obtain ⟨m8, hm8⟩ : ∃ m', m' = ({ m7 with mark := b2 } : MsgP) := ⟨_, rfl⟩
                  have HK8k := Lib.hid (show m8.kind = 1 by rw [hm8]; exact HK7k.out)
                  have HZ9 := Lib.hid (show seeP r = tl3 m8 r8 from by rw [hm8]; exact HY.out.trans (if_neg (by have := HK7k.out; omega)))
                  have HLA := Lib.hid (show Lib.lay (msgC m7) 6 (#[.int .i64 b2.1, .int .i64 b2.2] : Array Value).toList = msgC m8 by rw [hm8]; rfl)
                  have HMN := Lib.hid hm8
                  clear hm8 HY
                  refine HN8.out.mono ?_
                  rintro e w8 ⟨rfl, h1, h2⟩
                  have HI8g := Lib.hid (HI8.out.got h1 h2)
                  have HG8g := Lib.hid (has_got HG8.out h2 HGS.out)
                  have HM8g := Lib.hid (has_got HM8.out h2 HG1.out.2)
                  have HK8g := Lib.hid (has_got HK8.out h2 HK1.out.1)
                  clear h1 h2 HN8 u2
                  go_wp2_with ((with_reducible refine wpList_storeM 23 (.tmp 29) (.tmp 28) rfl g1 6 27 (msgC m7) #[.int .i64 b2.1, .int .i64 b2.2] (msgC m8) ?_); refine And.intro ⟨rfl, by rfl, by rfl, mark_size _ _, mark_one _ _, of_decide_eq_true rfl, HLA.out, HM8g.out⟩ ?_; intro V8 HM9 HC9; have HI9 := Lib.hid (HI8g.out.put HC9.out (Nat.le_of_lt HG1.out.1)); have HG9 := Lib.hid (HG8g.out.over HC9.out (Nat.ne_of_lt HG1.out.1)); have HK9 := Lib.hid (HK8g.out.over HC9.out HK1.out.2.1); have u3 : V8.cell? ⟨w6.heap.size, 3, none⟩ = some (.bool true) := HK9.out.at_ 3; (try simp only [Act.put, List.setIfInBounds_toArray, List.set_cons_zero, List.set_cons_succ]))
                  have HN9 := Lib.hid (num_x 2 q s r8 HQ.out _ HI9.out.looks)
                  cases hx : gN r8 2 with
                  | error y =>
                    have HXE := Lib.hid (show seeP r = .error y from HZ9.out.trans (bnd_err hx))
                    rw [hx] at HN9
                    refine HN9.out.mono ?_
                    rintro e wx ⟨rfl, h1, h2⟩
                    have HE := Lib.hid (show VX (fun m => Value.agg (msgC m)) (seeP r) q s w (.panicked (own s)) wx from by rw [HXE.out]; exact ⟨rfl, h1, HI9.out.chg.trans h2⟩)
                    clear h1 h2
                    go_wp2
                    show _ ∧ _
                    exact ⟨rfl, HE.out⟩
                  | ok a =>
                    obtain ⟨b3, r9⟩ := a
                    rw [hx] at HN9
                    have HY := Lib.hid (HZ9.out.trans (bnd_ok hx))
                    clear hx
                    obtain ⟨m9, hm9⟩ : ∃ m', m' = ({ m8 with ix := b3 } : MsgP) := ⟨_, rfl⟩
                    have HK9k := Lib.hid (show m9.kind = 1 by rw [hm9]; exact HK8k.out)
                    have HZ10 := Lib.hid (show seeP r = .ok (m9, r9) from by have h := HY.out; rw [← hm9] at h; exact h.trans (if_neg (by have := HK9k.out; omega)))
                    have HMN := Lib.hid hm9
                    clear hm9 HY
                    refine HN9.out.mono ?_
                    rintro e w9 ⟨rfl, h1, h2⟩
                    have HI9g := Lib.hid (HI9.out.got h1 h2)
                    have HG9g := Lib.hid (has_got HG9.out h2 HGS.out)
                    have HM9g := Lib.hid (has_got HM9.out h2 HG1.out.2)
                    have HK9g := Lib.hid (has_got HK9.out h2 HK1.out.1)
                    clear h1 h2 HN9 u3
                    have HM10 := Lib.hid (show Has (w9.setCell ⟨g1, 8, none⟩ (.int .i64 b3)) g1 27 (msgC m9) from by have k := HM9g.out.put 8 (.int .i64 b3); rw [HMN.out]; exact k)
                    have HC10 := Lib.hid ((Chg.refl (· = g1) w9).setCell (p := ⟨g1, 8, none⟩) (.inl rfl) (.int .i64 b3))
                    have HI10 := Lib.hid (HI9g.out.put HC10.out (Nat.le_of_lt HG1.out.1))
                    have HG10 := Lib.hid (HG9g.out.over HC10.out (Nat.ne_of_lt HG1.out.1))
                    have HK10 := Lib.hid (HK9g.out.over HC10.out HK1.out.2.1)
                    have fz := HM9g.out.free 8
                    have fc : w9.cell? ⟨g1, 8, none⟩ = some (.int .i64 m8.ix) := HM9g.out.at_ 8
                    have u4 : (w9.setCell ⟨g1, 8, none⟩ (.int .i64 b3)).cell? ⟨w6.heap.size, 4, none⟩ = some (.bool false) := HK10.out.at_ 4
                    have u5 : (w9.setCell ⟨g1, 8, none⟩ (.int .i64 b3)).cell? ⟨w6.heap.size, 5, none⟩ = some (.bool false) := HK10.out.at_ 5
                    go_wp2_with (first | ((with_reducible refine Who.wpList_loadC 27 (.tmp 3) rfl g1 0 (msgC m9) ?_); refine And.intro ⟨by rfl, by rfl, ⟨_, Tryd.underlying27, rfl⟩, info_size _⟩ (And.intro (Who.has_range HM10.out) ?_); (try simp only [Act.put, List.setIfInBounds_toArray, List.set_cons_zero, List.set_cons_succ])) | ((with_reducible refine wpList_storeM 27 (.tmp 2) (.tmp 45) rfl w.heap.size 0 27 (msgC msg0) (msgC m9) (msgC m9) ?_); refine And.intro ⟨rfl, by rfl, by rfl, info_size _, msgC_one _, of_decide_eq_true rfl, Who.lay_all _ _ rfl, HG10.out⟩ ?_; intro WZ HVZ HCZ; (try simp only [Act.put, List.setIfInBounds_toArray, List.set_cons_zero, List.set_cons_succ])))
                    refine bodyPost_ret (v := .agg (msgC m9)) (results_two Tryd.results47 _ _ w.heap.size _ _ (by rfl) HVZ.out Tryd.underlying27 rfl (info_size _)) rfl ?_
                    have HIZ := HI10.out.put HCZ.out (Nat.le_refl _)
                    rw [HZ10.out]
                    exact ⟨rfl, HIZ.looks, HIZ.chg⟩
            by_cases q2 : k = 2
            · have HK := Lib.hid (show m.kind = 2 from HMK.out.trans q2)
              have HZ7 := Lib.hid (show seeP r = bnd (gM r5) fun k r => tl2 { m with base := k } r from HX5.out.trans (by unfold tl1; rw [if_pos (.inr HK.out)]))
              have HKO := Lib.hid (show ∀ W, Calls Tryd.prog 27 #[.int .i64 k] W fun e w' => e = .returned (.agg #[.string ⟨#[112, 97, 114, 116]⟩, .bool true, .bool true, .bool true, .bool true, .bool true]) ∧ Below W.heap.size W w' from fun W => (show kindC k = #[.string ⟨#[112, 97, 114, 116]⟩, .bool true, .bool true, .bool true, .bool true, .bool true] by unfold kindC; simp [q1, q2]) ▸ kindOf_any k W)
              clear q2 q1
              go_wp2_with ((with_reducible refine wpList_storeM 25 (.tmp 16) (.tmp 15) rfl g1 10 27 (msgC (hdM k f t v)) (vecC z) (msgC m) ?_); refine And.intro ⟨rfl, by rfl, by rfl, vec_size _, vec_one _, of_decide_eq_true rfl, HML.out, HM6.out⟩ ?_; intro W5 HV5 HC5; have d0 : W5.cell? ⟨g1, 0, none⟩ = some (.int .i64 k) := HMK.out ▸ HV5.out.at_ 0; (try simp only [Act.put, List.setIfInBounds_toArray, List.set_cons_zero, List.set_cons_succ]))
              with_reducible refine (HKO.out _).mono ?_
              rintro e w6 ⟨rfl, hb⟩
              have HI7 := Lib.hid (((HI6.out.put HC5.out (Nat.le_of_lt HG1.out.1)).low hb).alloc (.cells #[.string ⟨#[112, 97, 114, 116]⟩, .bool true, .bool true, .bool true, .bool true, .bool true] 47))
              have HG7 := Lib.hid (((HG6.out.over HC5.out (Nat.ne_of_lt HG1.out.1)).below hb).past (.cells #[.string ⟨#[112, 97, 114, 116]⟩, .bool true, .bool true, .bool true, .bool true, .bool true] 47))
              have HM7 := Lib.hid ((HV5.out.below hb).past (.cells #[.string ⟨#[112, 97, 114, 116]⟩, .bool true, .bool true, .bool true, .bool true, .bool true] 47))
              have HK7 := Lib.hid (Has.fresh w6 47 #[.string ⟨#[112, 97, 114, 116]⟩, .bool true, .bool true, .bool true, .bool true, .bool true])
              have HK1 := Lib.hid (show w6.heap.size ≠ s ∧ w6.heap.size ≠ g1 ∧ w.heap.size < w6.heap.size by have h1 := (HV5.out.below hb).bound; have h2 := HI6.out.lo; have h3 := HI6.out.size; have h4 := HG1.out; omega)
              clear hb d0 HC5 HV5 HKO
              have u1 : (w6.alloc (.cells #[.string ⟨#[112, 97, 114, 116]⟩, .bool true, .bool true, .bool true, .bool true, .bool true] 47)).cell? ⟨w6.heap.size, 1, none⟩ = some (.bool true) := HK7.out.at_ 1
              go_wp2_with fail
              have HN7 := Lib.hid (mark_x q s r5 HQ.out _ HI7.out.looks)
              cases hx : gM r5 with
              | error y =>
                have HXE := Lib.hid (show seeP r = .error y from HZ7.out.trans (bnd_err hx))
                rw [hx] at HN7
                refine HN7.out.mono ?_
                rintro e wx ⟨rfl, h1, h2⟩
                have HE := Lib.hid (show VX (fun m => Value.agg (msgC m)) (seeP r) q s w (.panicked (own s)) wx from by rw [HXE.out]; exact ⟨rfl, h1, HI7.out.chg.trans h2⟩)
                clear h1 h2
                go_wp2
                show _ ∧ _
                exact ⟨rfl, HE.out⟩
              | ok a =>
                obtain ⟨b1, r7⟩ := a
                rw [hx] at HN7
                have HY := Lib.hid (HZ7.out.trans (bnd_ok hx))
                clear hx
                obtain ⟨m7, hm7⟩ : ∃ m', m' = ({ m with base := b1 } : MsgP) := ⟨_, rfl⟩
                have HK7k := Lib.hid (show m7.kind = 2 by rw [hm7]; exact HK.out)
                have HZ8 := Lib.hid (show seeP r = tl2 m7 r7 from by rw [hm7]; exact HY.out)
                have HLA := Lib.hid (show Lib.lay (msgC m) 4 (#[.int .i64 b1.1, .int .i64 b1.2] : Array Value).toList = msgC m7 by rw [hm7]; rfl)
                have HMN := Lib.hid hm7
                clear hm7 HY
                refine HN7.out.mono ?_
                rintro e w7 ⟨rfl, h1, h2⟩
                have HI7g := Lib.hid (HI7.out.got h1 h2)
                have HG7g := Lib.hid (has_got HG7.out h2 HGS.out)
                have HM7g := Lib.hid (has_got HM7.out h2 HG1.out.2)
                have HK7g := Lib.hid (has_got HK7.out h2 HK1.out.1)
                clear h1 h2 HN7 u1
                go_wp2_with ((with_reducible refine wpList_storeM 23 (.tmp 24) (.tmp 23) rfl g1 4 27 (msgC m) #[.int .i64 b1.1, .int .i64 b1.2] (msgC m7) ?_); refine And.intro ⟨rfl, by rfl, by rfl, mark_size _ _, mark_one _ _, of_decide_eq_true rfl, HLA.out, HM7g.out⟩ ?_; intro V7 HM8 HC8; have HI8 := Lib.hid (HI7g.out.put HC8.out (Nat.le_of_lt HG1.out.1)); have HG8 := Lib.hid (HG7g.out.over HC8.out (Nat.ne_of_lt HG1.out.1)); have HK8 := Lib.hid (HK7g.out.over HC8.out HK1.out.2.1); have u2 : V7.cell? ⟨w6.heap.size, 2, none⟩ = some (.bool true) := HK8.out.at_ 2; (try simp only [Act.put, List.setIfInBounds_toArray, List.set_cons_zero, List.set_cons_succ]))
                have HN8 := Lib.hid (mark_x q s r7 HQ.out _ HI8.out.looks)
                cases hx : gM r7 with
                | error y =>
                  have HXE := Lib.hid (show seeP r = .error y from HZ8.out.trans (bnd_err hx))
                  rw [hx] at HN8
                  refine HN8.out.mono ?_
                  rintro e wx ⟨rfl, h1, h2⟩
                  have HE := Lib.hid (show VX (fun m => Value.agg (msgC m)) (seeP r) q s w (.panicked (own s)) wx from by rw [HXE.out]; exact ⟨rfl, h1, HI8.out.chg.trans h2⟩)
                  clear h1 h2
                  go_wp2
                  show _ ∧ _
                  exact ⟨rfl, HE.out⟩
                | ok a =>
                  obtain ⟨b2, r8⟩ := a
                  rw [hx] at HN8
                  have HY := Lib.hid (HZ8.out.trans (bnd_ok hx))
                  clear hx
                  obtain ⟨m8, hm8⟩ : ∃ m', m' = ({ m7 with mark := b2 } : MsgP) := ⟨_, rfl⟩
                  have HK8k := Lib.hid (show m8.kind = 2 by rw [hm8]; exact HK7k.out)
                  have HZ9 := Lib.hid (show seeP r = tl3 m8 r8 from by rw [hm8]; exact HY.out.trans (if_neg (by have := HK7k.out; omega)))
                  have HLA := Lib.hid (show Lib.lay (msgC m7) 6 (#[.int .i64 b2.1, .int .i64 b2.2] : Array Value).toList = msgC m8 by rw [hm8]; rfl)
                  have HMN := Lib.hid hm8
                  clear hm8 HY
                  refine HN8.out.mono ?_
                  rintro e w8 ⟨rfl, h1, h2⟩
                  have HI8g := Lib.hid (HI8.out.got h1 h2)
                  have HG8g := Lib.hid (has_got HG8.out h2 HGS.out)
                  have HM8g := Lib.hid (has_got HM8.out h2 HG1.out.2)
                  have HK8g := Lib.hid (has_got HK8.out h2 HK1.out.1)
                  clear h1 h2 HN8 u2
                  go_wp2_with ((with_reducible refine wpList_storeM 23 (.tmp 29) (.tmp 28) rfl g1 6 27 (msgC m7) #[.int .i64 b2.1, .int .i64 b2.2] (msgC m8) ?_); refine And.intro ⟨rfl, by rfl, by rfl, mark_size _ _, mark_one _ _, of_decide_eq_true rfl, HLA.out, HM8g.out⟩ ?_; intro V8 HM9 HC9; have HI9 := Lib.hid (HI8g.out.put HC9.out (Nat.le_of_lt HG1.out.1)); have HG9 := Lib.hid (HG8g.out.over HC9.out (Nat.ne_of_lt HG1.out.1)); have HK9 := Lib.hid (HK8g.out.over HC9.out HK1.out.2.1); have u3 : V8.cell? ⟨w6.heap.size, 3, none⟩ = some (.bool true) := HK9.out.at_ 3; (try simp only [Act.put, List.setIfInBounds_toArray, List.set_cons_zero, List.set_cons_succ]))
                  have HN9 := Lib.hid (num_x 2 q s r8 HQ.out _ HI9.out.looks)
                  cases hx : gN r8 2 with
                  | error y =>
                    have HXE := Lib.hid (show seeP r = .error y from HZ9.out.trans (bnd_err hx))
                    rw [hx] at HN9
                    refine HN9.out.mono ?_
                    rintro e wx ⟨rfl, h1, h2⟩
                    have HE := Lib.hid (show VX (fun m => Value.agg (msgC m)) (seeP r) q s w (.panicked (own s)) wx from by rw [HXE.out]; exact ⟨rfl, h1, HI9.out.chg.trans h2⟩)
                    clear h1 h2
                    go_wp2
                    show _ ∧ _
                    exact ⟨rfl, HE.out⟩
                  | ok a =>
                    obtain ⟨b3, r9⟩ := a
                    rw [hx] at HN9
                    have HY := Lib.hid (HZ9.out.trans (bnd_ok hx))
                    clear hx
                    obtain ⟨m9, hm9⟩ : ∃ m', m' = ({ m8 with ix := b3 } : MsgP) := ⟨_, rfl⟩
                    have HK9k := Lib.hid (show m9.kind = 2 by rw [hm9]; exact HK8k.out)
                    have HZ10 := Lib.hid (show seeP r = bnd (gN r9 2) fun n r => tl5 { m9 with tot := n } r from by have h := HY.out; rw [← hm9] at h; exact h.trans (if_pos HK9k.out))
                    have HMN := Lib.hid hm9
                    clear hm9 HY
                    refine HN9.out.mono ?_
                    rintro e w9 ⟨rfl, h1, h2⟩
                    have HI9g := Lib.hid (HI9.out.got h1 h2)
                    have HG9g := Lib.hid (has_got HG9.out h2 HGS.out)
                    have HM9g := Lib.hid (has_got HM9.out h2 HG1.out.2)
                    have HK9g := Lib.hid (has_got HK9.out h2 HK1.out.1)
                    clear h1 h2 HN9 u3
                    have HM10 := Lib.hid (show Has (w9.setCell ⟨g1, 8, none⟩ (.int .i64 b3)) g1 27 (msgC m9) from by have k := HM9g.out.put 8 (.int .i64 b3); rw [HMN.out]; exact k)
                    have HC10 := Lib.hid ((Chg.refl (· = g1) w9).setCell (p := ⟨g1, 8, none⟩) (.inl rfl) (.int .i64 b3))
                    have HI10 := Lib.hid (HI9g.out.put HC10.out (Nat.le_of_lt HG1.out.1))
                    have HG10 := Lib.hid (HG9g.out.over HC10.out (Nat.ne_of_lt HG1.out.1))
                    have HK10 := Lib.hid (HK9g.out.over HC10.out HK1.out.2.1)
                    have fz := HM9g.out.free 8
                    have fc : w9.cell? ⟨g1, 8, none⟩ = some (.int .i64 m8.ix) := HM9g.out.at_ 8
                    have u4 : (w9.setCell ⟨g1, 8, none⟩ (.int .i64 b3)).cell? ⟨w6.heap.size, 4, none⟩ = some (.bool true) := HK10.out.at_ 4
                    go_wp2_with fail
                    clear fz fc
                    have HN10 := Lib.hid (num_x 2 q s r9 HQ.out _ HI10.out.looks)
                    cases hx : gN r9 2 with
                    | error y =>
                      have HXE := Lib.hid (show seeP r = .error y from HZ10.out.trans (bnd_err hx))
                      rw [hx] at HN10
                      refine HN10.out.mono ?_
                      rintro e wx ⟨rfl, h1, h2⟩
                      have HE := Lib.hid (show VX (fun m => Value.agg (msgC m)) (seeP r) q s w (.panicked (own s)) wx from by rw [HXE.out]; exact ⟨rfl, h1, HI10.out.chg.trans h2⟩)
                      clear h1 h2
                      go_wp2
                      show _ ∧ _
                      exact ⟨rfl, HE.out⟩
                    | ok a =>
                      obtain ⟨b4, r10⟩ := a
                      rw [hx] at HN10
                      have HY := Lib.hid (HZ10.out.trans (bnd_ok hx))
                      clear hx
                      obtain ⟨m10, hm10⟩ : ∃ m', m' = ({ m9 with tot := b4 } : MsgP) := ⟨_, rfl⟩
                      have HK10k := Lib.hid (show m10.kind = 2 by rw [hm10]; exact HK9k.out)
                      have HZ11 := Lib.hid (show seeP r = tl5 m10 r10 from by rw [hm10]; exact HY.out)
                      have HMN := Lib.hid hm10
                      clear hm10 HY
                      refine HN10.out.mono ?_
                      rintro e w10 ⟨rfl, h1, h2⟩
                      have HI10g := Lib.hid (HI10.out.got h1 h2)
                      have HG10g := Lib.hid (has_got HG10.out h2 HGS.out)
                      have HM10g := Lib.hid (has_got HM10.out h2 HG1.out.2)
                      have HK10g := Lib.hid (has_got HK10.out h2 HK1.out.1)
                      clear h1 h2 HN10 u4
                      have HM11 := Lib.hid (show Has (w10.setCell ⟨g1, 9, none⟩ (.int .i64 b4)) g1 27 (msgC m10) from by have k := HM10g.out.put 9 (.int .i64 b4); rw [HMN.out]; exact k)
                      have HC11 := Lib.hid ((Chg.refl (· = g1) w10).setCell (p := ⟨g1, 9, none⟩) (.inl rfl) (.int .i64 b4))
                      have HI11 := Lib.hid (HI10g.out.put HC11.out (Nat.le_of_lt HG1.out.1))
                      have HG11 := Lib.hid (HG10g.out.over HC11.out (Nat.ne_of_lt HG1.out.1))
                      have HK11 := Lib.hid (HK10g.out.over HC11.out HK1.out.2.1)
                      have fz := HM10g.out.free 9
                      have fc : w10.cell? ⟨g1, 9, none⟩ = some (.int .i64 m9.tot) := HM10g.out.at_ 9
                      have u5 : (w10.setCell ⟨g1, 9, none⟩ (.int .i64 b4)).cell? ⟨w6.heap.size, 5, none⟩ = some (.bool true) := HK11.out.at_ 5
                      go_wp2_with fail
                      clear fz fc
                      have HN11 := Lib.hid (text_x 512 q s r10 HQ.out _ HI11.out.looks)
                      cases hx : gT r10 512 with
                      | error y =>
                        have HXE := Lib.hid (show seeP r = .error y from HZ11.out.trans (bnd_err hx))
                        rw [hx] at HN11
                        refine HN11.out.mono ?_
                        rintro e wx ⟨rfl, h1, h2⟩
                        have HE := Lib.hid (show VX (fun m => Value.agg (msgC m)) (seeP r) q s w (.panicked (own s)) wx from by rw [HXE.out]; exact ⟨rfl, h1, HI11.out.chg.trans h2⟩)
                        clear h1 h2
                        go_wp2
                        show _ ∧ _
                        exact ⟨rfl, HE.out⟩
                      | ok a =>
                        obtain ⟨b5, r11⟩ := a
                        rw [hx] at HN11
                        have HY := Lib.hid (HZ11.out.trans (bnd_ok hx))
                        clear hx
                        obtain ⟨m11, hm11⟩ : ∃ m', m' = ({ m10 with data := b5 } : MsgP) := ⟨_, rfl⟩
                        have HK11k := Lib.hid (show m11.kind = 2 by rw [hm11]; exact HK10k.out)
                        have HZ12 := Lib.hid (show seeP r = .ok (m11, r11) from by rw [hm11]; exact HY.out)
                        have HMN := Lib.hid hm11
                        clear hm11 HY
                        refine HN11.out.mono ?_
                        rintro e w11 ⟨rfl, h1, h2⟩
                        have HI11g := Lib.hid (HI11.out.got h1 h2)
                        have HG11g := Lib.hid (has_got HG11.out h2 HGS.out)
                        have HM11g := Lib.hid (has_got HM11.out h2 HG1.out.2)
                        have HK11g := Lib.hid (has_got HK11.out h2 HK1.out.1)
                        clear h1 h2 HN11 u5
                        have HM12 := Lib.hid (show Has (w11.setCell ⟨g1, 18, none⟩ (.string b5)) g1 27 (msgC m11) from by have k := HM11g.out.put 18 (.string b5); rw [HMN.out]; exact k)
                        have HC12 := Lib.hid ((Chg.refl (· = g1) w11).setCell (p := ⟨g1, 18, none⟩) (.inl rfl) (.string b5))
                        have HI12 := Lib.hid (HI11g.out.put HC12.out (Nat.le_of_lt HG1.out.1))
                        have HG12 := Lib.hid (HG11g.out.over HC12.out (Nat.ne_of_lt HG1.out.1))
                        have HK12 := Lib.hid (HK11g.out.over HC12.out HK1.out.2.1)
                        have fz := HM11g.out.free 18
                        have fc : w11.cell? ⟨g1, 18, none⟩ = some (.string m10.data) := HM11g.out.at_ 18
                        go_wp2_with (first | ((with_reducible refine Who.wpList_loadC 27 (.tmp 3) rfl g1 0 (msgC m11) ?_); refine And.intro ⟨by rfl, by rfl, ⟨_, Tryd.underlying27, rfl⟩, info_size _⟩ (And.intro (Who.has_range HM12.out) ?_); (try simp only [Act.put, List.setIfInBounds_toArray, List.set_cons_zero, List.set_cons_succ])) | ((with_reducible refine wpList_storeM 27 (.tmp 2) (.tmp 45) rfl w.heap.size 0 27 (msgC msg0) (msgC m11) (msgC m11) ?_); refine And.intro ⟨rfl, by rfl, by rfl, info_size _, msgC_one _, of_decide_eq_true rfl, Who.lay_all _ _ rfl, HG12.out⟩ ?_; intro WZ HVZ HCZ; (try simp only [Act.put, List.setIfInBounds_toArray, List.set_cons_zero, List.set_cons_succ])))
                        refine bodyPost_ret (v := .agg (msgC m11)) (results_two Tryd.results47 _ _ w.heap.size _ _ (by rfl) HVZ.out Tryd.underlying27 rfl (info_size _)) rfl ?_
                        have HIZ := HI12.out.put HCZ.out (Nat.le_refl _)
                        rw [HZ12.out]
                        exact ⟨rfl, HIZ.looks, HIZ.chg⟩
            by_cases q3 : k = 3
            · have HK := Lib.hid (show m.kind = 3 from HMK.out.trans q3)
              have HZ7 := Lib.hid (show seeP r = .ok (m, r5) from HX5.out.trans (by unfold tl1; rw [if_neg (by have := HK.out; omega), if_neg (by have := HK.out; omega)]))
              have HKO := Lib.hid (show ∀ W, Calls Tryd.prog 27 #[.int .i64 k] W fun e w' => e = .returned (.agg #[.string ⟨#[115, 97, 109, 101]⟩, .bool false, .bool false, .bool false, .bool false, .bool false]) ∧ Below W.heap.size W w' from fun W => (show kindC k = #[.string ⟨#[115, 97, 109, 101]⟩, .bool false, .bool false, .bool false, .bool false, .bool false] by unfold kindC; simp [q1, q2, q3]) ▸ kindOf_any k W)
              clear q3 q2 q1
              go_wp2_with ((with_reducible refine wpList_storeM 25 (.tmp 16) (.tmp 15) rfl g1 10 27 (msgC (hdM k f t v)) (vecC z) (msgC m) ?_); refine And.intro ⟨rfl, by rfl, by rfl, vec_size _, vec_one _, of_decide_eq_true rfl, HML.out, HM6.out⟩ ?_; intro W5 HV5 HC5; have d0 : W5.cell? ⟨g1, 0, none⟩ = some (.int .i64 k) := HMK.out ▸ HV5.out.at_ 0; (try simp only [Act.put, List.setIfInBounds_toArray, List.set_cons_zero, List.set_cons_succ]))
              with_reducible refine (HKO.out _).mono ?_
              rintro e w6 ⟨rfl, hb⟩
              have HI7 := Lib.hid (((HI6.out.put HC5.out (Nat.le_of_lt HG1.out.1)).low hb).alloc (.cells #[.string ⟨#[115, 97, 109, 101]⟩, .bool false, .bool false, .bool false, .bool false, .bool false] 47))
              have HG7 := Lib.hid (((HG6.out.over HC5.out (Nat.ne_of_lt HG1.out.1)).below hb).past (.cells #[.string ⟨#[115, 97, 109, 101]⟩, .bool false, .bool false, .bool false, .bool false, .bool false] 47))
              have HM7 := Lib.hid ((HV5.out.below hb).past (.cells #[.string ⟨#[115, 97, 109, 101]⟩, .bool false, .bool false, .bool false, .bool false, .bool false] 47))
              have HK7 := Lib.hid (Has.fresh w6 47 #[.string ⟨#[115, 97, 109, 101]⟩, .bool false, .bool false, .bool false, .bool false, .bool false])
              have HK1 := Lib.hid (show w6.heap.size ≠ s ∧ w6.heap.size ≠ g1 ∧ w.heap.size < w6.heap.size by have h1 := (HV5.out.below hb).bound; have h2 := HI6.out.lo; have h3 := HI6.out.size; have h4 := HG1.out; omega)
              clear hb d0 HC5 HV5 HKO
              have u1 : (w6.alloc (.cells #[.string ⟨#[115, 97, 109, 101]⟩, .bool false, .bool false, .bool false, .bool false, .bool false] 47)).cell? ⟨w6.heap.size, 1, none⟩ = some (.bool false) := HK7.out.at_ 1
              have u2 : (w6.alloc (.cells #[.string ⟨#[115, 97, 109, 101]⟩, .bool false, .bool false, .bool false, .bool false, .bool false] 47)).cell? ⟨w6.heap.size, 2, none⟩ = some (.bool false) := HK7.out.at_ 2
              have u3 : (w6.alloc (.cells #[.string ⟨#[115, 97, 109, 101]⟩, .bool false, .bool false, .bool false, .bool false, .bool false] 47)).cell? ⟨w6.heap.size, 3, none⟩ = some (.bool false) := HK7.out.at_ 3
              have u4 : (w6.alloc (.cells #[.string ⟨#[115, 97, 109, 101]⟩, .bool false, .bool false, .bool false, .bool false, .bool false] 47)).cell? ⟨w6.heap.size, 4, none⟩ = some (.bool false) := HK7.out.at_ 4
              have u5 : (w6.alloc (.cells #[.string ⟨#[115, 97, 109, 101]⟩, .bool false, .bool false, .bool false, .bool false, .bool false] 47)).cell? ⟨w6.heap.size, 5, none⟩ = some (.bool false) := HK7.out.at_ 5
              go_wp2_with (first | ((with_reducible refine Who.wpList_loadC 27 (.tmp 3) rfl g1 0 (msgC m) ?_); refine And.intro ⟨by rfl, by rfl, ⟨_, Tryd.underlying27, rfl⟩, info_size _⟩ (And.intro (Who.has_range HM7.out) ?_); (try simp only [Act.put, List.setIfInBounds_toArray, List.set_cons_zero, List.set_cons_succ])) | ((with_reducible refine wpList_storeM 27 (.tmp 2) (.tmp 45) rfl w.heap.size 0 27 (msgC msg0) (msgC m) (msgC m) ?_); refine And.intro ⟨rfl, by rfl, by rfl, info_size _, msgC_one _, of_decide_eq_true rfl, Who.lay_all _ _ rfl, HG7.out⟩ ?_; intro WZ HVZ HCZ; (try simp only [Act.put, List.setIfInBounds_toArray, List.set_cons_zero, List.set_cons_succ])))
              refine bodyPost_ret (v := .agg (msgC m)) (results_two Tryd.results47 _ _ w.heap.size _ _ (by rfl) HVZ.out Tryd.underlying27 rfl (info_size _)) rfl ?_
              have HIZ := HI7.out.put HCZ.out (Nat.le_refl _)
              rw [HZ7.out]
              exact ⟨rfl, HIZ.looks, HIZ.chg⟩
            by_cases q4 : k = 4
            · have HK := Lib.hid (show m.kind = 4 from HMK.out.trans q4)
              have HZ7 := Lib.hid (show seeP r = bnd (gM r5) fun k r => if m.kind = 4 then .ok ({ m with mark := k }, r) else tl3 { m with mark := k } r from HX5.out.trans (by unfold tl1; rw [if_neg (by have := HK.out; omega), if_pos HK.out]; rfl))
              have HKO := Lib.hid (show ∀ W, Calls Tryd.prog 27 #[.int .i64 k] W fun e w' => e = .returned (.agg #[.string ⟨#[103, 111, 110, 101]⟩, .bool false, .bool true, .bool false, .bool false, .bool false]) ∧ Below W.heap.size W w' from fun W => (show kindC k = #[.string ⟨#[103, 111, 110, 101]⟩, .bool false, .bool true, .bool false, .bool false, .bool false] by unfold kindC; simp [q1, q2, q3, q4]) ▸ kindOf_any k W)
              clear q4 q3 q2 q1
              go_wp2_with ((with_reducible refine wpList_storeM 25 (.tmp 16) (.tmp 15) rfl g1 10 27 (msgC (hdM k f t v)) (vecC z) (msgC m) ?_); refine And.intro ⟨rfl, by rfl, by rfl, vec_size _, vec_one _, of_decide_eq_true rfl, HML.out, HM6.out⟩ ?_; intro W5 HV5 HC5; have d0 : W5.cell? ⟨g1, 0, none⟩ = some (.int .i64 k) := HMK.out ▸ HV5.out.at_ 0; (try simp only [Act.put, List.setIfInBounds_toArray, List.set_cons_zero, List.set_cons_succ]))
              with_reducible refine (HKO.out _).mono ?_
              rintro e w6 ⟨rfl, hb⟩
              have HI7 := Lib.hid (((HI6.out.put HC5.out (Nat.le_of_lt HG1.out.1)).low hb).alloc (.cells #[.string ⟨#[103, 111, 110, 101]⟩, .bool false, .bool true, .bool false, .bool false, .bool false] 47))
              have HG7 := Lib.hid (((HG6.out.over HC5.out (Nat.ne_of_lt HG1.out.1)).below hb).past (.cells #[.string ⟨#[103, 111, 110, 101]⟩, .bool false, .bool true, .bool false, .bool false, .bool false] 47))
              have HM7 := Lib.hid ((HV5.out.below hb).past (.cells #[.string ⟨#[103, 111, 110, 101]⟩, .bool false, .bool true, .bool false, .bool false, .bool false] 47))
              have HK7 := Lib.hid (Has.fresh w6 47 #[.string ⟨#[103, 111, 110, 101]⟩, .bool false, .bool true, .bool false, .bool false, .bool false])
              have HK1 := Lib.hid (show w6.heap.size ≠ s ∧ w6.heap.size ≠ g1 ∧ w.heap.size < w6.heap.size by have h1 := (HV5.out.below hb).bound; have h2 := HI6.out.lo; have h3 := HI6.out.size; have h4 := HG1.out; omega)
              clear hb d0 HC5 HV5 HKO
              have u1 : (w6.alloc (.cells #[.string ⟨#[103, 111, 110, 101]⟩, .bool false, .bool true, .bool false, .bool false, .bool false] 47)).cell? ⟨w6.heap.size, 1, none⟩ = some (.bool false) := HK7.out.at_ 1
              have u2 : (w6.alloc (.cells #[.string ⟨#[103, 111, 110, 101]⟩, .bool false, .bool true, .bool false, .bool false, .bool false] 47)).cell? ⟨w6.heap.size, 2, none⟩ = some (.bool true) := HK7.out.at_ 2
              go_wp2_with fail
              have HN7 := Lib.hid (mark_x q s r5 HQ.out _ HI7.out.looks)
              cases hx : gM r5 with
              | error y =>
                have HXE := Lib.hid (show seeP r = .error y from HZ7.out.trans (bnd_err hx))
                rw [hx] at HN7
                refine HN7.out.mono ?_
                rintro e wx ⟨rfl, h1, h2⟩
                have HE := Lib.hid (show VX (fun m => Value.agg (msgC m)) (seeP r) q s w (.panicked (own s)) wx from by rw [HXE.out]; exact ⟨rfl, h1, HI7.out.chg.trans h2⟩)
                clear h1 h2
                go_wp2
                show _ ∧ _
                exact ⟨rfl, HE.out⟩
              | ok a =>
                obtain ⟨b2, r7⟩ := a
                rw [hx] at HN7
                have HY := Lib.hid (HZ7.out.trans (bnd_ok hx))
                clear hx
                obtain ⟨m7, hm7⟩ : ∃ m', m' = ({ m with mark := b2 } : MsgP) := ⟨_, rfl⟩
                have HK7k := Lib.hid (show m7.kind = 4 by rw [hm7]; exact HK.out)
                have HZ8 := Lib.hid (show seeP r = .ok (m7, r7) from by rw [hm7]; exact HY.out.trans (if_pos HK.out))
                have HLA := Lib.hid (show Lib.lay (msgC m) 6 (#[.int .i64 b2.1, .int .i64 b2.2] : Array Value).toList = msgC m7 by rw [hm7]; rfl)
                have HMN := Lib.hid hm7
                clear hm7 HY
                refine HN7.out.mono ?_
                rintro e w7 ⟨rfl, h1, h2⟩
                have HI7g := Lib.hid (HI7.out.got h1 h2)
                have HG7g := Lib.hid (has_got HG7.out h2 HGS.out)
                have HM7g := Lib.hid (has_got HM7.out h2 HG1.out.2)
                have HK7g := Lib.hid (has_got HK7.out h2 HK1.out.1)
                clear h1 h2 HN7 u1 u2
                go_wp2_with (first | ((with_reducible refine wpList_storeM 23 (.tmp 29) (.tmp 28) rfl g1 6 27 (msgC m) #[.int .i64 b2.1, .int .i64 b2.2] (msgC m7) ?_); refine And.intro ⟨rfl, by rfl, by rfl, mark_size _ _, mark_one _ _, of_decide_eq_true rfl, HLA.out, HM7g.out⟩ ?_; intro V7 HM8 HC8; have HI8 := Lib.hid (HI7g.out.put HC8.out (Nat.le_of_lt HG1.out.1)); have HG8 := Lib.hid (HG7g.out.over HC8.out (Nat.ne_of_lt HG1.out.1)); have HK8 := Lib.hid (HK7g.out.over HC8.out HK1.out.2.1); have u3 : V7.cell? ⟨w6.heap.size, 3, none⟩ = some (.bool false) := HK8.out.at_ 3; have u4 : V7.cell? ⟨w6.heap.size, 4, none⟩ = some (.bool false) := HK8.out.at_ 4; have u5 : V7.cell? ⟨w6.heap.size, 5, none⟩ = some (.bool false) := HK8.out.at_ 5; (try simp only [Act.put, List.setIfInBounds_toArray, List.set_cons_zero, List.set_cons_succ])) | ((with_reducible refine Who.wpList_loadC 27 (.tmp 3) rfl g1 0 (msgC m7) ?_); refine And.intro ⟨by rfl, by rfl, ⟨_, Tryd.underlying27, rfl⟩, info_size _⟩ (And.intro (Who.has_range HM8.out) ?_); (try simp only [Act.put, List.setIfInBounds_toArray, List.set_cons_zero, List.set_cons_succ])) | ((with_reducible refine wpList_storeM 27 (.tmp 2) (.tmp 45) rfl w.heap.size 0 27 (msgC msg0) (msgC m7) (msgC m7) ?_); refine And.intro ⟨rfl, by rfl, by rfl, info_size _, msgC_one _, of_decide_eq_true rfl, Who.lay_all _ _ rfl, HG8.out⟩ ?_; intro WZ HVZ HCZ; (try simp only [Act.put, List.setIfInBounds_toArray, List.set_cons_zero, List.set_cons_succ])))
                refine bodyPost_ret (v := .agg (msgC m7)) (results_two Tryd.results47 _ _ w.heap.size _ _ (by rfl) HVZ.out Tryd.underlying27 rfl (info_size _)) rfl ?_
                have HIZ := HI8.out.put HCZ.out (Nat.le_refl _)
                rw [HZ8.out]
                exact ⟨rfl, HIZ.looks, HIZ.chg⟩
            have HK := Lib.hid (show ¬ m.kind = 1 ∧ ¬ m.kind = 2 ∧ ¬ m.kind = 4 from ⟨fun e => q1 (HMK.out.symm.trans e), fun e => q2 (HMK.out.symm.trans e), fun e => q4 (HMK.out.symm.trans e)⟩)
            have HZ7 := Lib.hid (show seeP r = .ok (m, r5) from HX5.out.trans (by unfold tl1; rw [if_neg (fun h => h.elim HK.out.1 HK.out.2.1), if_neg HK.out.2.2]))
            have HKO := Lib.hid (show ∀ W, Calls Tryd.prog 27 #[.int .i64 k] W fun e w' => e = .returned (.agg #[.string ⟨#[110, 111, 110, 101]⟩, .bool false, .bool false, .bool false, .bool false, .bool false]) ∧ Below W.heap.size W w' from fun W => (show kindC k = #[.string ⟨#[110, 111, 110, 101]⟩, .bool false, .bool false, .bool false, .bool false, .bool false] by unfold kindC; simp [q1, q2, q3, q4]) ▸ kindOf_any k W)
            clear q4 q3 q2 q1
            go_wp2_with ((with_reducible refine wpList_storeM 25 (.tmp 16) (.tmp 15) rfl g1 10 27 (msgC (hdM k f t v)) (vecC z) (msgC m) ?_); refine And.intro ⟨rfl, by rfl, by rfl, vec_size _, vec_one _, of_decide_eq_true rfl, HML.out, HM6.out⟩ ?_; intro W5 HV5 HC5; have d0 : W5.cell? ⟨g1, 0, none⟩ = some (.int .i64 k) := HMK.out ▸ HV5.out.at_ 0; (try simp only [Act.put, List.setIfInBounds_toArray, List.set_cons_zero, List.set_cons_succ]))
            with_reducible refine (HKO.out _).mono ?_
            rintro e w6 ⟨rfl, hb⟩
            have HI7 := Lib.hid (((HI6.out.put HC5.out (Nat.le_of_lt HG1.out.1)).low hb).alloc (.cells #[.string ⟨#[110, 111, 110, 101]⟩, .bool false, .bool false, .bool false, .bool false, .bool false] 47))
            have HG7 := Lib.hid (((HG6.out.over HC5.out (Nat.ne_of_lt HG1.out.1)).below hb).past (.cells #[.string ⟨#[110, 111, 110, 101]⟩, .bool false, .bool false, .bool false, .bool false, .bool false] 47))
            have HM7 := Lib.hid ((HV5.out.below hb).past (.cells #[.string ⟨#[110, 111, 110, 101]⟩, .bool false, .bool false, .bool false, .bool false, .bool false] 47))
            have HK7 := Lib.hid (Has.fresh w6 47 #[.string ⟨#[110, 111, 110, 101]⟩, .bool false, .bool false, .bool false, .bool false, .bool false])
            have HK1 := Lib.hid (show w6.heap.size ≠ s ∧ w6.heap.size ≠ g1 ∧ w.heap.size < w6.heap.size by have h1 := (HV5.out.below hb).bound; have h2 := HI6.out.lo; have h3 := HI6.out.size; have h4 := HG1.out; omega)
            clear hb d0 HC5 HV5 HKO
            have u1 : (w6.alloc (.cells #[.string ⟨#[110, 111, 110, 101]⟩, .bool false, .bool false, .bool false, .bool false, .bool false] 47)).cell? ⟨w6.heap.size, 1, none⟩ = some (.bool false) := HK7.out.at_ 1
            have u2 : (w6.alloc (.cells #[.string ⟨#[110, 111, 110, 101]⟩, .bool false, .bool false, .bool false, .bool false, .bool false] 47)).cell? ⟨w6.heap.size, 2, none⟩ = some (.bool false) := HK7.out.at_ 2
            have u3 : (w6.alloc (.cells #[.string ⟨#[110, 111, 110, 101]⟩, .bool false, .bool false, .bool false, .bool false, .bool false] 47)).cell? ⟨w6.heap.size, 3, none⟩ = some (.bool false) := HK7.out.at_ 3
            have u4 : (w6.alloc (.cells #[.string ⟨#[110, 111, 110, 101]⟩, .bool false, .bool false, .bool false, .bool false, .bool false] 47)).cell? ⟨w6.heap.size, 4, none⟩ = some (.bool false) := HK7.out.at_ 4
            have u5 : (w6.alloc (.cells #[.string ⟨#[110, 111, 110, 101]⟩, .bool false, .bool false, .bool false, .bool false, .bool false] 47)).cell? ⟨w6.heap.size, 5, none⟩ = some (.bool false) := HK7.out.at_ 5
            go_wp2_with (first | ((with_reducible refine Who.wpList_loadC 27 (.tmp 3) rfl g1 0 (msgC m) ?_); refine And.intro ⟨by rfl, by rfl, ⟨_, Tryd.underlying27, rfl⟩, info_size _⟩ (And.intro (Who.has_range HM7.out) ?_); (try simp only [Act.put, List.setIfInBounds_toArray, List.set_cons_zero, List.set_cons_succ])) | ((with_reducible refine wpList_storeM 27 (.tmp 2) (.tmp 45) rfl w.heap.size 0 27 (msgC msg0) (msgC m) (msgC m) ?_); refine And.intro ⟨rfl, by rfl, by rfl, info_size _, msgC_one _, of_decide_eq_true rfl, Who.lay_all _ _ rfl, HG7.out⟩ ?_; intro WZ HVZ HCZ; (try simp only [Act.put, List.setIfInBounds_toArray, List.set_cons_zero, List.set_cons_succ])))
            refine bodyPost_ret (v := .agg (msgC m)) (results_two Tryd.results47 _ _ w.heap.size _ _ (by rfl) HVZ.out Tryd.underlying27 rfl (info_size _)) rfl ?_
            have HIZ := HI7.out.put HCZ.out (Nat.le_refl _)
            rw [HZ7.out]
            exact ⟨rfl, HIZ.looks, HIZ.chg⟩
end Go.Proofs.YtfjmcklmoebnaaaDoor.Mg
