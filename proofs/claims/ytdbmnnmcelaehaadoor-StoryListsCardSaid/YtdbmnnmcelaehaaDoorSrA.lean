/- Words of stamps, a row that grows by a text, lines. -/
import Derived.Test.YtdbmnnmcelaehaaDoorTxB
import Derived.Test.YtdbmnnmcelaehaaDoorOpenE
import Derived.Test.YtdbmnnmcelaehaaDoorReg
import Derived.Test.YtdbmnnmcelaehaaDoorWho
namespace Go.Proofs.YtdbmnnmcelaehaaDoor.Sr
open Go.RowKit Go.Proofs.YtdbmnnmcelaehaaDoor.Mem Go.Proofs.YtdbmnnmcelaehaaDoor.Tx
open Go.Proofs.YtdbmnnmcelaehaaDoor.Fc (fitS NodeP LinkP NodeC nodeC linkC)
open Go.Proofs.YtdbmnnmcelaehaaDoor.Vc (vecC stC eq8 eqv neq_st)
set_option linter.unusedVariables false set_option linter.unusedSimpArgs false

def stampB (s : Int × Int) : ByteArray := itoaB s.1 ++ ⟨#[46]⟩ ++ itoaB s.2
theorem stampB_size {s : Int × Int} (h : fitS s) : (stampB s).size ≤ 43 := by
  unfold stampB
  rw [ByteArray.size_append, ByteArray.size_append]
  have h1 := itoaB_size h.1
  have h2 := itoaB_size h.2
  have z1 : (⟨#[46]⟩ : ByteArray).size = 1 := rfl
  omega
set_option maxRecDepth 100000 in
set_option maxHeartbeats 2000000 in
theorem stamp_any (s : Int × Int) (hs : Fc.fitS s) (w : World) (hT : Tabs w) : Calls Tryd.prog 23 #[.agg #[.int .i64 s.1, .int .i64 s.2]] w fun e w' => e = .returned (.string (stampB s)) ∧ Below w.heap.size w w' := by
  have hb0 := (Below.refl w.heap.size w).alloc (Nat.le_refl _) (.cells #[.int .i64 s.1, .int .i64 s.2] 23)
  have HB0 := Lib.hid hb0
  have HX := Lib.hid (Has.fresh w 23 #[.int .i64 s.1, .int .i64 s.2])
  have HD1 := Lib.hid (fun V (h : Tabs V) => itoa_any s.1 hs.1 V h)
  have HD2 := Lib.hid (fun V (h : Tabs V) => itoa_any s.2 hs.2 V h)
  have HTB := Lib.hid (fun V (h : Below (w.alloc (.cells #[.int .i64 s.1, .int .i64 s.2] 23)).heap.size (w.alloc (.cells #[.int .i64 s.1, .int .i64 s.2] 23)) V) => (hT.self hb0).self h)
  have s1 := itoaB_size hs.1
  have s2 := itoaB_size hs.2
  have z1 : (⟨#[46]⟩ : ByteArray).size = 1 := rfl
  have a1 := fun W => run_string_add_sum (P := Tryd.prog) W (itoaB s.1) ⟨#[46]⟩ (by omega)
  have a2 := fun W => run_string_add_sum (P := Tryd.prog) W (itoaB s.1 ++ ⟨#[46]⟩) (itoaB s.2) (by rw [ByteArray.size_append]; omega)
  have HBR := Lib.hid ((Below.refl (w.alloc (.cells #[.int .i64 s.1, .int .i64 s.2] 23)).heap.size (w.alloc (.cells #[.int .i64 s.1, .int .i64 s.2] 23))).drew)
  have HSB := Lib.hid (show ∀ V, Below (w.alloc (.cells #[.int .i64 s.1, .int .i64 s.2] 23)).heap.size (w.alloc (.cells #[.int .i64 s.1, .int .i64 s.2] 23)) V → V.cell? ⟨w.heap.size, 0, none⟩ = some (.int .i64 s.1) ∧ V.cell? ⟨w.heap.size, 1, none⟩ = some (.int .i64 s.2) from fun V h => ⟨(HX.out.below h).at_ 0, (HX.out.below h).at_ 1⟩)
  clear hb0 hs s1 s2 z1 hT
  go_enter Tryd.func23, Tryd.ntmps23
  go_wp2
  refine wp_region_held_drew (S := fun V => V.cell? ⟨w.heap.size, 0, none⟩ = some (.int .i64 s.1) ∧ V.cell? ⟨w.heap.size, 1, none⟩ = some (.int .i64 s.2)) (by kernel_rfl) (HSB.out _ HBR.out) (fun hHeld => ?_)
  refine Vc.wpAnyH_read (i := 0) (d := some 3) (v := ?vy1) (by rfl) (by rfl) (by kernel_rfl) (by kernel_rfl) (by kernel_rfl) (fun _ _ _ h => h) (by rfl) ?hyy1 (by assumption) ?resty1
  case hyy1 =>
    intro w hSw
    obtain ⟨s0, s1⟩ := hSw
    go_simp
    try with_reducible rfl
  (try simp only [Act.put, List.setIfInBounds_toArray, List.set_cons_zero, List.set_cons_succ])
  refine Vc.wpAnyH_read (i := 1) (d := some 4) (v := ?vy2) (by rfl) (by rfl) (by kernel_rfl) (by kernel_rfl) (by kernel_rfl) (fun _ _ _ h => h) (by rfl) ?hyy2 (by assumption) ?resty2
  case hyy2 =>
    intro w hSw
    obtain ⟨s0, s1⟩ := hSw
    go_simp
    try with_reducible rfl
  (try simp only [Act.put, List.setIfInBounds_toArray, List.set_cons_zero, List.set_cons_succ])
  refine Vc.wpAnyH_read (i := 4) (d := some 7) (v := ?vy3) (by rfl) (by rfl) (by kernel_rfl) (by kernel_rfl) (by kernel_rfl) (fun _ _ _ h => h) (by rfl) ?hyy3 (by assumption) ?resty3
  case hyy3 =>
    intro w hSw
    obtain ⟨s0, s1⟩ := hSw
    go_simp
    try with_reducible rfl
  (try simp only [Act.put, List.setIfInBounds_toArray, List.set_cons_zero, List.set_cons_succ])
  refine Vc.wpAnyH_read (i := 5) (d := some 8) (v := ?vy4) (by rfl) (by rfl) (by kernel_rfl) (by kernel_rfl) (by kernel_rfl) (fun _ _ _ h => h) (by rfl) ?hyy4 (by assumption) ?resty4
  case hyy4 =>
    intro w hSw
    obtain ⟨s0, s1⟩ := hSw
    go_simp
    try with_reducible rfl
  (try simp only [Act.put, List.setIfInBounds_toArray, List.set_cons_zero, List.set_cons_succ])
  refine wpAnyH_ready (rs := [2]) (by kernel_rfl) (by simp) ?_
  refine AllReadyH.cons rfl (fun K hK => ?_) AllReadyH.nil
  go_simp
  go_at_call 24
  refine (HD1.out _ (HTB.out _ HBR.out)).mono ?_
  rintro e w1 ⟨rfl, hb⟩
  have HB1 := Lib.hid (HBR.out.trans (hb.mono HBR.out.size))
  clear hb
  refine hK.out _ _ (HSB.out _ HB1.out) (fun hHeld => ?_)
  clear hK K
  (try simp only [Act.put, List.setIfInBounds_toArray, List.set_cons_zero, List.set_cons_succ])
  refine Vc.wpAnyH_read (i := 3) (d := some 6) (v := ?vy5) (by rfl) (by rfl) (by kernel_rfl) (by kernel_rfl) (by kernel_rfl) (fun _ _ _ h => h) (by rfl) ?hyy5 (by assumption) ?resty5
  case hyy5 =>
    intro w hSw
    obtain ⟨s0, s1⟩ := hSw
    go_simp
    try with_reducible rfl
  (try simp only [Act.put, List.setIfInBounds_toArray, List.set_cons_zero, List.set_cons_succ])
  refine wpAnyH_ready (rs := [6]) (by kernel_rfl) (by simp) ?_
  refine AllReadyH.cons rfl (fun K hK => ?_) AllReadyH.nil
  go_simp
  go_at_call 24
  refine (HD2.out _ (HTB.out _ HB1.out)).mono ?_
  rintro e w2 ⟨rfl, hb⟩
  have HB2 := Lib.hid (HB1.out.trans (hb.mono HB1.out.size))
  clear hb
  refine hK.out _ _ (HSB.out _ HB2.out) (fun hHeld => ?_)
  clear hK K
  (try simp only [Act.put, List.setIfInBounds_toArray, List.set_cons_zero, List.set_cons_succ])
  refine Vc.wpAnyH_read (i := 7) (d := some 10) (v := ?vy6) (by rfl) (by rfl) (by kernel_rfl) (by kernel_rfl) (by kernel_rfl) (fun _ _ _ h => h) (by rfl) ?hyy6 (by assumption) ?resty6
  case hyy6 =>
    intro w hSw
    obtain ⟨s0, s1⟩ := hSw
    go_simp
    try with_reducible rfl
  (try simp only [Act.put, List.setIfInBounds_toArray, List.set_cons_zero, List.set_cons_succ])
  refine Vc.wpAnyH_read (i := 8) (d := some 2) (v := ?vy7) (by rfl) (by rfl) (by kernel_rfl) (by kernel_rfl) (by kernel_rfl) (fun _ _ _ h => h) (by rfl) ?hyy7 (by assumption) ?resty7
  case hyy7 =>
    intro w hSw
    obtain ⟨s0, s1⟩ := hSw
    go_simp
    try with_reducible rfl
  (try simp only [Act.put, List.setIfInBounds_toArray, List.set_cons_zero, List.set_cons_succ])
  refine wpAnyH_done (by kernel_rfl) ?_ _
  have HBZ := Lib.hid (HB0.out.trans (HB2.out.mono HB0.out.size))
  go_wp2
  go_ret
  exact ⟨rfl, HBZ.out⟩
set_option maxRecDepth 100000 in
set_option maxHeartbeats 2000000 in
theorem rstamp_any (s : Int × Int) (hs : Fc.fitS s) (w : World) : Calls Tryd.prog 28 #[.agg #[.int .i64 s.1, .int .i64 s.2]] w fun e w' => e = .returned (.string (stampB s)) ∧ Below w.heap.size w w' := by
  have hb0 := (Below.refl w.heap.size w).alloc (Nat.le_refl _) (.cells #[.int .i64 s.1, .int .i64 s.2] 23)
  have HB0 := Lib.hid hb0
  have HX := Lib.hid (Has.fresh w 23 #[.int .i64 s.1, .int .i64 s.2])
  have HD1 := Lib.hid (fun V => digits_any s.1 hs.1 V)
  have HD2 := Lib.hid (fun V => digits_any s.2 hs.2 V)
  have s1 := itoaB_size hs.1
  have s2 := itoaB_size hs.2
  have z1 : (⟨#[46]⟩ : ByteArray).size = 1 := rfl
  have a1 := fun W => run_string_add_sum (P := Tryd.prog) W (itoaB s.1) ⟨#[46]⟩ (by omega)
  have a2 := fun W => run_string_add_sum (P := Tryd.prog) W (itoaB s.1 ++ ⟨#[46]⟩) (itoaB s.2) (by rw [ByteArray.size_append]; omega)
  have HBR := Lib.hid ((Below.refl (w.alloc (.cells #[.int .i64 s.1, .int .i64 s.2] 23)).heap.size (w.alloc (.cells #[.int .i64 s.1, .int .i64 s.2] 23))).drew)
  have HSB := Lib.hid (show ∀ V, Below (w.alloc (.cells #[.int .i64 s.1, .int .i64 s.2] 23)).heap.size (w.alloc (.cells #[.int .i64 s.1, .int .i64 s.2] 23)) V → V.cell? ⟨w.heap.size, 0, none⟩ = some (.int .i64 s.1) ∧ V.cell? ⟨w.heap.size, 1, none⟩ = some (.int .i64 s.2) from fun V h => ⟨(HX.out.below h).at_ 0, (HX.out.below h).at_ 1⟩)
  clear hb0 hs s1 s2 z1
  go_enter Tryd.func28, Tryd.ntmps28
  go_wp2
  refine wp_region_held_drew (S := fun V => V.cell? ⟨w.heap.size, 0, none⟩ = some (.int .i64 s.1) ∧ V.cell? ⟨w.heap.size, 1, none⟩ = some (.int .i64 s.2)) (by kernel_rfl) (HSB.out _ HBR.out) (fun hHeld => ?_)
  refine Vc.wpAnyH_read (i := 0) (d := some 3) (v := ?vy8) (by rfl) (by rfl) (by kernel_rfl) (by kernel_rfl) (by kernel_rfl) (fun _ _ _ h => h) (by rfl) ?hyy8 (by assumption) ?resty8
  case hyy8 =>
    intro w hSw
    obtain ⟨s0, s1⟩ := hSw
    go_simp
    try with_reducible rfl
  (try simp only [Act.put, List.setIfInBounds_toArray, List.set_cons_zero, List.set_cons_succ])
  refine Vc.wpAnyH_read (i := 1) (d := some 4) (v := ?vy9) (by rfl) (by rfl) (by kernel_rfl) (by kernel_rfl) (by kernel_rfl) (fun _ _ _ h => h) (by rfl) ?hyy9 (by assumption) ?resty9
  case hyy9 =>
    intro w hSw
    obtain ⟨s0, s1⟩ := hSw
    go_simp
    try with_reducible rfl
  (try simp only [Act.put, List.setIfInBounds_toArray, List.set_cons_zero, List.set_cons_succ])
  refine Vc.wpAnyH_read (i := 4) (d := some 7) (v := ?vy10) (by rfl) (by rfl) (by kernel_rfl) (by kernel_rfl) (by kernel_rfl) (fun _ _ _ h => h) (by rfl) ?hyy10 (by assumption) ?resty10
  case hyy10 =>
    intro w hSw
    obtain ⟨s0, s1⟩ := hSw
    go_simp
    try with_reducible rfl
  (try simp only [Act.put, List.setIfInBounds_toArray, List.set_cons_zero, List.set_cons_succ])
  refine Vc.wpAnyH_read (i := 5) (d := some 8) (v := ?vy11) (by rfl) (by rfl) (by kernel_rfl) (by kernel_rfl) (by kernel_rfl) (fun _ _ _ h => h) (by rfl) ?hyy11 (by assumption) ?resty11
  case hyy11 =>
    intro w hSw
    obtain ⟨s0, s1⟩ := hSw
    go_simp
    try with_reducible rfl
  (try simp only [Act.put, List.setIfInBounds_toArray, List.set_cons_zero, List.set_cons_succ])
  refine wpAnyH_ready (rs := [2]) (by kernel_rfl) (by simp) ?_
  refine AllReadyH.cons rfl (fun K hK => ?_) AllReadyH.nil
  go_simp
  go_at_call 29
  refine (HD1.out _).mono ?_
  rintro e w1 ⟨rfl, hb⟩
  have HB1 := Lib.hid (HBR.out.trans (hb.mono HBR.out.size))
  clear hb
  refine hK.out _ _ (HSB.out _ HB1.out) (fun hHeld => ?_)
  clear hK K
  (try simp only [Act.put, List.setIfInBounds_toArray, List.set_cons_zero, List.set_cons_succ])
  refine Vc.wpAnyH_read (i := 3) (d := some 6) (v := ?vy12) (by rfl) (by rfl) (by kernel_rfl) (by kernel_rfl) (by kernel_rfl) (fun _ _ _ h => h) (by rfl) ?hyy12 (by assumption) ?resty12
  case hyy12 =>
    intro w hSw
    obtain ⟨s0, s1⟩ := hSw
    go_simp
    try with_reducible rfl
  (try simp only [Act.put, List.setIfInBounds_toArray, List.set_cons_zero, List.set_cons_succ])
  refine wpAnyH_ready (rs := [6]) (by kernel_rfl) (by simp) ?_
  refine AllReadyH.cons rfl (fun K hK => ?_) AllReadyH.nil
  go_simp
  go_at_call 29
  refine (HD2.out _).mono ?_
  rintro e w2 ⟨rfl, hb⟩
  have HB2 := Lib.hid (HB1.out.trans (hb.mono HB1.out.size))
  clear hb
  refine hK.out _ _ (HSB.out _ HB2.out) (fun hHeld => ?_)
  clear hK K
  (try simp only [Act.put, List.setIfInBounds_toArray, List.set_cons_zero, List.set_cons_succ])
  refine Vc.wpAnyH_read (i := 7) (d := some 10) (v := ?vy13) (by rfl) (by rfl) (by kernel_rfl) (by kernel_rfl) (by kernel_rfl) (fun _ _ _ h => h) (by rfl) ?hyy13 (by assumption) ?resty13
  case hyy13 =>
    intro w hSw
    obtain ⟨s0, s1⟩ := hSw
    go_simp
    try with_reducible rfl
  (try simp only [Act.put, List.setIfInBounds_toArray, List.set_cons_zero, List.set_cons_succ])
  refine Vc.wpAnyH_read (i := 8) (d := some 2) (v := ?vy14) (by rfl) (by rfl) (by kernel_rfl) (by kernel_rfl) (by kernel_rfl) (fun _ _ _ h => h) (by rfl) ?hyy14 (by assumption) ?resty14
  case hyy14 =>
    intro w hSw
    obtain ⟨s0, s1⟩ := hSw
    go_simp
    try with_reducible rfl
  (try simp only [Act.put, List.setIfInBounds_toArray, List.set_cons_zero, List.set_cons_succ])
  refine wpAnyH_done (by kernel_rfl) ?_ _
  have HBZ := Lib.hid (HB0.out.trans (HB2.out.mono HB0.out.size))
  go_wp2
  go_ret
  exact ⟨rfl, HBZ.out⟩
theorem neq_vec (x y : Nat → Int) (w : World) : (binOp .neq 25 (.agg (vecC x)) (.agg (vecC y))).run Tryd.prog w = .ok (.bool (!eq8 x y)) w := by
  simp only [binOp]
  simp [Op.equal, Op.maxDepth, eqv]
theorem stC_eq (a b : Int) : stC a b = #[.int .i64 a, .int .i64 b] := rfl
def zeroS (s : Int × Int) : Bool := s.1 == 0 && s.2 == 0
def zero8 (x : Nat → Int) : Bool := eq8 x (fun _ => 0)
theorem is_any (s : Int × Int) (w : World) : Calls Tryd.prog 48 #[.agg #[.int .i64 s.1, .int .i64 s.2]] w fun e w' => e = .returned (.bool (!zeroS s)) ∧ Below w.heap.size w w' := by
  have HB := Lib.hid ((Below.refl w.heap.size w).alloc (Nat.le_refl _) (.cells #[.int .i64 s.1, .int .i64 s.2] 23))
  have hq := neq_st s.1 s.2 0 0
  have HR := Lib.hid (show zeroS s = (s.1 == 0 && s.2 == 0) from rfl)
  generalize zeroS s = z at *
  rw [← HR.out] at hq
  unfold stC at hq
  go_enter Tryd.func48, Tryd.ntmps48
  go_wp2
  go_ret
  exact ⟨rfl, HB.out⟩

/-- One text more behind a row that a call owns: what holds behind the append. -/
structure Grew (B : Nat) (w w' : World) (u u' : Value) (l : List ByteArray) (b : ByteArray) : Prop where
  row : OwnS w' B u' (l ++ [b])
  below : Below B w w'
  chg : Chg (fun k => u.ownBlock = some k) w w'
theorem wpl_text {ops : Array Oper} {rest : List Oper} {o : Oper} {a : Act} {Q : Exit → Act → World → Prop} (s x : Operand) (hgd : o.guard = none)
    (ho : o.op = .call { callee := .builtin .append, args := #[s, x], argTypes := #[34, 34] }) {B : Nat} {u : Value} {l : List ByteArray} {wc : World} {b : ByteArray}
    (h : ((a.eval s = u ∧ (∃ g : Nat, a.eval x = .slice (some ⟨g, 0, none⟩) 1 1 ∧ g = wc.heap.size)) ∧ OwnS wc B u l ∧ B ≤ wc.heap.size ∧ l.length ≤ 4000000) ∧
      ∀ u' w', Grew B wc w' u u' l b → wpList Tryd.prog ops Q rest (a.put o.dst u') w') :
    wpList Tryd.prog ops Q (o :: rest) a (wc.alloc (.cells #[.string b] 9)) := by
  obtain ⟨⟨⟨h1, g0, h2, rfl⟩, h3, h4, h5⟩, hk⟩ := h
  obtain ⟨i0, hi, hz0, hz1, hz2⟩ : ∃ i, Tryd.prog.info? 9 = some i ∧ i.zero = some (.string ⟨#[]⟩) ∧ i.size = 1 ∧ i.bytes = 16 := by
    cases hh : Tryd.prog.info? 9 with
    | none => have := info_s; rw [hh] at this; cases this
    | some i => have := info_s; rw [hh] at this; simp at this; exact ⟨i, rfl, this⟩
  refine wpList_append_lies _ hgd s x 34 ho B 9 i0 (.string ⟨#[]⟩) 1 16 Tryd.underlying34 hi hz0 hz1 hz2 rfl (by decide) u l.length (l.map Value.string) h1 (World.ownsRow.alloc h3 _) ⟨wc.heap.size, 0, none⟩ 1 1 [.string b] h2 rfl ?_ ?_ (by decide) (by unfold maxLen; omega) (by omega) (by simp; omega) _ rfl ?_
  · exact World.news_of_block (Has.fresh wc 9 #[.string b])
  · intro u hu; simp at hu; subst hu; rfl
  · intro g cap w' hg hgr hor hlt
    refine hk _ _ ⟨?_, ?_, ?_⟩
    · unfold OwnS
      rw [List.length_append, List.map_append]
      exact hg
    · exact ((Below.refl B wc).alloc h4 _).grown hgr (by simp; omega) (fun q hq => ((World.ownsRow.lt h3) q hq).1)
    · have c : Chg (fun k => u.ownBlock = some k) (wc.alloc (.cells #[.string b] 9)) w' := ⟨hgr.os, hgr.tape, hgr.output, hgr.size, fun k hk hn => hgr.block k hk (fun e => hn e.symm)⟩
      exact ((Chg.refl _ wc).alloc _).trans c
theorem step_text {ops : Array Oper} {o : Oper} {a : Act} {K : Act → World → Prop} {Q : Exit → Act → World → Prop} {E : Prop} (s x : Operand) (hgd : o.guard = none)
    (ho : o.op = .call { callee := .builtin .append, args := #[s, x], argTypes := #[34, 34] }) {B : Nat} {u : Value} {l : List ByteArray} {wc : World} {b : ByteArray}
    (h : ((a.eval s = u ∧ (∃ g : Nat, a.eval x = .slice (some ⟨g, 0, none⟩) 1 1 ∧ g = wc.heap.size)) ∧ OwnS wc B u l ∧ B ≤ wc.heap.size ∧ l.length ≤ 4000000) ∧
      ∀ u' w', Grew B wc w' u u' l b → K (a.put o.dst u') w') :
    if Region.wanted o (yielded ops a.tmps) = true then Oper.wp Tryd.prog o a (wc.alloc (.cells #[.string b] 9)) K Q else E := by
  obtain ⟨⟨⟨h1, g0, h2, rfl⟩, h3, h4, h5⟩, hk⟩ := h
  obtain ⟨i0, hi, hz0, hz1, hz2⟩ : ∃ i, Tryd.prog.info? 9 = some i ∧ i.zero = some (.string ⟨#[]⟩) ∧ i.size = 1 ∧ i.bytes = 16 := by
    cases hh : Tryd.prog.info? 9 with
    | none => have := info_s; rw [hh] at this; cases this
    | some i => have := info_s; rw [hh] at this; simp at this; exact ⟨i, rfl, this⟩
  refine step_append_lies _ hgd s x 34 ho B 9 i0 (.string ⟨#[]⟩) 1 16 Tryd.underlying34 hi hz0 hz1 hz2 rfl (by decide) u l.length (l.map Value.string) h1 (World.ownsRow.alloc h3 _) ⟨wc.heap.size, 0, none⟩ 1 1 [.string b] h2 rfl ?_ ?_ (by decide) (by unfold maxLen; omega) (by omega) (by simp; omega) _ rfl ?_
  · exact World.news_of_block (Has.fresh wc 9 #[.string b])
  · intro u hu; simp at hu; subst hu; rfl
  · intro g cap w' hg hgr hor hlt
    refine hk _ _ ⟨?_, ?_, ?_⟩
    · unfold OwnS
      rw [List.length_append, List.map_append]
      exact hg
    · exact ((Below.refl B wc).alloc h4 _).grown hgr (by simp; omega) (fun q hq => ((World.ownsRow.lt h3) q hq).1)
    · have c : Chg (fun k => u.ownBlock = some k) (wc.alloc (.cells #[.string b] 9)) w' := ⟨hgr.os, hgr.tape, hgr.output, hgr.size, fun k hk hn => hgr.block k hk (fun e => hn e.symm)⟩
      exact ((Chg.refl _ wc).alloc _).trans c
def joinC (l : List ByteArray) : ByteArray := joinB l ⟨#[44]⟩
def SmallP (l : List ByteArray) : Prop := l.length ≤ 3000000 ∧ ∀ p ∈ l, p.size ≤ 2000000
theorem SmallP.join {l : List ByteArray} (h : SmallP l) : l.length ≤ 140737488355328 ∧ (Lib.join (l.map (·.data.toList)) (⟨#[44]⟩ : ByteArray).data.toList).length ≤ 140737488355328 := by
  refine ⟨by have := h.1; omega, ?_⟩
  have h1 := join_len (⟨#[44]⟩ : ByteArray).data.toList 2000000 (l.map (·.data.toList)) (fun p hp => by
    simp only [List.mem_map] at hp
    obtain ⟨q, hq, rfl⟩ := hp
    exact h.2 q hq)
  rw [List.length_map] at h1
  have h2 : (⟨#[44]⟩ : ByteArray).data.toList.length = 1 := rfl
  rw [h2] at h1
  have h3 : l.length * (2000000 + 1) ≤ 3000000 * (2000000 + 1) := Nat.mul_le_mul_right _ h.1
  omega
theorem joinC_size {l : List ByteArray} (h : SmallP l) : (joinC l).size ≤ 140737488355328 := by
  unfold joinC joinB
  show (Lib.join _ _).toArray.size ≤ _
  rw [List.size_toArray]
  exact h.join.2
def lineB (wd : ByteArray) (id : Int × Int) (l : List ByteArray) : ByteArray := wd ++ ⟨#[32]⟩ ++ stampB id ++ ⟨#[32]⟩ ++ joinC l
set_option maxRecDepth 100000 in
set_option maxHeartbeats 2000000 in
theorem line_any (wd : ByteArray) (hw : wd.size ≤ 100) (id : Int × Int) (hid : fitS id) (B : Nat) (u : Value) (l : List ByteArray) (hl : SmallP l) (w : World) (hT : Tabs w) (hu : OwnS w B u l) : Calls Tryd.prog 25 #[.string wd, .agg #[.int .i64 id.1, .int .i64 id.2], u] w fun e w' => e = .returned (.string (lineB wd id l)) ∧ Below w.heap.size w w' := by
  have hb0 := (Below.refl w.heap.size w).alloc (Nat.le_refl _) (.cells #[.int .i64 id.1, .int .i64 id.2] 23)
  have HB0 := Lib.hid hb0
  have HT0 := Lib.hid (hT.self hb0)
  have HU0 := Lib.hid (own1_below hu hb0)
  have HST := Lib.hid (fun V (h : Tabs V) => stamp_any id hid V h)
  have HJ := Lib.hid (fun (V : World) (h : OwnS V B u l) => join_own ⟨#[44]⟩ h hl.join V)
  have s1 := stampB_size hid
  have s2 := joinC_size hl
  have z1 : (⟨#[32]⟩ : ByteArray).size = 1 := rfl
  obtain ⟨h1, e1⟩ : ∃ h1, h1 = wd ++ (⟨#[32]⟩ : ByteArray) := ⟨_, rfl⟩
  have f1 := congrArg ByteArray.size e1
  rw [ByteArray.size_append] at f1
  have a1 := fun W => run_string_add_sum (P := Tryd.prog) W wd ⟨#[32]⟩ (by omega)
  rw [← e1] at a1
  obtain ⟨h2, e2⟩ : ∃ h2, h2 = h1 ++ stampB id := ⟨_, rfl⟩
  have f2 := congrArg ByteArray.size e2
  rw [ByteArray.size_append] at f2
  have a2 := fun W => run_string_add_sum (P := Tryd.prog) W h1 (stampB id) (by omega)
  rw [← e2] at a2
  obtain ⟨h3, e3⟩ : ∃ h3, h3 = h2 ++ (⟨#[32]⟩ : ByteArray) := ⟨_, rfl⟩
  have f3 := congrArg ByteArray.size e3
  rw [ByteArray.size_append] at f3
  have a3 := fun W => run_string_add_sum (P := Tryd.prog) W h2 ⟨#[32]⟩ (by omega)
  rw [← e3] at a3
  obtain ⟨h4, e4⟩ : ∃ h4, h4 = h3 ++ joinC l := ⟨_, rfl⟩
  have a4 := fun W => run_string_add_sum (P := Tryd.prog) W h3 (joinC l) (by omega)
  rw [← e4] at a4
  have HE := Lib.hid (show h4 = lineB wd id l by unfold lineB; rw [e4, e3, e2, e1])
  unfold joinC at a4
  clear hb0 hT hu hid hl s1 s2 z1 f1 f2 f3 e1 e2 e3 e4 hw
  go_enter Tryd.func25, Tryd.ntmps25
  go_wp2_with fail
  refine (HST.out _ HT0.out).mono ?_
  rintro e w1 ⟨rfl, hb⟩
  have HB1 := Lib.hid (HB0.out.trans (hb.mono HB0.out.size))
  have HU1 := Lib.hid (own1_below HU0.out hb)
  clear hb
  go_wp2_with fail
  refine (HJ.out _ HU1.out).mono ?_
  rintro e w2 ⟨rfl, hb⟩
  have HB2 := Lib.hid (HB1.out.trans (hb.mono HB1.out.size))
  clear hb
  go_wp2
  go_ret
  exact ⟨by rw [← HE.out]; rfl, HB2.out⟩
/-- The document's join of texts with commas. -/
theorem take_succ_join (l : List ByteArray) (j : Nat) (hj : j < l.length) : joinC (l.take (j + 1)) = (if j = 0 then joinC (l.take j) else joinC (l.take j) ++ ⟨#[44]⟩) ++ l[j] := by
  have e : l.take (j + 1) = l.take j ++ [l[j]] := by rw [List.take_succ_eq_append_getElem hj]
  rw [e]
  unfold joinC
  by_cases h0 : j = 0
  · subst h0
    rw [if_pos rfl, List.take_zero, List.nil_append, joinB_one]
    unfold joinB
    rw [List.map_nil, Lib.join_nil]
    exact ByteArray.empty_append.symm
  · have hne : l.take j ≠ [] := fun e => by
      have h : (l.take j).length = 0 := by rw [e]; rfl
      rw [List.length_take] at h
      omega
    rw [if_neg h0, joinB_snoc _ _ _ hne]
theorem SmallP.take {l : List ByteArray} (h : SmallP l) (j : Nat) : SmallP (l.take j) := ⟨by rw [List.length_take]; have := h.1; omega, fun p hp => h.2 p (List.mem_of_mem_take hp)⟩
set_option maxRecDepth 100000 in
set_option maxHeartbeats 2000000 in
theorem rjoin_any (B : Nat) (u : Value) (l : List ByteArray) (hl : SmallP l) (w : World) (hu : OwnS w B u l) : Calls Tryd.prog 49 #[u] w fun e w' => e = .returned (.string (joinC l)) ∧ Below w.heap.size w w' := by
  obtain ⟨A, c, rfl, hx⟩ := own_row hu
  have HX := Lib.hid hx
  have HL := Lib.hid hl
  have HU := Lib.hid hu
  have hle : l.length ≤ 9223372036854775807 := by have := hl.1; omega
  obtain ⟨n, hn⟩ : ∃ n, n = l.length := ⟨_, rfl⟩
  have HN := Lib.hid hn
  rw [← hn] at hle
  rw [← hn]
  clear hu hl hx hn
  go_enter Tryd.func49, Tryd.ntmps49
  go_wp2
  go_loopw [3, 8] (fun a i wr => ∃ j : Nat, j ≤ n ∧ i = .int .i64 j ∧ a = .string (joinC (l.take j)) ∧ wr = w) (fun _ i _ => n - (intOf i).toNat)
  case atStart => exact ⟨0, by omega, rfl, by rw [List.take_zero]; unfold joinC joinB; rw [List.map_nil, Lib.join_nil]; rfl, rfl⟩
  case round =>
    obtain ⟨j, hj, rfl, rfl, rfl⟩ := hrel
    by_cases hlt : j < n
    · have hlti : (j : Int) < n := by omega
      obtain ⟨g, off, rfl, hg, hc⟩ := HX.out (by have := HN.out; omega)
      have hjl : j < l.length := by have := HN.out; omega
      have xj := hc j hjl
      have HT := Lib.hid (take_succ_join l j hjl)
      have HJ := Lib.hid hlt
      have s1 := joinC_size (HL.out.take j)
      have s2 := HL.out.2 _ (List.getElem_mem hjl)
      have z1 : (⟨#[44]⟩ : ByteArray).size = 1 := rfl
      obtain ⟨p, hp⟩ : ∃ p, p = joinC (l.take j) := ⟨_, rfl⟩
      obtain ⟨b, hb⟩ : ∃ b, b = l[j] := ⟨_, rfl⟩
      rw [← hp] at s1
      rw [← hb] at s2 xj
      rw [← hp]
      have HT2 := Lib.hid (show joinC (l.take (j + 1)) = (if j = 0 then p else p ++ ⟨#[44]⟩) ++ b by rw [HT.out, hp, hb])
      clear hp hb HT hjl hc hg hj hlt
      by_cases h0 : 0 < j
      · have k1 : (0 : Int) < j := by omega
        have a1 := fun W => run_string_add_sum (P := Tryd.prog) W p ⟨#[44]⟩ (by omega)
        have a2 := fun W => run_string_add_sum (P := Tryd.prog) W (p ++ ⟨#[44]⟩) b (by rw [ByteArray.size_append]; omega)
        have HQ := Lib.hid (show joinC (l.take (j + 1)) = p ++ ⟨#[44]⟩ ++ b by rw [HT2.out, if_neg (by omega)])
        clear s1 s2 z1 h0
        go_wp2
        go_roundw
        case rel => exact ⟨j + 1, HJ.out, by go_num, by rw [HQ.out], trivial⟩
        case measure => have := HJ.out; simp [intOf]; omega
      · obtain rfl : j = 0 := by omega
        rw [Nat.add_zero] at xj
        have a2 := fun W => run_string_add_sum (P := Tryd.prog) W p b (by omega)
        have HQ := Lib.hid (show joinC (l.take 1) = p ++ b by rw [HT2.out, if_pos rfl])
        clear s1 s2 z1 h0
        go_wp2
        go_roundw
        case rel => exact ⟨1, HJ.out, by go_num, by rw [HQ.out], trivial⟩
        case measure => have := HJ.out; simp [intOf]; omega
    · obtain rfl : j = n := by omega
      have HQ := Lib.hid (show joinC (l.take j) = joinC l by rw [List.take_of_length_le (by have := HN.out; omega)])
      go_wp2
      go_ret
      exact ⟨by rw [← HQ.out]; rfl, Below.refl _ _⟩
end Go.Proofs.YtdbmnnmcelaehaaDoor.Sr
