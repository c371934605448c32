import Derived.Test.YtdbmnnmcelaehaaDoorStlA
import Derived.Test.YtdbmnnmcelaehaaDoorSmrC
import Derived.Test.YtdbmnnmcelaehaaDoorVcE

/- Pairs of events that do not know one another: story's, and the document's. -/
namespace Go.Proofs.YtdbmnnmcelaehaaDoor.Stl
open Go.RowKit Go.Proofs.YtdbmnnmcelaehaaDoor.Mem
open Go.Proofs.YtdbmnnmcelaehaaDoor.Vc (vecC stC eql_st neq_st hasB)
set_option linter.unusedVariables false set_option linter.unusedSimpArgs false

/-- A pair of places. -/
def pairC (p : Nat × Nat) : Array Value := #[.int .i64 (p.1 : Int), .int .i64 (p.2 : Int)]
def pL (p : Nat × Nat) : List Value := (pairC p).toList
def POwn (w : World) (B : Nat) (v : Value) (ps : List (Nat × Nat)) : Prop := w.ownsRow B 44 2 v ps.length (ps.flatMap pL)
theorem pL_len (p : Nat × Nat) : (pL p).length = 2 := rfl
theorem pair_one (p : Nat × Nat) : (pairC p).all (·.oneCell') = true := by simp [pairC, Value.oneCell']
theorem info_p : (Tryd.prog.info? 44).map (fun i => (i.zero, i.size, i.bytes)) = some (some (.agg (pairC (0, 0))), 2, 16) := by kernel_rfl
theorem info_pair : (Tryd.prog.info? 44).map (·.size) = some 2 := by kernel_rfl
theorem info_parts_p : ∃ i, Tryd.prog.info? 44 = some i ∧ i.zero = some (.agg (pairC (0, 0))) ∧ i.size = 2 ∧ i.bytes = 16 := by
  cases hh : Tryd.prog.info? 44 with
  | none => have := info_p; rw [hh] at this; cases this
  | some i => have := info_p; rw [hh] at this; simp at this; exact ⟨i, rfl, this⟩
theorem fill_p (p : Nat × Nat) : Instr.fill (fun i => some (i * 2, 2)) ((Array.range (1 * 2)).map ((Value.agg (pairC (0, 0))).cells[· % (Value.agg (pairC (0, 0))).cells.size]!)) [(0, Value.agg (pairC p))] = some (pairC p) := by kernel_rfl
theorem wpList_build_p {ops : Array Oper} {rest : List Oper} {o : Oper} {a : Act} {w : World} {Q : Exit → Act → World → Prop} (x : Operand) (ho : o.op = .buildSlice 43 1 #[(0, x)]) (p : Nat × Nat)
    (h : (o.guard = none ∧ a.eval x = .agg (pairC p)) ∧ wpList Tryd.prog ops Q rest (a.put o.dst (.slice (some ⟨w.heap.size, 0, none⟩) 1 1)) (w.alloc (.cells (pairC p) 44))) : wpList Tryd.prog ops Q (o :: rest) a w := by
  obtain ⟨⟨h1, h2⟩, h3⟩ := h
  obtain ⟨i, q0, q1, q2, q3⟩ := info_parts_p
  refine wpList_buildSlice h1 43 44 1 _ ho (pairC p) i _ Tryd.underlying43 q0 q1 (by omega) (by omega) ?_ h3
  have e1 : (#[(0, x)] : Array (Nat × Operand)).map (fun (i, x) => (i, a.eval x)) = #[(0, .agg (pairC p))] := by simp [h2]
  rw [e1, q2]
  exact fill_p p
structure GrewP (B : Nat) (w w' : World) (u u' : Value) (ps : List (Nat × Nat)) (p : Nat × Nat) : Prop where
  row : POwn w' B u' (ps ++ [p])
  below : Below B w w'
  chg : Chg (fun k => u.ownBlock = some k) w w'
  sl : ∃ A c, u' = .slice A (ps.length + 1) c
theorem wpl_pair {ops : Array Oper} {rest : List Oper} {o : Oper} {a : Act} {Q : Exit → Act → World → Prop} (s x : Operand) (hgd : o.guard = none)
    (ho : o.op = .call { callee := .builtin .append, args := #[s, x], argTypes := #[43, 43] }) {B : Nat} {u : Value} {ps : List (Nat × Nat)} {wc : World} {p : Nat × Nat}
    (h : ((a.eval s = u ∧ (∃ g : Nat, a.eval x = .slice (some ⟨g, 0, none⟩) 1 1 ∧ g = wc.heap.size)) ∧ POwn wc B u ps ∧ B ≤ wc.heap.size ∧ ps.length ≤ 4000000) ∧
      ∀ u' w', GrewP B wc w' u u' ps p → wpList Tryd.prog ops Q rest (a.put o.dst u') w') :
    wpList Tryd.prog ops Q (o :: rest) a (wc.alloc (.cells (pairC p) 44)) := by
  obtain ⟨⟨⟨h1, g0, h2, rfl⟩, h3, h4, h5⟩, hk⟩ := h
  obtain ⟨i0, hi, hz0, hz1, hz2⟩ := info_parts_p
  refine wpList_append_lies _ hgd s x 43 ho B 44 i0 (.agg (pairC (0, 0))) 2 16 Tryd.underlying43 hi hz0 hz1 hz2 rfl (by decide) u ps.length (ps.flatMap pL) h1 (World.ownsRow.alloc h3 _) ⟨wc.heap.size, 0, none⟩ 1 1 (pL p) h2 rfl ?_ ?_ (by decide) (by unfold maxLen; omega) (by omega) (by simp; omega) _ rfl ?_
  · exact World.news_of_block (Has.fresh wc 44 (pairC p))
  · exact fun u hu => (Array.all_eq_true_iff_forall_mem.1 (pair_one p)) u (by simpa [pL] using hu)
  · intro g cap w' hg hgr hor hlt
    refine hk _ _ ⟨?_, ?_, ?_, ⟨_, _, rfl⟩⟩
    · unfold POwn
      rw [List.length_append, List.flatMap_append]
      simpa using hg
    · exact ((Below.refl B wc).alloc h4 _).grown hgr (by simp; omega) (fun q hq => ((World.ownsRow.lt h3) q hq).1)
    · have c : Chg (fun k => u.ownBlock = some k) (wc.alloc (.cells (pairC p) 44)) w' := ⟨hgr.os, hgr.tape, hgr.output, hgr.size, fun k hk hn => hgr.block k hk (fun e => hn e.symm)⟩
      exact ((Chg.refl _ wc).alloc _).trans c
theorem pown_type {w : World} {B G : Nat} {v : Value} {l : List (Nat × Nat)} {t : TypeId} {cs : Array Value} (h : POwn w B v l) (hg : Has w G t cs) (ht : t ≠ 44) : ¬ v.ownBlock = some G := by
  unfold POwn at h
  intro e
  rcases h.2 with ⟨rfl, _⟩ | ⟨g, cap, cur, rfl, hB, hw, _⟩
  · cases e
  · have e2 : g = G := by simpa [Value.ownBlock] using e
    subst e2
    have e3 := hw.symm.trans (show w.heap[g]? = _ from hg)
    simp at e3
    exact ht e3.2.symm
theorem pown_below {w w2 : World} {B : Nat} {v : Value} {l : List (Nat × Nat)} (h : POwn w B v l) (hb : Below w.heap.size w w2) : POwn w2 B v l := by
  unfold POwn at *
  refine ⟨h.1, ?_⟩
  rcases h.2 with hn | ⟨g, cap, cur, e, hB, hw, rest⟩
  · exact .inl hn
  · exact .inr ⟨g, cap, cur, e, hB, (hb.block g (Array.getElem?_eq_some_iff.1 hw).1).trans hw, rest⟩
theorem pown_sl {w : World} {B : Nat} {v : Value} {l : List (Nat × Nat)} (h : POwn w B v l) : ∃ A c, v = .slice A l.length c := by
  unfold POwn at h
  rcases h.2 with ⟨rfl, e⟩ | ⟨g', cap', cur, rfl, _⟩
  · exact ⟨none, 0, by rw [e]⟩
  · exact ⟨_, cap', rfl⟩
theorem pown_srow {w : World} {B c : Nat} {A : Option Addr} {l : List (Nat × Nat)} (h : POwn w B (.slice A l.length c) l) : Fc.SRow w 2 pairC A l.length l := by
  unfold POwn at h
  refine ⟨rfl, fun hn => ?_⟩
  rcases h.2 with ⟨e, e0⟩ | ⟨g, cap, cur, e, hB, hw, h1, h2, hs, ht⟩
  · omega
  · cases e
    refine ⟨g, 0, rfl, (show Has w g 44 cur from hw).bound, fun i hi j v hv => ?_⟩
    have j2 : j < 2 := by
      have := (Array.getElem?_eq_some_iff.1 hv).1
      exact this
    have hf := Stab.flat_at pL_len l i j l[i] (List.getElem?_eq_getElem hi) j2
    rw [← ht, List.getElem?_take, if_pos (by omega)] at hf
    rw [Nat.zero_add, (show Has w g 44 cur from hw).at_]
    have e2 : (pL l[i])[j]? = some v := by simpa [pL] using hv
    rw [e2] at hf
    simpa using hf
set_option maxRecDepth 100000 in
theorem nref_pair (p : Nat × Nat) (w : World) : (binOp .neq 44 (.agg (pairC p)) (.agg (pairC p))).run Tryd.prog w = .ok (.bool false) w := by
  have u3 := Tryd.underlying3
  have a3 := Tryd.isAgg3
  have z3 := Tryd.sizeOf3
  rw [run_neq_struct, show (10000 : Nat) = 9999 + 1 from rfl, Op.equalIn]
  simp only [Sem.run_bind, run_underlying Tryd.underlying44, Result.andThen_ok]
  simp only [Std.Legacy.Range.forIn_eq_forIn_range', Std.Legacy.Range.size, Nat.sub_zero, Nat.add_sub_cancel, Nat.div_one, List.range'_succ, List.range'_zero, List.forIn_cons, List.forIn_nil]
  unfold pairC
  go_simp
  try rfl
/-- A whole struct stored into the block that was laid last. -/
theorem wpList_storeNew {P : Program} {ops : Array Oper} {rest : List Oper} {op : Oper} {a : Act} {w0 : World} {Q : Exit → Act → World → Prop} (ty : TypeId) (x y : Operand) (z C : Array Value) (ho : op.op = .store ty x y)
    (h : (op.guard = none ∧ op.dst = none ∧ a.eval x = .pointer (some ⟨w0.heap.size, 0, none⟩) ∧ a.eval y = .agg C ∧ (P.info? ty).map (·.size) = some C.size ∧ z.size = C.size ∧ C.all (·.oneCell') = true) ∧ wpList P ops Q rest a (w0.alloc (.cells C ty))) : wpList P ops Q (op :: rest) a (w0.alloc (.cells z ty)) := by
  obtain ⟨⟨hg, hd, hx, hy, hi, hzC, hone⟩, h⟩ := h
  refine wpList_plain hg fun K2 hK2 => ?_
  have e3 : (execOp a.eval op).run P (w0.alloc (.cells z ty)) = .ok .skip (w0.alloc (.cells C ty)) := by
    unfold execOp
    simp only [ho, hx, hy, Instr.storeAt, Instr.sureAddr, Sem.run_bind, Sem.run_pure, Result.andThen_ok, run_storeVar_new w0 ty z C hi hzC hone]
  unfold Oper.wp
  rw [e3]
  refine hK2 _ _ ?_
  rw [hd]
  exact h
/-- do two events of one volume not know one another? -/
def apartB (x y : Fc.EventC) : Bool := x.vol == y.vol && !(x.at_.1 == y.at_.1 && x.at_.2 == y.at_.2) && !hasB x.knew y.at_.1 y.at_.2 && !hasB y.knew x.at_.1 x.at_.2
/-- the pairs with one, and with all up to him -/
def apL (f : Nat → Fc.EventC) (j : Nat) : Nat → List (Nat × Nat)
  | 0 => []
  | m + 1 => if apartB (f m) (f j) then apL f j m ++ [(m, j)] else apL f j m
def apA (f : Nat → Fc.EventC) : Nat → List (Nat × Nat)
  | 0 => []
  | j + 1 => apA f j ++ apL f j j
theorem apL_len (f : Nat → Fc.EventC) (j : Nat) : ∀ m, (apL f j m).length ≤ m
  | 0 => Nat.le_refl _
  | m + 1 => by
    have := apL_len f j m
    unfold apL
    split
    · rw [List.length_append, List.length_singleton]; omega
    · omega
theorem apA_len (f : Nat → Fc.EventC) : ∀ j, j ≤ 60 → (apA f j).length ≤ j * 60
  | 0, _ => Nat.le_refl _
  | j + 1, h => by
    have h1 := apA_len f j (by omega)
    have h2 := apL_len f j j
    unfold apA
    rw [List.length_append]
    omega
end Go.Proofs.YtdbmnnmcelaehaaDoor.Stl
/- story's Apart, and the document's, walked. -/
namespace Go.Proofs.YtdbmnnmcelaehaaDoor.Stl
open Go.RowKit Go.Proofs.YtdbmnnmcelaehaaDoor.Mem
open Go.Proofs.YtdbmnnmcelaehaaDoor.Vc (vecC stC eql_st neq_st hasB)
set_option linter.unusedVariables false set_option linter.unusedSimpArgs false

def POut (ps : List (Nat × Nat)) (w : World) (e : Ending) (w' : World) : Prop := ∃ v, e = .returned v ∧ POwn w' w.heap.size v ps ∧ Below w.heap.size w w'
structure ApI (w wr : World) (u : Value) (l : List (Nat × Nat)) : Prop where
  below : Below w.heap.size w wr
  row : POwn wr w.heap.size u l
theorem ApI.low {w wr w2 : World} {u : Value} {l : List (Nat × Nat)} (h : ApI w wr u l) (hb : Below wr.heap.size wr w2) : ApI w w2 u l := ⟨h.below.trans (hb.mono h.below.size), pown_below h.row hb⟩
theorem ApI.grew {w wr w2 : World} {u u2 : Value} {l : List (Nat × Nat)} {p : Nat × Nat} (h : ApI w wr u l) (hg : GrewP w.heap.size wr w2 u u2 l p) : ApI w w2 u2 (l ++ [p]) := ⟨h.below.trans hg.below, hg.row⟩
theorem beq_sym (a b : Int) : (a == b) = (b == a) := by
  by_cases h : a = b
  · subst h; rfl
  · rw [beq_eq_false_iff_ne.2 h, beq_eq_false_iff_ne.2 (fun e => h e.symm)]
theorem apart_eq (x y : Fc.EventC) : apartB x y = (decide (x.vol = y.vol) && !(x.at_.1 == y.at_.1 && x.at_.2 == y.at_.2) && !hasB x.knew y.at_.1 y.at_.2 && !hasB y.knew x.at_.1 x.at_.2) := by
  unfold apartB
  rw [show (x.vol == y.vol) = decide (x.vol = y.vol) from rfl]
theorem apart_sym (x y : Fc.EventC) : apartB x y = (decide (y.vol = x.vol) && !(y.at_.1 == x.at_.1 && y.at_.2 == x.at_.2) && !hasB y.knew x.at_.1 x.at_.2 && !hasB x.knew y.at_.1 y.at_.2) := by
  unfold apartB
  rw [beq_sym x.vol, beq_sym x.at_.1, beq_sym x.at_.2, show (y.vol == x.vol) = decide (y.vol = x.vol) from rfl]
  cases hasB x.knew y.at_.1 y.at_.2 <;> cases hasB y.knew x.at_.1 x.at_.2 <;> simp
theorem rat (x : Fc.EventC) : ∀ j v, (#[.int .i64 x.at_.1, .int .i64 x.at_.2] : Array Value).toList[j]? = some v → (Fc.eventC x)[0 + j]? = some v := fun j v hv => by
  match j, hv with
  | 0, hv => exact hv
  | 1, hv => exact hv
  | j + 2, hv => simp at hv
theorem rkn (x : Fc.EventC) : ∀ j v, (vecC x.knew).toList[j]? = some v → (Fc.eventC x)[3 + j]? = some v := fun j v hv => by
  match j, hv with
  | 0, hv => exact hv
  | 1, hv => exact hv
  | 2, hv => exact hv
  | 3, hv => exact hv
  | 4, hv => exact hv
  | 5, hv => exact hv
  | 6, hv => exact hv
  | 7, hv => exact hv
  | j + 8, hv => simp [vecC] at hv
set_option maxRecDepth 100000 in
set_option maxHeartbeats 8000000 in
theorem apart_all (A : Option Addr) (n c : Nat) (es : List Fc.EventC) (hn : n ≤ 60) (hnc : n ≤ c) (w : World) (hr : Fc.SRow w 21 Fc.eventC A n es) : Calls Tryd.prog 18 #[.slice A n c] w (POut (apA (fun i => (es[i]?).getD Sr.zeroE) n) w) := by
  obtain ⟨f, hf⟩ : ∃ f : Nat → Fc.EventC, f = fun i => (es[i]?).getD Sr.zeroE := ⟨_, rfl⟩
  rw [← hf]
  have HR := Lib.hid hr
  have HEL := Lib.hid (show ∀ i (h : i < es.length), es[i] = f i from fun i h => by rw [hf]; show _ = (es[i]?).getD Sr.zeroE; rw [List.getElem?_eq_getElem h]; rfl)
  have halv := Sr.alloc_event
  clear hr hf
  go_enter Tryd.func18, Tryd.ntmps18
  go_wp2
  go_loopw [3, 10] (fun u i wr => ∃ j : Nat, i = .int .i64 j ∧ j ≤ n ∧ Hid (ApI w wr u (apA f j))) (fun _ i _ => n - (intOf i).toNat)
  case atStart => exact ⟨0, rfl, Nat.zero_le _, Lib.hid ⟨Below.refl _ _, ⟨rfl, .inl ⟨rfl, rfl⟩⟩⟩⟩
  case round =>
    obtain ⟨j, rfl, hj, HI⟩ := hrel
    obtain ⟨wo, hwo⟩ : ∃ wo : World, wo = wr := ⟨_, rfl⟩
    subst hwo
    by_cases hlt : j < n
    · obtain ⟨b, off, rfl, hbl, hx, mr⟩ := (HR.out.below HI.out.below).range (i := j) hlt
      rw [HEL.out j hx] at mr
      obtain ⟨y, hy⟩ : ∃ y, y = f j := ⟨_, rfl⟩
      rw [← hy] at mr
      have HYE := Lib.hid hy
      have MR := Lib.hid mr
      have hb1 := (Below.refl wo.heap.size wo).alloc (Nat.le_refl _) (.cells (Fc.eventC y) 31)
      have HIb := Lib.hid (HI.out.low hb1)
      have HYb := Lib.hid (Has.fresh wo 31 (Fc.eventC y))
      have hjc : j ≤ c := by omega
      clear hx mr hbl hb1 hy HI
      go_wp2_with (first | ((with_reducible refine Who.wpList_loadC 31 (.tmp 13) rfl (b) (off + j * 21) (Fc.eventC y) ?_); refine And.intro ⟨by rfl, by rfl, ⟨_, Tryd.underlying31, rfl⟩, Sr.info_event⟩ (And.intro (MR.out) ?_); (try simp only [Act.put, List.setIfInBounds_toArray, List.set_cons_zero, List.set_cons_succ])) | ((with_reducible refine Who.wpList_alloc 31 5 rfl rfl rfl (Fc.eventC Sr.zeroE) halv ?_); (try simp only [Act.put, List.setIfInBounds_toArray, List.set_cons_zero, List.set_cons_succ]); (try simp only [World.size_alloc])) | ((with_reducible refine wpList_storeNew 31 (.tmp 5) (.tmp 14) (Fc.eventC Sr.zeroE) (Fc.eventC y) rfl ?_); refine And.intro ⟨rfl, rfl, by rfl, by rfl, Sr.info_event, rfl, Sr.event_one _⟩ ?_; (try simp only [Act.put, List.setIfInBounds_toArray, List.set_cons_zero, List.set_cons_succ])) | fail)
      go_loopw [3, 19] (fun u i wr => ∃ (m : Nat) (P : List (Nat × Nat)), i = .int .i64 m ∧ m ≤ j ∧ Hid (apL f j m = P) ∧ Hid (ApI w wr u (apA f j ++ P)) ∧ Hid (Has wr wo.heap.size 31 (Fc.eventC y))) (fun _ i _ => j - (intOf i).toNat)
      case atStart => exact ⟨0, [], rfl, Nat.zero_le _, Lib.hid (rfl), Lib.hid (by rw [List.append_nil]; exact HIb.out), HYb⟩
      case round =>
        clear HIb HYb
        obtain ⟨m, P, rfl, hm, HP, HI, HY⟩ := hrel
        by_cases hlm : m < j
        · obtain ⟨b2, off2, hA2, hbl2, hx2, mr2⟩ := (HR.out.below HI.out.below).range (i := m) (by omega)
          cases hA2
          rw [HEL.out m hx2] at mr2
          obtain ⟨x, hx⟩ : ∃ x, x = f m := ⟨_, rfl⟩
          rw [← hx] at mr2
          have HXE := Lib.hid hx
          have MR2 := Lib.hid mr2
          have hb2 := (Below.refl wr.heap.size wr).alloc (Nat.le_refl _) (.cells (Fc.eventC x) 31)
          have HI1 := Lib.hid (HI.out.low hb2)
          have HY1 := Lib.hid (HY.out.below hb2)
          have HX := Lib.hid (Has.fresh wr 31 (Fc.eventC x))
          have HSY : Hid (apartB x y = true → apL f j (m + 1) = P ++ [(m, j)]) := Lib.hid (fun h => by rw [show apL f j (m + 1) = if apartB (f m) (f j) then apL f j m ++ [(m, j)] else apL f j m from rfl, ← HXE.out, ← HYE.out, if_pos h, HP.out])
          have HSN : Hid (apartB x y = false → apL f j (m + 1) = P) := Lib.hid (fun h => by rw [show apL f j (m + 1) = if apartB (f m) (f j) then apL f j m ++ [(m, j)] else apL f j m from rfl, ← HXE.out, ← HYE.out, if_neg (by rw [h]; decide), HP.out])
          have HPL : Hid ((apA f j ++ P).length ≤ 4000000) := Lib.hid (by
            have l1 := apA_len f j (by omega)
            have l2 := apL_len f j (m)
            rw [HP.out] at l2
            rw [List.length_append]
            omega)
          obtain ⟨A2, c2, rfl⟩ := pown_sl HI.out.row
          obtain ⟨Q, hQ⟩ : ∃ Q, Q = apA f j ++ P := ⟨_, rfl⟩
          have HQQ := Lib.hid hQ
          rw [← hQ] at HPL HI1
          have k2 := HX.out.at_ 2
          have hvx : (wr.alloc (.cells (Fc.eventC x) 31)).cell? ⟨wr.heap.size, 2, none⟩ = some (.int .i64 x.vol) := HX.out.at_ 2
          have hvy : (wr.alloc (.cells (Fc.eventC x) 31)).cell? ⟨wo.heap.size, 2, none⟩ = some (.int .i64 y.vol) := HY1.out.at_ 2
          rw [← hQ]
          clear hx mr2 hx2 hbl2 hb2 hQ k2 HI HY
          have HAB := Lib.hid (show apartB x y = (decide (x.vol = y.vol) && !(x.at_.1 == y.at_.1 && x.at_.2 == y.at_.2) && !hasB x.knew y.at_.1 y.at_.2 && !hasB y.knew x.at_.1 x.at_.2) from apart_eq x y)
          have q2 := fun W => neq_st x.at_.1 x.at_.2 y.at_.1 y.at_.2 W
          unfold stC at q2
          obtain ⟨z2, hz2⟩ : ∃ z2, z2 = (x.at_.1 == y.at_.1 && x.at_.2 == y.at_.2) := ⟨_, rfl⟩
          obtain ⟨h1, hh1⟩ : ∃ h1, h1 = hasB x.knew y.at_.1 y.at_.2 := ⟨_, rfl⟩
          obtain ⟨h2, hh2⟩ : ∃ h2, h2 = hasB y.knew x.at_.1 x.at_.2 := ⟨_, rfl⟩
          have HC1 := Lib.hid (fun V => by have q := Vc.has_any x.knew y.at_.1 y.at_.2 V; unfold stC at q; rw [← hh1] at q; exact q)
          have HC2 := Lib.hid (fun V => by have q := Vc.has_any y.knew x.at_.1 x.at_.2 V; unfold stC at q; rw [← hh2] at q; exact q)
          rw [← hz2] at q2 HAB
          rw [← hh1, ← hh2] at HAB
          clear hz2 hh1 hh2
          by_cases hv : x.vol = y.vol
          case neg =>
            have HQN := Lib.hid (HSN.out (by rw [HAB.out, decide_eq_false hv]; rfl))
            go_wp2_with (first | ((with_reducible refine Who.wpList_loadC 31 (.tmp 22) rfl (b) (off + m * 21) (Fc.eventC x) ?_); refine And.intro ⟨by rfl, by rfl, ⟨_, Tryd.underlying31, rfl⟩, Sr.info_event⟩ (And.intro (MR2.out) ?_); (try simp only [Act.put, List.setIfInBounds_toArray, List.set_cons_zero, List.set_cons_succ])) | ((with_reducible refine Who.wpList_alloc 31 7 rfl rfl rfl (Fc.eventC Sr.zeroE) halv ?_); (try simp only [Act.put, List.setIfInBounds_toArray, List.set_cons_zero, List.set_cons_succ]); (try simp only [World.size_alloc])) | ((with_reducible refine wpList_storeNew 31 (.tmp 7) (.tmp 23) (Fc.eventC Sr.zeroE) (Fc.eventC x) rfl ?_); refine And.intro ⟨rfl, rfl, by rfl, by rfl, Sr.info_event, rfl, Sr.event_one _⟩ ?_; (try simp only [Act.put, List.setIfInBounds_toArray, List.set_cons_zero, List.set_cons_succ])) | ((with_reducible refine Who.wpList_loadC 23 (.tmp 30) rfl (wr.heap.size) 0 (#[.int .i64 x.at_.1, .int .i64 x.at_.2]) ?_); refine And.intro ⟨by rfl, by rfl, ⟨_, Tryd.underlying23, rfl⟩, Sr.info_st⟩ (And.intro (Smr.rangeOf HX.out 0 _ (rat _)) ?_); (try simp only [Act.put, List.setIfInBounds_toArray, List.set_cons_zero, List.set_cons_succ])) | ((with_reducible refine Who.wpList_loadC 23 (.tmp 32) rfl (wo.heap.size) 0 (#[.int .i64 y.at_.1, .int .i64 y.at_.2]) ?_); refine And.intro ⟨by rfl, by rfl, ⟨_, Tryd.underlying23, rfl⟩, Sr.info_st⟩ (And.intro (Smr.rangeOf HY1.out 0 _ (rat _)) ?_); (try simp only [Act.put, List.setIfInBounds_toArray, List.set_cons_zero, List.set_cons_succ])) | ((with_reducible refine Who.wpList_loadC 25 (.tmp 37) rfl (wr.heap.size) 3 (vecC x.knew) ?_); refine And.intro ⟨by rfl, by rfl, ⟨_, Tryd.underlying25, rfl⟩, Sr.info_vec⟩ (And.intro (Smr.rangeOf HX.out 3 _ (rkn _)) ?_); (try simp only [Act.put, List.setIfInBounds_toArray, List.set_cons_zero, List.set_cons_succ])) | ((with_reducible refine Who.wpList_loadC 23 (.tmp 39) rfl (wo.heap.size) 0 (#[.int .i64 y.at_.1, .int .i64 y.at_.2]) ?_); refine And.intro ⟨by rfl, by rfl, ⟨_, Tryd.underlying23, rfl⟩, Sr.info_st⟩ (And.intro (Smr.rangeOf HY1.out 0 _ (rat _)) ?_); (try simp only [Act.put, List.setIfInBounds_toArray, List.set_cons_zero, List.set_cons_succ])) | ((with_reducible refine Who.wpList_loadC 25 (.tmp 45) rfl (wo.heap.size) 3 (vecC y.knew) ?_); refine And.intro ⟨by rfl, by rfl, ⟨_, Tryd.underlying25, rfl⟩, Sr.info_vec⟩ (And.intro (Smr.rangeOf HY1.out 3 _ (rkn _)) ?_); (try simp only [Act.put, List.setIfInBounds_toArray, List.set_cons_zero, List.set_cons_succ])) | ((with_reducible refine Who.wpList_loadC 23 (.tmp 47) rfl (wr.heap.size) 0 (#[.int .i64 x.at_.1, .int .i64 x.at_.2]) ?_); refine And.intro ⟨by rfl, by rfl, ⟨_, Tryd.underlying23, rfl⟩, Sr.info_st⟩ (And.intro (Smr.rangeOf HX.out 0 _ (rat _)) ?_); (try simp only [Act.put, List.setIfInBounds_toArray, List.set_cons_zero, List.set_cons_succ])) | fail)
            go_roundw
            case rel => exact ⟨m + 1, P, by go_num, by omega, HQN, Lib.hid (by rw [← HQQ.out]; exact HI1.out), HY1⟩
            case measure => simp [intOf]; omega
          cases z2 with
          | true =>
            have HQN := Lib.hid (HSN.out (by rw [HAB.out]; simp))
            go_wp2_with (first | ((with_reducible refine Who.wpList_loadC 31 (.tmp 22) rfl (b) (off + m * 21) (Fc.eventC x) ?_); refine And.intro ⟨by rfl, by rfl, ⟨_, Tryd.underlying31, rfl⟩, Sr.info_event⟩ (And.intro (MR2.out) ?_); (try simp only [Act.put, List.setIfInBounds_toArray, List.set_cons_zero, List.set_cons_succ])) | ((with_reducible refine Who.wpList_alloc 31 7 rfl rfl rfl (Fc.eventC Sr.zeroE) halv ?_); (try simp only [Act.put, List.setIfInBounds_toArray, List.set_cons_zero, List.set_cons_succ]); (try simp only [World.size_alloc])) | ((with_reducible refine wpList_storeNew 31 (.tmp 7) (.tmp 23) (Fc.eventC Sr.zeroE) (Fc.eventC x) rfl ?_); refine And.intro ⟨rfl, rfl, by rfl, by rfl, Sr.info_event, rfl, Sr.event_one _⟩ ?_; (try simp only [Act.put, List.setIfInBounds_toArray, List.set_cons_zero, List.set_cons_succ])) | ((with_reducible refine Who.wpList_loadC 23 (.tmp 30) rfl (wr.heap.size) 0 (#[.int .i64 x.at_.1, .int .i64 x.at_.2]) ?_); refine And.intro ⟨by rfl, by rfl, ⟨_, Tryd.underlying23, rfl⟩, Sr.info_st⟩ (And.intro (Smr.rangeOf HX.out 0 _ (rat _)) ?_); (try simp only [Act.put, List.setIfInBounds_toArray, List.set_cons_zero, List.set_cons_succ])) | ((with_reducible refine Who.wpList_loadC 23 (.tmp 32) rfl (wo.heap.size) 0 (#[.int .i64 y.at_.1, .int .i64 y.at_.2]) ?_); refine And.intro ⟨by rfl, by rfl, ⟨_, Tryd.underlying23, rfl⟩, Sr.info_st⟩ (And.intro (Smr.rangeOf HY1.out 0 _ (rat _)) ?_); (try simp only [Act.put, List.setIfInBounds_toArray, List.set_cons_zero, List.set_cons_succ])) | ((with_reducible refine Who.wpList_loadC 25 (.tmp 37) rfl (wr.heap.size) 3 (vecC x.knew) ?_); refine And.intro ⟨by rfl, by rfl, ⟨_, Tryd.underlying25, rfl⟩, Sr.info_vec⟩ (And.intro (Smr.rangeOf HX.out 3 _ (rkn _)) ?_); (try simp only [Act.put, List.setIfInBounds_toArray, List.set_cons_zero, List.set_cons_succ])) | ((with_reducible refine Who.wpList_loadC 23 (.tmp 39) rfl (wo.heap.size) 0 (#[.int .i64 y.at_.1, .int .i64 y.at_.2]) ?_); refine And.intro ⟨by rfl, by rfl, ⟨_, Tryd.underlying23, rfl⟩, Sr.info_st⟩ (And.intro (Smr.rangeOf HY1.out 0 _ (rat _)) ?_); (try simp only [Act.put, List.setIfInBounds_toArray, List.set_cons_zero, List.set_cons_succ])) | ((with_reducible refine Who.wpList_loadC 25 (.tmp 45) rfl (wo.heap.size) 3 (vecC y.knew) ?_); refine And.intro ⟨by rfl, by rfl, ⟨_, Tryd.underlying25, rfl⟩, Sr.info_vec⟩ (And.intro (Smr.rangeOf HY1.out 3 _ (rkn _)) ?_); (try simp only [Act.put, List.setIfInBounds_toArray, List.set_cons_zero, List.set_cons_succ])) | ((with_reducible refine Who.wpList_loadC 23 (.tmp 47) rfl (wr.heap.size) 0 (#[.int .i64 x.at_.1, .int .i64 x.at_.2]) ?_); refine And.intro ⟨by rfl, by rfl, ⟨_, Tryd.underlying23, rfl⟩, Sr.info_st⟩ (And.intro (Smr.rangeOf HX.out 0 _ (rat _)) ?_); (try simp only [Act.put, List.setIfInBounds_toArray, List.set_cons_zero, List.set_cons_succ])) | fail)
            go_roundw
            case rel => exact ⟨m + 1, P, by go_num, by omega, HQN, Lib.hid (by rw [← HQQ.out]; exact HI1.out), HY1⟩
            case measure => simp [intOf]; omega
          | false =>
            go_wp2_with (first | ((with_reducible refine Who.wpList_loadC 31 (.tmp 22) rfl (b) (off + m * 21) (Fc.eventC x) ?_); refine And.intro ⟨by rfl, by rfl, ⟨_, Tryd.underlying31, rfl⟩, Sr.info_event⟩ (And.intro (MR2.out) ?_); (try simp only [Act.put, List.setIfInBounds_toArray, List.set_cons_zero, List.set_cons_succ])) | ((with_reducible refine Who.wpList_alloc 31 7 rfl rfl rfl (Fc.eventC Sr.zeroE) halv ?_); (try simp only [Act.put, List.setIfInBounds_toArray, List.set_cons_zero, List.set_cons_succ]); (try simp only [World.size_alloc])) | ((with_reducible refine wpList_storeNew 31 (.tmp 7) (.tmp 23) (Fc.eventC Sr.zeroE) (Fc.eventC x) rfl ?_); refine And.intro ⟨rfl, rfl, by rfl, by rfl, Sr.info_event, rfl, Sr.event_one _⟩ ?_; (try simp only [Act.put, List.setIfInBounds_toArray, List.set_cons_zero, List.set_cons_succ])) | ((with_reducible refine Who.wpList_loadC 23 (.tmp 30) rfl (wr.heap.size) 0 (#[.int .i64 x.at_.1, .int .i64 x.at_.2]) ?_); refine And.intro ⟨by rfl, by rfl, ⟨_, Tryd.underlying23, rfl⟩, Sr.info_st⟩ (And.intro (Smr.rangeOf HX.out 0 _ (rat _)) ?_); (try simp only [Act.put, List.setIfInBounds_toArray, List.set_cons_zero, List.set_cons_succ])) | ((with_reducible refine Who.wpList_loadC 23 (.tmp 32) rfl (wo.heap.size) 0 (#[.int .i64 y.at_.1, .int .i64 y.at_.2]) ?_); refine And.intro ⟨by rfl, by rfl, ⟨_, Tryd.underlying23, rfl⟩, Sr.info_st⟩ (And.intro (Smr.rangeOf HY1.out 0 _ (rat _)) ?_); (try simp only [Act.put, List.setIfInBounds_toArray, List.set_cons_zero, List.set_cons_succ])) | ((with_reducible refine Who.wpList_loadC 25 (.tmp 37) rfl (wr.heap.size) 3 (vecC x.knew) ?_); refine And.intro ⟨by rfl, by rfl, ⟨_, Tryd.underlying25, rfl⟩, Sr.info_vec⟩ (And.intro (Smr.rangeOf HX.out 3 _ (rkn _)) ?_); (try simp only [Act.put, List.setIfInBounds_toArray, List.set_cons_zero, List.set_cons_succ])) | ((with_reducible refine Who.wpList_loadC 23 (.tmp 39) rfl (wo.heap.size) 0 (#[.int .i64 y.at_.1, .int .i64 y.at_.2]) ?_); refine And.intro ⟨by rfl, by rfl, ⟨_, Tryd.underlying23, rfl⟩, Sr.info_st⟩ (And.intro (Smr.rangeOf HY1.out 0 _ (rat _)) ?_); (try simp only [Act.put, List.setIfInBounds_toArray, List.set_cons_zero, List.set_cons_succ])) | ((with_reducible refine Who.wpList_loadC 25 (.tmp 45) rfl (wo.heap.size) 3 (vecC y.knew) ?_); refine And.intro ⟨by rfl, by rfl, ⟨_, Tryd.underlying25, rfl⟩, Sr.info_vec⟩ (And.intro (Smr.rangeOf HY1.out 3 _ (rkn _)) ?_); (try simp only [Act.put, List.setIfInBounds_toArray, List.set_cons_zero, List.set_cons_succ])) | ((with_reducible refine Who.wpList_loadC 23 (.tmp 47) rfl (wr.heap.size) 0 (#[.int .i64 x.at_.1, .int .i64 x.at_.2]) ?_); refine And.intro ⟨by rfl, by rfl, ⟨_, Tryd.underlying23, rfl⟩, Sr.info_st⟩ (And.intro (Smr.rangeOf HX.out 0 _ (rat _)) ?_); (try simp only [Act.put, List.setIfInBounds_toArray, List.set_cons_zero, List.set_cons_succ])) | fail)
            go_at_call 43
            refine (HC1.out _).mono ?_
            rintro q w3 ⟨rfl, hb⟩
            have HI2 := Lib.hid (HI1.out.low hb)
            have HX2 := Lib.hid (HX.out.below hb)
            have HY2 := Lib.hid (HY1.out.below hb)
            clear hb
            cases h1 with
            | true =>
              have HQN := Lib.hid (HSN.out (by rw [HAB.out]; simp))
              go_wp2
              go_roundw
              case rel => exact ⟨m + 1, P, by go_num, by omega, HQN, Lib.hid (by rw [← HQQ.out]; exact HI2.out), HY2⟩
              case measure => simp [intOf]; omega
            | false =>
              have HX1b := HX2
              have HY1b := HY2
              go_wp2_with (first | ((with_reducible refine Who.wpList_loadC 23 (.tmp 30) rfl (wr.heap.size) 0 (#[.int .i64 x.at_.1, .int .i64 x.at_.2]) ?_); refine And.intro ⟨by rfl, by rfl, ⟨_, Tryd.underlying23, rfl⟩, Sr.info_st⟩ (And.intro (Smr.rangeOf HX2.out 0 _ (rat _)) ?_); (try simp only [Act.put, List.setIfInBounds_toArray, List.set_cons_zero, List.set_cons_succ])) | ((with_reducible refine Who.wpList_loadC 23 (.tmp 32) rfl (wo.heap.size) 0 (#[.int .i64 y.at_.1, .int .i64 y.at_.2]) ?_); refine And.intro ⟨by rfl, by rfl, ⟨_, Tryd.underlying23, rfl⟩, Sr.info_st⟩ (And.intro (Smr.rangeOf HY2.out 0 _ (rat _)) ?_); (try simp only [Act.put, List.setIfInBounds_toArray, List.set_cons_zero, List.set_cons_succ])) | ((with_reducible refine Who.wpList_loadC 25 (.tmp 37) rfl (wr.heap.size) 3 (vecC x.knew) ?_); refine And.intro ⟨by rfl, by rfl, ⟨_, Tryd.underlying25, rfl⟩, Sr.info_vec⟩ (And.intro (Smr.rangeOf HX2.out 3 _ (rkn _)) ?_); (try simp only [Act.put, List.setIfInBounds_toArray, List.set_cons_zero, List.set_cons_succ])) | ((with_reducible refine Who.wpList_loadC 23 (.tmp 39) rfl (wo.heap.size) 0 (#[.int .i64 y.at_.1, .int .i64 y.at_.2]) ?_); refine And.intro ⟨by rfl, by rfl, ⟨_, Tryd.underlying23, rfl⟩, Sr.info_st⟩ (And.intro (Smr.rangeOf HY2.out 0 _ (rat _)) ?_); (try simp only [Act.put, List.setIfInBounds_toArray, List.set_cons_zero, List.set_cons_succ])) | ((with_reducible refine Who.wpList_loadC 25 (.tmp 45) rfl (wo.heap.size) 3 (vecC y.knew) ?_); refine And.intro ⟨by rfl, by rfl, ⟨_, Tryd.underlying25, rfl⟩, Sr.info_vec⟩ (And.intro (Smr.rangeOf HY2.out 3 _ (rkn _)) ?_); (try simp only [Act.put, List.setIfInBounds_toArray, List.set_cons_zero, List.set_cons_succ])) | ((with_reducible refine Who.wpList_loadC 23 (.tmp 47) rfl (wr.heap.size) 0 (#[.int .i64 x.at_.1, .int .i64 x.at_.2]) ?_); refine And.intro ⟨by rfl, by rfl, ⟨_, Tryd.underlying23, rfl⟩, Sr.info_st⟩ (And.intro (Smr.rangeOf HX2.out 0 _ (rat _)) ?_); (try simp only [Act.put, List.setIfInBounds_toArray, List.set_cons_zero, List.set_cons_succ])) | fail)
              go_at_call 43
              refine (HC2.out _).mono ?_
              rintro q w4 ⟨rfl, hb⟩
              have HI3 := Lib.hid (HI2.out.low hb)
              have HY3 := Lib.hid (HY2.out.below hb)
              clear hb HX1b HY1b
              cases h2 with
              | true =>
                have HQN := Lib.hid (HSN.out (by rw [HAB.out]; simp))
                go_wp2
                go_roundw
                case rel => exact ⟨m + 1, P, by go_num, by omega, HQN, Lib.hid (by rw [← HQQ.out]; exact HI3.out), HY3⟩
                case measure => simp [intOf]; omega
              | false =>
                have HQY := Lib.hid (HSY.out (by rw [HAB.out, decide_eq_true hv]; rfl))
                have HRW := Lib.hid HI3.out.row
                have HBS := Lib.hid HI3.out.below.size
                go_wp2_with (first | ((with_reducible refine wpList_build_p (.tmp 55) rfl (m, j) ?_); refine And.intro ⟨rfl, by rfl⟩ ?_; (try simp only [Act.put, List.setIfInBounds_toArray, List.set_cons_zero, List.set_cons_succ])) | (at_builtin; (with_reducible refine wpl_pair (B := w.heap.size) (u := .slice A2 Q.length c2) (ps := Q) (p := (m, j)) (.tmp 52) (.tmp 56) rfl rfl ?_); refine And.intro ⟨⟨by rfl, ⟨_, by rfl, by simp⟩⟩, HRW.out, HBS.out, HPL.out⟩ ?_) | fail)
                intro u5 w5 hg
                have HI5 : Hid (ApI w w5 u5 (apA f j ++ (P ++ [(m, j)]))) := Lib.hid (by rw [← List.append_assoc, ← HQQ.out]; exact ⟨HI3.out.below.trans hg.below, hg.row⟩)
                have HY5 := Lib.hid (Has.over HY3.out hg.chg (pown_type HRW.out HY3.out (by decide)))
                clear hg
                go_wp2
                go_roundw
                case rel => exact ⟨m + 1, P ++ [(m, j)], by go_num, by omega, HQY, HI5, HY5⟩
                case measure => simp [intOf]; omega
        · have hmn : m = j := by omega
          have HPN := Lib.hid (show apA f (j + 1) = apA f j ++ P by rw [show apA f (j + 1) = apA f j ++ apL f j j from rfl, ← HP.out, hmn])
          clear hmn
          go_wp2
          go_roundw
          case rel => exact ⟨j + 1, by go_num, by omega, Lib.hid (by rw [HPN.out]; exact HI.out)⟩
          case measure => simp [intOf]; omega
    · have hjn : j = n := by omega
      subst hjn
      go_wp2
      go_ret
      exact ⟨_, rfl, HI.out.row, HI.out.below⟩
set_option maxRecDepth 100000 in
set_option maxHeartbeats 8000000 in
theorem rapart_all (A : Option Addr) (n c : Nat) (es : List Fc.EventC) (hn : n ≤ 60) (hnc : n ≤ c) (w : World) (hr : Fc.SRow w 21 Fc.eventC A n es) : Calls Tryd.prog 19 #[.slice A n c] w (POut (apA (fun i => (es[i]?).getD Sr.zeroE) n) w) := by
  obtain ⟨f, hf⟩ : ∃ f : Nat → Fc.EventC, f = fun i => (es[i]?).getD Sr.zeroE := ⟨_, rfl⟩
  rw [← hf]
  have HR := Lib.hid hr
  have HEL := Lib.hid (show ∀ i (h : i < es.length), es[i] = f i from fun i h => by rw [hf]; show _ = (es[i]?).getD Sr.zeroE; rw [List.getElem?_eq_getElem h]; rfl)
  have halv := Sr.alloc_event
  clear hr hf
  go_enter Tryd.func19, Tryd.ntmps19
  go_wp2
  go_loopw [3, 10] (fun u i wr => ∃ j : Nat, i = .int .i64 j ∧ j ≤ n ∧ Hid (ApI w wr u (apA f j))) (fun _ i _ => n - (intOf i).toNat)
  case atStart => exact ⟨0, rfl, Nat.zero_le _, Lib.hid ⟨Below.refl _ _, ⟨rfl, .inl ⟨rfl, rfl⟩⟩⟩⟩
  case round =>
    obtain ⟨j, rfl, hj, HI⟩ := hrel
    obtain ⟨wo, hwo⟩ : ∃ wo : World, wo = wr := ⟨_, rfl⟩
    subst hwo
    by_cases hlt : j < n
    · obtain ⟨b, off, rfl, hbl, hx, mr⟩ := (HR.out.below HI.out.below).range (i := j) hlt
      rw [HEL.out j hx] at mr
      obtain ⟨y, hy⟩ : ∃ y, y = f j := ⟨_, rfl⟩
      rw [← hy] at mr
      have HYE := Lib.hid hy
      have MR := Lib.hid mr
      have hb1 := (Below.refl wo.heap.size wo).alloc (Nat.le_refl _) (.cells (Fc.eventC y) 31)
      have HIb := Lib.hid (HI.out.low hb1)
      have HYb := Lib.hid (Has.fresh wo 31 (Fc.eventC y))
      have hjc : j ≤ c := by omega
      clear hx mr hbl hb1 hy HI
      go_wp2_with (first | ((with_reducible refine Who.wpList_loadC 31 (.tmp 13) rfl (b) (off + j * 21) (Fc.eventC y) ?_); refine And.intro ⟨by rfl, by rfl, ⟨_, Tryd.underlying31, rfl⟩, Sr.info_event⟩ (And.intro (MR.out) ?_); (try simp only [Act.put, List.setIfInBounds_toArray, List.set_cons_zero, List.set_cons_succ])) | ((with_reducible refine Who.wpList_alloc 31 5 rfl rfl rfl (Fc.eventC Sr.zeroE) halv ?_); (try simp only [Act.put, List.setIfInBounds_toArray, List.set_cons_zero, List.set_cons_succ]); (try simp only [World.size_alloc])) | ((with_reducible refine wpList_storeNew 31 (.tmp 5) (.tmp 14) (Fc.eventC Sr.zeroE) (Fc.eventC y) rfl ?_); refine And.intro ⟨rfl, rfl, by rfl, by rfl, Sr.info_event, rfl, Sr.event_one _⟩ ?_; (try simp only [Act.put, List.setIfInBounds_toArray, List.set_cons_zero, List.set_cons_succ])) | fail)
      go_loopw [3, 17] (fun u i wr => ∃ (m : Nat) (P : List (Nat × Nat)), i = .int .i64 m ∧ m ≤ n ∧ Hid (apL f j (min m j) = P) ∧ Hid (ApI w wr u (apA f j ++ P)) ∧ Hid (Has wr wo.heap.size 31 (Fc.eventC y))) (fun _ i _ => n - (intOf i).toNat)
      case atStart => exact ⟨0, [], rfl, Nat.zero_le _, Lib.hid (by rw [Nat.zero_min]; rfl), Lib.hid (by rw [List.append_nil]; exact HIb.out), HYb⟩
      case round =>
        clear HIb HYb
        obtain ⟨m, P, rfl, hm, HP, HI, HY⟩ := hrel
        by_cases hlm : m < n
        · obtain ⟨b2, off2, hA2, hbl2, hx2, mr2⟩ := (HR.out.below HI.out.below).range (i := m) (by omega)
          cases hA2
          rw [HEL.out m hx2] at mr2
          obtain ⟨x, hx⟩ : ∃ x, x = f m := ⟨_, rfl⟩
          rw [← hx] at mr2
          have HXE := Lib.hid hx
          have MR2 := Lib.hid mr2
          have hb2 := (Below.refl wr.heap.size wr).alloc (Nat.le_refl _) (.cells (Fc.eventC x) 31)
          have HI1 := Lib.hid (HI.out.low hb2)
          have HY1 := Lib.hid (HY.out.below hb2)
          have HX := Lib.hid (Has.fresh wr 31 (Fc.eventC x))
          have HSY : Hid (m < j → apartB x y = true → apL f j (min (m + 1) j) = P ++ [(m, j)]) := Lib.hid (fun hmj h => by rw [Nat.min_eq_left (show m + 1 ≤ j by omega), show apL f j (m + 1) = if apartB (f m) (f j) then apL f j m ++ [(m, j)] else apL f j m from rfl, ← HXE.out, ← HYE.out, if_pos h, ← HP.out, Nat.min_eq_left (Nat.le_of_lt hmj)])
          have HSN : Hid (m < j → apartB x y = false → apL f j (min (m + 1) j) = P) := Lib.hid (fun hmj h => by rw [Nat.min_eq_left (show m + 1 ≤ j by omega), show apL f j (m + 1) = if apartB (f m) (f j) then apL f j m ++ [(m, j)] else apL f j m from rfl, ← HXE.out, ← HYE.out, if_neg (by rw [h]; decide), ← HP.out, Nat.min_eq_left (Nat.le_of_lt hmj)])
          have HPL : Hid ((apA f j ++ P).length ≤ 4000000) := Lib.hid (by
            have l1 := apA_len f j (by omega)
            have l2 := apL_len f j (min m j)
            rw [HP.out] at l2
            rw [List.length_append]
            omega)
          obtain ⟨A2, c2, rfl⟩ := pown_sl HI.out.row
          obtain ⟨Q, hQ⟩ : ∃ Q, Q = apA f j ++ P := ⟨_, rfl⟩
          have HQQ := Lib.hid hQ
          rw [← hQ] at HPL HI1
          have k2 := HX.out.at_ 2
          have hvx : (wr.alloc (.cells (Fc.eventC x) 31)).cell? ⟨wr.heap.size, 2, none⟩ = some (.int .i64 x.vol) := HX.out.at_ 2
          have hvy : (wr.alloc (.cells (Fc.eventC x) 31)).cell? ⟨wo.heap.size, 2, none⟩ = some (.int .i64 y.vol) := HY1.out.at_ 2
          rw [← hQ]
          clear hx mr2 hx2 hbl2 hb2 hQ k2 HI HY
          by_cases hmj : m < j
          case neg =>
            have HQN := Lib.hid (show apL f j (min (m + 1) j) = P by rw [← HP.out, Nat.min_eq_right (by omega), Nat.min_eq_right (by omega)])
            go_wp2_with (first | ((with_reducible refine Who.wpList_loadC 31 (.tmp 20) rfl (b) (off + m * 21) (Fc.eventC x) ?_); refine And.intro ⟨by rfl, by rfl, ⟨_, Tryd.underlying31, rfl⟩, Sr.info_event⟩ (And.intro (MR2.out) ?_); (try simp only [Act.put, List.setIfInBounds_toArray, List.set_cons_zero, List.set_cons_succ])) | ((with_reducible refine Who.wpList_alloc 31 7 rfl rfl rfl (Fc.eventC Sr.zeroE) halv ?_); (try simp only [Act.put, List.setIfInBounds_toArray, List.set_cons_zero, List.set_cons_succ]); (try simp only [World.size_alloc])) | ((with_reducible refine wpList_storeNew 31 (.tmp 7) (.tmp 21) (Fc.eventC Sr.zeroE) (Fc.eventC x) rfl ?_); refine And.intro ⟨rfl, rfl, by rfl, by rfl, Sr.info_event, rfl, Sr.event_one _⟩ ?_; (try simp only [Act.put, List.setIfInBounds_toArray, List.set_cons_zero, List.set_cons_succ])) | fail)
            go_roundw
            case rel => exact ⟨m + 1, P, by go_num, by omega, HQN, Lib.hid (by rw [← HQQ.out]; exact HI1.out), HY1⟩
            case measure => simp [intOf]; omega
          have HAB := Lib.hid (show apartB x y = (decide (y.vol = x.vol) && !(y.at_.1 == x.at_.1 && y.at_.2 == x.at_.2) && !hasB y.knew x.at_.1 x.at_.2 && !hasB x.knew y.at_.1 y.at_.2) from apart_sym x y)
          have q2 := fun W => neq_st y.at_.1 y.at_.2 x.at_.1 x.at_.2 W
          unfold stC at q2
          obtain ⟨z2, hz2⟩ : ∃ z2, z2 = (y.at_.1 == x.at_.1 && y.at_.2 == x.at_.2) := ⟨_, rfl⟩
          obtain ⟨h1, hh1⟩ : ∃ h1, h1 = hasB y.knew x.at_.1 x.at_.2 := ⟨_, rfl⟩
          obtain ⟨h2, hh2⟩ : ∃ h2, h2 = hasB x.knew y.at_.1 y.at_.2 := ⟨_, rfl⟩
          have HC1 := Lib.hid (fun V => by have q := Vc.rhas_any y.knew x.at_.1 x.at_.2 V; unfold stC at q; rw [← hh1] at q; exact q)
          have HC2 := Lib.hid (fun V => by have q := Vc.rhas_any x.knew y.at_.1 y.at_.2 V; unfold stC at q; rw [← hh2] at q; exact q)
          rw [← hz2] at q2 HAB
          rw [← hh1, ← hh2] at HAB
          clear hz2 hh1 hh2
          by_cases hv : y.vol = x.vol
          case neg =>
            have HQN := Lib.hid (HSN.out hmj (by rw [HAB.out, decide_eq_false hv]; rfl))
            go_wp2_with (first | ((with_reducible refine Who.wpList_loadC 31 (.tmp 20) rfl (b) (off + m * 21) (Fc.eventC x) ?_); refine And.intro ⟨by rfl, by rfl, ⟨_, Tryd.underlying31, rfl⟩, Sr.info_event⟩ (And.intro (MR2.out) ?_); (try simp only [Act.put, List.setIfInBounds_toArray, List.set_cons_zero, List.set_cons_succ])) | ((with_reducible refine Who.wpList_alloc 31 7 rfl rfl rfl (Fc.eventC Sr.zeroE) halv ?_); (try simp only [Act.put, List.setIfInBounds_toArray, List.set_cons_zero, List.set_cons_succ]); (try simp only [World.size_alloc])) | ((with_reducible refine wpList_storeNew 31 (.tmp 7) (.tmp 21) (Fc.eventC Sr.zeroE) (Fc.eventC x) rfl ?_); refine And.intro ⟨rfl, rfl, by rfl, by rfl, Sr.info_event, rfl, Sr.event_one _⟩ ?_; (try simp only [Act.put, List.setIfInBounds_toArray, List.set_cons_zero, List.set_cons_succ])) | ((with_reducible refine Who.wpList_loadC 23 (.tmp 33) rfl (wo.heap.size) 0 (#[.int .i64 y.at_.1, .int .i64 y.at_.2]) ?_); refine And.intro ⟨by rfl, by rfl, ⟨_, Tryd.underlying23, rfl⟩, Sr.info_st⟩ (And.intro (Smr.rangeOf HY1.out 0 _ (rat _)) ?_); (try simp only [Act.put, List.setIfInBounds_toArray, List.set_cons_zero, List.set_cons_succ])) | ((with_reducible refine Who.wpList_loadC 23 (.tmp 35) rfl (wr.heap.size) 0 (#[.int .i64 x.at_.1, .int .i64 x.at_.2]) ?_); refine And.intro ⟨by rfl, by rfl, ⟨_, Tryd.underlying23, rfl⟩, Sr.info_st⟩ (And.intro (Smr.rangeOf HX.out 0 _ (rat _)) ?_); (try simp only [Act.put, List.setIfInBounds_toArray, List.set_cons_zero, List.set_cons_succ])) | ((with_reducible refine Who.wpList_loadC 25 (.tmp 40) rfl (wo.heap.size) 3 (vecC y.knew) ?_); refine And.intro ⟨by rfl, by rfl, ⟨_, Tryd.underlying25, rfl⟩, Sr.info_vec⟩ (And.intro (Smr.rangeOf HY1.out 3 _ (rkn _)) ?_); (try simp only [Act.put, List.setIfInBounds_toArray, List.set_cons_zero, List.set_cons_succ])) | ((with_reducible refine Who.wpList_loadC 23 (.tmp 42) rfl (wr.heap.size) 0 (#[.int .i64 x.at_.1, .int .i64 x.at_.2]) ?_); refine And.intro ⟨by rfl, by rfl, ⟨_, Tryd.underlying23, rfl⟩, Sr.info_st⟩ (And.intro (Smr.rangeOf HX.out 0 _ (rat _)) ?_); (try simp only [Act.put, List.setIfInBounds_toArray, List.set_cons_zero, List.set_cons_succ])) | ((with_reducible refine Who.wpList_loadC 25 (.tmp 48) rfl (wr.heap.size) 3 (vecC x.knew) ?_); refine And.intro ⟨by rfl, by rfl, ⟨_, Tryd.underlying25, rfl⟩, Sr.info_vec⟩ (And.intro (Smr.rangeOf HX.out 3 _ (rkn _)) ?_); (try simp only [Act.put, List.setIfInBounds_toArray, List.set_cons_zero, List.set_cons_succ])) | ((with_reducible refine Who.wpList_loadC 23 (.tmp 50) rfl (wo.heap.size) 0 (#[.int .i64 y.at_.1, .int .i64 y.at_.2]) ?_); refine And.intro ⟨by rfl, by rfl, ⟨_, Tryd.underlying23, rfl⟩, Sr.info_st⟩ (And.intro (Smr.rangeOf HY1.out 0 _ (rat _)) ?_); (try simp only [Act.put, List.setIfInBounds_toArray, List.set_cons_zero, List.set_cons_succ])) | fail)
            go_roundw
            case rel => exact ⟨m + 1, P, by go_num, by omega, HQN, Lib.hid (by rw [← HQQ.out]; exact HI1.out), HY1⟩
            case measure => simp [intOf]; omega
          cases z2 with
          | true =>
            have HQN := Lib.hid (HSN.out hmj (by rw [HAB.out]; simp))
            go_wp2_with (first | ((with_reducible refine Who.wpList_loadC 31 (.tmp 20) rfl (b) (off + m * 21) (Fc.eventC x) ?_); refine And.intro ⟨by rfl, by rfl, ⟨_, Tryd.underlying31, rfl⟩, Sr.info_event⟩ (And.intro (MR2.out) ?_); (try simp only [Act.put, List.setIfInBounds_toArray, List.set_cons_zero, List.set_cons_succ])) | ((with_reducible refine Who.wpList_alloc 31 7 rfl rfl rfl (Fc.eventC Sr.zeroE) halv ?_); (try simp only [Act.put, List.setIfInBounds_toArray, List.set_cons_zero, List.set_cons_succ]); (try simp only [World.size_alloc])) | ((with_reducible refine wpList_storeNew 31 (.tmp 7) (.tmp 21) (Fc.eventC Sr.zeroE) (Fc.eventC x) rfl ?_); refine And.intro ⟨rfl, rfl, by rfl, by rfl, Sr.info_event, rfl, Sr.event_one _⟩ ?_; (try simp only [Act.put, List.setIfInBounds_toArray, List.set_cons_zero, List.set_cons_succ])) | ((with_reducible refine Who.wpList_loadC 23 (.tmp 33) rfl (wo.heap.size) 0 (#[.int .i64 y.at_.1, .int .i64 y.at_.2]) ?_); refine And.intro ⟨by rfl, by rfl, ⟨_, Tryd.underlying23, rfl⟩, Sr.info_st⟩ (And.intro (Smr.rangeOf HY1.out 0 _ (rat _)) ?_); (try simp only [Act.put, List.setIfInBounds_toArray, List.set_cons_zero, List.set_cons_succ])) | ((with_reducible refine Who.wpList_loadC 23 (.tmp 35) rfl (wr.heap.size) 0 (#[.int .i64 x.at_.1, .int .i64 x.at_.2]) ?_); refine And.intro ⟨by rfl, by rfl, ⟨_, Tryd.underlying23, rfl⟩, Sr.info_st⟩ (And.intro (Smr.rangeOf HX.out 0 _ (rat _)) ?_); (try simp only [Act.put, List.setIfInBounds_toArray, List.set_cons_zero, List.set_cons_succ])) | ((with_reducible refine Who.wpList_loadC 25 (.tmp 40) rfl (wo.heap.size) 3 (vecC y.knew) ?_); refine And.intro ⟨by rfl, by rfl, ⟨_, Tryd.underlying25, rfl⟩, Sr.info_vec⟩ (And.intro (Smr.rangeOf HY1.out 3 _ (rkn _)) ?_); (try simp only [Act.put, List.setIfInBounds_toArray, List.set_cons_zero, List.set_cons_succ])) | ((with_reducible refine Who.wpList_loadC 23 (.tmp 42) rfl (wr.heap.size) 0 (#[.int .i64 x.at_.1, .int .i64 x.at_.2]) ?_); refine And.intro ⟨by rfl, by rfl, ⟨_, Tryd.underlying23, rfl⟩, Sr.info_st⟩ (And.intro (Smr.rangeOf HX.out 0 _ (rat _)) ?_); (try simp only [Act.put, List.setIfInBounds_toArray, List.set_cons_zero, List.set_cons_succ])) | ((with_reducible refine Who.wpList_loadC 25 (.tmp 48) rfl (wr.heap.size) 3 (vecC x.knew) ?_); refine And.intro ⟨by rfl, by rfl, ⟨_, Tryd.underlying25, rfl⟩, Sr.info_vec⟩ (And.intro (Smr.rangeOf HX.out 3 _ (rkn _)) ?_); (try simp only [Act.put, List.setIfInBounds_toArray, List.set_cons_zero, List.set_cons_succ])) | ((with_reducible refine Who.wpList_loadC 23 (.tmp 50) rfl (wo.heap.size) 0 (#[.int .i64 y.at_.1, .int .i64 y.at_.2]) ?_); refine And.intro ⟨by rfl, by rfl, ⟨_, Tryd.underlying23, rfl⟩, Sr.info_st⟩ (And.intro (Smr.rangeOf HY1.out 0 _ (rat _)) ?_); (try simp only [Act.put, List.setIfInBounds_toArray, List.set_cons_zero, List.set_cons_succ])) | fail)
            go_roundw
            case rel => exact ⟨m + 1, P, by go_num, by omega, HQN, Lib.hid (by rw [← HQQ.out]; exact HI1.out), HY1⟩
            case measure => simp [intOf]; omega
          | false =>
            go_wp2_with (first | ((with_reducible refine Who.wpList_loadC 31 (.tmp 20) rfl (b) (off + m * 21) (Fc.eventC x) ?_); refine And.intro ⟨by rfl, by rfl, ⟨_, Tryd.underlying31, rfl⟩, Sr.info_event⟩ (And.intro (MR2.out) ?_); (try simp only [Act.put, List.setIfInBounds_toArray, List.set_cons_zero, List.set_cons_succ])) | ((with_reducible refine Who.wpList_alloc 31 7 rfl rfl rfl (Fc.eventC Sr.zeroE) halv ?_); (try simp only [Act.put, List.setIfInBounds_toArray, List.set_cons_zero, List.set_cons_succ]); (try simp only [World.size_alloc])) | ((with_reducible refine wpList_storeNew 31 (.tmp 7) (.tmp 21) (Fc.eventC Sr.zeroE) (Fc.eventC x) rfl ?_); refine And.intro ⟨rfl, rfl, by rfl, by rfl, Sr.info_event, rfl, Sr.event_one _⟩ ?_; (try simp only [Act.put, List.setIfInBounds_toArray, List.set_cons_zero, List.set_cons_succ])) | ((with_reducible refine Who.wpList_loadC 23 (.tmp 33) rfl (wo.heap.size) 0 (#[.int .i64 y.at_.1, .int .i64 y.at_.2]) ?_); refine And.intro ⟨by rfl, by rfl, ⟨_, Tryd.underlying23, rfl⟩, Sr.info_st⟩ (And.intro (Smr.rangeOf HY1.out 0 _ (rat _)) ?_); (try simp only [Act.put, List.setIfInBounds_toArray, List.set_cons_zero, List.set_cons_succ])) | ((with_reducible refine Who.wpList_loadC 23 (.tmp 35) rfl (wr.heap.size) 0 (#[.int .i64 x.at_.1, .int .i64 x.at_.2]) ?_); refine And.intro ⟨by rfl, by rfl, ⟨_, Tryd.underlying23, rfl⟩, Sr.info_st⟩ (And.intro (Smr.rangeOf HX.out 0 _ (rat _)) ?_); (try simp only [Act.put, List.setIfInBounds_toArray, List.set_cons_zero, List.set_cons_succ])) | ((with_reducible refine Who.wpList_loadC 25 (.tmp 40) rfl (wo.heap.size) 3 (vecC y.knew) ?_); refine And.intro ⟨by rfl, by rfl, ⟨_, Tryd.underlying25, rfl⟩, Sr.info_vec⟩ (And.intro (Smr.rangeOf HY1.out 3 _ (rkn _)) ?_); (try simp only [Act.put, List.setIfInBounds_toArray, List.set_cons_zero, List.set_cons_succ])) | ((with_reducible refine Who.wpList_loadC 23 (.tmp 42) rfl (wr.heap.size) 0 (#[.int .i64 x.at_.1, .int .i64 x.at_.2]) ?_); refine And.intro ⟨by rfl, by rfl, ⟨_, Tryd.underlying23, rfl⟩, Sr.info_st⟩ (And.intro (Smr.rangeOf HX.out 0 _ (rat _)) ?_); (try simp only [Act.put, List.setIfInBounds_toArray, List.set_cons_zero, List.set_cons_succ])) | ((with_reducible refine Who.wpList_loadC 25 (.tmp 48) rfl (wr.heap.size) 3 (vecC x.knew) ?_); refine And.intro ⟨by rfl, by rfl, ⟨_, Tryd.underlying25, rfl⟩, Sr.info_vec⟩ (And.intro (Smr.rangeOf HX.out 3 _ (rkn _)) ?_); (try simp only [Act.put, List.setIfInBounds_toArray, List.set_cons_zero, List.set_cons_succ])) | ((with_reducible refine Who.wpList_loadC 23 (.tmp 50) rfl (wo.heap.size) 0 (#[.int .i64 y.at_.1, .int .i64 y.at_.2]) ?_); refine And.intro ⟨by rfl, by rfl, ⟨_, Tryd.underlying23, rfl⟩, Sr.info_st⟩ (And.intro (Smr.rangeOf HY1.out 0 _ (rat _)) ?_); (try simp only [Act.put, List.setIfInBounds_toArray, List.set_cons_zero, List.set_cons_succ])) | fail)
            go_at_call 44
            refine (HC1.out _).mono ?_
            rintro q w3 ⟨rfl, hb⟩
            have HI2 := Lib.hid (HI1.out.low hb)
            have HX2 := Lib.hid (HX.out.below hb)
            have HY2 := Lib.hid (HY1.out.below hb)
            clear hb
            cases h1 with
            | true =>
              have HQN := Lib.hid (HSN.out hmj (by rw [HAB.out]; simp))
              go_wp2
              go_roundw
              case rel => exact ⟨m + 1, P, by go_num, by omega, HQN, Lib.hid (by rw [← HQQ.out]; exact HI2.out), HY2⟩
              case measure => simp [intOf]; omega
            | false =>
              have HX1b := HX2
              have HY1b := HY2
              go_wp2_with (first | ((with_reducible refine Who.wpList_loadC 23 (.tmp 33) rfl (wo.heap.size) 0 (#[.int .i64 y.at_.1, .int .i64 y.at_.2]) ?_); refine And.intro ⟨by rfl, by rfl, ⟨_, Tryd.underlying23, rfl⟩, Sr.info_st⟩ (And.intro (Smr.rangeOf HY2.out 0 _ (rat _)) ?_); (try simp only [Act.put, List.setIfInBounds_toArray, List.set_cons_zero, List.set_cons_succ])) | ((with_reducible refine Who.wpList_loadC 23 (.tmp 35) rfl (wr.heap.size) 0 (#[.int .i64 x.at_.1, .int .i64 x.at_.2]) ?_); refine And.intro ⟨by rfl, by rfl, ⟨_, Tryd.underlying23, rfl⟩, Sr.info_st⟩ (And.intro (Smr.rangeOf HX2.out 0 _ (rat _)) ?_); (try simp only [Act.put, List.setIfInBounds_toArray, List.set_cons_zero, List.set_cons_succ])) | ((with_reducible refine Who.wpList_loadC 25 (.tmp 40) rfl (wo.heap.size) 3 (vecC y.knew) ?_); refine And.intro ⟨by rfl, by rfl, ⟨_, Tryd.underlying25, rfl⟩, Sr.info_vec⟩ (And.intro (Smr.rangeOf HY2.out 3 _ (rkn _)) ?_); (try simp only [Act.put, List.setIfInBounds_toArray, List.set_cons_zero, List.set_cons_succ])) | ((with_reducible refine Who.wpList_loadC 23 (.tmp 42) rfl (wr.heap.size) 0 (#[.int .i64 x.at_.1, .int .i64 x.at_.2]) ?_); refine And.intro ⟨by rfl, by rfl, ⟨_, Tryd.underlying23, rfl⟩, Sr.info_st⟩ (And.intro (Smr.rangeOf HX2.out 0 _ (rat _)) ?_); (try simp only [Act.put, List.setIfInBounds_toArray, List.set_cons_zero, List.set_cons_succ])) | ((with_reducible refine Who.wpList_loadC 25 (.tmp 48) rfl (wr.heap.size) 3 (vecC x.knew) ?_); refine And.intro ⟨by rfl, by rfl, ⟨_, Tryd.underlying25, rfl⟩, Sr.info_vec⟩ (And.intro (Smr.rangeOf HX2.out 3 _ (rkn _)) ?_); (try simp only [Act.put, List.setIfInBounds_toArray, List.set_cons_zero, List.set_cons_succ])) | ((with_reducible refine Who.wpList_loadC 23 (.tmp 50) rfl (wo.heap.size) 0 (#[.int .i64 y.at_.1, .int .i64 y.at_.2]) ?_); refine And.intro ⟨by rfl, by rfl, ⟨_, Tryd.underlying23, rfl⟩, Sr.info_st⟩ (And.intro (Smr.rangeOf HY2.out 0 _ (rat _)) ?_); (try simp only [Act.put, List.setIfInBounds_toArray, List.set_cons_zero, List.set_cons_succ])) | fail)
              go_at_call 44
              refine (HC2.out _).mono ?_
              rintro q w4 ⟨rfl, hb⟩
              have HI3 := Lib.hid (HI2.out.low hb)
              have HY3 := Lib.hid (HY2.out.below hb)
              clear hb HX1b HY1b
              cases h2 with
              | true =>
                have HQN := Lib.hid (HSN.out hmj (by rw [HAB.out]; simp))
                go_wp2
                go_roundw
                case rel => exact ⟨m + 1, P, by go_num, by omega, HQN, Lib.hid (by rw [← HQQ.out]; exact HI3.out), HY3⟩
                case measure => simp [intOf]; omega
              | false =>
                have HQY := Lib.hid (HSY.out hmj (by rw [HAB.out, decide_eq_true hv]; rfl))
                have HRW := Lib.hid HI3.out.row
                have HBS := Lib.hid HI3.out.below.size
                go_wp2_with (first | ((with_reducible refine wpList_build_p (.tmp 58) rfl (m, j) ?_); refine And.intro ⟨rfl, by rfl⟩ ?_; (try simp only [Act.put, List.setIfInBounds_toArray, List.set_cons_zero, List.set_cons_succ])) | (at_builtin; (with_reducible refine wpl_pair (B := w.heap.size) (u := .slice A2 Q.length c2) (ps := Q) (p := (m, j)) (.tmp 55) (.tmp 59) rfl rfl ?_); refine And.intro ⟨⟨by rfl, ⟨_, by rfl, by simp⟩⟩, HRW.out, HBS.out, HPL.out⟩ ?_) | fail)
                intro u5 w5 hg
                have HI5 : Hid (ApI w w5 u5 (apA f j ++ (P ++ [(m, j)]))) := Lib.hid (by rw [← List.append_assoc, ← HQQ.out]; exact ⟨HI3.out.below.trans hg.below, hg.row⟩)
                have HY5 := Lib.hid (Has.over HY3.out hg.chg (pown_type HRW.out HY3.out (by decide)))
                clear hg
                go_wp2
                go_roundw
                case rel => exact ⟨m + 1, P ++ [(m, j)], by go_num, by omega, HQY, HI5, HY5⟩
                case measure => simp [intOf]; omega
        · have hmn : m = n := by omega
          have HPN := Lib.hid (show apA f (j + 1) = apA f j ++ P by rw [show apA f (j + 1) = apA f j ++ apL f j j from rfl, ← HP.out, hmn, Nat.min_eq_right (by omega)])
          clear hmn
          go_wp2
          go_roundw
          case rel => exact ⟨j + 1, by go_num, by omega, Lib.hid (by rw [HPN.out]; exact HI.out)⟩
          case measure => simp [intOf]; omega
    · have hjn : j = n := by omega
      subst hjn
      go_wp2
      go_ret
      exact ⟨_, rfl, HI.out.row, HI.out.below⟩
end Go.Proofs.YtdbmnnmcelaehaaDoor.Stl
/- Rows of pairs that are compared with themselves; how many events there are of each replica. -/
namespace Go.Proofs.YtdbmnnmcelaehaaDoor.Stl
open Go.RowKit Go.Proofs.YtdbmnnmcelaehaaDoor.Mem
open Go.Proofs.YtdbmnnmcelaehaaDoor.Vc (vecC stC upd)
set_option linter.unusedVariables false set_option linter.unusedSimpArgs false

set_option maxRecDepth 100000 in
set_option maxHeartbeats 4000000 in
theorem eqp_self (A A2 : Option Addr) (n c c2 : Nat) (ps : List (Nat × Nat)) (hn : n ≤ 9223372036854775807) (w : World) (h1 : Fc.SRow w 2 pairC A n ps) (h2 : Fc.SRow w 2 pairC A2 n ps) : Calls Tryd.prog 17 #[.slice A n c, .slice A2 n c2] w fun e w' => e = .returned (.bool true) ∧ Below w.heap.size w w' := by
  have HR := Lib.hid h1
  have HR2 := Lib.hid h2
  clear h1 h2
  go_enter Tryd.func17, Tryd.ntmps17
  go_wp2
  go_loopw [13] (fun i wr => ∃ j : Nat, i = .int .i64 j ∧ j ≤ n ∧ Hid (Below w.heap.size w wr)) (fun i _ => n - (intOf i).toNat)
  case atStart => exact ⟨0, rfl, Nat.zero_le _, Lib.hid (Below.refl _ _)⟩
  case round =>
    obtain ⟨j, rfl, hj, HB⟩ := hrel
    by_cases hlt : j < n
    · obtain ⟨b, off, rfl, hbl, hx, mr⟩ := HR.out.range (i := j) hlt
      obtain ⟨b2, off2, rfl, hbl2, hx2, mr2⟩ := HR2.out.range (i := j) hlt
      have HSS := Lib.hid (fun (V : World) (hV : Below w.heap.size w V) => show V.rangeAt b (off + j * 2) (pairC ps[j]).toList ∧ V.rangeAt b2 (off2 + j * 2) (pairC ps[j]).toList from ⟨Fc.row_range_below mr hV hbl, Fc.row_range_below mr2 hV hbl2⟩)
      generalize ps[j] = y at *
      have HXJ := Lib.hid (Smr.self_row (j := j) (n := n) hlt)
      have HNR := Lib.hid (fun W => nref_pair y W)
      clear mr mr2 hx hx2
      go_wp2_with fail
      refine wp_region_held_drew (S := fun V => V.rangeAt b (off + j * 2) (pairC y).toList ∧ V.rangeAt b2 (off2 + j * 2) (pairC y).toList) (by kernel_rfl) (HSS.out _ HB.out.drew) (fun hHeld => ?_)
      refine Vc.wpAnyH_read (i := 0) (d := some 16) (v := ?v1) (by rfl) (by rfl) (by kernel_rfl) (by kernel_rfl) (by kernel_rfl) (fun _ _ _ h => h) (by rfl) ?hy1 (by assumption) ?rest1
      case hy1 =>
        intro w hSw
        go_simp
        try with_reducible rfl
      (try simp only [Act.put, List.setIfInBounds_toArray, List.set_cons_zero, List.set_cons_succ])
      refine Vc.wpAnyH_read (i := 1) (d := some 17) (v := ?v2) (by rfl) (by rfl) (by kernel_rfl) (by kernel_rfl) (by kernel_rfl) (fun _ _ _ h => h) (by rfl) ?hy2 (by assumption) ?rest2
      case hy2 =>
        intro w hSw
        go_simp
        try with_reducible rfl
      (try simp only [Act.put, List.setIfInBounds_toArray, List.set_cons_zero, List.set_cons_succ])
      refine Vc.wpAnyH_read (i := 2) (d := some 18) (v := .pointer (some ⟨b, off + j * 2, none⟩)) (by rfl) (by rfl) (by kernel_rfl) (by kernel_rfl) (by kernel_rfl) (fun _ _ _ h => h) (by rfl) ?hy3 (by assumption) ?rest3
      case hy3 =>
        intro w hSw
        go_simp
        all_goals first | (rw [if_pos HXJ.out.1, HXJ.out.2]) | (intro hh; exfalso; omega) | (intro hh; exfalso; have hh2 := hh (by omega); omega)
      (try simp only [Act.put, List.setIfInBounds_toArray, List.set_cons_zero, List.set_cons_succ])
      refine Vc.wpAnyH_read (i := 3) (d := some 19) (v := .agg (pairC y)) (by rfl) (by rfl) (by kernel_rfl) (by kernel_rfl) (by kernel_rfl) (fun _ _ _ h => h) (by rfl) ?hy4 (by assumption) ?rest4
      case hy4 =>
        intro w hSw
        exact Who.exec_loadA _ rfl rfl hSw.1 Tryd.underlying44 rfl info_pair
      (try simp only [Act.put, List.setIfInBounds_toArray, List.set_cons_zero, List.set_cons_succ])
      refine Vc.wpAnyH_read (i := 4) (d := some 20) (v := ?v5) (by rfl) (by rfl) (by kernel_rfl) (by kernel_rfl) (by kernel_rfl) (fun _ _ _ h => h) (by rfl) ?hy5 (by assumption) ?rest5
      case hy5 =>
        intro w hSw
        go_simp
        try with_reducible rfl
      (try simp only [Act.put, List.setIfInBounds_toArray, List.set_cons_zero, List.set_cons_succ])
      refine Vc.wpAnyH_read (i := 5) (d := some 21) (v := ?v6) (by rfl) (by rfl) (by kernel_rfl) (by kernel_rfl) (by kernel_rfl) (fun _ _ _ h => h) (by rfl) ?hy6 (by assumption) ?rest6
      case hy6 =>
        intro w hSw
        go_simp
        try with_reducible rfl
      (try simp only [Act.put, List.setIfInBounds_toArray, List.set_cons_zero, List.set_cons_succ])
      refine Vc.wpAnyH_read (i := 6) (d := some 22) (v := .pointer (some ⟨b2, off2 + j * 2, none⟩)) (by rfl) (by rfl) (by kernel_rfl) (by kernel_rfl) (by kernel_rfl) (fun _ _ _ h => h) (by rfl) ?hy7 (by assumption) ?rest7
      case hy7 =>
        intro w hSw
        go_simp
        all_goals first | (rw [if_pos HXJ.out.1, HXJ.out.2]) | (intro hh; exfalso; omega) | (intro hh; exfalso; have hh2 := hh (by omega); omega)
      (try simp only [Act.put, List.setIfInBounds_toArray, List.set_cons_zero, List.set_cons_succ])
      refine Vc.wpAnyH_read (i := 7) (d := some 23) (v := .agg (pairC y)) (by rfl) (by rfl) (by kernel_rfl) (by kernel_rfl) (by kernel_rfl) (fun _ _ _ h => h) (by rfl) ?hy8 (by assumption) ?rest8
      case hy8 =>
        intro w hSw
        exact Who.exec_loadA _ rfl rfl hSw.2 Tryd.underlying44 rfl info_pair
      (try simp only [Act.put, List.setIfInBounds_toArray, List.set_cons_zero, List.set_cons_succ])
      refine Vc.wpAnyH_read (i := 8) (d := some 24) (v := .bool false) (by rfl) (by rfl) (by kernel_rfl) (by kernel_rfl) (by kernel_rfl) (fun _ _ _ h => h) (by rfl) ?hy9 (by assumption) ?rest9
      case hy9 =>
        intro w hSw
        have hnr := HNR.out
        go_simp
        try with_reducible rfl
      (try simp only [Act.put, List.setIfInBounds_toArray, List.set_cons_zero, List.set_cons_succ])
      refine wpAnyH_done (by kernel_rfl) ?_ _
      go_wp2
      go_roundw
      case rel => exact ⟨j + 1, by go_num, by omega, Lib.hid HB.out.drew⟩
      case measure => simp [intOf]; omega
    · go_wp2
      go_ret
      exact ⟨rfl, HB.out⟩
/-- how many of the first j are of each replica -/
def cntF (f : Nat → Fc.EventC) : Nat → (Nat → Int)
  | 0 => fun _ => 0
  | j + 1 => if 0 ≤ (f j).at_.2 ∧ (f j).at_.2 < 8 then upd (cntF f j) (f j).at_.2.toNat (cntF f j (f j).at_.2.toNat + 1) else cntF f j
theorem cnt_low (f : Nat → Fc.EventC) : ∀ j i, 0 ≤ cntF f j i ∧ cntF f j i ≤ (j : Int)
  | 0, i => ⟨Int.le_refl _, Int.le_refl _⟩
  | j + 1, i => by
    have h := cnt_low f j i
    have h2 := cnt_low f j (f j).at_.2.toNat
    unfold cntF
    split
    · unfold upd
      split <;> omega
    · omega
theorem cnt_yes (f : Nat → Fc.EventC) {j k : Nat} (h : (f j).at_.2 = (k : Int)) (hk : k < 8) : cntF f (j + 1) = upd (cntF f j) k (cntF f j k + 1) := by
  show (if _ then _ else _) = _
  rw [if_pos (by omega), h]
  rfl
theorem cnt_no (f : Nat → Fc.EventC) {j : Nat} (h : ¬ (0 ≤ (f j).at_.2 ∧ (f j).at_.2 < 8)) : cntF f (j + 1) = cntF f j := by
  show (if _ then _ else _) = _
  rw [if_neg h]
theorem alloc_a8 (w : World) : (Instr.alloc 24 true (.tuple #[])).run Tryd.prog w = .ok (.pointer (some ⟨w.heap.size, 0, none⟩)) (w.alloc (.cells (vecC fun _ => 0) 24)) := by
  have hz := Tryd.zeroValue24
  go_simp
  rfl
theorem info_a8 : (Tryd.prog.info? 24).map (·.size) = some 8 := by kernel_rfl
theorem vec_one (x : Nat → Int) : (vecC x).all (·.oneCell') = true := by simp [vecC, Value.oneCell']
set_option maxRecDepth 100000 in
theorem eref_a8 (x : Nat → Int) (w : World) : (binOp .eql 24 (.agg (vecC x)) (.agg (vecC x))).run Tryd.prog w = .ok (.bool true) w := by
  have u3 := Tryd.underlying3
  have a3 := Tryd.isAgg3
  have z3 := Tryd.sizeOf3
  rw [run_eql_struct, show (10000 : Nat) = 9999 + 1 from rfl, Op.equalIn]
  simp only [Sem.run_bind, run_underlying Tryd.underlying24, Result.andThen_ok]
  simp only [Std.Legacy.Range.forIn_eq_forIn_range', Std.Legacy.Range.size, Nat.sub_zero, Nat.add_sub_cancel, Nat.div_one, List.range'_succ, List.range'_zero, List.forIn_cons, List.forIn_nil]
  unfold vecC
  go_simp
  try rfl
theorem vec_cell {w : World} {g : Nat} {t : TypeId} {x : Nat → Int} (h : Has w g t (vecC x)) {k : Nat} (hk : k < 8) : w.cell? ⟨g, k, none⟩ = some (.int .i64 (x k)) := Vc.has_vec_at h hk
set_option maxRecDepth 100000 in
set_option maxHeartbeats 8000000 in
theorem counts_all (A : Option Addr) (n c : Nat) (es : List Fc.EventC) (hn : n ≤ 60) (w : World) (hr : Fc.SRow w 21 Fc.eventC A n es) : Calls Tryd.prog 20 #[.slice A n c] w fun e w' => e = .returned (.agg (vecC (cntF (fun i => (es[i]?).getD Sr.zeroE) n))) ∧ Below w.heap.size w w' := by
  obtain ⟨f, hf⟩ : ∃ f : Nat → Fc.EventC, f = fun i => (es[i]?).getD Sr.zeroE := ⟨_, rfl⟩
  rw [← hf]
  have HR := Lib.hid hr
  have HEL := Lib.hid (show ∀ i (h : i < es.length), es[i] = f i from fun i h => by rw [hf]; show _ = (es[i]?).getD Sr.zeroE; rw [List.getElem?_eq_getElem h]; rfl)
  have halv := Sr.alloc_event
  have hala := alloc_a8
  have HB0 := Lib.hid (((Below.refl w.heap.size w).alloc (Nat.le_refl _) (.cells (vecC fun _ => 0) 24)).alloc (by simp) (.cells (vecC fun _ => 0) 24))
  have HX0 := Lib.hid ((Has.fresh w 24 (vecC fun _ => 0)).past (.cells (vecC fun _ => 0) 24))
  have n1 : Has ((w.alloc (.cells (vecC fun _ => 0) 24)).alloc (.cells (vecC fun _ => 0) 24)) (w.heap.size + 1) 24 (vecC fun _ => 0) := by have q := Has.fresh (w.alloc (.cells (vecC fun _ => 0) 24)) 24 (vecC fun _ => 0); rw [World.size_alloc] at q; exact q
  have HY0 := Lib.hid n1
  clear hr hf n1
  go_enter Tryd.func20, Tryd.ntmps20
  go_wp2_with (first | ((with_reducible refine Who.wpList_alloc 24 2 rfl rfl rfl (vecC fun _ => 0) hala ?_); (try simp only [Act.put, List.setIfInBounds_toArray, List.set_cons_zero, List.set_cons_succ]); (try simp only [World.size_alloc])) | ((with_reducible refine Who.wpList_alloc 24 3 rfl rfl rfl (vecC fun _ => 0) hala ?_); (try simp only [Act.put, List.setIfInBounds_toArray, List.set_cons_zero, List.set_cons_succ]); (try simp only [World.size_alloc])) | fail)
  go_loopw [8] (fun i wr => ∃ j : Nat, i = .int .i64 j ∧ j ≤ n ∧ Hid (Below w.heap.size w wr) ∧ Hid (Has wr w.heap.size 24 (vecC fun _ => 0)) ∧ Hid (Has wr (w.heap.size + 1) 24 (vecC (cntF f j)))) (fun i _ => n - (intOf i).toNat)
  case atStart => exact ⟨0, rfl, Nat.zero_le _, HB0, HX0, HY0⟩
  case round =>
    clear HB0 HX0 HY0
    obtain ⟨j, rfl, hj, HB, HX, HY⟩ := hrel
    by_cases hlt : j < n
    · obtain ⟨b, off, rfl, hbl, hx, mr⟩ := (HR.out.below HB.out).range (i := j) hlt
      rw [HEL.out j hx] at mr
      have HYE := Lib.hid (fun k h hk => @cnt_yes f j k h hk)
      have HNO := Lib.hid (fun h => @cnt_no f j h)
      have HLO := Lib.hid (cnt_low f j)
      generalize f j = y at *
      have MR := Lib.hid mr
      have hb1 := (Below.refl wr.heap.size wr).alloc (Nat.le_refl _) (.cells (Fc.eventC y) 31)
      have HB1 := Lib.hid (HB.out.trans (hb1.mono HB.out.size))
      have HX1 := Lib.hid (HX.out.below hb1)
      have HY1 := Lib.hid (HY.out.below hb1)
      have HE := Lib.hid (Has.fresh wr 31 (Fc.eventC y))
      have hw1 : (wr.alloc (.cells (Fc.eventC y) 31)).cell? ⟨wr.heap.size, 1, none⟩ = some (.int .i64 y.at_.2) := HE.out.at_ 1
      have HNE := Lib.hid (show w.heap.size + 1 < wr.heap.size from HY.out.bound)
      clear hx mr hbl hb1 HB HX HY
      by_cases hw : 0 ≤ y.at_.2 ∧ y.at_.2 < 8
      · obtain ⟨k, hk⟩ : ∃ k : Nat, y.at_.2 = (k : Int) := ⟨y.at_.2.toNat, by omega⟩
        have hk8 : k < 8 := by omega
        have HCN := Lib.hid (HYE.out k hk hk8)
        have hkb := HLO.out k
        have cv := vec_cell HY1.out hk8
        have fv := HY1.out.free k
        have HY2 := Lib.hid (Vc.Has.putV HY1.out hk8 (cntF f j k + 1))
        have HX2 := Lib.hid (HX1.out.keep (p := ⟨w.heap.size + 1, k, none⟩) (by show w.heap.size ≠ w.heap.size + 1; omega) (.int .i64 (cntF f j k + 1)))
        have HB2 := Lib.hid (HB1.out.setCell (p := ⟨w.heap.size + 1, k, none⟩) (by show w.heap.size ≤ w.heap.size + 1; omega) (.int .i64 (cntF f j k + 1)))
        rw [hk] at hw1
        obtain ⟨v, hv⟩ : ∃ v, v = cntF f j k := ⟨_, rfl⟩
        rw [← hv] at hkb cv HY2 HX2 HB2 HCN
        have hv1 : 0 ≤ v := hkb.1
        have hv2 : v ≤ 60 := by omega
        have hki : (k : Int) < 8 := by omega
        clear hw hk hkb hv
        go_wp2_with (first | ((with_reducible refine Who.wpList_loadC 31 (.tmp 10) rfl (b) (off + j * 21) (Fc.eventC y) ?_); refine And.intro ⟨by rfl, by rfl, ⟨_, Tryd.underlying31, rfl⟩, Sr.info_event⟩ (And.intro (MR.out) ?_); (try simp only [Act.put, List.setIfInBounds_toArray, List.set_cons_zero, List.set_cons_succ])) | ((with_reducible refine Who.wpList_newC 31 5 (.tmp 11) rfl rfl rfl (Fc.eventC Sr.zeroE) (Fc.eventC y) ?_); refine And.intro ⟨rfl, rfl, rfl, halv, by rfl, by rfl, Sr.info_event, rfl, Sr.event_one _⟩ ?_; (try simp only [Act.put, List.setIfInBounds_toArray, List.set_cons_zero, List.set_cons_succ]); (try simp only [World.size_alloc])) | fail)
        go_roundw
        case rel => exact ⟨j + 1, by go_num, by omega, HB2, HX2, Lib.hid (by rw [HCN.out]; exact HY2.out)⟩
        case measure => simp [intOf]; omega
      · have HCN := Lib.hid (HNO.out hw)
        by_cases hw0 : 0 ≤ y.at_.2
        · have hw8 : ¬ y.at_.2 < 8 := by omega
          clear hw
          go_wp2_with (first | ((with_reducible refine Who.wpList_loadC 31 (.tmp 10) rfl (b) (off + j * 21) (Fc.eventC y) ?_); refine And.intro ⟨by rfl, by rfl, ⟨_, Tryd.underlying31, rfl⟩, Sr.info_event⟩ (And.intro (MR.out) ?_); (try simp only [Act.put, List.setIfInBounds_toArray, List.set_cons_zero, List.set_cons_succ])) | ((with_reducible refine Who.wpList_newC 31 5 (.tmp 11) rfl rfl rfl (Fc.eventC Sr.zeroE) (Fc.eventC y) ?_); refine And.intro ⟨rfl, rfl, rfl, halv, by rfl, by rfl, Sr.info_event, rfl, Sr.event_one _⟩ ?_; (try simp only [Act.put, List.setIfInBounds_toArray, List.set_cons_zero, List.set_cons_succ]); (try simp only [World.size_alloc])) | fail)
          go_roundw
          case rel => exact ⟨j + 1, by go_num, by omega, HB1, HX1, Lib.hid (by rw [HCN.out]; exact HY1.out)⟩
          case measure => simp [intOf]; omega
        · clear hw
          go_wp2_with (first | ((with_reducible refine Who.wpList_loadC 31 (.tmp 10) rfl (b) (off + j * 21) (Fc.eventC y) ?_); refine And.intro ⟨by rfl, by rfl, ⟨_, Tryd.underlying31, rfl⟩, Sr.info_event⟩ (And.intro (MR.out) ?_); (try simp only [Act.put, List.setIfInBounds_toArray, List.set_cons_zero, List.set_cons_succ])) | ((with_reducible refine Who.wpList_newC 31 5 (.tmp 11) rfl rfl rfl (Fc.eventC Sr.zeroE) (Fc.eventC y) ?_); refine And.intro ⟨rfl, rfl, rfl, halv, by rfl, by rfl, Sr.info_event, rfl, Sr.event_one _⟩ ?_; (try simp only [Act.put, List.setIfInBounds_toArray, List.set_cons_zero, List.set_cons_succ]); (try simp only [World.size_alloc])) | fail)
          go_roundw
          case rel => exact ⟨j + 1, by go_num, by omega, HB1, HX1, Lib.hid (by rw [HCN.out]; exact HY1.out)⟩
          case measure => simp [intOf]; omega
    · obtain rfl : j = n := by omega
      have HTH := Lib.hid (Who.has_there HX.out (n := 8) rfl)
      have HXF := Lib.hid (Who.has_over HX.out (C := vecC (cntF f j)) rfl)
      have HBF := Lib.hid (Who.below_setCells HB.out (Nat.le_refl w.heap.size) 0 (vecC (cntF f j)).toList)
      go_wp2_with (first | ((with_reducible refine Who.wpList_loadC 24 (.tmp 3) rfl (w.heap.size + 1) 0 (vecC (cntF f j)) ?_); refine And.intro ⟨by rfl, by rfl, ⟨_, Tryd.underlying24, rfl⟩, info_a8⟩ (And.intro (Who.has_range HY.out) ?_); (try simp only [Act.put, List.setIfInBounds_toArray, List.set_cons_zero, List.set_cons_succ])) | ((with_reducible refine Who.wpList_storeC 24 (.tmp 2) (.tmp 30) rfl (w.heap.size) 0 (vecC (cntF f j)) ?_); refine And.intro ⟨rfl, by rfl, by rfl, info_a8, vec_one _⟩ (And.intro HTH.out ?_); (try simp only [Act.put, List.setIfInBounds_toArray, List.set_cons_zero, List.set_cons_succ])) | fail)
      refine bodyPost_ret (v := .agg (vecC (cntF f j))) (Who.results_cell (p := 2) (t := 24) rfl _ _ w.heap.size 0 (vecC (cntF f j)) _ (by rfl) (Who.has_range HXF.out) Tryd.underlying24 rfl info_a8) rfl ⟨rfl, HBF.out⟩
end Go.Proofs.YtdbmnnmcelaehaaDoor.Stl
