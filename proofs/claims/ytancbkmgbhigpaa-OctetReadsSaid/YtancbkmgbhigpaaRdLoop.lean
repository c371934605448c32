/- The look that the statement hands in: all askings, one behind the other. -/
import Derived.Test.YtancbkmgbhigpaaRdAlso2
import Derived.Deep.RegionLaw
import Derived.Deep.AppendLies
namespace Go.Proofs.Ytancbkmgbhigpaa.Vc
open Go.RowKit Go.Proofs.Ytancbkmgbhigpaa.Oct

/-- An append of nothing, as one step of a region that draws. -/
theorem step_append_none {P : Program} {ops : Array Oper} {o : Oper} {a : Act} {w : World} {K : Act → World → Prop} {Q : Exit → Act → World → Prop} {E : Prop} (hgd : o.guard = none) (s x : Operand) (t : TypeId)
    (ho : o.op = .call { callee := .builtin .append, args := #[s, x], argTypes := #[t, t] })
    (base : Nat) (e : TypeId) (i : TypeInfo) (size : Nat) (ht : P.underlying t = some (.slice e)) (hi : P.info? e = some i)
    (v : Value) (n : Nat) (xs : List Value) (hs : a.eval s = v) (hown : w.ownsRow base e size v n xs) (hx : a.eval x = .slice none 0 0)
    (h : K (a.put o.dst v) w) : if Region.wanted o (yielded ops a.tmps) = true then Oper.wp P o a w K Q else E := by
  have hw : Region.wanted o (yielded ops a.tmps) = true := by simp [Region.wanted, hgd]
  rw [if_pos hw]
  have hrun := run_append_owned_none (P := P) (w := w) base t o.type e i size ht hi v n xs hown
  unfold Oper.wp
  simp [execOp, ho, resolve, invoke, builtin, hs, hx, hrun, Result.andThen]
  exact h
/-- Which blocks the look writes to. -/
def RdS (kp np sp bp s : Nat) (k : Nat) : Prop := k = s ∨ k = kp ∨ k = np ∨ k = sp ∨ k = bp
/-- What the statement's variables hold when so much has been asked. -/
structure RdIs (w : World) (kp np sp bp q s : Nat) (st : St) (back : Bool) (w' : World) : Prop where
  kept : Oct.Has w' kp 33 #[.pointer (some ⟨q, 0, none⟩)]
  nums : ∃ u, Oct.Has w' np 29 #[u] ∧ OwnI w' w.heap.size u st.nums
  txts : ∃ v, Oct.Has w' sp 30 #[v] ∧ OwnS w' w.heap.size v st.txts
  back : Oct.Has w' bp 4 #[.bool back]
  chg : Chg (RdS kp np sp bp s) w w'
def RdEnd (w : World) (kp np sp bp q s : Nat) (st : St) (e : Ending) (w' : World) : Prop :=
  match st.why with
  | none => e = .returned (.tuple #[]) ∧ RdIs w kp np sp bp q s st true w' ∧ Looks w' q s st.rest
  | some y => e = .panicked (own s) ∧ RdIs w kp np sp bp q s st false w' ∧ Sight w' s st.rest true y
theorem rd_bad {w : World} {kp np sp bp q s : Nat} {B : ByteArray} {xs : List (Int × Int)} {j : Nat} (hj : j < xs.length) {st : St} {r : ByteArray} {y : Int} {w' : World} (hs : asked B (xs.take j) = st) (hw : st.why = none) (ha : ask st.rest xs[j].1 xs[j].2 = .bad r y)
    (hi : RdIs w kp np sp bp q s st false w') (hk : Sight w' s r true y) : RdEnd w kp np sp bp q s (asked B xs) (.panicked (own s)) w' := by
  have e1 : asked B (xs.take (j + 1)) = ⟨st.nums, st.txts, r, some y⟩ := by
    rw [asked_snoc B xs j hj, hs]
    unfold adv
    rw [hw]
    simp only [ha]
  have e2 : asked B xs = ⟨st.nums, st.txts, r, some y⟩ := by
    rw [asked_ended (j := j + 1) (y := y) (by rw [e1]), e1]
  rw [e2]
  exact ⟨rfl, ⟨hi.kept, hi.nums, hi.txts, hi.back, hi.chg⟩, hk⟩
theorem rd_end {w : World} {kp np sp bp q s : Nat} {st : St} {w' : World} (hw : st.why = none) (hi : RdIs w kp np sp bp q s st true w') (hk : Looks w' q s st.rest) : RdEnd w kp np sp bp q s st (.returned (.tuple #[])) w' := by
  unfold RdEnd
  rw [hw]
  exact ⟨rfl, hi, hk⟩
/-- What the look finds. -/
structure RdAll (w : World) (kp lp np sp bp q s : Nat) (A : Option Addr) (n c : Nat) (xs : List (Int × Int)) : Prop where
  kept : Oct.Has w kp 33 #[.pointer none]
  row : Oct.Has w lp 23 #[.slice A n c]
  nums : Oct.Has w np 29 #[.slice none 0 0]
  txts : Oct.Has w sp 30 #[.slice none 0 0]
  back : Oct.Has w bp 4 #[.bool false]
  looks : LookRow w A n xs
  apart : 0 < n → ∀ b off, A = some ⟨b, off, none⟩ → ¬ RdS kp np sp bp s b
  d1 : kp ≠ lp ∧ kp ≠ np ∧ kp ≠ sp ∧ kp ≠ bp ∧ kp ≠ q ∧ kp ≠ s
  d2 : lp ≠ np ∧ lp ≠ sp ∧ lp ≠ bp ∧ lp ≠ q ∧ lp ≠ s
  d3 : np ≠ sp ∧ np ≠ bp ∧ np ≠ q ∧ np ≠ s
  d4 : sp ≠ bp ∧ sp ≠ q ∧ sp ≠ s
  d5 : bp ≠ q ∧ bp ≠ s ∧ q ≠ s
/-- One round further. -/
def RdMid (w : World) (kp np sp bp q s : Nat) (st : St) (w' : World) : Prop :=
  st.why = none ∧ RdIs w kp np sp bp q s st false w' ∧ Looks w' q s st.rest
theorem own_sl {w : World} {b n : Nat} {e : TypeId} {u : Value} {l : List Value} (h : w.ownsRow b e 1 u n l) : ∃ A c, u = .slice A n c := by
  rcases h.2 with ⟨e1, e0⟩ | ⟨g, cap, cur, e, _, _, _⟩
  · exact ⟨none, 0, by rw [e1, e0]⟩
  · exact ⟨_, cap, e⟩
theorem own_one {w : World} {b : Nat} {u : Value} {x : Int} (h : OwnI w b u [x]) : ∃ g cap, u = .slice (some ⟨g, 0, none⟩) 1 cap ∧ ∀ j z, [(.int .i64 x : Value)][j]? = some z → w.cell? ((⟨g, 0, none⟩ : Addr).add j) = some z := by
  rcases h.2 with ⟨_, e⟩ | ⟨g, cap, cur, e, _, _, _⟩
  · cases e
  · subst e
    exact ⟨g, cap, rfl, fun j z hz => World.ownsRow.cells h (g := g) rfl j z hz⟩
theorem own_onet {w : World} {b : Nat} {u : Value} {x : ByteArray} (h : OwnS w b u [x]) : ∃ g cap, u = .slice (some ⟨g, 0, none⟩) 1 cap ∧ ∀ j z, [(.string x : Value)][j]? = some z → w.cell? ((⟨g, 0, none⟩ : Addr).add j) = some z := by
  rcases h.2 with ⟨_, e⟩ | ⟨g, cap, cur, e, _, _, _⟩
  · cases e
  · subst e
    exact ⟨g, cap, rfl, fun j z hz => World.ownsRow.cells h (g := g) rfl j z hz⟩
theorem rdis_step {w wr w2 : World} {kp np sp bp q s : Nat} {st : St} {back : Bool} (hi : RdIs w kp np sp bp q s st back wr) {o1 o2 : Obj} (hc : Chg (· = s) ((wr.alloc o1).alloc o2) w2) (d1 : kp ≠ s) (d2 : np ≠ s) (d3 : sp ≠ s) (d4 : bp ≠ s) (hs : s < w.heap.size) : RdIs w kp np sp bp q s st back w2 := by
  obtain ⟨⟨u, n1, n2⟩, ⟨v, t1, t2⟩⟩ := And.intro hi.nums hi.txts
  exact ⟨((hi.kept.past o1).past o2).over hc d1, ⟨u, ((n1.past o1).past o2).over hc d2, own_chg (World.ownsRow.alloc (World.ownsRow.alloc n2 o1) o2) hc (fun k hk => by omega)⟩, ⟨v, ((t1.past o1).past o2).over hc d3, own_chg (World.ownsRow.alloc (World.ownsRow.alloc t2 o1) o2) hc (fun k hk => by omega)⟩, ((hi.back.past o1).past o2).over hc d4, ((hi.chg.alloc o1).alloc o2).trans (hc.mono fun k hk => Or.inl hk)⟩
/-- Both rows are stored. -/
theorem rd_mid {w W : World} {kp lp np sp bp q s : Nat} {A : Option Addr} {n c : Nat} {xs : List (Int × Int)} {st : St} {w0 : World} {u v u0 v0 : Value} (h : RdAll w0 kp lp np sp bp q s A n c xs) (hz : w0.heap.size ≤ w.heap.size) (hw : st.why = none)
    (hk : Oct.Has W kp 33 #[.pointer (some ⟨q, 0, none⟩)]) (hn : Oct.Has W np 29 #[u0]) (ht : Oct.Has W sp 30 #[v0]) (hb : Oct.Has W bp 4 #[.bool false]) (hc : Chg (RdS kp np sp bp s) w W) (hl : Looks W q s st.rest)
    (o1 : OwnI W w.heap.size u st.nums) (o2 : OwnS W w.heap.size v st.txts) : RdMid w kp np sp bp q s st ((W.setCell ⟨np, 0, none⟩ u).setCell ⟨sp, 0, none⟩ v) := by
  have d1 := h.d1
  have d3 := h.d3
  have d4 := h.d4
  have bn := Oct.Has.bound h.nums
  have bs := Oct.Has.bound h.txts
  have C2 : Chg (fun k => k = np ∨ k = sp) W ((W.setCell ⟨np, 0, none⟩ u).setCell ⟨sp, 0, none⟩ v) := ((Chg.refl (fun k => k = np ∨ k = sp) W).setCell (p := ⟨np, 0, none⟩) (.inl (.inl rfl)) _).setCell (p := ⟨sp, 0, none⟩) (.inl (.inr rfl)) _
  refine ⟨hw, ⟨hk.over C2 (by omega), ⟨u, Oct.Has.keep (Oct.Has.put hn 0 _) (p := ⟨sp, 0, none⟩) d3.1 _, own_chg o1 C2 (fun k hk => by omega)⟩, ⟨v, Oct.Has.put (Oct.Has.keep ht (p := ⟨np, 0, none⟩) d3.1.symm _) 0 _, own_chg o2 C2 (fun k hk => by omega)⟩, hb.over C2 (by omega), hc.trans (C2.mono fun k hk => ?_)⟩, ⟨hl.eye.over C2 (by omega), Oct.Has.over hl.sight C2 (by omega)⟩⟩
  rcases hk with e | e
  · exact .inr (.inr (.inl e))
  · exact .inr (.inr (.inr (.inl e)))
theorem rd_num {w w2 w5 : World} {kp lp np sp bp q s : Nat} {A : Option Addr} {n c : Nat} {xs : List (Int × Int)} {st : St} {w0 : World} {u v u5 : Value} {r : ByteArray} {x : Int} (h : RdAll w0 kp lp np sp bp q s A n c xs) (hz : w0.heap.size ≤ w.heap.size) (hq : q < w.heap.size) (hs : s < w.heap.size)
    (hi : RdIs w kp np sp bp q s st false w2) (n1 : Oct.Has w2 np 29 #[u]) (t1 : Oct.Has w2 sp 30 #[v]) (n2 : OwnI w2 w.heap.size u st.nums) (t2 : OwnS w2 w.heap.size v st.txts) (hl : Looks w2 q s r)
    (o5 : w5.ownsRow w.heap.size 3 1 u5 (st.nums.length + 1) (st.nums.map (Value.int .i64) ++ [.int .i64 x])) (b5 : w2.drew.grownBy w5 u.ownBlock) :
    RdMid w kp np sp bp q s ⟨st.nums ++ [x], st.txts, r, none⟩ ((w5.setCell ⟨np, 0, none⟩ u5).setCell ⟨sp, 0, none⟩ v) := by
  have hown := fun q hq => (World.ownsRow.lt n2 q hq).1
  have bk := Oct.Has.bound h.kept
  have bn := Oct.Has.bound h.nums
  have bs := Oct.Has.bound h.txts
  have bb := Oct.Has.bound h.back
  have far : ∀ k, k < w.heap.size → some k = u.ownBlock → False := fun k hk e => by have := hown k e.symm; omega
  exact rd_mid h hz rfl (has_grown hi.kept.drew b5 (far _ (by omega))) (has_grown n1.drew b5 (far _ (by omega))) (has_grown t1.drew b5 (far _ (by omega))) (has_grown hi.back.drew b5 (far _ (by omega))) (chg_grown hi.chg.drew b5 hown)
    (looks_grown ⟨hl.eye.drew, Oct.Has.drew hl.sight⟩ b5 (far _ hq) (far _ hs)) (by unfold OwnI; rw [List.length_append, List.map_append]; exact o5) (World.ownsRow.kept (World.ownsRow.drew t2) b5 (rows_apart t2 n2 (by decide)))
theorem rd_txt {w w2 w5 : World} {kp lp np sp bp q s : Nat} {A : Option Addr} {n c : Nat} {xs : List (Int × Int)} {st : St} {w0 : World} {u v v5 : Value} {r x : ByteArray} (h : RdAll w0 kp lp np sp bp q s A n c xs) (hz : w0.heap.size ≤ w.heap.size) (hq : q < w.heap.size) (hs : s < w.heap.size)
    (hi : RdIs w kp np sp bp q s st false w2) (n1 : Oct.Has w2 np 29 #[u]) (t1 : Oct.Has w2 sp 30 #[v]) (n2 : OwnI w2 w.heap.size u st.nums) (t2 : OwnS w2 w.heap.size v st.txts) (hl : Looks w2 q s r)
    (o5 : w5.ownsRow w.heap.size 9 1 v5 (st.txts.length + 1) (st.txts.map Value.string ++ [.string x])) (b5 : w2.drew.grownBy w5 v.ownBlock) :
    RdMid w kp np sp bp q s ⟨st.nums, st.txts ++ [x], r, none⟩ ((w5.setCell ⟨np, 0, none⟩ u).setCell ⟨sp, 0, none⟩ v5) := by
  have hown := fun q hq => (World.ownsRow.lt t2 q hq).1
  have bk := Oct.Has.bound h.kept
  have bn := Oct.Has.bound h.nums
  have bs := Oct.Has.bound h.txts
  have bb := Oct.Has.bound h.back
  have far : ∀ k, k < w.heap.size → some k = v.ownBlock → False := fun k hk e => by have := hown k e.symm; omega
  exact rd_mid h hz rfl (has_grown hi.kept.drew b5 (far _ (by omega))) (has_grown n1.drew b5 (far _ (by omega))) (has_grown t1.drew b5 (far _ (by omega))) (has_grown hi.back.drew b5 (far _ (by omega))) (chg_grown hi.chg.drew b5 hown)
    (looks_grown ⟨hl.eye.drew, Oct.Has.drew hl.sight⟩ b5 (far _ hq) (far _ hs)) (World.ownsRow.kept (World.ownsRow.drew n2) b5 (rows_apart n2 t2 (by decide))) (by unfold OwnS; rw [List.length_append, List.map_append]; exact o5)
set_option maxRecDepth 100000 in
set_option maxHeartbeats 8000000 in
theorem look_any (kp lp np sp bp q s : Nat) (A : Option Addr) (n c : Nat) (xs : List (Int × Int)) (hn : n ≤ 100) (B : ByteArray) (w : World) (h : RdAll w kp lp np sp bp q s A n c xs) (hl : Looks w q s B) :
    Calls Try.prog 8 #[.pointer (some ⟨q, 0, none⟩), .pointer (some ⟨kp, 0, none⟩), .pointer (some ⟨lp, 0, none⟩), .pointer (some ⟨np, 0, none⟩), .pointer (some ⟨sp, 0, none⟩), .pointer (some ⟨bp, 0, none⟩)] w (RdEnd w kp np sp bp q s (asked B xs)) := by
  have HH := Lib.hid h
  have HN := Lib.hid hn
  have bq := hl.eye.bound
  have bs := Oct.Has.bound hl.sight
  have bk := Oct.Has.bound h.kept
  have bn := Oct.Has.bound h.nums
  have bsp := Oct.Has.bound h.txts
  have bb := Oct.Has.bound h.back
  have bl := Oct.Has.bound h.row
  have c1 := Oct.Has.at_ h.kept 0
  have f1 := Oct.Has.free h.kept 0
  have c2 := Oct.Has.at_ h.row 0
  simp at c1 c2
  have HR0 := Lib.hid (show RdMid w kp np sp bp q s (asked B (xs.take 0)) (w.setCell ⟨kp, 0, none⟩ (.pointer (some ⟨q, 0, none⟩))) from
    ⟨rfl, ⟨Oct.Has.put h.kept 0 _, ⟨_, Oct.Has.keep h.nums (p := ⟨kp, 0, none⟩) h.d1.2.1.symm _, World.ownsRow_nil _ _ _ _⟩, ⟨_, Oct.Has.keep h.txts (p := ⟨kp, 0, none⟩) h.d1.2.2.1.symm _, World.ownsRow_nil _ _ _ _⟩, Oct.Has.keep h.back (p := ⟨kp, 0, none⟩) h.d1.2.2.2.1.symm _, (Chg.refl _ w).setCell (p := ⟨kp, 0, none⟩) (.inl (.inr (.inl rfl))) _⟩,
      ⟨Oct.Has.keep hl.eye (p := ⟨kp, 0, none⟩) h.d1.2.2.2.2.1.symm _, Oct.Has.keep hl.sight (p := ⟨kp, 0, none⟩) h.d1.2.2.2.2.2.symm _⟩⟩)
  have k2 : (w.setCell ⟨kp, 0, none⟩ (.pointer (some ⟨q, 0, none⟩))).cell? ⟨lp, 0, none⟩ = some (.slice A n c) := by
    have := Oct.Has.at_ (Oct.Has.keep h.row (p := ⟨kp, 0, none⟩) h.d1.1.symm (.pointer (some ⟨q, 0, none⟩))) 0
    simpa using this
  obtain ⟨i0, hi, hz0, hz1, hz2⟩ := info_parts info_i
  have HI := Lib.hid (And.intro hi (And.intro hz0 (And.intro hz1 hz2)))
  clear hi hz0 hz1 hz2
  obtain ⟨j0, hi, hz0, hz1, hz2⟩ := info_parts info_s
  have HJ := Lib.hid (And.intro hi (And.intro hz0 (And.intro hz1 hz2)))
  clear hi hz0 hz1 hz2
  clear h hl hn
  go_enter Try.func8, Try.ntmps8
  go_wp2
  go_loopw [14] (fun i wr => ∃ j : Nat, j ≤ n ∧ i = .int .i64 j ∧ Hid (RdMid w kp np sp bp q s (asked B (xs.take j)) wr)) (fun i _ => n - (intOf i).toNat)
  case atStart => exact ⟨0, Nat.zero_le _, rfl, HR0⟩
  case round =>
    obtain ⟨j, hj, rfl, HM⟩ := hrel
    clear HR0 k2 c1 f1 c2
    by_cases hlt : j < n
    · obtain ⟨st, hst⟩ : ∃ st, asked B (xs.take j) = st := ⟨_, rfl⟩
      rw [hst] at HM
      have HST := Lib.hid hst
      obtain ⟨hw0, hi, hl⟩ := HM.out
      have HW0 := Lib.hid hw0
      have HX1 := look_chg HH.out.looks hi.chg (HH.out.apart (by omega))
      have hjx : j < xs.length := by rw [HX1.1]; exact hlt
      have HJX := Lib.hid hjx
      have hlen := asked_len B xs j (by omega)
      rw [hst] at hlen
      have hnn := HN.out
      have HLEN := Lib.hid (show st.nums.length + st.txts.length ≤ 1000 by omega)
      obtain ⟨b, off, rfl, hbl, hcl⟩ := HX1.2 (by omega)
      obtain ⟨c1, c2⟩ := hcl j hjx
      obtain ⟨op, hop⟩ : ∃ op, xs[j].1 = op := ⟨_, rfl⟩
      obtain ⟨m, hmm⟩ : ∃ m, xs[j].2 = m := ⟨_, rfl⟩
      replace c1 := c1.trans (congrArg (fun z => some (Value.int .i64 z)) hop)
      replace c2 := c2.trans (congrArg (fun z => some (Value.int .i64 z)) hmm)
      obtain ⟨g, hg⟩ : ∃ g, ask st.rest op m = g := ⟨_, rfl⟩
      have HASK := Lib.hid (show ask st.rest xs[j].1 xs[j].2 = g by rw [hop, hmm]; exact hg)
      have HIS := Lib.hid hi
      have hsz := hi.chg.size
      have hd := HH.out.d5.2.2
      have HD := Lib.hid (fun c (W : World) (hW : W = ((wr.alloc (.cells #[.int .i64 op, .int .i64 m] 37)).alloc (.cells #[.int .i64 op, .int .i64 m] 37))) => looks_one q s hd st.rest op m g hg (wr.heap.size + 1) 0 1 c rfl W (by rw [hW]; exact looks_past (looks_past hl _) _) (by rw [hW]; simp) (by omega) (by
        rw [hW]
        have := Oct.Has.fresh (wr.alloc (.cells #[.int .i64 op, .int .i64 m] 37)) 37 #[.int .i64 op, .int .i64 m]
        rw [World.size_alloc] at this
        exact ⟨Oct.Has.at_ this 0, Oct.Has.at_ this 1⟩))
      clear hcl HX1 hw0 hi hl hst hop hmm hg hlen hd HM
      have HS4 := Lib.hid (show kp ≠ s ∧ np ≠ s ∧ sp ≠ s ∧ bp ≠ s from ⟨HH.out.d1.2.2.2.2.2, HH.out.d3.2.2.2, HH.out.d4.2.2, HH.out.d5.2.1⟩)
      have HQS := Lib.hid (And.intro bq bs)
      have HLT := Lib.hid hlt
      go_wp2_with fail
      refine (HD.out 1 _ rfl).mono ?_
      rintro e w2 hd
      clear HD
      cases g with
      | bad r y =>
        obtain ⟨rfl, hs2, hc2⟩ := hd
        have HE := Lib.hid (rd_bad HJX.out HST.out HW0.out HASK.out (rdis_step HIS.out hc2 HS4.out.1 HS4.out.2.1 HS4.out.2.2.1 HS4.out.2.2.2 HQS.out.2) hs2)
        clear hs2 hc2
        go_wp2
        show _ ∧ _
        exact ⟨rfl, HE.out⟩
      | num x r =>
        obtain ⟨u', v', rfl, ho, rfl, hl2, hc2⟩ := hd
        obtain ⟨g1, cap1, rfl, hce⟩ := own_one ho
        have HI2 := Lib.hid (rdis_step HIS.out hc2 HS4.out.1 HS4.out.2.1 HS4.out.2.2.1 HS4.out.2.2.2 HQS.out.2)
        have HL2 := Lib.hid hl2
        obtain ⟨⟨u, n1, n2⟩, ⟨v, t1, t2⟩⟩ := And.intro HI2.out.nums HI2.out.txts
        obtain ⟨A1, cu, rfl⟩ := own_sl n2
        obtain ⟨A2, cv, rfl⟩ := own_sl t2
        have HN1 := Lib.hid n1
        have HT1 := Lib.hid t1
        have HN2 := Lib.hid n2
        have HT2 := Lib.hid t2
        have HDN := Lib.hid HH.out.d3.1
        have e1 := Oct.Has.at_ n1 0
        have e2 := Oct.Has.at_ t1 0
        have g1' := Oct.Has.free n1 0
        have g2' := Oct.Has.free t1 0
        simp at e1 e2
        have hsz2 : w.heap.size ≤ w2.heap.size := HI2.out.chg.size
        have HCE := Lib.hid (show ∀ j z, [(.int .i64 x : Value)][j]? = some z → w2.drew.cell? ((⟨g1, 0, none⟩ : Addr).add j) = some z from hce)
        have H1 := Lib.hid (show ∀ z ∈ [(.int .i64 x : Value)], z.oneCell' = true by intro z hz; rw [List.mem_singleton.1 hz]; rfl)
        have H2 := Lib.hid (show st.nums.length + 1 ≤ maxLen by have := HLEN.out; unfold maxLen; omega)
        have H3 := Lib.hid (show (st.nums.length + 1) * 8 ≤ 140737488355328 by have := HLEN.out; omega)
        have H4 := Lib.hid (show w.heap.size ≤ w2.drew.heap.size from hsz2)
        have HA3 := Lib.hid (asked_num HJX.out HST.out HW0.out HASK.out)
        clear n1 t1 n2 t2 hl2 hc2 ho hce
        go_wp2
        go_region_law ((first | (have hq := HO5.out; clear hq; refine step_append_none (by rfl) (.tmp 28) (.tmp 29) 30 (by rfl) w.heap.size 9 j0 1 Try.underlying30 HJ.out.1 (.slice A2 st.txts.length cv) st.txts.length (st.txts.map Value.string) (by rfl) HO5.out (by rfl) ?_) | (refine step_append_lies _ (by rfl) (.tmp 25) (.tmp 26) 29 (by rfl) w.heap.size 3 i0 (.int .i64 0) 1 8 Try.underlying29 HI.out.1 HI.out.2.1 HI.out.2.2.1 HI.out.2.2.2 rfl (by decide) (.slice A1 st.nums.length cu) st.nums.length (st.nums.map (Value.int .i64)) (by rfl) (World.ownsRow.drew HN2.out) ⟨g1, 0, none⟩ 1 cap1 [.int .i64 x] (by rfl) rfl HCE.out H1.out (by decide) H2.out H3.out H4.out _ rfl ?_; intro g5 cap5 w5 o5 b5 at5 lt5; have H5 := Lib.hid (And.intro o5 b5); have far : ∀ k, k < w.heap.size → some k = ((.slice A1 st.nums.length cu) : Value).ownBlock → False := (fun k hk e => by have := (World.ownsRow.lt HN2.out k e.symm).1; omega); have n5 := has_grown HN1.out.drew b5 (far _ (by omega)); have t5 := has_grown HT1.out.drew b5 (far _ (by omega)); have HO5 := Lib.hid (World.ownsRow.kept (World.ownsRow.drew HT2.out) b5 (rows_apart HT2.out HN2.out (by decide))); have i1 := Oct.Has.at_ n5 0; have i2 := Oct.Has.at_ t5 0; have j1 := Oct.Has.free n5 0; have j2 := Oct.Has.free t5 0; simp at i1 i2; have k1 := Oct.Has.at_ (Oct.Has.keep t5 (p := ⟨np, 0, none⟩) HDN.out.symm (.slice (some ⟨g5, 0, none⟩) (st.nums.length + 1) cap5)) 0; have k2 := Oct.Has.free (Oct.Has.keep t5 (p := ⟨np, 0, none⟩) HDN.out.symm (.slice (some ⟨g5, 0, none⟩) (st.nums.length + 1) cap5)) 0; simp at k1; clear o5 b5 at5 lt5 far n5 t5)))
        all_goals
          go_wp2
          go_roundw
          case rel => exact ⟨j + 1, HLT.out, by go_num, Lib.hid (by rw [HA3.out]; exact rd_num HH.out (Nat.le_refl _) HQS.out.1 HQS.out.2 HI2.out HN1.out HT1.out HN2.out HT2.out HL2.out H5.out.1 H5.out.2)⟩
          case measure => have := HLT.out; simp [intOf]; omega
      | txt x r =>
        obtain ⟨u', v', rfl, rfl, ho, hl2, hc2⟩ := hd
        obtain ⟨g1, cap1, rfl, hce⟩ := own_onet ho
        have HI2 := Lib.hid (rdis_step HIS.out hc2 HS4.out.1 HS4.out.2.1 HS4.out.2.2.1 HS4.out.2.2.2 HQS.out.2)
        have HL2 := Lib.hid hl2
        obtain ⟨⟨u, n1, n2⟩, ⟨v, t1, t2⟩⟩ := And.intro HI2.out.nums HI2.out.txts
        obtain ⟨A1, cu, rfl⟩ := own_sl n2
        obtain ⟨A2, cv, rfl⟩ := own_sl t2
        have HN1 := Lib.hid n1
        have HT1 := Lib.hid t1
        have HN2 := Lib.hid n2
        have HT2 := Lib.hid t2
        have HDN := Lib.hid HH.out.d3.1
        have e1 := Oct.Has.at_ n1 0
        have e2 := Oct.Has.at_ t1 0
        have g1' := Oct.Has.free n1 0
        have g2' := Oct.Has.free t1 0
        simp at e1 e2
        have hsz2 : w.heap.size ≤ w2.heap.size := HI2.out.chg.size
        have HCE := Lib.hid (show ∀ j z, [(.string x : Value)][j]? = some z → w2.drew.cell? ((⟨g1, 0, none⟩ : Addr).add j) = some z from hce)
        have H1 := Lib.hid (show ∀ z ∈ [(.string x : Value)], z.oneCell' = true by intro z hz; rw [List.mem_singleton.1 hz]; rfl)
        have H2 := Lib.hid (show st.txts.length + 1 ≤ maxLen by have := HLEN.out; unfold maxLen; omega)
        have H3 := Lib.hid (show (st.txts.length + 1) * 16 ≤ 140737488355328 by have := HLEN.out; omega)
        have H4 := Lib.hid (show w.heap.size ≤ w2.drew.heap.size from hsz2)
        have HA3 := Lib.hid (asked_txt HJX.out HST.out HW0.out HASK.out)
        clear n1 t1 n2 t2 hl2 hc2 ho hce
        go_wp2
        go_region_law ((first | (refine step_append_none (by rfl) (.tmp 25) (.tmp 26) 29 (by rfl) w.heap.size 3 i0 1 Try.underlying29 HI.out.1 (.slice A1 st.nums.length cu) st.nums.length (st.nums.map (Value.int .i64)) (by rfl) (World.ownsRow.drew HN2.out) (by rfl) ?_) | (refine step_append_lies _ (by rfl) (.tmp 28) (.tmp 29) 30 (by rfl) w.heap.size 9 j0 (.string ⟨#[]⟩) 1 16 Try.underlying30 HJ.out.1 HJ.out.2.1 HJ.out.2.2.1 HJ.out.2.2.2 rfl (by decide) (.slice A2 st.txts.length cv) st.txts.length (st.txts.map Value.string) (by rfl) (World.ownsRow.drew HT2.out) ⟨g1, 0, none⟩ 1 cap1 [.string x] (by rfl) rfl HCE.out H1.out (by decide) H2.out H3.out H4.out _ rfl ?_; intro g5 cap5 w5 o5 b5 at5 lt5; have H5 := Lib.hid (And.intro o5 b5); have far : ∀ k, k < w.heap.size → some k = ((.slice A2 st.txts.length cv) : Value).ownBlock → False := (fun k hk e => by have := (World.ownsRow.lt HT2.out k e.symm).1; omega); have n5 := has_grown HN1.out.drew b5 (far _ (by omega)); have t5 := has_grown HT1.out.drew b5 (far _ (by omega)); have HO5 := Lib.hid (World.ownsRow.kept (World.ownsRow.drew HN2.out) b5 (rows_apart HN2.out HT2.out (by decide))); have i1 := Oct.Has.at_ n5 0; have i2 := Oct.Has.at_ t5 0; have j1 := Oct.Has.free n5 0; have j2 := Oct.Has.free t5 0; simp at i1 i2; have k1 := Oct.Has.at_ (Oct.Has.keep t5 (p := ⟨np, 0, none⟩) HDN.out.symm (.slice A1 st.nums.length cu)) 0; have k2 := Oct.Has.free (Oct.Has.keep t5 (p := ⟨np, 0, none⟩) HDN.out.symm (.slice A1 st.nums.length cu)) 0; simp at k1; clear o5 b5 at5 lt5 far n5 t5)))
        all_goals
          go_wp2
          go_roundw
          case rel => exact ⟨j + 1, HLT.out, by go_num, Lib.hid (by rw [HA3.out]; exact rd_txt HH.out (Nat.le_refl _) HQS.out.1 HQS.out.2 HI2.out HN1.out HT1.out HN2.out HT2.out HL2.out H5.out.1 H5.out.2)⟩
          case measure => have := HLT.out; simp [intOf]; omega
      | still r =>
        obtain ⟨u', v', rfl, rfl, rfl, hl2, hc2⟩ := hd
        have HI2 := Lib.hid (rdis_step HIS.out hc2 HS4.out.1 HS4.out.2.1 HS4.out.2.2.1 HS4.out.2.2.2 HQS.out.2)
        have HL2 := Lib.hid hl2
        obtain ⟨⟨u, n1, n2⟩, ⟨v, t1, t2⟩⟩ := And.intro HI2.out.nums HI2.out.txts
        obtain ⟨A1, cu, rfl⟩ := own_sl n2
        obtain ⟨A2, cv, rfl⟩ := own_sl t2
        have HN1 := Lib.hid n1
        have HT1 := Lib.hid t1
        have HN2 := Lib.hid n2
        have HT2 := Lib.hid t2
        have HDN := Lib.hid HH.out.d3.1
        have e1 := Oct.Has.at_ n1 0
        have e2 := Oct.Has.at_ t1 0
        have g1' := Oct.Has.free n1 0
        have g2' := Oct.Has.free t1 0
        simp at e1 e2
        have hsz2 : w.heap.size ≤ w2.heap.size := HI2.out.chg.size
        have k1 := Oct.Has.at_ (Oct.Has.keep t1 (p := ⟨np, 0, none⟩) HDN.out.symm (.slice A1 st.nums.length cu)) 0
        have k2 := Oct.Has.free (Oct.Has.keep t1 (p := ⟨np, 0, none⟩) HDN.out.symm (.slice A1 st.nums.length cu)) 0
        simp at k1
        have HA3 := Lib.hid (asked_still HJX.out HST.out HW0.out HASK.out)
        have HE := Lib.hid (show RdMid w kp np sp bp q s ⟨st.nums, st.txts, r, none⟩ ((w2.drew.setCell ⟨np, 0, none⟩ (.slice A1 st.nums.length cu)).setCell ⟨sp, 0, none⟩ (.slice A2 st.txts.length cv)) from rd_mid HH.out (Nat.le_refl _) rfl HI2.out.kept.drew n1.drew t1.drew HI2.out.back.drew HI2.out.chg.drew ⟨hl2.eye.drew, Oct.Has.drew hl2.sight⟩ (World.ownsRow.drew n2) (World.ownsRow.drew t2))
        clear n1 t1 n2 t2 hl2 hc2
        go_wp2
        go_region_law ((first | (refine step_append_none (by rfl) (.tmp 25) (.tmp 26) 29 (by rfl) w.heap.size 3 i0 1 Try.underlying29 HI.out.1 (.slice A1 st.nums.length cu) st.nums.length (st.nums.map (Value.int .i64)) (by rfl) (World.ownsRow.drew HN2.out) (by rfl) ?_) | (refine step_append_none (by rfl) (.tmp 28) (.tmp 29) 30 (by rfl) w.heap.size 9 j0 1 Try.underlying30 HJ.out.1 (.slice A2 st.txts.length cv) st.txts.length (st.txts.map Value.string) (by rfl) (World.ownsRow.drew HT2.out) (by rfl) ?_)))
        all_goals
          go_wp2
          go_roundw
          case rel => exact ⟨j + 1, HLT.out, by go_num, Lib.hid (by rw [HA3.out]; exact HE.out)⟩
          case measure => have := HLT.out; simp [intOf]; omega
    · obtain rfl : j = n := by omega
      have hfull : xs.take j = xs := List.take_of_length_le (by rw [HH.out.looks.1]; exact Nat.le_refl _)
      rw [hfull] at HM
      obtain ⟨hw0, hi, hl⟩ := HM.out
      have HW0 := Lib.hid hw0
      have cb := Oct.Has.at_ hi.back 0
      have fb := Oct.Has.free hi.back 0
      simp at cb
      obtain ⟨⟨u, n1, n2⟩, ⟨v, t1, t2⟩⟩ := And.intro hi.nums hi.txts
      have d1 := HH.out.d1
      have d3 := HH.out.d3
      have d4 := HH.out.d4
      have d5 := HH.out.d5
      have HE := Lib.hid (show RdEnd w kp np sp bp q s (asked B xs) (.returned (.tuple #[])) (wr.setCell ⟨bp, 0, none⟩ (.bool true)) from rd_end HW0.out
        ⟨Oct.Has.keep hi.kept (p := ⟨bp, 0, none⟩) d1.2.2.2.1 _, ⟨u, Oct.Has.keep n1 (p := ⟨bp, 0, none⟩) d3.2.1 _, own_chg n2 ((Chg.refl (· = bp) wr).setCell (p := ⟨bp, 0, none⟩) (.inl rfl) (.bool true)) (fun k hk => by omega)⟩, ⟨v, Oct.Has.keep t1 (p := ⟨bp, 0, none⟩) d4.1 _, own_chg t2 ((Chg.refl (· = bp) wr).setCell (p := ⟨bp, 0, none⟩) (.inl rfl) (.bool true)) (fun k hk => by omega)⟩, Oct.Has.put hi.back 0 _, hi.chg.setCell (p := ⟨bp, 0, none⟩) (.inl (.inr (.inr (.inr (.inr rfl))))) _⟩
        ⟨Oct.Has.keep hl.eye (p := ⟨bp, 0, none⟩) d5.1.symm _, Oct.Has.keep hl.sight (p := ⟨bp, 0, none⟩) d5.2.1.symm _⟩)
      clear hw0 hi hl n1 n2 t1 t2 d1 d3 d4 d5 HM
      go_wp2
      go_end0
      exact HE.out
end Go.Proofs.Ytancbkmgbhigpaa.Vc
