/- Join: keep. -/
import Derived.Test.YtblogecapegbmaaGreatJkE
namespace Go.Proofs.YtblogecapegbmaaGreat.Jn
open Go.RowKit Go.Proofs.YtblogecapegbmaaGreat.Mem Go.Sort
open Go.Proofs.YtblogecapegbmaaGreat.Vc (joinV meetV vecC stC)
set_option linter.unusedVariables false set_option linter.unusedSimpArgs false

def intC (n : Nat) : Array Value := #[.int .i64 (n : Int)]
theorem kdI : KdOk Tryz.prog 3 63 1 8 intC (fun n => .int .i64 (n : Int)) (.int .i64 0) := by
  refine ⟨Tryz.underlying63, ?_, rfl, fun _ => rfl, by decide, by decide, fun x => by simp [intC, Value.oneCell'], fun e => by kernel_rfl⟩
  have h : (Tryz.prog.info? 3).map (fun i => (i.zero, i.size, i.bytes)) = some (some (.int .i64 0), 1, 8) := by kernel_rfl
  cases hh : Tryz.prog.info? 3 with
  | none => rw [hh] at h; cases h
  | some i => rw [hh] at h; simp at h; exact ⟨i, rfl, h⟩
/-- One number more behind a long row. -/
theorem wpl_oneL {ops : Array Oper} {rest : List Oper} {o : Oper} {a : Act} {Q : Exit → Act → World → Prop} (s x : Operand) (hgd : o.guard = none)
    (ho : o.op = .call { callee := .builtin .append, args := #[s, x], argTypes := #[63, 63] }) {B : Nat} {u : Value} {es : List Nat} {wc : World} {e : Nat}
    (h : ((a.eval s = u ∧ (∃ g : Nat, a.eval x = .slice (some ⟨g, 0, none⟩) 1 1 ∧ g = wc.heap.size)) ∧ OwnK wc B 3 1 intC u es ∧ B ≤ wc.heap.size ∧ es.length ≤ 100000000) ∧
      ∀ u' w', GrewK B wc w' 3 1 intC u u' es [e] → wpList Tryz.prog ops Q rest (a.put o.dst u') w') :
    wpList Tryz.prog ops Q (o :: rest) a (wc.alloc (.cells (intC e) 3)) := by
  obtain ⟨⟨⟨h1, g0, h2, rfl⟩, h3, h4, h5⟩, hk⟩ := h
  have K := kdI
  obtain ⟨i0, hi, hz0, hz1, hz2⟩ := K.hi
  refine wpList_append_lies _ hgd s x 63 ho B 3 i0 (.int .i64 0) 1 8 K.hS hi hz0 hz1 hz2 K.hZ K.k0 u es.length (flatC intC es) h1 (World.ownsRow.alloc h3 _) ⟨wc.heap.size, 0, none⟩ 1 1 (intC e).toList h2 (by simp [K.hk]) ?_ ?_ (by decide) (by unfold maxLen; omega) (by omega) (by simp; omega) _ rfl ?_
  · exact World.news_of_block (Has.fresh wc 3 (intC e))
  · exact fun u hu => (Array.all_eq_true_iff_forall_mem.1 (K.one e)) u (by simpa using hu)
  · intro g cap w' hg hgr hor hlt
    refine hk _ _ ⟨?_, ?_, ?_, ⟨_, _, rfl⟩⟩
    · unfold OwnK
      rw [List.length_append, flatC_app]
      simpa [flatC] using hg
    · exact ((Below.refl B wc).alloc h4 _).grown hgr (by simp; omega) (fun q hq => ((World.ownsRow.lt h3) q hq).1)
    · have c : Chg (fun q => u.ownBlock = some q) (wc.alloc (.cells (intC e) 3)) w' := ⟨hgr.os, hgr.tape, hgr.output, hgr.size, fun q hq hn => hgr.block q hq (fun e => hn e.symm)⟩
      exact ((Chg.refl _ wc).alloc _).trans c
theorem own_kmap {α : Type} {w w' : World} {B b : Nat} {E : TypeId} {k : Nat} {C : α → Array Value} {v : Value} {xs : List α} {m : Int × Int → Option Value} (h : OwnK w B E k C v xs) (hm : KMap stK w b m) (hc : Chg (· = b) w w') : OwnK w' B E k C v xs := by
  refine World.ownsRow.kept h (row := some b) ⟨hc.os, hc.tape, hc.output, hc.size, fun q hq hn => hc.block q hq (fun e => hn (by rw [e]))⟩ ?_
  rcases h.2 with ⟨rfl, _⟩ | ⟨g2, cap2, cur2, rfl, _, hw2, _⟩
  · exact .inl rfl
  · refine .inr fun e => ?_
    have e2 : g2 = b := by simpa [Value.ownBlock] using e
    subst e2
    obtain ⟨es, c, h1, _⟩ := hm
    rw [h1] at hw2
    injection hw2 with hw2
    cases hw2
theorem own_apart_has {α : Type} {w : World} {B g : Nat} {E T : TypeId} {k : Nat} {C : α → Array Value} {v : Value} {xs : List α} {cs : Array Value} (h : OwnK w B E k C v xs) (hx : Has w g T cs) (hne : T ≠ E) : v.ownBlock ≠ some g := by
  rcases h.2 with ⟨rfl, _⟩ | ⟨g2, cap2, cur2, rfl, _, hw2, _⟩
  · intro e; cases e
  · intro e
    have e2 : g2 = g := by simpa [Value.ownBlock] using e
    subst e2
    unfold Has at hx
    rw [hx] at hw2
    cases hw2
    exact hne rfl
theorem own_first (w : World) (p : Nat) : OwnK (w.alloc (.cells (intC p) 3)) w.heap.size 3 1 intC (.slice (some ⟨w.heap.size, 0, none⟩) 1 1) [p] := by
  refine ⟨by simp [flatC, intC], .inr ⟨w.heap.size, 1, intC p, rfl, Nat.le_refl _, Array.getElem?_push_size, Nat.le_refl _, by decide, rfl, by simp [flatC, intC]⟩⟩
theorem own_pop {w : World} {B g n c : Nat} {xs : List Nat} {x : Nat} (hn : n = xs.length) (h : OwnK w B 3 1 intC (.slice (some ⟨g, 0, none⟩) (n + 1) c) (xs ++ [x])) : OwnK w B 3 1 intC (.slice (some ⟨g, 0, none⟩) n c) xs ∧ w.cell? ⟨g, n, none⟩ = some (.int .i64 (x : Int)) ∧ n < c := by
  subst hn
  have hr := OwnK.srow (C := intC) (k := 1) (fun _ => rfl) h
  rcases h.2 with ⟨e, z⟩ | ⟨g2, cap, cur, e, hB, hw, hn, hm, hs, ht⟩
  · cases e
  · injection e with e1 e2 e3
    injection e1 with e1
    injection e1 with e1 _ _
    subst e1 e3
    rw [List.length_append, List.length_singleton] at hn
    refine ⟨⟨by rw [flatC_len (C := intC) (k := 1) (fun _ => rfl)], .inr ⟨g, c, cur, rfl, hB, hw, by omega, hm, hs, ?_⟩⟩, ?_, by omega⟩
    · have e2 := congrArg (List.take (xs.length * 1)) ht
      rw [List.take_take, flatC_app, List.take_append_of_le_length (by rw [flatC_len (C := intC) (k := 1) (fun _ => rfl)]; omega)] at e2
      rw [Nat.min_eq_left (by rw [List.length_append]; omega)] at e2
      rw [e2]
      exact List.take_of_length_le (by rw [flatC_len (C := intC) (k := 1) (fun _ => rfl)]; omega)
    · obtain ⟨b, off, e, _, hx⟩ := hr.cells (by simp)
      cases e
      have q := hx xs.length (by simp) 0 (.int .i64 (x : Int)) (by simp [intC])
      simpa using q
/-- How many are not marked. -/
def unF (ss : List Bool) : Nat := (ss.filter (!·)).length
def isF : Value → Bool
  | .bool false => true
  | _ => false
def unm (w : World) (sb : Nat) : Nat := match w.heap[sb]? with
  | some (.cells cs _) => (cs.toList.filter isF).length
  | _ => 0
theorem unm_is {w : World} {sb : Nat} {t : TypeId} {ss : List Bool} (h : Has w sb t (boolsA ss)) : unm w sb = unF ss := by
  have h' : w.heap[sb]? = some (.cells (boolsA ss) t) := h
  unfold unm unF
  rw [h']
  simp only [boolsA, List.toList_toArray]
  rw [List.filter_map, List.length_map]
  refine congrArg List.length (List.filter_congr fun b _ => ?_)
  cases b <;> rfl
theorem unF_set : ∀ (ss : List Bool) (i : Nat), ss[i]? = some false → unF (ss.set i true) + 1 = unF ss
  | [], i, h => by simp at h
  | b :: r, 0, h => by
    simp at h
    subst h
    simp [unF]
  | b :: r, i + 1, h => by
    have ih := unF_set r i (by simpa using h)
    unfold unF at ih ⊢
    rw [List.set_cons_succ, List.filter_cons, List.filter_cons]
    split
    · simp only [List.length_cons]; omega
    · exact ih
def slLen : Value → Nat
  | .slice _ n _ => n
  | _ => 0
theorem slLen_is (A : Option Addr) (n c : Nat) : slLen (.slice A n c) = n := rfl
/-- What keep keeps. -/
structure KpI (w W wr : World) (s : Fc.StateC) (known : Nat → Int) (g mb bb sb : Nat) (v : Value) (wk : List Nat) (ss : List Bool) (m : Int × Int → Option Value) : Prop where
  pr : PrI w wr s known g mb bb sb (befJ s.links s.n2) ss m
  row : OwnK wr W.heap.size 3 1 intC v wk
  le : W.heap.size ≤ wr.heap.size
  ls : w.heap.size ≤ W.heap.size
  lg : g < W.heap.size ∧ mb < W.heap.size ∧ bb < W.heap.size ∧ sb < W.heap.size
section
variable {w W wr w2 : World} {s : Fc.StateC} {known : Nat → Int} {g mb bb sb : Nat} {v v' : Value} {wk wk' : List Nat} {ss ss' : List Bool} {m m' : Int × Int → Option Value} {bs : List Nat}
theorem PrI.far {B : Nat} (h : PrI w wr s known g mb bb sb bs ss m) (hB : w.heap.size ≤ B) (hl : g < B ∧ mb < B ∧ bb < B ∧ sb < B) (hb : Below B wr w2) : PrI w w2 s known g mb bb sb bs ss m := by
  obtain ⟨es, c, h1, h2⟩ := h.hm
  exact ⟨h.below.trans (hb.mono hB), (hb.block g hl.1).trans h.hp, (hb.block bb hl.2.2.1).trans h.hb, (hb.block sb hl.2.2.2).trans h.hs, ⟨es, c, (hb.block mb hl.2.1).trans h1, h2⟩, h.si, h.ag, h.am, h.ab, h.as_⟩
theorem KpI.low (h : KpI w W wr s known g mb bb sb v wk ss m) (hb : Below wr.heap.size wr w2) : KpI w W w2 s known g mb bb sb v wk ss m := ⟨h.pr.low hb, h.row.below hb, Nat.le_trans h.le hb.size, h.ls, h.lg⟩
theorem KpI.pop (h : KpI w W wr s known g mb bb sb v wk ss m) (ho : OwnK wr W.heap.size 3 1 intC v' wk') : KpI w W wr s known g mb bb sb v' wk' ss m := ⟨h.pr, ho, h.le, h.ls, h.lg⟩
theorem KpI.grew {ys : List Nat} (h : KpI w W wr s known g mb bb sb v wk ss m) (hg : GrewK W.heap.size wr w2 3 1 intC v v' wk ys) : KpI w W w2 s known g mb bb sb v' (wk ++ ys) ss m := ⟨h.pr.far h.ls h.lg hg.below, hg.row, Nat.le_trans h.le hg.below.size, h.ls, h.lg⟩
theorem KpI.sets (h : KpI w W wr s known g mb bb sb v wk ss m) (hx : Has w2 sb 4 (boolsA ss')) (hc : Chg (· = sb) wr w2) : KpI w W w2 s known g mb bb sb v wk ss' m := ⟨h.pr.sets hx hc, own_has h.row h.pr.hs hc (by decide), Nat.le_trans h.le hc.size, h.ls, h.lg⟩
theorem KpI.upd (h : KpI w W wr s known g mb bb sb v wk ss m) (hx : KMap stK w2 mb m') (hc : Chg (· = mb) wr w2) : KpI w W w2 s known g mb bb sb v wk ss m' := ⟨h.pr.upd hx hc, own_kmap h.row h.pr.hm hc, Nat.le_trans h.le hc.size, h.ls, h.lg⟩
end
theorem step_delete {ops : Array Oper} {o : Oper} {a : Act} {w : World} {K : Act → World → Prop} {Q : Exit → Act → World → Prop} {EE : Prop} (b : Nat) (m : Int × Int → Option Value) (z : Int × Int) (x y : Operand) (ho : o.op = .call { callee := .builtin .delete, args := #[x, y], argTypes := #[98, 37] })
    (h : (Region.wanted o (yielded ops a.tmps) = true ∧ o.dst = none ∧ a.eval x = .map (some b) ∧ a.eval y = stK z ∧ KMap stK w b m) ∧ ∀ W', Hid (KMap stK W' b (fun q => if q = z then none else m q)) → Hid (Chg (· = b) w W') → K a W') : if Region.wanted o (yielded ops a.tmps) = true then Oper.wp Tryz.prog o a w K Q else EE := by
  obtain ⟨⟨h1, h0, e1, e2, e4⟩, h2⟩ := h
  rw [if_pos h1]
  obtain ⟨w2, hr, hk, hc, _⟩ := KMap.delete Tryz.underlying98 stKeys e4 z
  have hr := hr o.type
  unfold Oper.wp
  have q := h2 _ (Lib.hid hk) (Lib.hid hc)
  simp [execOp, ho, resolve, invoke, builtin, e1, e2, hr, Result.andThen]
  show K (a.put o.dst (.tuple #[])) w2
  rw [h0]
  exact q
theorem par_range {w : World} {b o : Nat} {l : Fc.LinkP} (h : w.rangeAt b o (Fc.linkC l).toList) : w.rangeAt b (o + 6) (#[.int .i64 l.par.1, .int .i64 l.par.2] : Array Value).toList := fun j v hv => by
  have hj : j < 2 := (List.getElem?_eq_some_iff.1 hv).1
  have q := h (6 + j) v (by
    rw [← hv]
    match j, hj with
    | 0, _ | 1, _ => rfl)
  rw [show o + 6 + j = o + (6 + j) from Nat.add_assoc _ _ _]
  exact q
/-- How long the work is at most. -/
structure Room (n : Nat) (ss : List Bool) (k : Nat) : Prop where
  room : k + unF ss * n ≤ n * n + 1
theorem Room.few {n k : Nat} {ss : List Bool} (h : Room n ss k) (hn : n ≤ 4800) : k ≤ 100000000 := by
  have := h.room
  have : n * n ≤ 4800 * 4800 := Nat.mul_le_mul hn hn
  omega
set_option maxRecDepth 100000 in
set_option maxHeartbeats 16000000 in
theorem keepA (s : Fc.StateC) (known : Nat → Int) (root : Fc.LinkP → Bool) (g mb bb sb p : Nat) (ss : List Bool) (m : Int × Int → Option Value) (w W : World) (hI : PrI w W s known g mb bb sb (befJ s.links s.n2) ss m) (hw : Work root s.links ss [] m) (hn : s.n2 ≤ 4800) (hp : p < s.links.length) (hr : Keep root s.links s.links[p]) :
    Calls Tryz.prog 63 #[.pointer (some ⟨g, 0, none⟩), .int .i64 ((p + 1 : Nat) : Int)] W fun e W' => e = .returned (.tuple #[]) ∧ ∃ (ss' : List Bool) (m' : Int × Int → Option Value), PrI w W' s known g mb bb sb (befJ s.links s.n2) ss' m' ∧ Work root s.links ss' [] m' ∧ (∀ i : Nat, ss[i]? = some true → ss'[i]? = some true) ∧ ss'[p]? = some true := by
  have HLN := Lib.hid (show s.links.length = s.n2 from hI.si.links.row.len)
  have HN := Lib.hid hn
  have H0 := Lib.hid (show KpI w W (W.alloc (.cells (intC (p + 1)) 3)) s known g mb bb sb (.slice (some ⟨W.heap.size, 0, none⟩) 1 1) [p + 1] ss m from ⟨hI.low ((Below.refl _ W).alloc (Nat.le_refl _) _), own_first W (p + 1), by simp, hI.below.size, hI.hp.bound, hI.hm.bound, hI.hb.bound, hI.hs.bound⟩)
  have HW0 := Lib.hid (show Work root s.links ss [p + 1] m from hw.push (Nat.succ_le_succ (Nat.zero_le _)) hp fun _ => hr)
  have HR0 := Lib.hid (show Room s.n2 ss 1 from ⟨by
    have h1 : unF ss ≤ s.n2 := by
      have h2 : unF ss ≤ ss.length := List.length_filter_le _ _
      rw [hw.len, HLN.out] at h2
      exact h2
    have := Nat.mul_le_mul_right s.n2 h1
    omega⟩)
  clear hI hw hn hp hr
  go_enter Tryz.func63, Tryz.ntmps63
  go_wp2_with (first | ((with_reducible refine wpl_build1 kdI (.tmp 8) rfl (p + 1) ?_); refine And.intro ⟨rfl, by rfl⟩ ?_; (try simp only [Act.put, List.setIfInBounds_toArray, List.set_cons_zero, List.set_cons_succ])) | fail)
  go_loopw [4] (fun v wr => Hid (∃ wk ss1 m1, KpI w W wr s known g mb bb sb v wk ss1 m1 ∧ Work root s.links ss1 wk m1 ∧ Room s.n2 ss1 wk.length ∧ (∀ i : Nat, ss[i]? = some true → ss1[i]? = some true) ∧ (ss1[p]? = some true ∨ p + 1 ∈ wk))) (fun v wr => unm wr sb * (s.n2 + 2) + slLen v)
  case atStart => exact Lib.hid ⟨_, _, _, H0.out, HW0.out, HR0.out, fun _ h => h, .inr (by simp)⟩
  case round =>
    clear H0 HW0 HR0
    obtain ⟨wk, ss1, m1, h1, h2, h3, h4, h5⟩ := hrel.out
    have HK := Lib.hid h1
    have HW := Lib.hid h2
    have HRM := Lib.hid h3
    have HMO := Lib.hid h4
    have HPM := Lib.hid h5
    clear hrel h2 h3 h4 h5
    rcases List.eq_nil_or_concat wk with rfl | ⟨wk0, p1, rfl⟩
    · obtain ⟨A, c, rfl, _⟩ := h1.row.any
      clear h1
      go_wp2
      go_end0
      exact ⟨rfl, ss1, m1, HK.out.pr, HW.out, HMO.out, HPM.out.resolve_right (by simp)⟩
    · rw [List.concat_eq_append] at *
      obtain ⟨hp1, hp2, hp3⟩ := HW.out.place p1 (by simp)
      obtain ⟨i, rfl⟩ : ∃ i, p1 = i + 1 := ⟨p1 - 1, by omega⟩
      have hil : i < s.links.length := hp2
      have hi : i < s.n2 := by rw [← HLN.out]; exact hil
      have hib : i ≤ 4800 := Nat.le_trans (Nat.le_of_lt hi) HN.out
      obtain ⟨A, c, hv, _⟩ := h1.row.any
      obtain ⟨q, hq⟩ : ∃ q, q = wk0.length := ⟨_, rfl⟩
      rw [List.length_append, List.length_singleton, ← hq] at hv
      obtain ⟨gw, rfl⟩ : ∃ gw, A = some ⟨gw, 0, none⟩ := by
        rcases h1.row.sl with ⟨e, e2⟩ | ⟨gw, cap, e, _⟩
        · exact absurd e2 (by simp)
        · rw [hv] at e
          injection e with e _
          exact ⟨gw, e⟩
      subst hv
      obtain ⟨ho, c18, hqc⟩ := own_pop hq h1.row
      have HO := Lib.hid ho
      have hqb : q + 1 ≤ 100000000 := by have := HRM.out.few HN.out; rw [List.length_append, List.length_singleton, ← hq] at this; exact this
      have HQ := Lib.hid hq
      obtain ⟨bm, hbm⟩ : ∃ b, ss1[i]? = some b := by
        have : i < ss1.length := by rw [HW.out.len]; exact hil
        exact ⟨_, List.getElem?_eq_getElem this⟩
      have HBM := Lib.hid hbm
      have c20 : wr.cell? ⟨g, 20, none⟩ = some (.slice (some ⟨sb, 0, none⟩) s.n2 s.n2) := HK.out.pr.hp.at_ 20
      have cs : wr.cell? ⟨sb, i, none⟩ = some (.bool bm) := by rw [HK.out.pr.hs.at_ i]; exact boolsA_at hbm
      clear hp1 hp2 hp3 h1 ho hq hbm
      cases bm with
      | true =>
        have HK2 := Lib.hid (HK.out.pop HO.out)
        have HW2 := Lib.hid (HW.out.pop HBM.out)
        have HRM2 := Lib.hid (show Room s.n2 ss1 wk0.length from ⟨by have := HRM.out.room; rw [List.length_append, List.length_singleton] at this; omega⟩)
        have HPM2 := Lib.hid (show ss1[p]? = some true ∨ p + 1 ∈ wk0 from HPM.out.elim .inl fun h => (List.mem_append.1 h).elim .inr fun h => .inl (by have e := List.mem_singleton.1 h; have e : p = i := (by omega); rw [e]; exact HBM.out))
        clear HK HW HRM HPM HO
        go_wp2
        clear c18 c20 cs
        go_roundw
        case rel => exact Lib.hid ⟨_, _, _, HK2.out, HW2.out, HRM2.out, HMO.out, HPM2.out⟩
        case measure => simp only [slLen_is]; omega
      | false =>
        obtain ⟨bk, off, hA, hbl, hxj, mr⟩ := HK.out.pr.si.links.row.range (i := i) hi
        have hxj : i < s.links.length := hxj
        obtain ⟨y, hy⟩ : ∃ y, s.links[i] = y := ⟨_, rfl⟩
        have hA : s.A2 = _ := hA
        have mr : w.rangeAt bk (off + i * 25) (Fc.linkC (s.links[i])).toList := mr
        rw [hy] at mr
        have HYP := Lib.hid (show (s.links[i]'(hil)).par = y.par from by rw [hy])
        have MR := Lib.hid (And.intro mr hbl)
        have HA := Lib.hid hA
        have HW1 := Lib.hid (HW.out.mark)
        have HU := Lib.hid (unF_set ss1 i HBM.out)
        have HMO1 := Lib.hid (show ∀ i2 : Nat, ss[i2]? = some true → (ss1.set i true)[i2]? = some true from fun i2 h => set_mono (HMO.out i2 h))
        have HPM1 := Lib.hid (show (ss1.set i true)[p]? = some true ∨ p + 1 ∈ wk0 from HPM.out.elim (fun h => .inl (set_mono h)) fun h => (List.mem_append.1 h).elim .inr fun h => .inl (by have e := List.mem_singleton.1 h; have e : p = i := (by omega); rw [e]; exact HW1.out.mark))
        have HKO := Lib.hid (HK.out.pop HO.out)
        have HRM1 := Lib.hid (show wk0.length + s.n2 + unF (ss1.set i true) * s.n2 ≤ s.n2 * s.n2 ∧ unm wr sb = unF (ss1.set i true) + 1 from by
          have h := HRM.out.room
          rw [List.length_append, List.length_singleton, ← HU.out, Nat.succ_mul] at h
          exact ⟨by omega, by rw [unm_is HK.out.pr.hs, HU.out]⟩)
        clear HK HW HRM HPM HMO HO mr hy hA hbl hxj
        go_wp2_with (first | ((with_reducible refine wpList_cell (T := 4) 4 (.tmp 37) (.const (.bool true)) rfl sb i (boolsA ss1) (boolsA (ss1.set i true)) (.bool true) ?_); refine And.intro ⟨rfl, rfl, by rfl, by rfl, info_bool, rfl, (by have h1 := HW1.out.len; have h2 := HW1.out.hi; rw [List.length_set] at h1; rw [boolsA_size]; omega), boolsA_set _ _ _, HKO.out.pr.hs⟩ ?_; intro W5 HX5 HC5; have HK5 := Lib.hid (HKO.out.sets HX5.out HC5.out); have d9 : W5.cell? ⟨g, 9, none⟩ = some (.slice (some ⟨bk, off, none⟩) s.n2 s.c2) := (by have q : W5.cell? ⟨g, 9, none⟩ = some (.slice s.A2 s.n2 s.c2) := HK5.out.pr.hp.at_ 9; rw [HA.out] at q; exact q); have MR5 := Lib.hid (Fc.row_range_below MR.out.1 HK5.out.pr.below MR.out.2); clear c18 c20 cs; (try simp only [Act.put, List.setIfInBounds_toArray, List.set_cons_zero, List.set_cons_succ])) | ((with_reducible refine Who.wpList_loadC 37 (.tmp 45) rfl bk (off + i * 25 + 6) (#[.int .i64 y.par.1, .int .i64 y.par.2]) ?_); refine And.intro ⟨by rfl, by rfl, ⟨_, Tryz.underlying37, rfl⟩, info_st⟩ (And.intro (par_range MR5.out) ?_); (try simp only [Act.put, List.setIfInBounds_toArray, List.set_cons_zero, List.set_cons_succ])) | ((with_reducible refine Who.wpList_newC 37 6 (.tmp 46) rfl rfl rfl (#[.int .i64 0, .int .i64 0]) (#[.int .i64 y.par.1, .int .i64 y.par.2]) ?_); refine And.intro ⟨rfl, rfl, rfl, allocSt, by rfl, by rfl, info_st, rfl, st_one _ _⟩ ?_; (try simp only [Act.put, List.setIfInBounds_toArray, List.set_cons_zero, List.set_cons_succ]); (try simp only [World.size_alloc])) | fail)
        have HP6 := Lib.hid (Has.fresh W5 37 #[.int .i64 y.par.1, .int .i64 y.par.2]).drew
        have HK6 := Lib.hid ((HK5.out.low ((Below.refl _ W5).alloc (Nat.le_refl _) (.cells #[.int .i64 y.par.1, .int .i64 y.par.2] 37))).low (Below.refl _ _).drew)
        obtain ⟨g6, hg6⟩ : ∃ g6, g6 = W5.heap.size := ⟨_, rfl⟩
        rw [← hg6] at HP6
        rw [← hg6]
        have HG6 := Lib.hid (show W.heap.size ≤ g6 from by rw [hg6]; exact HK5.out.le)
        obtain ⟨jz, hjz, hch⟩ := last_chain (root := root) HW1.out.last y.par
        have HJZ := Lib.hid hjz
        have HCH := Lib.hid hch
        clear hg6 hjz hch HK5 HX5 HC5 MR5 d9 HKO MR
        refine wp_region_held_drew (S := fun V => Has V g 100 (prA s known mb bb sb) ∧ Has V g6 37 #[.int .i64 y.par.1, .int .i64 y.par.2] ∧ KMap stK V mb m1) (by kernel_rfl) ⟨HK6.out.pr.hp, HP6.out, HK6.out.pr.hm⟩ (fun hHeld => ?_)
        refine Vc.wpAnyH_read (i := 0) (d := some 47) (v := ?v5001) (by rfl) (by rfl) (by kernel_rfl) (by kernel_rfl) (by kernel_rfl) (fun _ _ _ h => h) (by rfl) ?hy5001 (by assumption) ?rest5001
        case hy5001 =>
          intro w hSw
          try dsimp only at hSw
          go_simp
          try with_reducible rfl
        try simp only [Act.put, List.setIfInBounds_toArray, List.set_cons_zero, List.set_cons_succ]
        refine Vc.wpAnyH_read (i := 1) (d := some 48) (v := ?v5002) (by rfl) (by rfl) (by kernel_rfl) (by kernel_rfl) (by kernel_rfl) (fun _ _ _ h => h) (by rfl) ?hy5002 (by assumption) ?rest5002
        case hy5002 =>
          intro w hSw
          try dsimp only at hSw
          go_simp
          try with_reducible rfl
        try simp only [Act.put, List.setIfInBounds_toArray, List.set_cons_zero, List.set_cons_succ]
        refine Vc.wpAnyH_read (i := 2) (d := some 49) (v := ?v5003) (by rfl) (by rfl) (by kernel_rfl) (by kernel_rfl) (by kernel_rfl) (fun _ _ _ h => h) (by rfl) ?hy5003 (by assumption) ?rest5003
        case hy5003 =>
          intro w hSw
          try dsimp only at hSw
          go_simp
          try with_reducible rfl
        try simp only [Act.put, List.setIfInBounds_toArray, List.set_cons_zero, List.set_cons_succ]
        refine Vc.wpAnyH_read (i := 3) (d := some 50) (v := .map (some mb)) (by rfl) (by rfl) (by kernel_rfl) (by kernel_rfl) (by kernel_rfl) (fun _ _ _ h => h) (by rfl) ?hy5004 (by assumption) ?rest5004
        case hy5004 =>
          intro w hSw
          have c := hSw.1.at_ 18
          replace c : w.cell? ⟨g, 18, none⟩ = some (.map (some mb)) := c
          go_simp
          try with_reducible rfl
        try simp only [Act.put, List.setIfInBounds_toArray, List.set_cons_zero, List.set_cons_succ]
        refine Vc.wpAnyH_read (i := 4) (d := some 51) (v := .agg #[.int .i64 y.par.1, .int .i64 y.par.2]) (by rfl) (by rfl) (by kernel_rfl) (by kernel_rfl) (by kernel_rfl) (fun _ _ _ h => h) (by rfl) ?hy5005 (by assumption) ?rest5005
        case hy5005 =>
          intro w hSw
          exact Who.exec_loadA _ rfl rfl (Who.has_range hSw.2.1) Tryz.underlying37 rfl info_st
        try simp only [Act.put, List.setIfInBounds_toArray, List.set_cons_zero, List.set_cons_succ]
        refine Vc.wpAnyH_read (i := 5) (d := some 52) (v := .int .i64 jz) (by rfl) (by rfl) (by kernel_rfl) (by kernel_rfl) (by kernel_rfl) (fun _ _ _ h => h) (by rfl) ?hy5006 (by assumption) ?rest5006
        case hy5006 =>
          intro w hSw
          have h : (Instr.lookup 98 (.map (some mb)) (.agg #[.int .i64 y.par.1, .int .i64 y.par.2]) false).run Tryz.prog w = .ok (.int .i64 jz) w := by have q := (KMap.lookup Tryz.underlying98 stKeys hSw.2.2 (.int .i64 0) Tryz.zeroValue3 y.par).1; rw [HJZ.out] at q; exact q
          go_simp
          try with_reducible rfl
        try simp only [Act.put, List.setIfInBounds_toArray, List.set_cons_zero, List.set_cons_succ]
        refine Vc.wpAnyH_read (i := 6) (d := some 7) (v := ?v5007) (by rfl) (by rfl) (by kernel_rfl) (by kernel_rfl) (by kernel_rfl) (fun _ _ _ h => h) (by rfl) ?hy5007 (by assumption) ?rest5007
        case hy5007 =>
          intro w hSw
          try dsimp only at hSw
          go_simp
          try with_reducible rfl
        try simp only [Act.put, List.setIfInBounds_toArray, List.set_cons_zero, List.set_cons_succ]
        refine wpAnyH_done (by kernel_rfl) ?_ _
        clear hqb hqc
        go_wp2_with fail
        go_loopw [4, 7] (fun v j wr => ∃ jn : Nat, j = .int .i64 jn ∧ Hid (∃ wk, KpI w W wr s known g mb bb sb v wk (ss1.set i true) m1 ∧ Work1 root s.links (ss1.set i true) wk m1 i ∧ Chain root s.links (ss1.set i true) wk y.par jn ∧ wk.length + jn ≤ wk0.length + s.n2 ∧ ∃ l, wk = wk0 ++ l) ∧ Hid (Has wr g6 37 #[.int .i64 y.par.1, .int .i64 y.par.2])) (fun _ j _ => (intOf j).toNat)
        case atStart => exact ⟨jz, rfl, Lib.hid ⟨wk0, HK6.out, HW1.out, HCH.out, by have := HCH.out.le; rw [HLN.out] at this; omega, [], by simp⟩, HP6⟩
        case round =>
          clear HK6 HP6 HCH HJZ
          obtain ⟨jn, rfl, HKK, HP⟩ := hrel
          obtain ⟨wk, h1, h2, h3, h4, h5⟩ := HKK.out
          have HKI := Lib.hid h1
          have HWI := Lib.hid h2
          have HCI := Lib.hid h3
          have HLI := Lib.hid h4
          have HEI := Lib.hid h5
          obtain ⟨A, cv, hv, _⟩ := h1.row.any
          subst hv
          clear HKK h1 h2 h3 h4 h5
          cases jn with
          | zero =>
            go_wp2_with fail
            refine wp_region_held_drew (S := fun V => Has V g 100 (prA s known mb bb sb) ∧ Has V g6 37 #[.int .i64 y.par.1, .int .i64 y.par.2]) (by kernel_rfl) ⟨HKI.out.pr.hp.drew, HP.out.drew⟩ (fun hHeld => ?_)
            refine Vc.wpAnyH_read (i := 0) (d := some 67) (v := ?v5008) (by rfl) (by rfl) (by kernel_rfl) (by kernel_rfl) (by kernel_rfl) (fun _ _ _ h => h) (by rfl) ?hy5008 (by assumption) ?rest5008
            case hy5008 =>
              intro w hSw
              try dsimp only at hSw
              go_simp
              try with_reducible rfl
            try simp only [Act.put, List.setIfInBounds_toArray, List.set_cons_zero, List.set_cons_succ]
            refine Vc.wpAnyH_read (i := 1) (d := some 68) (v := ?v5009) (by rfl) (by rfl) (by kernel_rfl) (by kernel_rfl) (by kernel_rfl) (fun _ _ _ h => h) (by rfl) ?hy5009 (by assumption) ?rest5009
            case hy5009 =>
              intro w hSw
              try dsimp only at hSw
              go_simp
              try with_reducible rfl
            try simp only [Act.put, List.setIfInBounds_toArray, List.set_cons_zero, List.set_cons_succ]
            refine Vc.wpAnyH_read (i := 2) (d := some 69) (v := ?v5010) (by rfl) (by rfl) (by kernel_rfl) (by kernel_rfl) (by kernel_rfl) (fun _ _ _ h => h) (by rfl) ?hy5010 (by assumption) ?rest5010
            case hy5010 =>
              intro w hSw
              try dsimp only at hSw
              go_simp
              try with_reducible rfl
            try simp only [Act.put, List.setIfInBounds_toArray, List.set_cons_zero, List.set_cons_succ]
            refine Vc.wpAnyH_read (i := 3) (d := some 70) (v := .map (some mb)) (by rfl) (by rfl) (by kernel_rfl) (by kernel_rfl) (by kernel_rfl) (fun _ _ _ h => h) (by rfl) ?hy5011 (by assumption) ?rest5011
            case hy5011 =>
              intro w hSw
              have c := hSw.1.at_ 18
              replace c : w.cell? ⟨g, 18, none⟩ = some (.map (some mb)) := c
              go_simp
              try with_reducible rfl
            try simp only [Act.put, List.setIfInBounds_toArray, List.set_cons_zero, List.set_cons_succ]
            refine Vc.wpAnyH_read (i := 4) (d := some 71) (v := .agg #[.int .i64 y.par.1, .int .i64 y.par.2]) (by rfl) (by rfl) (by kernel_rfl) (by kernel_rfl) (by kernel_rfl) (fun _ _ _ h => h) (by rfl) ?hy5012 (by assumption) ?rest5012
            case hy5012 =>
              intro w hSw
              exact Who.exec_loadA _ rfl rfl (Who.has_range hSw.2) Tryz.underlying37 rfl info_st
            try simp only [Act.put, List.setIfInBounds_toArray, List.set_cons_zero, List.set_cons_succ]
            refine wpAnyH_ready (rs := [5]) (by kernel_rfl) (by simp) ?_
            refine AllReadyH.cons rfl (fun K hK => ?_) AllReadyH.nil
            refine step_delete mb m1 y.par (.tmp 70) (.tmp 71) (by rfl) ?_
            refine And.intro ⟨by rfl, by rfl, by rfl, by rfl, HKI.out.pr.hm.drew⟩ ?_
            intro W7 HM7 HC7
            have HK7 := Lib.hid ((HKI.out.low (Below.refl _ _).drew).upd HM7.out HC7.out)
            refine hK.out _ _ ⟨HK7.out.pr.hp, HP.out.drew.over HC7.out (map_ne HP.out.drew HKI.out.pr.hm.drew)⟩ (fun hHeld => ?_)
            clear hK K
            try simp only [Act.put, List.setIfInBounds_toArray, List.set_cons_zero, List.set_cons_succ]
            refine wpAnyH_done (by kernel_rfl) ?_ _
            have HW7 := Lib.hid (HWI.out.end_ (by rw [HYP.out]; exact HCI.out))
            rw [HYP.out] at HW7
            clear HKI HM7 HC7 HCI HWI HP
            go_wp2
            go_roundw
            case rel =>
              refine Lib.hid ⟨_, _, _, HK7.out, HW7.out, ⟨?_⟩, HMO1.out, HPM1.out.imp id fun h => ?_⟩
              · have := HRM1.out.1
                have := HLI.out
                omega
              · obtain ⟨l, e⟩ := HEI.out
                rw [e]
                exact List.mem_append_left _ h
            case measure =>
              rw [unm_is HK7.out.pr.hs, HRM1.out.2]
              simp only [slLen_is, Nat.succ_mul, Nat.add_mul]
              have := HLI.out
              have := HQ.out
              omega
          | succ k =>
            obtain ⟨hkl, hkn⟩ : ∃ h : k < s.links.length, s.links[k].node = y.par := ⟨HCI.out.le, HCI.out.here k rfl HCI.out.le⟩
            obtain ⟨pl, hpl⟩ : ∃ pl : Nat, pl = lastP s.links s.links[k].node k := ⟨_, rfl⟩
            have HPL := Lib.hid (show pl ≤ k from by rw [hpl]; exact lastP_le _ _ _)
            have HB := Lib.hid (show (befJ s.links s.n2)[k]? = some pl from by rw [hpl, ← HLN.out]; exact befJ_all hkl)
            have HC2 := Lib.hid (show Chain root s.links (ss1.set i true) (wk ++ [k + 1]) y.par pl from by rw [hpl]; exact HCI.out.next hkl)
            have HW2 := Lib.hid (HWI.out.push hkl (by rw [hkn, HYP.out]))
            have hk : k < s.n2 := by rw [← HLN.out]; exact hkl
            have hkb : k ≤ 4800 := Nat.le_trans (Nat.le_of_lt hk) HN.out
            have HFEW := Lib.hid (show wk.length ≤ 100000000 from by
              have h1 := HRM1.out.1
              have h2 := HLI.out
              have h3 : s.n2 * s.n2 ≤ 4800 * 4800 := Nat.mul_le_mul HN.out HN.out
              omega)
            have HS := Lib.hid (show ∃ A2 c2, (Value.slice A wk.length cv) = .slice A2 wk.length c2 from ⟨_, _, rfl⟩)
            obtain ⟨nw, hnw⟩ : ∃ nw, nw = wk.length := ⟨_, rfl⟩
            have HNW := Lib.hid hnw
            have HROW := Lib.hid (show OwnK wr W.heap.size 3 1 intC (.slice A nw cv) wk from by rw [hnw]; exact HKI.out.row)
            rw [← hnw]
            clear hkl hkn hpl HWI HCI hnw
            go_wp2_with (first | ((with_reducible refine wpl_build1 kdI (.tmp 64) rfl (k + 1) ?_); refine And.intro ⟨rfl, by rfl⟩ ?_; (try simp only [Act.put, List.setIfInBounds_toArray, List.set_cons_zero, List.set_cons_succ])) | (at_builtin; (with_reducible refine wpl_oneL (B := W.heap.size) (u := .slice A nw cv) (es := wk) (e := k + 1) (.tmp 63) (.tmp 65) rfl rfl ?_); refine And.intro ⟨⟨by rfl, ⟨_, by rfl, by simp⟩⟩, HROW.out, HKI.out.le, HFEW.out⟩ ?_; intro u8 w8 hg8; (have HK8 := Lib.hid (HKI.out.grew (by rw [← HNW.out]; exact hg8))); (have HP8 := Lib.hid (show Has w8 g6 37 #[.int .i64 y.par.1, .int .i64 y.par.2] from (hg8.chg.block g6 HP.out.bound (own_apart_has HROW.out HP.out (by decide))).trans HP.out)); (have c19 : w8.cell? ⟨g, 19, none⟩ = some (.slice (some ⟨bb, 0, none⟩) s.n2 s.n2) := HK8.out.pr.hp.at_ 19); (have cb : w8.cell? ⟨bb, k, none⟩ = some (.int .i64 pl) := by (rw [HK8.out.pr.hb.at_ k]; exact intsA_at HB.out)); clear hg8; (try simp only [Act.put, List.setIfInBounds_toArray, List.set_cons_zero, List.set_cons_succ])) | fail)
            clear c19 cb
            go_roundw
            case rel =>
              obtain ⟨l, e⟩ := HEI.out
              refine ⟨pl, by go_num, Lib.hid ⟨wk ++ [k + 1], HK8.out, HW2.out, HC2.out, ?_, l ++ [k + 1], by rw [e, List.append_assoc]⟩, HP8⟩
              rw [List.length_append, List.length_singleton]
              have := HLI.out
              have := HPL.out
              omega
            case measure =>
              have := HPL.out
              simp [intOf]
              omega
end Go.Proofs.YtblogecapegbmaaGreat.Jn
