/- Join: what comes of pieces, xattrs, links of one key. -/
import Derived.Test.YtblogecapegbmaaGreatJnI
import Derived.Test.YtblogecapegbmaaGreatJnR
namespace Go.Proofs.YtblogecapegbmaaGreat.Jn
open Go.RowKit Go.Proofs.YtblogecapegbmaaGreat.Mem Go.Sort
open Go.Proofs.YtblogecapegbmaaGreat.Vc (joinV vecC stC laterC)
set_option linter.unusedVariables false set_option linter.unusedSimpArgs false

/-- A struct stored into the middle of a block that is known. -/
theorem stepG_store {P : Program} {ops : Array Oper} {o : Oper} {a : Act} {w : World} {K : Act → World → Prop} {Q : Exit → Act → World → Prop} {E : Prop} (ty : TypeId) (x y : Operand) (ho : o.op = .store ty x y) (b off : Nat) (C0 C C1 : Array Value) {T : TypeId}
  (h : (Region.wanted o (yielded ops a.tmps) = true ∧ o.dst = none ∧ a.eval x = .pointer (some ⟨b, off, none⟩) ∧ a.eval y = .agg C ∧ (P.info? ty).map (·.size) = some C.size ∧ C.all (·.oneCell') = true ∧ off + C.size ≤ C0.size ∧ Lib.lay C0 off C.toList = C1 ∧ Has w b T C0) ∧ ∀ W', Hid (Has W' b T C1) → Hid (Chg (· = b) w W') → K a W') :
  if Region.wanted o (yielded ops a.tmps) = true then Oper.wp P o a w K Q else E := by
 obtain ⟨⟨h1, h0, h2, h3, h4, h5, h6, h7, h8⟩, h9⟩ := h
 rw [if_pos h1]
 have ht : w.there b off C.size := fun j hj => by
  rw [h8.at_ (off + j)]
  exact ⟨by simp; omega, h8.free _⟩
 have hx := Who.has_setCells C.toList off w C0 h8
 rw [h7] at hx
 exact wp_store_mid ty x y ho b off C h2 h3 ht h4 h5 (by rw [h0]; exact h9 _ (Lib.hid hx) (Lib.hid (Who.chg_setCells b _ off _)))
theorem wpList_storeH {P : Program} {ops : Array Oper} {rest : List Oper} {op : Oper} {a : Act} {w : World} {Q : Exit → Act → World → Prop} (ty : TypeId) (x y : Operand) (ho : op.op = .store ty x y) (b off : Nat) (C0 C C1 : Array Value) {T : TypeId}
  (h : (op.guard = none ∧ a.eval x = .pointer (some ⟨b, off, none⟩) ∧ a.eval y = .agg C ∧ (P.info? ty).map (·.size) = some C.size ∧ C.all (·.oneCell') = true ∧ off + C.size ≤ C0.size ∧ Lib.lay C0 off C.toList = C1 ∧ Has w b T C0) ∧ ∀ W', Hid (Has W' b T C1) → Hid (Chg (· = b) w W') → wpList P ops Q rest (a.put op.dst undef) W') : wpList P ops Q (op :: rest) a w := by
 obtain ⟨⟨h1, h2, h3, h4, h5, h6, h7, h8⟩, h10⟩ := h
 have ht : w.there b off C.size := fun j hj => by
  rw [h8.at_ (off + j)]
  exact ⟨by simp; omega, h8.free _⟩
 have hx := Who.has_setCells C.toList off w C0 h8
 rw [h7] at hx
 exact Who.wpList_storeC ty x y ho b off C ⟨⟨h1, h2, h3, h4, h5⟩, ht, h10 _ (Lib.hid hx) (Lib.hid (Who.chg_setCells b _ off _))⟩
theorem range_of {w : World} {g : Nat} {t : TypeId} {cs D : Array Value} {off : Nat} (h : Has w g t cs) (hd : ∀ j, j < D.size → cs[off + j]? = D[j]?) : w.rangeAt g off D.toList := fun j v hv => by
 have hj : j < D.size := by have := (List.getElem?_eq_some_iff.1 hv).1; simpa using this
 rw [h.at_ (off + j), hd j hj]
 simpa using hv
theorem link_al {w : World} {g : Nat} {t : TypeId} {x : Fc.LinkP} (h : Has w g t (Fc.linkC x)) : w.rangeAt g 9 (vecC x.al).toList := range_of h fun j hj => by
 match j, (show j < 8 from hj) with
 | 0, _ | 1, _ | 2, _ | 3, _ | 4, _ | 5, _ | 6, _ | 7, _ => rfl
theorem link_de {w : World} {g : Nat} {t : TypeId} {x : Fc.LinkP} (h : Has w g t (Fc.linkC x)) : w.rangeAt g 17 (vecC x.de).toList := range_of h fun j hj => by
 match j, (show j < 8 from hj) with
 | 0, _ | 1, _ | 2, _ | 3, _ | 4, _ | 5, _ | 6, _ | 7, _ => rfl
theorem link_node {w : World} {g : Nat} {t : TypeId} {x : Fc.LinkP} (h : Has w g t (Fc.linkC x)) : w.rangeAt g 2 (#[.int .i64 x.node.1, .int .i64 x.node.2] : Array Value).toList := range_of h fun j hj => by
 match j, (show j < 2 from hj) with
 | 0, _ | 1, _ => rfl
theorem st_one (a b : Int) : (#[.int .i64 a, .int .i64 b] : Array Value).all (·.oneCell') = true := by simp [Value.oneCell']
theorem vec_one (x : Nat → Int) : (vecC x).all (·.oneCell') = true := by simp [vecC, Value.oneCell']
theorem info_vec : (Tryz.prog.info? 23).map (·.size) = some 8 := by kernel_rfl
theorem later_top (a b : St) : laterC a.1 a.2 b.1 b.2 = #[.int .i64 (top stLt a b).1, .int .i64 (top stLt a b).2] := by
 unfold laterC top
 rw [stLt_less]
 split <;> rfl
set_option maxRecDepth 100000 in
set_option maxHeartbeats 2000000 in
theorem oneP_is {κ : Type} (key : Fc.PieceP → κ) (w : World) (xs : List Fc.PieceP) : OneIs w Tryz.prog 81 4 Fc.pieceC (fun y : Fc.PieceP => y) key opP id (fun _ _ => True) xs := by
 intro V hV A n c x r hn hsub hkey hrow
 have hb1 := (Below.refl V.heap.size V).alloc (Nat.le_refl _) (.cells zeroP 74)
 have HB1 := Lib.hid hb1
 have HX1 := Lib.hid (Has.fresh V 74 zeroP)
 have HC := Lib.hid (lastP_any A n c x r (by omega) _ (hrow.below hb1))
 obtain ⟨v, hv⟩ : ∃ v, v = r.foldl opP x := ⟨_, rfl⟩
 have HV := Lib.hid (show v = (r.map (fun y : Fc.PieceP => y)).foldl opP (id x) by rw [hv]; simp)
 have HC2 := Lib.hid (show Calls Tryz.prog 82 #[.func (.func 83) #[] #[], .slice A n c] (V.alloc (.cells zeroP 74)) fun e w' => e = .returned (.agg (Fc.pieceC v)) ∧ Below (V.alloc (.cells zeroP 74)).heap.size (V.alloc (.cells zeroP 74)) w' by rw [hv]; exact HC.out)
 clear hrow hb1 hsub hkey hV HC hv
 go_enter Tryz.func81, Tryz.ntmps81
 go_wp2_with (first | ((with_reducible refine Who.wpList_alloc 74 2 rfl rfl rfl (zeroP) allocP ?_); (try simp only [Act.put, List.setIfInBounds_toArray, List.set_cons_zero, List.set_cons_succ]); (try simp only [World.size_alloc])) | fail)
 refine HC2.out.mono ?_
 rintro e w2 ⟨rfl, hb⟩
 have HB2 := Lib.hid (HB1.out.trans (hb.mono HB1.out.size))
 have HX2 := Lib.hid (HX1.out.below hb)
 clear hb
 go_wp2_with (first | ((with_reducible refine wpList_storeG 74 (.tmp 2) (.tmp 4) rfl (V.heap.size) (zeroP) (Fc.pieceC v) ?_); refine And.intro ⟨rfl, by rfl, by rfl, infoP, oneP _, rfl, HX2.out⟩ ?_; intro W5 HX5 HC5; (try simp only [Act.put, List.setIfInBounds_toArray, List.set_cons_zero, List.set_cons_succ])) | fail)
 have HBF := Lib.hid (below_step HB2.out HC5.out)
 refine bodyPost_ret (v := .agg (Fc.pieceC v)) (Who.results_cell (p := 2) (t := 74) rfl _ _ V.heap.size 0 (Fc.pieceC v) _ (by rfl) (Who.has_range HX5.out) Tryz.underlying74 rfl infoP) rfl ?_
 exact ⟨v, rfl, HV.out, trivial, HBF.out⟩
set_option maxRecDepth 100000 in
set_option maxHeartbeats 2000000 in
theorem oneX_is {κ : Type} (key : Fc.XattrP → κ) (w : World) (xs : List Fc.XattrP) : OneIs w Tryz.prog 86 5 Fc.xattrC (fun y : Fc.XattrP => y) key opX id (fun _ _ => True) xs := by
 intro V hV A n c x r hn hsub hkey hrow
 have hb1 := (Below.refl V.heap.size V).alloc (Nat.le_refl _) (.cells zeroX 77)
 have HB1 := Lib.hid hb1
 have HX1 := Lib.hid (Has.fresh V 77 zeroX)
 have HC := Lib.hid (lastX_any A n c x r (by omega) _ (hrow.below hb1))
 obtain ⟨v, hv⟩ : ∃ v, v = r.foldl opX x := ⟨_, rfl⟩
 have HV := Lib.hid (show v = (r.map (fun y : Fc.XattrP => y)).foldl opX (id x) by rw [hv]; simp)
 have HC2 := Lib.hid (show Calls Tryz.prog 87 #[.func (.func 88) #[] #[], .slice A n c] (V.alloc (.cells zeroX 77)) fun e w' => e = .returned (.agg (Fc.xattrC v)) ∧ Below (V.alloc (.cells zeroX 77)).heap.size (V.alloc (.cells zeroX 77)) w' by rw [hv]; exact HC.out)
 clear hrow hb1 hsub hkey hV HC hv
 go_enter Tryz.func86, Tryz.ntmps86
 go_wp2_with (first | ((with_reducible refine Who.wpList_alloc 77 2 rfl rfl rfl (zeroX) allocX ?_); (try simp only [Act.put, List.setIfInBounds_toArray, List.set_cons_zero, List.set_cons_succ]); (try simp only [World.size_alloc])) | fail)
 refine HC2.out.mono ?_
 rintro e w2 ⟨rfl, hb⟩
 have HB2 := Lib.hid (HB1.out.trans (hb.mono HB1.out.size))
 have HX2 := Lib.hid (HX1.out.below hb)
 clear hb
 go_wp2_with (first | ((with_reducible refine wpList_storeG 77 (.tmp 2) (.tmp 4) rfl (V.heap.size) (zeroX) (Fc.xattrC v) ?_); refine And.intro ⟨rfl, by rfl, by rfl, infoX, oneX _, rfl, HX2.out⟩ ?_; intro W5 HX5 HC5; (try simp only [Act.put, List.setIfInBounds_toArray, List.set_cons_zero, List.set_cons_succ])) | fail)
 have HBF := Lib.hid (below_step HB2.out HC5.out)
 refine bodyPost_ret (v := .agg (Fc.xattrC v)) (Who.results_cell (p := 2) (t := 77) rfl _ _ V.heap.size 0 (Fc.xattrC v) _ (by rfl) (Who.has_range HX5.out) Tryz.underlying77 rfl infoX) rfl ?_
 exact ⟨v, rfl, HV.out, trivial, HBF.out⟩

/-! ### links -/
theorem fold_proj {α β : Type} (proj : α → β) (op : α → α → α) (g : β → β → β) (h : ∀ a b, proj (op a b) = g (proj a) (proj b)) : ∀ (r : List α) (x : α), proj (r.foldl op x) = (r.map proj).foldl g (proj x)
 | [], _ => rfl
 | y :: r, x => by rw [List.foldl_cons, fold_proj proj op g h r, h]; rfl
theorem fold_mem {α : Type} (f : α → α → α) (hf : ∀ a b, f a b = a ∨ f a b = b) : ∀ (r : List α) (x : α), r.foldl f x ∈ x :: r
 | [], x => List.mem_cons_self
 | y :: r, x => by
  rw [List.foldl_cons]
  rcases List.mem_cons.1 (fold_mem f hf r (f x y)) with e | h
  ·rw [e]
   rcases hf x y with e | e
   ·rw [e]; exact List.mem_cons_self
   ·rw [e]; exact List.mem_cons_of_mem _ List.mem_cons_self
  ·exact List.mem_cons_of_mem _ (List.mem_cons_of_mem _ h)
/-- From one of them on over all of them: as over all of them. -/
theorem fold_all {β : Type} {g : β → β → β} (hJ : Joins (fun _ : β => ()) g id) {s x : β} {r : List β} (hs : s ∈ x :: r) : (x :: r).foldl g s = r.foldl g x := by
 have := red_set hJ () (s :: x :: r) (x :: r) (fun _ _ => rfl) (fun z => ⟨fun h => (List.mem_cons.1 h).elim (fun e => e ▸ hs) id, fun h => List.mem_cons_of_mem _ h⟩)
 exact Option.some.inj this
def stepL (a b : Fc.LinkP) : Fc.LinkP := { a with node := top stLt a.node b.node, al := joinV a.al b.al, de := joinV a.de b.de }
def plF (m y : Fc.LinkP) : Fc.LinkP := if ltL (plL m) (plL y) = true then y else m
theorem links_one (x : Fc.LinkP) (r : List Fc.LinkP) (hk : ∀ z ∈ r, z.id = x.id) : (x :: r).foldl stepL (r.foldl plF x) = r.foldl opL x := by
 have hm : r.foldl plF x ∈ x :: r := fold_mem plF (fun a b => by unfold plF; split <;> simp) r x
 generalize hk0 : r.foldl plF x = k0 at *
 have hpl : plL k0 = (r.map plL).foldl (top ltL) (plL x) := by
  rw [← hk0]
  exact fold_proj plL plF (top ltL) (fun a b => by unfold plF top; split <;> rfl) r x
 refine link_ext ?_ ?_ ?_ ?_ ?_
 ·have e1 : ∀ (l : List Fc.LinkP) (s : Fc.LinkP), (l.foldl stepL s).id = s.id := fun l => by
   induction l with
   | nil => exact fun _ => rfl
   | cons y l ih => exact fun s => (ih _).trans rfl
  have e2 : ∀ (l : List Fc.LinkP) (s : Fc.LinkP), (l.foldl opL s).id = s.id := fun l => by
   induction l with
   | nil => exact fun _ => rfl
   | cons y l ih => exact fun s => (ih _).trans rfl
  rw [e1, e2]
  rcases List.mem_cons.1 hm with e | h
  ·rw [e]
  ·exact hk _ h
 ·rw [fold_proj Fc.LinkP.node stepL (top stLt) (fun _ _ => rfl), fold_proj Fc.LinkP.node opL (top stLt) (fun _ _ => rfl)]
  exact fold_all (joins_unit klt_st) (by have := List.mem_map_of_mem (f := Fc.LinkP.node) hm; simpa using this)
 ·have e1 : ∀ (l : List Fc.LinkP) (s : Fc.LinkP), plL (l.foldl stepL s) = plL s := fun l => by
   induction l with
   | nil => exact fun _ => rfl
   | cons y l ih => exact fun s => (ih _).trans rfl
  rw [e1, hpl, fold_proj plL opL (top ltL) (fun _ _ => rfl)]
 ·rw [fold_proj Fc.LinkP.al stepL joinV (fun _ _ => rfl), fold_proj Fc.LinkP.al opL joinV (fun _ _ => rfl)]
  exact fold_all joins_vec (by have := List.mem_map_of_mem (f := Fc.LinkP.al) hm; simpa using this)
 ·rw [fold_proj Fc.LinkP.de stepL joinV (fun _ _ => rfl), fold_proj Fc.LinkP.de opL joinV (fun _ _ => rfl)]
  exact fold_all joins_vec (by have := List.mem_map_of_mem (f := Fc.LinkP.de) hm; simpa using this)
theorem links_one_is (x : Fc.LinkP) (r : List Fc.LinkP) (hk : ∀ z ∈ r, z.id = x.id) : (x :: r).foldl stepL (r.foldl (fun m y => if ltL (plL m) (plL y) = true then y else m) x) = (r.map (fun y : Fc.LinkP => y)).foldl opL (id x) := by
 rw [show r.map (fun y : Fc.LinkP => y) = r by simp]
 exact links_one x r hk
/-- What the loop over links keeps. -/
structure LnkI (w wr : World) (g3 : Nat) (cs : Array Value) : Prop where
 below : Below w.heap.size w wr
 h2 : Has wr w.heap.size 51 zeroL
 h3 : Has wr g3 51 cs
 g : w.heap.size < g3
theorem LnkI.drew {w wr : World} {g3 : Nat} {cs : Array Value} (h : LnkI w wr g3 cs) : LnkI w wr.drew g3 cs := ⟨h.below.drew, h.h2, h.h3, h.g⟩
theorem LnkI.low {w wr w2 : World} {g3 : Nat} {cs : Array Value} (h : LnkI w wr g3 cs) (hb : Below wr.heap.size wr w2) : LnkI w w2 g3 cs := ⟨h.below.trans (hb.mono h.below.size), h.h2.below hb, h.h3.below hb, h.g⟩
theorem LnkI.put {w wr w2 : World} {g3 : Nat} {cs ds : Array Value} (h : LnkI w wr g3 cs) (hx : Has w2 g3 51 ds) (hc : Chg (· = g3) wr w2) : LnkI w w2 g3 ds := ⟨below_step h.below hc (Nat.le_of_lt h.g), h.h2.over hc (by have := h.g; omega), hx, h.g⟩
theorem fold_next {α : Type} (f : α → α → α) {s v y : α} {l : List α} {j : Nat} (hj : j < l.length) (hy : y = l[j]) (h : (l.take j).foldl f s = v) : (l.take (j + 1)).foldl f s = f v y := by
 rw [List.take_succ_eq_append_getElem hj, List.foldl_append, h, hy]
 rfl
set_option maxRecDepth 100000 in
set_option maxHeartbeats 4000000 in
theorem oneL_is (w : World) (xs : List Fc.LinkP) : OneIs w Tryz.prog 44 25 Fc.linkC (fun y : Fc.LinkP => y) Fc.LinkP.id opL id (fun _ _ => True) xs := by
 intro V hV A n c x r hn hsub hkey hrow
 have hb1 := (Below.refl V.heap.size V).alloc (Nat.le_refl _) (.cells zeroL 51)
 have HB1 := Lib.hid hb1
 have HX1 := Lib.hid (Has.fresh V 51 zeroL)
 have HC := Lib.hid (lastL_any A n c x r (by omega) _ (hrow.below hb1))
 have HLO := Lib.hid (links_one_is x r hkey)
 generalize hk0 : r.foldl (fun m y => if ltL (plL m) (plL y) = true then y else m) x = k0 at *
 have HR := Lib.hid hrow
 have HLN := Lib.hid hrow.len
 clear hrow hb1 hsub hkey hV hk0
 go_enter Tryz.func44, Tryz.ntmps44
 go_wp2_with (first | ((with_reducible refine Who.wpList_alloc 51 2 rfl rfl rfl (zeroL) allocL ?_); (try simp only [Act.put, List.setIfInBounds_toArray, List.set_cons_zero, List.set_cons_succ]); (try simp only [World.size_alloc])) | fail)
 refine HC.out.mono ?_
 rintro e w2 ⟨rfl, hb⟩
 have HB2 := Lib.hid (HB1.out.trans (hb.mono HB1.out.size))
 obtain ⟨g3, hg3⟩ : ∃ g3, g3 = w2.heap.size := ⟨_, rfl⟩
 have HI0 := Lib.hid (show LnkI V (w2.alloc (.cells (Fc.linkC k0) 51)) g3 (Fc.linkC k0) from ⟨HB2.out.alloc HB2.out.size _, (HX1.out.below hb).past _, by rw [hg3]; exact Has.fresh w2 51 (Fc.linkC k0), by rw [hg3]; have := hb.size; simp at this; omega⟩)
 have HG3 := Lib.hid hg3
 clear hb hg3
 go_wp2_with (first | ((with_reducible refine Who.wpList_newC 51 3 (.tmp 7) rfl rfl rfl (zeroL) (Fc.linkC k0) ?_); refine And.intro ⟨rfl, rfl, rfl, allocL, by rfl, by rfl, infoL, rfl, oneL _⟩ ?_; (try simp only [Act.put, List.setIfInBounds_toArray, List.set_cons_zero, List.set_cons_succ]); (try simp only [World.size_alloc])) | fail)
 rw [← HG3.out]
 go_loopw [10] (fun i wr => ∃ (j : Nat) (kk : Fc.LinkP), i = .int .i64 j ∧ j ≤ n ∧ Hid (((x :: r).take j).foldl stepL k0 = kk) ∧ Hid (LnkI V wr g3 (Fc.linkC kk))) (fun i _ => n - (intOf i).toNat)
 case atStart => exact ⟨0, k0, rfl, Nat.zero_le _, Lib.hid rfl, HI0⟩
 case round =>
  clear HI0 HX1 HB2
  obtain ⟨j, kk, rfl, hj, HQ0, HI⟩ := hrel
  by_cases hlt : j < n
  ·obtain ⟨b, off, rfl, hbl2, hx, mr⟩ := (HR.out.below HI.out.below).range (i := j) hlt
   obtain ⟨y, hy⟩ : ∃ y, y = (x :: r)[j] := ⟨_, rfl⟩
   rw [← hy] at mr
   have HQ := Lib.hid (fold_next stepL hx hy HQ0.out)
   have MR := Lib.hid mr
   obtain ⟨g5, hg5⟩ : ∃ g5, g5 = wr.heap.size := ⟨_, rfl⟩
   have HY0 := Lib.hid (show Has (wr.alloc (.cells (Fc.linkC y) 51)) g5 51 (Fc.linkC y) by rw [hg5]; exact Has.fresh wr 51 (Fc.linkC y))
   have HIA := Lib.hid (HI.out.low (w2 := wr.alloc (.cells (Fc.linkC y) 51)) ((Below.refl wr.heap.size wr).alloc (Nat.le_refl _) _))
   have HNE := Lib.hid (show g5 ≠ g3 by have := HI.out.h3.bound; omega)
   have HLT := Lib.hid (show ∀ W, Calls Tryz.prog 93 #[.agg #[.int .i64 kk.node.1, .int .i64 kk.node.2], .agg #[.int .i64 y.node.1, .int .i64 y.node.2]] W fun e W' => e = .returned (.agg #[.int .i64 (top stLt kk.node y.node).1, .int .i64 (top stLt kk.node y.node).2]) ∧ Below W.heap.size W W' from fun W => by
    have h := Vc.later_any kk.node.1 kk.node.2 y.node.1 y.node.2 W
    rw [later_top kk.node y.node] at h
    exact h)
   have HG5 := Lib.hid hg5
   clear hy mr hx hbl2 HQ0 HI hg5
   go_wp2_with (first | ((with_reducible refine Who.wpList_loadC 51 (.tmp 12) rfl (b) (off + j * 25) (Fc.linkC y) ?_); refine And.intro ⟨by rfl, by rfl, ⟨_, Tryz.underlying51, rfl⟩, infoL⟩ (And.intro (MR.out) ?_); (try simp only [Act.put, List.setIfInBounds_toArray, List.set_cons_zero, List.set_cons_succ])) | ((with_reducible refine Who.wpList_newC 51 5 (.tmp 13) rfl rfl rfl (zeroL) (Fc.linkC y) ?_); refine And.intro ⟨rfl, rfl, rfl, allocL, by rfl, by rfl, infoL, rfl, oneL _⟩ ?_; (try simp only [Act.put, List.setIfInBounds_toArray, List.set_cons_zero, List.set_cons_succ]); (try simp only [World.size_alloc])) | ((with_reducible refine Who.wpList_loadC 37 (.tmp 14) rfl (g3) 2 (#[.int .i64 kk.node.1, .int .i64 kk.node.2]) ?_); refine And.intro ⟨by rfl, by rfl, ⟨_, Tryz.underlying37, rfl⟩, info_st⟩ (And.intro (link_node HIA.out.h3) ?_); (try simp only [Act.put, List.setIfInBounds_toArray, List.set_cons_zero, List.set_cons_succ])) | ((with_reducible refine Who.wpList_loadC 37 (.tmp 16) rfl (wr.heap.size) 2 (#[.int .i64 y.node.1, .int .i64 y.node.2]) ?_); refine And.intro ⟨by rfl, by rfl, ⟨_, Tryz.underlying37, rfl⟩, info_st⟩ (And.intro (link_node (by have q := HY0.out; rw [HG5.out] at q; exact q)) ?_); (try simp only [Act.put, List.setIfInBounds_toArray, List.set_cons_zero, List.set_cons_succ])) | fail)
   refine (HLT.out _).mono ?_
   rintro e w3 ⟨rfl, hb⟩
   have HI3 := Lib.hid (HIA.out.low hb)
   have HY3 := Lib.hid (HY0.out.below hb)
   clear hb HIA HY0 MR HLT
   go_wp2_with (first | ((with_reducible refine wpList_storeH (T := 51) 37 (.tmp 19) (.tmp 18) rfl g3 2 (Fc.linkC kk) (#[.int .i64 (top stLt kk.node y.node).1, .int .i64 (top stLt kk.node y.node).2]) (Fc.linkC { kk with node := top stLt kk.node y.node }) ?_); refine And.intro ⟨rfl, by rfl, by rfl, info_st, st_one _ _, of_decide_eq_true rfl, by kernel_rfl, HI3.out.h3⟩ ?_; intro W5 HX5 HC5; (try simp only [Act.put, List.setIfInBounds_toArray, List.set_cons_zero, List.set_cons_succ])) | fail)
   have HI1 := Lib.hid (HI3.out.put HX5.out HC5.out)
   have HY1 := Lib.hid (HY3.out.over HC5.out HNE.out)
   have HK1 := HX5
   obtain ⟨k1, hk1⟩ : ∃ k1, k1 = { kk with node := top stLt kk.node y.node } := ⟨_, rfl⟩
   rw [← hk1] at HI1 HK1
   have HS := Lib.hid (show { k1 with al := joinV k1.al y.al, de := joinV k1.de y.de } = stepL kk y by rw [hk1]; rfl)
   have HJ1 := Lib.hid (fun W => Vc.join_any k1.al y.al W)
   have HJ2 := Lib.hid (fun W => Vc.join_any k1.de y.de W)
   rw [← HG5.out]
   clear HX5 HC5 HI3 HY3 hk1
   refine wp_region_G 11 (S := fun V => Has V g3 51 (Fc.linkC k1) ∧ Has V g5 51 (Fc.linkC y)) (by kernel_rfl) ⟨HK1.out.drew, HY1.out.drew⟩ (fun hHeld hCl => ?_)
   refine wpAnyG_read (i := 0) (d := some 20) (v := ?v1) (by rfl) (by rfl) (by kernel_rfl) (by kernel_rfl) (by kernel_rfl) (by kernel_rfl) (by assumption) (fun _ _ _ h => h) (by rfl) ?hy1 (by assumption) (fun hCl hHeld => ?rest1)
   case hy1 =>
    intro w hSw
    go_simp
    try with_reducible rfl
   (try simp only [Act.put, List.setIfInBounds_toArray, List.set_cons_zero, List.set_cons_succ])
   refine wpAnyG_read (i := 1) (d := some 21) (v := .agg (vecC k1.al)) (by rfl) (by rfl) (by kernel_rfl) (by kernel_rfl) (by kernel_rfl) (by kernel_rfl) (by assumption) (fun _ _ _ h => h) (by rfl) ?hy2 (by assumption) (fun hCl hHeld => ?rest2)
   case hy2 =>
    intro w hSw
    exact Who.exec_loadA _ rfl rfl (link_al hSw.1) Tryz.underlying23 rfl info_vec
   (try simp only [Act.put, List.setIfInBounds_toArray, List.set_cons_zero, List.set_cons_succ])
   refine wpAnyG_read (i := 2) (d := some 22) (v := ?v3) (by rfl) (by rfl) (by kernel_rfl) (by kernel_rfl) (by kernel_rfl) (by kernel_rfl) (by assumption) (fun _ _ _ h => h) (by rfl) ?hy3 (by assumption) (fun hCl hHeld => ?rest3)
   case hy3 =>
    intro w hSw
    go_simp
    try with_reducible rfl
   (try simp only [Act.put, List.setIfInBounds_toArray, List.set_cons_zero, List.set_cons_succ])
   refine wpAnyG_read (i := 3) (d := some 23) (v := .agg (vecC y.al)) (by rfl) (by rfl) (by kernel_rfl) (by kernel_rfl) (by kernel_rfl) (by kernel_rfl) (by assumption) (fun _ _ _ h => h) (by rfl) ?hy4 (by assumption) (fun hCl hHeld => ?rest4)
   case hy4 =>
    intro w hSw
    exact Who.exec_loadA _ rfl rfl (link_al hSw.2) Tryz.underlying23 rfl info_vec
   (try simp only [Act.put, List.setIfInBounds_toArray, List.set_cons_zero, List.set_cons_succ])
   refine wpAnyG_read (i := 5) (d := some 25) (v := ?v5) (by rfl) (by rfl) (by kernel_rfl) (by kernel_rfl) (by kernel_rfl) (by kernel_rfl) (by assumption) (fun _ _ _ h => h) (by rfl) ?hy5 (by assumption) (fun hCl hHeld => ?rest5)
   case hy5 =>
    intro w hSw
    go_simp
    try with_reducible rfl
   (try simp only [Act.put, List.setIfInBounds_toArray, List.set_cons_zero, List.set_cons_succ])
   refine wpAnyG_read (i := 6) (d := some 26) (v := .agg (vecC k1.de)) (by rfl) (by rfl) (by kernel_rfl) (by kernel_rfl) (by kernel_rfl) (by kernel_rfl) (by assumption) (fun _ _ _ h => h) (by rfl) ?hy6 (by assumption) (fun hCl hHeld => ?rest6)
   case hy6 =>
    intro w hSw
    exact Who.exec_loadA _ rfl rfl (link_de hSw.1) Tryz.underlying23 rfl info_vec
   (try simp only [Act.put, List.setIfInBounds_toArray, List.set_cons_zero, List.set_cons_succ])
   refine wpAnyG_read (i := 7) (d := some 27) (v := ?v7) (by rfl) (by rfl) (by kernel_rfl) (by kernel_rfl) (by kernel_rfl) (by kernel_rfl) (by assumption) (fun _ _ _ h => h) (by rfl) ?hy7 (by assumption) (fun hCl hHeld => ?rest7)
   case hy7 =>
    intro w hSw
    go_simp
    try with_reducible rfl
   (try simp only [Act.put, List.setIfInBounds_toArray, List.set_cons_zero, List.set_cons_succ])
   refine wpAnyG_read (i := 8) (d := some 28) (v := .agg (vecC y.de)) (by rfl) (by rfl) (by kernel_rfl) (by kernel_rfl) (by kernel_rfl) (by kernel_rfl) (by assumption) (fun _ _ _ h => h) (by rfl) ?hy8 (by assumption) (fun hCl hHeld => ?rest8)
   case hy8 =>
    intro w hSw
    exact Who.exec_loadA _ rfl rfl (link_de hSw.2) Tryz.underlying23 rfl info_vec
   (try simp only [Act.put, List.setIfInBounds_toArray, List.set_cons_zero, List.set_cons_succ])
   refine wpAnyG_ready (rs := [4]) (by kernel_rfl) (by simp) ?_
   refine AllReadyG.cons rfl (by assumption) (by kernel_rfl) (fun K hK => ?_) AllReadyG.nil
   go_simp
   go_at_call 38
   refine (HJ1.out _).mono ?_
   rintro e w4 ⟨rfl, hb⟩
   have HI4 := Lib.hid (HI1.out.drew.low hb)
   have HK4 := Lib.hid (HK1.out.drew.below hb)
   have HY4 := Lib.hid (HY1.out.drew.below hb)
   clear hb
   refine hK.out _ _ (fun _ => ⟨HK4.out, HY4.out⟩) (fun hHeld hCl => ?_)
   clear hK K
   (try simp only [Act.put, List.setIfInBounds_toArray, List.set_cons_zero, List.set_cons_succ])
   refine wpAnyG_read (i := 10) (d := some 30) (v := ?v9) (by rfl) (by rfl) (by kernel_rfl) (by kernel_rfl) (by kernel_rfl) (by kernel_rfl) (by assumption) (fun _ _ _ h => h) (by rfl) ?hy9 (by assumption) (fun hCl hHeld => ?rest9)
   case hy9 =>
    intro w hSw
    go_simp
    try with_reducible rfl
   (try simp only [Act.put, List.setIfInBounds_toArray, List.set_cons_zero, List.set_cons_succ])
   refine wpAnyG_ready (rs := [9]) (by kernel_rfl) (by simp) ?_
   refine AllReadyG.cons rfl (by assumption) (by kernel_rfl) (fun K hK => ?_) AllReadyG.nil
   go_simp
   go_at_call 38
   refine (HJ2.out _).mono ?_
   rintro e w5 ⟨rfl, hb⟩
   have HI5 := Lib.hid (HI4.out.low hb)
   have HY5 := Lib.hid (HY4.out.below hb)
   have HK5 := Lib.hid (HK4.out.below hb)
   clear hb
   refine hK.out _ _ (fun _ => ⟨HK5.out, HY5.out⟩) (fun hHeld hCl => ?_)
   clear hK K
   (try simp only [Act.put, List.setIfInBounds_toArray, List.set_cons_zero, List.set_cons_succ])
   refine wpAnyG_ready (rs := [11]) (by kernel_rfl) (by simp) ?_
   refine AllReadyG.cons rfl (by assumption) (by kernel_rfl) (fun K hK => ?_) AllReadyG.nil
   refine stepG_store (T := 51) 23 (.tmp 30) (.tmp 24) (by rfl) g3 9 (Fc.linkC k1) (vecC (joinV k1.al y.al)) (Fc.linkC { k1 with al := joinV k1.al y.al }) ?_
   refine And.intro ⟨by rfl, by rfl, by rfl, by rfl, info_vec, vec_one _, of_decide_eq_true rfl, by kernel_rfl, HK5.out⟩ ?_
   intro W6 HK6 HC6
   refine hK.out _ _ (late (by rfl)) (fun hHeld hCl => ?_)
   clear hK K
   (try simp only [Act.put, List.setIfInBounds_toArray, List.set_cons_zero, List.set_cons_succ])
   refine wpAnyG_pure (i := 12) (d := some 31) (v := ?v10) (by rfl) (by rfl) (by kernel_rfl) (by rfl) ?hy10 (by assumption) (by assumption) (fun hCl hHeld => ?rest10)
   case hy10 =>
    go_simp
    try with_reducible rfl
   (try simp only [Act.put, List.setIfInBounds_toArray, List.set_cons_zero, List.set_cons_succ])
   refine wpAnyG_ready (rs := [13]) (by kernel_rfl) (by simp) ?_
   refine AllReadyG.cons rfl (by assumption) (by kernel_rfl) (fun K hK => ?_) AllReadyG.nil
   refine stepG_store (T := 51) 23 (.tmp 31) (.tmp 29) (by rfl) g3 17 (Fc.linkC { k1 with al := joinV k1.al y.al }) (vecC (joinV k1.de y.de)) (Fc.linkC { k1 with al := joinV k1.al y.al, de := joinV k1.de y.de }) ?_
   refine And.intro ⟨by rfl, by rfl, by rfl, by rfl, info_vec, vec_one _, of_decide_eq_true rfl, by kernel_rfl, HK6.out⟩ ?_
   intro W7 HK7 HC7
   refine hK.out _ _ (late (by rfl)) (fun hHeld hCl => ?_)
   clear hK K
   (try simp only [Act.put, List.setIfInBounds_toArray, List.set_cons_zero, List.set_cons_succ])
   refine wpAnyG_done (by kernel_rfl) ?_ _
   have HI8 := Lib.hid (show LnkI V W7 g3 (Fc.linkC (stepL kk y)) by rw [← HS.out]; exact (HI5.out.put HK6.out HC6.out).put HK7.out HC7.out)
   clear HK6 HC6 HK7 HC7 HI5 HS
   go_wp2
   go_roundw
   case rel => exact ⟨j + 1, stepL kk y, by go_num, by omega, HQ, HI8⟩
   case measure => simp [intOf]; omega
  ·have HQ := Lib.hid (show kk = (r.map (fun y : Fc.LinkP => y)).foldl opL (id x) by
    rw [← HLO.out, ← HQ0.out, List.take_of_length_le (by rw [HLN.out]; omega)])
   clear HQ0 HLO
   go_wp2_with (first | ((with_reducible refine Who.wpList_loadC 51 (.tmp 3) rfl (g3) 0 (Fc.linkC kk) ?_); refine And.intro ⟨by rfl, by rfl, ⟨_, Tryz.underlying51, rfl⟩, infoL⟩ (And.intro (Who.has_range HI.out.h3) ?_); (try simp only [Act.put, List.setIfInBounds_toArray, List.set_cons_zero, List.set_cons_succ])) | ((with_reducible refine wpList_storeG 51 (.tmp 2) (.tmp 33) rfl (V.heap.size) (zeroL) (Fc.linkC kk) ?_); refine And.intro ⟨rfl, by rfl, by rfl, infoL, oneL _, rfl, HI.out.h2⟩ ?_; intro W5 HX5 HC5; (try simp only [Act.put, List.setIfInBounds_toArray, List.set_cons_zero, List.set_cons_succ])) | fail)
   have HBF := Lib.hid (below_step HI.out.below HC5.out)
   refine bodyPost_ret (v := .agg (Fc.linkC kk)) (Who.results_cell (p := 2) (t := 51) rfl _ _ V.heap.size 0 (Fc.linkC kk) _ (by rfl) (Who.has_range HX5.out) Tryz.underlying51 rfl infoL) rfl ?_
   exact ⟨kk, rfl, HQ.out, trivial, HBF.out⟩
end Go.Proofs.YtblogecapegbmaaGreat.Jn
