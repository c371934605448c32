/- Join: rows set in order. -/
import Derived.Test.YtblogecapegbmaaGreatJnG
import Derived.Test.YtblogecapegbmaaGreatShelf
import Derived.Shelf.SlSortCmp.WholeK
import Derived.Shelf.SlSortCmp.NoneTotal
namespace Go.Proofs.YtblogecapegbmaaGreat.Jn
open Go.RowKit Go.Proofs.YtblogecapegbmaaGreat.Mem Go.Sort
set_option linter.unusedVariables false set_option linter.unusedSimpArgs false

instance : Inhabited Fc.PieceP := ⟨⟨0, (0, 0), ⟨#[]⟩⟩⟩
instance : Inhabited Fc.XattrP := ⟨⟨⟨#[]⟩, (0, 0), ⟨#[]⟩, false⟩⟩
instance : Inhabited Fc.NodeP := ⟨⟨(0, 0), 0, ⟨#[]⟩, (0, 0), 0, 0, (0, 0), 0, [], []⟩⟩
instance : Inhabited Fc.NodeC := ⟨⟨default, none, 0, 0, none, 0, 0⟩⟩
instance : Inhabited Fc.LinkP := ⟨⟨(0, 0), (0, 0), (0, 0), (0, 0), ⟨#[]⟩, fun _ => 0, fun _ => 0⟩⟩
theorem ltOf_sgn {α ρ : Type} {lt : ρ → ρ → Bool} (h : KLt lt) (key : α → ρ) : ltOf (fun x y : α => sgn lt (key x) (key y)) = fun x y => lt (key x) (key y) := by
 funext x y
 unfold ltOf sgn
 cases h1 : lt (key x) (key y) with
 | true => simp [h1]
 | false => cases h2 : lt (key y) (key x) <;> simp [h1, h2]
theorem swo_of {α ρ : Type} {lt : ρ → ρ → Bool} (h : KLt lt) (key : α → ρ) : SWO (ltOf (fun x y : α => sgn lt (key x) (key y))) := by
 rw [ltOf_sgn h]
 refine ⟨fun x => h.irr _, fun x y z a b => h.trans a b, fun x y z a b => ?_⟩
 cases c : lt (key x) (key z) with
 | false => rfl
 | true =>
  cases d : lt (key y) (key x) with
  | true => have := h.trans d c; rw [b] at this; cases this
  | false => have e := h.tot _ _ a d; rw [e, b] at c; cases c
/-- A row set in order. -/
structure SortIs {α : Type} (lt : α → α → Bool) (xs ys : List α) : Prop where
 perm : ys.Perm xs
 ord : ys.Pairwise fun a b => lt b a = false
theorem sorted_pair {α : Type} [Inhabited α] {lt : α → α → Bool} {n : Nat} (d : Array α) (h : SortedIn lt 0 n d) (hn : d.size ≤ n := by simp_all) : d.toList.Pairwise fun a b => lt b a = false := by
 rw [List.pairwise_iff_getElem]
 intro i j hi hj hij
 simp only [Array.length_toList] at hi hj
 have := h i j (Nat.zero_le _) hij (by omega)
 rw [getElem!_pos d j hj, getElem!_pos d i hi] at this
 simpa using this
section
variable {α : Type} [Inhabited α] {k : Nat} {C : α → Array Value}
theorem flatK_at (hk : ∀ x, (C x).size = k) (k0 : 0 < k) (d : Array α) {i j : Nat} (hi : i < d.size) (hj : j < k) : (flatK (fun x => (C x).toList) k d)[i * k + j]! = (C d[i])[j]! := by
 have hlt : i * k + j < d.size * k := by
  have : (i + 1) * k ≤ d.size * k := Nat.mul_le_mul_right k hi
  rw [Nat.add_mul] at this
  omega
 rw [get_flatK _ _ _ _ hlt]
 have e1 : (i * k + j) / k = i := by rw [Nat.mul_comm, Nat.mul_add_div k0, Nat.div_eq_of_lt hj, Nat.add_zero]
 have e2 : (i * k + j) % k = j := by rw [Nat.mul_comm, Nat.mul_add_mod, Nat.mod_eq_of_lt hj]
 have hj2 : j < (C d[i]).size := by rw [hk]; exact hj
 rw [e1, e2, getElem!_pos d i hi, getElem!_pos (C d[i]) j hj2, getElem!_pos (C d[i]).toList j (by simpa using hj2)]
 simp
theorem holds_own (hk : ∀ x, (C x).size = k) (k0 : 0 < k) {w : World} {B g cap : Nat} {E : TypeId} {xs : List α} (h : OwnK w B E k C (.slice (some ⟨g, 0, none⟩) xs.length cap) xs) : HoldsK (fun x => (C x).toList) k w g 0 xs.toArray := by
 intro t ht
 have hr := h.srow hk
 rw [size_flatK] at ht
 have hd : t / k < xs.length := (Nat.div_lt_iff_lt_mul k0).2 (by simpa using ht)
 have hm := Nat.mod_lt t k0
 have e : t = t / k * k + t % k := by rw [Nat.mul_comm]; exact (Nat.div_add_mod t k).symm
 obtain ⟨b, off, eb, _, hx⟩ := hr.cells (Nat.lt_of_le_of_lt (Nat.zero_le _) hd)
 cases eb
 refine ⟨?_, h.free _⟩
 have hj : t % k < (C xs[t / k]).size := by rw [hk]; exact hm
 have := hx (t / k) hd (t % k) _ (Array.getElem?_eq_getElem hj)
 have e3 := flatK_at hk k0 xs.toArray (i := t / k) (j := t % k) (by simpa using hd) hm
 rw [← e] at e3
 rw [e3]
 simp only [Nat.zero_add] at this ⊢
 rw [← e] at this
 rw [this]
 simp [getElem!_pos, hj]
theorem sorted_out (hk : ∀ x, (C x).size = k) (k0 : 0 < k) {w : World} {B g cap : Nat} {E : TypeId} {xs : List α} (h : OwnK w B E k C (.slice (some ⟨g, 0, none⟩) xs.length cap) xs) {d' : Array α} (hp : PermIn 0 xs.toArray.size xs.toArray d') (m : Nat) (os : Array Obj) :
  Fc.SRow (sortWorldK (fun x => (C x).toList) k w g 0 m d' os) k C (some ⟨g, 0, none⟩) xs.length d'.toList ∧ d'.toList.Perm xs ∧ Chg (· = g) w (sortWorldK (fun x => (C x).toList) k w g 0 m d' os) := by
 have hg : g < w.heap.size := by
  rcases h.sl with ⟨e, _⟩ | ⟨g2, c2, e, _, h2, _⟩
  ·cases e
  ·cases e; exact h2
 have hsz : d'.size = xs.length := by have := hp.1; simpa using this
 have hH := holdsK_sortWorldK_c (fun x => (C x).toList) k w g 0 xs.toArray d' m os (holds_own hk k0 h) hg (by simpa using hsz)
 refine ⟨⟨by simpa using hsz, fun hn => ⟨g, 0, rfl, ?_, fun i hi j v hv => ?_⟩⟩, ?_, ?_⟩
 ·exact Nat.lt_of_lt_of_le hg (size_sortWorldK_c (fun x => (C x).toList) k w g 0 m d' os)
 ·have hi2 : i < d'.size := by simpa using hi
  have hj : j < k := by have := (Array.getElem?_eq_some_iff.1 hv).1; rwa [hk] at this
  have hlt : i * k + j < d'.size * k := by
   have : (i + 1) * k ≤ d'.size * k := Nat.mul_le_mul_right k hi2
   rw [Nat.add_mul] at this
   omega
  have := (hH (i * k + j) (by rw [size_flatK]; exact hlt)).1
  rw [flatK_at hk k0 d' hi2 hj] at this
  rw [Nat.add_assoc]
  rw [this]
  simp only [Array.getElem_toList] at hv
  have hj2 := (Array.getElem?_eq_some_iff.1 hv).1
  rw [Array.getElem?_eq_getElem hj2] at hv
  rw [id, getElem!_pos _ j hj2]
  exact hv
 ·have := hp.2.2
  have e1 : d'.extract 0 xs.toArray.size = d' := by rw [← hp.1]; simp
  rw [e1] at this
  simpa using this
 ·have e1 : (sortWorldK (fun x => (C x).toList) k w g 0 m d' os).heap.size = w.heap.size + os.size := by simp [sortWorldK, grow, putRowK, putRow, mapBlock, ahead]
  refine ⟨rfl, rfl, rfl, by omega, fun q hq hn => ?_⟩
  show ((w.heap.modify g _) ++ os)[q]? = _
  rw [Array.getElem?_append_left (by simpa using hq), Array.getElem?_modify, if_neg (fun e => hn e.symm)]
end
theorem cmpLaysN (blk off size : Nat) (w : World) : CmpLays Tryz.prog 40 #[] (fun x : Fc.NodeC => (Fc.nodeC x).toList) 13 (fun x y => sgn stLt x.p.id y.p.id) blk off size w := by
 intro m os dk hs x y
 have h := nodeIds_grew x y (sortWorldK (fun x : Fc.NodeC => (Fc.nodeC x).toList) 13 w blk off m dk os)
 simp only [Array.toArray_toList]
 exact h.mono fun e w' hq => ⟨hq.1, hq.2.grown⟩
theorem sortN_any (B g cap : Nat) (xs : List Fc.NodeC) (hl : xs.length ≤ 1000000) (w : World) (ho : OwnK w B 46 13 Fc.nodeC (.slice (some ⟨g, 0, none⟩) xs.length cap) xs) :
  Calls Tryz.prog 73 #[.slice (some ⟨g, 0, none⟩) xs.length cap, .func (.func 40) #[] #[]] w fun e w' => e = .returned (.tuple #[]) ∧ ∃ ys, SortIs (fun x y : Fc.NodeC => stLt x.p.id y.p.id) xs ys ∧ Fc.SRow w' 13 Fc.nodeC (some ⟨g, 0, none⟩) xs.length ys ∧ Chg (· = g) w w' := by
 have hg : g < w.heap.size := by
  rcases ho.sl with ⟨e, _⟩ | ⟨g2, c2, e, _, h2, _⟩
  ·cases e
  ·cases e; exact h2
 have hlt : ltOf (fun x y : Fc.NodeC => sgn stLt x.p.id y.p.id) = fun x y => stLt x.p.id y.p.id := ltOf_sgn klt_st (fun x : Fc.NodeC => x.p.id)
 have hcon := AnyQ.slices_SortFunc Tryz.sortN 13 Tryz.isAgg46 Tryz.sizeOf46 (fun x : Fc.NodeC => (Fc.nodeC x).toList) (fun x => rfl) (fun x v hv => (Array.all_eq_true_iff_forall_mem.1 (kdN.one x)) v (by simpa using hv)) (fun x y => sgn stLt x.p.id y.p.id) (swo_of klt_st (fun x : Fc.NodeC => x.p.id)) 40 #[] g 0 cap xs.toArray w (fun args V => enters_of Tryz.func40 (by kernel_rfl) rfl args V) (cmpLaysN g 0 _ w) (holds_own kdN.hk kdN.k0 ho) hg (by simp; omega)
 have hc2 : Calls Tryz.prog 73 #[.slice (some ⟨g, 0, none⟩) xs.length cap, .func (.func 40) #[] #[]] w _ := hcon
 refine hc2.mono ?_
 rintro e w' ⟨rfl, d', m, os, hp, hs, rfl⟩
 obtain ⟨h1, h2, h3⟩ := sorted_out kdN.hk kdN.k0 ho hp m os
 rw [hlt] at hs
 exact ⟨rfl, d'.toList, ⟨h2, sorted_pair _ hs (by have := hp.1; exact Nat.le_of_eq this)⟩, h1, h3⟩
theorem sortN_none (A : Option Addr) (c : Nat) (fv : Value) (w : World) : Calls Tryz.prog 73 #[.slice A 0 c, fv] w fun e w' => e = .returned (.tuple #[]) ∧ w' = w := AnyF.slices_SortFunc_none Tryz.sortN A c fv w
theorem cmpLaysL (blk off size : Nat) (w : World) : CmpLays Tryz.prog 43 #[] (fun x : Fc.LinkP => (Fc.linkC x).toList) 25 (fun x y => sgn stLt x.id y.id) blk off size w := by
 intro m os dk hs x y
 have h := linkIds_grew x y (sortWorldK (fun x : Fc.LinkP => (Fc.linkC x).toList) 25 w blk off m dk os)
 simp only [Array.toArray_toList]
 exact h.mono fun e w' hq => ⟨hq.1, hq.2.grown⟩
theorem sortL_any (B g cap : Nat) (xs : List Fc.LinkP) (hl : xs.length ≤ 1000000) (w : World) (ho : OwnK w B 51 25 Fc.linkC (.slice (some ⟨g, 0, none⟩) xs.length cap) xs) :
  Calls Tryz.prog 90 #[.slice (some ⟨g, 0, none⟩) xs.length cap, .func (.func 43) #[] #[]] w fun e w' => e = .returned (.tuple #[]) ∧ ∃ ys, SortIs (fun x y : Fc.LinkP => stLt x.id y.id) xs ys ∧ Fc.SRow w' 25 Fc.linkC (some ⟨g, 0, none⟩) xs.length ys ∧ Chg (· = g) w w' := by
 have hg : g < w.heap.size := by
  rcases ho.sl with ⟨e, _⟩ | ⟨g2, c2, e, _, h2, _⟩
  ·cases e
  ·cases e; exact h2
 have hlt : ltOf (fun x y : Fc.LinkP => sgn stLt x.id y.id) = fun x y => stLt x.id y.id := ltOf_sgn klt_st (fun x : Fc.LinkP => x.id)
 have hcon := AnyQ.slices_SortFunc Tryz.sortL 25 Tryz.isAgg51 Tryz.sizeOf51 (fun x : Fc.LinkP => (Fc.linkC x).toList) (fun x => rfl) (fun x v hv => (Array.all_eq_true_iff_forall_mem.1 (kdL.one x)) v (by simpa using hv)) (fun x y => sgn stLt x.id y.id) (swo_of klt_st (fun x : Fc.LinkP => x.id)) 43 #[] g 0 cap xs.toArray w (fun args V => enters_of Tryz.func43 (by kernel_rfl) rfl args V) (cmpLaysL g 0 _ w) (holds_own kdL.hk kdL.k0 ho) hg (by simp; omega)
 have hc2 : Calls Tryz.prog 90 #[.slice (some ⟨g, 0, none⟩) xs.length cap, .func (.func 43) #[] #[]] w _ := hcon
 refine hc2.mono ?_
 rintro e w' ⟨rfl, d', m, os, hp, hs, rfl⟩
 obtain ⟨h1, h2, h3⟩ := sorted_out kdL.hk kdL.k0 ho hp m os
 rw [hlt] at hs
 exact ⟨rfl, d'.toList, ⟨h2, sorted_pair _ hs (by have := hp.1; exact Nat.le_of_eq this)⟩, h1, h3⟩
theorem sortL_none (A : Option Addr) (c : Nat) (fv : Value) (w : World) : Calls Tryz.prog 90 #[.slice A 0 c, fv] w fun e w' => e = .returned (.tuple #[]) ∧ w' = w := AnyF.slices_SortFunc_none Tryz.sortL A c fv w
theorem cmpLaysP (blk off size : Nat) (w : World) : CmpLays Tryz.prog 80 #[] (fun x : Fc.PieceP => (Fc.pieceC x).toList) 4 (fun x y => sgn intLt x.i y.i) blk off size w := by
 intro m os dk hs x y
 have h := indices_grew x y (sortWorldK (fun x : Fc.PieceP => (Fc.pieceC x).toList) 4 w blk off m dk os)
 simp only [Array.toArray_toList]
 exact h.mono fun e w' hq => ⟨hq.1, hq.2.grown⟩
theorem sortP_any (B g cap : Nat) (xs : List Fc.PieceP) (hl : xs.length ≤ 1000000) (w : World) (ho : OwnK w B 74 4 Fc.pieceC (.slice (some ⟨g, 0, none⟩) xs.length cap) xs) :
  Calls Tryz.prog 118 #[.slice (some ⟨g, 0, none⟩) xs.length cap, .func (.func 80) #[] #[]] w fun e w' => e = .returned (.tuple #[]) ∧ ∃ ys, SortIs (fun x y : Fc.PieceP => intLt x.i y.i) xs ys ∧ Fc.SRow w' 4 Fc.pieceC (some ⟨g, 0, none⟩) xs.length ys ∧ Chg (· = g) w w' := by
 have hg : g < w.heap.size := by
  rcases ho.sl with ⟨e, _⟩ | ⟨g2, c2, e, _, h2, _⟩
  ·cases e
  ·cases e; exact h2
 have hlt : ltOf (fun x y : Fc.PieceP => sgn intLt x.i y.i) = fun x y => intLt x.i y.i := ltOf_sgn klt_int (fun x : Fc.PieceP => x.i)
 have hcon := AnyQ.slices_SortFunc Tryz.sortP 4 Tryz.isAgg74 Tryz.sizeOf74 (fun x : Fc.PieceP => (Fc.pieceC x).toList) (fun x => rfl) (fun x v hv => (Array.all_eq_true_iff_forall_mem.1 (kdP.one x)) v (by simpa using hv)) (fun x y => sgn intLt x.i y.i) (swo_of klt_int (fun x : Fc.PieceP => x.i)) 80 #[] g 0 cap xs.toArray w (fun args V => enters_of Tryz.func80 (by kernel_rfl) rfl args V) (cmpLaysP g 0 _ w) (holds_own kdP.hk kdP.k0 ho) hg (by simp; omega)
 have hc2 : Calls Tryz.prog 118 #[.slice (some ⟨g, 0, none⟩) xs.length cap, .func (.func 80) #[] #[]] w _ := hcon
 refine hc2.mono ?_
 rintro e w' ⟨rfl, d', m, os, hp, hs, rfl⟩
 obtain ⟨h1, h2, h3⟩ := sorted_out kdP.hk kdP.k0 ho hp m os
 rw [hlt] at hs
 exact ⟨rfl, d'.toList, ⟨h2, sorted_pair _ hs (by have := hp.1; exact Nat.le_of_eq this)⟩, h1, h3⟩
theorem sortP_none (A : Option Addr) (c : Nat) (fv : Value) (w : World) : Calls Tryz.prog 118 #[.slice A 0 c, fv] w fun e w' => e = .returned (.tuple #[]) ∧ w' = w := AnyF.slices_SortFunc_none Tryz.sortP A c fv w
theorem cmpLaysX (blk off size : Nat) (w : World) : CmpLays Tryz.prog 85 #[] (fun x : Fc.XattrP => (Fc.xattrC x).toList) 5 (fun x y => sgn strLt x.name y.name) blk off size w := by
 intro m os dk hs x y
 have h := xattrNames_grew x y (sortWorldK (fun x : Fc.XattrP => (Fc.xattrC x).toList) 5 w blk off m dk os)
 simp only [Array.toArray_toList]
 exact h.mono fun e w' hq => ⟨hq.1, hq.2.grown⟩
theorem sortX_any (B g cap : Nat) (xs : List Fc.XattrP) (hl : xs.length ≤ 1000000) (w : World) (ho : OwnK w B 77 5 Fc.xattrC (.slice (some ⟨g, 0, none⟩) xs.length cap) xs) :
  Calls Tryz.prog 122 #[.slice (some ⟨g, 0, none⟩) xs.length cap, .func (.func 85) #[] #[]] w fun e w' => e = .returned (.tuple #[]) ∧ ∃ ys, SortIs (fun x y : Fc.XattrP => strLt x.name y.name) xs ys ∧ Fc.SRow w' 5 Fc.xattrC (some ⟨g, 0, none⟩) xs.length ys ∧ Chg (· = g) w w' := by
 have hg : g < w.heap.size := by
  rcases ho.sl with ⟨e, _⟩ | ⟨g2, c2, e, _, h2, _⟩
  ·cases e
  ·cases e; exact h2
 have hlt : ltOf (fun x y : Fc.XattrP => sgn strLt x.name y.name) = fun x y => strLt x.name y.name := ltOf_sgn klt_str (fun x : Fc.XattrP => x.name)
 have hcon := AnyQ.slices_SortFunc Tryz.sortX 5 Tryz.isAgg77 Tryz.sizeOf77 (fun x : Fc.XattrP => (Fc.xattrC x).toList) (fun x => rfl) (fun x v hv => (Array.all_eq_true_iff_forall_mem.1 (kdX.one x)) v (by simpa using hv)) (fun x y => sgn strLt x.name y.name) (swo_of klt_str (fun x : Fc.XattrP => x.name)) 85 #[] g 0 cap xs.toArray w (fun args V => enters_of Tryz.func85 (by kernel_rfl) rfl args V) (cmpLaysX g 0 _ w) (holds_own kdX.hk kdX.k0 ho) hg (by simp; omega)
 have hc2 : Calls Tryz.prog 122 #[.slice (some ⟨g, 0, none⟩) xs.length cap, .func (.func 85) #[] #[]] w _ := hcon
 refine hc2.mono ?_
 rintro e w' ⟨rfl, d', m, os, hp, hs, rfl⟩
 obtain ⟨h1, h2, h3⟩ := sorted_out kdX.hk kdX.k0 ho hp m os
 rw [hlt] at hs
 exact ⟨rfl, d'.toList, ⟨h2, sorted_pair _ hs (by have := hp.1; exact Nat.le_of_eq this)⟩, h1, h3⟩
theorem sortX_none (A : Option Addr) (c : Nat) (fv : Value) (w : World) : Calls Tryz.prog 122 #[.slice A 0 c, fv] w fun e w' => e = .returned (.tuple #[]) ∧ w' = w := AnyF.slices_SortFunc_none Tryz.sortX A c fv w
end Go.Proofs.YtblogecapegbmaaGreat.Jn
