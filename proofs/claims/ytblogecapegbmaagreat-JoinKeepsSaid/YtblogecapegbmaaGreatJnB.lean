/- States as one: what comes of it, as data. It hangs neither on order nor on repetition, and goes together in any way. (No program.) -/
import Derived.Test.YtblogecapegbmaaGreatJnA
import Derived.Test.YtblogecapegbmaaGreatFcA
namespace Go.Proofs.YtblogecapegbmaaGreat.Jn
open Go.Proofs.YtblogecapegbmaaGreat.Vc (lessB joinV)
open Go.Proofs.YtblogecapegbmaaGreat.Fc
set_option linter.unusedVariables false set_option linter.unusedSimpArgs false set_option linter.unusedSectionVars false

/-! ### orders -/
def intLt (a b : Int) : Bool := decide (a < b)
theorem klt_int : KLt intLt := ⟨fun a => by simp [intLt], fun h k => by simp [intLt] at *; omega, fun a b h k => by simp [intLt] at *; omega⟩
def natLt (a b : Nat) : Bool := decide (a < b)
theorem klt_nat : KLt natLt := ⟨fun a => by simp [natLt], fun h k => by simp [natLt] at *; omega, fun a b h k => by simp [natLt] at *; omega⟩
def boolLt (a b : Bool) : Bool := !a && b
theorem klt_bool : KLt boolLt := ⟨fun a => by cases a <;> rfl, fun {a b c} h k => by cases a <;> cases b <;> cases c <;> simp [boolLt] at *, fun a b h k => by cases a <;> cases b <;> simp [boolLt] at *⟩
def lexLt {α β : Type} [DecidableEq α] (l1 : α → α → Bool) (l2 : β → β → Bool) (a b : α × β) : Bool := l1 a.1 b.1 || (decide (a.1 = b.1) && l2 a.2 b.2)
theorem klt_lex {α β : Type} [DecidableEq α] {l1 : α → α → Bool} {l2 : β → β → Bool} (h1 : KLt l1) (h2 : KLt l2) : KLt (lexLt l1 l2) := by
 refine ⟨fun a => by simp [lexLt, h1.irr, h2.irr], fun {a b c} h k => ?_, fun a b h k => ?_⟩
 ·simp only [lexLt, Bool.or_eq_true, Bool.and_eq_true, decide_eq_true_eq] at *
  rcases h with h | ⟨e, h⟩ <;> rcases k with k | ⟨f, k⟩
  ·exact .inl (h1.trans h k)
  ·exact .inl (f ▸ h)
  ·exact .inl (e ▸ k)
  ·exact .inr ⟨e.trans f, h2.trans h k⟩
 ·simp only [lexLt, Bool.or_eq_false_iff, Bool.and_eq_false_iff, decide_eq_false_iff_not] at *
  have e := h1.tot _ _ h.1 k.1
  have f : a.2 = b.2 := h2.tot _ _ (by rcases h.2 with q | q; exact absurd e q; exact q) (by rcases k.2 with q | q; exact absurd e.symm q; exact q)
  exact Prod.ext e f
theorem bytes_irr : ∀ x : List UInt8, Op.bytesLess x x = false
 | [] => rfl
 | a :: r => by simp [Op.bytesLess, bytes_irr r]
theorem bytes_trans : ∀ x y z : List UInt8, Op.bytesLess x y = true → Op.bytesLess y z = true → Op.bytesLess x z = true
 | _, _, [], _, h => by simp [Op.bytesLess] at h
 | _, [], _ :: _, h, _ => by simp [Op.bytesLess] at h
 | [], _ :: _, _ :: _, _, _ => rfl
 | a :: x, b :: y, c :: z, h, k => by
  simp only [Op.bytesLess, Bool.or_eq_true, Bool.and_eq_true, beq_iff_eq, decide_eq_true_eq] at *
  rcases h with h | ⟨e, h⟩ <;> rcases k with k | ⟨f, k⟩
  ·exact .inl (UInt8.lt_trans h k)
  ·exact .inl (f ▸ h)
  ·exact .inl (e ▸ k)
  ·exact .inr ⟨e.trans f, bytes_trans x y z h k⟩
theorem bytes_tot : ∀ x y : List UInt8, Op.bytesLess x y = false → Op.bytesLess y x = false → x = y
 | [], [], _, _ => rfl
 | [], _ :: _, h, _ => by simp [Op.bytesLess] at h
 | _ :: _, [], _, h => by simp [Op.bytesLess] at h
 | a :: x, b :: y, h, k => by
  simp only [Op.bytesLess, Bool.or_eq_false_iff, Bool.and_eq_false_iff, beq_eq_false_iff_ne, decide_eq_false_iff_not] at *
  have e : a = b := UInt8.le_antisymm (UInt8.not_lt.1 k.1) (UInt8.not_lt.1 h.1)
  subst e
  have h2 : Op.bytesLess x y = false := by rcases h.2 with q | q; exact absurd rfl q; exact q
  have k2 : Op.bytesLess y x = false := by rcases k.2 with q | q; exact absurd rfl q; exact q
  rw [bytes_tot x y h2 k2]
def strLt (a b : ByteArray) : Bool := Op.bytesLess a.toList b.toList
theorem toList_inj {a b : ByteArray} (h : a.toList = b.toList) : a = b := by
 rw [ByteArray.toList_eq, ByteArray.toList_eq] at h
 cases a; cases b
 simp at h
 rw [h]
theorem klt_str : KLt strLt := ⟨fun a => bytes_irr _, fun h k => bytes_trans _ _ _ h k, fun a b h k => toList_inj (bytes_tot _ _ h k)⟩
abbrev St := Int × Int
def stLt : St → St → Bool := lexLt intLt intLt
theorem klt_st : KLt stLt := klt_lex klt_int klt_int
theorem stLt_less (a b : St) : stLt a b = lessB a.1 a.2 b.1 b.2 := rfl

/-! ### the greater one of two -/
def top {α : Type} (lt : α → α → Bool) (a b : α) : α := if lt a b = true then b else a
theorem top_comm {α : Type} {lt : α → α → Bool} (h : KLt lt) (a b : α) : top lt a b = top lt b a := by
 unfold top
 cases h1 : lt a b with
 | true =>
  cases h2 : lt b a with
  | true => have := h.trans h1 h2; rw [h.irr] at this; cases this
  | false => simp
 | false =>
  cases h2 : lt b a with
  | true => simp
  | false => simp [h.tot a b h1 h2]
theorem top_self {α : Type} (lt : α → α → Bool) (a : α) : top lt a a = a := by unfold top; split <;> rfl
theorem top_assoc {α : Type} {lt : α → α → Bool} (h : KLt lt) (a b c : α) : top lt (top lt a b) c = top lt a (top lt b c) := by
 unfold top
 cases h1 : lt a b with
 | true =>
  cases h2 : lt b c with
  | true => have h3 := h.trans h1 h2; simp [h1, h2, h3]
  | false => simp [h1, h2]
 | false =>
  cases h2 : lt b c with
  | true => simp [h1, h2]
  | false =>
   cases h3 : lt a c with
   | false => simp [h1, h2, h3]
   | true =>
    exfalso
    cases h4 : lt b a with
    | true => have := h.trans h4 h3; rw [h2] at this; cases this
    | false => have := h.tot a b h1 h4; subst this; rw [h2] at h3; cases h3
/-- Those of one key of which the greater one stands. -/
theorem joins_top {α κ ρ : Type} {key : α → κ} {lt : ρ → ρ → Bool} (h : KLt lt) (reg : α → ρ) (hr : ∀ a b, key a = key b → reg a = reg b → a = b) : Joins key (fun a b => if lt (reg a) (reg b) = true then b else a) id := by
 have hreg : ∀ a b, reg (if lt (reg a) (reg b) = true then b else a) = top lt (reg a) (reg b) := fun a b => by unfold top; split <;> rfl
 have hkey : ∀ a b, key a = key b → key (if lt (reg a) (reg b) = true then b else a) = key a := fun a b e => by split; exact e.symm; rfl
 refine ⟨hkey, fun a => rfl, fun a b e => ?_, fun a b c e f => ?_, fun a => by split <;> rfl, fun a b _ => rfl⟩
 ·refine hr _ _ ?_ ?_
  ·rw [hkey a b e, hkey b a e.symm]; exact e
  ·rw [hreg, hreg]; exact top_comm h _ _
 ·refine hr _ _ ?_ ?_
  ·rw [hkey _ c (by rw [hkey a b e]; exact e.trans f), hkey a b e, hkey a _ (by rw [hkey b c f]; exact e)]
  ·rw [hreg, hreg, hreg, hreg]; exact top_assoc h _ _ _
theorem joins_unit {ρ : Type} {lt : ρ → ρ → Bool} (h : KLt lt) : Joins (fun _ : ρ => ()) (top lt) id := ⟨fun _ _ _ => rfl, fun _ => rfl, fun a b _ => top_comm h a b, fun a b c _ _ => top_assoc h a b c, fun a => top_self lt a, fun _ _ _ => rfl⟩
theorem joinV_comm (a b : Nat → Int) : joinV a b = joinV b a := funext fun i => by unfold joinV; split <;> split <;> omega
theorem joinV_self (a : Nat → Int) : joinV a a = a := funext fun i => by unfold joinV; split <;> rfl
theorem joinV_assoc (a b c : Nat → Int) : joinV (joinV a b) c = joinV a (joinV b c) := funext fun i => by unfold joinV; repeat' split <;> first | rfl | omega
theorem joins_vec : Joins (fun _ : Nat → Int => ()) joinV id := ⟨fun _ _ _ => rfl, fun _ => rfl, fun a b _ => joinV_comm a b, fun a b c _ _ => joinV_assoc a b c, fun a => joinV_self a, fun _ _ _ => rfl⟩

/-! ### pieces, xattrs, links, inodes -/
def regP (p : PieceP) : St × ByteArray := (p.at_, p.data)
def ltP : St × ByteArray → St × ByteArray → Bool := lexLt stLt strLt
theorem klt_P : KLt ltP := klt_lex klt_st klt_str
def opP (a b : PieceP) : PieceP := if ltP (regP a) (regP b) = true then b else a
theorem joins_P : Joins PieceP.i opP id := joins_top klt_P regP fun a b e f => by
 cases a; cases b
 simp only [regP, Prod.mk.injEq] at *
 simp [e, f.1, f.2]
def regX (x : XattrP) : St × (Bool × ByteArray) := (x.at_, x.gone, x.val)
def ltX : St × (Bool × ByteArray) → St × (Bool × ByteArray) → Bool := lexLt stLt (lexLt boolLt strLt)
theorem klt_X : KLt ltX := klt_lex klt_st (klt_lex klt_bool klt_str)
def opX (a b : XattrP) : XattrP := if ltX (regX a) (regX b) = true then b else a
theorem joins_X : Joins XattrP.name opX id := joins_top klt_X regX fun a b e f => by
 cases a; cases b
 simp only [regX, Prod.mk.injEq] at *
 simp [e, f.1, f.2.1, f.2.2]
def mrgP : List PieceP → List PieceP := mrg intLt PieceP.i opP id
def mrgX : List XattrP → List XattrP := mrg strLt XattrP.name opX id
def plL (k : LinkP) : St × (St × ByteArray) := (k.at_, k.par, k.name)
def ltL : St × (St × ByteArray) → St × (St × ByteArray) → Bool := lexLt stLt (lexLt stLt strLt)
theorem klt_L : KLt ltL := klt_lex klt_st (klt_lex klt_st klt_str)
def opL (a b : LinkP) : LinkP := ⟨a.id, top stLt a.node b.node, (top ltL (plL a) (plL b)).1, (top ltL (plL a) (plL b)).2.1, (top ltL (plL a) (plL b)).2.2, joinV a.al b.al, joinV a.de b.de⟩
theorem plL_op (a b : LinkP) : plL (opL a b) = top ltL (plL a) (plL b) := rfl
theorem link_ext {a b : LinkP} (h1 : a.id = b.id) (h2 : a.node = b.node) (h3 : plL a = plL b) (h4 : a.al = b.al) (h5 : a.de = b.de) : a = b := by
 cases a; cases b
 simp only [plL, Prod.mk.injEq] at *
 simp [h1, h2, h3.1, h3.2.1, h3.2.2, h4, h5]
theorem joins_L : Joins LinkP.id opL id := by
 refine ⟨fun a b _ => rfl, fun _ => rfl, fun a b e => ?_, fun a b c e f => ?_, fun a => ?_, fun _ _ _ => rfl⟩
 ·exact link_ext e (top_comm klt_st _ _) (by rw [plL_op, plL_op]; exact top_comm klt_L _ _) (joinV_comm _ _) (joinV_comm _ _)
 ·exact link_ext rfl (top_assoc klt_st _ _ _) (by rw [plL_op, plL_op, plL_op, plL_op]; exact top_assoc klt_L _ _ _) (joinV_assoc _ _ _) (joinV_assoc _ _ _)
 ·exact link_ext rfl (top_self _ _) (by rw [plL_op]; exact top_self _ _) (joinV_self _) (joinV_self _)
def mrgL : List LinkP → List LinkP := mrg stLt LinkP.id opL id
def atN (n : NodeP) : St × (Int × Nat) := (n.aat, n.mode, n.time)
def ltA : St × (Int × Nat) → St × (Int × Nat) → Bool := lexLt stLt (lexLt intLt natLt)
theorem klt_A : KLt ltA := klt_lex klt_st (klt_lex klt_int klt_nat)
def szN (n : NodeP) : St × Int := (n.sat, n.n)
def ltZ : St × Int → St × Int → Bool := lexLt stLt intLt
theorem klt_Z : KLt ltZ := klt_lex klt_st klt_int
def opN (a b : NodeP) : NodeP := ⟨a.id, top intLt a.kind b.kind, top strLt a.text b.text, (top ltA (atN a) (atN b)).1, (top ltA (atN a) (atN b)).2.1, (top ltA (atN a) (atN b)).2.2, (top ltZ (szN a) (szN b)).1, (top ltZ (szN a) (szN b)).2, mrgP (a.ps ++ b.ps), mrgX (a.xs ++ b.xs)⟩
def nrmN (a : NodeP) : NodeP := { a with ps := mrgP a.ps, xs := mrgX a.xs }
theorem atN_op (a b : NodeP) : atN (opN a b) = top ltA (atN a) (atN b) := rfl
theorem szN_op (a b : NodeP) : szN (opN a b) = top ltZ (szN a) (szN b) := rfl
theorem node_ext {a b : NodeP} (h1 : a.id = b.id) (h2 : a.kind = b.kind) (h3 : a.text = b.text) (h4 : atN a = atN b) (h5 : szN a = szN b) (h6 : a.ps = b.ps) (h7 : a.xs = b.xs) : a = b := by
 cases a; cases b
 simp only [atN, szN, Prod.mk.injEq] at *
 simp [h1, h2, h3, h4.1, h4.2.1, h4.2.2, h5.1, h5.2, h6, h7]
theorem joins_N : Joins NodeP.id opN nrmN := by
 have cP := fun l l2 : List PieceP => mrg_set klt_int joins_P (l ++ l2) (l2 ++ l) fun z => by simp [or_comm]
 have cX := fun l l2 : List XattrP => mrg_set klt_str joins_X (l ++ l2) (l2 ++ l) fun z => by simp [or_comm]
 have sP := fun l : List PieceP => mrg_set klt_int joins_P (l ++ l) l fun z => by simp
 have sX := fun l : List XattrP => mrg_set klt_str joins_X (l ++ l) l fun z => by simp
 have fP := fun l l2 : List PieceP => mrg_flat klt_int joins_P l l2
 have fX := fun l l2 : List XattrP => mrg_flat klt_str joins_X l l2
 have gP := fun l l2 : List PieceP => mrg_flat2 klt_int joins_P l l2
 have gX := fun l l2 : List XattrP => mrg_flat2 klt_str joins_X l l2
 refine ⟨fun a b _ => rfl, fun _ => rfl, fun a b e => ?_, fun a b c e f => ?_, fun a => ?_, fun a b e => ?_⟩
 ·exact node_ext e (top_comm klt_int _ _) (top_comm klt_str _ _) (by rw [atN_op, atN_op]; exact top_comm klt_A _ _) (by rw [szN_op, szN_op]; exact top_comm klt_Z _ _) (cP _ _) (cX _ _)
 ·exact node_ext rfl (top_assoc klt_int _ _ _) (top_assoc klt_str _ _ _) (by simp only [atN_op]; exact top_assoc klt_A _ _ _) (by simp only [szN_op]; exact top_assoc klt_Z _ _ _)
   ((fP _ _).trans (by rw [List.append_assoc]; exact (gP _ _).symm)) ((fX _ _).trans (by rw [List.append_assoc]; exact (gX _ _).symm))
 ·exact node_ext rfl (top_self _ _) (top_self _ _) (by rw [atN_op]; exact top_self _ _) (by rw [szN_op]; exact top_self _ _) (sP _) (sX _)
 ·exact node_ext rfl rfl rfl rfl rfl (fP _ _) (fX _ _)
def mrgN : List NodeP → List NodeP := mrg stLt NodeP.id opN nrmN
/-- Two states as one. -/
def joinP (a b : StateP) : StateP := ⟨joinV a.seen b.seen, mrgN (a.nodes ++ b.nodes), mrgL (a.links ++ b.links)⟩
theorem joinP_comm (a b : StateP) : joinP a b = joinP b a := by
 unfold joinP
 have h1 : mrgN (a.nodes ++ b.nodes) = mrgN (b.nodes ++ a.nodes) := mrg_set klt_st joins_N _ _ fun z => by simp [or_comm]
 have h2 : mrgL (a.links ++ b.links) = mrgL (b.links ++ a.links) := mrg_set klt_st joins_L _ _ fun z => by simp [or_comm]
 rw [joinV_comm, h1, h2]
theorem joinP_assoc (a b c : StateP) : joinP (joinP a b) c = joinP a (joinP b c) := by
 unfold joinP
 have h1 : mrgN (mrgN (a.nodes ++ b.nodes) ++ c.nodes) = mrgN (a.nodes ++ mrgN (b.nodes ++ c.nodes)) := by
  have e1 : mrgN (mrgN (a.nodes ++ b.nodes) ++ c.nodes) = mrgN (a.nodes ++ b.nodes ++ c.nodes) := mrg_flat klt_st joins_N _ _
  have e2 : mrgN (a.nodes ++ mrgN (b.nodes ++ c.nodes)) = mrgN (a.nodes ++ (b.nodes ++ c.nodes)) := mrg_flat2 klt_st joins_N _ _
  rw [e1, e2, List.append_assoc]
 have h2 : mrgL (mrgL (a.links ++ b.links) ++ c.links) = mrgL (a.links ++ mrgL (b.links ++ c.links)) := by
  have e1 : mrgL (mrgL (a.links ++ b.links) ++ c.links) = mrgL (a.links ++ b.links ++ c.links) := mrg_flat klt_st joins_L _ _
  have e2 : mrgL (a.links ++ mrgL (b.links ++ c.links)) = mrgL (a.links ++ (b.links ++ c.links)) := mrg_flat2 klt_st joins_L _ _
  rw [e1, e2, List.append_assoc]
 simp only [joinV_assoc, h1, h2]
theorem joinP_again (a b : StateP) : joinP (joinP a b) a = joinP a b := by
 unfold joinP
 have h1 : mrgN (mrgN (a.nodes ++ b.nodes) ++ a.nodes) = mrgN (a.nodes ++ b.nodes) := by
  have e1 : mrgN (mrgN (a.nodes ++ b.nodes) ++ a.nodes) = mrgN (a.nodes ++ b.nodes ++ a.nodes) := mrg_flat klt_st joins_N _ _
  have e2 : mrgN (a.nodes ++ b.nodes ++ a.nodes) = mrgN (a.nodes ++ b.nodes) := mrg_set klt_st joins_N _ _ fun z => by simp only [List.mem_append]; exact ⟨fun q => q.elim id Or.inl, Or.inl⟩
  rw [e1, e2]
 have h2 : mrgL (mrgL (a.links ++ b.links) ++ a.links) = mrgL (a.links ++ b.links) := by
  have e1 : mrgL (mrgL (a.links ++ b.links) ++ a.links) = mrgL (a.links ++ b.links ++ a.links) := mrg_flat klt_st joins_L _ _
  have e2 : mrgL (a.links ++ b.links ++ a.links) = mrgL (a.links ++ b.links) := mrg_set klt_st joins_L _ _ fun z => by simp only [List.mem_append]; exact ⟨fun q => q.elim id Or.inl, Or.inl⟩
  rw [e1, e2]
 simp only [h1, h2]
 rw [joinV_comm a.seen b.seen, joinV_assoc, joinV_self]
theorem joinP_twice (a b : StateP) : joinP (joinP a b) (joinP a b) = joinP a b := by
 rw [← joinP_assoc, joinP_again, joinP_comm a b, joinP_again]
end Go.Proofs.YtblogecapegbmaaGreat.Jn
