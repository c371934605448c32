/- Join: rows as one, in order, one of each key. -/
import Derived.Test.YtblogecapegbmaaGreatJnH
namespace Go.Proofs.YtblogecapegbmaaGreat.Jn
open Go.RowKit Go.Proofs.YtblogecapegbmaaGreat.Mem Go.Sort
set_option linter.unusedVariables false set_option linter.unusedSimpArgs false set_option linter.unusedSectionVars false

/-- What stays of the structs of a row, whatever grows. -/
def Keeps {α : Type} (B : Nat) (E : TypeId) (k : Nat) (C : α → Array Value) (Q : World → α → Prop) : Prop :=
 (∀ V V' y, Q V y → Below V.heap.size V V' → Q V' y) ∧ ∀ V V' (u : Value) (es : List α) y, OwnK V B E k C u es → Chg (fun q => u.ownBlock = some q) V V' → Q V y → Q V' y
/-- What a call makes of those of one key. -/
def OneIs {α β κ : Type} (w : World) (P : Program) (F : FuncId) (k : Nat) (C : α → Array Value) (π : α → β) (key : β → κ) (op : β → β → β) (nrm : β → β) (Q : World → α → Prop) (xs : List α) : Prop :=
 ∀ V, Below w.heap.size w V → ∀ A n c (x : α) (r : List α), n ≤ 1000000 → (∃ ys : List α, ys.Perm xs ∧ (x :: r).Sublist ys) → (∀ z ∈ r, key (π z) = key (π x)) → Fc.SRow V k C A n (x :: r) → Calls P F #[.slice A n c] V fun e V' => ∃ y, e = .returned (.agg (C y)) ∧ π y = (r.map π).foldl op (nrm (π x)) ∧ Q V' y ∧ Below V.heap.size V V'
def AllIs (g k p N cap : Nat) (a : Value) : Prop := (p < N → a = .slice (some ⟨g, p * k, none⟩) (N - p) (cap - p)) ∧ (p = N → ∃ A c, a = .slice A 0 c)
def Cut {α κ : Type} (lt : κ → κ → Bool) (key : α → κ) (zs : List α) (p : Nat) : Prop := ∀ d ∈ zs.take p, ∀ e ∈ zs.drop p, lt (key d) (key e) = true
def Grp {α κ : Type} (key : α → κ) (zs : List α) (p m : Nat) : Prop := ∀ t (h : t < zs.length) (h2 : p < zs.length), p ≤ t → t < p + m → key zs[t] = key zs[p]
theorem Grp.one {α κ : Type} (key : α → κ) (zs : List α) (p : Nat) : Grp key zs p 1 := fun t h h2 a b => by
 have : t = p := by omega
 subst this
 rfl
section
variable {α β κ : Type} [DecidableEq κ] {lt : κ → κ → Bool} {key : α → κ} {zs : List α} {p m : Nat} {x y : α} {rr : List α}
theorem drop_head (hd : zs.drop p = x :: rr) : ∃ h : p < zs.length, zs[p] = x := by
 have hl : p < zs.length := by
  by_cases h : p < zs.length
  ·exact h
  ·rw [List.drop_of_length_le (by omega)] at hd
   cases hd
 refine ⟨hl, ?_⟩
 rw [List.drop_eq_getElem_cons hl] at hd
 exact (List.cons.inj hd).1
theorem drop_at (hd : zs.drop p = x :: rr) (j : Nat) : zs[p + j]? = (x :: rr)[j]? := by rw [← hd, List.getElem?_drop]
theorem rest_at (hd : zs.drop p = x :: rr) (h1 : 1 ≤ m) (h2 : m - 1 < rr.length) (hy : y = rr[m - 1]) (h : p + m < zs.length := by omega) : zs[p + m] = y := by
 have e := drop_at hd m
 rw [List.getElem?_eq_getElem h] at e
 obtain ⟨i, rfl⟩ : ∃ i, m = i + 1 := ⟨m - 1, by omega⟩
 rw [List.getElem?_cons_succ, List.getElem?_eq_getElem (by simpa using h2)] at e
 rw [hy]
 exact Option.some.inj e
theorem Grp.next (h : Grp key zs p m) (hl : p + m < zs.length) (hat : zs[p + m] = y) (hd : zs.drop p = x :: rr) (hk : key x = key y) : Grp key zs p (m + 1) := fun t ht h2 a b => by
 by_cases e : t = p + m
 ·subst e
  obtain ⟨_, e2⟩ := drop_head hd
  rw [hat, e2, hk]
 ·exact h t ht h2 a (by omega)
theorem grp_end (key : α → κ) (hat : ∀ {h : p + m < zs.length}, zs[p + m] = y) (hd : zs.drop p = x :: rr) (hk : ¬ key x = key y) : ∀ h : p + m < zs.length, key zs[p + m] ≠ key (zs[p]'(by omega)) := fun h e => by
 obtain ⟨_, e2⟩ := drop_head hd
 rw [hat, e2] at e
 exact hk e.symm
theorem cut_next (hK : KLt lt) (hs : zs.Pairwise fun a b => lt (key b) (key a) = false) (h1 : 1 ≤ m) (hpm : p + m ≤ zs.length) (hc : Cut lt key zs p) (hg : Grp key zs p m) (hend : ∀ h : p + m < zs.length, key zs[p + m] ≠ key (zs[p]'(by omega))) : Cut lt key zs (p + m) := by
 intro d hd e he
 obtain ⟨i, hi, rfl⟩ := List.mem_iff_getElem.1 hd
 obtain ⟨j, hj, rfl⟩ := List.mem_iff_getElem.1 he
 rw [List.length_take] at hi
 rw [List.length_drop] at hj
 rw [List.getElem_take, List.getElem_drop]
 rw [List.pairwise_iff_getElem] at hs
 by_cases hip : i < p
 ·refine hc _ ?_ _ ?_
  ·exact List.mem_iff_getElem.2 ⟨i, by rw [List.length_take]; omega, by rw [List.getElem_take]⟩
  ·exact List.mem_iff_getElem.2 ⟨m + j, by rw [List.length_drop]; omega, by rw [List.getElem_drop]; congr 1; omega⟩
 ·have hpl : p < zs.length := by omega
  have hml : p + m < zs.length := by omega
  rw [hg i (by omega) hpl (by omega) (by omega)]
  have a1 := hs p (p + m) hpl hml (by omega)
  have a2 : lt (key zs[p]) (key zs[p + m]) = true := by
   cases q : lt (key zs[p]) (key zs[p + m]) with
   | true => rfl
   | false => exact absurd (hK.tot _ _ a1 q) (hend hml)
  by_cases hj0 : j = 0
  ·subst hj0
   exact a2
  ·have a3 := hs (p + m) (p + m + j) hml (by omega) (by omega)
   cases q : lt (key zs[p]) (key zs[p + m + j]) with
   | true => rfl
   | false =>
    cases q2 : lt (key zs[p + m + j]) (key zs[p]) with
    | true => have := hK.trans q2 a2; rw [a3] at this; cases this
    | false =>
     have e := hK.tot _ _ q q2
     rw [e, a3] at a2
     cases a2
theorem grp_sub (hd : zs.drop p = x :: rr) : (x :: rr.take (m - 1)).Sublist zs := (List.Sublist.cons_cons x (List.take_sublist (m - 1) rr)).trans (hd ▸ List.drop_sublist p zs)
theorem take_cons (h1 : 1 ≤ m) : (x :: rr).take m = x :: rr.take (m - 1) := by
 obtain ⟨i, rfl⟩ : ∃ i, m = i + 1 := ⟨m - 1, by omega⟩
 rfl
theorem grp_keys {key : α → κ} (hpm : p + m ≤ zs.length) (hd : zs.drop p = x :: rr) (hg : Grp key zs p m) : ∀ z ∈ rr.take (m - 1), key z = key x := fun a ha => by
 obtain ⟨hpl, e2⟩ := drop_head hd
 obtain ⟨j, hj, rfl⟩ := List.mem_iff_getElem.1 ha
 rw [List.length_take] at hj
 have e := drop_at hd (j + 1)
 rw [List.getElem?_cons_succ, List.getElem?_eq_getElem (by omega : j < rr.length)] at e
 obtain ⟨hl, e3⟩ := List.getElem?_eq_some_iff.1 e
 rw [List.getElem_take, ← e3, ← e2]
 exact hg (p + (j + 1)) hl hpl (by omega) (by omega)
theorem is_next {key : β → κ} {op : β → β → β} {nrm : β → β} {π : α → β} (hK : KLt lt) (hJ : Joins key op nrm) (h1 : 1 ≤ m) (hpm : p + m ≤ zs.length) (hd : zs.drop p = x :: rr) (hc : Cut lt (fun x => key (π x)) zs p) (hg : Grp (fun x => key (π x)) zs p m) :
  mrg lt key op nrm ((zs.take (p + m)).map π) = mrg lt key op nrm ((zs.take p).map π) ++ [((rr.take (m - 1)).map π).foldl op (nrm (π x))] := by
 obtain ⟨hpl, e2⟩ := drop_head hd
 have e1 : zs.take (p + m) = zs.take p ++ x :: rr.take (m - 1) := by rw [List.take_add, hd, take_cons h1]
 rw [e1, List.map_append, List.map_cons]
 refine mrg_group hK hJ _ _ _ (fun d hdm => ?_) (fun z hz => ?_)
 ·obtain ⟨a, ha, rfl⟩ := List.mem_map.1 hdm
  exact hc a ha x (by rw [hd]; exact List.mem_cons_self)
 ·obtain ⟨a, ha, rfl⟩ := List.mem_map.1 hz
  obtain ⟨j, hj, rfl⟩ := List.mem_iff_getElem.1 ha
  rw [List.length_take] at hj
  have e := drop_at hd (j + 1)
  rw [List.getElem?_cons_succ, List.getElem?_eq_getElem (by omega : j < rr.length)] at e
  obtain ⟨hl, e3⟩ := List.getElem?_eq_some_iff.1 e
  rw [List.getElem_take, ← e3, ← e2]
  exact hg (p + (j + 1)) hl hpl (by omega) (by omega)
end
section
variable {α : Type} {k : Nat} {C : α → Array Value} {w w' : World} {g off N p m n : Nat} {x y : α} {rr zs : List α}
theorem row_rest (h : Fc.SRow w k C (some ⟨g, 0, none⟩) N zs) (hd : zs.drop p = x :: rr) : Fc.SRow w k C (some ⟨g, p * k, none⟩) (N - p) (x :: rr) := by
 rw [← hd]
 refine ⟨by rw [List.length_drop, h.len], fun hn => ?_⟩
 obtain ⟨b, off, e, hl, hx⟩ := h.cells (by omega)
 cases e
 refine ⟨g, p * k, rfl, hl, fun j hj c v hv => ?_⟩
 have hj2 : p + j < zs.length := by rw [List.length_drop] at hj; omega
 rw [List.getElem_drop] at hv
 have := hx (p + j) hj2 c v hv
 rwa [Nat.zero_add, Nat.add_mul] at this
theorem group_row (h1 : 1 ≤ m) (h2 : m ≤ n) (h : Fc.SRow w k C (some ⟨g, off, none⟩) n (x :: rr)) (hb : Below w.heap.size w w') : Fc.SRow w' k C (some ⟨g, off, none⟩) m (x :: rr.take (m - 1)) := by
 have h3 := h.below hb
 rw [← take_cons h1]
 refine ⟨by rw [List.length_take, h3.len]; omega, fun hn => ?_⟩
 obtain ⟨b', off', e, hl, hx⟩ := h3.cells (by omega)
 refine ⟨b', off', e, hl, fun j hj c v hv => ?_⟩
 have hj2 : j < (x :: rr).length := by rw [List.length_take] at hj; omega
 rw [List.getElem_take] at hv
 exact hx j hj2 c v hv
theorem rest_range0 (h : Fc.SRow w k C (some ⟨g, off, none⟩) n (x :: rr)) (hb : Below w.heap.size w w') : w'.rangeAt g off (C x).toList := by
 obtain ⟨b, o, e, _, _, mr⟩ := (h.below hb).range (i := 0) (by rw [← h.len]; exact Nat.succ_pos _)
 cases e
 rw [Nat.zero_mul, Nat.add_zero] at mr
 exact mr
theorem rest_range (h : Fc.SRow w k C (some ⟨g, off, none⟩) n (x :: rr)) (hb : Below w.heap.size w w') (h1 : 1 ≤ m) (h2 : m - 1 < rr.length) (hy : y = rr[m - 1]) : w'.rangeAt g (off + m * k) (C y).toList := by
 obtain ⟨b, o, e, _, hx, mr⟩ := (h.below hb).range (i := m) (by rw [← h.len]; simp; omega)
 cases e
 obtain ⟨i, rfl⟩ : ∃ i, m = i + 1 := ⟨m - 1, by omega⟩
 rw [List.getElem_cons_succ] at mr
 rw [hy]
 exact mr
theorem all_next {cap nn cc : Nat} (hoff : off = p * k) (hn : nn = N - p) (hc : cc = cap - p) : Value.slice (some ⟨g, off + m * k, none⟩) (nn - m) (cc - m) = Value.slice (some ⟨g, (p + m) * k, none⟩) (N - (p + m)) (cap - (p + m)) := by
 have e1 : nn - m = N - (p + m) := by omega
 have e2 : cc - m = cap - (p + m) := by omega
 rw [hoff, ← Nat.add_mul, e1, e2]
theorem self_zero (h : 0 < n) : ((0 : Int) ≤ (0 : Int) ∧ (0 : Int) < (n : Int)) ∧ (0 : Int).toNat = 0 := ⟨⟨by omega, by omega⟩, rfl⟩
end
/-- What merge's loop keeps. -/
structure MrgI {α β κ : Type} [DecidableEq κ] (w wr : World) (E : TypeId) (k : Nat) (C : α → Array Value) (π : α → β) (lt : κ → κ → Bool) (key : β → κ) (op : β → β → β) (nrm : β → β) (Q : World → α → Prop) (zs : List α) (p : Nat) (ys : List α) (u : Value) : Prop where
 below : Below w.heap.size w wr
 row : OwnK wr w.heap.size E k C u ys
 is_ : ys.map π = mrg lt key op nrm ((zs.take p).map π)
 q : ∀ y ∈ ys, Q wr y
 few : ys.length ≤ p
section
variable {α β κ : Type} [DecidableEq κ] {w wr w2 : World} {E : TypeId} {k : Nat} {C : α → Array Value} {π : α → β} {lt : κ → κ → Bool} {key : β → κ} {op : β → β → β} {nrm : β → β} {Q : World → α → Prop} {zs : List α} {p : Nat} {ys : List α} {u : Value}
theorem MrgI.start (w : World) (E : TypeId) (k : Nat) (C : α → Array Value) (π : α → β) (lt : κ → κ → Bool) (key : β → κ) (op : β → β → β) (nrm : β → β) (Q : World → α → Prop) (zs : List α) : MrgI w w E k C π lt key op nrm Q zs 0 [] (.slice none 0 0) := ⟨Below.refl _ _, OwnK.nil _ _ _ _ _, rfl, fun y hy => by (cases hy), Nat.le_refl _⟩
theorem MrgI.low (h : MrgI w wr E k C π lt key op nrm Q zs p ys u) (hq : ∀ V V' y, Q V y → Below V.heap.size V V' → Q V' y) (hb : Below wr.heap.size wr w2) : MrgI w w2 E k C π lt key op nrm Q zs p ys u :=
 ⟨h.below.trans (hb.mono h.below.size), h.row.below hb, h.is_, fun y hy => hq _ _ _ (h.q y hy) hb, h.few⟩
theorem MrgI.grew (h : MrgI w wr E k C π lt key op nrm Q zs p ys u) (hq : ∀ V V' (u : Value) (es : List α) y, OwnK V w.heap.size E k C u es → Chg (fun q => u.ownBlock = some q) V V' → Q V y → Q V' y) {u2 : Value} {y : α} (hg : GrewK w.heap.size wr w2 E k C u u2 ys [y]) (hy : Q wr y) {m : Nat} (h1 : 1 ≤ m)
  (he : mrg lt key op nrm ((zs.take (p + m)).map π) = mrg lt key op nrm ((zs.take p).map π) ++ [π y]) : MrgI w w2 E k C π lt key op nrm Q zs (p + m) (ys ++ [y]) u2 :=
 ⟨h.below.trans hg.below, hg.row, by rw [List.map_append, h.is_, he]; rfl, fun z hz => by
  rcases List.mem_append.1 hz with hz | hz
  ·exact hq _ _ _ _ _ h.row hg.chg (h.q z hz)
  ·rw [List.mem_singleton.1 hz]; exact hq _ _ _ _ _ h.row hg.chg hy, by have := h.few; simp; omega⟩
end
def lenOf : Value → Nat
 | .slice _ n _ => n
 | _ => 0
set_option maxRecDepth 100000 in
set_option maxHeartbeats 8000000 in
theorem mergeN_any (T d : Nat) (ps : List (RowP Fc.NodeC)) (hlen : ps.length ≤ 500000) (hsum : sumR ps ≤ 500000) (w : World) (hp : RowsAt w T ps) (hps : ∀ p ∈ ps, RowOk w 13 Fc.nodeC p) (Q : World → Fc.NodeC → Prop) (hqs : Keeps w.heap.size 46 13 Fc.nodeC Q) (hone : OneIs w Tryz.prog 41 13 Fc.nodeC Fc.NodeC.p (Fc.NodeP.id) (opN) (nrmN) Q (allR ps)) :
  Calls Tryz.prog 39 #[.func (.func 40) #[] #[], .func (.func 41) #[] #[], .slice (some ⟨T, 0, none⟩) ps.length d] w fun e w' => ∃ v ys, e = .returned v ∧ OwnK w' w.heap.size 46 13 Fc.nodeC v ys ∧ ys.map Fc.NodeC.p = mrg stLt Fc.NodeP.id opN nrmN ((allR ps).map Fc.NodeC.p) ∧ (∀ y ∈ ys, Q w' y) ∧ Below w.heap.size w w' := by
 have HCC := Lib.hid (concatN_any T d ps hlen hsum w hp hps)
 have HAL := Lib.hid (show (allR ps).length ≤ 500000 by rw [allR_len hps]; exact hsum)
 replace hqs := Lib.hid hqs
 replace hone := Lib.hid hone
 clear hp hps hlen hsum
 go_enter Tryz.func39, Tryz.ntmps39
 go_wp2_with fail
 refine HCC.out.mono ?_
 rintro e w1 ⟨v, rfl, ho, hb⟩
 have HB1 := Lib.hid hb
 generalize hall : allR ps = xs at *
 have HALL := Lib.hid hall
 clear hall
 rcases ho.sl with ⟨rfl, hnil⟩ | ⟨g, cap, rfl, hg1, hg2, hcap, hcm⟩
 ·have HS := Lib.hid (sortN_none none 0 (.func (.func 40) #[] #[]) w1)
  have HNIL := Lib.hid hnil
  clear hb ho HCC hnil
  go_wp2_with fail
  refine HS.out.mono ?_
  rintro e w2 ⟨rfl, rfl⟩
  go_wp2
  refine wp_loop_rounds 1 ?_
  rw [rounds_succ]
  go_wp2
  go_ret
  exact ⟨_, [], rfl, OwnK.nil _ _ _ _ _, by rw [HALL.out, HNIL.out]; rfl, (fun y hy => by cases hy), HB1.out⟩
 ·have HS := Lib.hid (sortN_any w.heap.size g cap xs (by have := HAL.out; omega) w1 ho)
  have HG1 := Lib.hid hg1
  have HG2 := Lib.hid hg2
  have HCAP := Lib.hid hcm
  clear hb ho HCC hg1 hg2 hcm
  generalize hN : xs.length = N at *
  have HN := Lib.hid hN
  clear hN
  go_wp2_with fail
  refine HS.out.mono ?_
  rintro e w3 ⟨rfl, zs, hso, hrow, hchg⟩
  have HB3 := Lib.hid (below_step HB1.out hchg HG1.out)
  have HGW := Lib.hid (show g < w3.heap.size from Nat.lt_of_lt_of_le HG2.out hchg.size)
  have HROW := Lib.hid hrow
  have HSORT := Lib.hid hso.ord
  have HZN := Lib.hid (show zs.length = N from hrow.len)
  have HPERM := Lib.hid hso.perm
  clear hso hrow hchg HS HB1
  go_wp2
  go_loopw [7, 8] (fun a u wr => ∃ (p : Nat) (ys : List Fc.NodeC), p ≤ N ∧ Hid (AllIs g 13 p N cap a) ∧ Hid (Cut (stLt) (fun x : Fc.NodeC => Fc.NodeP.id (Fc.NodeC.p x)) zs p) ∧ Hid (MrgI w3 wr 46 13 Fc.nodeC Fc.NodeC.p (stLt) (Fc.NodeP.id) (opN) (nrmN) Q zs p ys u)) (fun a u _ => lenOf a)
  case atStart => exact ⟨0, [], Nat.zero_le _, Lib.hid ⟨fun _ => by simp, fun h => ⟨_, _, by rw [← h]⟩⟩, Lib.hid (fun d hd => by cases hd), Lib.hid (MrgI.start _ _ _ _ _ _ _ _ _ _ _)⟩
  case round =>
   obtain ⟨p, ys, hpN, HA, HCUT, HI⟩ := hrel
   obtain ⟨A8, c8, rfl, _⟩ := HI.out.row.any
   by_cases hlt : p < N
   ·have ha := HA.out.1 hlt
    subst ha
    obtain ⟨x, hx⟩ : ∃ x, x = zs[p]'(by have := HZN.out; omega) := ⟨_, rfl⟩
    obtain ⟨rr, hrr⟩ : ∃ rr, rr = zs.drop (p + 1) := ⟨_, rfl⟩
    have HDR := Lib.hid (show zs.drop p = x :: rr by rw [hx, hrr]; exact List.drop_eq_getElem_cons (by have := HZN.out; omega))
    have HRW := Lib.hid (show Fc.SRow w3 13 Fc.nodeC (some ⟨g, p * 13, none⟩) (N - p) (x :: rr) from row_rest HROW.out HDR.out)
    obtain ⟨off, hoff⟩ : ∃ off, off = p * 13 := ⟨_, rfl⟩
    rw [← hoff] at HRW
    have HOFF := Lib.hid hoff
    simp only [← hoff]
    obtain ⟨nn, hnn⟩ : ∃ nn, nn = N - p := ⟨_, rfl⟩
    obtain ⟨cc, hcc⟩ : ∃ cc, cc = cap - p := ⟨_, rfl⟩
    rw [← hnn] at HRW
    simp only [← hnn, ← hcc]
    have HRL := Lib.hid (show rr.length + 1 = nn by have := HRW.out.len; simpa using this)
    have HNN := Lib.hid hnn
    have HCP := Lib.hid hcc
    have q1 : nn ≤ cc := by omega
    have q2 : cc ≤ 9223372036854775807 := by have := HCAP.out; unfold Go.maxLen at this; omega
    have q3 : 0 < nn := by omega
    clear hx hrr hoff hnn hcc HA
    go_wp2
    go_loopw [9] (fun i wi => ∃ m : Nat, i = .int .i64 m ∧ 1 ≤ m ∧ m ≤ nn ∧ Hid (Grp (fun x : Fc.NodeC => Fc.NodeP.id (Fc.NodeC.p x)) zs p m) ∧ Hid (MrgI w3 wi 46 13 Fc.nodeC Fc.NodeC.p (stLt) (Fc.NodeP.id) (opN) (nrmN) Q zs p ys (.slice A8 ys.length c8))) (fun i _ => nn - (intOf i).toNat)
    case atStart => exact ⟨1, rfl, Nat.le_refl _, by omega, Lib.hid (Grp.one _ _ _), HI⟩
    case round =>
     clear HI
     obtain ⟨m, rfl, hm1, hm2, HGRP, HI⟩ := hrel
     by_cases hml : m < nn
     ·obtain ⟨y, hy⟩ : ∃ y, y = rr[m - 1]'(by have := HRL.out; omega) := ⟨_, rfl⟩
      have HAT := Lib.hid (show zs[p + m]'(by have z1 := HZN.out; have z2 := HRL.out; have z3 := HNN.out; omega) = y from rest_at HDR.out hm1 (by have := HRL.out; omega) hy (by have z1 := HZN.out; have z2 := HRL.out; have z3 := HNN.out; omega))
      have HX0 := Lib.hid (self_zero (n := nn) q3)
      have HXM := Lib.hid (self_row (j := m) (n := nn) hml)
      have MX := Lib.hid (rest_range0 HRW.out HI.out.below)
      have MR := Lib.hid (rest_range HRW.out HI.out.below hm1 (by have := HRL.out; omega) hy)
      have HGL := Lib.hid (show g < wr.heap.size from Nat.lt_of_lt_of_le HGW.out HI.out.below.size)
      have ho := fun V => nodeIds_grew x y V
      have hzz := sgn_zero klt_st (Fc.NodeP.id (Fc.NodeC.p x)) (Fc.NodeP.id (Fc.NodeC.p y))
      obtain ⟨z, hze⟩ : ∃ z, z = sgn stLt (Fc.NodeP.id (Fc.NodeC.p x)) (Fc.NodeP.id (Fc.NodeC.p y)) := ⟨_, rfl⟩
      rw [← hze] at hzz
      have HO := Lib.hid (show ∀ V, Calls Tryz.prog 40 #[.agg (Fc.nodeC x), .agg (Fc.nodeC y)] V fun e V' => e = .returned (.int .i64 z) ∧ Grows V V' by rw [hze]; exact ho)
      have HZ := Lib.hid hzz
      clear hy ho hzz hze
      go_wp2
      refine wp_region_held_drew (S := fun V => V.rangeAt g off (Fc.nodeC x).toList ∧ V.rangeAt g (off + m * 13) (Fc.nodeC y).toList) (by kernel_rfl) ⟨MX.out, MR.out⟩ (fun hHeld => ?_)
      refine Vc.wpAnyH_rd (i := 0) (d := some 18) (v := ?v1) ?hy1 ?rest1
      case hy1 =>
       intro w hSw
       go_simp
       try with_reducible rfl
      (try simp only [Act.put, List.setIfInBounds_toArray, List.set_cons_zero, List.set_cons_succ])
      refine Vc.wpAnyH_rd (i := 1) (d := some 19) (v := ?v2) ?hy2 ?rest2
      case hy2 =>
       intro w hSw
       go_simp
       try with_reducible rfl
      (try simp only [Act.put, List.setIfInBounds_toArray, List.set_cons_zero, List.set_cons_succ])
      refine Vc.wpAnyH_rd (i := 2) (d := some 20) (v := ?v3) ?hy3 ?rest3
      case hy3 =>
       intro w hSw
       go_simp
       try with_reducible rfl
      (try simp only [Act.put, List.setIfInBounds_toArray, List.set_cons_zero, List.set_cons_succ])
      refine Vc.wpAnyH_rd (i := 3) (d := some 21) (v := .bool true) ?hy4 ?rest4
      case hy4 =>
       intro w hSw
       go_simp
       all_goals first | rfl | (simp only [decide_eq_true_eq, decide_eq_false_iff_not]; omega)
      (try simp only [Act.put, List.setIfInBounds_toArray, List.set_cons_zero, List.set_cons_succ])
      refine Vc.wpAnyH_rd (i := 4) (d := some 22) (v := ?v5) ?hy5 ?rest5
      case hy5 =>
       intro w hSw
       go_simp
       try with_reducible rfl
      (try simp only [Act.put, List.setIfInBounds_toArray, List.set_cons_zero, List.set_cons_succ])
      refine Vc.wpAnyH_rd (i := 5) (d := some 23) (v := ?v6) ?hy6 ?rest6
      case hy6 =>
       intro w hSw
       go_simp
       try with_reducible rfl
      (try simp only [Act.put, List.setIfInBounds_toArray, List.set_cons_zero, List.set_cons_succ])
      refine Vc.wpAnyH_rd (i := 6) (d := some 24) (v := ?v7) ?hy7 ?rest7
      case hy7 =>
       intro w hSw
       go_simp
       try with_reducible rfl
      (try simp only [Act.put, List.setIfInBounds_toArray, List.set_cons_zero, List.set_cons_succ])
      refine Vc.wpAnyH_rd (i := 7) (d := some 25) (v := .pointer (some ⟨g, off, none⟩)) ?hy8 ?rest8
      case hy8 =>
       intro w hSw
       go_simp
       all_goals first | (rw [if_pos HX0.out.1, HX0.out.2]) | (intro hh; exfalso; omega) | (intro hh; exfalso; have hh2 := hh (by omega); omega)
      (try simp only [Act.put, List.setIfInBounds_toArray, List.set_cons_zero, List.set_cons_succ])
      refine Vc.wpAnyH_rd (i := 8) (d := some 26) (v := .agg (Fc.nodeC x)) ?hy9 ?rest9
      case hy9 =>
       intro w hSw
       exact Who.exec_loadA _ rfl rfl hSw.1 Tryz.underlying46 rfl infoN
      (try simp only [Act.put, List.setIfInBounds_toArray, List.set_cons_zero, List.set_cons_succ])
      refine Vc.wpAnyH_rd (i := 9) (d := some 27) (v := ?v10) ?hy10 ?rest10
      case hy10 =>
       intro w hSw
       go_simp
       try with_reducible rfl
      (try simp only [Act.put, List.setIfInBounds_toArray, List.set_cons_zero, List.set_cons_succ])
      refine Vc.wpAnyH_rd (i := 10) (d := some 28) (v := ?v11) ?hy11 ?rest11
      case hy11 =>
       intro w hSw
       go_simp
       try with_reducible rfl
      (try simp only [Act.put, List.setIfInBounds_toArray, List.set_cons_zero, List.set_cons_succ])
      refine Vc.wpAnyH_rd (i := 11) (d := some 29) (v := .pointer (some ⟨g, off + m * 13, none⟩)) ?hy12 ?rest12
      case hy12 =>
       intro w hSw
       go_simp
       all_goals first | (rw [if_pos HXM.out.1, HXM.out.2]) | (intro hh; exfalso; omega) | (intro hh; exfalso; have hh2 := hh (by omega); omega)
      (try simp only [Act.put, List.setIfInBounds_toArray, List.set_cons_zero, List.set_cons_succ])
      refine Vc.wpAnyH_rd (i := 12) (d := some 30) (v := .agg (Fc.nodeC y)) ?hy13 ?rest13
      case hy13 =>
       intro w hSw
       exact Who.exec_loadA _ rfl rfl hSw.2 Tryz.underlying46 rfl infoN
      (try simp only [Act.put, List.setIfInBounds_toArray, List.set_cons_zero, List.set_cons_succ])
      refine wpAnyH_ready (rs := [13]) (by kernel_rfl) (by simp) ?_
      refine AllReadyH.cons rfl (fun K hK => ?_) AllReadyH.nil
      go_simp
      go_at_call 40
      refine (HO.out _).mono ?_
      rintro e w4 ⟨rfl, hg⟩
      have HI2 := Lib.hid (HI.out.low (w2 := w4) hqs.out.1 ((Below.refl wr.heap.size wr).drew.trans hg.1))
      have MX2 := Lib.hid (Fc.row_range_below (w := wr.drew) MX.out hg.1 HGL.out)
      have MR2 := Lib.hid (Fc.row_range_below (w := wr.drew) MR.out hg.1 HGL.out)
      clear hg
      refine hK.out _ _ ⟨MX2.out, MR2.out⟩ (fun hHeld => ?_)
      clear hK K
      (try simp only [Act.put, List.setIfInBounds_toArray, List.set_cons_zero, List.set_cons_succ])
      by_cases hz : z = 0
      ·have hz0 : (z == 0) = true := by rw [hz]; rfl
       refine Vc.wpAnyH_rd (i := 14) (d := some 32) (v := .bool true) ?hy14 ?rest14
       case hy14 =>
        intro w hSw
        go_simp
        all_goals rw [hz0]
       (try simp only [Act.put, List.setIfInBounds_toArray, List.set_cons_zero, List.set_cons_succ])
       refine Vc.wpAnyH_rd (i := 15) (d := some 33) (v := ?v15) ?hy15 ?rest15
       case hy15 =>
        intro w hSw
        go_simp
        try with_reducible rfl
       (try simp only [Act.put, List.setIfInBounds_toArray, List.set_cons_zero, List.set_cons_succ])
       refine wpAnyH_done (by kernel_rfl) ?_ _
       have HGRP2 := Lib.hid (HGRP.out.next (by have z1 := HZN.out; have z2 := HRL.out; have z3 := HNN.out; omega) HAT.out HDR.out (HZ.out.1 hz))
       clear hz hz0
       go_wp2
       go_roundw
       case rel => exact ⟨m + 1, by go_num, by omega, by omega, HGRP2, HI2⟩
       case measure => simp [intOf]; omega
      ·have hz0 : (z == 0) = false := beq_eq_false_iff_ne.2 hz
       refine Vc.wpAnyH_rd (i := 14) (d := some 32) (v := .bool false) ?hy16 ?rest16
       case hy16 =>
        intro w hSw
        go_simp
        all_goals rw [hz0]
       (try simp only [Act.put, List.setIfInBounds_toArray, List.set_cons_zero, List.set_cons_succ])
       refine Vc.wpAnyH_rd (i := 15) (d := some 33) (v := ?v17) ?hy17 ?rest17
       case hy17 =>
        intro w hSw
        go_simp
        try with_reducible rfl
       (try simp only [Act.put, List.setIfInBounds_toArray, List.set_cons_zero, List.set_cons_succ])
       refine wpAnyH_done (by kernel_rfl) ?_ _
       have HEND := Lib.hid (grp_end (fun x : Fc.NodeC => Fc.NodeP.id (Fc.NodeC.p x)) (zs := zs) (p := p) (m := m) HAT.out HDR.out (fun e => hz (HZ.out.2 e)))
       clear hz hz0 HO HZ HAT HX0 HXM MX MR MX2 MR2 HI
       have HC := Lib.hid (hone.out w4 (HB3.out.trans (HI2.out.below.mono HB3.out.size)) (some ⟨g, off, none⟩) m cc x (rr.take (m - 1)) (by have z3 := HNN.out; have z4 := HAL.out; omega) ⟨zs, HPERM.out, grp_sub HDR.out⟩ (grp_keys (key := (fun x : Fc.NodeC => Fc.NodeP.id (Fc.NodeC.p x))) (by have z1 := HZN.out; have z2 := HRL.out; have z3 := HNN.out; omega) HDR.out HGRP.out) (group_row hm1 hm2 HRW.out HI2.out.below))
       have HNX := Lib.hid (is_next klt_st joins_N (π := Fc.NodeC.p) (zs := zs) (p := p) (m := m) (x := x) (rr := rr) hm1 (by have z1 := HZN.out; have z2 := HRL.out; have z3 := HNN.out; omega) HDR.out HCUT.out HGRP.out)
       have HCUT2 := Lib.hid (cut_next klt_st (key := (fun x : Fc.NodeC => Fc.NodeP.id (Fc.NodeC.p x))) (zs := zs) (p := p) (m := m) HSORT.out hm1 (by have z1 := HZN.out; have z2 := HRL.out; have z3 := HNN.out; omega) HCUT.out HGRP.out HEND.out)
       have HLN8 := Lib.hid (show ys.length ≤ 4000000 by have z1 := HI2.out.few; have z2 := HAL.out; omega)
       clear HGRP HEND
       go_wp2_with fail
       refine HC.out.mono ?_
       rintro e w5 ⟨y, rfl, hy, hq, hb⟩
       have HI5 := Lib.hid (HI2.out.low hqs.out.1 hb)
       have HY := Lib.hid hy
       have HQ5 := Lib.hid hq
       have HSZ := Lib.hid HI5.out.below.size
       clear hy hq hb HC HI2
       go_wp2_with (first | ((with_reducible refine wpl_build1 kdN (.tmp 41) rfl y ?_); refine And.intro ⟨rfl, by rfl⟩ ?_; (try simp only [Act.put, List.setIfInBounds_toArray, List.set_cons_zero, List.set_cons_succ])) | (at_builtin; (with_reducible refine wpl_one (B := w3.heap.size) (u := .slice A8 ys.length c8) (es := ys) (e := y) kdN (.tmp 36) (.tmp 42) rfl rfl ?_); refine And.intro ⟨⟨by rfl, ⟨_, by rfl, by simp⟩⟩, HI5.out.row, HSZ.out, HLN8.out⟩ ?_) | fail)
       intro u8 w6 hg
       have HI6 := Lib.hid (HI5.out.grew (fun V V' u es y h1 h2 h3 => hqs.out.2 V V' u es y (h1.mono HB3.out.size) h2 h3) hg HQ5.out hm1 (HNX.out.trans (congrArg (fun t => _ ++ [t]) HY.out.symm)))
       clear hg HI5 HQ5 HSZ HLN8 HNX HY
       by_cases hcm : cc = m
       ·go_wp2
        go_roundw
        case rel => exact ⟨p + m, ys ++ [y], (by have z1 := HZN.out; have z2 := HRL.out; have z3 := HNN.out; omega), Lib.hid ⟨fun hh => by exfalso; have z3 := HNN.out; omega, fun hh => ⟨_, _, by first | rfl | (congr 1 <;> (have z3 := HNN.out; omega))⟩⟩, HCUT2, HI6⟩
        case measure => simp [lenOf]; omega
       ·go_wp2
        go_roundw
        case rel => exact ⟨p + m, ys ++ [y], (by have z1 := HZN.out; have z2 := HRL.out; have z3 := HNN.out; omega), Lib.hid ⟨fun hh => all_next HOFF.out HNN.out HCP.out, fun hh => ⟨_, _, by congr 1; have z3 := HNN.out; omega⟩⟩, HCUT2, HI6⟩
        case measure => simp [lenOf]; omega
     ·have HEND := Lib.hid (show ∀ h : p + m < zs.length, (fun x : Fc.NodeC => Fc.NodeP.id (Fc.NodeC.p x)) (zs[p + m]'h) ≠ (fun x : Fc.NodeC => Fc.NodeP.id (Fc.NodeC.p x)) (zs[p]'(by have z1 := HZN.out; omega)) from fun h => by exfalso; have z1 := HZN.out; have z3 := HNN.out; omega)
      have HID := Lib.hid (HI.out.low (w2 := wr.drew) hqs.out.1 (Below.refl wr.heap.size wr).drew)
      clear HI
      go_wp2
      refine wp_region_held_drew (S := fun _ => True) (by kernel_rfl) trivial (fun hHeld => ?_)
      refine Vc.wpAnyH_rd (i := 0) (d := some 18) (v := ?v18) ?hy18 ?rest18
      case hy18 =>
       intro w hSw
       go_simp
       try with_reducible rfl
      (try simp only [Act.put, List.setIfInBounds_toArray, List.set_cons_zero, List.set_cons_succ])
      refine Vc.wpAnyH_rd (i := 1) (d := some 19) (v := ?v19) ?hy19 ?rest19
      case hy19 =>
       intro w hSw
       go_simp
       try with_reducible rfl
      (try simp only [Act.put, List.setIfInBounds_toArray, List.set_cons_zero, List.set_cons_succ])
      refine Vc.wpAnyH_rd (i := 2) (d := some 20) (v := ?v20) ?hy20 ?rest20
      case hy20 =>
       intro w hSw
       go_simp
       try with_reducible rfl
      (try simp only [Act.put, List.setIfInBounds_toArray, List.set_cons_zero, List.set_cons_succ])
      refine Vc.wpAnyH_rd (i := 3) (d := some 21) (v := .bool false) ?hy21 ?rest21
      case hy21 =>
       intro w hSw
       go_simp
       all_goals first | rfl | (simp only [decide_eq_true_eq, decide_eq_false_iff_not]; omega)
      (try simp only [Act.put, List.setIfInBounds_toArray, List.set_cons_zero, List.set_cons_succ])
      refine Vc.wpAnyH_rd (i := 4) (d := some 22) (v := ?v22) ?hy22 ?rest22
      case hy22 =>
       intro w hSw
       go_simp
       try with_reducible rfl
      (try simp only [Act.put, List.setIfInBounds_toArray, List.set_cons_zero, List.set_cons_succ])
      refine Vc.wpAnyH_skip (i := 5) (d := some 23) (by rfl) (by rfl) (by kernel_rfl) (by kernel_rfl) (by kernel_rfl) (fun _ _ _ h => h) (by rfl) (by assumption) ?_
      (try simp only [Act.put, List.setIfInBounds_toArray, List.set_cons_zero, List.set_cons_succ])
      refine Vc.wpAnyH_skip (i := 6) (d := some 24) (by rfl) (by rfl) (by kernel_rfl) (by kernel_rfl) (by kernel_rfl) (fun _ _ _ h => h) (by rfl) (by assumption) ?_
      (try simp only [Act.put, List.setIfInBounds_toArray, List.set_cons_zero, List.set_cons_succ])
      refine Vc.wpAnyH_skip (i := 7) (d := some 25) (by rfl) (by rfl) (by kernel_rfl) (by kernel_rfl) (by kernel_rfl) (fun _ _ _ h => h) (by rfl) (by assumption) ?_
      (try simp only [Act.put, List.setIfInBounds_toArray, List.set_cons_zero, List.set_cons_succ])
      refine Vc.wpAnyH_skip (i := 8) (d := some 26) (by rfl) (by rfl) (by kernel_rfl) (by kernel_rfl) (by kernel_rfl) (fun _ _ _ h => h) (by rfl) (by assumption) ?_
      (try simp only [Act.put, List.setIfInBounds_toArray, List.set_cons_zero, List.set_cons_succ])
      refine Vc.wpAnyH_skip (i := 9) (d := some 27) (by rfl) (by rfl) (by kernel_rfl) (by kernel_rfl) (by kernel_rfl) (fun _ _ _ h => h) (by rfl) (by assumption) ?_
      (try simp only [Act.put, List.setIfInBounds_toArray, List.set_cons_zero, List.set_cons_succ])
      refine Vc.wpAnyH_skip (i := 10) (d := some 28) (by rfl) (by rfl) (by kernel_rfl) (by kernel_rfl) (by kernel_rfl) (fun _ _ _ h => h) (by rfl) (by assumption) ?_
      (try simp only [Act.put, List.setIfInBounds_toArray, List.set_cons_zero, List.set_cons_succ])
      refine Vc.wpAnyH_skip (i := 11) (d := some 29) (by rfl) (by rfl) (by kernel_rfl) (by kernel_rfl) (by kernel_rfl) (fun _ _ _ h => h) (by rfl) (by assumption) ?_
      (try simp only [Act.put, List.setIfInBounds_toArray, List.set_cons_zero, List.set_cons_succ])
      refine Vc.wpAnyH_skip (i := 12) (d := some 30) (by rfl) (by rfl) (by kernel_rfl) (by kernel_rfl) (by kernel_rfl) (fun _ _ _ h => h) (by rfl) (by assumption) ?_
      (try simp only [Act.put, List.setIfInBounds_toArray, List.set_cons_zero, List.set_cons_succ])
      refine Vc.wpAnyH_skip (i := 13) (d := some 31) (by rfl) (by rfl) (by kernel_rfl) (by kernel_rfl) (by kernel_rfl) (fun _ _ _ h => h) (by rfl) (by assumption) ?_
      (try simp only [Act.put, List.setIfInBounds_toArray, List.set_cons_zero, List.set_cons_succ])
      refine Vc.wpAnyH_skip (i := 14) (d := some 32) (by rfl) (by rfl) (by kernel_rfl) (by kernel_rfl) (by kernel_rfl) (fun _ _ _ h => h) (by rfl) (by assumption) ?_
      (try simp only [Act.put, List.setIfInBounds_toArray, List.set_cons_zero, List.set_cons_succ])
      refine Vc.wpAnyH_rd (i := 15) (d := some 33) (v := ?v23) ?hy23 ?rest23
      case hy23 =>
       intro w hSw
       go_simp
       try with_reducible rfl
      (try simp only [Act.put, List.setIfInBounds_toArray, List.set_cons_zero, List.set_cons_succ])
      refine wpAnyH_done (by kernel_rfl) ?_ _
      have HC := Lib.hid (hone.out wr.drew (HB3.out.trans (HID.out.below.mono HB3.out.size)) (some ⟨g, off, none⟩) m cc x (rr.take (m - 1)) (by have z3 := HNN.out; have z4 := HAL.out; omega) ⟨zs, HPERM.out, grp_sub HDR.out⟩ (grp_keys (key := (fun x : Fc.NodeC => Fc.NodeP.id (Fc.NodeC.p x))) (by have z1 := HZN.out; have z2 := HRL.out; have z3 := HNN.out; omega) HDR.out HGRP.out) (group_row hm1 hm2 HRW.out HID.out.below))
      have HNX := Lib.hid (is_next klt_st joins_N (π := Fc.NodeC.p) (zs := zs) (p := p) (m := m) (x := x) (rr := rr) hm1 (by have z1 := HZN.out; have z2 := HRL.out; have z3 := HNN.out; omega) HDR.out HCUT.out HGRP.out)
      have HCUT2 := Lib.hid (cut_next klt_st (key := (fun x : Fc.NodeC => Fc.NodeP.id (Fc.NodeC.p x))) (zs := zs) (p := p) (m := m) HSORT.out hm1 (by have z1 := HZN.out; have z2 := HRL.out; have z3 := HNN.out; omega) HCUT.out HGRP.out HEND.out)
      have HLN8 := Lib.hid (show ys.length ≤ 4000000 by have z1 := HID.out.few; have z2 := HAL.out; omega)
      clear HGRP HEND
      go_wp2_with fail
      refine HC.out.mono ?_
      rintro e w5 ⟨y, rfl, hy, hq, hb⟩
      have HI5 := Lib.hid (HID.out.low hqs.out.1 hb)
      have HY := Lib.hid hy
      have HQ5 := Lib.hid hq
      have HSZ := Lib.hid HI5.out.below.size
      clear hy hq hb HC HID
      go_wp2_with (first | ((with_reducible refine wpl_build1 kdN (.tmp 41) rfl y ?_); refine And.intro ⟨rfl, by rfl⟩ ?_; (try simp only [Act.put, List.setIfInBounds_toArray, List.set_cons_zero, List.set_cons_succ])) | (at_builtin; (with_reducible refine wpl_one (B := w3.heap.size) (u := .slice A8 ys.length c8) (es := ys) (e := y) kdN (.tmp 36) (.tmp 42) rfl rfl ?_); refine And.intro ⟨⟨by rfl, ⟨_, by rfl, by simp⟩⟩, HI5.out.row, HSZ.out, HLN8.out⟩ ?_) | fail)
      intro u8 w6 hg
      have HI6 := Lib.hid (HI5.out.grew (fun V V' u es y h1 h2 h3 => hqs.out.2 V V' u es y (h1.mono HB3.out.size) h2 h3) hg HQ5.out hm1 (HNX.out.trans (congrArg (fun t => _ ++ [t]) HY.out.symm)))
      clear hg HI5 HQ5 HSZ HLN8 HNX HY
      by_cases hcm : cc = m
      ·go_wp2
       go_roundw
       case rel => exact ⟨p + m, ys ++ [y], (by have z1 := HZN.out; have z2 := HRL.out; have z3 := HNN.out; omega), Lib.hid ⟨fun hh => by exfalso; have z3 := HNN.out; omega, fun hh => ⟨_, _, by first | rfl | (congr 1 <;> (have z3 := HNN.out; omega))⟩⟩, HCUT2, HI6⟩
       case measure => simp [lenOf]; omega
      ·go_wp2
       go_roundw
       case rel => exact ⟨p + m, ys ++ [y], (by have z1 := HZN.out; have z2 := HRL.out; have z3 := HNN.out; omega), Lib.hid ⟨fun hh => all_next HOFF.out HNN.out HCP.out, fun hh => ⟨_, _, by congr 1; have z3 := HNN.out; omega⟩⟩, HCUT2, HI6⟩
       case measure => simp [lenOf]; omega
   ·have hpe : p = N := by omega
    obtain ⟨A7, c7, rfl⟩ := HA.out.2 hpe
    have HF := Lib.hid (show ys.map Fc.NodeC.p = mrg stLt Fc.NodeP.id opN nrmN ((allR ps).map Fc.NodeC.p) by
     rw [HI.out.is_, List.take_of_length_le (by have z1 := HZN.out; omega), HALL.out]
     exact mrg_set klt_st joins_N _ _ (fun z => by simp only [List.mem_map]; exact ⟨fun ⟨a, h1, h2⟩ => ⟨a, HPERM.out.mem_iff.1 h1, h2⟩, fun ⟨a, h1, h2⟩ => ⟨a, HPERM.out.mem_iff.2 h1, h2⟩⟩))
    go_wp2
    go_ret
    first | exact ⟨_, rfl, ys, HI.out.row.mono HB3.out.size, by first | exact HF.out | simpa using HF.out, HI.out.q, HB3.out.trans (HI.out.below.mono HB3.out.size)⟩ | exact ⟨_, ys, rfl, HI.out.row.mono HB3.out.size, by first | exact HF.out | simpa using HF.out, HI.out.q, HB3.out.trans (HI.out.below.mono HB3.out.size)⟩
set_option maxRecDepth 100000 in
set_option maxHeartbeats 8000000 in
theorem mergeL_any (T d : Nat) (ps : List (RowP Fc.LinkP)) (hlen : ps.length ≤ 500000) (hsum : sumR ps ≤ 500000) (w : World) (hp : RowsAt w T ps) (hps : ∀ p ∈ ps, RowOk w 25 Fc.linkC p) (Q : World → Fc.LinkP → Prop) (hqs : Keeps w.heap.size 51 25 Fc.linkC Q) (hone : OneIs w Tryz.prog 44 25 Fc.linkC (fun y : Fc.LinkP => y) (Fc.LinkP.id) (opL) (id) Q (allR ps)) :
  Calls Tryz.prog 42 #[.func (.func 43) #[] #[], .func (.func 44) #[] #[], .slice (some ⟨T, 0, none⟩) ps.length d] w fun e w' => ∃ v ys, e = .returned v ∧ OwnK w' w.heap.size 51 25 Fc.linkC v ys ∧ ys.map (fun y : Fc.LinkP => y) = mrg stLt Fc.LinkP.id opL id ((allR ps).map (fun y : Fc.LinkP => y)) ∧ (∀ y ∈ ys, Q w' y) ∧ Below w.heap.size w w' := by
 have HCC := Lib.hid (concatL_any T d ps hlen hsum w hp hps)
 have HAL := Lib.hid (show (allR ps).length ≤ 500000 by rw [allR_len hps]; exact hsum)
 replace hqs := Lib.hid hqs
 replace hone := Lib.hid hone
 clear hp hps hlen hsum
 go_enter Tryz.func42, Tryz.ntmps42
 go_wp2_with fail
 refine HCC.out.mono ?_
 rintro e w1 ⟨v, rfl, ho, hb⟩
 have HB1 := Lib.hid hb
 generalize hall : allR ps = xs at *
 have HALL := Lib.hid hall
 clear hall
 rcases ho.sl with ⟨rfl, hnil⟩ | ⟨g, cap, rfl, hg1, hg2, hcap, hcm⟩
 ·have HS := Lib.hid (sortL_none none 0 (.func (.func 43) #[] #[]) w1)
  have HNIL := Lib.hid hnil
  clear hb ho HCC hnil
  go_wp2_with fail
  refine HS.out.mono ?_
  rintro e w2 ⟨rfl, rfl⟩
  go_wp2
  refine wp_loop_rounds 1 ?_
  rw [rounds_succ]
  go_wp2
  go_ret
  exact ⟨_, [], rfl, OwnK.nil _ _ _ _ _, by rw [HALL.out, HNIL.out]; rfl, (fun y hy => by cases hy), HB1.out⟩
 ·have HS := Lib.hid (sortL_any w.heap.size g cap xs (by have := HAL.out; omega) w1 ho)
  have HG1 := Lib.hid hg1
  have HG2 := Lib.hid hg2
  have HCAP := Lib.hid hcm
  clear hb ho HCC hg1 hg2 hcm
  generalize hN : xs.length = N at *
  have HN := Lib.hid hN
  clear hN
  go_wp2_with fail
  refine HS.out.mono ?_
  rintro e w3 ⟨rfl, zs, hso, hrow, hchg⟩
  have HB3 := Lib.hid (below_step HB1.out hchg HG1.out)
  have HGW := Lib.hid (show g < w3.heap.size from Nat.lt_of_lt_of_le HG2.out hchg.size)
  have HROW := Lib.hid hrow
  have HSORT := Lib.hid hso.ord
  have HZN := Lib.hid (show zs.length = N from hrow.len)
  have HPERM := Lib.hid hso.perm
  clear hso hrow hchg HS HB1
  go_wp2
  go_loopw [7, 8] (fun a u wr => ∃ (p : Nat) (ys : List Fc.LinkP), p ≤ N ∧ Hid (AllIs g 25 p N cap a) ∧ Hid (Cut (stLt) (fun x : Fc.LinkP => Fc.LinkP.id ((fun y : Fc.LinkP => y) x)) zs p) ∧ Hid (MrgI w3 wr 51 25 Fc.linkC (fun y : Fc.LinkP => y) (stLt) (Fc.LinkP.id) (opL) (id) Q zs p ys u)) (fun a u _ => lenOf a)
  case atStart => exact ⟨0, [], Nat.zero_le _, Lib.hid ⟨fun _ => by simp, fun h => ⟨_, _, by rw [← h]⟩⟩, Lib.hid (fun d hd => by cases hd), Lib.hid (MrgI.start _ _ _ _ _ _ _ _ _ _ _)⟩
  case round =>
   obtain ⟨p, ys, hpN, HA, HCUT, HI⟩ := hrel
   obtain ⟨A8, c8, rfl, _⟩ := HI.out.row.any
   by_cases hlt : p < N
   ·have ha := HA.out.1 hlt
    subst ha
    obtain ⟨x, hx⟩ : ∃ x, x = zs[p]'(by have := HZN.out; omega) := ⟨_, rfl⟩
    obtain ⟨rr, hrr⟩ : ∃ rr, rr = zs.drop (p + 1) := ⟨_, rfl⟩
    have HDR := Lib.hid (show zs.drop p = x :: rr by rw [hx, hrr]; exact List.drop_eq_getElem_cons (by have := HZN.out; omega))
    have HRW := Lib.hid (show Fc.SRow w3 25 Fc.linkC (some ⟨g, p * 25, none⟩) (N - p) (x :: rr) from row_rest HROW.out HDR.out)
    obtain ⟨off, hoff⟩ : ∃ off, off = p * 25 := ⟨_, rfl⟩
    rw [← hoff] at HRW
    have HOFF := Lib.hid hoff
    simp only [← hoff]
    obtain ⟨nn, hnn⟩ : ∃ nn, nn = N - p := ⟨_, rfl⟩
    obtain ⟨cc, hcc⟩ : ∃ cc, cc = cap - p := ⟨_, rfl⟩
    rw [← hnn] at HRW
    simp only [← hnn, ← hcc]
    have HRL := Lib.hid (show rr.length + 1 = nn by have := HRW.out.len; simpa using this)
    have HNN := Lib.hid hnn
    have HCP := Lib.hid hcc
    have q1 : nn ≤ cc := by omega
    have q2 : cc ≤ 9223372036854775807 := by have := HCAP.out; unfold Go.maxLen at this; omega
    have q3 : 0 < nn := by omega
    clear hx hrr hoff hnn hcc HA
    go_wp2
    go_loopw [9] (fun i wi => ∃ m : Nat, i = .int .i64 m ∧ 1 ≤ m ∧ m ≤ nn ∧ Hid (Grp (fun x : Fc.LinkP => Fc.LinkP.id ((fun y : Fc.LinkP => y) x)) zs p m) ∧ Hid (MrgI w3 wi 51 25 Fc.linkC (fun y : Fc.LinkP => y) (stLt) (Fc.LinkP.id) (opL) (id) Q zs p ys (.slice A8 ys.length c8))) (fun i _ => nn - (intOf i).toNat)
    case atStart => exact ⟨1, rfl, Nat.le_refl _, by omega, Lib.hid (Grp.one _ _ _), HI⟩
    case round =>
     clear HI
     obtain ⟨m, rfl, hm1, hm2, HGRP, HI⟩ := hrel
     by_cases hml : m < nn
     ·obtain ⟨y, hy⟩ : ∃ y, y = rr[m - 1]'(by have := HRL.out; omega) := ⟨_, rfl⟩
      have HAT := Lib.hid (show zs[p + m]'(by have z1 := HZN.out; have z2 := HRL.out; have z3 := HNN.out; omega) = y from rest_at HDR.out hm1 (by have := HRL.out; omega) hy (by have z1 := HZN.out; have z2 := HRL.out; have z3 := HNN.out; omega))
      have HX0 := Lib.hid (self_zero (n := nn) q3)
      have HXM := Lib.hid (self_row (j := m) (n := nn) hml)
      have MX := Lib.hid (rest_range0 HRW.out HI.out.below)
      have MR := Lib.hid (rest_range HRW.out HI.out.below hm1 (by have := HRL.out; omega) hy)
      have HGL := Lib.hid (show g < wr.heap.size from Nat.lt_of_lt_of_le HGW.out HI.out.below.size)
      have ho := fun V => linkIds_grew x y V
      have hzz := sgn_zero klt_st (Fc.LinkP.id ((fun y : Fc.LinkP => y) x)) (Fc.LinkP.id ((fun y : Fc.LinkP => y) y))
      obtain ⟨z, hze⟩ : ∃ z, z = sgn stLt (Fc.LinkP.id ((fun y : Fc.LinkP => y) x)) (Fc.LinkP.id ((fun y : Fc.LinkP => y) y)) := ⟨_, rfl⟩
      rw [← hze] at hzz
      have HO := Lib.hid (show ∀ V, Calls Tryz.prog 43 #[.agg (Fc.linkC x), .agg (Fc.linkC y)] V fun e V' => e = .returned (.int .i64 z) ∧ Grows V V' by rw [hze]; exact ho)
      have HZ := Lib.hid hzz
      clear hy ho hzz hze
      go_wp2
      refine wp_region_held_drew (S := fun V => V.rangeAt g off (Fc.linkC x).toList ∧ V.rangeAt g (off + m * 25) (Fc.linkC y).toList) (by kernel_rfl) ⟨MX.out, MR.out⟩ (fun hHeld => ?_)
      refine Vc.wpAnyH_rd (i := 0) (d := some 18) (v := ?v24) ?hy24 ?rest24
      case hy24 =>
       intro w hSw
       go_simp
       try with_reducible rfl
      (try simp only [Act.put, List.setIfInBounds_toArray, List.set_cons_zero, List.set_cons_succ])
      refine Vc.wpAnyH_rd (i := 1) (d := some 19) (v := ?v25) ?hy25 ?rest25
      case hy25 =>
       intro w hSw
       go_simp
       try with_reducible rfl
      (try simp only [Act.put, List.setIfInBounds_toArray, List.set_cons_zero, List.set_cons_succ])
      refine Vc.wpAnyH_rd (i := 2) (d := some 20) (v := ?v26) ?hy26 ?rest26
      case hy26 =>
       intro w hSw
       go_simp
       try with_reducible rfl
      (try simp only [Act.put, List.setIfInBounds_toArray, List.set_cons_zero, List.set_cons_succ])
      refine Vc.wpAnyH_rd (i := 3) (d := some 21) (v := .bool true) ?hy27 ?rest27
      case hy27 =>
       intro w hSw
       go_simp
       all_goals first | rfl | (simp only [decide_eq_true_eq, decide_eq_false_iff_not]; omega)
      (try simp only [Act.put, List.setIfInBounds_toArray, List.set_cons_zero, List.set_cons_succ])
      refine Vc.wpAnyH_rd (i := 4) (d := some 22) (v := ?v28) ?hy28 ?rest28
      case hy28 =>
       intro w hSw
       go_simp
       try with_reducible rfl
      (try simp only [Act.put, List.setIfInBounds_toArray, List.set_cons_zero, List.set_cons_succ])
      refine Vc.wpAnyH_rd (i := 5) (d := some 23) (v := ?v29) ?hy29 ?rest29
      case hy29 =>
       intro w hSw
       go_simp
       try with_reducible rfl
      (try simp only [Act.put, List.setIfInBounds_toArray, List.set_cons_zero, List.set_cons_succ])
      refine Vc.wpAnyH_rd (i := 6) (d := some 24) (v := ?v30) ?hy30 ?rest30
      case hy30 =>
       intro w hSw
       go_simp
       try with_reducible rfl
      (try simp only [Act.put, List.setIfInBounds_toArray, List.set_cons_zero, List.set_cons_succ])
      refine Vc.wpAnyH_rd (i := 7) (d := some 25) (v := .pointer (some ⟨g, off, none⟩)) ?hy31 ?rest31
      case hy31 =>
       intro w hSw
       go_simp
       all_goals first | (rw [if_pos HX0.out.1, HX0.out.2]) | (intro hh; exfalso; omega) | (intro hh; exfalso; have hh2 := hh (by omega); omega)
      (try simp only [Act.put, List.setIfInBounds_toArray, List.set_cons_zero, List.set_cons_succ])
      refine Vc.wpAnyH_rd (i := 8) (d := some 26) (v := .agg (Fc.linkC x)) ?hy32 ?rest32
      case hy32 =>
       intro w hSw
       exact Who.exec_loadA _ rfl rfl hSw.1 Tryz.underlying51 rfl infoL
      (try simp only [Act.put, List.setIfInBounds_toArray, List.set_cons_zero, List.set_cons_succ])
      refine Vc.wpAnyH_rd (i := 9) (d := some 27) (v := ?v33) ?hy33 ?rest33
      case hy33 =>
       intro w hSw
       go_simp
       try with_reducible rfl
      (try simp only [Act.put, List.setIfInBounds_toArray, List.set_cons_zero, List.set_cons_succ])
      refine Vc.wpAnyH_rd (i := 10) (d := some 28) (v := ?v34) ?hy34 ?rest34
      case hy34 =>
       intro w hSw
       go_simp
       try with_reducible rfl
      (try simp only [Act.put, List.setIfInBounds_toArray, List.set_cons_zero, List.set_cons_succ])
      refine Vc.wpAnyH_rd (i := 11) (d := some 29) (v := .pointer (some ⟨g, off + m * 25, none⟩)) ?hy35 ?rest35
      case hy35 =>
       intro w hSw
       go_simp
       all_goals first | (rw [if_pos HXM.out.1, HXM.out.2]) | (intro hh; exfalso; omega) | (intro hh; exfalso; have hh2 := hh (by omega); omega)
      (try simp only [Act.put, List.setIfInBounds_toArray, List.set_cons_zero, List.set_cons_succ])
      refine Vc.wpAnyH_rd (i := 12) (d := some 30) (v := .agg (Fc.linkC y)) ?hy36 ?rest36
      case hy36 =>
       intro w hSw
       exact Who.exec_loadA _ rfl rfl hSw.2 Tryz.underlying51 rfl infoL
      (try simp only [Act.put, List.setIfInBounds_toArray, List.set_cons_zero, List.set_cons_succ])
      refine wpAnyH_ready (rs := [13]) (by kernel_rfl) (by simp) ?_
      refine AllReadyH.cons rfl (fun K hK => ?_) AllReadyH.nil
      go_simp
      go_at_call 43
      refine (HO.out _).mono ?_
      rintro e w4 ⟨rfl, hg⟩
      have HI2 := Lib.hid (HI.out.low (w2 := w4) hqs.out.1 ((Below.refl wr.heap.size wr).drew.trans hg.1))
      have MX2 := Lib.hid (Fc.row_range_below (w := wr.drew) MX.out hg.1 HGL.out)
      have MR2 := Lib.hid (Fc.row_range_below (w := wr.drew) MR.out hg.1 HGL.out)
      clear hg
      refine hK.out _ _ ⟨MX2.out, MR2.out⟩ (fun hHeld => ?_)
      clear hK K
      (try simp only [Act.put, List.setIfInBounds_toArray, List.set_cons_zero, List.set_cons_succ])
      by_cases hz : z = 0
      ·have hz0 : (z == 0) = true := by rw [hz]; rfl
       refine Vc.wpAnyH_rd (i := 14) (d := some 32) (v := .bool true) ?hy37 ?rest37
       case hy37 =>
        intro w hSw
        go_simp
        all_goals rw [hz0]
       (try simp only [Act.put, List.setIfInBounds_toArray, List.set_cons_zero, List.set_cons_succ])
       refine Vc.wpAnyH_rd (i := 15) (d := some 33) (v := ?v38) ?hy38 ?rest38
       case hy38 =>
        intro w hSw
        go_simp
        try with_reducible rfl
       (try simp only [Act.put, List.setIfInBounds_toArray, List.set_cons_zero, List.set_cons_succ])
       refine wpAnyH_done (by kernel_rfl) ?_ _
       have HGRP2 := Lib.hid (HGRP.out.next (by have z1 := HZN.out; have z2 := HRL.out; have z3 := HNN.out; omega) HAT.out HDR.out (HZ.out.1 hz))
       clear hz hz0
       go_wp2
       go_roundw
       case rel => exact ⟨m + 1, by go_num, by omega, by omega, HGRP2, HI2⟩
       case measure => simp [intOf]; omega
      ·have hz0 : (z == 0) = false := beq_eq_false_iff_ne.2 hz
       refine Vc.wpAnyH_rd (i := 14) (d := some 32) (v := .bool false) ?hy39 ?rest39
       case hy39 =>
        intro w hSw
        go_simp
        all_goals rw [hz0]
       (try simp only [Act.put, List.setIfInBounds_toArray, List.set_cons_zero, List.set_cons_succ])
       refine Vc.wpAnyH_rd (i := 15) (d := some 33) (v := ?v40) ?hy40 ?rest40
       case hy40 =>
        intro w hSw
        go_simp
        try with_reducible rfl
       (try simp only [Act.put, List.setIfInBounds_toArray, List.set_cons_zero, List.set_cons_succ])
       refine wpAnyH_done (by kernel_rfl) ?_ _
       have HEND := Lib.hid (grp_end (fun x : Fc.LinkP => Fc.LinkP.id ((fun y : Fc.LinkP => y) x)) (zs := zs) (p := p) (m := m) HAT.out HDR.out (fun e => hz (HZ.out.2 e)))
       clear hz hz0 HO HZ HAT HX0 HXM MX MR MX2 MR2 HI
       have HC := Lib.hid (hone.out w4 (HB3.out.trans (HI2.out.below.mono HB3.out.size)) (some ⟨g, off, none⟩) m cc x (rr.take (m - 1)) (by have z3 := HNN.out; have z4 := HAL.out; omega) ⟨zs, HPERM.out, grp_sub HDR.out⟩ (grp_keys (key := (fun x : Fc.LinkP => Fc.LinkP.id ((fun y : Fc.LinkP => y) x))) (by have z1 := HZN.out; have z2 := HRL.out; have z3 := HNN.out; omega) HDR.out HGRP.out) (group_row hm1 hm2 HRW.out HI2.out.below))
       have HNX := Lib.hid (is_next klt_st joins_L (π := (fun y : Fc.LinkP => y)) (zs := zs) (p := p) (m := m) (x := x) (rr := rr) hm1 (by have z1 := HZN.out; have z2 := HRL.out; have z3 := HNN.out; omega) HDR.out HCUT.out HGRP.out)
       have HCUT2 := Lib.hid (cut_next klt_st (key := (fun x : Fc.LinkP => Fc.LinkP.id ((fun y : Fc.LinkP => y) x))) (zs := zs) (p := p) (m := m) HSORT.out hm1 (by have z1 := HZN.out; have z2 := HRL.out; have z3 := HNN.out; omega) HCUT.out HGRP.out HEND.out)
       have HLN8 := Lib.hid (show ys.length ≤ 4000000 by have z1 := HI2.out.few; have z2 := HAL.out; omega)
       clear HGRP HEND
       go_wp2_with fail
       refine HC.out.mono ?_
       rintro e w5 ⟨y, rfl, hy, hq, hb⟩
       have HI5 := Lib.hid (HI2.out.low hqs.out.1 hb)
       have HY := Lib.hid hy
       have HQ5 := Lib.hid hq
       have HSZ := Lib.hid HI5.out.below.size
       clear hy hq hb HC HI2
       go_wp2_with (first | ((with_reducible refine wpl_build1 kdL (.tmp 41) rfl y ?_); refine And.intro ⟨rfl, by rfl⟩ ?_; (try simp only [Act.put, List.setIfInBounds_toArray, List.set_cons_zero, List.set_cons_succ])) | (at_builtin; (with_reducible refine wpl_one (B := w3.heap.size) (u := .slice A8 ys.length c8) (es := ys) (e := y) kdL (.tmp 36) (.tmp 42) rfl rfl ?_); refine And.intro ⟨⟨by rfl, ⟨_, by rfl, by simp⟩⟩, HI5.out.row, HSZ.out, HLN8.out⟩ ?_) | fail)
       intro u8 w6 hg
       have HI6 := Lib.hid (HI5.out.grew (fun V V' u es y h1 h2 h3 => hqs.out.2 V V' u es y (h1.mono HB3.out.size) h2 h3) hg HQ5.out hm1 (HNX.out.trans (congrArg (fun t => _ ++ [t]) HY.out.symm)))
       clear hg HI5 HQ5 HSZ HLN8 HNX HY
       by_cases hcm : cc = m
       ·go_wp2
        go_roundw
        case rel => exact ⟨p + m, ys ++ [y], (by have z1 := HZN.out; have z2 := HRL.out; have z3 := HNN.out; omega), Lib.hid ⟨fun hh => by exfalso; have z3 := HNN.out; omega, fun hh => ⟨_, _, by first | rfl | (congr 1 <;> (have z3 := HNN.out; omega))⟩⟩, HCUT2, HI6⟩
        case measure => simp [lenOf]; omega
       ·go_wp2
        go_roundw
        case rel => exact ⟨p + m, ys ++ [y], (by have z1 := HZN.out; have z2 := HRL.out; have z3 := HNN.out; omega), Lib.hid ⟨fun hh => all_next HOFF.out HNN.out HCP.out, fun hh => ⟨_, _, by congr 1; have z3 := HNN.out; omega⟩⟩, HCUT2, HI6⟩
        case measure => simp [lenOf]; omega
     ·have HEND := Lib.hid (show ∀ h : p + m < zs.length, (fun x : Fc.LinkP => Fc.LinkP.id ((fun y : Fc.LinkP => y) x)) (zs[p + m]'h) ≠ (fun x : Fc.LinkP => Fc.LinkP.id ((fun y : Fc.LinkP => y) x)) (zs[p]'(by have z1 := HZN.out; omega)) from fun h => by exfalso; have z1 := HZN.out; have z3 := HNN.out; omega)
      have HID := Lib.hid (HI.out.low (w2 := wr.drew) hqs.out.1 (Below.refl wr.heap.size wr).drew)
      clear HI
      go_wp2
      refine wp_region_held_drew (S := fun _ => True) (by kernel_rfl) trivial (fun hHeld => ?_)
      refine Vc.wpAnyH_rd (i := 0) (d := some 18) (v := ?v41) ?hy41 ?rest41
      case hy41 =>
       intro w hSw
       go_simp
       try with_reducible rfl
      (try simp only [Act.put, List.setIfInBounds_toArray, List.set_cons_zero, List.set_cons_succ])
      refine Vc.wpAnyH_rd (i := 1) (d := some 19) (v := ?v42) ?hy42 ?rest42
      case hy42 =>
       intro w hSw
       go_simp
       try with_reducible rfl
      (try simp only [Act.put, List.setIfInBounds_toArray, List.set_cons_zero, List.set_cons_succ])
      refine Vc.wpAnyH_rd (i := 2) (d := some 20) (v := ?v43) ?hy43 ?rest43
      case hy43 =>
       intro w hSw
       go_simp
       try with_reducible rfl
      (try simp only [Act.put, List.setIfInBounds_toArray, List.set_cons_zero, List.set_cons_succ])
      refine Vc.wpAnyH_rd (i := 3) (d := some 21) (v := .bool false) ?hy44 ?rest44
      case hy44 =>
       intro w hSw
       go_simp
       all_goals first | rfl | (simp only [decide_eq_true_eq, decide_eq_false_iff_not]; omega)
      (try simp only [Act.put, List.setIfInBounds_toArray, List.set_cons_zero, List.set_cons_succ])
      refine Vc.wpAnyH_rd (i := 4) (d := some 22) (v := ?v45) ?hy45 ?rest45
      case hy45 =>
       intro w hSw
       go_simp
       try with_reducible rfl
      (try simp only [Act.put, List.setIfInBounds_toArray, List.set_cons_zero, List.set_cons_succ])
      refine Vc.wpAnyH_skip (i := 5) (d := some 23) (by rfl) (by rfl) (by kernel_rfl) (by kernel_rfl) (by kernel_rfl) (fun _ _ _ h => h) (by rfl) (by assumption) ?_
      (try simp only [Act.put, List.setIfInBounds_toArray, List.set_cons_zero, List.set_cons_succ])
      refine Vc.wpAnyH_skip (i := 6) (d := some 24) (by rfl) (by rfl) (by kernel_rfl) (by kernel_rfl) (by kernel_rfl) (fun _ _ _ h => h) (by rfl) (by assumption) ?_
      (try simp only [Act.put, List.setIfInBounds_toArray, List.set_cons_zero, List.set_cons_succ])
      refine Vc.wpAnyH_skip (i := 7) (d := some 25) (by rfl) (by rfl) (by kernel_rfl) (by kernel_rfl) (by kernel_rfl) (fun _ _ _ h => h) (by rfl) (by assumption) ?_
      (try simp only [Act.put, List.setIfInBounds_toArray, List.set_cons_zero, List.set_cons_succ])
      refine Vc.wpAnyH_skip (i := 8) (d := some 26) (by rfl) (by rfl) (by kernel_rfl) (by kernel_rfl) (by kernel_rfl) (fun _ _ _ h => h) (by rfl) (by assumption) ?_
      (try simp only [Act.put, List.setIfInBounds_toArray, List.set_cons_zero, List.set_cons_succ])
      refine Vc.wpAnyH_skip (i := 9) (d := some 27) (by rfl) (by rfl) (by kernel_rfl) (by kernel_rfl) (by kernel_rfl) (fun _ _ _ h => h) (by rfl) (by assumption) ?_
      (try simp only [Act.put, List.setIfInBounds_toArray, List.set_cons_zero, List.set_cons_succ])
      refine Vc.wpAnyH_skip (i := 10) (d := some 28) (by rfl) (by rfl) (by kernel_rfl) (by kernel_rfl) (by kernel_rfl) (fun _ _ _ h => h) (by rfl) (by assumption) ?_
      (try simp only [Act.put, List.setIfInBounds_toArray, List.set_cons_zero, List.set_cons_succ])
      refine Vc.wpAnyH_skip (i := 11) (d := some 29) (by rfl) (by rfl) (by kernel_rfl) (by kernel_rfl) (by kernel_rfl) (fun _ _ _ h => h) (by rfl) (by assumption) ?_
      (try simp only [Act.put, List.setIfInBounds_toArray, List.set_cons_zero, List.set_cons_succ])
      refine Vc.wpAnyH_skip (i := 12) (d := some 30) (by rfl) (by rfl) (by kernel_rfl) (by kernel_rfl) (by kernel_rfl) (fun _ _ _ h => h) (by rfl) (by assumption) ?_
      (try simp only [Act.put, List.setIfInBounds_toArray, List.set_cons_zero, List.set_cons_succ])
      refine Vc.wpAnyH_skip (i := 13) (d := some 31) (by rfl) (by rfl) (by kernel_rfl) (by kernel_rfl) (by kernel_rfl) (fun _ _ _ h => h) (by rfl) (by assumption) ?_
      (try simp only [Act.put, List.setIfInBounds_toArray, List.set_cons_zero, List.set_cons_succ])
      refine Vc.wpAnyH_skip (i := 14) (d := some 32) (by rfl) (by rfl) (by kernel_rfl) (by kernel_rfl) (by kernel_rfl) (fun _ _ _ h => h) (by rfl) (by assumption) ?_
      (try simp only [Act.put, List.setIfInBounds_toArray, List.set_cons_zero, List.set_cons_succ])
      refine Vc.wpAnyH_rd (i := 15) (d := some 33) (v := ?v46) ?hy46 ?rest46
      case hy46 =>
       intro w hSw
       go_simp
       try with_reducible rfl
      (try simp only [Act.put, List.setIfInBounds_toArray, List.set_cons_zero, List.set_cons_succ])
      refine wpAnyH_done (by kernel_rfl) ?_ _
      have HC := Lib.hid (hone.out wr.drew (HB3.out.trans (HID.out.below.mono HB3.out.size)) (some ⟨g, off, none⟩) m cc x (rr.take (m - 1)) (by have z3 := HNN.out; have z4 := HAL.out; omega) ⟨zs, HPERM.out, grp_sub HDR.out⟩ (grp_keys (key := (fun x : Fc.LinkP => Fc.LinkP.id ((fun y : Fc.LinkP => y) x))) (by have z1 := HZN.out; have z2 := HRL.out; have z3 := HNN.out; omega) HDR.out HGRP.out) (group_row hm1 hm2 HRW.out HID.out.below))
      have HNX := Lib.hid (is_next klt_st joins_L (π := (fun y : Fc.LinkP => y)) (zs := zs) (p := p) (m := m) (x := x) (rr := rr) hm1 (by have z1 := HZN.out; have z2 := HRL.out; have z3 := HNN.out; omega) HDR.out HCUT.out HGRP.out)
      have HCUT2 := Lib.hid (cut_next klt_st (key := (fun x : Fc.LinkP => Fc.LinkP.id ((fun y : Fc.LinkP => y) x))) (zs := zs) (p := p) (m := m) HSORT.out hm1 (by have z1 := HZN.out; have z2 := HRL.out; have z3 := HNN.out; omega) HCUT.out HGRP.out HEND.out)
      have HLN8 := Lib.hid (show ys.length ≤ 4000000 by have z1 := HID.out.few; have z2 := HAL.out; omega)
      clear HGRP HEND
      go_wp2_with fail
      refine HC.out.mono ?_
      rintro e w5 ⟨y, rfl, hy, hq, hb⟩
      have HI5 := Lib.hid (HID.out.low hqs.out.1 hb)
      have HY := Lib.hid hy
      have HQ5 := Lib.hid hq
      have HSZ := Lib.hid HI5.out.below.size
      clear hy hq hb HC HID
      go_wp2_with (first | ((with_reducible refine wpl_build1 kdL (.tmp 41) rfl y ?_); refine And.intro ⟨rfl, by rfl⟩ ?_; (try simp only [Act.put, List.setIfInBounds_toArray, List.set_cons_zero, List.set_cons_succ])) | (at_builtin; (with_reducible refine wpl_one (B := w3.heap.size) (u := .slice A8 ys.length c8) (es := ys) (e := y) kdL (.tmp 36) (.tmp 42) rfl rfl ?_); refine And.intro ⟨⟨by rfl, ⟨_, by rfl, by simp⟩⟩, HI5.out.row, HSZ.out, HLN8.out⟩ ?_) | fail)
      intro u8 w6 hg
      have HI6 := Lib.hid (HI5.out.grew (fun V V' u es y h1 h2 h3 => hqs.out.2 V V' u es y (h1.mono HB3.out.size) h2 h3) hg HQ5.out hm1 (HNX.out.trans (congrArg (fun t => _ ++ [t]) HY.out.symm)))
      clear hg HI5 HQ5 HSZ HLN8 HNX HY
      by_cases hcm : cc = m
      ·go_wp2
       go_roundw
       case rel => exact ⟨p + m, ys ++ [y], (by have z1 := HZN.out; have z2 := HRL.out; have z3 := HNN.out; omega), Lib.hid ⟨fun hh => by exfalso; have z3 := HNN.out; omega, fun hh => ⟨_, _, by first | rfl | (congr 1 <;> (have z3 := HNN.out; omega))⟩⟩, HCUT2, HI6⟩
       case measure => simp [lenOf]; omega
      ·go_wp2
       go_roundw
       case rel => exact ⟨p + m, ys ++ [y], (by have z1 := HZN.out; have z2 := HRL.out; have z3 := HNN.out; omega), Lib.hid ⟨fun hh => all_next HOFF.out HNN.out HCP.out, fun hh => ⟨_, _, by congr 1; have z3 := HNN.out; omega⟩⟩, HCUT2, HI6⟩
       case measure => simp [lenOf]; omega
   ·have hpe : p = N := by omega
    obtain ⟨A7, c7, rfl⟩ := HA.out.2 hpe
    have HF := Lib.hid (show ys.map (fun y : Fc.LinkP => y) = mrg stLt Fc.LinkP.id opL id ((allR ps).map (fun y : Fc.LinkP => y)) by
     rw [HI.out.is_, List.take_of_length_le (by have z1 := HZN.out; omega), HALL.out]
     exact mrg_set klt_st joins_L _ _ (fun z => by simp only [List.mem_map]; exact ⟨fun ⟨a, h1, h2⟩ => ⟨a, HPERM.out.mem_iff.1 h1, h2⟩, fun ⟨a, h1, h2⟩ => ⟨a, HPERM.out.mem_iff.2 h1, h2⟩⟩))
    go_wp2
    go_ret
    first | exact ⟨_, rfl, ys, HI.out.row.mono HB3.out.size, by first | exact HF.out | simpa using HF.out, HI.out.q, HB3.out.trans (HI.out.below.mono HB3.out.size)⟩ | exact ⟨_, ys, rfl, HI.out.row.mono HB3.out.size, by first | exact HF.out | simpa using HF.out, HI.out.q, HB3.out.trans (HI.out.below.mono HB3.out.size)⟩
set_option maxRecDepth 100000 in
set_option maxHeartbeats 8000000 in
theorem mergeP_any (T d : Nat) (ps : List (RowP Fc.PieceP)) (hlen : ps.length ≤ 500000) (hsum : sumR ps ≤ 500000) (w : World) (hp : RowsAt w T ps) (hps : ∀ p ∈ ps, RowOk w 4 Fc.pieceC p) (Q : World → Fc.PieceP → Prop) (hqs : Keeps w.heap.size 74 4 Fc.pieceC Q) (hone : OneIs w Tryz.prog 81 4 Fc.pieceC (fun y : Fc.PieceP => y) (Fc.PieceP.i) (opP) (id) Q (allR ps)) :
  Calls Tryz.prog 79 #[.func (.func 80) #[] #[], .func (.func 81) #[] #[], .slice (some ⟨T, 0, none⟩) ps.length d] w fun e w' => ∃ v ys, e = .returned v ∧ OwnK w' w.heap.size 74 4 Fc.pieceC v ys ∧ ys.map (fun y : Fc.PieceP => y) = mrg intLt Fc.PieceP.i opP id ((allR ps).map (fun y : Fc.PieceP => y)) ∧ (∀ y ∈ ys, Q w' y) ∧ Below w.heap.size w w' := by
 have HCC := Lib.hid (concatP_any T d ps hlen hsum w hp hps)
 have HAL := Lib.hid (show (allR ps).length ≤ 500000 by rw [allR_len hps]; exact hsum)
 replace hqs := Lib.hid hqs
 replace hone := Lib.hid hone
 clear hp hps hlen hsum
 go_enter Tryz.func79, Tryz.ntmps79
 go_wp2_with fail
 refine HCC.out.mono ?_
 rintro e w1 ⟨v, rfl, ho, hb⟩
 have HB1 := Lib.hid hb
 generalize hall : allR ps = xs at *
 have HALL := Lib.hid hall
 clear hall
 rcases ho.sl with ⟨rfl, hnil⟩ | ⟨g, cap, rfl, hg1, hg2, hcap, hcm⟩
 ·have HS := Lib.hid (sortP_none none 0 (.func (.func 80) #[] #[]) w1)
  have HNIL := Lib.hid hnil
  clear hb ho HCC hnil
  go_wp2_with fail
  refine HS.out.mono ?_
  rintro e w2 ⟨rfl, rfl⟩
  go_wp2
  refine wp_loop_rounds 1 ?_
  rw [rounds_succ]
  go_wp2
  go_ret
  exact ⟨_, [], rfl, OwnK.nil _ _ _ _ _, by rw [HALL.out, HNIL.out]; rfl, (fun y hy => by cases hy), HB1.out⟩
 ·have HS := Lib.hid (sortP_any w.heap.size g cap xs (by have := HAL.out; omega) w1 ho)
  have HG1 := Lib.hid hg1
  have HG2 := Lib.hid hg2
  have HCAP := Lib.hid hcm
  clear hb ho HCC hg1 hg2 hcm
  generalize hN : xs.length = N at *
  have HN := Lib.hid hN
  clear hN
  go_wp2_with fail
  refine HS.out.mono ?_
  rintro e w3 ⟨rfl, zs, hso, hrow, hchg⟩
  have HB3 := Lib.hid (below_step HB1.out hchg HG1.out)
  have HGW := Lib.hid (show g < w3.heap.size from Nat.lt_of_lt_of_le HG2.out hchg.size)
  have HROW := Lib.hid hrow
  have HSORT := Lib.hid hso.ord
  have HZN := Lib.hid (show zs.length = N from hrow.len)
  have HPERM := Lib.hid hso.perm
  clear hso hrow hchg HS HB1
  go_wp2
  go_loopw [7, 8] (fun a u wr => ∃ (p : Nat) (ys : List Fc.PieceP), p ≤ N ∧ Hid (AllIs g 4 p N cap a) ∧ Hid (Cut (intLt) (fun x : Fc.PieceP => Fc.PieceP.i ((fun y : Fc.PieceP => y) x)) zs p) ∧ Hid (MrgI w3 wr 74 4 Fc.pieceC (fun y : Fc.PieceP => y) (intLt) (Fc.PieceP.i) (opP) (id) Q zs p ys u)) (fun a u _ => lenOf a)
  case atStart => exact ⟨0, [], Nat.zero_le _, Lib.hid ⟨fun _ => by simp, fun h => ⟨_, _, by rw [← h]⟩⟩, Lib.hid (fun d hd => by cases hd), Lib.hid (MrgI.start _ _ _ _ _ _ _ _ _ _ _)⟩
  case round =>
   obtain ⟨p, ys, hpN, HA, HCUT, HI⟩ := hrel
   obtain ⟨A8, c8, rfl, _⟩ := HI.out.row.any
   by_cases hlt : p < N
   ·have ha := HA.out.1 hlt
    subst ha
    obtain ⟨x, hx⟩ : ∃ x, x = zs[p]'(by have := HZN.out; omega) := ⟨_, rfl⟩
    obtain ⟨rr, hrr⟩ : ∃ rr, rr = zs.drop (p + 1) := ⟨_, rfl⟩
    have HDR := Lib.hid (show zs.drop p = x :: rr by rw [hx, hrr]; exact List.drop_eq_getElem_cons (by have := HZN.out; omega))
    have HRW := Lib.hid (show Fc.SRow w3 4 Fc.pieceC (some ⟨g, p * 4, none⟩) (N - p) (x :: rr) from row_rest HROW.out HDR.out)
    obtain ⟨off, hoff⟩ : ∃ off, off = p * 4 := ⟨_, rfl⟩
    rw [← hoff] at HRW
    have HOFF := Lib.hid hoff
    simp only [← hoff]
    obtain ⟨nn, hnn⟩ : ∃ nn, nn = N - p := ⟨_, rfl⟩
    obtain ⟨cc, hcc⟩ : ∃ cc, cc = cap - p := ⟨_, rfl⟩
    rw [← hnn] at HRW
    simp only [← hnn, ← hcc]
    have HRL := Lib.hid (show rr.length + 1 = nn by have := HRW.out.len; simpa using this)
    have HNN := Lib.hid hnn
    have HCP := Lib.hid hcc
    have q1 : nn ≤ cc := by omega
    have q2 : cc ≤ 9223372036854775807 := by have := HCAP.out; unfold Go.maxLen at this; omega
    have q3 : 0 < nn := by omega
    clear hx hrr hoff hnn hcc HA
    go_wp2
    go_loopw [9] (fun i wi => ∃ m : Nat, i = .int .i64 m ∧ 1 ≤ m ∧ m ≤ nn ∧ Hid (Grp (fun x : Fc.PieceP => Fc.PieceP.i ((fun y : Fc.PieceP => y) x)) zs p m) ∧ Hid (MrgI w3 wi 74 4 Fc.pieceC (fun y : Fc.PieceP => y) (intLt) (Fc.PieceP.i) (opP) (id) Q zs p ys (.slice A8 ys.length c8))) (fun i _ => nn - (intOf i).toNat)
    case atStart => exact ⟨1, rfl, Nat.le_refl _, by omega, Lib.hid (Grp.one _ _ _), HI⟩
    case round =>
     clear HI
     obtain ⟨m, rfl, hm1, hm2, HGRP, HI⟩ := hrel
     by_cases hml : m < nn
     ·obtain ⟨y, hy⟩ : ∃ y, y = rr[m - 1]'(by have := HRL.out; omega) := ⟨_, rfl⟩
      have HAT := Lib.hid (show zs[p + m]'(by have z1 := HZN.out; have z2 := HRL.out; have z3 := HNN.out; omega) = y from rest_at HDR.out hm1 (by have := HRL.out; omega) hy (by have z1 := HZN.out; have z2 := HRL.out; have z3 := HNN.out; omega))
      have HX0 := Lib.hid (self_zero (n := nn) q3)
      have HXM := Lib.hid (self_row (j := m) (n := nn) hml)
      have MX := Lib.hid (rest_range0 HRW.out HI.out.below)
      have MR := Lib.hid (rest_range HRW.out HI.out.below hm1 (by have := HRL.out; omega) hy)
      have HGL := Lib.hid (show g < wr.heap.size from Nat.lt_of_lt_of_le HGW.out HI.out.below.size)
      have ho := fun V => indices_grew x y V
      have hzz := sgn_zero klt_int (Fc.PieceP.i ((fun y : Fc.PieceP => y) x)) (Fc.PieceP.i ((fun y : Fc.PieceP => y) y))
      obtain ⟨z, hze⟩ : ∃ z, z = sgn intLt (Fc.PieceP.i ((fun y : Fc.PieceP => y) x)) (Fc.PieceP.i ((fun y : Fc.PieceP => y) y)) := ⟨_, rfl⟩
      rw [← hze] at hzz
      have HO := Lib.hid (show ∀ V, Calls Tryz.prog 80 #[.agg (Fc.pieceC x), .agg (Fc.pieceC y)] V fun e V' => e = .returned (.int .i64 z) ∧ Grows V V' by rw [hze]; exact ho)
      have HZ := Lib.hid hzz
      clear hy ho hzz hze
      go_wp2
      refine wp_region_held_drew (S := fun V => V.rangeAt g off (Fc.pieceC x).toList ∧ V.rangeAt g (off + m * 4) (Fc.pieceC y).toList) (by kernel_rfl) ⟨MX.out, MR.out⟩ (fun hHeld => ?_)
      refine Vc.wpAnyH_rd (i := 0) (d := some 18) (v := ?v47) ?hy47 ?rest47
      case hy47 =>
       intro w hSw
       go_simp
       try with_reducible rfl
      (try simp only [Act.put, List.setIfInBounds_toArray, List.set_cons_zero, List.set_cons_succ])
      refine Vc.wpAnyH_rd (i := 1) (d := some 19) (v := ?v48) ?hy48 ?rest48
      case hy48 =>
       intro w hSw
       go_simp
       try with_reducible rfl
      (try simp only [Act.put, List.setIfInBounds_toArray, List.set_cons_zero, List.set_cons_succ])
      refine Vc.wpAnyH_rd (i := 2) (d := some 20) (v := ?v49) ?hy49 ?rest49
      case hy49 =>
       intro w hSw
       go_simp
       try with_reducible rfl
      (try simp only [Act.put, List.setIfInBounds_toArray, List.set_cons_zero, List.set_cons_succ])
      refine Vc.wpAnyH_rd (i := 3) (d := some 21) (v := .bool true) ?hy50 ?rest50
      case hy50 =>
       intro w hSw
       go_simp
       all_goals first | rfl | (simp only [decide_eq_true_eq, decide_eq_false_iff_not]; omega)
      (try simp only [Act.put, List.setIfInBounds_toArray, List.set_cons_zero, List.set_cons_succ])
      refine Vc.wpAnyH_rd (i := 4) (d := some 22) (v := ?v51) ?hy51 ?rest51
      case hy51 =>
       intro w hSw
       go_simp
       try with_reducible rfl
      (try simp only [Act.put, List.setIfInBounds_toArray, List.set_cons_zero, List.set_cons_succ])
      refine Vc.wpAnyH_rd (i := 5) (d := some 23) (v := ?v52) ?hy52 ?rest52
      case hy52 =>
       intro w hSw
       go_simp
       try with_reducible rfl
      (try simp only [Act.put, List.setIfInBounds_toArray, List.set_cons_zero, List.set_cons_succ])
      refine Vc.wpAnyH_rd (i := 6) (d := some 24) (v := ?v53) ?hy53 ?rest53
      case hy53 =>
       intro w hSw
       go_simp
       try with_reducible rfl
      (try simp only [Act.put, List.setIfInBounds_toArray, List.set_cons_zero, List.set_cons_succ])
      refine Vc.wpAnyH_rd (i := 7) (d := some 25) (v := .pointer (some ⟨g, off, none⟩)) ?hy54 ?rest54
      case hy54 =>
       intro w hSw
       go_simp
       all_goals first | (rw [if_pos HX0.out.1, HX0.out.2]) | (intro hh; exfalso; omega) | (intro hh; exfalso; have hh2 := hh (by omega); omega)
      (try simp only [Act.put, List.setIfInBounds_toArray, List.set_cons_zero, List.set_cons_succ])
      refine Vc.wpAnyH_rd (i := 8) (d := some 26) (v := .agg (Fc.pieceC x)) ?hy55 ?rest55
      case hy55 =>
       intro w hSw
       exact Who.exec_loadA _ rfl rfl hSw.1 Tryz.underlying74 rfl infoP
      (try simp only [Act.put, List.setIfInBounds_toArray, List.set_cons_zero, List.set_cons_succ])
      refine Vc.wpAnyH_rd (i := 9) (d := some 27) (v := ?v56) ?hy56 ?rest56
      case hy56 =>
       intro w hSw
       go_simp
       try with_reducible rfl
      (try simp only [Act.put, List.setIfInBounds_toArray, List.set_cons_zero, List.set_cons_succ])
      refine Vc.wpAnyH_rd (i := 10) (d := some 28) (v := ?v57) ?hy57 ?rest57
      case hy57 =>
       intro w hSw
       go_simp
       try with_reducible rfl
      (try simp only [Act.put, List.setIfInBounds_toArray, List.set_cons_zero, List.set_cons_succ])
      refine Vc.wpAnyH_rd (i := 11) (d := some 29) (v := .pointer (some ⟨g, off + m * 4, none⟩)) ?hy58 ?rest58
      case hy58 =>
       intro w hSw
       go_simp
       all_goals first | (rw [if_pos HXM.out.1, HXM.out.2]) | (intro hh; exfalso; omega) | (intro hh; exfalso; have hh2 := hh (by omega); omega)
      (try simp only [Act.put, List.setIfInBounds_toArray, List.set_cons_zero, List.set_cons_succ])
      refine Vc.wpAnyH_rd (i := 12) (d := some 30) (v := .agg (Fc.pieceC y)) ?hy59 ?rest59
      case hy59 =>
       intro w hSw
       exact Who.exec_loadA _ rfl rfl hSw.2 Tryz.underlying74 rfl infoP
      (try simp only [Act.put, List.setIfInBounds_toArray, List.set_cons_zero, List.set_cons_succ])
      refine wpAnyH_ready (rs := [13]) (by kernel_rfl) (by simp) ?_
      refine AllReadyH.cons rfl (fun K hK => ?_) AllReadyH.nil
      go_simp
      go_at_call 80
      refine (HO.out _).mono ?_
      rintro e w4 ⟨rfl, hg⟩
      have HI2 := Lib.hid (HI.out.low (w2 := w4) hqs.out.1 ((Below.refl wr.heap.size wr).drew.trans hg.1))
      have MX2 := Lib.hid (Fc.row_range_below (w := wr.drew) MX.out hg.1 HGL.out)
      have MR2 := Lib.hid (Fc.row_range_below (w := wr.drew) MR.out hg.1 HGL.out)
      clear hg
      refine hK.out _ _ ⟨MX2.out, MR2.out⟩ (fun hHeld => ?_)
      clear hK K
      (try simp only [Act.put, List.setIfInBounds_toArray, List.set_cons_zero, List.set_cons_succ])
      by_cases hz : z = 0
      ·have hz0 : (z == 0) = true := by rw [hz]; rfl
       refine Vc.wpAnyH_rd (i := 14) (d := some 32) (v := .bool true) ?hy60 ?rest60
       case hy60 =>
        intro w hSw
        go_simp
        all_goals rw [hz0]
       (try simp only [Act.put, List.setIfInBounds_toArray, List.set_cons_zero, List.set_cons_succ])
       refine Vc.wpAnyH_rd (i := 15) (d := some 33) (v := ?v61) ?hy61 ?rest61
       case hy61 =>
        intro w hSw
        go_simp
        try with_reducible rfl
       (try simp only [Act.put, List.setIfInBounds_toArray, List.set_cons_zero, List.set_cons_succ])
       refine wpAnyH_done (by kernel_rfl) ?_ _
       have HGRP2 := Lib.hid (HGRP.out.next (by have z1 := HZN.out; have z2 := HRL.out; have z3 := HNN.out; omega) HAT.out HDR.out (HZ.out.1 hz))
       clear hz hz0
       go_wp2
       go_roundw
       case rel => exact ⟨m + 1, by go_num, by omega, by omega, HGRP2, HI2⟩
       case measure => simp [intOf]; omega
      ·have hz0 : (z == 0) = false := beq_eq_false_iff_ne.2 hz
       refine Vc.wpAnyH_rd (i := 14) (d := some 32) (v := .bool false) ?hy62 ?rest62
       case hy62 =>
        intro w hSw
        go_simp
        all_goals rw [hz0]
       (try simp only [Act.put, List.setIfInBounds_toArray, List.set_cons_zero, List.set_cons_succ])
       refine Vc.wpAnyH_rd (i := 15) (d := some 33) (v := ?v63) ?hy63 ?rest63
       case hy63 =>
        intro w hSw
        go_simp
        try with_reducible rfl
       (try simp only [Act.put, List.setIfInBounds_toArray, List.set_cons_zero, List.set_cons_succ])
       refine wpAnyH_done (by kernel_rfl) ?_ _
       have HEND := Lib.hid (grp_end (fun x : Fc.PieceP => Fc.PieceP.i ((fun y : Fc.PieceP => y) x)) (zs := zs) (p := p) (m := m) HAT.out HDR.out (fun e => hz (HZ.out.2 e)))
       clear hz hz0 HO HZ HAT HX0 HXM MX MR MX2 MR2 HI
       have HC := Lib.hid (hone.out w4 (HB3.out.trans (HI2.out.below.mono HB3.out.size)) (some ⟨g, off, none⟩) m cc x (rr.take (m - 1)) (by have z3 := HNN.out; have z4 := HAL.out; omega) ⟨zs, HPERM.out, grp_sub HDR.out⟩ (grp_keys (key := (fun x : Fc.PieceP => Fc.PieceP.i ((fun y : Fc.PieceP => y) x))) (by have z1 := HZN.out; have z2 := HRL.out; have z3 := HNN.out; omega) HDR.out HGRP.out) (group_row hm1 hm2 HRW.out HI2.out.below))
       have HNX := Lib.hid (is_next klt_int joins_P (π := (fun y : Fc.PieceP => y)) (zs := zs) (p := p) (m := m) (x := x) (rr := rr) hm1 (by have z1 := HZN.out; have z2 := HRL.out; have z3 := HNN.out; omega) HDR.out HCUT.out HGRP.out)
       have HCUT2 := Lib.hid (cut_next klt_int (key := (fun x : Fc.PieceP => Fc.PieceP.i ((fun y : Fc.PieceP => y) x))) (zs := zs) (p := p) (m := m) HSORT.out hm1 (by have z1 := HZN.out; have z2 := HRL.out; have z3 := HNN.out; omega) HCUT.out HGRP.out HEND.out)
       have HLN8 := Lib.hid (show ys.length ≤ 4000000 by have z1 := HI2.out.few; have z2 := HAL.out; omega)
       clear HGRP HEND
       go_wp2_with fail
       refine HC.out.mono ?_
       rintro e w5 ⟨y, rfl, hy, hq, hb⟩
       have HI5 := Lib.hid (HI2.out.low hqs.out.1 hb)
       have HY := Lib.hid hy
       have HQ5 := Lib.hid hq
       have HSZ := Lib.hid HI5.out.below.size
       clear hy hq hb HC HI2
       go_wp2_with (first | ((with_reducible refine wpl_build1 kdP (.tmp 41) rfl y ?_); refine And.intro ⟨rfl, by rfl⟩ ?_; (try simp only [Act.put, List.setIfInBounds_toArray, List.set_cons_zero, List.set_cons_succ])) | (at_builtin; (with_reducible refine wpl_one (B := w3.heap.size) (u := .slice A8 ys.length c8) (es := ys) (e := y) kdP (.tmp 36) (.tmp 42) rfl rfl ?_); refine And.intro ⟨⟨by rfl, ⟨_, by rfl, by simp⟩⟩, HI5.out.row, HSZ.out, HLN8.out⟩ ?_) | fail)
       intro u8 w6 hg
       have HI6 := Lib.hid (HI5.out.grew (fun V V' u es y h1 h2 h3 => hqs.out.2 V V' u es y (h1.mono HB3.out.size) h2 h3) hg HQ5.out hm1 (HNX.out.trans (congrArg (fun t => _ ++ [t]) HY.out.symm)))
       clear hg HI5 HQ5 HSZ HLN8 HNX HY
       by_cases hcm : cc = m
       ·go_wp2
        go_roundw
        case rel => exact ⟨p + m, ys ++ [y], (by have z1 := HZN.out; have z2 := HRL.out; have z3 := HNN.out; omega), Lib.hid ⟨fun hh => by exfalso; have z3 := HNN.out; omega, fun hh => ⟨_, _, by first | rfl | (congr 1 <;> (have z3 := HNN.out; omega))⟩⟩, HCUT2, HI6⟩
        case measure => simp [lenOf]; omega
       ·go_wp2
        go_roundw
        case rel => exact ⟨p + m, ys ++ [y], (by have z1 := HZN.out; have z2 := HRL.out; have z3 := HNN.out; omega), Lib.hid ⟨fun hh => all_next HOFF.out HNN.out HCP.out, fun hh => ⟨_, _, by congr 1; have z3 := HNN.out; omega⟩⟩, HCUT2, HI6⟩
        case measure => simp [lenOf]; omega
     ·have HEND := Lib.hid (show ∀ h : p + m < zs.length, (fun x : Fc.PieceP => Fc.PieceP.i ((fun y : Fc.PieceP => y) x)) (zs[p + m]'h) ≠ (fun x : Fc.PieceP => Fc.PieceP.i ((fun y : Fc.PieceP => y) x)) (zs[p]'(by have z1 := HZN.out; omega)) from fun h => by exfalso; have z1 := HZN.out; have z3 := HNN.out; omega)
      have HID := Lib.hid (HI.out.low (w2 := wr.drew) hqs.out.1 (Below.refl wr.heap.size wr).drew)
      clear HI
      go_wp2
      refine wp_region_held_drew (S := fun _ => True) (by kernel_rfl) trivial (fun hHeld => ?_)
      refine Vc.wpAnyH_rd (i := 0) (d := some 18) (v := ?v64) ?hy64 ?rest64
      case hy64 =>
       intro w hSw
       go_simp
       try with_reducible rfl
      (try simp only [Act.put, List.setIfInBounds_toArray, List.set_cons_zero, List.set_cons_succ])
      refine Vc.wpAnyH_rd (i := 1) (d := some 19) (v := ?v65) ?hy65 ?rest65
      case hy65 =>
       intro w hSw
       go_simp
       try with_reducible rfl
      (try simp only [Act.put, List.setIfInBounds_toArray, List.set_cons_zero, List.set_cons_succ])
      refine Vc.wpAnyH_rd (i := 2) (d := some 20) (v := ?v66) ?hy66 ?rest66
      case hy66 =>
       intro w hSw
       go_simp
       try with_reducible rfl
      (try simp only [Act.put, List.setIfInBounds_toArray, List.set_cons_zero, List.set_cons_succ])
      refine Vc.wpAnyH_rd (i := 3) (d := some 21) (v := .bool false) ?hy67 ?rest67
      case hy67 =>
       intro w hSw
       go_simp
       all_goals first | rfl | (simp only [decide_eq_true_eq, decide_eq_false_iff_not]; omega)
      (try simp only [Act.put, List.setIfInBounds_toArray, List.set_cons_zero, List.set_cons_succ])
      refine Vc.wpAnyH_rd (i := 4) (d := some 22) (v := ?v68) ?hy68 ?rest68
      case hy68 =>
       intro w hSw
       go_simp
       try with_reducible rfl
      (try simp only [Act.put, List.setIfInBounds_toArray, List.set_cons_zero, List.set_cons_succ])
      refine Vc.wpAnyH_skip (i := 5) (d := some 23) (by rfl) (by rfl) (by kernel_rfl) (by kernel_rfl) (by kernel_rfl) (fun _ _ _ h => h) (by rfl) (by assumption) ?_
      (try simp only [Act.put, List.setIfInBounds_toArray, List.set_cons_zero, List.set_cons_succ])
      refine Vc.wpAnyH_skip (i := 6) (d := some 24) (by rfl) (by rfl) (by kernel_rfl) (by kernel_rfl) (by kernel_rfl) (fun _ _ _ h => h) (by rfl) (by assumption) ?_
      (try simp only [Act.put, List.setIfInBounds_toArray, List.set_cons_zero, List.set_cons_succ])
      refine Vc.wpAnyH_skip (i := 7) (d := some 25) (by rfl) (by rfl) (by kernel_rfl) (by kernel_rfl) (by kernel_rfl) (fun _ _ _ h => h) (by rfl) (by assumption) ?_
      (try simp only [Act.put, List.setIfInBounds_toArray, List.set_cons_zero, List.set_cons_succ])
      refine Vc.wpAnyH_skip (i := 8) (d := some 26) (by rfl) (by rfl) (by kernel_rfl) (by kernel_rfl) (by kernel_rfl) (fun _ _ _ h => h) (by rfl) (by assumption) ?_
      (try simp only [Act.put, List.setIfInBounds_toArray, List.set_cons_zero, List.set_cons_succ])
      refine Vc.wpAnyH_skip (i := 9) (d := some 27) (by rfl) (by rfl) (by kernel_rfl) (by kernel_rfl) (by kernel_rfl) (fun _ _ _ h => h) (by rfl) (by assumption) ?_
      (try simp only [Act.put, List.setIfInBounds_toArray, List.set_cons_zero, List.set_cons_succ])
      refine Vc.wpAnyH_skip (i := 10) (d := some 28) (by rfl) (by rfl) (by kernel_rfl) (by kernel_rfl) (by kernel_rfl) (fun _ _ _ h => h) (by rfl) (by assumption) ?_
      (try simp only [Act.put, List.setIfInBounds_toArray, List.set_cons_zero, List.set_cons_succ])
      refine Vc.wpAnyH_skip (i := 11) (d := some 29) (by rfl) (by rfl) (by kernel_rfl) (by kernel_rfl) (by kernel_rfl) (fun _ _ _ h => h) (by rfl) (by assumption) ?_
      (try simp only [Act.put, List.setIfInBounds_toArray, List.set_cons_zero, List.set_cons_succ])
      refine Vc.wpAnyH_skip (i := 12) (d := some 30) (by rfl) (by rfl) (by kernel_rfl) (by kernel_rfl) (by kernel_rfl) (fun _ _ _ h => h) (by rfl) (by assumption) ?_
      (try simp only [Act.put, List.setIfInBounds_toArray, List.set_cons_zero, List.set_cons_succ])
      refine Vc.wpAnyH_skip (i := 13) (d := some 31) (by rfl) (by rfl) (by kernel_rfl) (by kernel_rfl) (by kernel_rfl) (fun _ _ _ h => h) (by rfl) (by assumption) ?_
      (try simp only [Act.put, List.setIfInBounds_toArray, List.set_cons_zero, List.set_cons_succ])
      refine Vc.wpAnyH_skip (i := 14) (d := some 32) (by rfl) (by rfl) (by kernel_rfl) (by kernel_rfl) (by kernel_rfl) (fun _ _ _ h => h) (by rfl) (by assumption) ?_
      (try simp only [Act.put, List.setIfInBounds_toArray, List.set_cons_zero, List.set_cons_succ])
      refine Vc.wpAnyH_rd (i := 15) (d := some 33) (v := ?v69) ?hy69 ?rest69
      case hy69 =>
       intro w hSw
       go_simp
       try with_reducible rfl
      (try simp only [Act.put, List.setIfInBounds_toArray, List.set_cons_zero, List.set_cons_succ])
      refine wpAnyH_done (by kernel_rfl) ?_ _
      have HC := Lib.hid (hone.out wr.drew (HB3.out.trans (HID.out.below.mono HB3.out.size)) (some ⟨g, off, none⟩) m cc x (rr.take (m - 1)) (by have z3 := HNN.out; have z4 := HAL.out; omega) ⟨zs, HPERM.out, grp_sub HDR.out⟩ (grp_keys (key := (fun x : Fc.PieceP => Fc.PieceP.i ((fun y : Fc.PieceP => y) x))) (by have z1 := HZN.out; have z2 := HRL.out; have z3 := HNN.out; omega) HDR.out HGRP.out) (group_row hm1 hm2 HRW.out HID.out.below))
      have HNX := Lib.hid (is_next klt_int joins_P (π := (fun y : Fc.PieceP => y)) (zs := zs) (p := p) (m := m) (x := x) (rr := rr) hm1 (by have z1 := HZN.out; have z2 := HRL.out; have z3 := HNN.out; omega) HDR.out HCUT.out HGRP.out)
      have HCUT2 := Lib.hid (cut_next klt_int (key := (fun x : Fc.PieceP => Fc.PieceP.i ((fun y : Fc.PieceP => y) x))) (zs := zs) (p := p) (m := m) HSORT.out hm1 (by have z1 := HZN.out; have z2 := HRL.out; have z3 := HNN.out; omega) HCUT.out HGRP.out HEND.out)
      have HLN8 := Lib.hid (show ys.length ≤ 4000000 by have z1 := HID.out.few; have z2 := HAL.out; omega)
      clear HGRP HEND
      go_wp2_with fail
      refine HC.out.mono ?_
      rintro e w5 ⟨y, rfl, hy, hq, hb⟩
      have HI5 := Lib.hid (HID.out.low hqs.out.1 hb)
      have HY := Lib.hid hy
      have HQ5 := Lib.hid hq
      have HSZ := Lib.hid HI5.out.below.size
      clear hy hq hb HC HID
      go_wp2_with (first | ((with_reducible refine wpl_build1 kdP (.tmp 41) rfl y ?_); refine And.intro ⟨rfl, by rfl⟩ ?_; (try simp only [Act.put, List.setIfInBounds_toArray, List.set_cons_zero, List.set_cons_succ])) | (at_builtin; (with_reducible refine wpl_one (B := w3.heap.size) (u := .slice A8 ys.length c8) (es := ys) (e := y) kdP (.tmp 36) (.tmp 42) rfl rfl ?_); refine And.intro ⟨⟨by rfl, ⟨_, by rfl, by simp⟩⟩, HI5.out.row, HSZ.out, HLN8.out⟩ ?_) | fail)
      intro u8 w6 hg
      have HI6 := Lib.hid (HI5.out.grew (fun V V' u es y h1 h2 h3 => hqs.out.2 V V' u es y (h1.mono HB3.out.size) h2 h3) hg HQ5.out hm1 (HNX.out.trans (congrArg (fun t => _ ++ [t]) HY.out.symm)))
      clear hg HI5 HQ5 HSZ HLN8 HNX HY
      by_cases hcm : cc = m
      ·go_wp2
       go_roundw
       case rel => exact ⟨p + m, ys ++ [y], (by have z1 := HZN.out; have z2 := HRL.out; have z3 := HNN.out; omega), Lib.hid ⟨fun hh => by exfalso; have z3 := HNN.out; omega, fun hh => ⟨_, _, by first | rfl | (congr 1 <;> (have z3 := HNN.out; omega))⟩⟩, HCUT2, HI6⟩
       case measure => simp [lenOf]; omega
      ·go_wp2
       go_roundw
       case rel => exact ⟨p + m, ys ++ [y], (by have z1 := HZN.out; have z2 := HRL.out; have z3 := HNN.out; omega), Lib.hid ⟨fun hh => all_next HOFF.out HNN.out HCP.out, fun hh => ⟨_, _, by congr 1; have z3 := HNN.out; omega⟩⟩, HCUT2, HI6⟩
       case measure => simp [lenOf]; omega
   ·have hpe : p = N := by omega
    obtain ⟨A7, c7, rfl⟩ := HA.out.2 hpe
    have HF := Lib.hid (show ys.map (fun y : Fc.PieceP => y) = mrg intLt Fc.PieceP.i opP id ((allR ps).map (fun y : Fc.PieceP => y)) by
     rw [HI.out.is_, List.take_of_length_le (by have z1 := HZN.out; omega), HALL.out]
     exact mrg_set klt_int joins_P _ _ (fun z => by simp only [List.mem_map]; exact ⟨fun ⟨a, h1, h2⟩ => ⟨a, HPERM.out.mem_iff.1 h1, h2⟩, fun ⟨a, h1, h2⟩ => ⟨a, HPERM.out.mem_iff.2 h1, h2⟩⟩))
    go_wp2
    go_ret
    first | exact ⟨_, rfl, ys, HI.out.row.mono HB3.out.size, by first | exact HF.out | simpa using HF.out, HI.out.q, HB3.out.trans (HI.out.below.mono HB3.out.size)⟩ | exact ⟨_, ys, rfl, HI.out.row.mono HB3.out.size, by first | exact HF.out | simpa using HF.out, HI.out.q, HB3.out.trans (HI.out.below.mono HB3.out.size)⟩
set_option maxRecDepth 100000 in
set_option maxHeartbeats 8000000 in
theorem mergeX_any (T d : Nat) (ps : List (RowP Fc.XattrP)) (hlen : ps.length ≤ 500000) (hsum : sumR ps ≤ 500000) (w : World) (hp : RowsAt w T ps) (hps : ∀ p ∈ ps, RowOk w 5 Fc.xattrC p) (Q : World → Fc.XattrP → Prop) (hqs : Keeps w.heap.size 77 5 Fc.xattrC Q) (hone : OneIs w Tryz.prog 86 5 Fc.xattrC (fun y : Fc.XattrP => y) (Fc.XattrP.name) (opX) (id) Q (allR ps)) :
  Calls Tryz.prog 84 #[.func (.func 85) #[] #[], .func (.func 86) #[] #[], .slice (some ⟨T, 0, none⟩) ps.length d] w fun e w' => ∃ v ys, e = .returned v ∧ OwnK w' w.heap.size 77 5 Fc.xattrC v ys ∧ ys.map (fun y : Fc.XattrP => y) = mrg strLt Fc.XattrP.name opX id ((allR ps).map (fun y : Fc.XattrP => y)) ∧ (∀ y ∈ ys, Q w' y) ∧ Below w.heap.size w w' := by
 have HCC := Lib.hid (concatX_any T d ps hlen hsum w hp hps)
 have HAL := Lib.hid (show (allR ps).length ≤ 500000 by rw [allR_len hps]; exact hsum)
 replace hqs := Lib.hid hqs
 replace hone := Lib.hid hone
 clear hp hps hlen hsum
 go_enter Tryz.func84, Tryz.ntmps84
 go_wp2_with fail
 refine HCC.out.mono ?_
 rintro e w1 ⟨v, rfl, ho, hb⟩
 have HB1 := Lib.hid hb
 generalize hall : allR ps = xs at *
 have HALL := Lib.hid hall
 clear hall
 rcases ho.sl with ⟨rfl, hnil⟩ | ⟨g, cap, rfl, hg1, hg2, hcap, hcm⟩
 ·have HS := Lib.hid (sortX_none none 0 (.func (.func 85) #[] #[]) w1)
  have HNIL := Lib.hid hnil
  clear hb ho HCC hnil
  go_wp2_with fail
  refine HS.out.mono ?_
  rintro e w2 ⟨rfl, rfl⟩
  go_wp2
  refine wp_loop_rounds 1 ?_
  rw [rounds_succ]
  go_wp2
  go_ret
  exact ⟨_, [], rfl, OwnK.nil _ _ _ _ _, by rw [HALL.out, HNIL.out]; rfl, (fun y hy => by cases hy), HB1.out⟩
 ·have HS := Lib.hid (sortX_any w.heap.size g cap xs (by have := HAL.out; omega) w1 ho)
  have HG1 := Lib.hid hg1
  have HG2 := Lib.hid hg2
  have HCAP := Lib.hid hcm
  clear hb ho HCC hg1 hg2 hcm
  generalize hN : xs.length = N at *
  have HN := Lib.hid hN
  clear hN
  go_wp2_with fail
  refine HS.out.mono ?_
  rintro e w3 ⟨rfl, zs, hso, hrow, hchg⟩
  have HB3 := Lib.hid (below_step HB1.out hchg HG1.out)
  have HGW := Lib.hid (show g < w3.heap.size from Nat.lt_of_lt_of_le HG2.out hchg.size)
  have HROW := Lib.hid hrow
  have HSORT := Lib.hid hso.ord
  have HZN := Lib.hid (show zs.length = N from hrow.len)
  have HPERM := Lib.hid hso.perm
  clear hso hrow hchg HS HB1
  go_wp2
  go_loopw [7, 8] (fun a u wr => ∃ (p : Nat) (ys : List Fc.XattrP), p ≤ N ∧ Hid (AllIs g 5 p N cap a) ∧ Hid (Cut (strLt) (fun x : Fc.XattrP => Fc.XattrP.name ((fun y : Fc.XattrP => y) x)) zs p) ∧ Hid (MrgI w3 wr 77 5 Fc.xattrC (fun y : Fc.XattrP => y) (strLt) (Fc.XattrP.name) (opX) (id) Q zs p ys u)) (fun a u _ => lenOf a)
  case atStart => exact ⟨0, [], Nat.zero_le _, Lib.hid ⟨fun _ => by simp, fun h => ⟨_, _, by rw [← h]⟩⟩, Lib.hid (fun d hd => by cases hd), Lib.hid (MrgI.start _ _ _ _ _ _ _ _ _ _ _)⟩
  case round =>
   obtain ⟨p, ys, hpN, HA, HCUT, HI⟩ := hrel
   obtain ⟨A8, c8, rfl, _⟩ := HI.out.row.any
   by_cases hlt : p < N
   ·have ha := HA.out.1 hlt
    subst ha
    obtain ⟨x, hx⟩ : ∃ x, x = zs[p]'(by have := HZN.out; omega) := ⟨_, rfl⟩
    obtain ⟨rr, hrr⟩ : ∃ rr, rr = zs.drop (p + 1) := ⟨_, rfl⟩
    have HDR := Lib.hid (show zs.drop p = x :: rr by rw [hx, hrr]; exact List.drop_eq_getElem_cons (by have := HZN.out; omega))
    have HRW := Lib.hid (show Fc.SRow w3 5 Fc.xattrC (some ⟨g, p * 5, none⟩) (N - p) (x :: rr) from row_rest HROW.out HDR.out)
    obtain ⟨off, hoff⟩ : ∃ off, off = p * 5 := ⟨_, rfl⟩
    rw [← hoff] at HRW
    have HOFF := Lib.hid hoff
    simp only [← hoff]
    obtain ⟨nn, hnn⟩ : ∃ nn, nn = N - p := ⟨_, rfl⟩
    obtain ⟨cc, hcc⟩ : ∃ cc, cc = cap - p := ⟨_, rfl⟩
    rw [← hnn] at HRW
    simp only [← hnn, ← hcc]
    have HRL := Lib.hid (show rr.length + 1 = nn by have := HRW.out.len; simpa using this)
    have HNN := Lib.hid hnn
    have HCP := Lib.hid hcc
    have q1 : nn ≤ cc := by omega
    have q2 : cc ≤ 9223372036854775807 := by have := HCAP.out; unfold Go.maxLen at this; omega
    have q3 : 0 < nn := by omega
    clear hx hrr hoff hnn hcc HA
    go_wp2
    go_loopw [9] (fun i wi => ∃ m : Nat, i = .int .i64 m ∧ 1 ≤ m ∧ m ≤ nn ∧ Hid (Grp (fun x : Fc.XattrP => Fc.XattrP.name ((fun y : Fc.XattrP => y) x)) zs p m) ∧ Hid (MrgI w3 wi 77 5 Fc.xattrC (fun y : Fc.XattrP => y) (strLt) (Fc.XattrP.name) (opX) (id) Q zs p ys (.slice A8 ys.length c8))) (fun i _ => nn - (intOf i).toNat)
    case atStart => exact ⟨1, rfl, Nat.le_refl _, by omega, Lib.hid (Grp.one _ _ _), HI⟩
    case round =>
     clear HI
     obtain ⟨m, rfl, hm1, hm2, HGRP, HI⟩ := hrel
     by_cases hml : m < nn
     ·obtain ⟨y, hy⟩ : ∃ y, y = rr[m - 1]'(by have := HRL.out; omega) := ⟨_, rfl⟩
      have HAT := Lib.hid (show zs[p + m]'(by have z1 := HZN.out; have z2 := HRL.out; have z3 := HNN.out; omega) = y from rest_at HDR.out hm1 (by have := HRL.out; omega) hy (by have z1 := HZN.out; have z2 := HRL.out; have z3 := HNN.out; omega))
      have HX0 := Lib.hid (self_zero (n := nn) q3)
      have HXM := Lib.hid (self_row (j := m) (n := nn) hml)
      have MX := Lib.hid (rest_range0 HRW.out HI.out.below)
      have MR := Lib.hid (rest_range HRW.out HI.out.below hm1 (by have := HRL.out; omega) hy)
      have HGL := Lib.hid (show g < wr.heap.size from Nat.lt_of_lt_of_le HGW.out HI.out.below.size)
      have ho := fun V => xattrNames_grew x y V
      have hzz := sgn_zero klt_str (Fc.XattrP.name ((fun y : Fc.XattrP => y) x)) (Fc.XattrP.name ((fun y : Fc.XattrP => y) y))
      obtain ⟨z, hze⟩ : ∃ z, z = sgn strLt (Fc.XattrP.name ((fun y : Fc.XattrP => y) x)) (Fc.XattrP.name ((fun y : Fc.XattrP => y) y)) := ⟨_, rfl⟩
      rw [← hze] at hzz
      have HO := Lib.hid (show ∀ V, Calls Tryz.prog 85 #[.agg (Fc.xattrC x), .agg (Fc.xattrC y)] V fun e V' => e = .returned (.int .i64 z) ∧ Grows V V' by rw [hze]; exact ho)
      have HZ := Lib.hid hzz
      clear hy ho hzz hze
      go_wp2
      refine wp_region_held_drew (S := fun V => V.rangeAt g off (Fc.xattrC x).toList ∧ V.rangeAt g (off + m * 5) (Fc.xattrC y).toList) (by kernel_rfl) ⟨MX.out, MR.out⟩ (fun hHeld => ?_)
      refine Vc.wpAnyH_rd (i := 0) (d := some 18) (v := ?v70) ?hy70 ?rest70
      case hy70 =>
       intro w hSw
       go_simp
       try with_reducible rfl
      (try simp only [Act.put, List.setIfInBounds_toArray, List.set_cons_zero, List.set_cons_succ])
      refine Vc.wpAnyH_rd (i := 1) (d := some 19) (v := ?v71) ?hy71 ?rest71
      case hy71 =>
       intro w hSw
       go_simp
       try with_reducible rfl
      (try simp only [Act.put, List.setIfInBounds_toArray, List.set_cons_zero, List.set_cons_succ])
      refine Vc.wpAnyH_rd (i := 2) (d := some 20) (v := ?v72) ?hy72 ?rest72
      case hy72 =>
       intro w hSw
       go_simp
       try with_reducible rfl
      (try simp only [Act.put, List.setIfInBounds_toArray, List.set_cons_zero, List.set_cons_succ])
      refine Vc.wpAnyH_rd (i := 3) (d := some 21) (v := .bool true) ?hy73 ?rest73
      case hy73 =>
       intro w hSw
       go_simp
       all_goals first | rfl | (simp only [decide_eq_true_eq, decide_eq_false_iff_not]; omega)
      (try simp only [Act.put, List.setIfInBounds_toArray, List.set_cons_zero, List.set_cons_succ])
      refine Vc.wpAnyH_rd (i := 4) (d := some 22) (v := ?v74) ?hy74 ?rest74
      case hy74 =>
       intro w hSw
       go_simp
       try with_reducible rfl
      (try simp only [Act.put, List.setIfInBounds_toArray, List.set_cons_zero, List.set_cons_succ])
      refine Vc.wpAnyH_rd (i := 5) (d := some 23) (v := ?v75) ?hy75 ?rest75
      case hy75 =>
       intro w hSw
       go_simp
       try with_reducible rfl
      (try simp only [Act.put, List.setIfInBounds_toArray, List.set_cons_zero, List.set_cons_succ])
      refine Vc.wpAnyH_rd (i := 6) (d := some 24) (v := ?v76) ?hy76 ?rest76
      case hy76 =>
       intro w hSw
       go_simp
       try with_reducible rfl
      (try simp only [Act.put, List.setIfInBounds_toArray, List.set_cons_zero, List.set_cons_succ])
      refine Vc.wpAnyH_rd (i := 7) (d := some 25) (v := .pointer (some ⟨g, off, none⟩)) ?hy77 ?rest77
      case hy77 =>
       intro w hSw
       go_simp
       all_goals first | (rw [if_pos HX0.out.1, HX0.out.2]) | (intro hh; exfalso; omega) | (intro hh; exfalso; have hh2 := hh (by omega); omega)
      (try simp only [Act.put, List.setIfInBounds_toArray, List.set_cons_zero, List.set_cons_succ])
      refine Vc.wpAnyH_rd (i := 8) (d := some 26) (v := .agg (Fc.xattrC x)) ?hy78 ?rest78
      case hy78 =>
       intro w hSw
       exact Who.exec_loadA _ rfl rfl hSw.1 Tryz.underlying77 rfl infoX
      (try simp only [Act.put, List.setIfInBounds_toArray, List.set_cons_zero, List.set_cons_succ])
      refine Vc.wpAnyH_rd (i := 9) (d := some 27) (v := ?v79) ?hy79 ?rest79
      case hy79 =>
       intro w hSw
       go_simp
       try with_reducible rfl
      (try simp only [Act.put, List.setIfInBounds_toArray, List.set_cons_zero, List.set_cons_succ])
      refine Vc.wpAnyH_rd (i := 10) (d := some 28) (v := ?v80) ?hy80 ?rest80
      case hy80 =>
       intro w hSw
       go_simp
       try with_reducible rfl
      (try simp only [Act.put, List.setIfInBounds_toArray, List.set_cons_zero, List.set_cons_succ])
      refine Vc.wpAnyH_rd (i := 11) (d := some 29) (v := .pointer (some ⟨g, off + m * 5, none⟩)) ?hy81 ?rest81
      case hy81 =>
       intro w hSw
       go_simp
       all_goals first | (rw [if_pos HXM.out.1, HXM.out.2]) | (intro hh; exfalso; omega) | (intro hh; exfalso; have hh2 := hh (by omega); omega)
      (try simp only [Act.put, List.setIfInBounds_toArray, List.set_cons_zero, List.set_cons_succ])
      refine Vc.wpAnyH_rd (i := 12) (d := some 30) (v := .agg (Fc.xattrC y)) ?hy82 ?rest82
      case hy82 =>
       intro w hSw
       exact Who.exec_loadA _ rfl rfl hSw.2 Tryz.underlying77 rfl infoX
      (try simp only [Act.put, List.setIfInBounds_toArray, List.set_cons_zero, List.set_cons_succ])
      refine wpAnyH_ready (rs := [13]) (by kernel_rfl) (by simp) ?_
      refine AllReadyH.cons rfl (fun K hK => ?_) AllReadyH.nil
      go_simp
      go_at_call 85
      refine (HO.out _).mono ?_
      rintro e w4 ⟨rfl, hg⟩
      have HI2 := Lib.hid (HI.out.low (w2 := w4) hqs.out.1 ((Below.refl wr.heap.size wr).drew.trans hg.1))
      have MX2 := Lib.hid (Fc.row_range_below (w := wr.drew) MX.out hg.1 HGL.out)
      have MR2 := Lib.hid (Fc.row_range_below (w := wr.drew) MR.out hg.1 HGL.out)
      clear hg
      refine hK.out _ _ ⟨MX2.out, MR2.out⟩ (fun hHeld => ?_)
      clear hK K
      (try simp only [Act.put, List.setIfInBounds_toArray, List.set_cons_zero, List.set_cons_succ])
      by_cases hz : z = 0
      ·have hz0 : (z == 0) = true := by rw [hz]; rfl
       refine Vc.wpAnyH_rd (i := 14) (d := some 32) (v := .bool true) ?hy83 ?rest83
       case hy83 =>
        intro w hSw
        go_simp
        all_goals rw [hz0]
       (try simp only [Act.put, List.setIfInBounds_toArray, List.set_cons_zero, List.set_cons_succ])
       refine Vc.wpAnyH_rd (i := 15) (d := some 33) (v := ?v84) ?hy84 ?rest84
       case hy84 =>
        intro w hSw
        go_simp
        try with_reducible rfl
       (try simp only [Act.put, List.setIfInBounds_toArray, List.set_cons_zero, List.set_cons_succ])
       refine wpAnyH_done (by kernel_rfl) ?_ _
       have HGRP2 := Lib.hid (HGRP.out.next (by have z1 := HZN.out; have z2 := HRL.out; have z3 := HNN.out; omega) HAT.out HDR.out (HZ.out.1 hz))
       clear hz hz0
       go_wp2
       go_roundw
       case rel => exact ⟨m + 1, by go_num, by omega, by omega, HGRP2, HI2⟩
       case measure => simp [intOf]; omega
      ·have hz0 : (z == 0) = false := beq_eq_false_iff_ne.2 hz
       refine Vc.wpAnyH_rd (i := 14) (d := some 32) (v := .bool false) ?hy85 ?rest85
       case hy85 =>
        intro w hSw
        go_simp
        all_goals rw [hz0]
       (try simp only [Act.put, List.setIfInBounds_toArray, List.set_cons_zero, List.set_cons_succ])
       refine Vc.wpAnyH_rd (i := 15) (d := some 33) (v := ?v86) ?hy86 ?rest86
       case hy86 =>
        intro w hSw
        go_simp
        try with_reducible rfl
       (try simp only [Act.put, List.setIfInBounds_toArray, List.set_cons_zero, List.set_cons_succ])
       refine wpAnyH_done (by kernel_rfl) ?_ _
       have HEND := Lib.hid (grp_end (fun x : Fc.XattrP => Fc.XattrP.name ((fun y : Fc.XattrP => y) x)) (zs := zs) (p := p) (m := m) HAT.out HDR.out (fun e => hz (HZ.out.2 e)))
       clear hz hz0 HO HZ HAT HX0 HXM MX MR MX2 MR2 HI
       have HC := Lib.hid (hone.out w4 (HB3.out.trans (HI2.out.below.mono HB3.out.size)) (some ⟨g, off, none⟩) m cc x (rr.take (m - 1)) (by have z3 := HNN.out; have z4 := HAL.out; omega) ⟨zs, HPERM.out, grp_sub HDR.out⟩ (grp_keys (key := (fun x : Fc.XattrP => Fc.XattrP.name ((fun y : Fc.XattrP => y) x))) (by have z1 := HZN.out; have z2 := HRL.out; have z3 := HNN.out; omega) HDR.out HGRP.out) (group_row hm1 hm2 HRW.out HI2.out.below))
       have HNX := Lib.hid (is_next klt_str joins_X (π := (fun y : Fc.XattrP => y)) (zs := zs) (p := p) (m := m) (x := x) (rr := rr) hm1 (by have z1 := HZN.out; have z2 := HRL.out; have z3 := HNN.out; omega) HDR.out HCUT.out HGRP.out)
       have HCUT2 := Lib.hid (cut_next klt_str (key := (fun x : Fc.XattrP => Fc.XattrP.name ((fun y : Fc.XattrP => y) x))) (zs := zs) (p := p) (m := m) HSORT.out hm1 (by have z1 := HZN.out; have z2 := HRL.out; have z3 := HNN.out; omega) HCUT.out HGRP.out HEND.out)
       have HLN8 := Lib.hid (show ys.length ≤ 4000000 by have z1 := HI2.out.few; have z2 := HAL.out; omega)
       clear HGRP HEND
       go_wp2_with fail
       refine HC.out.mono ?_
       rintro e w5 ⟨y, rfl, hy, hq, hb⟩
       have HI5 := Lib.hid (HI2.out.low hqs.out.1 hb)
       have HY := Lib.hid hy
       have HQ5 := Lib.hid hq
       have HSZ := Lib.hid HI5.out.below.size
       clear hy hq hb HC HI2
       go_wp2_with (first | ((with_reducible refine wpl_build1 kdX (.tmp 41) rfl y ?_); refine And.intro ⟨rfl, by rfl⟩ ?_; (try simp only [Act.put, List.setIfInBounds_toArray, List.set_cons_zero, List.set_cons_succ])) | (at_builtin; (with_reducible refine wpl_one (B := w3.heap.size) (u := .slice A8 ys.length c8) (es := ys) (e := y) kdX (.tmp 36) (.tmp 42) rfl rfl ?_); refine And.intro ⟨⟨by rfl, ⟨_, by rfl, by simp⟩⟩, HI5.out.row, HSZ.out, HLN8.out⟩ ?_) | fail)
       intro u8 w6 hg
       have HI6 := Lib.hid (HI5.out.grew (fun V V' u es y h1 h2 h3 => hqs.out.2 V V' u es y (h1.mono HB3.out.size) h2 h3) hg HQ5.out hm1 (HNX.out.trans (congrArg (fun t => _ ++ [t]) HY.out.symm)))
       clear hg HI5 HQ5 HSZ HLN8 HNX HY
       by_cases hcm : cc = m
       ·go_wp2
        go_roundw
        case rel => exact ⟨p + m, ys ++ [y], (by have z1 := HZN.out; have z2 := HRL.out; have z3 := HNN.out; omega), Lib.hid ⟨fun hh => by exfalso; have z3 := HNN.out; omega, fun hh => ⟨_, _, by first | rfl | (congr 1 <;> (have z3 := HNN.out; omega))⟩⟩, HCUT2, HI6⟩
        case measure => simp [lenOf]; omega
       ·go_wp2
        go_roundw
        case rel => exact ⟨p + m, ys ++ [y], (by have z1 := HZN.out; have z2 := HRL.out; have z3 := HNN.out; omega), Lib.hid ⟨fun hh => all_next HOFF.out HNN.out HCP.out, fun hh => ⟨_, _, by congr 1; have z3 := HNN.out; omega⟩⟩, HCUT2, HI6⟩
        case measure => simp [lenOf]; omega
     ·have HEND := Lib.hid (show ∀ h : p + m < zs.length, (fun x : Fc.XattrP => Fc.XattrP.name ((fun y : Fc.XattrP => y) x)) (zs[p + m]'h) ≠ (fun x : Fc.XattrP => Fc.XattrP.name ((fun y : Fc.XattrP => y) x)) (zs[p]'(by have z1 := HZN.out; omega)) from fun h => by exfalso; have z1 := HZN.out; have z3 := HNN.out; omega)
      have HID := Lib.hid (HI.out.low (w2 := wr.drew) hqs.out.1 (Below.refl wr.heap.size wr).drew)
      clear HI
      go_wp2
      refine wp_region_held_drew (S := fun _ => True) (by kernel_rfl) trivial (fun hHeld => ?_)
      refine Vc.wpAnyH_rd (i := 0) (d := some 18) (v := ?v87) ?hy87 ?rest87
      case hy87 =>
       intro w hSw
       go_simp
       try with_reducible rfl
      (try simp only [Act.put, List.setIfInBounds_toArray, List.set_cons_zero, List.set_cons_succ])
      refine Vc.wpAnyH_rd (i := 1) (d := some 19) (v := ?v88) ?hy88 ?rest88
      case hy88 =>
       intro w hSw
       go_simp
       try with_reducible rfl
      (try simp only [Act.put, List.setIfInBounds_toArray, List.set_cons_zero, List.set_cons_succ])
      refine Vc.wpAnyH_rd (i := 2) (d := some 20) (v := ?v89) ?hy89 ?rest89
      case hy89 =>
       intro w hSw
       go_simp
       try with_reducible rfl
      (try simp only [Act.put, List.setIfInBounds_toArray, List.set_cons_zero, List.set_cons_succ])
      refine Vc.wpAnyH_rd (i := 3) (d := some 21) (v := .bool false) ?hy90 ?rest90
      case hy90 =>
       intro w hSw
       go_simp
       all_goals first | rfl | (simp only [decide_eq_true_eq, decide_eq_false_iff_not]; omega)
      (try simp only [Act.put, List.setIfInBounds_toArray, List.set_cons_zero, List.set_cons_succ])
      refine Vc.wpAnyH_rd (i := 4) (d := some 22) (v := ?v91) ?hy91 ?rest91
      case hy91 =>
       intro w hSw
       go_simp
       try with_reducible rfl
      (try simp only [Act.put, List.setIfInBounds_toArray, List.set_cons_zero, List.set_cons_succ])
      refine Vc.wpAnyH_skip (i := 5) (d := some 23) (by rfl) (by rfl) (by kernel_rfl) (by kernel_rfl) (by kernel_rfl) (fun _ _ _ h => h) (by rfl) (by assumption) ?_
      (try simp only [Act.put, List.setIfInBounds_toArray, List.set_cons_zero, List.set_cons_succ])
      refine Vc.wpAnyH_skip (i := 6) (d := some 24) (by rfl) (by rfl) (by kernel_rfl) (by kernel_rfl) (by kernel_rfl) (fun _ _ _ h => h) (by rfl) (by assumption) ?_
      (try simp only [Act.put, List.setIfInBounds_toArray, List.set_cons_zero, List.set_cons_succ])
      refine Vc.wpAnyH_skip (i := 7) (d := some 25) (by rfl) (by rfl) (by kernel_rfl) (by kernel_rfl) (by kernel_rfl) (fun _ _ _ h => h) (by rfl) (by assumption) ?_
      (try simp only [Act.put, List.setIfInBounds_toArray, List.set_cons_zero, List.set_cons_succ])
      refine Vc.wpAnyH_skip (i := 8) (d := some 26) (by rfl) (by rfl) (by kernel_rfl) (by kernel_rfl) (by kernel_rfl) (fun _ _ _ h => h) (by rfl) (by assumption) ?_
      (try simp only [Act.put, List.setIfInBounds_toArray, List.set_cons_zero, List.set_cons_succ])
      refine Vc.wpAnyH_skip (i := 9) (d := some 27) (by rfl) (by rfl) (by kernel_rfl) (by kernel_rfl) (by kernel_rfl) (fun _ _ _ h => h) (by rfl) (by assumption) ?_
      (try simp only [Act.put, List.setIfInBounds_toArray, List.set_cons_zero, List.set_cons_succ])
      refine Vc.wpAnyH_skip (i := 10) (d := some 28) (by rfl) (by rfl) (by kernel_rfl) (by kernel_rfl) (by kernel_rfl) (fun _ _ _ h => h) (by rfl) (by assumption) ?_
      (try simp only [Act.put, List.setIfInBounds_toArray, List.set_cons_zero, List.set_cons_succ])
      refine Vc.wpAnyH_skip (i := 11) (d := some 29) (by rfl) (by rfl) (by kernel_rfl) (by kernel_rfl) (by kernel_rfl) (fun _ _ _ h => h) (by rfl) (by assumption) ?_
      (try simp only [Act.put, List.setIfInBounds_toArray, List.set_cons_zero, List.set_cons_succ])
      refine Vc.wpAnyH_skip (i := 12) (d := some 30) (by rfl) (by rfl) (by kernel_rfl) (by kernel_rfl) (by kernel_rfl) (fun _ _ _ h => h) (by rfl) (by assumption) ?_
      (try simp only [Act.put, List.setIfInBounds_toArray, List.set_cons_zero, List.set_cons_succ])
      refine Vc.wpAnyH_skip (i := 13) (d := some 31) (by rfl) (by rfl) (by kernel_rfl) (by kernel_rfl) (by kernel_rfl) (fun _ _ _ h => h) (by rfl) (by assumption) ?_
      (try simp only [Act.put, List.setIfInBounds_toArray, List.set_cons_zero, List.set_cons_succ])
      refine Vc.wpAnyH_skip (i := 14) (d := some 32) (by rfl) (by rfl) (by kernel_rfl) (by kernel_rfl) (by kernel_rfl) (fun _ _ _ h => h) (by rfl) (by assumption) ?_
      (try simp only [Act.put, List.setIfInBounds_toArray, List.set_cons_zero, List.set_cons_succ])
      refine Vc.wpAnyH_rd (i := 15) (d := some 33) (v := ?v92) ?hy92 ?rest92
      case hy92 =>
       intro w hSw
       go_simp
       try with_reducible rfl
      (try simp only [Act.put, List.setIfInBounds_toArray, List.set_cons_zero, List.set_cons_succ])
      refine wpAnyH_done (by kernel_rfl) ?_ _
      have HC := Lib.hid (hone.out wr.drew (HB3.out.trans (HID.out.below.mono HB3.out.size)) (some ⟨g, off, none⟩) m cc x (rr.take (m - 1)) (by have z3 := HNN.out; have z4 := HAL.out; omega) ⟨zs, HPERM.out, grp_sub HDR.out⟩ (grp_keys (key := (fun x : Fc.XattrP => Fc.XattrP.name ((fun y : Fc.XattrP => y) x))) (by have z1 := HZN.out; have z2 := HRL.out; have z3 := HNN.out; omega) HDR.out HGRP.out) (group_row hm1 hm2 HRW.out HID.out.below))
      have HNX := Lib.hid (is_next klt_str joins_X (π := (fun y : Fc.XattrP => y)) (zs := zs) (p := p) (m := m) (x := x) (rr := rr) hm1 (by have z1 := HZN.out; have z2 := HRL.out; have z3 := HNN.out; omega) HDR.out HCUT.out HGRP.out)
      have HCUT2 := Lib.hid (cut_next klt_str (key := (fun x : Fc.XattrP => Fc.XattrP.name ((fun y : Fc.XattrP => y) x))) (zs := zs) (p := p) (m := m) HSORT.out hm1 (by have z1 := HZN.out; have z2 := HRL.out; have z3 := HNN.out; omega) HCUT.out HGRP.out HEND.out)
      have HLN8 := Lib.hid (show ys.length ≤ 4000000 by have z1 := HID.out.few; have z2 := HAL.out; omega)
      clear HGRP HEND
      go_wp2_with fail
      refine HC.out.mono ?_
      rintro e w5 ⟨y, rfl, hy, hq, hb⟩
      have HI5 := Lib.hid (HID.out.low hqs.out.1 hb)
      have HY := Lib.hid hy
      have HQ5 := Lib.hid hq
      have HSZ := Lib.hid HI5.out.below.size
      clear hy hq hb HC HID
      go_wp2_with (first | ((with_reducible refine wpl_build1 kdX (.tmp 41) rfl y ?_); refine And.intro ⟨rfl, by rfl⟩ ?_; (try simp only [Act.put, List.setIfInBounds_toArray, List.set_cons_zero, List.set_cons_succ])) | (at_builtin; (with_reducible refine wpl_one (B := w3.heap.size) (u := .slice A8 ys.length c8) (es := ys) (e := y) kdX (.tmp 36) (.tmp 42) rfl rfl ?_); refine And.intro ⟨⟨by rfl, ⟨_, by rfl, by simp⟩⟩, HI5.out.row, HSZ.out, HLN8.out⟩ ?_) | fail)
      intro u8 w6 hg
      have HI6 := Lib.hid (HI5.out.grew (fun V V' u es y h1 h2 h3 => hqs.out.2 V V' u es y (h1.mono HB3.out.size) h2 h3) hg HQ5.out hm1 (HNX.out.trans (congrArg (fun t => _ ++ [t]) HY.out.symm)))
      clear hg HI5 HQ5 HSZ HLN8 HNX HY
      by_cases hcm : cc = m
      ·go_wp2
       go_roundw
       case rel => exact ⟨p + m, ys ++ [y], (by have z1 := HZN.out; have z2 := HRL.out; have z3 := HNN.out; omega), Lib.hid ⟨fun hh => by exfalso; have z3 := HNN.out; omega, fun hh => ⟨_, _, by first | rfl | (congr 1 <;> (have z3 := HNN.out; omega))⟩⟩, HCUT2, HI6⟩
       case measure => simp [lenOf]; omega
      ·go_wp2
       go_roundw
       case rel => exact ⟨p + m, ys ++ [y], (by have z1 := HZN.out; have z2 := HRL.out; have z3 := HNN.out; omega), Lib.hid ⟨fun hh => all_next HOFF.out HNN.out HCP.out, fun hh => ⟨_, _, by congr 1; have z3 := HNN.out; omega⟩⟩, HCUT2, HI6⟩
       case measure => simp [lenOf]; omega
   ·have hpe : p = N := by omega
    obtain ⟨A7, c7, rfl⟩ := HA.out.2 hpe
    have HF := Lib.hid (show ys.map (fun y : Fc.XattrP => y) = mrg strLt Fc.XattrP.name opX id ((allR ps).map (fun y : Fc.XattrP => y)) by
     rw [HI.out.is_, List.take_of_length_le (by have z1 := HZN.out; omega), HALL.out]
     exact mrg_set klt_str joins_X _ _ (fun z => by simp only [List.mem_map]; exact ⟨fun ⟨a, h1, h2⟩ => ⟨a, HPERM.out.mem_iff.1 h1, h2⟩, fun ⟨a, h1, h2⟩ => ⟨a, HPERM.out.mem_iff.2 h1, h2⟩⟩))
    go_wp2
    go_ret
    first | exact ⟨_, rfl, ys, HI.out.row.mono HB3.out.size, by first | exact HF.out | simpa using HF.out, HI.out.q, HB3.out.trans (HI.out.below.mono HB3.out.size)⟩ | exact ⟨_, ys, rfl, HI.out.row.mono HB3.out.size, by first | exact HF.out | simpa using HF.out, HI.out.q, HB3.out.trans (HI.out.below.mono HB3.out.size)⟩
end Go.Proofs.YtblogecapegbmaaGreat.Jn
