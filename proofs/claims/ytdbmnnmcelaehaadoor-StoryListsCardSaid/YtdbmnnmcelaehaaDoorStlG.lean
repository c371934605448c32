import Derived.Test.YtdbmnnmcelaehaaDoorStabO
import Derived.Test.YtdbmnnmcelaehaaDoorStlD
import Derived.Test.YtdbmnnmcelaehaaDoorStabS
import Derived.Laws.AppendOwnNone

/- The document's order of events: who comes is put in behind all that stand below him, unless one that is alike is there. No program. -/
namespace Go.Proofs.YtdbmnnmcelaehaaDoor.Stl
open Go.RowKit Go.Proofs.YtdbmnnmcelaehaaDoor.Mem Go.Proofs.YtdbmnnmcelaehaaDoor.Stab
open Go.Proofs.YtdbmnnmcelaehaaDoor.Vc (lessB)
set_option linter.unusedVariables false set_option linter.unusedSimpArgs false

def atEq (x e : Fc.EventC) : Bool := x.at_.1 == e.at_.1 && x.at_.2 == e.at_.2
def likeB (x e : Fc.EventC) : Bool := atEq x e && decide (x.vol = e.vol)
def lowB (x e : Fc.EventC) : Bool := lessB x.at_.1 x.at_.2 e.at_.1 e.at_.2 || (atEq x e && decide (x.vol < e.vol))
theorem likeB_iff (x e : Fc.EventC) : likeB x e = true ↔ Like x e := by
  unfold likeB atEq Like
  simp
  omega
theorem lowB_iff (x e : Fc.EventC) : lowB x e = true ↔ Low x e := by
  have h := less_iff x e
  unfold lessE at h
  unfold lowB atEq Low
  rw [Bool.or_eq_true, h]
  simp
  omega
/-- behind how many of the first m one is put -/
def atF (f : Nat → Fc.EventC) (e : Fc.EventC) : Nat → Nat
  | 0 => 0
  | m + 1 => if lowB (f m) e then m + 1 else atF f e m
theorem atF_le (f : Nat → Fc.EventC) (e : Fc.EventC) : ∀ m, atF f e m ≤ m
  | 0 => Nat.le_refl _
  | m + 1 => by
    have := atF_le f e m
    unfold atF
    split <;> omega
theorem atF_step (f : Nat → Fc.EventC) (e : Fc.EventC) (m : Nat) : atF f e (m + 1) = if lowB (f m) e then m + 1 else atF f e m := rfl
theorem atF_above (f : Nat → Fc.EventC) (e : Fc.EventC) : ∀ m i, atF f e m ≤ i → i < m → lowB (f i) e = false
  | 0, i, _, h => absurd h (Nat.not_lt_zero _)
  | m + 1, i, h1, h2 => by
    unfold atF at h1
    split at h1
    · omega
    · rename_i c
      by_cases e1 : i = m
      · subst e1
        cases hh : lowB (f i) e with
        | false => rfl
        | true => exact absurd hh c
      · exact atF_above f e m i h1 (by omega)
theorem atF_hit (f : Nat → Fc.EventC) (e : Fc.EventC) : ∀ m, 0 < atF f e m → lowB (f (atF f e m - 1)) e = true
  | 0, h => absurd h (Nat.not_lt_zero _)
  | m + 1, h => by
    unfold atF at h ⊢
    split at h
    · rename_i c
      rw [if_pos c]
      exact c
    · rename_i c
      rw [if_neg c]
      exact atF_hit f e m h
/-- the least place at which one that is alike stands -/
theorem first_of {es : List Fc.EventC} {e : Fc.EventC} : ∀ (n j : Nat), j ≤ n → (∃ x, es[j]? = some x ∧ Like x e) → ∃ x, First es x ∧ Like x e
  | 0, j, hj, ⟨x, h1, h2⟩ => by
    obtain rfl : j = 0 := by omega
    exact ⟨x, ⟨0, h1, fun k e' hk => absurd hk (Nat.not_lt_zero _)⟩, h2⟩
  | n + 1, j, hj, ⟨x, h1, h2⟩ => by
    by_cases c : ∃ k y, k < j ∧ es[k]? = some y ∧ Like y e
    · obtain ⟨k, y, k1, k2, k3⟩ := c
      exact first_of n k (by omega) ⟨y, k2, k3⟩
    · refine ⟨x, ⟨j, h1, fun k e' hk hke hl => c ⟨k, e', hk, hke, like_trans hl h2⟩⟩, h2⟩
section
variable {es os : List Fc.EventC} {e : Fc.EventC} {f : Nat → Fc.EventC}
theorem ord_again (h : OrdL es os) (ha : os.any (fun x => likeB x e) = true) : OrdL (es ++ [e]) os := by
  refine ⟨h.low, fun e' => (h.mem e').trans ⟨?_, ?_⟩⟩
  · rintro ⟨i, hi, hf⟩
    have hil := (List.getElem?_eq_some_iff.1 hi).1
    refine ⟨i, by rw [List.getElem?_append_left hil]; exact hi, fun j e2 hj he2 => hf j e2 hj ?_⟩
    rwa [List.getElem?_append_left (by omega)] at he2
  · rintro ⟨i, hi, hf⟩
    by_cases c : i < es.length
    · rw [List.getElem?_append_left c] at hi
      exact ⟨i, hi, fun j e2 hj he2 => hf j e2 hj (by rw [List.getElem?_append_left (by omega)]; exact he2)⟩
    · exfalso
      rw [List.getElem?_append_right (by omega)] at hi
      have hi0 : i - es.length = 0 := by
        have := (List.getElem?_eq_some_iff.1 hi).1
        simp at this
        omega
      rw [hi0] at hi
      have he : e = e' := by simpa using hi
      subst he
      obtain ⟨x, hx, hl⟩ := List.any_eq_true.1 ha
      obtain ⟨k, hk, _⟩ := (h.mem x).1 hx
      have hkl := (List.getElem?_eq_some_iff.1 hk).1
      exact hf k x (by omega) (by rw [List.getElem?_append_left hkl]; exact hk) ((likeB_iff x e).1 hl)
theorem ord_put (h : OrdL es os) (hf : ∀ i, i < os.length → os[i]? = some (f i)) (ha : os.any (fun x => likeB x e) = false) : OrdL (es ++ [e]) (os.take (atF f e os.length) ++ [e] ++ os.drop (atF f e os.length)) := by
  obtain ⟨a, haa⟩ : ∃ a, a = atF f e os.length := ⟨_, rfl⟩
  have hal : a ≤ os.length := by rw [haa]; exact atF_le f e _
  rw [← haa]
  have nl : ∀ x ∈ os, ¬ Like x e := fun x hx hl => by
    have := List.any_eq_false.1 ha x hx
    exact this ((likeB_iff x e).2 hl)
  have low1 : ∀ x ∈ os.take a, Low x e := by
    intro x hx
    obtain ⟨i, hi, e1⟩ := List.mem_iff_getElem.1 hx
    have hia : i < a := by rw [List.length_take] at hi; omega
    rw [List.getElem_take] at e1
    have h0 : 0 < atF f e os.length := by omega
    have hh := (lowB_iff _ _).1 (atF_hit f e os.length h0)
    rw [← haa] at hh
    have g1 := hf (a - 1) (by omega)
    by_cases c : i = a - 1
    · have g2 := hf i (by omega)
      rw [List.getElem?_eq_getElem (by omega), e1] at g2
      rw [Option.some.inj g2, c]
      exact hh
    · have g3 := lows_unlike h.low (show i < a - 1 by omega) (by rw [List.getElem?_eq_getElem (show i < os.length by omega), e1]) g1
      exact low_trans g3 hh
  have low2 : ∀ x ∈ os.drop a, Low e x := by
    intro x hx
    obtain ⟨i, hi, e1⟩ := List.mem_iff_getElem.1 hx
    rw [List.length_drop] at hi
    rw [List.getElem_drop] at e1
    have g2 := hf (a + i) (by omega)
    rw [List.getElem?_eq_getElem (by omega), e1] at g2
    have g3 := atF_above f e os.length (a + i) (by omega) (by omega)
    rw [← Option.some.inj g2] at g3
    have hm : x ∈ os := by rw [← e1]; exact List.getElem_mem _
    rcases ord_cases x e with ⟨_, k⟩ | ⟨_, k⟩ | ⟨_, k⟩
    · rw [(lowB_iff x e).2 k] at g3
      cases g3
    · exact absurd k (nl x hm)
    · exact k
  have hp := h.low
  rw [← List.take_append_drop a os, List.pairwise_append] at hp
  refine ⟨?_, fun e' => ?_⟩
  · rw [List.pairwise_append]
    refine ⟨List.pairwise_append.2 ⟨hp.1, List.pairwise_singleton _ _, fun x hx y hy => by rw [List.mem_singleton.1 hy]; exact low1 x hx⟩, hp.2.1, fun x hx y hy => ?_⟩
    rcases List.mem_append.1 hx with k | k
    · exact hp.2.2 x k y hy
    · rw [List.mem_singleton.1 k]
      exact low2 y hy
  · have m1 : e' ∈ os.take a ++ [e] ++ os.drop a ↔ e' ∈ os ∨ e' = e := by
      constructor
      · intro hx
        rcases List.mem_append.1 hx with k | k
        · rcases List.mem_append.1 k with k | k
          · exact .inl (List.mem_of_mem_take k)
          · exact .inr (List.mem_singleton.1 k)
        · exact .inl (List.mem_of_mem_drop k)
      · rintro (k | k)
        · rw [← List.take_append_drop a os] at k
          rcases List.mem_append.1 k with k | k
          · exact List.mem_append.2 (.inl (List.mem_append.2 (.inl k)))
          · exact List.mem_append.2 (.inr k)
        · exact List.mem_append.2 (.inl (List.mem_append.2 (.inr (List.mem_singleton.2 k))))
    rw [m1, h.mem]
    constructor
    · rintro (⟨i, hi, hff⟩ | rfl)
      · have hil := (List.getElem?_eq_some_iff.1 hi).1
        refine ⟨i, by rw [List.getElem?_append_left hil]; exact hi, fun j e2 hj he2 => hff j e2 hj ?_⟩
        rwa [List.getElem?_append_left (by omega)] at he2
      · refine ⟨es.length, by rw [List.getElem?_append_right (Nat.le_refl _), Nat.sub_self]; rfl, fun j e2 hj he2 hl => ?_⟩
        rw [List.getElem?_append_left hj] at he2
        obtain ⟨x, hx1, hx2⟩ := first_of j j (Nat.le_refl _) ⟨e2, he2, hl⟩
        exact nl x ((h.mem x).2 hx1) hx2
    · rintro ⟨i, hi, hff⟩
      by_cases c : i < es.length
      · rw [List.getElem?_append_left c] at hi
        exact .inl ⟨i, hi, fun j e2 hj he2 => hff j e2 hj (by rw [List.getElem?_append_left (by omega)]; exact he2)⟩
      · right
        rw [List.getElem?_append_right (by omega)] at hi
        have hi0 : i - es.length = 0 := by
          have := (List.getElem?_eq_some_iff.1 hi).1
          simp at this
          omega
        rw [hi0] at hi
        have he : e = e' := by simpa using hi
        exact he.symm
end
end Go.Proofs.YtdbmnnmcelaehaaDoor.Stl
/- The document's Order of events, walked. -/
namespace Go.Proofs.YtdbmnnmcelaehaaDoor.Stl
open Go.RowKit Go.Proofs.YtdbmnnmcelaehaaDoor.Mem
open Go.Proofs.YtdbmnnmcelaehaaDoor.Stab (OrdL First eown_nil eown_sl eown_srow own_rw own_srow own_news flat_one flat_len eL_len OrdIs)
open Go.Proofs.YtdbmnnmcelaehaaDoor.Sr (EOwn GrewE eL info_parts_ev)
open Go.Proofs.YtdbmnnmcelaehaaDoor.Vc (vecC stC eql_st neq_st lessB)
set_option linter.unusedVariables false set_option linter.unusedSimpArgs false

structure GrewL (B : Nat) (w w' : World) (u' : Value) (l ks : List Fc.EventC) : Prop where
  row : EOwn w' B u' (l ++ ks)
  below : Below B w w'
theorem wpl_rows {ops : Array Oper} {rest : List Oper} {o : Oper} {a : Act} {Q : Exit → Act → World → Prop} (s x : Operand) (hgd : o.guard = none)
    (ho : o.op = .call { callee := .builtin .append, args := #[s, x], argTypes := #[38, 38] }) {B : Nat} {u : Value} {l ks : List Fc.EventC} {wc : World} {ad : Addr} {m c : Nat}
    (h : ((a.eval s = u ∧ a.eval x = .slice (some ad) m c) ∧ EOwn wc B u l ∧ Fc.SRow wc 21 Fc.eventC (some ad) m ks ∧ B ≤ wc.heap.size ∧ l.length + m ≤ 4000000) ∧
      ∀ u' w', GrewL B wc w' u' l ks → wpList Tryd.prog ops Q rest (a.put o.dst u') w') :
    wpList Tryd.prog ops Q (o :: rest) a wc := by
  obtain ⟨⟨⟨h1, h2⟩, h3, h4, h5, h6⟩, hk⟩ := h
  obtain ⟨i0, hi, hz0, hz1, hz2⟩ := info_parts_ev
  have hlen := h4.len
  refine wpList_append_own _ hgd s x 38 ho B 31 i0 (.agg (Fc.eventC Sr.zeroE)) 21 200 Tryd.underlying38 hi hz0 hz1 hz2 rfl (by decide) u l.length (l.flatMap eL) h1 h3 ad m c (ks.flatMap eL) h2 (by rw [flat_len eL_len, hlen]) (own_news h4) (flat_one ks) (by unfold maxLen; omega) (by omega) h5 ?_
  intro v1 w2 o2 g2 _
  refine hk _ _ ⟨?_, (Below.refl B wc).grown g2 h5 (fun q hq => ((World.ownsRow.lt h3) q hq).1)⟩
  unfold EOwn
  rw [List.length_append, List.flatMap_append, hlen]
  exact o2
theorem wpl_none {ops : Array Oper} {rest : List Oper} {o : Oper} {a : Act} {Q : Exit → Act → World → Prop} (s x : Operand) (hgd : o.guard = none)
    (ho : o.op = .call { callee := .builtin .append, args := #[s, x], argTypes := #[38, 38] }) {B : Nat} {u : Value} {l : List Fc.EventC} {wc : World}
    (h : ((a.eval s = u ∧ a.eval x = .slice none 0 0) ∧ EOwn wc B u l) ∧ wpList Tryd.prog ops Q rest (a.put o.dst u) wc) : wpList Tryd.prog ops Q (o :: rest) a wc := by
  obtain ⟨⟨⟨h1, h2⟩, h3⟩, hk⟩ := h
  obtain ⟨i0, hi, _⟩ := info_parts_ev
  exact wpList_append_own_none hgd s x 38 ho B 31 i0 21 Tryd.underlying38 hi u l.length (l.flatMap eL) h1 h3 h2 hk
structure OrI (w wr : World) (u : Value) (l : List Fc.EventC) : Prop where
  below : Below w.heap.size w wr
  row : EOwn wr w.heap.size u l
theorem OrI.low {w wr w2 : World} {u : Value} {l : List Fc.EventC} (h : OrI w wr u l) (hb : Below wr.heap.size wr w2) : OrI w w2 u l := ⟨h.below.trans (hb.mono h.below.size), eown_below h.row hb⟩
theorem any_next {os : List Fc.EventC} (P : Fc.EventC → Bool) {i : Nat} (h : i < os.length) : (os.take (i + 1)).any P = ((os.take i).any P || P os[i]) := by
  rw [List.take_succ_eq_append_getElem h, List.any_append]
  simp
set_option maxRecDepth 100000 in
set_option maxHeartbeats 16000000 in
theorem rorder_all (A : Option Addr) (n c : Nat) (es : List Fc.EventC) (hn : n ≤ 60) (w : World) (hr : Fc.SRow w 21 Fc.eventC A n es) : Calls Tryd.prog 14 #[.slice A n c] w (OrdIs es w) := by
  have HR := Lib.hid hr
  have HLN := Lib.hid hr.len
  have halv := Sr.alloc_event
  clear hr
  go_enter Tryd.func14, Tryd.ntmps14
  go_wp2
  go_loopw [3, 13] (fun u i wr => ∃ (j : Nat) (os : List Fc.EventC), i = .int .i64 j ∧ j ≤ n ∧ Hid (OrdL (es.take j) os) ∧ Hid (os.length ≤ j) ∧ Hid (OrI w wr u os)) (fun _ i _ => n - (intOf i).toNat)
  case atStart => exact ⟨0, [], rfl, Nat.zero_le _, Lib.hid ⟨List.Pairwise.nil, fun e => ⟨(fun h => by cases h), fun h => by obtain ⟨i, h, _⟩ := h; simp at h⟩⟩, Lib.hid (Nat.le_refl _), Lib.hid ⟨Below.refl _ _, eown_nil _ _⟩⟩
  case round =>
    obtain ⟨j, os, rfl, hj, HO, HOL, HI⟩ := hrel
    obtain ⟨wo, hwo⟩ : ∃ wo : World, wo = wr := ⟨_, rfl⟩
    subst hwo
    by_cases hlt : j < n
    · obtain ⟨b, off, rfl, hbl, hx, mr⟩ := (HR.out.below HI.out.below).range (i := j) hlt
      have HTK := Lib.hid (List.take_succ_eq_append_getElem hx)
      obtain ⟨e, he⟩ : ∃ e, e = es[j] := ⟨_, rfl⟩
      rw [← he] at mr HTK
      have MR := Lib.hid mr
      have hb1 := (Below.refl wo.heap.size wo).alloc (Nat.le_refl _) (.cells (Fc.eventC e) 31)
      have HIb := Lib.hid (HI.out.low hb1)
      have HYb := Lib.hid (Has.fresh wo 31 (Fc.eventC e))
      obtain ⟨f, hf⟩ : ∃ f : Nat → Fc.EventC, f = fun i => (os[i]?).getD Sr.zeroE := ⟨_, rfl⟩
      have HFE := Lib.hid (show ∀ i (h : i < os.length), os[i] = f i from fun i h => by rw [hf]; show _ = (os[i]?).getD Sr.zeroE; rw [List.getElem?_eq_getElem h]; rfl)
      have hol : os.length ≤ 60 := Nat.le_trans HOL.out (by omega)
      obtain ⟨A2, c2, rfl, hnil, hsome⟩ := eown_sl HI.out.row
      have HNL := Lib.hid hnil
      have HSM := Lib.hid hsome
      obtain ⟨L, hL⟩ : ∃ L, L = os.length := ⟨_, rfl⟩
      have HLE := Lib.hid hL
      rw [← hL] at HIb
      rw [← hL] at hol
      rw [← hL]
      clear hx mr hbl hb1 he hf hnil hsome hL HI
      go_wp2_with (first | ((with_reducible refine Who.wpList_loadC 31 (.tmp 15) rfl (b) (off + j * 21) (Fc.eventC e) ?_); refine And.intro ⟨by rfl, by rfl, ⟨_, Tryd.underlying31, rfl⟩, Sr.info_event⟩ (And.intro (MR.out) ?_); (try simp only [Act.put, List.setIfInBounds_toArray, List.set_cons_zero, List.set_cons_succ])) | ((with_reducible refine Who.wpList_newC 31 5 (.tmp 16) rfl rfl rfl (Fc.eventC Sr.zeroE) (Fc.eventC e) ?_); refine And.intro ⟨rfl, rfl, rfl, halv, by rfl, by rfl, Sr.info_event, rfl, Sr.event_one _⟩ ?_; (try simp only [Act.put, List.setIfInBounds_toArray, List.set_cons_zero, List.set_cons_succ]); (try simp only [World.size_alloc])) | fail)
      go_loopw [6, 7, 19] (fun sa sg si wr => ∃ (i at_ : Nat) (ag : Bool), si = .int .i64 i ∧ sa = .int .i64 at_ ∧ sg = .bool ag ∧ i ≤ L ∧ Hid (at_ = atF f e i) ∧ Hid (ag = (os.take i).any (fun x => likeB x e)) ∧ Hid (OrI w wr (.slice A2 L c2) os) ∧ Hid (Has wr wo.heap.size 31 (Fc.eventC e))) (fun _ _ si _ => L - (intOf si).toNat)
      case atStart => exact ⟨0, 0, false, rfl, rfl, rfl, Nat.zero_le _, Lib.hid rfl, Lib.hid rfl, HIb, HYb⟩
      case round =>
        clear HIb HYb
        obtain ⟨i, at_, ag, rfl, rfl, rfl, hi, HAT, HAG, HI, HY⟩ := hrel
        by_cases hli : i < L
        · have hio : i < os.length := by rw [← HLE.out]; exact hli
          obtain ⟨g, rfl⟩ : ∃ g, A2 = some ⟨g, 0, none⟩ := by
            cases A2 with
            | none =>
              have := (HNL.out rfl).2
              rw [this] at hio
              exact absurd hio (Nat.not_lt_zero _)
            | some a =>
              obtain ⟨g, rfl⟩ := HSM.out a rfl
              exact ⟨g, rfl⟩
          obtain ⟨_, hcap, _, z, hrw⟩ := own_rw (show EOwn wr w.heap.size (.slice (some ⟨g, 0, none⟩) os.length c2) os by rw [← HLE.out]; exact HI.out.row)
          have mr2 := hrw.range Stab.size_c hio
          have hxe : ((os[i]?).getD Sr.zeroE) = f i := by rw [← HFE.out i hio, List.getElem?_eq_getElem hio]; rfl
          rw [hxe] at mr2
          have HST := Lib.hid (any_next (fun x => likeB x e) hio)
          rw [HFE.out i hio] at HST
          have HAS := Lib.hid (atF_step f e i)
          obtain ⟨x, hxx⟩ : ∃ x, x = f i := ⟨_, rfl⟩
          rw [← hxx] at mr2 HST HAS
          have MR2 := Lib.hid mr2
          have hb2 := (Below.refl wr.heap.size wr).alloc (Nat.le_refl _) (.cells (Fc.eventC x) 31)
          have HI1 := Lib.hid (HI.out.low hb2)
          have HY1 := Lib.hid (HY.out.below hb2)
          have HX := Lib.hid (Has.fresh wr 31 (Fc.eventC x))
          have hvx : (wr.alloc (.cells (Fc.eventC x) 31)).cell? ⟨wr.heap.size, 2, none⟩ = some (.int .i64 x.vol) := HX.out.at_ 2
          have hvy : (wr.alloc (.cells (Fc.eventC x) 31)).cell? ⟨wo.heap.size, 2, none⟩ = some (.int .i64 e.vol) := HY1.out.at_ 2
          have q1 := fun W => eql_st x.at_.1 x.at_.2 e.at_.1 e.at_.2 W
          unfold stC at q1
          have HLK := Lib.hid (show likeB x e = ((x.at_.1 == e.at_.1 && x.at_.2 == e.at_.2) && decide (x.vol = e.vol)) from rfl)
          have HLB := Lib.hid (show lowB x e = (lessB x.at_.1 x.at_.2 e.at_.1 e.at_.2 || ((x.at_.1 == e.at_.1 && x.at_.2 == e.at_.2) && decide (x.vol < e.vol))) from rfl)
          obtain ⟨z1, hz1⟩ : ∃ z1, z1 = (x.at_.1 == e.at_.1 && x.at_.2 == e.at_.2) := ⟨_, rfl⟩
          obtain ⟨lb, hlb⟩ : ∃ lb, lb = lessB x.at_.1 x.at_.2 e.at_.1 e.at_.2 := ⟨_, rfl⟩
          have HLS := Lib.hid (fun V => by have q := Vc.rless_any x.at_.1 x.at_.2 e.at_.1 e.at_.2 V; unfold stC at q; rw [← hlb] at q; exact q)
          rw [← hz1] at q1 HLK HLB
          rw [← hlb] at HLB
          clear hz1 hlb hxx mr2 hrw hcap hxe hb2 hio HI HY
          cases ag with
          | true =>
            have HAGN : Hid (true = (os.take (i + 1)).any (fun x => likeB x e)) := Lib.hid (by rw [HST.out, ← HAG.out]; rfl)
            cases z1 with
            | true =>
              go_wp2_with (first | ((with_reducible refine Who.wpList_loadC 31 (.tmp 22) rfl (g) (i * 21) (Fc.eventC x) ?_); refine And.intro ⟨by rfl, by rfl, ⟨_, Tryd.underlying31, rfl⟩, Sr.info_event⟩ (And.intro (MR2.out) ?_); (try simp only [Act.put, List.setIfInBounds_toArray, List.set_cons_zero, List.set_cons_succ])) | ((with_reducible refine Who.wpList_alloc 31 9 rfl rfl rfl (Fc.eventC Sr.zeroE) halv ?_); (try simp only [Act.put, List.setIfInBounds_toArray, List.set_cons_zero, List.set_cons_succ]); (try simp only [World.size_alloc])) | ((with_reducible refine wpList_storeNew 31 (.tmp 9) (.tmp 23) (Fc.eventC Sr.zeroE) (Fc.eventC x) rfl ?_); refine And.intro ⟨rfl, rfl, by rfl, by rfl, Sr.info_event, rfl, Sr.event_one _⟩ ?_; (try simp only [Act.put, List.setIfInBounds_toArray, List.set_cons_zero, List.set_cons_succ])) | ((with_reducible refine Who.wpList_loadC 23 (.tmp 26) rfl (wr.heap.size) 0 (#[.int .i64 x.at_.1, .int .i64 x.at_.2]) ?_); refine And.intro ⟨by rfl, by rfl, ⟨_, Tryd.underlying23, rfl⟩, Sr.info_st⟩ (And.intro (Smr.rangeOf HX.out 0 _ (rat _)) ?_); (try simp only [Act.put, List.setIfInBounds_toArray, List.set_cons_zero, List.set_cons_succ])) | ((with_reducible refine Who.wpList_loadC 23 (.tmp 28) rfl (wo.heap.size) 0 (#[.int .i64 e.at_.1, .int .i64 e.at_.2]) ?_); refine And.intro ⟨by rfl, by rfl, ⟨_, Tryd.underlying23, rfl⟩, Sr.info_st⟩ (And.intro (Smr.rangeOf HY1.out 0 _ (rat _)) ?_); (try simp only [Act.put, List.setIfInBounds_toArray, List.set_cons_zero, List.set_cons_succ])) | ((with_reducible refine Who.wpList_loadC 23 (.tmp 39) rfl (wr.heap.size) 0 (#[.int .i64 x.at_.1, .int .i64 x.at_.2]) ?_); refine And.intro ⟨by rfl, by rfl, ⟨_, Tryd.underlying23, rfl⟩, Sr.info_st⟩ (And.intro (Smr.rangeOf HX.out 0 _ (rat _)) ?_); (try simp only [Act.put, List.setIfInBounds_toArray, List.set_cons_zero, List.set_cons_succ])) | ((with_reducible refine Who.wpList_loadC 23 (.tmp 41) rfl (wo.heap.size) 0 (#[.int .i64 e.at_.1, .int .i64 e.at_.2]) ?_); refine And.intro ⟨by rfl, by rfl, ⟨_, Tryd.underlying23, rfl⟩, Sr.info_st⟩ (And.intro (Smr.rangeOf HY1.out 0 _ (rat _)) ?_); (try simp only [Act.put, List.setIfInBounds_toArray, List.set_cons_zero, List.set_cons_succ])) | ((with_reducible refine Who.wpList_loadC 23 (.tmp 45) rfl (wr.heap.size) 0 (#[.int .i64 x.at_.1, .int .i64 x.at_.2]) ?_); refine And.intro ⟨by rfl, by rfl, ⟨_, Tryd.underlying23, rfl⟩, Sr.info_st⟩ (And.intro (Smr.rangeOf HX.out 0 _ (rat _)) ?_); (try simp only [Act.put, List.setIfInBounds_toArray, List.set_cons_zero, List.set_cons_succ])) | ((with_reducible refine Who.wpList_loadC 23 (.tmp 47) rfl (wo.heap.size) 0 (#[.int .i64 e.at_.1, .int .i64 e.at_.2]) ?_); refine And.intro ⟨by rfl, by rfl, ⟨_, Tryd.underlying23, rfl⟩, Sr.info_st⟩ (And.intro (Smr.rangeOf HY1.out 0 _ (rat _)) ?_); (try simp only [Act.put, List.setIfInBounds_toArray, List.set_cons_zero, List.set_cons_succ])) | fail)
              go_at_call 37
              refine (HLS.out _).mono ?_
              rintro q w3 ⟨rfl, hb⟩
              have HI2 := Lib.hid (HI1.out.low hb)
              have HX2 := Lib.hid (HX.out.below hb)
              have HY2 := Lib.hid (HY1.out.below hb)
              have hwx : w3.cell? ⟨wr.heap.size, 2, none⟩ = some (.int .i64 x.vol) := HX2.out.at_ 2
              have hwe : w3.cell? ⟨wo.heap.size, 2, none⟩ = some (.int .i64 e.vol) := HY2.out.at_ 2
              clear hb hvx hvy
              cases lb with
              | true =>
                have HAN := Lib.hid (show atF f e (i + 1) = i + 1 by rw [HAS.out, HLB.out]; rfl)
                go_wp2_with (first | ((with_reducible refine Who.wpList_loadC 23 (.tmp 45) rfl (wr.heap.size) 0 (#[.int .i64 x.at_.1, .int .i64 x.at_.2]) ?_); refine And.intro ⟨by rfl, by rfl, ⟨_, Tryd.underlying23, rfl⟩, Sr.info_st⟩ (And.intro (Smr.rangeOf HX2.out 0 _ (rat _)) ?_); (try simp only [Act.put, List.setIfInBounds_toArray, List.set_cons_zero, List.set_cons_succ])) | ((with_reducible refine Who.wpList_loadC 23 (.tmp 47) rfl (wo.heap.size) 0 (#[.int .i64 e.at_.1, .int .i64 e.at_.2]) ?_); refine And.intro ⟨by rfl, by rfl, ⟨_, Tryd.underlying23, rfl⟩, Sr.info_st⟩ (And.intro (Smr.rangeOf HY2.out 0 _ (rat _)) ?_); (try simp only [Act.put, List.setIfInBounds_toArray, List.set_cons_zero, List.set_cons_succ])) | fail)
                go_roundw
                case rel => exact ⟨i + 1, i + 1, true, by go_num, by go_num, rfl, by omega, Lib.hid HAN.out.symm, HAGN, HI2, HY2⟩
                case measure => simp [intOf]; omega
              | false =>
                by_cases hlt2 : x.vol < e.vol
                · have HAN := Lib.hid (show atF f e (i + 1) = i + 1 by rw [HAS.out, HLB.out, decide_eq_true hlt2]; rfl)
                  go_wp2_with (first | ((with_reducible refine Who.wpList_loadC 23 (.tmp 45) rfl (wr.heap.size) 0 (#[.int .i64 x.at_.1, .int .i64 x.at_.2]) ?_); refine And.intro ⟨by rfl, by rfl, ⟨_, Tryd.underlying23, rfl⟩, Sr.info_st⟩ (And.intro (Smr.rangeOf HX2.out 0 _ (rat _)) ?_); (try simp only [Act.put, List.setIfInBounds_toArray, List.set_cons_zero, List.set_cons_succ])) | ((with_reducible refine Who.wpList_loadC 23 (.tmp 47) rfl (wo.heap.size) 0 (#[.int .i64 e.at_.1, .int .i64 e.at_.2]) ?_); refine And.intro ⟨by rfl, by rfl, ⟨_, Tryd.underlying23, rfl⟩, Sr.info_st⟩ (And.intro (Smr.rangeOf HY2.out 0 _ (rat _)) ?_); (try simp only [Act.put, List.setIfInBounds_toArray, List.set_cons_zero, List.set_cons_succ])) | fail)
                  go_roundw
                  case rel => exact ⟨i + 1, i + 1, true, by go_num, by go_num, rfl, by omega, Lib.hid HAN.out.symm, HAGN, HI2, HY2⟩
                  case measure => simp [intOf]; omega
                · have HAN := Lib.hid (show atF f e (i + 1) = atF f e i by rw [HAS.out, HLB.out, decide_eq_false hlt2]; rfl)
                  go_wp2_with (first | ((with_reducible refine Who.wpList_loadC 23 (.tmp 45) rfl (wr.heap.size) 0 (#[.int .i64 x.at_.1, .int .i64 x.at_.2]) ?_); refine And.intro ⟨by rfl, by rfl, ⟨_, Tryd.underlying23, rfl⟩, Sr.info_st⟩ (And.intro (Smr.rangeOf HX2.out 0 _ (rat _)) ?_); (try simp only [Act.put, List.setIfInBounds_toArray, List.set_cons_zero, List.set_cons_succ])) | ((with_reducible refine Who.wpList_loadC 23 (.tmp 47) rfl (wo.heap.size) 0 (#[.int .i64 e.at_.1, .int .i64 e.at_.2]) ?_); refine And.intro ⟨by rfl, by rfl, ⟨_, Tryd.underlying23, rfl⟩, Sr.info_st⟩ (And.intro (Smr.rangeOf HY2.out 0 _ (rat _)) ?_); (try simp only [Act.put, List.setIfInBounds_toArray, List.set_cons_zero, List.set_cons_succ])) | fail)
                  go_roundw
                  case rel => exact ⟨i + 1, at_, true, by go_num, rfl, rfl, by omega, Lib.hid (by rw [HAN.out]; exact HAT.out), HAGN, HI2, HY2⟩
                  case measure => simp [intOf]; omega
            | false =>
              go_wp2_with (first | ((with_reducible refine Who.wpList_loadC 31 (.tmp 22) rfl (g) (i * 21) (Fc.eventC x) ?_); refine And.intro ⟨by rfl, by rfl, ⟨_, Tryd.underlying31, rfl⟩, Sr.info_event⟩ (And.intro (MR2.out) ?_); (try simp only [Act.put, List.setIfInBounds_toArray, List.set_cons_zero, List.set_cons_succ])) | ((with_reducible refine Who.wpList_alloc 31 9 rfl rfl rfl (Fc.eventC Sr.zeroE) halv ?_); (try simp only [Act.put, List.setIfInBounds_toArray, List.set_cons_zero, List.set_cons_succ]); (try simp only [World.size_alloc])) | ((with_reducible refine wpList_storeNew 31 (.tmp 9) (.tmp 23) (Fc.eventC Sr.zeroE) (Fc.eventC x) rfl ?_); refine And.intro ⟨rfl, rfl, by rfl, by rfl, Sr.info_event, rfl, Sr.event_one _⟩ ?_; (try simp only [Act.put, List.setIfInBounds_toArray, List.set_cons_zero, List.set_cons_succ])) | ((with_reducible refine Who.wpList_loadC 23 (.tmp 26) rfl (wr.heap.size) 0 (#[.int .i64 x.at_.1, .int .i64 x.at_.2]) ?_); refine And.intro ⟨by rfl, by rfl, ⟨_, Tryd.underlying23, rfl⟩, Sr.info_st⟩ (And.intro (Smr.rangeOf HX.out 0 _ (rat _)) ?_); (try simp only [Act.put, List.setIfInBounds_toArray, List.set_cons_zero, List.set_cons_succ])) | ((with_reducible refine Who.wpList_loadC 23 (.tmp 28) rfl (wo.heap.size) 0 (#[.int .i64 e.at_.1, .int .i64 e.at_.2]) ?_); refine And.intro ⟨by rfl, by rfl, ⟨_, Tryd.underlying23, rfl⟩, Sr.info_st⟩ (And.intro (Smr.rangeOf HY1.out 0 _ (rat _)) ?_); (try simp only [Act.put, List.setIfInBounds_toArray, List.set_cons_zero, List.set_cons_succ])) | ((with_reducible refine Who.wpList_loadC 23 (.tmp 39) rfl (wr.heap.size) 0 (#[.int .i64 x.at_.1, .int .i64 x.at_.2]) ?_); refine And.intro ⟨by rfl, by rfl, ⟨_, Tryd.underlying23, rfl⟩, Sr.info_st⟩ (And.intro (Smr.rangeOf HX.out 0 _ (rat _)) ?_); (try simp only [Act.put, List.setIfInBounds_toArray, List.set_cons_zero, List.set_cons_succ])) | ((with_reducible refine Who.wpList_loadC 23 (.tmp 41) rfl (wo.heap.size) 0 (#[.int .i64 e.at_.1, .int .i64 e.at_.2]) ?_); refine And.intro ⟨by rfl, by rfl, ⟨_, Tryd.underlying23, rfl⟩, Sr.info_st⟩ (And.intro (Smr.rangeOf HY1.out 0 _ (rat _)) ?_); (try simp only [Act.put, List.setIfInBounds_toArray, List.set_cons_zero, List.set_cons_succ])) | ((with_reducible refine Who.wpList_loadC 23 (.tmp 45) rfl (wr.heap.size) 0 (#[.int .i64 x.at_.1, .int .i64 x.at_.2]) ?_); refine And.intro ⟨by rfl, by rfl, ⟨_, Tryd.underlying23, rfl⟩, Sr.info_st⟩ (And.intro (Smr.rangeOf HX.out 0 _ (rat _)) ?_); (try simp only [Act.put, List.setIfInBounds_toArray, List.set_cons_zero, List.set_cons_succ])) | ((with_reducible refine Who.wpList_loadC 23 (.tmp 47) rfl (wo.heap.size) 0 (#[.int .i64 e.at_.1, .int .i64 e.at_.2]) ?_); refine And.intro ⟨by rfl, by rfl, ⟨_, Tryd.underlying23, rfl⟩, Sr.info_st⟩ (And.intro (Smr.rangeOf HY1.out 0 _ (rat _)) ?_); (try simp only [Act.put, List.setIfInBounds_toArray, List.set_cons_zero, List.set_cons_succ])) | fail)
              go_at_call 37
              refine (HLS.out _).mono ?_
              rintro q w3 ⟨rfl, hb⟩
              have HI2 := Lib.hid (HI1.out.low hb)
              have HX2 := Lib.hid (HX.out.below hb)
              have HY2 := Lib.hid (HY1.out.below hb)
              have hwx : w3.cell? ⟨wr.heap.size, 2, none⟩ = some (.int .i64 x.vol) := HX2.out.at_ 2
              have hwe : w3.cell? ⟨wo.heap.size, 2, none⟩ = some (.int .i64 e.vol) := HY2.out.at_ 2
              clear hb hvx hvy
              cases lb with
              | true =>
                have HAN := Lib.hid (show atF f e (i + 1) = i + 1 by rw [HAS.out, HLB.out]; rfl)
                go_wp2_with (first | ((with_reducible refine Who.wpList_loadC 23 (.tmp 45) rfl (wr.heap.size) 0 (#[.int .i64 x.at_.1, .int .i64 x.at_.2]) ?_); refine And.intro ⟨by rfl, by rfl, ⟨_, Tryd.underlying23, rfl⟩, Sr.info_st⟩ (And.intro (Smr.rangeOf HX2.out 0 _ (rat _)) ?_); (try simp only [Act.put, List.setIfInBounds_toArray, List.set_cons_zero, List.set_cons_succ])) | ((with_reducible refine Who.wpList_loadC 23 (.tmp 47) rfl (wo.heap.size) 0 (#[.int .i64 e.at_.1, .int .i64 e.at_.2]) ?_); refine And.intro ⟨by rfl, by rfl, ⟨_, Tryd.underlying23, rfl⟩, Sr.info_st⟩ (And.intro (Smr.rangeOf HY2.out 0 _ (rat _)) ?_); (try simp only [Act.put, List.setIfInBounds_toArray, List.set_cons_zero, List.set_cons_succ])) | fail)
                go_roundw
                case rel => exact ⟨i + 1, i + 1, true, by go_num, by go_num, rfl, by omega, Lib.hid HAN.out.symm, HAGN, HI2, HY2⟩
                case measure => simp [intOf]; omega
              | false =>
                have HAN := Lib.hid (show atF f e (i + 1) = atF f e i by rw [HAS.out, HLB.out]; rfl)
                go_wp2_with (first | ((with_reducible refine Who.wpList_loadC 23 (.tmp 45) rfl (wr.heap.size) 0 (#[.int .i64 x.at_.1, .int .i64 x.at_.2]) ?_); refine And.intro ⟨by rfl, by rfl, ⟨_, Tryd.underlying23, rfl⟩, Sr.info_st⟩ (And.intro (Smr.rangeOf HX2.out 0 _ (rat _)) ?_); (try simp only [Act.put, List.setIfInBounds_toArray, List.set_cons_zero, List.set_cons_succ])) | ((with_reducible refine Who.wpList_loadC 23 (.tmp 47) rfl (wo.heap.size) 0 (#[.int .i64 e.at_.1, .int .i64 e.at_.2]) ?_); refine And.intro ⟨by rfl, by rfl, ⟨_, Tryd.underlying23, rfl⟩, Sr.info_st⟩ (And.intro (Smr.rangeOf HY2.out 0 _ (rat _)) ?_); (try simp only [Act.put, List.setIfInBounds_toArray, List.set_cons_zero, List.set_cons_succ])) | fail)
                go_roundw
                case rel => exact ⟨i + 1, at_, true, by go_num, rfl, rfl, by omega, Lib.hid (by rw [HAN.out]; exact HAT.out), HAGN, HI2, HY2⟩
                case measure => simp [intOf]; omega
          | false =>
            cases z1 with
            | false =>
              have HAGN : Hid (false = (os.take (i + 1)).any (fun x => likeB x e)) := Lib.hid (by rw [HST.out, ← HAG.out, HLK.out]; rfl)
              go_wp2_with (first | ((with_reducible refine Who.wpList_loadC 31 (.tmp 22) rfl (g) (i * 21) (Fc.eventC x) ?_); refine And.intro ⟨by rfl, by rfl, ⟨_, Tryd.underlying31, rfl⟩, Sr.info_event⟩ (And.intro (MR2.out) ?_); (try simp only [Act.put, List.setIfInBounds_toArray, List.set_cons_zero, List.set_cons_succ])) | ((with_reducible refine Who.wpList_alloc 31 9 rfl rfl rfl (Fc.eventC Sr.zeroE) halv ?_); (try simp only [Act.put, List.setIfInBounds_toArray, List.set_cons_zero, List.set_cons_succ]); (try simp only [World.size_alloc])) | ((with_reducible refine wpList_storeNew 31 (.tmp 9) (.tmp 23) (Fc.eventC Sr.zeroE) (Fc.eventC x) rfl ?_); refine And.intro ⟨rfl, rfl, by rfl, by rfl, Sr.info_event, rfl, Sr.event_one _⟩ ?_; (try simp only [Act.put, List.setIfInBounds_toArray, List.set_cons_zero, List.set_cons_succ])) | ((with_reducible refine Who.wpList_loadC 23 (.tmp 26) rfl (wr.heap.size) 0 (#[.int .i64 x.at_.1, .int .i64 x.at_.2]) ?_); refine And.intro ⟨by rfl, by rfl, ⟨_, Tryd.underlying23, rfl⟩, Sr.info_st⟩ (And.intro (Smr.rangeOf HX.out 0 _ (rat _)) ?_); (try simp only [Act.put, List.setIfInBounds_toArray, List.set_cons_zero, List.set_cons_succ])) | ((with_reducible refine Who.wpList_loadC 23 (.tmp 28) rfl (wo.heap.size) 0 (#[.int .i64 e.at_.1, .int .i64 e.at_.2]) ?_); refine And.intro ⟨by rfl, by rfl, ⟨_, Tryd.underlying23, rfl⟩, Sr.info_st⟩ (And.intro (Smr.rangeOf HY1.out 0 _ (rat _)) ?_); (try simp only [Act.put, List.setIfInBounds_toArray, List.set_cons_zero, List.set_cons_succ])) | ((with_reducible refine Who.wpList_loadC 23 (.tmp 39) rfl (wr.heap.size) 0 (#[.int .i64 x.at_.1, .int .i64 x.at_.2]) ?_); refine And.intro ⟨by rfl, by rfl, ⟨_, Tryd.underlying23, rfl⟩, Sr.info_st⟩ (And.intro (Smr.rangeOf HX.out 0 _ (rat _)) ?_); (try simp only [Act.put, List.setIfInBounds_toArray, List.set_cons_zero, List.set_cons_succ])) | ((with_reducible refine Who.wpList_loadC 23 (.tmp 41) rfl (wo.heap.size) 0 (#[.int .i64 e.at_.1, .int .i64 e.at_.2]) ?_); refine And.intro ⟨by rfl, by rfl, ⟨_, Tryd.underlying23, rfl⟩, Sr.info_st⟩ (And.intro (Smr.rangeOf HY1.out 0 _ (rat _)) ?_); (try simp only [Act.put, List.setIfInBounds_toArray, List.set_cons_zero, List.set_cons_succ])) | ((with_reducible refine Who.wpList_loadC 23 (.tmp 45) rfl (wr.heap.size) 0 (#[.int .i64 x.at_.1, .int .i64 x.at_.2]) ?_); refine And.intro ⟨by rfl, by rfl, ⟨_, Tryd.underlying23, rfl⟩, Sr.info_st⟩ (And.intro (Smr.rangeOf HX.out 0 _ (rat _)) ?_); (try simp only [Act.put, List.setIfInBounds_toArray, List.set_cons_zero, List.set_cons_succ])) | ((with_reducible refine Who.wpList_loadC 23 (.tmp 47) rfl (wo.heap.size) 0 (#[.int .i64 e.at_.1, .int .i64 e.at_.2]) ?_); refine And.intro ⟨by rfl, by rfl, ⟨_, Tryd.underlying23, rfl⟩, Sr.info_st⟩ (And.intro (Smr.rangeOf HY1.out 0 _ (rat _)) ?_); (try simp only [Act.put, List.setIfInBounds_toArray, List.set_cons_zero, List.set_cons_succ])) | fail)
              go_at_call 37
              refine (HLS.out _).mono ?_
              rintro q w3 ⟨rfl, hb⟩
              have HI2 := Lib.hid (HI1.out.low hb)
              have HX2 := Lib.hid (HX.out.below hb)
              have HY2 := Lib.hid (HY1.out.below hb)
              have hwx : w3.cell? ⟨wr.heap.size, 2, none⟩ = some (.int .i64 x.vol) := HX2.out.at_ 2
              have hwe : w3.cell? ⟨wo.heap.size, 2, none⟩ = some (.int .i64 e.vol) := HY2.out.at_ 2
              clear hb hvx hvy
              cases lb with
              | true =>
                have HAN := Lib.hid (show atF f e (i + 1) = i + 1 by rw [HAS.out, HLB.out]; rfl)
                go_wp2_with (first | ((with_reducible refine Who.wpList_loadC 23 (.tmp 45) rfl (wr.heap.size) 0 (#[.int .i64 x.at_.1, .int .i64 x.at_.2]) ?_); refine And.intro ⟨by rfl, by rfl, ⟨_, Tryd.underlying23, rfl⟩, Sr.info_st⟩ (And.intro (Smr.rangeOf HX2.out 0 _ (rat _)) ?_); (try simp only [Act.put, List.setIfInBounds_toArray, List.set_cons_zero, List.set_cons_succ])) | ((with_reducible refine Who.wpList_loadC 23 (.tmp 47) rfl (wo.heap.size) 0 (#[.int .i64 e.at_.1, .int .i64 e.at_.2]) ?_); refine And.intro ⟨by rfl, by rfl, ⟨_, Tryd.underlying23, rfl⟩, Sr.info_st⟩ (And.intro (Smr.rangeOf HY2.out 0 _ (rat _)) ?_); (try simp only [Act.put, List.setIfInBounds_toArray, List.set_cons_zero, List.set_cons_succ])) | fail)
                go_roundw
                case rel => exact ⟨i + 1, i + 1, false, by go_num, by go_num, rfl, by omega, Lib.hid HAN.out.symm, HAGN, HI2, HY2⟩
                case measure => simp [intOf]; omega
              | false =>
                have HAN := Lib.hid (show atF f e (i + 1) = atF f e i by rw [HAS.out, HLB.out]; rfl)
                go_wp2_with (first | ((with_reducible refine Who.wpList_loadC 23 (.tmp 45) rfl (wr.heap.size) 0 (#[.int .i64 x.at_.1, .int .i64 x.at_.2]) ?_); refine And.intro ⟨by rfl, by rfl, ⟨_, Tryd.underlying23, rfl⟩, Sr.info_st⟩ (And.intro (Smr.rangeOf HX2.out 0 _ (rat _)) ?_); (try simp only [Act.put, List.setIfInBounds_toArray, List.set_cons_zero, List.set_cons_succ])) | ((with_reducible refine Who.wpList_loadC 23 (.tmp 47) rfl (wo.heap.size) 0 (#[.int .i64 e.at_.1, .int .i64 e.at_.2]) ?_); refine And.intro ⟨by rfl, by rfl, ⟨_, Tryd.underlying23, rfl⟩, Sr.info_st⟩ (And.intro (Smr.rangeOf HY2.out 0 _ (rat _)) ?_); (try simp only [Act.put, List.setIfInBounds_toArray, List.set_cons_zero, List.set_cons_succ])) | fail)
                go_roundw
                case rel => exact ⟨i + 1, at_, false, by go_num, rfl, rfl, by omega, Lib.hid (by rw [HAN.out]; exact HAT.out), HAGN, HI2, HY2⟩
                case measure => simp [intOf]; omega
            | true =>
              have HAGN : Hid (decide (x.vol = e.vol) = (os.take (i + 1)).any (fun x => likeB x e)) := Lib.hid (by rw [HST.out, ← HAG.out, HLK.out]; rfl)
              go_wp2_with (first | ((with_reducible refine Who.wpList_loadC 31 (.tmp 22) rfl (g) (i * 21) (Fc.eventC x) ?_); refine And.intro ⟨by rfl, by rfl, ⟨_, Tryd.underlying31, rfl⟩, Sr.info_event⟩ (And.intro (MR2.out) ?_); (try simp only [Act.put, List.setIfInBounds_toArray, List.set_cons_zero, List.set_cons_succ])) | ((with_reducible refine Who.wpList_alloc 31 9 rfl rfl rfl (Fc.eventC Sr.zeroE) halv ?_); (try simp only [Act.put, List.setIfInBounds_toArray, List.set_cons_zero, List.set_cons_succ]); (try simp only [World.size_alloc])) | ((with_reducible refine wpList_storeNew 31 (.tmp 9) (.tmp 23) (Fc.eventC Sr.zeroE) (Fc.eventC x) rfl ?_); refine And.intro ⟨rfl, rfl, by rfl, by rfl, Sr.info_event, rfl, Sr.event_one _⟩ ?_; (try simp only [Act.put, List.setIfInBounds_toArray, List.set_cons_zero, List.set_cons_succ])) | ((with_reducible refine Who.wpList_loadC 23 (.tmp 26) rfl (wr.heap.size) 0 (#[.int .i64 x.at_.1, .int .i64 x.at_.2]) ?_); refine And.intro ⟨by rfl, by rfl, ⟨_, Tryd.underlying23, rfl⟩, Sr.info_st⟩ (And.intro (Smr.rangeOf HX.out 0 _ (rat _)) ?_); (try simp only [Act.put, List.setIfInBounds_toArray, List.set_cons_zero, List.set_cons_succ])) | ((with_reducible refine Who.wpList_loadC 23 (.tmp 28) rfl (wo.heap.size) 0 (#[.int .i64 e.at_.1, .int .i64 e.at_.2]) ?_); refine And.intro ⟨by rfl, by rfl, ⟨_, Tryd.underlying23, rfl⟩, Sr.info_st⟩ (And.intro (Smr.rangeOf HY1.out 0 _ (rat _)) ?_); (try simp only [Act.put, List.setIfInBounds_toArray, List.set_cons_zero, List.set_cons_succ])) | ((with_reducible refine Who.wpList_loadC 23 (.tmp 39) rfl (wr.heap.size) 0 (#[.int .i64 x.at_.1, .int .i64 x.at_.2]) ?_); refine And.intro ⟨by rfl, by rfl, ⟨_, Tryd.underlying23, rfl⟩, Sr.info_st⟩ (And.intro (Smr.rangeOf HX.out 0 _ (rat _)) ?_); (try simp only [Act.put, List.setIfInBounds_toArray, List.set_cons_zero, List.set_cons_succ])) | ((with_reducible refine Who.wpList_loadC 23 (.tmp 41) rfl (wo.heap.size) 0 (#[.int .i64 e.at_.1, .int .i64 e.at_.2]) ?_); refine And.intro ⟨by rfl, by rfl, ⟨_, Tryd.underlying23, rfl⟩, Sr.info_st⟩ (And.intro (Smr.rangeOf HY1.out 0 _ (rat _)) ?_); (try simp only [Act.put, List.setIfInBounds_toArray, List.set_cons_zero, List.set_cons_succ])) | ((with_reducible refine Who.wpList_loadC 23 (.tmp 45) rfl (wr.heap.size) 0 (#[.int .i64 x.at_.1, .int .i64 x.at_.2]) ?_); refine And.intro ⟨by rfl, by rfl, ⟨_, Tryd.underlying23, rfl⟩, Sr.info_st⟩ (And.intro (Smr.rangeOf HX.out 0 _ (rat _)) ?_); (try simp only [Act.put, List.setIfInBounds_toArray, List.set_cons_zero, List.set_cons_succ])) | ((with_reducible refine Who.wpList_loadC 23 (.tmp 47) rfl (wo.heap.size) 0 (#[.int .i64 e.at_.1, .int .i64 e.at_.2]) ?_); refine And.intro ⟨by rfl, by rfl, ⟨_, Tryd.underlying23, rfl⟩, Sr.info_st⟩ (And.intro (Smr.rangeOf HY1.out 0 _ (rat _)) ?_); (try simp only [Act.put, List.setIfInBounds_toArray, List.set_cons_zero, List.set_cons_succ])) | fail)
              go_at_call 37
              refine (HLS.out _).mono ?_
              rintro q w3 ⟨rfl, hb⟩
              have HI2 := Lib.hid (HI1.out.low hb)
              have HX2 := Lib.hid (HX.out.below hb)
              have HY2 := Lib.hid (HY1.out.below hb)
              have hwx : w3.cell? ⟨wr.heap.size, 2, none⟩ = some (.int .i64 x.vol) := HX2.out.at_ 2
              have hwe : w3.cell? ⟨wo.heap.size, 2, none⟩ = some (.int .i64 e.vol) := HY2.out.at_ 2
              clear hb hvx hvy
              cases lb with
              | true =>
                have HAN := Lib.hid (show atF f e (i + 1) = i + 1 by rw [HAS.out, HLB.out]; rfl)
                go_wp2_with (first | ((with_reducible refine Who.wpList_loadC 23 (.tmp 45) rfl (wr.heap.size) 0 (#[.int .i64 x.at_.1, .int .i64 x.at_.2]) ?_); refine And.intro ⟨by rfl, by rfl, ⟨_, Tryd.underlying23, rfl⟩, Sr.info_st⟩ (And.intro (Smr.rangeOf HX2.out 0 _ (rat _)) ?_); (try simp only [Act.put, List.setIfInBounds_toArray, List.set_cons_zero, List.set_cons_succ])) | ((with_reducible refine Who.wpList_loadC 23 (.tmp 47) rfl (wo.heap.size) 0 (#[.int .i64 e.at_.1, .int .i64 e.at_.2]) ?_); refine And.intro ⟨by rfl, by rfl, ⟨_, Tryd.underlying23, rfl⟩, Sr.info_st⟩ (And.intro (Smr.rangeOf HY2.out 0 _ (rat _)) ?_); (try simp only [Act.put, List.setIfInBounds_toArray, List.set_cons_zero, List.set_cons_succ])) | fail)
                go_roundw
                case rel => exact ⟨i + 1, i + 1, decide (x.vol = e.vol), by go_num, by go_num, by first | rfl | simp, by omega, Lib.hid HAN.out.symm, HAGN, HI2, HY2⟩
                case measure => simp [intOf]; omega
              | false =>
                by_cases hlt2 : x.vol < e.vol
                · have HAN := Lib.hid (show atF f e (i + 1) = i + 1 by rw [HAS.out, HLB.out, decide_eq_true hlt2]; rfl)
                  go_wp2_with (first | ((with_reducible refine Who.wpList_loadC 23 (.tmp 45) rfl (wr.heap.size) 0 (#[.int .i64 x.at_.1, .int .i64 x.at_.2]) ?_); refine And.intro ⟨by rfl, by rfl, ⟨_, Tryd.underlying23, rfl⟩, Sr.info_st⟩ (And.intro (Smr.rangeOf HX2.out 0 _ (rat _)) ?_); (try simp only [Act.put, List.setIfInBounds_toArray, List.set_cons_zero, List.set_cons_succ])) | ((with_reducible refine Who.wpList_loadC 23 (.tmp 47) rfl (wo.heap.size) 0 (#[.int .i64 e.at_.1, .int .i64 e.at_.2]) ?_); refine And.intro ⟨by rfl, by rfl, ⟨_, Tryd.underlying23, rfl⟩, Sr.info_st⟩ (And.intro (Smr.rangeOf HY2.out 0 _ (rat _)) ?_); (try simp only [Act.put, List.setIfInBounds_toArray, List.set_cons_zero, List.set_cons_succ])) | fail)
                  go_roundw
                  case rel => exact ⟨i + 1, i + 1, decide (x.vol = e.vol), by go_num, by go_num, by first | rfl | simp, by omega, Lib.hid HAN.out.symm, HAGN, HI2, HY2⟩
                  case measure => simp [intOf]; omega
                · have HAN := Lib.hid (show atF f e (i + 1) = atF f e i by rw [HAS.out, HLB.out, decide_eq_false hlt2]; rfl)
                  go_wp2_with (first | ((with_reducible refine Who.wpList_loadC 23 (.tmp 45) rfl (wr.heap.size) 0 (#[.int .i64 x.at_.1, .int .i64 x.at_.2]) ?_); refine And.intro ⟨by rfl, by rfl, ⟨_, Tryd.underlying23, rfl⟩, Sr.info_st⟩ (And.intro (Smr.rangeOf HX2.out 0 _ (rat _)) ?_); (try simp only [Act.put, List.setIfInBounds_toArray, List.set_cons_zero, List.set_cons_succ])) | ((with_reducible refine Who.wpList_loadC 23 (.tmp 47) rfl (wo.heap.size) 0 (#[.int .i64 e.at_.1, .int .i64 e.at_.2]) ?_); refine And.intro ⟨by rfl, by rfl, ⟨_, Tryd.underlying23, rfl⟩, Sr.info_st⟩ (And.intro (Smr.rangeOf HY2.out 0 _ (rat _)) ?_); (try simp only [Act.put, List.setIfInBounds_toArray, List.set_cons_zero, List.set_cons_succ])) | fail)
                  go_roundw
                  case rel => exact ⟨i + 1, at_, decide (x.vol = e.vol), by go_num, rfl, by first | rfl | simp, by omega, Lib.hid (by rw [HAN.out]; exact HAT.out), HAGN, HI2, HY2⟩
                  case measure => simp [intOf]; omega
        · have hiL : i = L := by omega
          have HAE := Lib.hid (show at_ = atF f e os.length by rw [HAT.out, hiL, HLE.out])
          have HGE := Lib.hid (show ag = os.any (fun x => likeB x e) by have h := HAG.out; rwa [List.take_of_length_le (by rw [← HLE.out]; omega)] at h)
          clear hiL HAT HAG
          cases ag with
          | true =>
            have HON := Lib.hid (ord_again (e := e) HO.out HGE.out.symm)
            go_wp2
            go_roundw
            case rel => exact ⟨j + 1, os, by go_num, by omega, Lib.hid (by rw [HTK.out]; exact HON.out), Lib.hid (Nat.le_succ_of_le HOL.out), HI⟩
            case measure => simp [intOf]; omega
          | false =>
            have HON := Lib.hid (ord_put (f := f) (e := e) HO.out (fun i h => by rw [List.getElem?_eq_getElem h, HFE.out i h]) HGE.out.symm)
            rw [← HAE.out] at HON
            have hatl : at_ ≤ L := by rw [HAE.out, HLE.out]; exact atF_le f e _
            have HSZ : Hid ((os.take at_ ++ [e] ++ os.drop at_).length ≤ j + 1) := Lib.hid (by
              have := HOL.out
              rw [List.length_append, List.length_append, List.length_take, List.length_drop, List.length_singleton]
              omega)
            have HBG := Lib.hid HI.out.below.size
            have HYW := Lib.hid HY.out.bound
            cases A2 with
            | none =>
              obtain ⟨e0, eo⟩ := HNL.out rfl
              have hc0 : c2 = 0 := by injection e0
              have hL0 : L = 0 := by rw [HLE.out, eo]; rfl
              have ha0 : at_ = 0 := by omega
              subst hc0 hL0 ha0
              rw [eo] at HON HSZ
              clear e0 eo hatl HAE
              go_wp2_with (first | (at_builtin; (with_reducible refine wpl_none (B := wr.heap.size) (u := .slice none 0 0) (l := []) (.tmp 62) (.tmp 65) rfl rfl ?_); refine And.intro ⟨⟨by rfl, by rfl⟩, eown_nil _ _⟩ ?_) | ((with_reducible refine Who.wpList_loadC 31 (.tmp 5) rfl (wo.heap.size) 0 (Fc.eventC e) ?_); refine And.intro ⟨by rfl, by rfl, ⟨_, Tryd.underlying31, rfl⟩, Sr.info_event⟩ (And.intro (Who.has_range HY.out) ?_); (try simp only [Act.put, List.setIfInBounds_toArray, List.set_cons_zero, List.set_cons_succ])) | ((with_reducible refine Sr.wpList_build_ev (.tmp 68) rfl e ?_); refine And.intro ⟨rfl, by rfl⟩ ?_; (try simp only [Act.put, List.setIfInBounds_toArray, List.set_cons_zero, List.set_cons_succ])) | (at_builtin; (with_reducible refine Sr.wpl_event (B := wr.heap.size) (u := .slice none 0 0) (es := []) (e := e) (.tmp 67) (.tmp 69) rfl rfl ?_); refine And.intro ⟨⟨by rfl, ⟨_, by rfl, by simp⟩⟩, eown_nil _ _, Nat.le_refl _, Nat.zero_le _⟩ ?_) | fail)
              intro u3 w3 hg
              obtain ⟨A5, c5, rfl⟩ := hg.sl
              have HR3 : Hid (EOwn w3 wr.heap.size (.slice A5 1 c5) [e]) := Lib.hid hg.row
              have HB3 := Lib.hid hg.below
              clear hg
              go_wp2_with (first | (at_builtin; (with_reducible refine wpl_none (B := wr.heap.size) (u := .slice A5 1 c5) (l := [e]) (.tmp 71) (.tmp 74) rfl rfl ?_); refine And.intro ⟨⟨by rfl, by rfl⟩, HR3.out⟩ ?_) | fail)
              go_roundw
              case rel => exact ⟨j + 1, [e], by go_num, by omega, Lib.hid (by rw [HTK.out]; exact HON.out), HSZ, Lib.hid ⟨HI.out.below.trans (HB3.out.mono HI.out.below.size), eown_mono HR3.out HI.out.below.size⟩⟩
              case measure => simp [intOf]; omega
            | some a =>
              obtain ⟨g, rfl⟩ := HSM.out a rfl
              obtain ⟨_, hcap, _, z, hrw⟩ := own_rw (show EOwn wr w.heap.size (.slice (some ⟨g, 0, none⟩) os.length c2) os by rw [← HLE.out]; exact HI.out.row)
              have hLc : L ≤ c2 := by rw [HLE.out]; exact hcap
              have HSR := Lib.hid (show Fc.SRow wr 21 Fc.eventC (some ⟨g, 0, none⟩) L os from own_srow (show EOwn wr w.heap.size (.slice (some ⟨g, 0, none⟩) L c2) os from HI.out.row))
              obtain ⟨K1, hK1⟩ : ∃ K1, K1 = os.take at_ := ⟨_, rfl⟩
              obtain ⟨K3, hK3⟩ : ∃ K3, K3 = os.drop at_ := ⟨_, rfl⟩
              have HST1 := Lib.hid (Stab.srow_take HSR.out hatl)
              have HSD1 := Lib.hid (Stab.srow_drop HSR.out at_)
              rw [← hK1] at HST1 HON HSZ
              rw [← hK3] at HSD1 HON HSZ
              have HKL1 := Lib.hid (show K1.length = at_ from HST1.out.len)
              have ha60 : at_ ≤ 60 := by omega
              clear hrw hcap hK1 hK3 HAE
              go_wp2_with (first | (at_builtin; (with_reducible refine wpl_rows (B := wr.heap.size) (u := .slice none 0 0) (l := []) (ks := K1) (ad := ⟨g, 0, none⟩) (m := at_) (c := c2) (.tmp 62) (.tmp 65) rfl rfl ?_); refine And.intro ⟨⟨by rfl, by rfl⟩, eown_nil _ _, HST1.out, Nat.le_refl _, by simp; omega⟩ ?_) | fail)
              intro v1 w1 hg1
              have hk1 : EOwn w1 wr.heap.size v1 K1 := hg1.row
              have HK1 := Lib.hid hk1
              have HB1 := Lib.hid hg1.below
              have HY1 := Lib.hid (has_low HY.out hg1.below HYW.out)
              obtain ⟨A5, c5, rfl, _, _⟩ := eown_sl hk1
              have HL1 := Lib.hid (show K1.length ≤ 4000000 by rw [HKL1.out]; omega)
              clear hk1 hg1
              go_wp2_with (first | ((with_reducible refine Who.wpList_loadC 31 (.tmp 5) rfl (wo.heap.size) 0 (Fc.eventC e) ?_); refine And.intro ⟨by rfl, by rfl, ⟨_, Tryd.underlying31, rfl⟩, Sr.info_event⟩ (And.intro (Who.has_range HY1.out) ?_); (try simp only [Act.put, List.setIfInBounds_toArray, List.set_cons_zero, List.set_cons_succ])) | ((with_reducible refine Sr.wpList_build_ev (.tmp 68) rfl e ?_); refine And.intro ⟨rfl, by rfl⟩ ?_; (try simp only [Act.put, List.setIfInBounds_toArray, List.set_cons_zero, List.set_cons_succ])) | (at_builtin; (with_reducible refine Sr.wpl_event (B := wr.heap.size) (u := .slice A5 K1.length c5) (es := K1) (e := e) (.tmp 67) (.tmp 69) rfl rfl ?_); refine And.intro ⟨⟨by rfl, ⟨_, by rfl, by simp⟩⟩, HK1.out, HB1.out.size, HL1.out⟩ ?_) | fail)
              intro u6 w2 hg2
              obtain ⟨K2, hK2⟩ : ∃ K2, K2 = K1 ++ [e] := ⟨_, rfl⟩
              have hk2 := hg2.row
              rw [← hK2] at hk2 HON HSZ
              have HK2 := Lib.hid hk2
              have HB2 := Lib.hid (HB1.out.trans hg2.below)
              have HSD2 := Lib.hid (HSD1.out.below HB2.out)
              obtain ⟨A6, c6, rfl, _, _⟩ := eown_sl hk2
              have HL2 := Lib.hid (show K2.length + (L - at_) ≤ 4000000 by rw [hK2, List.length_append, HKL1.out, List.length_singleton]; omega)
              clear hk2 hg2 hK2
              by_cases hcc : at_ < c2
              · have hne : ¬ c2 = at_ := by omega
                go_wp2_with (first | (at_builtin; (with_reducible refine wpl_rows (B := wr.heap.size) (u := .slice A6 K2.length c6) (l := K2) (ks := K3) (ad := ⟨g, 0 + at_ * 21, none⟩) (m := L - at_) (c := c2 - at_) (.tmp 71) (.tmp 74) rfl rfl ?_); refine And.intro ⟨⟨by rfl, by rfl⟩, HK2.out, HSD2.out, HB2.out.size, HL2.out⟩ ?_) | (at_builtin; (with_reducible refine wpl_rows (B := wr.heap.size) (u := .slice A6 K2.length c6) (l := K2) (ks := K3) (ad := ⟨g, at_ * 21, none⟩) (m := L - at_) (c := c2 - at_) (.tmp 71) (.tmp 74) rfl rfl ?_); refine And.intro ⟨⟨by rfl, by rfl⟩, HK2.out, (by have q := HSD2.out; rw [Nat.zero_add] at q; exact q), HB2.out.size, HL2.out⟩ ?_) | fail)
                intro u7 w3 hg3
                have HR3 := Lib.hid hg3.row
                have HB3 := Lib.hid (HB2.out.trans hg3.below)
                clear hg3
                go_wp2
                go_roundw
                case rel => exact ⟨j + 1, K2 ++ K3, by go_num, by omega, Lib.hid (by rw [HTK.out]; exact HON.out), HSZ, Lib.hid ⟨HI.out.below.trans (HB3.out.mono HI.out.below.size), eown_mono HR3.out HI.out.below.size⟩⟩
                case measure => simp [intOf]; omega
              · have hca : at_ = c2 := by omega
                have hLa : L = at_ := by omega
                have HK30 := Lib.hid (show K3 = [] from List.length_eq_zero_iff.1 (by rw [HSD1.out.len]; omega))
                subst hca hLa
                have HSE := Lib.hid (show Fc.SRow w2 21 Fc.eventC (some ⟨g, 0, none⟩) 0 [] from (Stab.srow_take HSR.out (Nat.zero_le _)).below HB2.out)
                go_wp2_with (first | (at_builtin; (with_reducible refine wpl_rows (B := wr.heap.size) (u := .slice A6 K2.length c6) (l := K2) (ks := []) (ad := ⟨g, 0, none⟩) (m := 0) (c := 0) (.tmp 71) (.tmp 74) rfl rfl ?_); refine And.intro ⟨⟨by rfl, by rfl⟩, HK2.out, HSE.out, HB2.out.size, (by have := HL2.out; omega)⟩ ?_) | fail)
                intro u7 w3 hg3
                have HR3 : Hid (EOwn w3 wr.heap.size u7 (K2 ++ [])) := Lib.hid hg3.row
                have HB3 := Lib.hid (HB2.out.trans hg3.below)
                clear hg3
                go_wp2
                go_roundw
                case rel => exact ⟨j + 1, K2 ++ K3, by go_num, by omega, Lib.hid (by rw [HTK.out]; exact HON.out), HSZ, Lib.hid ⟨HI.out.below.trans (HB3.out.mono HI.out.below.size), eown_mono (by rw [HK30.out]; exact HR3.out) HI.out.below.size⟩⟩
                case measure => simp [intOf]; omega
    · have hjn : j = n := by omega
      have HEN := Lib.hid (show es.take j = es from List.take_of_length_le (by rw [HLN.out]; omega))
      obtain ⟨A2, c2, rfl, _, _⟩ := eown_sl HI.out.row
      go_wp2
      go_ret
      exact ⟨A2, os.length, c2, os, rfl, by have := HO.out; rwa [HEN.out] at this, by rw [HLN.out]; exact Nat.le_trans HOL.out hj, eown_srow HI.out.row, HI.out.below⟩
end Go.Proofs.YtdbmnnmcelaehaaDoor.Stl
