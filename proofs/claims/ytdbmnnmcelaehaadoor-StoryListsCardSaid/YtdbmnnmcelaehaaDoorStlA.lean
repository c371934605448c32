import Derived.Test.YtdbmnnmcelaehaaDoorSmrB
import Derived.Test.YtdbmnnmcelaehaaDoorStabQ

/- Whether an event wrote something of an inode or of a link. -/
namespace Go.Proofs.YtdbmnnmcelaehaaDoor.Stl
open Go.RowKit Go.Proofs.YtdbmnnmcelaehaaDoor.Mem
open Go.Proofs.YtdbmnnmcelaehaaDoor.Fc (PieceP XattrP LinkP NodeC pieceC xattrC linkC nodeC stateC)
open Go.Proofs.YtdbmnnmcelaehaaDoor.Vc (vecC stC eql_st)
open Go.Proofs.YtdbmnnmcelaehaaDoor.Sr (zeroS)
set_option linter.unusedVariables false set_option linter.unusedSimpArgs false

def isId (a b : Int × Int) : Bool := a.1 == b.1 && a.2 == b.2
def onNode (id : Int × Int) (x : NodeC) : Bool := isId x.p.id id
def onLink (id : Int × Int) (k : LinkP) : Bool := isId k.id id || (!zeroS k.at_ && isId k.node id)
def aboutB (id : Int × Int) (e : Fc.EventC) : Bool := e.d.nodes.any (onNode id) || e.d.links.any (onLink id)
/-- a place, or none: at least 0 just if there is one -/
def IdxIs (b : Bool) (e : Ending) : Prop := ∃ i : Int, e = .returned (.int .i64 i) ∧ decide (0 ≤ i) = b
theorem any_take {α : Type} {xs : List α} (P : α → Bool) {j : Nat} (h : j < xs.length) (hf : (xs.take j).any P = false) : P xs[j] = false → (xs.take (j + 1)).any P = false := by
  intro hp
  rw [List.take_succ_eq_append_getElem h, List.any_append, hf]
  simp [hp]
theorem any_hit {α : Type} {xs : List α} (P : α → Bool) {j : Nat} (h : j < xs.length) : P xs[j] = true → xs.any P = true := fun hp => List.any_eq_true.2 ⟨_, List.getElem_mem h, hp⟩
theorem node_any (x : NodeC) (id : Int × Int) (g : Nat) (w : World) (h : Has w g 23 #[.int .i64 id.1, .int .i64 id.2]) : Calls Tryd.prog 38 #[.agg (nodeC x), .pointer (some ⟨g, 0, none⟩)] w fun e w' => e = .returned (.bool (onNode id x)) ∧ Below w.heap.size w w' := Sr.about1_any x id g w h
theorem node_range {w : World} {g : Nat} {t : TypeId} {k : LinkP} (h : Has w g t (linkC k)) : w.rangeAt g 2 (#[.int .i64 k.node.1, .int .i64 k.node.2] : Array Value).toList := fun j v hv => by
  match j, hv with
  | 0, hv => exact (h.at_ 2).trans hv
  | 1, hv => exact (h.at_ 3).trans hv
  | j + 2, hv => simp at hv
set_option maxRecDepth 100000 in
set_option maxHeartbeats 2000000 in
theorem link_any (k : LinkP) (id : Int × Int) (g : Nat) (w : World) (h : Has w g 23 #[.int .i64 id.1, .int .i64 id.2]) : Calls Tryd.prog 39 #[.agg (linkC k), .pointer (some ⟨g, 0, none⟩)] w fun e w' => e = .returned (.bool (onLink id k)) ∧ Below w.heap.size w w' := by
  have HB0 := Lib.hid ((Below.refl w.heap.size w).alloc (Nat.le_refl _) (.cells (linkC k) 66))
  have HX := Lib.hid (Has.fresh w 66 (linkC k))
  have HG := Lib.hid (h.past (.cells (linkC k) 66))
  have q1 := fun W => eql_st k.id.1 k.id.2 id.1 id.2 W
  have q2 := fun W => eql_st k.node.1 k.node.2 id.1 id.2 W
  unfold stC at q1 q2
  have HP := Lib.hid (fun V => Sr.placed_any k V)
  have HD := Lib.hid (show onLink id k = ((k.id.1 == id.1 && k.id.2 == id.2) || (!zeroS k.at_ && (k.node.1 == id.1 && k.node.2 == id.2))) from rfl)
  clear h
  obtain ⟨b1, hb1⟩ : ∃ b1, b1 = (k.id.1 == id.1 && k.id.2 == id.2) := ⟨_, rfl⟩
  obtain ⟨b2, hb2⟩ : ∃ b2, b2 = (k.node.1 == id.1 && k.node.2 == id.2) := ⟨_, rfl⟩
  obtain ⟨b3, hb3⟩ : ∃ b3, b3 = zeroS k.at_ := ⟨_, rfl⟩
  rw [← hb1] at q1 HD
  rw [← hb2] at q2 HD
  rw [← hb3] at HP HD
  clear hb1 hb2 hb3
  go_enter Tryd.func39, Tryd.ntmps39
  cases b1 with
  | true =>
    go_wp2_with (first | ((with_reducible refine Who.wpList_loadC 23 (.tmp 4) rfl (w.heap.size) 0 (#[.int .i64 k.id.1, .int .i64 k.id.2]) ?_); refine And.intro ⟨by rfl, by rfl, ⟨_, Tryd.underlying23, rfl⟩, Sr.info_st⟩ (And.intro (Sr.id_range HX.out) ?_); (try simp only [Act.put, List.setIfInBounds_toArray, List.set_cons_zero, List.set_cons_succ])) | ((with_reducible refine Who.wpList_loadC 23 (.tmp 1) rfl (g) 0 (#[.int .i64 id.1, .int .i64 id.2]) ?_); refine And.intro ⟨by rfl, by rfl, ⟨_, Tryd.underlying23, rfl⟩, Sr.info_st⟩ (And.intro (Who.has_range HG.out) ?_); (try simp only [Act.put, List.setIfInBounds_toArray, List.set_cons_zero, List.set_cons_succ])) | fail)
    go_ret
    exact ⟨by rw [HD.out]; rfl, HB0.out⟩
  | false =>
    go_wp2_with (first | ((with_reducible refine Who.wpList_loadC 23 (.tmp 4) rfl (w.heap.size) 0 (#[.int .i64 k.id.1, .int .i64 k.id.2]) ?_); refine And.intro ⟨by rfl, by rfl, ⟨_, Tryd.underlying23, rfl⟩, Sr.info_st⟩ (And.intro (Sr.id_range HX.out) ?_); (try simp only [Act.put, List.setIfInBounds_toArray, List.set_cons_zero, List.set_cons_succ])) | ((with_reducible refine Who.wpList_loadC 23 (.tmp 1) rfl (g) 0 (#[.int .i64 id.1, .int .i64 id.2]) ?_); refine And.intro ⟨by rfl, by rfl, ⟨_, Tryd.underlying23, rfl⟩, Sr.info_st⟩ (And.intro (Who.has_range HG.out) ?_); (try simp only [Act.put, List.setIfInBounds_toArray, List.set_cons_zero, List.set_cons_succ])) | ((with_reducible refine Who.wpList_loadC 66 (.tmp 2) rfl (w.heap.size) 0 (linkC k) ?_); refine And.intro ⟨by rfl, by rfl, ⟨_, Tryd.underlying66, rfl⟩, Sr.info_link⟩ (And.intro (Who.has_range HX.out) ?_); (try simp only [Act.put, List.setIfInBounds_toArray, List.set_cons_zero, List.set_cons_succ])) | fail)
    refine (HP.out _).mono ?_
    rintro e w2 ⟨rfl, hb⟩
    have HB2 := Lib.hid (HB0.out.trans (hb.mono HB0.out.size))
    have HX2 := Lib.hid (HX.out.below hb)
    have HG2 := Lib.hid (HG.out.below hb)
    clear hb
    cases b3 with
    | true =>
      go_wp2
      go_ret
      exact ⟨by rw [HD.out]; rfl, HB2.out⟩
    | false =>
      go_wp2_with (first | ((with_reducible refine Who.wpList_loadC 23 (.tmp 12) rfl (w.heap.size) 2 (#[.int .i64 k.node.1, .int .i64 k.node.2]) ?_); refine And.intro ⟨by rfl, by rfl, ⟨_, Tryd.underlying23, rfl⟩, Sr.info_st⟩ (And.intro (node_range HX2.out) ?_); (try simp only [Act.put, List.setIfInBounds_toArray, List.set_cons_zero, List.set_cons_succ])) | ((with_reducible refine Who.wpList_loadC 23 (.tmp 1) rfl (g) 0 (#[.int .i64 id.1, .int .i64 id.2]) ?_); refine And.intro ⟨by rfl, by rfl, ⟨_, Tryd.underlying23, rfl⟩, Sr.info_st⟩ (And.intro (Who.has_range HG2.out) ?_); (try simp only [Act.put, List.setIfInBounds_toArray, List.set_cons_zero, List.set_cons_succ])) | fail)
      go_ret
      exact ⟨by rw [HD.out]; simp, HB2.out⟩
set_option maxRecDepth 100000 in
set_option maxHeartbeats 2000000 in
theorem index_node (A : Option Addr) (n c : Nat) (xs : List NodeC) (id : Int × Int) (g : Nat) (hn : n ≤ 9223372036854775807) (w : World) (hr : Fc.SRow w 13 nodeC A n xs) (h : Has w g 23 #[.int .i64 id.1, .int .i64 id.2]) : Calls Tryd.prog 54 #[.slice A n c, .func (.func 38) #[] #[.pointer (some ⟨g, 0, none⟩)]] w fun e w' => IdxIs (xs.any (onNode id)) e ∧ Below w.heap.size w w' := by
  have HR := Lib.hid hr
  have HG := Lib.hid h
  have HLN := Lib.hid hr.len
  clear hr h
  go_enter Tryd.func54, Tryd.ntmps54
  go_wp2
  go_loopw [8] (fun i wr => ∃ j : Nat, i = .int .i64 j ∧ j ≤ n ∧ Hid ((xs.take j).any (onNode id) = false) ∧ Hid (Below w.heap.size w wr)) (fun i _ => n - (intOf i).toNat)
  case atStart => exact ⟨0, rfl, Nat.zero_le _, Lib.hid rfl, Lib.hid (Below.refl _ _)⟩
  case round =>
    obtain ⟨j, rfl, hj, HF, HB⟩ := hrel
    by_cases hlt : j < n
    · obtain ⟨b, off, rfl, hbl, hx, mr⟩ := (HR.out.below HB.out).range (i := j) hlt
      have HTK := Lib.hid (any_take (onNode id) hx HF.out)
      have HAN := Lib.hid (any_hit (onNode id) hx)
      generalize xs[j] = y at *
      have MR := Lib.hid mr
      have HZ := Lib.hid (node_any y id g _ (HG.out.below HB.out))
      clear mr hx hbl HF
      go_wp2_with (first | ((with_reducible refine Who.wpList_loadC 62 (.tmp 14) rfl (b) (off + j * 13) (nodeC y) ?_); refine And.intro ⟨by rfl, by rfl, ⟨_, Tryd.underlying62, rfl⟩, Sr.info_inode⟩ (And.intro (MR.out) ?_); (try simp only [Act.put, List.setIfInBounds_toArray, List.set_cons_zero, List.set_cons_succ])) | fail)
      refine HZ.out.mono ?_
      rintro e w2 ⟨rfl, hb⟩
      have HB2 := Lib.hid (HB.out.trans (hb.mono HB.out.size))
      clear hb HZ
      cases hq : onNode id y with
      | true =>
        have HQ := Lib.hid (HAN.out hq)
        clear hq
        go_wp2
        go_ret
        exact ⟨⟨j, rfl, by rw [HQ.out]; simp⟩, HB2.out⟩
      | false =>
        have HQ := Lib.hid (HTK.out hq)
        clear hq
        go_wp2
        go_roundw
        case rel => exact ⟨j + 1, by go_num, by omega, HQ, HB2⟩
        case measure => simp [intOf]; omega
    · have HQ := Lib.hid (show xs.any (onNode id) = false by have := HF.out; rwa [List.take_of_length_le (by rw [HLN.out]; omega)] at this)
      go_wp2
      go_ret
      exact ⟨⟨-1, rfl, by rw [HQ.out]; rfl⟩, HB.out⟩
set_option maxRecDepth 100000 in
theorem contains_node (A : Option Addr) (n c : Nat) (xs : List NodeC) (id : Int × Int) (g : Nat) (hn : n ≤ 9223372036854775807) (w : World) (hr : Fc.SRow w 13 nodeC A n xs) (h : Has w g 23 #[.int .i64 id.1, .int .i64 id.2]) : Calls Tryd.prog 41 #[.slice A n c, .func (.func 38) #[] #[.pointer (some ⟨g, 0, none⟩)]] w fun e w' => e = .returned (.bool (xs.any (onNode id))) ∧ Below w.heap.size w w' := by
  have HI := Lib.hid (index_node A n c xs id g hn w hr h)
  clear hr h
  go_enter Tryd.func41, Tryd.ntmps41
  go_wp2_with fail
  refine HI.out.mono ?_
  rintro e w2 ⟨⟨i, rfl, hi⟩, hb⟩
  have HB := Lib.hid hb
  have HQ := Lib.hid hi
  clear hb hi
  go_wp2
  go_ret
  exact ⟨by rw [← HQ.out]; rfl, HB.out⟩
set_option maxRecDepth 100000 in
set_option maxHeartbeats 2000000 in
theorem index_link (A : Option Addr) (n c : Nat) (xs : List LinkP) (id : Int × Int) (g : Nat) (hn : n ≤ 9223372036854775807) (w : World) (hr : Fc.SRow w 25 linkC A n xs) (h : Has w g 23 #[.int .i64 id.1, .int .i64 id.2]) : Calls Tryd.prog 55 #[.slice A n c, .func (.func 39) #[] #[.pointer (some ⟨g, 0, none⟩)]] w fun e w' => IdxIs (xs.any (onLink id)) e ∧ Below w.heap.size w w' := by
  have HR := Lib.hid hr
  have HG := Lib.hid h
  have HLN := Lib.hid hr.len
  clear hr h
  go_enter Tryd.func55, Tryd.ntmps55
  go_wp2
  go_loopw [8] (fun i wr => ∃ j : Nat, i = .int .i64 j ∧ j ≤ n ∧ Hid ((xs.take j).any (onLink id) = false) ∧ Hid (Below w.heap.size w wr)) (fun i _ => n - (intOf i).toNat)
  case atStart => exact ⟨0, rfl, Nat.zero_le _, Lib.hid rfl, Lib.hid (Below.refl _ _)⟩
  case round =>
    obtain ⟨j, rfl, hj, HF, HB⟩ := hrel
    by_cases hlt : j < n
    · obtain ⟨b, off, rfl, hbl, hx, mr⟩ := (HR.out.below HB.out).range (i := j) hlt
      have HTK := Lib.hid (any_take (onLink id) hx HF.out)
      have HAN := Lib.hid (any_hit (onLink id) hx)
      generalize xs[j] = y at *
      have MR := Lib.hid mr
      have HZ := Lib.hid (link_any y id g _ (HG.out.below HB.out))
      clear mr hx hbl HF
      go_wp2_with (first | ((with_reducible refine Who.wpList_loadC 66 (.tmp 14) rfl (b) (off + j * 25) (linkC y) ?_); refine And.intro ⟨by rfl, by rfl, ⟨_, Tryd.underlying66, rfl⟩, Sr.info_link⟩ (And.intro (MR.out) ?_); (try simp only [Act.put, List.setIfInBounds_toArray, List.set_cons_zero, List.set_cons_succ])) | fail)
      refine HZ.out.mono ?_
      rintro e w2 ⟨rfl, hb⟩
      have HB2 := Lib.hid (HB.out.trans (hb.mono HB.out.size))
      clear hb HZ
      cases hq : onLink id y with
      | true =>
        have HQ := Lib.hid (HAN.out hq)
        clear hq
        go_wp2
        go_ret
        exact ⟨⟨j, rfl, by rw [HQ.out]; simp⟩, HB2.out⟩
      | false =>
        have HQ := Lib.hid (HTK.out hq)
        clear hq
        go_wp2
        go_roundw
        case rel => exact ⟨j + 1, by go_num, by omega, HQ, HB2⟩
        case measure => simp [intOf]; omega
    · have HQ := Lib.hid (show xs.any (onLink id) = false by have := HF.out; rwa [List.take_of_length_le (by rw [HLN.out]; omega)] at this)
      go_wp2
      go_ret
      exact ⟨⟨-1, rfl, by rw [HQ.out]; rfl⟩, HB.out⟩
set_option maxRecDepth 100000 in
theorem contains_link (A : Option Addr) (n c : Nat) (xs : List LinkP) (id : Int × Int) (g : Nat) (hn : n ≤ 9223372036854775807) (w : World) (hr : Fc.SRow w 25 linkC A n xs) (h : Has w g 23 #[.int .i64 id.1, .int .i64 id.2]) : Calls Tryd.prog 42 #[.slice A n c, .func (.func 39) #[] #[.pointer (some ⟨g, 0, none⟩)]] w fun e w' => e = .returned (.bool (xs.any (onLink id))) ∧ Below w.heap.size w w' := by
  have HI := Lib.hid (index_link A n c xs id g hn w hr h)
  clear hr h
  go_enter Tryd.func42, Tryd.ntmps42
  go_wp2_with fail
  refine HI.out.mono ?_
  rintro e w2 ⟨⟨i, rfl, hi⟩, hb⟩
  have HB := Lib.hid hb
  have HQ := Lib.hid hi
  clear hb hi
  go_wp2
  go_ret
  exact ⟨by rw [← HQ.out]; rfl, HB.out⟩
end Go.Proofs.YtdbmnnmcelaehaaDoor.Stl
/- story's About: the events that wrote something of an inode or of a link. -/
namespace Go.Proofs.YtdbmnnmcelaehaaDoor.Stl
open Go.RowKit Go.Proofs.YtdbmnnmcelaehaaDoor.Mem
open Go.Proofs.YtdbmnnmcelaehaaDoor.Fc (PieceP XattrP LinkP NodeC pieceC xattrC linkC nodeC stateC)
open Go.Proofs.YtdbmnnmcelaehaaDoor.Sr (EOwn GrewE)
open Go.Proofs.YtdbmnnmcelaehaaDoor.Stab (EOut eown_nil eown_sl)
set_option linter.unusedVariables false set_option linter.unusedSimpArgs false

theorem has_low {w w2 : World} {B g : Nat} {t : TypeId} {cs : Array Value} (h : Has w g t cs) (hb : Below B w w2) (hg : g < B) : Has w2 g t cs := (hb.block g hg).trans h
theorem eown_below {w w2 : World} {B : Nat} {v : Value} {l : List Fc.EventC} (h : EOwn w B v l) (hb : Below w.heap.size w w2) : EOwn w2 B v l := by
  unfold EOwn at *
  refine ⟨h.1, ?_⟩
  rcases h.2 with hn | ⟨g, cap, cur, e, hB, hw, rest⟩
  · exact .inl hn
  · exact .inr ⟨g, cap, cur, e, hB, (hb.block g (Array.getElem?_eq_some_iff.1 hw).1).trans hw, rest⟩
theorem eown_mono {w : World} {B B2 : Nat} {v : Value} {l : List Fc.EventC} (h : EOwn w B v l) (hb : B2 ≤ B) : EOwn w B2 v l := by
  unfold EOwn at *
  refine ⟨h.1, ?_⟩
  rcases h.2 with hn | ⟨g, cap, cur, e, hB, rest⟩
  · exact .inl hn
  · exact .inr ⟨g, cap, cur, e, Nat.le_trans hb hB, rest⟩
theorem filter_yes {α : Type} {xs : List α} (P : α → Bool) {j : Nat} (h : j < xs.length) : P xs[j] = true → (xs.take (j + 1)).filter P = (xs.take j).filter P ++ [xs[j]] := by
  intro hp
  rw [List.take_succ_eq_append_getElem h, List.filter_append]
  simp [hp]
theorem filter_no {α : Type} {xs : List α} (P : α → Bool) {j : Nat} (h : j < xs.length) : P xs[j] = false → (xs.take (j + 1)).filter P = (xs.take j).filter P := by
  intro hp
  rw [List.take_succ_eq_append_getElem h, List.filter_append]
  simp [hp]
theorem filter_len {α : Type} {xs : List α} (P : α → Bool) (j : Nat) : ((xs.take j).filter P).length ≤ xs.length := Nat.le_trans (List.length_filter_le _ _) (by rw [List.length_take]; exact Nat.min_le_right _ _)
/-- what one has who gathers events: the stamp that he was handed, and the row -/
structure AbI (id : Int × Int) (w wr : World) (u : Value) (l : List Fc.EventC) : Prop where
  below : Below w.heap.size w wr
  has : Has wr w.heap.size 23 #[.int .i64 id.1, .int .i64 id.2]
  row : EOwn wr (w.heap.size + 1) u l
theorem AbI.start (id : Int × Int) (w : World) : AbI id w (w.alloc (.cells #[.int .i64 id.1, .int .i64 id.2] 23)) (.slice none 0 0) [] := ⟨(Below.refl w.heap.size w).alloc (Nat.le_refl _) _, Has.fresh w _ _, eown_nil _ _⟩
theorem AbI.low {id : Int × Int} {w wr w2 : World} {u : Value} {l : List Fc.EventC} (h : AbI id w wr u l) (hb : Below wr.heap.size wr w2) : AbI id w w2 u l := ⟨h.below.trans (hb.mono h.below.size), h.has.below hb, eown_below h.row hb⟩
theorem AbI.big {id : Int × Int} {w wr : World} {u : Value} {l : List Fc.EventC} (h : AbI id w wr u l) : w.heap.size + 1 ≤ wr.heap.size := h.has.bound
theorem AbI.grew {id : Int × Int} {w wr w2 : World} {u u2 : Value} {l : List Fc.EventC} {e : Fc.EventC} (h : AbI id w wr u l) (hg : GrewE (w.heap.size + 1) wr w2 u u2 l e) : AbI id w w2 u2 (l ++ [e]) := ⟨h.below.trans (hg.below.mono (Nat.le_succ _)), has_low h.has hg.below (Nat.lt_succ_self _), hg.row⟩
set_option maxRecDepth 100000 in
set_option maxHeartbeats 4000000 in
theorem about_all (A : Option Addr) (n c : Nat) (es : List Fc.EventC) (id : Int × Int) (hn : n ≤ 4000000) (w : World) (hr : Fc.SRow w 21 Fc.eventC A n es) (hf : ∀ e ∈ es, Fc.StateFit w e.d) : Calls Tryd.prog 15 #[.slice A n c, .agg #[.int .i64 id.1, .int .i64 id.2]] w (EOut (es.filter (aboutB id)) w) := by
  have H0 := Lib.hid (AbI.start id w)
  have HR := Lib.hid hr
  have HLN := Lib.hid hr.len
  have HF := Lib.hid (show ∀ V, Below w.heap.size w V → ∀ e ∈ es, Fc.StateFit V e.d from fun V hb e he => (hf e he).below hb)
  have halv := Sr.alloc_event
  clear hr hf
  go_enter Tryd.func15, Tryd.ntmps15
  go_wp2
  go_loopw [7, 14] (fun u i wr => ∃ j : Nat, i = .int .i64 j ∧ j ≤ n ∧ Hid (AbI id w wr u ((es.take j).filter (aboutB id)))) (fun _ i _ => n - (intOf i).toNat)
  case atStart => exact ⟨0, rfl, Nat.zero_le _, H0⟩
  case round =>
    clear H0
    obtain ⟨j, rfl, hj, HI⟩ := hrel
    by_cases hlt : j < n
    · obtain ⟨b, off, rfl, hbl, hx, mr⟩ := (HR.out.below HI.out.below).range (i := j) hlt
      have HY := Lib.hid (filter_yes (aboutB id) hx)
      have HN := Lib.hid (filter_no (aboutB id) hx)
      have HFE := Lib.hid (HF.out _ HI.out.below _ (List.getElem_mem hx))
      have HLL : Hid (((es.take j).filter (aboutB id)).length ≤ 4000000) := Lib.hid (Nat.le_trans (filter_len _ _) (by rw [HLN.out]; exact hn))
      obtain ⟨e, he⟩ : ∃ e, e = es[j] := ⟨_, rfl⟩
      rw [← he] at mr HY HN HFE
      have MR := Lib.hid mr
      have hb1 := (Below.refl wr.heap.size wr).alloc (Nat.le_refl _) (.cells (Fc.eventC e) 31)
      have HI1 := Lib.hid (HI.out.low hb1)
      have HX1 := Lib.hid (Has.fresh wr 31 (Fc.eventC e))
      have HF1 := Lib.hid (HFE.out.below hb1)
      have c19 : (wr.alloc (.cells (Fc.eventC e) 31)).cell? ⟨wr.heap.size, 19, none⟩ = some (.slice e.d.A1 e.d.n1 e.d.c1) := HX1.out.at_ 19
      have HC1 := Lib.hid (contains_node e.d.A1 e.d.n1 e.d.c1 e.d.nodes id w.heap.size HF1.out.m1 _ HF1.out.nodes HI1.out.has)
      obtain ⟨L, hL⟩ : ∃ L, L = (es.take j).filter (aboutB id) := ⟨_, rfl⟩
      rw [← hL] at HI HI1 HY HN HLL
      have HAB := Lib.hid (show aboutB id e = (e.d.nodes.any (onNode id) || e.d.links.any (onLink id)) from rfl)
      clear he mr hx hbl hb1 HFE hL
      obtain ⟨A2, c2, rfl, _, _⟩ := eown_sl HI.out.row
      go_wp2_with (first | ((with_reducible refine Who.wpList_loadC 31 (.tmp 16) rfl (b) (off + j * 21) (Fc.eventC e) ?_); refine And.intro ⟨by rfl, by rfl, ⟨_, Tryd.underlying31, rfl⟩, Sr.info_event⟩ (And.intro (MR.out) ?_); (try simp only [Act.put, List.setIfInBounds_toArray, List.set_cons_zero, List.set_cons_succ])) | ((with_reducible refine Who.wpList_newC 31 9 (.tmp 17) rfl rfl rfl (Fc.eventC Sr.zeroE) (Fc.eventC e) ?_); refine And.intro ⟨rfl, rfl, rfl, halv, by rfl, by rfl, Sr.info_event, rfl, Sr.event_one _⟩ ?_; (try simp only [Act.put, List.setIfInBounds_toArray, List.set_cons_zero, List.set_cons_succ]); (try simp only [World.size_alloc])) | fail)
      refine HC1.out.mono ?_
      rintro q w2 ⟨rfl, hb⟩
      have HI2 := Lib.hid (HI1.out.low hb)
      have HX2 := Lib.hid (HX1.out.below hb)
      have HF2 := Lib.hid (HF1.out.below hb)
      have c20 : w2.cell? ⟨wr.heap.size, 20, none⟩ = some (.slice e.d.A2 e.d.n2 e.d.c2) := HX2.out.at_ 20
      clear hb c19 HC1 HI1 HX1 HF1
      cases hq1 : e.d.nodes.any (onNode id) with
      | true =>
        have HQ := Lib.hid (HY.out (by rw [HAB.out, hq1]; rfl))
        clear hq1 c20
        go_wp2_with (first | ((with_reducible refine Who.wpList_loadC 31 (.tmp 9) rfl (wr.heap.size) 0 (Fc.eventC e) ?_); refine And.intro ⟨by rfl, by rfl, ⟨_, Tryd.underlying31, rfl⟩, Sr.info_event⟩ (And.intro (Who.has_range HX2.out) ?_); (try simp only [Act.put, List.setIfInBounds_toArray, List.set_cons_zero, List.set_cons_succ])) | ((with_reducible refine Sr.wpList_build_ev (.tmp 31) rfl e ?_); refine And.intro ⟨rfl, by rfl⟩ ?_; (try simp only [Act.put, List.setIfInBounds_toArray, List.set_cons_zero, List.set_cons_succ])) | (at_builtin; (with_reducible refine Sr.wpl_event (B := w.heap.size + 1) (u := .slice A2 L.length c2) (es := L) (e := e) (.tmp 30) (.tmp 32) rfl rfl ?_); refine And.intro ⟨⟨by rfl, ⟨_, by rfl, by simp⟩⟩, HI2.out.row, HI2.out.big, HLL.out⟩ ?_) | fail)
        intro u3 w3 hg
        have HI3 := Lib.hid (HI2.out.grew hg)
        clear hg
        go_wp2
        go_roundw
        case rel => exact ⟨j + 1, by go_num, by omega, Lib.hid (by rw [HQ.out]; exact HI3.out)⟩
        case measure => simp [intOf]; omega
      | false =>
        have HC2 := Lib.hid (contains_link e.d.A2 e.d.n2 e.d.c2 e.d.links id w.heap.size HF2.out.m2 _ HF2.out.links HI2.out.has)
        have HAB2 := Lib.hid (show aboutB id e = e.d.links.any (onLink id) by rw [HAB.out, hq1]; rfl)
        clear hq1
        go_wp2_with fail
        refine HC2.out.mono ?_
        rintro q w3 ⟨rfl, hb⟩
        have HI3 := Lib.hid (HI2.out.low hb)
        have HX3 := Lib.hid (HX2.out.below hb)
        clear hb c20 HC2
        cases hq2 : e.d.links.any (onLink id) with
        | true =>
          have HQ := Lib.hid (HY.out (by rw [HAB2.out, hq2]))
          clear hq2
          go_wp2_with (first | ((with_reducible refine Who.wpList_loadC 31 (.tmp 9) rfl (wr.heap.size) 0 (Fc.eventC e) ?_); refine And.intro ⟨by rfl, by rfl, ⟨_, Tryd.underlying31, rfl⟩, Sr.info_event⟩ (And.intro (Who.has_range HX3.out) ?_); (try simp only [Act.put, List.setIfInBounds_toArray, List.set_cons_zero, List.set_cons_succ])) | ((with_reducible refine Sr.wpList_build_ev (.tmp 31) rfl e ?_); refine And.intro ⟨rfl, by rfl⟩ ?_; (try simp only [Act.put, List.setIfInBounds_toArray, List.set_cons_zero, List.set_cons_succ])) | (at_builtin; (with_reducible refine Sr.wpl_event (B := w.heap.size + 1) (u := .slice A2 L.length c2) (es := L) (e := e) (.tmp 30) (.tmp 32) rfl rfl ?_); refine And.intro ⟨⟨by rfl, ⟨_, by rfl, by simp⟩⟩, HI3.out.row, HI3.out.big, HLL.out⟩ ?_) | fail)
          intro u3 w4 hg
          have HI4 := Lib.hid (HI3.out.grew hg)
          clear hg
          go_wp2
          go_roundw
          case rel => exact ⟨j + 1, by go_num, by omega, Lib.hid (by rw [HQ.out]; exact HI4.out)⟩
          case measure => simp [intOf]; omega
        | false =>
          have HQ := Lib.hid (HN.out (by rw [HAB2.out, hq2]))
          clear hq2
          go_wp2
          go_roundw
          case rel => exact ⟨j + 1, by go_num, by omega, Lib.hid (by rw [HQ.out]; exact HI3.out)⟩
          case measure => simp [intOf]; omega
    · have HQ := Lib.hid (show es.take j = es from List.take_of_length_le (by rw [HLN.out]; omega))
      go_wp2
      go_ret
      exact ⟨_, rfl, by have := HI.out.row; rw [HQ.out] at this; exact eown_mono this (Nat.le_succ _), HI.out.below⟩
end Go.Proofs.YtdbmnnmcelaehaaDoor.Stl
/- The document's About: the events that wrote something of an inode or of a link. -/
namespace Go.Proofs.YtdbmnnmcelaehaaDoor.Stl
open Go.RowKit Go.Proofs.YtdbmnnmcelaehaaDoor.Mem
open Go.Proofs.YtdbmnnmcelaehaaDoor.Fc (PieceP XattrP LinkP NodeC pieceC xattrC linkC nodeC stateC)
open Go.Proofs.YtdbmnnmcelaehaaDoor.Sr (EOwn GrewE zeroS)
open Go.Proofs.YtdbmnnmcelaehaaDoor.Stab (EOut eown_nil eown_sl)
open Go.Proofs.YtdbmnnmcelaehaaDoor.Vc (vecC stC eql_st neq_st)
set_option linter.unusedVariables false set_option linter.unusedSimpArgs false

def zeroN : NodeC := ⟨⟨(0, 0), 0, ⟨#[]⟩, (0, 0), 0, 0, (0, 0), 0, [], []⟩, none, 0, 0, none, 0, 0⟩
def zeroK : LinkP := ⟨(0, 0), (0, 0), (0, 0), (0, 0), ⟨#[]⟩, fun _ => 0, fun _ => 0⟩
theorem alloc_node (w : World) : (Instr.alloc 62 true (.tuple #[])).run Tryd.prog w = .ok (.pointer (some ⟨w.heap.size, 0, none⟩)) (w.alloc (.cells (nodeC zeroN) 62)) := by
  have hz := Tryd.zeroValue62
  go_simp
  rfl
theorem alloc_link (w : World) : (Instr.alloc 66 true (.tuple #[])).run Tryd.prog w = .ok (.pointer (some ⟨w.heap.size, 0, none⟩)) (w.alloc (.cells (linkC zeroK) 66)) := by
  have hz := Tryd.zeroValue66
  go_simp
  rfl
theorem node_one (x : NodeC) : (nodeC x).all (·.oneCell') = true := by simp [nodeC, Value.oneCell']
theorem link_one (x : LinkP) : (linkC x).all (·.oneCell') = true := by simp [linkC, Value.oneCell']
theorem nid_range {w : World} {g : Nat} {t : TypeId} {y : NodeC} (h : Has w g t (nodeC y)) : w.rangeAt g 0 (#[.int .i64 y.p.id.1, .int .i64 y.p.id.2] : Array Value).toList := fun j v hv => by
  match j, hv with
  | 0, hv => exact (h.at_ 0).trans hv
  | 1, hv => exact (h.at_ 1).trans hv
  | j + 2, hv => simp at hv
theorem any_step {α : Type} {xs : List α} (P : α → Bool) {j : Nat} (h : j < xs.length) : (xs.take (j + 1)).any P = ((xs.take j).any P || P xs[j]) := by
  rw [List.take_succ_eq_append_getElem h, List.any_append]
  simp
set_option maxRecDepth 100000 in
set_option maxHeartbeats 8000000 in
theorem rabout_all (A : Option Addr) (n c : Nat) (es : List Fc.EventC) (id : Int × Int) (hn : n ≤ 4000000) (w : World) (hr : Fc.SRow w 21 Fc.eventC A n es) (hf : ∀ e ∈ es, Fc.StateFit w e.d) : Calls Tryd.prog 16 #[.slice A n c, .agg #[.int .i64 id.1, .int .i64 id.2]] w (EOut (es.filter (aboutB id)) w) := by
  have H0 := Lib.hid (AbI.start id w)
  have HR := Lib.hid hr
  have HLN := Lib.hid hr.len
  have HF := Lib.hid (show ∀ V, Below w.heap.size w V → ∀ e ∈ es, Fc.StateFit V e.d from fun V hb e he => (hf e he).below hb)
  have halv := Sr.alloc_event
  have haln := alloc_node
  have hall := alloc_link
  clear hr hf
  go_enter Tryd.func16, Tryd.ntmps16
  go_wp2
  go_loopw [5, 15] (fun u i wr => ∃ j : Nat, i = .int .i64 j ∧ j ≤ n ∧ Hid (AbI id w wr u ((es.take j).filter (aboutB id)))) (fun _ i _ => n - (intOf i).toNat)
  case atStart => exact ⟨0, rfl, Nat.zero_le _, H0⟩
  case round =>
    clear H0
    obtain ⟨j, rfl, hj, HI⟩ := hrel
    obtain ⟨wo, hwo⟩ : ∃ wo : World, wo = wr := ⟨_, rfl⟩
    subst hwo
    by_cases hlt : j < n
    · obtain ⟨b, off, rfl, hbl, hx, mr⟩ := (HR.out.below HI.out.below).range (i := j) hlt
      have HY := Lib.hid (filter_yes (aboutB id) hx)
      have HN := Lib.hid (filter_no (aboutB id) hx)
      have HFE := Lib.hid (HF.out _ HI.out.below _ (List.getElem_mem hx))
      have HLL : Hid (((es.take j).filter (aboutB id)).length ≤ 4000000) := Lib.hid (Nat.le_trans (filter_len _ _) (by rw [HLN.out]; exact hn))
      obtain ⟨e, he⟩ : ∃ e, e = es[j] := ⟨_, rfl⟩
      rw [← he] at mr HY HN HFE
      have MR := Lib.hid mr
      have hb1 := (Below.refl wo.heap.size wo).alloc (Nat.le_refl _) (.cells (Fc.eventC e) 31)
      have HI1 := Lib.hid (HI.out.low hb1)
      have HX1 := Lib.hid (Has.fresh wo 31 (Fc.eventC e))
      have HF1 := Lib.hid (HFE.out.below hb1)
      have c19 : (wo.alloc (.cells (Fc.eventC e) 31)).cell? ⟨wo.heap.size, 19, none⟩ = some (.slice e.d.A1 e.d.n1 e.d.c1) := HX1.out.at_ 19
      obtain ⟨L, hL⟩ : ∃ L, L = (es.take j).filter (aboutB id) := ⟨_, rfl⟩
      rw [← hL] at HI HI1 HY HN HLL
      have HAB := Lib.hid (show aboutB id e = (e.d.nodes.any (onNode id) || e.d.links.any (onLink id)) from rfl)
      have hm1 := HF1.out.m1
      have hm2 := HF1.out.m2
      clear he mr hx hbl hb1 HFE hL
      obtain ⟨A2, c2, rfl, _, _⟩ := eown_sl HI.out.row
      go_wp2_with (first | ((with_reducible refine Who.wpList_loadC 31 (.tmp 17) rfl (b) (off + j * 21) (Fc.eventC e) ?_); refine And.intro ⟨by rfl, by rfl, ⟨_, Tryd.underlying31, rfl⟩, Sr.info_event⟩ (And.intro (MR.out) ?_); (try simp only [Act.put, List.setIfInBounds_toArray, List.set_cons_zero, List.set_cons_succ])) | ((with_reducible refine Who.wpList_newC 31 7 (.tmp 18) rfl rfl rfl (Fc.eventC Sr.zeroE) (Fc.eventC e) ?_); refine And.intro ⟨rfl, rfl, rfl, halv, by rfl, by rfl, Sr.info_event, rfl, Sr.event_one _⟩ ?_; (try simp only [Act.put, List.setIfInBounds_toArray, List.set_cons_zero, List.set_cons_succ]); (try simp only [World.size_alloc])) | fail)
      clear c19
      go_loopw [8, 23] (fun sb si wr => ∃ (i : Nat) (bv : Bool), si = .int .i64 i ∧ sb = .bool bv ∧ i ≤ e.d.n1 ∧ Hid (bv = (e.d.nodes.take i).any (onNode id)) ∧ Hid (AbI id w wr (.slice A2 L.length c2) L) ∧ Hid (Has wr wo.heap.size 31 (Fc.eventC e)) ∧ Hid (Fc.StateFit wr e.d)) (fun _ si _ => e.d.n1 - (intOf si).toNat)
      case atStart => exact ⟨0, false, rfl, rfl, Nat.zero_le _, Lib.hid rfl, HI1, HX1, HF1⟩
      case round =>
        clear HI1 HX1 HF1 HI
        obtain ⟨i, bv, rfl, rfl, hi, HV, HI, HX, HF1⟩ := hrel
        by_cases hli : i < e.d.n1
        · obtain ⟨b1, off1, hA1, hbl1, hx1, mr1⟩ := HF1.out.nodes.range (i := i) hli
          have HS := Lib.hid (any_step (onNode id) hx1)
          obtain ⟨y, hy⟩ : ∃ y, y = e.d.nodes[i] := ⟨_, rfl⟩
          rw [← hy] at mr1 HS
          have MR1 := Lib.hid mr1
          have hb2 := (Below.refl wr.heap.size wr).alloc (Nat.le_refl _) (.cells (nodeC y) 62)
          have HI2 := Lib.hid (HI.out.low hb2)
          have HX2 := Lib.hid (HX.out.below hb2)
          have HF2 := Lib.hid (HF1.out.below hb2)
          have HY2 := Lib.hid (Has.fresh wr 62 (nodeC y))
          have q1 := fun W => eql_st y.p.id.1 y.p.id.2 id.1 id.2 W
          unfold stC at q1
          have HON := Lib.hid (show onNode id y = (y.p.id.1 == id.1 && y.p.id.2 == id.2) from rfl)
          clear hy mr1 hx1 hbl1 hb2 HF1
          rw [hA1]
          cases bv with
          | true =>
            go_wp2_with (first | ((with_reducible refine Who.wpList_loadC 62 (.tmp 25) rfl (b1) (off1 + i * 13) (nodeC y) ?_); refine And.intro ⟨by rfl, by rfl, ⟨_, Tryd.underlying62, rfl⟩, Sr.info_inode⟩ (And.intro (MR1.out) ?_); (try simp only [Act.put, List.setIfInBounds_toArray, List.set_cons_zero, List.set_cons_succ])) | ((with_reducible refine Who.wpList_newC 62 10 (.tmp 26) rfl rfl rfl (nodeC zeroN) (nodeC y) ?_); refine And.intro ⟨rfl, rfl, rfl, haln, by rfl, by rfl, Sr.info_inode, rfl, node_one _⟩ ?_; (try simp only [Act.put, List.setIfInBounds_toArray, List.set_cons_zero, List.set_cons_succ]); (try simp only [World.size_alloc])) | ((with_reducible refine Who.wpList_loadC 23 (.tmp 29) rfl (wr.heap.size) 0 (#[.int .i64 y.p.id.1, .int .i64 y.p.id.2]) ?_); refine And.intro ⟨by rfl, by rfl, ⟨_, Tryd.underlying23, rfl⟩, Sr.info_st⟩ (And.intro (nid_range HY2.out) ?_); (try simp only [Act.put, List.setIfInBounds_toArray, List.set_cons_zero, List.set_cons_succ])) | ((with_reducible refine Who.wpList_loadC 23 (.tmp 3) rfl (w.heap.size) 0 (#[.int .i64 id.1, .int .i64 id.2]) ?_); refine And.intro ⟨by rfl, by rfl, ⟨_, Tryd.underlying23, rfl⟩, Sr.info_st⟩ (And.intro (Who.has_range HI2.out.has) ?_); (try simp only [Act.put, List.setIfInBounds_toArray, List.set_cons_zero, List.set_cons_succ])) | fail)
            go_roundw
            case rel => exact ⟨i + 1, true, by go_num, rfl, by omega, Lib.hid (by rw [HS.out, ← HV.out]; rfl), HI2, HX2, HF2⟩
            case measure => simp [intOf]; omega
          | false =>
            go_wp2_with (first | ((with_reducible refine Who.wpList_loadC 62 (.tmp 25) rfl (b1) (off1 + i * 13) (nodeC y) ?_); refine And.intro ⟨by rfl, by rfl, ⟨_, Tryd.underlying62, rfl⟩, Sr.info_inode⟩ (And.intro (MR1.out) ?_); (try simp only [Act.put, List.setIfInBounds_toArray, List.set_cons_zero, List.set_cons_succ])) | ((with_reducible refine Who.wpList_newC 62 10 (.tmp 26) rfl rfl rfl (nodeC zeroN) (nodeC y) ?_); refine And.intro ⟨rfl, rfl, rfl, haln, by rfl, by rfl, Sr.info_inode, rfl, node_one _⟩ ?_; (try simp only [Act.put, List.setIfInBounds_toArray, List.set_cons_zero, List.set_cons_succ]); (try simp only [World.size_alloc])) | ((with_reducible refine Who.wpList_loadC 23 (.tmp 29) rfl (wr.heap.size) 0 (#[.int .i64 y.p.id.1, .int .i64 y.p.id.2]) ?_); refine And.intro ⟨by rfl, by rfl, ⟨_, Tryd.underlying23, rfl⟩, Sr.info_st⟩ (And.intro (nid_range HY2.out) ?_); (try simp only [Act.put, List.setIfInBounds_toArray, List.set_cons_zero, List.set_cons_succ])) | ((with_reducible refine Who.wpList_loadC 23 (.tmp 3) rfl (w.heap.size) 0 (#[.int .i64 id.1, .int .i64 id.2]) ?_); refine And.intro ⟨by rfl, by rfl, ⟨_, Tryd.underlying23, rfl⟩, Sr.info_st⟩ (And.intro (Who.has_range HI2.out.has) ?_); (try simp only [Act.put, List.setIfInBounds_toArray, List.set_cons_zero, List.set_cons_succ])) | fail)
            go_roundw
            case rel => exact ⟨i + 1, _, by go_num, rfl, by omega, Lib.hid (by rw [HS.out, ← HV.out, HON.out]; rfl), HI2, HX2, HF2⟩
            case measure => simp [intOf]; omega
        · have HVN := Lib.hid (show bv = e.d.nodes.any (onNode id) by have := HV.out; rwa [List.take_of_length_le (by rw [HF1.out.nodes.len]; omega)] at this)
          have c20 : wr.cell? ⟨wo.heap.size, 20, none⟩ = some (.slice e.d.A2 e.d.n2 e.d.c2) := HX.out.at_ 20
          clear HV
          go_wp2
          clear c20
          go_loopw [8, 39] (fun sb si wr => ∃ (i : Nat) (bv2 : Bool), si = .int .i64 i ∧ sb = .bool bv2 ∧ i ≤ e.d.n2 ∧ Hid (bv2 = (bv || (e.d.links.take i).any (onLink id))) ∧ Hid (AbI id w wr (.slice A2 L.length c2) L) ∧ Hid (Has wr wo.heap.size 31 (Fc.eventC e)) ∧ Hid (Fc.StateFit wr e.d)) (fun _ si _ => e.d.n2 - (intOf si).toNat)
          case atStart => exact ⟨0, bv, rfl, rfl, Nat.zero_le _, Lib.hid (by simp), HI, HX, HF1⟩
          case round =>
            clear HI HX HF1
            obtain ⟨i, bv2, rfl, rfl, hi, HV, HI, HX, HF1⟩ := hrel
            by_cases hli : i < e.d.n2
            · obtain ⟨b1, off1, hA1, hbl1, hx1, mr1⟩ := HF1.out.links.range (i := i) hli
              have HS := Lib.hid (any_step (onLink id) hx1)
              obtain ⟨y, hy⟩ : ∃ y, y = e.d.links[i] := ⟨_, rfl⟩
              rw [← hy] at mr1 HS
              have MR1 := Lib.hid mr1
              have hb2 := (Below.refl wr.heap.size wr).alloc (Nat.le_refl _) (.cells (linkC y) 66)
              have HI2 := Lib.hid (HI.out.low hb2)
              have HX2 := Lib.hid (HX.out.below hb2)
              have HF2 := Lib.hid (HF1.out.below hb2)
              have HY2 := Lib.hid (Has.fresh wr 66 (linkC y))
              have q1 := fun W => eql_st y.id.1 y.id.2 id.1 id.2 W
              have q2 := fun W => eql_st y.node.1 y.node.2 id.1 id.2 W
              have q3 := fun W => neq_st y.at_.1 y.at_.2 0 0 W
              unfold stC at q1 q2 q3
              have HON := Lib.hid (show onLink id y = ((y.id.1 == id.1 && y.id.2 == id.2) || (!(y.at_.1 == 0 && y.at_.2 == 0) && (y.node.1 == id.1 && y.node.2 == id.2))) from rfl)
              obtain ⟨z1, hz1⟩ : ∃ z1, z1 = (y.id.1 == id.1 && y.id.2 == id.2) := ⟨_, rfl⟩
              obtain ⟨z2, hz2⟩ : ∃ z2, z2 = (y.node.1 == id.1 && y.node.2 == id.2) := ⟨_, rfl⟩
              obtain ⟨z3, hz3⟩ : ∃ z3, z3 = (y.at_.1 == 0 && y.at_.2 == 0) := ⟨_, rfl⟩
              rw [← hz1] at q1 HON
              rw [← hz2] at q2 HON
              rw [← hz3] at q3 HON
              clear hy mr1 hx1 hbl1 hb2 HF1 hz1 hz2 hz3
              rw [hA1]
              cases bv2 with
              | true =>
                go_wp2_with (first | ((with_reducible refine Who.wpList_loadC 66 (.tmp 41) rfl (b1) (off1 + i * 25) (linkC y) ?_); refine And.intro ⟨by rfl, by rfl, ⟨_, Tryd.underlying66, rfl⟩, Sr.info_link⟩ (And.intro (MR1.out) ?_); (try simp only [Act.put, List.setIfInBounds_toArray, List.set_cons_zero, List.set_cons_succ])) | ((with_reducible refine Who.wpList_newC 66 12 (.tmp 42) rfl rfl rfl (linkC zeroK) (linkC y) ?_); refine And.intro ⟨rfl, rfl, rfl, hall, by rfl, by rfl, Sr.info_link, rfl, link_one _⟩ ?_; (try simp only [Act.put, List.setIfInBounds_toArray, List.set_cons_zero, List.set_cons_succ]); (try simp only [World.size_alloc])) | ((with_reducible refine Who.wpList_loadC 23 (.tmp 45) rfl (wr.heap.size) 0 (#[.int .i64 y.id.1, .int .i64 y.id.2]) ?_); refine And.intro ⟨by rfl, by rfl, ⟨_, Tryd.underlying23, rfl⟩, Sr.info_st⟩ (And.intro (Sr.id_range HY2.out) ?_); (try simp only [Act.put, List.setIfInBounds_toArray, List.set_cons_zero, List.set_cons_succ])) | ((with_reducible refine Who.wpList_loadC 23 (.tmp 51) rfl (wr.heap.size) 2 (#[.int .i64 y.node.1, .int .i64 y.node.2]) ?_); refine And.intro ⟨by rfl, by rfl, ⟨_, Tryd.underlying23, rfl⟩, Sr.info_st⟩ (And.intro (node_range HY2.out) ?_); (try simp only [Act.put, List.setIfInBounds_toArray, List.set_cons_zero, List.set_cons_succ])) | ((with_reducible refine Who.wpList_loadC 23 (.tmp 56) rfl (wr.heap.size) 4 (#[.int .i64 y.at_.1, .int .i64 y.at_.2]) ?_); refine And.intro ⟨by rfl, by rfl, ⟨_, Tryd.underlying23, rfl⟩, Sr.info_st⟩ (And.intro (Sr.at_range HY2.out) ?_); (try simp only [Act.put, List.setIfInBounds_toArray, List.set_cons_zero, List.set_cons_succ])) | ((with_reducible refine Who.wpList_loadC 23 (.tmp 3) rfl (w.heap.size) 0 (#[.int .i64 id.1, .int .i64 id.2]) ?_); refine And.intro ⟨by rfl, by rfl, ⟨_, Tryd.underlying23, rfl⟩, Sr.info_st⟩ (And.intro (Who.has_range HI2.out.has) ?_); (try simp only [Act.put, List.setIfInBounds_toArray, List.set_cons_zero, List.set_cons_succ])) | fail)
                go_roundw
                case rel => exact ⟨i + 1, true, by go_num, rfl, by omega, Lib.hid (by have h := HV.out; rw [HS.out, ← Bool.or_assoc, ← h]; rfl), HI2, HX2, HF2⟩
                case measure => simp [intOf]; omega
              | false =>
                cases z1 with
                | true =>
                  go_wp2_with (first | ((with_reducible refine Who.wpList_loadC 66 (.tmp 41) rfl (b1) (off1 + i * 25) (linkC y) ?_); refine And.intro ⟨by rfl, by rfl, ⟨_, Tryd.underlying66, rfl⟩, Sr.info_link⟩ (And.intro (MR1.out) ?_); (try simp only [Act.put, List.setIfInBounds_toArray, List.set_cons_zero, List.set_cons_succ])) | ((with_reducible refine Who.wpList_newC 66 12 (.tmp 42) rfl rfl rfl (linkC zeroK) (linkC y) ?_); refine And.intro ⟨rfl, rfl, rfl, hall, by rfl, by rfl, Sr.info_link, rfl, link_one _⟩ ?_; (try simp only [Act.put, List.setIfInBounds_toArray, List.set_cons_zero, List.set_cons_succ]); (try simp only [World.size_alloc])) | ((with_reducible refine Who.wpList_loadC 23 (.tmp 45) rfl (wr.heap.size) 0 (#[.int .i64 y.id.1, .int .i64 y.id.2]) ?_); refine And.intro ⟨by rfl, by rfl, ⟨_, Tryd.underlying23, rfl⟩, Sr.info_st⟩ (And.intro (Sr.id_range HY2.out) ?_); (try simp only [Act.put, List.setIfInBounds_toArray, List.set_cons_zero, List.set_cons_succ])) | ((with_reducible refine Who.wpList_loadC 23 (.tmp 51) rfl (wr.heap.size) 2 (#[.int .i64 y.node.1, .int .i64 y.node.2]) ?_); refine And.intro ⟨by rfl, by rfl, ⟨_, Tryd.underlying23, rfl⟩, Sr.info_st⟩ (And.intro (node_range HY2.out) ?_); (try simp only [Act.put, List.setIfInBounds_toArray, List.set_cons_zero, List.set_cons_succ])) | ((with_reducible refine Who.wpList_loadC 23 (.tmp 56) rfl (wr.heap.size) 4 (#[.int .i64 y.at_.1, .int .i64 y.at_.2]) ?_); refine And.intro ⟨by rfl, by rfl, ⟨_, Tryd.underlying23, rfl⟩, Sr.info_st⟩ (And.intro (Sr.at_range HY2.out) ?_); (try simp only [Act.put, List.setIfInBounds_toArray, List.set_cons_zero, List.set_cons_succ])) | ((with_reducible refine Who.wpList_loadC 23 (.tmp 3) rfl (w.heap.size) 0 (#[.int .i64 id.1, .int .i64 id.2]) ?_); refine And.intro ⟨by rfl, by rfl, ⟨_, Tryd.underlying23, rfl⟩, Sr.info_st⟩ (And.intro (Who.has_range HI2.out.has) ?_); (try simp only [Act.put, List.setIfInBounds_toArray, List.set_cons_zero, List.set_cons_succ])) | fail)
                  go_roundw
                  case rel => exact ⟨i + 1, true, by go_num, rfl, by omega, Lib.hid (by have h := HV.out; rw [HS.out, ← Bool.or_assoc, ← h, HON.out]; rfl), HI2, HX2, HF2⟩
                  case measure => simp [intOf]; omega
                | false =>
                  cases z2 with
                  | false =>
                    go_wp2_with (first | ((with_reducible refine Who.wpList_loadC 66 (.tmp 41) rfl (b1) (off1 + i * 25) (linkC y) ?_); refine And.intro ⟨by rfl, by rfl, ⟨_, Tryd.underlying66, rfl⟩, Sr.info_link⟩ (And.intro (MR1.out) ?_); (try simp only [Act.put, List.setIfInBounds_toArray, List.set_cons_zero, List.set_cons_succ])) | ((with_reducible refine Who.wpList_newC 66 12 (.tmp 42) rfl rfl rfl (linkC zeroK) (linkC y) ?_); refine And.intro ⟨rfl, rfl, rfl, hall, by rfl, by rfl, Sr.info_link, rfl, link_one _⟩ ?_; (try simp only [Act.put, List.setIfInBounds_toArray, List.set_cons_zero, List.set_cons_succ]); (try simp only [World.size_alloc])) | ((with_reducible refine Who.wpList_loadC 23 (.tmp 45) rfl (wr.heap.size) 0 (#[.int .i64 y.id.1, .int .i64 y.id.2]) ?_); refine And.intro ⟨by rfl, by rfl, ⟨_, Tryd.underlying23, rfl⟩, Sr.info_st⟩ (And.intro (Sr.id_range HY2.out) ?_); (try simp only [Act.put, List.setIfInBounds_toArray, List.set_cons_zero, List.set_cons_succ])) | ((with_reducible refine Who.wpList_loadC 23 (.tmp 51) rfl (wr.heap.size) 2 (#[.int .i64 y.node.1, .int .i64 y.node.2]) ?_); refine And.intro ⟨by rfl, by rfl, ⟨_, Tryd.underlying23, rfl⟩, Sr.info_st⟩ (And.intro (node_range HY2.out) ?_); (try simp only [Act.put, List.setIfInBounds_toArray, List.set_cons_zero, List.set_cons_succ])) | ((with_reducible refine Who.wpList_loadC 23 (.tmp 56) rfl (wr.heap.size) 4 (#[.int .i64 y.at_.1, .int .i64 y.at_.2]) ?_); refine And.intro ⟨by rfl, by rfl, ⟨_, Tryd.underlying23, rfl⟩, Sr.info_st⟩ (And.intro (Sr.at_range HY2.out) ?_); (try simp only [Act.put, List.setIfInBounds_toArray, List.set_cons_zero, List.set_cons_succ])) | ((with_reducible refine Who.wpList_loadC 23 (.tmp 3) rfl (w.heap.size) 0 (#[.int .i64 id.1, .int .i64 id.2]) ?_); refine And.intro ⟨by rfl, by rfl, ⟨_, Tryd.underlying23, rfl⟩, Sr.info_st⟩ (And.intro (Who.has_range HI2.out.has) ?_); (try simp only [Act.put, List.setIfInBounds_toArray, List.set_cons_zero, List.set_cons_succ])) | fail)
                    go_roundw
                    case rel => exact ⟨i + 1, false, by go_num, rfl, by omega, Lib.hid (by have h := HV.out; rw [HS.out, ← Bool.or_assoc, ← h, HON.out]; simp), HI2, HX2, HF2⟩
                    case measure => simp [intOf]; omega
                  | true =>
                    go_wp2_with (first | ((with_reducible refine Who.wpList_loadC 66 (.tmp 41) rfl (b1) (off1 + i * 25) (linkC y) ?_); refine And.intro ⟨by rfl, by rfl, ⟨_, Tryd.underlying66, rfl⟩, Sr.info_link⟩ (And.intro (MR1.out) ?_); (try simp only [Act.put, List.setIfInBounds_toArray, List.set_cons_zero, List.set_cons_succ])) | ((with_reducible refine Who.wpList_newC 66 12 (.tmp 42) rfl rfl rfl (linkC zeroK) (linkC y) ?_); refine And.intro ⟨rfl, rfl, rfl, hall, by rfl, by rfl, Sr.info_link, rfl, link_one _⟩ ?_; (try simp only [Act.put, List.setIfInBounds_toArray, List.set_cons_zero, List.set_cons_succ]); (try simp only [World.size_alloc])) | ((with_reducible refine Who.wpList_loadC 23 (.tmp 45) rfl (wr.heap.size) 0 (#[.int .i64 y.id.1, .int .i64 y.id.2]) ?_); refine And.intro ⟨by rfl, by rfl, ⟨_, Tryd.underlying23, rfl⟩, Sr.info_st⟩ (And.intro (Sr.id_range HY2.out) ?_); (try simp only [Act.put, List.setIfInBounds_toArray, List.set_cons_zero, List.set_cons_succ])) | ((with_reducible refine Who.wpList_loadC 23 (.tmp 51) rfl (wr.heap.size) 2 (#[.int .i64 y.node.1, .int .i64 y.node.2]) ?_); refine And.intro ⟨by rfl, by rfl, ⟨_, Tryd.underlying23, rfl⟩, Sr.info_st⟩ (And.intro (node_range HY2.out) ?_); (try simp only [Act.put, List.setIfInBounds_toArray, List.set_cons_zero, List.set_cons_succ])) | ((with_reducible refine Who.wpList_loadC 23 (.tmp 56) rfl (wr.heap.size) 4 (#[.int .i64 y.at_.1, .int .i64 y.at_.2]) ?_); refine And.intro ⟨by rfl, by rfl, ⟨_, Tryd.underlying23, rfl⟩, Sr.info_st⟩ (And.intro (Sr.at_range HY2.out) ?_); (try simp only [Act.put, List.setIfInBounds_toArray, List.set_cons_zero, List.set_cons_succ])) | ((with_reducible refine Who.wpList_loadC 23 (.tmp 3) rfl (w.heap.size) 0 (#[.int .i64 id.1, .int .i64 id.2]) ?_); refine And.intro ⟨by rfl, by rfl, ⟨_, Tryd.underlying23, rfl⟩, Sr.info_st⟩ (And.intro (Who.has_range HI2.out.has) ?_); (try simp only [Act.put, List.setIfInBounds_toArray, List.set_cons_zero, List.set_cons_succ])) | fail)
                    go_roundw
                    case rel => exact ⟨i + 1, !z3, by go_num, by first | rfl | simp, by omega, Lib.hid (by have h := HV.out; rw [HS.out, ← Bool.or_assoc, ← h, HON.out]; simp), HI2, HX2, HF2⟩
                    case measure => simp [intOf]; omega
            · have HB2 := Lib.hid (show bv2 = aboutB id e by
                have h := HV.out
                rw [List.take_of_length_le (by rw [HF1.out.links.len]; omega)] at h
                rw [h, HVN.out, HAB.out])
              clear HV HVN
              cases bv2 with
              | true =>
                have HQ := Lib.hid (HY.out HB2.out.symm)
                clear HB2
                go_wp2_with (first | ((with_reducible refine Who.wpList_loadC 31 (.tmp 7) rfl (wo.heap.size) 0 (Fc.eventC e) ?_); refine And.intro ⟨by rfl, by rfl, ⟨_, Tryd.underlying31, rfl⟩, Sr.info_event⟩ (And.intro (Who.has_range HX.out) ?_); (try simp only [Act.put, List.setIfInBounds_toArray, List.set_cons_zero, List.set_cons_succ])) | ((with_reducible refine Sr.wpList_build_ev (.tmp 65) rfl e ?_); refine And.intro ⟨rfl, by rfl⟩ ?_; (try simp only [Act.put, List.setIfInBounds_toArray, List.set_cons_zero, List.set_cons_succ])) | (at_builtin; (with_reducible refine Sr.wpl_event (B := w.heap.size + 1) (u := .slice A2 L.length c2) (es := L) (e := e) (.tmp 64) (.tmp 66) rfl rfl ?_); refine And.intro ⟨⟨by rfl, ⟨_, by rfl, by simp⟩⟩, HI.out.row, HI.out.big, HLL.out⟩ ?_) | fail)
                intro u3 w4 hg
                have HI4 := Lib.hid (HI.out.grew hg)
                clear hg
                go_wp2
                go_roundw
                case rel => exact ⟨j + 1, by go_num, by omega, Lib.hid (by rw [HQ.out]; exact HI4.out)⟩
                case measure => simp [intOf]; omega
              | false =>
                have HQ := Lib.hid (HN.out HB2.out.symm)
                clear HB2
                go_wp2
                go_roundw
                case rel => exact ⟨j + 1, by go_num, by omega, Lib.hid (by rw [HQ.out]; exact HI.out)⟩
                case measure => simp [intOf]; omega
    · have HQ := Lib.hid (show es.take j = es from List.take_of_length_le (by rw [HLN.out]; omega))
      go_wp2
      go_ret
      exact ⟨_, rfl, by have := HI.out.row; rw [HQ.out] at this; exact eown_mono this (Nat.le_succ _), HI.out.below⟩
end Go.Proofs.YtdbmnnmcelaehaaDoor.Stl
