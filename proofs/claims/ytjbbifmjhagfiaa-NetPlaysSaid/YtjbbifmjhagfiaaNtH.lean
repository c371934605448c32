/- Messages on their way: what a net is in memory; New, Count, Peek. -/
import Derived.Test.YtjbbifmjhagfiaaNtE
import Derived.Laws.AppendOwn
import Derived.Deep.AppendLies
import Derived.Great.BuildSlice
namespace Go.Proofs.Ytjbbifmjhagfiaa.Nt
open Go.RowKit Go.Proofs.Ytjbbifmjhagfiaa.Mem Go.Proofs.Ytjbbifmjhagfiaa.Vc
set_option linter.unusedVariables false

/-- Rows of rows of one length. -/
theorem flat_at {α : Type} {f : α → List Value} {k : Nat} (hk : ∀ x, (f x).length = k) : ∀ (l : List α) (i j : Nat) (x : α), l[i]? = some x → j < k → (l.flatMap f)[i * k + j]? = (f x)[j]?
  | [], i, j, x, h, _ => by simp at h
  | y :: r, 0, j, x, h, hj => by
    simp at h
    subst h
    rw [List.flatMap_cons, Nat.zero_mul, Nat.zero_add, List.getElem?_append_left (by rw [hk]; exact hj)]
  | y :: r, i + 1, j, x, h, hj => by
    have h2 : r[i]? = some x := by simpa using h
    rw [List.flatMap_cons, List.getElem?_append_right (by rw [hk, Nat.succ_mul]; omega), hk]
    have e : (i + 1) * k + j - k = i * k + j := by rw [Nat.succ_mul]; omega
    rw [e]
    exact flat_at hk r i j x h2 hj
theorem flat_len {α : Type} {f : α → List Value} {k : Nat} (hk : ∀ x, (f x).length = k) (l : List α) : (l.flatMap f).length = l.length * k := by
  induction l with
  | nil => simp
  | cons x r ih => simp [ih, hk, Nat.succ_mul]; omega
theorem flat_take {α : Type} {f : α → List Value} {k : Nat} (hk : ∀ x, (f x).length = k) : ∀ (l : List α) (i : Nat), (l.take i).flatMap f = (l.flatMap f).take (i * k)
  | [], i => by simp
  | y :: r, 0 => by simp
  | y :: r, i + 1 => by
    have e : (i + 1) * k - k = i * k := by rw [Nat.succ_mul]; omega
    rw [List.take_succ_cons, List.flatMap_cons, List.flatMap_cons, flat_take hk r i, List.take_append, hk, List.take_of_length_le (l := f y) (by rw [hk, Nat.succ_mul]; omega), e]
theorem flat_drop {α : Type} {f : α → List Value} {k : Nat} (hk : ∀ x, (f x).length = k) : ∀ (l : List α) (i : Nat), (l.drop i).flatMap f = (l.flatMap f).drop (i * k)
  | [], i => by simp
  | y :: r, 0 => by simp
  | y :: r, i + 1 => by
    have e : (i + 1) * k - k = i * k := by rw [Nat.succ_mul]; omega
    rw [List.drop_succ_cons, List.flatMap_cons, flat_drop hk r i, List.drop_append, hk, List.drop_of_length_le (l := f y) (by rw [hk, Nat.succ_mul]; omega), List.nil_append, e]
def mL (m : MsgP) : List Value := (msgC m).toList
theorem mL_len (m : MsgP) : (mL m).length = 19 := rfl
def MOwn (w : World) (B : Nat) (v : Value) (ms : List MsgP) : Prop := w.ownsRow B 36 19 v ms.length (ms.flatMap mL)
theorem MOwn.nil (w : World) (B : Nat) : MOwn w B (.slice none 0 0) [] := ⟨rfl, .inl ⟨rfl, rfl⟩⟩
theorem MOwn.chg {S : Nat → Prop} {w w' : World} {B : Nat} {v : Value} {ms : List MsgP} (h : MOwn w B v ms) (hc : Chg S w w') (hS : ∀ k, v.ownBlock = some k → ¬ S k) : MOwn w' B v ms := by
  refine ⟨h.1, ?_⟩
  rcases h.2 with e | ⟨g, cap, cur, e, hg, hh, hr⟩
  · exact .inl e
  · refine .inr ⟨g, cap, cur, e, hg, ?_, hr⟩
    rw [hc.block g (Array.getElem?_eq_some_iff.1 hh).1 (hS g (by rw [e]; rfl))]
    exact hh
theorem MOwn.below {w w' : World} {B : Nat} {v : Value} {ms : List MsgP} (h : MOwn w B v ms) (hb : Below w.heap.size w w') : MOwn w' B v ms := h.chg (Chg.of_below hb (fun _ => False)) (fun _ _ k => k)
/-- What a row of messages is as a value, and where each lies. -/
theorem MOwn.sl {w : World} {B : Nat} {v : Value} {ms : List MsgP} (h : MOwn w B v ms) : ∃ A c, v = .slice A ms.length c ∧ (∀ j m, ms[j]? = some m → ∃ b, A = some ⟨b, 0, none⟩ ∧ b < w.heap.size ∧ B ≤ b ∧ v.ownBlock = some b ∧ w.rangeAt b (j * 19) (mL m)) := by
  rcases h.2 with ⟨e, e0⟩ | ⟨g, cap, cur, e, hg, hh, hn, hm, hs, ht⟩
  · refine ⟨none, 0, by rw [e, e0], fun j m hj => ?_⟩
    have : j < ms.length := (List.getElem?_eq_some_iff.1 hj).1
    omega
  · refine ⟨some ⟨g, 0, none⟩, cap, e, fun j m hj => ⟨g, rfl, (Array.getElem?_eq_some_iff.1 hh).1, hg, by rw [e]; rfl, fun i u hu => ?_⟩⟩
    have hi : i < 19 := by have := (List.getElem?_eq_some_iff.1 hu).1; rw [mL_len] at this; exact this
    have hf := flat_at mL_len ms j i m hj hi
    have hc := World.ownsRow.cells h (g := g) (by rw [e]; rfl) (j * 19 + i) u (hf.trans hu)
    have ha : (⟨g, 0, none⟩ : Addr).add (j * 19 + i) = ⟨g, j * 19 + i, none⟩ := by
      unfold Addr.add
      split
      · next h => rw [h]
      · simp
    rw [ha] at hc
    exact hc
structure NetV where
  way : List MsgP
  sent : Int
  lost : Int
def netC (v : Value) (s l : Int) : Array Value := #[.bool true, v, .int .i64 s, .int .i64 l]
structure NetIs (w : World) (B g : Nat) (v : Value) (V : NetV) : Prop where
  head : Has w g 88 (netC v V.sent V.lost)
  lo : B ≤ g
  row : MOwn w B v V.way
  few : V.way.length ≤ 160
/-- The row lies apart from blocks of other kinds. -/
theorem MOwn.apart {w : World} {B g : Nat} {v : Value} {ms : List MsgP} {t : TypeId} {cs : Array Value} (h : MOwn w B v ms) (hg : Has w g t cs) (ht : t ≠ 36) : v.ownBlock ≠ some g := by
  rcases h.2 with ⟨rfl, _⟩ | ⟨q, cap', cur, rfl, _, hh, _⟩
  · simp [Value.ownBlock]
  · intro e
    simp [Value.ownBlock] at e
    subst e
    unfold Has at hg
    rw [hh] at hg
    injection hg with hg
    injection hg with _ e
    exact ht e.symm
theorem NetIs.below {w w' : World} {B g : Nat} {v : Value} {V : NetV} (h : NetIs w B g v V) (hb : Below w.heap.size w w') : NetIs w' B g v V := ⟨h.head.below hb, h.lo, h.row.below hb, h.few⟩
theorem NetIs.drew {w : World} {B g : Nat} {v : Value} {V : NetV} (h : NetIs w B g v V) : NetIs w.drew B g v V := ⟨h.head, h.lo, h.row, h.few⟩
theorem NetIs.chg {S : Nat → Prop} {w w' : World} {B g : Nat} {v : Value} {V : NetV} (h : NetIs w B g v V) (hc : Chg S w w') (hg : ¬ S g) (hS : ∀ k, v.ownBlock = some k → ¬ S k) : NetIs w' B g v V := ⟨h.head.over hc hg, h.lo, h.row.chg hc hS, h.few⟩
theorem new_any (w : World) : Calls Try.prog 12 #[] w fun e w' => e = .returned (.pointer (some ⟨w.heap.size, 0, none⟩)) ∧ NetIs w' w.heap.size w.heap.size (.slice none 0 0) ⟨[], 0, 0⟩ ∧ Below w.heap.size w w' ∧ w'.heap.size = w.heap.size + 1 := by
  have HN := Lib.hid (show NetIs (w.alloc (.cells #[.bool true, .slice none 0 0, .int .i64 0, .int .i64 0] 88)) w.heap.size w.heap.size (.slice none 0 0) ⟨[], 0, 0⟩ from ⟨Has.fresh w 88 _, Nat.le_refl _, MOwn.nil _ _, by simp⟩)
  have HB := Lib.hid ((Below.refl w.heap.size w).alloc (Nat.le_refl _) (.cells #[.bool true, .slice none 0 0, .int .i64 0, .int .i64 0] 88))
  go_enter Try.func12, Try.ntmps12
  go_wp2
  go_ret
  exact ⟨rfl, HN.out, HB.out, by simp⟩
theorem count_any (B g : Nat) (v : Value) (V : NetV) (w : World) (h : NetIs w B g v V) : Calls Try.prog 14 #[.pointer (some ⟨g, 0, none⟩)] w fun e w' => e = .returned (.tuple #[.int .i64 (V.way.length : Int), .int .i64 V.sent, .int .i64 V.lost]) ∧ ∃ n, w' = w.drewN n := by
  obtain ⟨A, c, hv, _⟩ := h.row.sl
  have HH := Lib.hid h.head
  have c1 : w.cell? ⟨g, 1, none⟩ = some v := HH.out.at_ 1
  have c2 : w.cell? ⟨g, 2, none⟩ = some (.int .i64 V.sent) := HH.out.at_ 2
  have c3 : w.cell? ⟨g, 3, none⟩ = some (.int .i64 V.lost) := HH.out.at_ 3
  rw [hv] at c1
  clear h hv
  go_enter Try.func14, Try.ntmps14
  go_wp2
  go_quiet (fail)
  go_wp2
  exact bodyPost_ret (v := .tuple #[.int .i64 (V.way.length : Int), .int .i64 V.sent, .int .i64 V.lost]) (by simp [results, Try.results14, go_sem]) rfl ⟨rfl, _, rfl⟩
noncomputable def peekM (V : NetV) (k : Int) : MsgP × Int := if 0 ≤ k then (match V.way[k.toNat]? with | some m => (m, 0) | none => (msg0, 2)) else (msg0, 2)
theorem peek_low {V : NetV} {k : Int} (h : k < 0) : peekM V k = (msg0, 2) := by unfold peekM; rw [if_neg (by omega)]
theorem peek_high {V : NetV} {k : Int} (h : (V.way.length : Int) ≤ k) : peekM V k = (msg0, 2) := by
  unfold peekM
  rw [if_pos (by omega), List.getElem?_eq_none (by omega)]
theorem peek_in {V : NetV} {k : Int} {m : MsgP} {j : Nat} (hk : k = j) (h : V.way[j]? = some m) : peekM V k = (m, 0) := by
  unfold peekM
  rw [if_pos (by omega), show k.toNat = j by omega, h]
def PeekIs (V : NetV) (k : Int) (w : World) (e : Ending) (w' : World) : Prop := e = .returned (.tuple #[.agg (msgC (peekM V k).1), .int .i64 (peekM V k).2]) ∧ Below w.heap.size w w'
set_option maxRecDepth 100000 in
set_option maxHeartbeats 2000000 in
theorem peek_any (B g : Nat) (v : Value) (V : NetV) (k : Int) (w : World) (h : NetIs w B g v V) : Calls Try.prog 17 #[.pointer (some ⟨g, 0, none⟩), .int .i64 k] w (PeekIs V k w) := by
  obtain ⟨A, c, hv, hsl⟩ := h.row.sl
  have hgb := h.head.bound
  have HH := Lib.hid h.head
  have hw0 : w.alloc (.cells (msgC msg0) 36) = w.alloc (.cells (msgC msg0) 36) := rfl
  have hal := alloc_msg
  have HN := Lib.hid (Has.fresh w 36 (msgC msg0))
  have HB := Lib.hid ((Below.refl w.heap.size w).alloc (Nat.le_refl _) (.cells (msgC msg0) 36))
  have c0 : w.cell? ⟨g, 0, none⟩ = some (.bool true) := HH.out.at_ 0
  have c1 : w.cell? ⟨g, 1, none⟩ = some v := HH.out.at_ 1
  rw [hv] at c1
  have HS := Lib.hid hsl
  clear h hv hsl hw0
  by_cases q0 : k < 0
  · have HP := Lib.hid (peek_low (V := V) q0)
    go_enter Try.func17, Try.ntmps17
    go_wp2_with (first | ((with_reducible refine Who.wpList_alloc 36 4 rfl rfl rfl (msgC msg0) hal ?_); (try simp only [Act.put, List.setIfInBounds_toArray, List.set_cons_zero, List.set_cons_succ])) | ((with_reducible refine Who.wpList_storeC 36 (.tmp 4) (.tmp 27) rfl w.heap.size 0 (msgC msg0) ?_); refine And.intro ⟨rfl, by rfl, by rfl, info_size _, msgC_one _⟩ (And.intro (Who.has_there HN.out rfl) ?_); (try simp only [Act.put, List.setIfInBounds_toArray, List.set_cons_zero, List.set_cons_succ])))
    refine bodyPost_ret (v := .tuple #[.agg (msgC msg0), .int .i64 2]) (Who.results_cell_tmp Try.results17 _ _ w.heap.size 0 (msgC msg0) _ (by rfl) (Who.has_range (Who.has_over HN.out rfl)) Try.underlying36 rfl (info_size _)) rfl ⟨by rw [HP.out], Who.below_setCells HB.out (Nat.le_refl _) 0 _⟩
  · by_cases q1 : (V.way.length : Int) ≤ k
    · have HP := Lib.hid (peek_high q1)
      go_enter Try.func17, Try.ntmps17
      go_wp2_with (first | ((with_reducible refine Who.wpList_alloc 36 4 rfl rfl rfl (msgC msg0) hal ?_); (try simp only [Act.put, List.setIfInBounds_toArray, List.set_cons_zero, List.set_cons_succ])) | ((with_reducible refine Who.wpList_storeC 36 (.tmp 4) (.tmp 27) rfl w.heap.size 0 (msgC msg0) ?_); refine And.intro ⟨rfl, by rfl, by rfl, info_size _, msgC_one _⟩ (And.intro (Who.has_there HN.out rfl) ?_); (try simp only [Act.put, List.setIfInBounds_toArray, List.set_cons_zero, List.set_cons_succ])))
      refine bodyPost_ret (v := .tuple #[.agg (msgC msg0), .int .i64 2]) (Who.results_cell_tmp Try.results17 _ _ w.heap.size 0 (msgC msg0) _ (by rfl) (Who.has_range (Who.has_over HN.out rfl)) Try.underlying36 rfl (info_size _)) rfl ⟨by rw [HP.out], Who.below_setCells HB.out (Nat.le_refl _) 0 _⟩
    · obtain ⟨j, rfl⟩ : ∃ j : Nat, k = j := ⟨k.toNat, by omega⟩
      have hj : j < V.way.length := by omega
      obtain ⟨b, rfl, hb, _, _, hr⟩ := HS.out j V.way[j] (List.getElem?_eq_getElem hj)
      have HP := Lib.hid (peek_in (V := V) (k := (j : Int)) rfl (List.getElem?_eq_getElem hj))
      generalize V.way[j] = m at *
      have HR := Lib.hid (show (w.alloc (.cells (msgC msg0) 36)).rangeAt b (j * 19) (msgC m).toList from World.rangeAt_alloc hr _)
      have hj1 : (j : Int) < V.way.length := by omega
      clear q0 q1 hr HS
      go_enter Try.func17, Try.ntmps17
      go_wp2_with (first | ((with_reducible refine Who.wpList_alloc 36 4 rfl rfl rfl (msgC msg0) hal ?_); (try simp only [Act.put, List.setIfInBounds_toArray, List.set_cons_zero, List.set_cons_succ])) | ((with_reducible refine Who.wpList_loadC 36 (.tmp 33) rfl b (j * 19) (msgC m) ?_); refine And.intro ⟨by rfl, by rfl, ⟨_, Try.underlying36, rfl⟩, info_size _⟩ (And.intro HR.out ?_); (try simp only [Act.put, List.setIfInBounds_toArray, List.set_cons_zero, List.set_cons_succ])) | ((with_reducible refine Who.wpList_storeC 36 (.tmp 4) (.tmp 34) rfl w.heap.size 0 (msgC m) ?_); refine And.intro ⟨rfl, by rfl, by rfl, info_size _, msgC_one _⟩ (And.intro (Who.has_there HN.out rfl) ?_); (try simp only [Act.put, List.setIfInBounds_toArray, List.set_cons_zero, List.set_cons_succ])))
      refine bodyPost_ret (v := .tuple #[.agg (msgC m), .int .i64 0]) (Who.results_cell_tmp Try.results17 _ _ w.heap.size 0 (msgC m) _ (by rfl) (Who.has_range (Who.has_over HN.out rfl)) Try.underlying36 rfl (info_size _)) rfl ⟨by rw [HP.out], Who.below_setCells HB.out (Nat.le_refl _) 0 _⟩
end Go.Proofs.Ytjbbifmjhagfiaa.Nt
