import Derived.Test.YtdbmnnmcelaehaaDoorMem
import Derived.Test.YtdbmnnmcelaehaaDoorShelf
import Derived.Lib.ItoaLen
import Derived.Lib.LaidTab
import Derived.Deep.AppendLies
import Derived.Laws.AppendOwn

/- Numbers as text, rows of texts, texts joined: the library's. -/
namespace Go.Proofs.YtdbmnnmcelaehaaDoor.Tx
open Go.RowKit Go.Proofs.YtdbmnnmcelaehaaDoor.Mem
set_option linter.unusedVariables false set_option linter.unusedSimpArgs false

structure Tabs (w : World) : Prop where
  p10 : Lib.TabIs Tryd.prog w "internal/strconv.uint64pow10" .u64 Lib.pow10Tab
  big : 1 ≤ w.heap.size
theorem glob_p10 : Tryd.prog.globalNamed "internal/strconv.uint64pow10" = some 0 := by kernel_rfl
theorem Tabs.self {w w' : World} (h : Tabs w) (hb : Below w.heap.size w w') : Tabs w' := by
  refine ⟨?_, Nat.le_trans h.big hb.size⟩
  have h1 := h.p10
  unfold Lib.TabIs World.var? at h1 ⊢
  rw [glob_p10] at h1 ⊢
  simp only [Option.bind_some] at h1 ⊢
  rw [hb.block _ (Nat.lt_of_lt_of_le (by decide) h.big)]
  exact h1
theorem Tabs.low {B : Nat} {w w' : World} (h : Tabs w) (hB : 1 ≤ B) (hb : Below B w w') : Tabs w' := by
  refine ⟨?_, Nat.le_trans h.big hb.size⟩
  have h1 := h.p10
  unfold Lib.TabIs World.var? at h1 ⊢
  rw [glob_p10] at h1 ⊢
  simp only [Option.bind_some] at h1 ⊢
  rw [hb.block _ (Nat.lt_of_lt_of_le (by decide) hB)]
  exact h1
def fitI (x : Int) : Prop := -9223372036854775808 ≤ x ∧ x ≤ 9223372036854775807
def txt (l : List UInt8) : ByteArray := ⟨l.toArray⟩
def itoaB (n : Int) : ByteArray := txt (Lib.itoa n)
theorem txt_list (l : List UInt8) : (txt l).data.toList = l := by unfold txt; simp
theorem itoaB_size {n : Int} (h : fitI n) : (itoaB n).size ≤ 21 := by
  have h1 := Lib.itoa_length_le n h.1 h.2
  show (Lib.itoa n).toArray.size ≤ 21
  rw [List.size_toArray]
  exact h1
theorem grow_below (w : World) (k : Nat) (os : Array Obj) : Below w.heap.size w (Sort.grow (w.drewN k) os) := ⟨rfl, rfl, rfl, by simp [Sort.grow, World.drewN], fun i hi => by
  show (w.heap ++ os)[i]? = w.heap[i]?
  rw [Array.getElem?_append_left hi]⟩
theorem itoa_any (n : Int) (h : fitI n) (w : World) (hT : Tabs w) : Calls Tryd.prog 24 #[.int .i64 n] w fun e w' => e = .returned (.string (itoaB n)) ∧ Below w.heap.size w w' :=
  (Tryd.strconv_Itoa n h.1 h.2 w hT.p10).mono fun e w' q => ⟨q.1, by obtain ⟨k, os, e2⟩ := q.2; rw [e2]; exact grow_below w k os⟩
theorem own_row {w : World} {b n : Nat} {e : TypeId} {u : Value} {α : Type} {f : α → Value} {l : List α} (h : w.ownsRow b e 1 u n (l.map f)) : ∃ A c, u = .slice A n c ∧ (0 < n → ∃ g off, A = some ⟨g, off, none⟩ ∧ g < w.heap.size ∧ ∀ i (hi : i < l.length), w.cell? ⟨g, off + i, none⟩ = some (f l[i])) := by
  rcases h.2 with ⟨e1, e0⟩ | ⟨g, cap, cur, e2, hb, hh, k⟩
  · exact ⟨none, 0, by rw [e1, e0], fun hn => by omega⟩
  · subst e2
    refine ⟨some ⟨g, 0, none⟩, cap, rfl, fun _ => ⟨g, 0, rfl, (Array.getElem?_eq_some_iff.1 hh).1, fun i hi => ?_⟩⟩
    have := World.ownsRow.cells h (g := g) rfl i (f l[i]) (by rw [List.getElem?_map, List.getElem?_eq_getElem hi]; rfl)
    have ha : (⟨g, 0, none⟩ : Addr).add i = ⟨g, 0 + i, none⟩ := by
      unfold Addr.add
      split
      · next h => rw [h]
      · simp
    rw [ha] at this
    exact this
def OwnS (w : World) (B : Nat) (v : Value) (l : List ByteArray) : Prop := w.ownsRow B 9 1 v l.length (l.map Value.string)
theorem own1_chg {S : Nat → Prop} {w w' : World} {B : Nat} {t : TypeId} {v : Value} {n : Nat} {xs : List Value} (h : w.ownsRow B t 1 v n xs) (hc : Chg S w w') (hS : ∀ k, v.ownBlock = some k → ¬ S k) : w'.ownsRow B t 1 v n xs := by
  refine ⟨h.1, ?_⟩
  rcases h.2 with e | ⟨g, cap, cur, e, hg, hh, hr⟩
  · exact .inl e
  · refine .inr ⟨g, cap, cur, e, hg, ?_, hr⟩
    rw [hc.block g (Array.getElem?_eq_some_iff.1 hh).1 (hS g (by rw [e]; rfl))]
    exact hh
theorem own1_below {w w' : World} {B : Nat} {t : TypeId} {v : Value} {n : Nat} {xs : List Value} (h : w.ownsRow B t 1 v n xs) (hb : Below w.heap.size w w') : w'.ownsRow B t 1 v n xs := own1_chg h (Chg.of_below hb (fun _ => False)) (fun _ _ k => k)
theorem own1_sl {w : World} {B n : Nat} {t : TypeId} {v : Value} {xs : List Value} (h : w.ownsRow B t 1 v n xs) : ∃ A c, v = .slice A n c := by
  rcases h.2 with ⟨e, e0⟩ | ⟨g, cap, cur, e, _⟩
  · exact ⟨none, 0, by rw [e, e0]⟩
  · exact ⟨_, cap, e⟩
theorem own1_nil (w : World) (B : Nat) (t : TypeId) : w.ownsRow B t 1 (.slice none 0 0) 0 [] := ⟨rfl, .inl ⟨rfl, rfl⟩⟩
theorem own1_low {w : World} {B C n : Nat} {t : TypeId} {v : Value} {xs : List Value} (h : w.ownsRow B t 1 v n xs) (hc : C ≤ B) : w.ownsRow C t 1 v n xs := by
  refine ⟨h.1, ?_⟩
  rcases h.2 with e | ⟨g, cap, cur, e, hg, r⟩
  · exact .inl e
  · exact .inr ⟨g, cap, cur, e, Nat.le_trans hc hg, r⟩
theorem info_s : (Tryd.prog.info? 9).map (fun i => (i.zero, i.size, i.bytes)) = some (some (.string ⟨#[]⟩), 1, 16) := by kernel_rfl
theorem OwnS.chg {S : Nat → Prop} {w w' : World} {B : Nat} {v : Value} {l : List ByteArray} (h : OwnS w B v l) (hc : Chg S w w') (hS : ∀ k, v.ownBlock = some k → ¬ S k) : OwnS w' B v l := own1_chg h hc hS
def joinB (ps : List ByteArray) (sep : ByteArray) : ByteArray := txt (Lib.join (ps.map (·.data.toList)) sep.data.toList)
theorem join_own {w : World} {B : Nat} {u : Value} {ps : List ByteArray} (sep : ByteArray) (h : OwnS w B u ps) (hs : ps.length ≤ 140737488355328 ∧ (Lib.join (ps.map (·.data.toList)) sep.data.toList).length ≤ 140737488355328) (w1 : World) (hw : w1 = w := by rfl) : Calls Tryd.prog 47 #[u, .string sep] w1 fun e w' => e = .returned (.string (joinB ps sep)) ∧ Below w1.heap.size w1 w' := by
  subst hw
  rcases h.2 with ⟨e, e0⟩ | ⟨g, cap, cur, e, hg, hh, hn, hm, hsz, ht⟩
  · have hp : ps = [] := List.length_eq_zero_iff.1 e0
    subst hp
    rw [e]
    exact (Tryd.strings_Join_none none 0 sep w1).mono fun e w' q => ⟨q.1, by rw [q.2]; exact Below.refl _ _⟩
  · obtain ⟨A, c, e2, hx⟩ := own_row h
    rw [e] at e2
    injection e2 with e3 e4 e5
    subst e3 e5
    rw [e]
    unfold maxLen at hm
    have hps := hs.1
    by_cases hz : 0 < ps.length
    · obtain ⟨g2, off, e6, hlt, hc⟩ := hx hz
      injection e6 with e6
      injection e6 with e7 e8 _
      subst e7 e8
      have hlen : ps.length ≤ 140737488355328 := by omega
      exact Tryd.strings_Join g 0 cap ps sep w1 (fun j x hj => by
        obtain ⟨hj1, hj2⟩ := List.getElem?_eq_some_iff.1 hj
        rw [hc j hj1, hj2]) hlt hlen hn (by have := hs.2; omega)
    · have hp : ps = [] := List.length_eq_zero_iff.1 (by omega)
      subst hp
      exact (Tryd.strings_Join_none _ cap sep w1).mono fun e w' q => ⟨q.1, by rw [q.2]; exact Below.refl _ _⟩
theorem lens_le (m : Nat) : ∀ ps : List (List UInt8), (∀ p ∈ ps, p.length ≤ m) → Lib.lens ps ≤ ps.length * m
  | [], _ => by simp [Lib.lens]
  | p :: r, h => by
    have h1 := lens_le m r (fun q hq => h q (List.mem_cons_of_mem _ hq))
    have h2 := h p (by simp)
    have e : Lib.lens (p :: r) = p.length + Lib.lens r := by simp [Lib.lens]
    rw [e, List.length_cons, Nat.succ_mul]
    omega
theorem join_len (sep : List UInt8) (m : Nat) : ∀ ps : List (List UInt8), (∀ p ∈ ps, p.length ≤ m) → (Lib.join ps sep).length ≤ ps.length * (m + sep.length)
  | [], _ => by rw [Lib.join_nil]; exact Nat.zero_le _
  | [p], h => by
    rw [Lib.join_one]
    have := h p (by simp)
    simp
    omega
  | p :: q :: r, h => by
    have h1 := Lib.join_length p (q :: r) sep
    rw [h1]
    have h2 : Lib.lens (p :: q :: r) ≤ (p :: q :: r).length * m := lens_le m _ h
    have e1 : sep.length * (q :: r).length ≤ (p :: q :: r).length * sep.length := by rw [Nat.mul_comm]; exact Nat.mul_le_mul_right _ (by simp)
    rw [Nat.mul_add]
    omega
theorem join_snoc (sep b : List UInt8) : ∀ xs : List (List UInt8), xs ≠ [] → Lib.join (xs ++ [b]) sep = Lib.join xs sep ++ sep ++ b
  | [], h => absurd rfl h
  | [x], _ => by simp [Lib.join]
  | x :: y :: xs, _ => by
    have ih := join_snoc sep b (y :: xs) (by simp)
    simp only [List.cons_append, Lib.join] at ih ⊢
    simp [ih]
theorem txt_app (a b : List UInt8) : txt (a ++ b) = txt a ++ txt b := by
  apply ByteArray.ext
  simp [txt]
theorem txt_of (b : ByteArray) : txt b.data.toList = b := by
  apply ByteArray.ext
  simp [txt]
theorem joinB_snoc (xs : List ByteArray) (b sep : ByteArray) (h : xs ≠ []) : joinB (xs ++ [b]) sep = joinB xs sep ++ sep ++ b := by
  unfold joinB
  rw [List.map_append, List.map_cons, List.map_nil, join_snoc _ _ _ (by simpa using h), txt_app, txt_app, txt_of, txt_of]
theorem joinB_one (b sep : ByteArray) : joinB [b] sep = b := by
  unfold joinB
  simp [Lib.join, txt_of]
end Go.Proofs.YtdbmnnmcelaehaaDoor.Tx
