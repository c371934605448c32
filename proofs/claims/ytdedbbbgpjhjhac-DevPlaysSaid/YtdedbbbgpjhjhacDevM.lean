/- Rows that a call made, as rows that are read; what was written lies inside. -/
import Derived.Test.YtdedbbbgpjhjhacDevL
import Derived.Test.YtdedbbbgpjhjhacDevWFlu
namespace Go.Proofs.Ytdedbbbgpjhjhac.Dv
open Go.RowKit
open Mem
open Rws

/-- A row of texts that lies from block B on. -/
structure TxtFrom (w : World) (B : Nat) (A : Option Addr) (l : List ByteArray) : Prop where
  row : TxtRow w A l.length l
  from_ : ∀ a, A = some a → B ≤ a.block
structure NumFrom (w : World) (B : Nat) (A : Option Addr) (l : List Int) : Prop where
  row : NumRow w A l.length l
  from_ : ∀ a, A = some a → B ≤ a.block
theorem chg_cell {S : Nat → Prop} {w w' : World} (h : Chg S w w') {b i : Nat} (hb : b < w.heap.size) (hs : ¬ S b) : w'.cell? ⟨b, i, none⟩ = w.cell? ⟨b, i, none⟩ := by
  simp only [World.cell?]
  rw [h.block b hb hs]
theorem TxtFrom.over {S : Nat → Prop} {w w' : World} {B : Nat} {A : Option Addr} {l : List ByteArray} (h : TxtFrom w B A l) (hc : Chg S w w') (hs : ∀ k, B ≤ k → ¬ S k) : TxtFrom w' B A l :=
  ⟨⟨h.row.1, fun hn => by
    obtain ⟨b, off, e, hl, hx⟩ := h.row.2 hn
    exact ⟨b, off, e, Nat.lt_of_lt_of_le hl hc.size, fun i hi => (chg_cell hc hl (hs b (h.from_ _ e))).trans (hx i hi)⟩⟩, h.from_⟩
theorem NumFrom.over {S : Nat → Prop} {w w' : World} {B : Nat} {A : Option Addr} {l : List Int} (h : NumFrom w B A l) (hc : Chg S w w') (hs : ∀ k, B ≤ k → ¬ S k) : NumFrom w' B A l :=
  ⟨⟨h.row.1, fun hn => by
    obtain ⟨b, off, e, hl, hx⟩ := h.row.2 hn
    exact ⟨b, off, e, Nat.lt_of_lt_of_le hl hc.size, fun i hi => (chg_cell hc hl (hs b (h.from_ _ e))).trans (hx i hi)⟩⟩, h.from_⟩
theorem TxtFrom.below {w w' : World} {B : Nat} {A : Option Addr} {l : List ByteArray} (h : TxtFrom w B A l) (hb : Below w.heap.size w w') : TxtFrom w' B A l := ⟨h.row.below hb, h.from_⟩
theorem NumFrom.below {w w' : World} {B : Nat} {A : Option Addr} {l : List Int} (h : NumFrom w B A l) (hb : Below w.heap.size w w') : NumFrom w' B A l := ⟨h.row.below hb, h.from_⟩
theorem strs_from {w : World} {B : Nat} {v : Value} {l : List ByteArray} (h : Strs w B v l) : ∃ A c, v = .slice A l.length c ∧ TxtFrom w B A l := by
  rcases h.2 with ⟨rfl, hz⟩ | ⟨g, c, cur, rfl, hg, hh, _⟩
  · exact ⟨none, 0, by rw [hz], ⟨rfl, fun hn => by omega⟩, fun a e => by cases e⟩
  · refine ⟨some ⟨g, 0, none⟩, c, rfl, ⟨rfl, fun _ => ⟨g, 0, rfl, (Array.getElem?_eq_some_iff.1 hh).1, fun i hi => ?_⟩⟩, fun a e => by injection e with e; rw [← e]; exact hg⟩
    rw [Nat.zero_add]
    exact strs_cell h (List.getElem?_eq_getElem hi)
theorem ints_cell {w : World} {B g c : Nat} {l : List Int} {n : Nat} (h : w.ownsRow B 3 1 (.slice (some ⟨g, 0, none⟩) n c) l.length (l.map (Value.int .i64))) {i : Nat} {s : Int} (hi : l[i]? = some s) : w.cell? ⟨g, i, none⟩ = some (.int .i64 s) := by
  have := World.ownsRow.cells h (g := g) rfl i (.int .i64 s) (by rw [List.getElem?_map, hi]; rfl)
  have ha : (⟨g, 0, none⟩ : Addr).add i = ⟨g, i, none⟩ := by
    unfold Addr.add
    split
    · next h => rw [h]
    · simp
  rw [ha] at this
  exact this
theorem ints_from {w : World} {B : Nat} {v : Value} {l : List Int} (h : Ints w B v l) : ∃ A c, v = .slice A l.length c ∧ NumFrom w B A l ∧ (0 < l.length → ∃ g t cur, A = some ⟨g, 0, none⟩ ∧ B ≤ g ∧ Has w g t cur) := by
  rcases h.2 with ⟨rfl, hz⟩ | ⟨g, c, cur, rfl, hg, hh, _⟩
  · exact ⟨none, 0, by rw [hz], ⟨⟨rfl, fun hn => by omega⟩, fun a e => by cases e⟩, fun hn => by omega⟩
  · refine ⟨some ⟨g, 0, none⟩, c, rfl, ⟨⟨rfl, fun _ => ⟨g, 0, rfl, (Array.getElem?_eq_some_iff.1 hh).1, fun i hi => ?_⟩⟩, fun a e => by injection e with e; rw [← e]; exact hg⟩, fun _ => ⟨g, _, cur, rfl, hg, hh⟩⟩
    rw [Nat.zero_add]
    exact ints_cell h (List.getElem?_eq_getElem hi)
theorem dirty_len {d : St} {l : List Int} (h : DirtyL d l) (hi : InD d) (hs : d.size ≤ 4096) : l.length ≤ 4096 :=
  Nat.le_trans (nodup_len d.size l (h.1.imp fun hab e => by omega) fun z hz => hi z ((h.2 z).1 hz)) hs
theorem eqs_same (A B : Option Addr) (n m c d : Nat) (l : List ByteArray) (hn : n ≤ 9223372036854775807) (w : World) (h : TxtRow w A n l) (h2 : TxtRow w B m l) :
    Calls Try.prog 34 #[.slice A n c, .slice B m d] w fun e w' => e = .returned (.bool true) ∧ Below w.heap.size w w' :=
  (eqs_any A B n m c d l l hn w h h2).mono fun e w' k => ⟨by rw [k.1, decide_eq_true rfl], k.2⟩
theorem eqi_same (A B : Option Addr) (n m c d : Nat) (l : List Int) (hn : n ≤ 9223372036854775807) (w : World) (h : NumRow w A n l) (h2 : NumRow w B m l) :
    Calls Try.prog 17 #[.slice A n c, .slice B m d] w fun e w' => e = .returned (.bool true) ∧ Below w.heap.size w w' :=
  (eqi_any A B n m c d l l hn w h h2).mono fun e w' k => ⟨by rw [k.1, decide_eq_true rfl], k.2⟩
theorem in_new (K : Nat) : InD (newSt K) := fun z h => by cases h
theorem act_dirty (d : St) : (act d).dirty = d.dirty := by
  unfold act
  split
  · rfl
  · split <;> rfl
theorem in_act {d : St} (h : InD d) : InD (act d) := fun z hz => by
  rw [act_dirty] at hz
  rw [act_size]
  exact h z hz
theorem in_wr {d : St} (h : InD d) (i : Int) (s : ByteArray) : InD (wrD d i s) := by
  unfold wrD
  split
  · next hh =>
    unfold writeD
    split
    · exact in_act h
    · intro z hz
      show 0 ≤ z ∧ z < ((act d).size : Int)
      rw [act_size]
      by_cases hzi : z = i
      · subst hzi
        exact (inside_iff d z).1 hh.2.1
      · have e : (putD (act d) i s).dirty z = d.dirty z := by
          show (if z = i then some s else (act d).dirty z) = _
          rw [if_neg hzi, act_dirty]
        rw [e] at hz
        exact h z hz
  · exact h
theorem in_do {d : St} (h : InD d) (k : DoV) : InD (doD d k) := by
  unfold doD
  split
  · exact in_wr h k.i k.s
  · split
    · unfold flD flushD
      split
      · split
        · exact in_act h
        · exact fun z hz => by cases hz
      · exact h
    · split
      · exact h
      · split
        · unfold fuD fuseSt
          split
          · exact h
          · exact h
        · split
          · exact fun z hz => by cases hz
          · unfold startD
            split
            · exact h
            · exact fun z hz => by cases hz
theorem in_st (K : Nat) (xs : List DoC) : InD (stL K xs) := by
  have h : ∀ (l : List DoV) (d : St), InD d → InD (l.foldl doD d) := by
    intro l
    induction l with
    | nil => exact fun d h => h
    | cons a l ih => exact fun d h => ih _ (in_do h a)
  exact h _ _ (in_new K)
end Go.Proofs.Ytdedbbbgpjhjhac.Dv
