/- A store upon a calm device, for the laws of what is there: in pure terms. -/
import Derived.Test.YtkbpjegegjgbkaaGreatSxA
import Derived.Test.YtkbpjegegjgbkaaGreatSwG
namespace Go.Proofs.YtkbpjegegjgbkaaGreat.Sto
open Go.RowKit
open Oct (Has Chg)
open Rws
open Dv (DoV)
open Mem (IMap)
set_option linter.unusedVariables false

theorem calm_e5 {N a : Nat} {s s' : SV} {T : Int → Option TV} {k : DoV} {E : Int} (hI : Inv N a s) (h : Calm s.dev) (hi : Img N s T) (hd : DoesV N s k E s') : E ≠ 5 := by
  rcases hd with ⟨_, ⟨_, e, _⟩ | ⟨nd, hn, e, _⟩⟩ | ⟨_, ⟨_, e, _⟩ | ⟨nd, hn, h1, e, _⟩⟩ | ⟨_, e, _⟩ | ⟨_, ⟨_, e, _⟩ | ⟨hr, h1, e, _⟩⟩ | ⟨_, e, _⟩ | ⟨_, e, _⟩
  · rw [e]; decide
  · rw [e]; decide
  · rw [e]; decide
  · rw [e]; decide
  · rw [e]; decide
  · rw [e]; decide
  · rw [e, (commit_calm h (by have := hI.size; have := hI.two; omega) k.i k.s h1).2]; decide
  · rw [e, get_img hI hi.on hi.tells]
    cases s.nodes k.i with
    | none => exact (by decide : (22 : Int) ≠ 5)
    | some n => exact (by decide : (0 : Int) ≠ 5)
  · rw [e]
    rcases put_calm hI h k.ks k.s with q | ⟨q, _⟩ | ⟨j, q, _⟩
    · rw [q]; exact (by decide : (22 : Int) ≠ 5)
    · rw [q]; exact (by decide : (28 : Int) ≠ 5)
    · rw [q]; exact (by decide : (0 : Int) ≠ 5)
/-- Upon a calm device all goes on. -/
theorem img_calm {N a : Nat} {s s' : SV} {T : Int → Option TV} {k : DoV} {E : Int} (hI : Inv N a s) (ha : a ≤ 1000) (h : Calm s.dev) (hi : Img N s T) (hd : DoesV N s k E s') : ∃ T', Img N s' T' ∧ (opM k.op ≠ 9 → T' = T ∧ s'.root = s.root) := by
  have h5 := calm_e5 hI h hi hd
  rcases img_does hI ha hi hd with ⟨h9, _, _, h1, _⟩ | ⟨_, _, h1, h2, _⟩ | ⟨e, _⟩ | ⟨e, _⟩
  · exact ⟨_, h1, fun q => (q h9).elim⟩
  · exact ⟨T, h1, fun _ => ⟨rfl, h2⟩⟩
  · exact (h5 e).elim
  · exact (h5 e).elim
theorem in_put {d : Dv.St} (h : Dv.InD d) {i : Int} {b : ByteArray} (h0 : 0 ≤ i) (h1 : i < d.size) : Dv.InD (Dv.putD d i b) := fun z hz => by
  have hz : (if z = i then some b else d.dirty z).isSome = true := hz
  show 0 ≤ z ∧ z < (d.size : Int)
  split at hz
  · rename_i e
    rw [e]
    exact ⟨h0, h1⟩
  · exact h z hz
theorem in_does {N a : Nat} {s s' : SV} {k : DoV} {E : Int} (hI : Inv N a s) (h : Calm s.dev) (hn : Dv.InD s.dev) (hd : DoesV N s k E s') : Dv.InD s'.dev := by
  rcases hd with ⟨_, ⟨_, _, e⟩ | ⟨nd, _, _, e⟩⟩ | ⟨_, ⟨_, _, e⟩ | ⟨nd, _, h1, _, e⟩⟩ | ⟨_, _, f, _, _, e⟩ | ⟨_, ⟨_, _, e⟩ | ⟨hr, h1, _, e⟩⟩ | ⟨_, _, e⟩ | ⟨_, _, e⟩
  · rw [e]; exact hn
  · rw [e]; exact hn
  · rw [e]; exact hn
  · rw [e]; exact hn
  · rw [e]; exact hn
  · rw [e]; exact hn
  · rw [e, (commit_calm h (by have := hI.size; have := hI.two; omega) k.i k.s h1).1]
    exact fun z hz => by cases hz
  · rw [e]; exact hn
  · rw [e]
    rcases put_calm hI h k.ks k.s with q | ⟨q, _⟩ | ⟨j, q, _, hj, _⟩
    · rw [q]; exact hn
    · rw [q]; exact hn
    · rw [q]
      exact in_put hn (by omega) (by have := hI.size; omega)
theorem in_new {K : Nat} (note : ByteArray) : Dv.InD (fmtZ note (Dv.newSt K)) := fun z hz => by cases hz
/-- What the laws of what is there carry along. -/
structure CoI (w0 w : World) (K j p dp : Nat) (F : Fr) (s : SV) (T : Int → Option TV) : Prop where
  sto : StoIs w p F s
  inv : Inv K j s
  img : Img K s T
  calm : Calm s.dev
  ind : Dv.InD s.dev
  fresh : Fresh w0.heap.size p F s
  bel : Below w0.heap.size w0 w
  dp : F.d = dp
theorem CoI.below {w0 w w' : World} {K j p dp : Nat} {F : Fr} {s : SV} {T : Int → Option TV} (h : CoI w0 w K j p dp F s T) (hb : Below w.heap.size w w') : CoI w0 w' K j p dp F s T :=
  ⟨h.sto.below hb, h.inv, h.img, h.calm, h.ind, h.fresh, h.bel.trans (hb.mono h.bel.size), h.dp⟩
theorem CoI.more {w0 w : World} {K j p dp : Nat} {F : Fr} {s : SV} {T : Int → Option TV} (h : CoI w0 w K j p dp F s T) : CoI w0 w K (j + 1) p dp F s T :=
  ⟨h.sto, h.inv.more, h.img, h.calm, h.ind, h.fresh, h.bel, h.dp⟩
theorem CoI.does {w0 w w' : World} {K j p dp : Nat} {F F' : Fr} {s s' : SV} {T : Int → Option TV} {k : DoV} {E : Int} (h : CoI w0 w K j p dp F s T) (hj : j ≤ 1000)
    (hd : DoesV K s k E s') (hs : StoIs w' p F' s') (e1 : F'.t = F.t) (e2 : F'.k = F.k) (e3 : F'.d = F.d) (e4 : F'.dk = F.dk) (e5 : F'.dd = F.dd) (hg : ∀ z, (s'.nodes z).isSome = true → ((s.nodes z).isSome = true ∧ F'.g z = F.g z) ∨ w.heap.size ≤ F'.g z) (hc : Chg (DoS p F s) w w') :
    ∃ T', CoI w0 w' K (j + 1) p dp F' s' T' ∧ (opM k.op ≠ 9 → T' = T ∧ s'.root = s.root) := by
  obtain ⟨T', h1, h2⟩ := img_calm h.inv hj h.calm h.img hd
  exact ⟨T', ⟨hs, inv_does h.inv hd, h1, calm_does h.inv h.calm hd, in_does h.inv h.calm h.ind hd, h.fresh.step h.bel.size e1 e2 e3 e4 e5 hg, below_chg h.bel h.bel.size hc h.fresh.dos, e3.trans h.dp⟩, h2⟩
/-- Sums over what is there. -/
def sumK (f : Int → Option NodeV) (z : Int) (l : List Int) : Nat := (l.map fun i => (kidsN (f i)).count z).sum
theorem sumK_snoc (f : Int → Option NodeV) (z : Int) (l : List Int) (i : Int) : sumK f z (l ++ [i]) = sumK f z l + (kidsN (f i)).count z := by
  unfold sumK
  rw [List.map_append, List.sum_append]
  simp
theorem sum_perm {l k : List Nat} (h : l.Perm k) : l.sum = k.sum := by
  induction h with
  | nil => rfl
  | cons x _ ih => simp [ih]
  | swap x y l => simp; omega
  | trans _ _ h1 h2 => exact h1.trans h2
theorem sumK_range (f : Int → Option NodeV) (z : Int) : ∀ N, sumK f z (numsL N fun i => (f i).isSome) = tot N f z
  | 0 => rfl
  | N + 1 => by
    have h := sumK_range f z N
    unfold numsL tot at h ⊢
    rw [List.range_succ, List.map_append, List.filter_append, List.map_append, List.sum_append]
    have e : sumK f z (((List.range N).map fun i : Nat => (i : Int)).filter (fun i => (f i).isSome) ++ ([N].map fun i : Nat => (i : Int)).filter fun i => (f i).isSome) = sumK f z (((List.range N).map fun i : Nat => (i : Int)).filter fun i => (f i).isSome) + sumK f z (([N].map fun i : Nat => (i : Int)).filter fun i => (f i).isSome) := by
      unfold sumK
      rw [List.map_append, List.sum_append]
    rw [e, h]
    congr 1
    cases hf : f (N : Int) with
    | none => simp [sumK, hf, kidsN]
    | some n => simp [sumK, hf]
theorem sumK_live {N a : Nat} {s : SV} (hI : Inv N a s) {l : List Int} (h1 : l.Pairwise (· < ·)) (h2 : ∀ z, z ∈ l ↔ (s.nodes z).isSome = true) (z : Int) : sumK s.nodes z l = tot N s.nodes z := by
  rw [← sumK_range]
  refine sum_perm (List.Perm.map _ ((List.perm_ext_iff_of_nodup (h1.imp fun hab e => by omega) (numsL_nodup _ _)).2 fun y => ?_))
  rw [h2, numsL_mem]
  constructor
  · intro hy
    obtain ⟨i, e, _, hi⟩ := hI.acc.ids y hy
    exact ⟨⟨i, e, hi⟩, hy⟩
  · exact fun hy => hy.2
theorem len_live {N a : Nat} {s : SV} (hI : Inv N a s) {l : List Int} (h1 : l.Pairwise (· < ·)) (h2 : ∀ z, z ∈ l ↔ (s.nodes z).isSome = true) : l.length = cntN N (isQ s) := by
  rw [← numsL_len]
  refine ((List.perm_ext_iff_of_nodup (h1.imp fun hab e => by omega) (numsL_nodup _ _)).2 fun y => ?_).length_eq
  rw [h2, numsL_mem]
  constructor
  · intro hy
    obtain ⟨i, e, _, hi⟩ := hI.acc.ids y hy
    exact ⟨⟨i, e, hi⟩, hy⟩
  · exact fun hy => hy.2
/-- How many of a list are not there. -/
def missing (f : Int → Option NodeV) (l : List Int) : Nat := (l.filter fun z => !(f z).isSome).length
theorem missing_kept {N a : Nat} {s : SV} (hI : Inv N a s) {l : List Int} (h1 : l.Pairwise (· < ·)) (h2 : ∀ z, z ∈ l ↔ s.kept z = true) : missing s.nodes l = cntN N (keptQ s) := by
  unfold missing
  rw [← numsL_len]
  have hn : l.Nodup := h1.imp fun hab e => by omega
  refine ((List.perm_ext_iff_of_nodup (hn.sublist List.filter_sublist) (numsL_nodup _ _)).2 fun y => ?_).length_eq
  rw [List.mem_filter, h2, numsL_mem]
  unfold keptQ
  constructor
  · rintro ⟨hk, hy⟩
    obtain ⟨i, e, _, hi⟩ := hI.kept y hk
    exact ⟨⟨i, e, hi⟩, by rw [hk, hy]; rfl⟩
  · rintro ⟨_, hy⟩
    rw [Bool.and_eq_true] at hy
    exact hy
end Go.Proofs.YtkbpjegegjgbkaaGreat.Sto
