/- A state opened, and what hangs on it: nested rows. -/
import Derived.Test.YtblogecapegbmaaGreatFcA
import Derived.Test.YtblogecapegbmaaGreatRows
import Derived.ProofKit
import Derived.OpenShut
import Derived.ChangeShapes
import Derived.WideShapes
import Derived.Deep.Slices
namespace Go.Proofs.YtblogecapegbmaaGreat.Fc
open Go.ChangeShapes Go.WideShapes Go.ChangeAt Go.RowKit Go.Proofs.YtblogecapegbmaaGreat.Mem Go.Proofs.YtblogecapegbmaaGreat.Vc
set_option linter.unusedVariables false set_option linter.unusedSimpArgs false
set_option maxRecDepth 100000

def fitI (x : Int) : Prop := -9223372036854775808 ≤ x ∧ x ≤ 9223372036854775807
theorem cells_i : Tryz.prog.cellsOf 3 = 1 := by kernel_rfl
theorem cells_s : Tryz.prog.cellsOf 9 = 1 := by kernel_rfl
theorem cells_b : Tryz.prog.cellsOf 4 = 1 := by kernel_rfl
theorem cells_u : Tryz.prog.cellsOf 38 = 1 := by kernel_rfl
theorem cells_st : Tryz.prog.cellsOf 37 = 2 := by kernel_rfl
theorem cells_v : Tryz.prog.cellsOf 23 = 8 := by kernel_rfl
theorem cells_at : Tryz.prog.cellsOf 40 = 4 := by kernel_rfl
theorem cells_sz : Tryz.prog.cellsOf 42 = 3 := by kernel_rfl
theorem cells_ps : Tryz.prog.cellsOf 43 = 1 := by kernel_rfl
theorem cells_xs : Tryz.prog.cellsOf 44 = 1 := by kernel_rfl
theorem cells_ns : Tryz.prog.cellsOf 24 = 1 := by kernel_rfl
theorem cells_ls : Tryz.prog.cellsOf 25 = 1 := by kernel_rfl
theorem cells_state : Tryz.prog.cellsOf 27 = 10 := by kernel_rfl
theorem cells_piece : Tryz.prog.cellsOf 74 = 4 := by kernel_rfl
theorem cells_xattr : Tryz.prog.cellsOf 77 = 5 := by kernel_rfl
theorem cells_inode : Tryz.prog.cellsOf 46 = 13 := by kernel_rfl
theorem cells_link : Tryz.prog.cellsOf 51 = 25 := by kernel_rfl

theorem wf_fit {n : Int} (h : (Lit.int .i64 n).wf = true) : fitI n := by
  unfold fitI
  simpa [Lit.wf, IntKind.min, IntKind.max, IntKind.signed, IntKind.bits] using h
theorem u64_nat (n : Int) (h : (Lit.int .u64 n).wf = true) : ∃ k : Nat, n = k ∧ k < 18446744073709551616 := by
  have : 0 ≤ n ∧ n ≤ 18446744073709551615 := by simpa [Lit.wf, IntKind.min, IntKind.max, IntKind.signed, IntKind.bits] using h
  exact ⟨n.toNat, by omega, by omega⟩
def fitS (s : Int × Int) : Prop := fitI s.1 ∧ fitI s.2
def NumN (n : NodeP) : Prop := fitS n.id ∧ fitI n.kind ∧ (fitS n.aat ∧ fitI n.mode) ∧ (fitS n.sat ∧ fitI n.n) ∧ (∀ p ∈ n.ps, fitI p.i ∧ fitS p.at_) ∧ ∀ p ∈ n.xs, fitS p.at_
def NumL (k : LinkP) : Prop := fitS k.id ∧ fitS k.node ∧ fitS k.at_ ∧ fitS k.par ∧ (∀ i, i < 8 → fitI (k.al i)) ∧ ∀ i, i < 8 → fitI (k.de i)
def NumState (s : StateC) : Prop := (∀ i, i < 8 → fitI (s.seen i)) ∧ (∀ x ∈ s.nodes, NumN x.p) ∧ ∀ k ∈ s.links, NumL k
theorem add_plain (b o i : Nat) : (⟨b, o, none⟩ : Addr).add i = ⟨b, o + i, none⟩ := by
  unfold Addr.add
  split
  · next h => rw [h]; rfl
  · simp
theorem bulk_one {H : Type} (d : DataW H) : 1 ≤ Rows.uptoBulk d := by
  cases d with
  | lit l => cases l <;> simp [Rows.uptoBulk]
  | _ => simp [Rows.uptoBulk]
theorem bulk_part {H : Type} {d : DataW H} {l : List (DataW H)} (h : d ∈ l) : Rows.uptoBulk d ≤ Rows.uptoBulkAll l := by
  induction l with
  | nil => cases h
  | cons y r ih =>
    simp only [Rows.uptoBulkAll]
    rcases List.mem_cons.1 h with e | e
    · subst e; omega
    · have := ih e; omega
theorem bulk_len {H : Type} (l : List (DataW H)) : l.length ≤ Rows.uptoBulkAll l := by
  induction l with
  | nil => simp [Rows.uptoBulkAll]
  | cons y r ih => have := bulk_one y; simp only [Rows.uptoBulkAll, List.length_cons]; omega
/-- Rows that are nil are empty; what a reading of bulk K bounds. -/
def NilN (x : NodeC) : Prop := (x.A1 = none → x.n1 = 0 ∧ x.c1 = 0) ∧ (x.A2 = none → x.n2 = 0 ∧ x.c2 = 0)
def NilS (s : StateC) : Prop := (s.A1 = none → s.n1 = 0 ∧ s.c1 = 0) ∧ (s.A2 = none → s.n2 = 0 ∧ s.c2 = 0) ∧ ∀ x ∈ s.nodes, NilN x
def BndN (K : Nat) (n : NodeP) : Prop := n.ps.length ≤ K ∧ n.xs.length ≤ K ∧ ∀ p ∈ n.xs, p.name.size ≤ K
def BndS (K : Nat) (s : StateC) : Prop := (s.n1 ≤ K ∧ s.n2 ≤ K) ∧ (∀ x ∈ s.nodes, BndN K x.p) ∧ ∀ k ∈ s.links, k.name.size ≤ K
theorem open_row {α : Type} {H : Type} {enc : TypeId × Value → H} {w : World} {base : Nat} {spare : Nat → Bool} {held : Bool} {fuel : Nat} {T E : TypeId} {k : Nat} {f : α → Array Value} {Fit : α → Prop} {K : Nat}
    (hT : Tryz.prog.underlying T = some (.slice E)) (hk : Tryz.prog.cellsOf E = k) (hk0 : 0 < k) (f0 : ∀ y, (f y).size = k)
    (dec : ∀ {n : Nat} {cs : List Value} {x : DataW H × List MemPlace}, DataW.trod enc Tryz.prog w base spare held n E cs = some x → (∀ q ∈ x.2, q.block < w.heap.size) → Rows.uptoBulk x.1 ≤ K → ∃ y : α, cs = (f y).toList ∧ Fit y)
    {cs : List Value} {x : DataW H × List MemPlace} (h : DataW.trod enc Tryz.prog w base spare held fuel T cs = some x) (hlt : ∀ q ∈ x.2, q.block < w.heap.size) (hK : Rows.uptoBulk x.1 ≤ K) :
    ∃ A n c xs, cs = [.slice A n c] ∧ SRow w k f A n xs ∧ (∀ y ∈ xs, Fit y) ∧ n ≤ c ∧ c ≤ maxLen ∧ n ≤ K ∧ (A = none → n = 0 ∧ c = 0) := by
  rcases Deep.open_slice hT h with ⟨hcs, _⟩ | ⟨a, len, cap, m, n, D, Pl, hcs, _, hl, hm, hmm, hx, hcell⟩
  · exact ⟨none, 0, 0, [], hcs, SRow.nil w k f, fun y hy => (by cases hy), Nat.le_refl _, Nat.zero_le _, Nat.zero_le _, fun _ => ⟨rfl, rfl⟩⟩
  · subst hx
    rw [hk] at hcell hlt
    have hle : len ≤ m := by rw [hmm]; split <;> omega
    have hpl : ∀ i, i < m → ∀ q ∈ Pl i, q.block < w.heap.size := fun i hi q hq => hlt q (List.mem_append_right _ (List.mem_flatMap.2 ⟨i, List.mem_range.2 hi, hq⟩))
    have hbk : ∀ i, i < len → Rows.uptoBulk (D i) ≤ K := fun i hi => by
      have h1 := bulk_part (List.mem_map.2 ⟨i, List.mem_range.2 hi, rfl⟩ : D i ∈ (List.range len).map D)
      simp only [Rows.uptoBulk] at hK
      omega
    have hlk : len ≤ K := by
      have h1 := bulk_len ((List.range len).map D)
      simp only [Rows.uptoBulk] at hK
      rw [List.length_map, List.length_range] at h1
      omega
    have each : ∀ i, i < len → ∃ y : α, w.cells? base (a.add (i * k)) k = some (f y).toList ∧ Fit y := by
      intro i hi
      obtain ⟨cs', hc, ht⟩ := hcell i (by omega)
      obtain ⟨y, rfl, hfit⟩ := dec ht (hpl i (by omega)) (hbk i hi)
      exact ⟨y, hc, hfit⟩
    by_cases h0 : 0 < len
    · obtain ⟨y0, _⟩ := each 0 (by omega)
      have hex : ∃ g : Nat → α, ∀ i, i < len → w.cells? base (a.add (i * k)) k = some (f (g i)).toList ∧ Fit (g i) := by
        refine ⟨fun i => if h : i < len then (each i h).choose else y0, fun i hi => ?_⟩
        simp only [dif_pos hi]
        exact (each i hi).choose_spec
      obtain ⟨g, hg⟩ := hex
      have cell : ∀ i, i < len → ∀ j, j < k → w.cell? ((a.add (i * k)).add j) = (f (g i))[j]? := by
        intro i hi j hj
        have := (World.cells?_some (hg i hi).1).2.2 j hj
        rw [this]
        simp
      obtain ⟨b, off, spot⟩ := a
      have hspot : spot = none := by
        have c0 := cell 0 (by omega) 0 hk0
        rw [Array.getElem?_eq_getElem (by rw [f0]; exact hk0)] at c0
        have := World.cell?_spot c0
        simpa [Addr.add] using this
      subst hspot
      have hbW : b < w.heap.size := hlt (.cell b off) (List.mem_append_left _ (MemPlace.mem_row.2 ⟨0, Nat.mul_pos (by omega) hk0, by simp⟩))
      refine ⟨some ⟨b, off, none⟩, len, cap, (List.range len).map g, hcs, ⟨by simp, fun _ => ⟨b, off, rfl, hbW, fun i hi j v hv => ?_⟩⟩, fun y hy => ?_, hl, hm, hlk, fun q => by cases q⟩
      · have hi' : i < len := by simpa using hi
        simp only [List.getElem_map, List.getElem_range] at hv
        have hj : j < k := by
          have := (Array.getElem?_eq_some_iff.1 hv).1
          rw [f0] at this
          exact this
        have c1 := cell i (by omega) j hj
        rw [add_plain, add_plain] at c1
        rw [c1, hv]
      · obtain ⟨i, hi, rfl⟩ := List.mem_map.1 hy
        exact (hg i (by have := List.mem_range.1 hi; omega)).2
    · have hz : len = 0 := by omega
      subst hz
      exact ⟨some a, 0, cap, [], hcs, ⟨rfl, fun h => absurd h (by omega)⟩, fun y hy => (by cases hy), hl, hm, Nat.zero_le _, fun q => by cases q⟩

set_option maxRecDepth 100000 in
theorem st_cells {H : Type} {enc : TypeId × Value → H} {w : World} {base : Nat} {spare : Nat → Bool} {held : Bool} {fuel : Nat} {cs : List Value} {x : DataW H × List MemPlace} (h : DataW.trod enc Tryz.prog w base spare held fuel 37 cs = some x) (hlt : ∀ q ∈ x.2, q.block < w.heap.size) {K : Nat} (hK : Rows.uptoBulk x.1 ≤ K) : ∃ k : Int × Int, cs = [.int .i64 k.1, .int .i64 k.2] ∧ fitS k := by
  obtain ⟨xs, n, _, rfl, hlen, hxs, hf⟩ := DataW.trod_struct Tryz.underlying37 h
  rw [cells_st] at hlen
  have hx : xs.length = 2 := hxs
  match cs, hlen with
  | [v0, v1], _ =>
    match xs, hx with
    | [x0, x1], _ =>
      have t0 : DataW.trod enc Tryz.prog w base spare held n 3 (([v0, v1].drop 0).take (Tryz.prog.cellsOf 3)) = some x0 := hf 0 _ rfl
      rw [cells_i] at t0
      have t1 : DataW.trod enc Tryz.prog w base spare held n 3 (([v0, v1].drop 1).take (Tryz.prog.cellsOf 3)) = some x1 := hf 1 _ rfl
      rw [cells_i] at t1
      simp only [List.map_cons, List.map_nil, Rows.uptoBulk, Rows.uptoBulkAll] at hK
      have b0 : Rows.uptoBulk x0.1 ≤ K := by omega
      have b1 : Rows.uptoBulk x1.1 ≤ K := by omega
      obtain ⟨z0, e0, _, w0⟩ := DataW.trod_int Tryz.underlying3 t0
      simp at e0
      subst e0
      obtain ⟨z1, e1, _, w1⟩ := DataW.trod_int Tryz.underlying3 t1
      simp at e1
      subst e1
      exact ⟨(z0, z1), rfl, wf_fit w0, wf_fit w1⟩
theorem vec_cells {H : Type} {enc : TypeId × Value → H} {w : World} {base : Nat} {spare : Nat → Bool} {held : Bool} {fuel : Nat} {cs : List Value} {x : DataW H × List MemPlace} (h : DataW.trod enc Tryz.prog w base spare held fuel 23 cs = some x) : ∃ v : Nat → Int, cs = (vecC v).toList ∧ ∀ i, i < 8 → fitI (v i) := by
  obtain ⟨ys, m, _, _, hlen, hl, hx⟩ := DataW.trod_array Tryz.underlying23 h
  rw [cells_v] at hlen
  have hel : ∀ i, i < 8 → ∃ z : Int, cs[i]? = some (.int .i64 z) ∧ fitI z := by
    intro i hi
    have h1 := hx i hi
    rw [cells_i] at h1
    have hi' : i < cs.length := by omega
    have h2 : (cs.drop (i * 1)).take 1 = [cs[i]] := by
      rw [Nat.mul_one, List.drop_eq_getElem_cons hi']
      rfl
    rw [h2, List.getElem?_eq_getElem (by omega)] at h1
    obtain ⟨z, e0, _, wz⟩ := DataW.trod_int Tryz.underlying3 h1
    refine ⟨z, ?_, wf_fit wz⟩
    rw [List.getElem?_eq_getElem hi']
    have e1 : cs[i] = .int .i64 z := by simpa using e0
    rw [e1]
  obtain ⟨z0, g0, f0⟩ := hel 0 (by omega)
  obtain ⟨z1, g1, f1⟩ := hel 1 (by omega)
  obtain ⟨z2, g2, f2⟩ := hel 2 (by omega)
  obtain ⟨z3, g3, f3⟩ := hel 3 (by omega)
  obtain ⟨z4, g4, f4⟩ := hel 4 (by omega)
  obtain ⟨z5, g5, f5⟩ := hel 5 (by omega)
  obtain ⟨z6, g6, f6⟩ := hel 6 (by omega)
  obtain ⟨z7, g7, f7⟩ := hel 7 (by omega)
  refine ⟨fun i => [z0, z1, z2, z3, z4, z5, z6, z7].getD i 0, ?_, fun i hi => match i, hi with | 0, _ => f0 | 1, _ => f1 | 2, _ => f2 | 3, _ => f3 | 4, _ => f4 | 5, _ => f5 | 6, _ => f6 | 7, _ => f7⟩
  apply List.ext_getElem?
  intro i
  match i with
  | 0 => exact g0
  | 1 => exact g1
  | 2 => exact g2
  | 3 => exact g3
  | 4 => exact g4
  | 5 => exact g5
  | 6 => exact g6
  | 7 => exact g7
  | i + 8 => rw [List.getElem?_eq_none (by omega), List.getElem?_eq_none (by simp [vecC])]
set_option maxRecDepth 100000 in
theorem attr_cells {H : Type} {enc : TypeId × Value → H} {w : World} {base : Nat} {spare : Nat → Bool} {held : Bool} {fuel : Nat} {cs : List Value} {x : DataW H × List MemPlace} (h : DataW.trod enc Tryz.prog w base spare held fuel 40 cs = some x) (hlt : ∀ q ∈ x.2, q.block < w.heap.size) {K : Nat} (hK : Rows.uptoBulk x.1 ≤ K) : ∃ (k : Int × Int) (m : Int) (t : Nat), cs = [.int .i64 k.1, .int .i64 k.2, .int .i64 m, .int .u64 t] ∧ fitS k ∧ fitI m ∧ t < 18446744073709551616 := by
  obtain ⟨xs, n, _, rfl, hlen, hxs, hf⟩ := DataW.trod_struct Tryz.underlying40 h
  rw [cells_at] at hlen
  have hx : xs.length = 3 := hxs
  match cs, hlen with
  | [v0, v1, v2, v3], _ =>
    match xs, hx with
    | [x0, x1, x2], _ =>
      have t0 : DataW.trod enc Tryz.prog w base spare held n 37 (([v0, v1, v2, v3].drop 0).take (Tryz.prog.cellsOf 37)) = some x0 := hf 0 _ rfl
      rw [cells_st] at t0
      have t1 : DataW.trod enc Tryz.prog w base spare held n 3 (([v0, v1, v2, v3].drop 2).take (Tryz.prog.cellsOf 3)) = some x1 := hf 1 _ rfl
      rw [cells_i] at t1
      have t2 : DataW.trod enc Tryz.prog w base spare held n 38 (([v0, v1, v2, v3].drop 3).take (Tryz.prog.cellsOf 38)) = some x2 := hf 2 _ rfl
      rw [cells_u] at t2
      simp only [List.map_cons, List.map_nil, Rows.uptoBulk, Rows.uptoBulkAll] at hK
      have b0 : Rows.uptoBulk x0.1 ≤ K := by omega
      have b1 : Rows.uptoBulk x1.1 ≤ K := by omega
      have b2 : Rows.uptoBulk x2.1 ≤ K := by omega
      have l0 : ∀ q ∈ x0.2, q.block < w.heap.size := fun q hq => hlt q (by simp [hq])
      obtain ⟨z0, e0, w0⟩ := st_cells t0 l0 b0
      simp at e0
      obtain ⟨rfl, rfl⟩ := e0
      obtain ⟨z1, e1, _, w1⟩ := DataW.trod_int Tryz.underlying3 t1
      simp at e1
      subst e1
      obtain ⟨z2, e2, _, w2⟩ := DataW.trod_int Tryz.underlying38 t2
      simp at e2
      subst e2
      obtain ⟨u, rfl, hu⟩ := u64_nat _ w2
      exact ⟨z0, z1, u, rfl, w0, wf_fit w1, hu⟩
set_option maxRecDepth 100000 in
theorem size_cells {H : Type} {enc : TypeId × Value → H} {w : World} {base : Nat} {spare : Nat → Bool} {held : Bool} {fuel : Nat} {cs : List Value} {x : DataW H × List MemPlace} (h : DataW.trod enc Tryz.prog w base spare held fuel 42 cs = some x) (hlt : ∀ q ∈ x.2, q.block < w.heap.size) {K : Nat} (hK : Rows.uptoBulk x.1 ≤ K) : ∃ (k : Int × Int) (m : Int), cs = [.int .i64 k.1, .int .i64 k.2, .int .i64 m] ∧ fitS k ∧ fitI m := by
  obtain ⟨xs, n, _, rfl, hlen, hxs, hf⟩ := DataW.trod_struct Tryz.underlying42 h
  rw [cells_sz] at hlen
  have hx : xs.length = 2 := hxs
  match cs, hlen with
  | [v0, v1, v2], _ =>
    match xs, hx with
    | [x0, x1], _ =>
      have t0 : DataW.trod enc Tryz.prog w base spare held n 37 (([v0, v1, v2].drop 0).take (Tryz.prog.cellsOf 37)) = some x0 := hf 0 _ rfl
      rw [cells_st] at t0
      have t1 : DataW.trod enc Tryz.prog w base spare held n 3 (([v0, v1, v2].drop 2).take (Tryz.prog.cellsOf 3)) = some x1 := hf 1 _ rfl
      rw [cells_i] at t1
      simp only [List.map_cons, List.map_nil, Rows.uptoBulk, Rows.uptoBulkAll] at hK
      have b0 : Rows.uptoBulk x0.1 ≤ K := by omega
      have b1 : Rows.uptoBulk x1.1 ≤ K := by omega
      have l0 : ∀ q ∈ x0.2, q.block < w.heap.size := fun q hq => hlt q (by simp [hq])
      obtain ⟨z0, e0, w0⟩ := st_cells t0 l0 b0
      simp at e0
      obtain ⟨rfl, rfl⟩ := e0
      obtain ⟨z1, e1, _, w1⟩ := DataW.trod_int Tryz.underlying3 t1
      simp at e1
      subst e1
      exact ⟨z0, z1, rfl, w0, wf_fit w1⟩
set_option maxRecDepth 100000 in
theorem piece_cells_o {H : Type} {enc : TypeId × Value → H} {w : World} {base : Nat} {spare : Nat → Bool} {held : Bool} {fuel : Nat} {cs : List Value} {x : DataW H × List MemPlace} (h : DataW.trod enc Tryz.prog w base spare held fuel 74 cs = some x) (hlt : ∀ q ∈ x.2, q.block < w.heap.size) {K : Nat} (hK : Rows.uptoBulk x.1 ≤ K) : ∃ y : PieceP, cs = (pieceC y).toList ∧ (y.data.size ≤ maxLen ∧ fitI y.i ∧ fitS y.at_) := by
  obtain ⟨xs, n, _, rfl, hlen, hxs, hf⟩ := DataW.trod_struct Tryz.underlying74 h
  rw [cells_piece] at hlen
  have hx : xs.length = 3 := hxs
  match cs, hlen with
  | [v0, v1, v2, v3], _ =>
    match xs, hx with
    | [x0, x1, x2], _ =>
      have t0 : DataW.trod enc Tryz.prog w base spare held n 3 (([v0, v1, v2, v3].drop 0).take (Tryz.prog.cellsOf 3)) = some x0 := hf 0 _ rfl
      rw [cells_i] at t0
      have t1 : DataW.trod enc Tryz.prog w base spare held n 37 (([v0, v1, v2, v3].drop 1).take (Tryz.prog.cellsOf 37)) = some x1 := hf 1 _ rfl
      rw [cells_st] at t1
      have t2 : DataW.trod enc Tryz.prog w base spare held n 9 (([v0, v1, v2, v3].drop 3).take (Tryz.prog.cellsOf 9)) = some x2 := hf 2 _ rfl
      rw [cells_s] at t2
      simp only [List.map_cons, List.map_nil, Rows.uptoBulk, Rows.uptoBulkAll] at hK
      have b0 : Rows.uptoBulk x0.1 ≤ K := by omega
      have b1 : Rows.uptoBulk x1.1 ≤ K := by omega
      have b2 : Rows.uptoBulk x2.1 ≤ K := by omega
      have l1 : ∀ q ∈ x1.2, q.block < w.heap.size := fun q hq => hlt q (by simp [hq])
      obtain ⟨z0, e0, _, w0⟩ := DataW.trod_int Tryz.underlying3 t0
      simp at e0
      subst e0
      obtain ⟨z1, e1, w1⟩ := st_cells t1 l1 b1
      simp at e1
      obtain ⟨rfl, rfl⟩ := e1
      obtain ⟨z2, e2, d2, w2⟩ := DataW.trod_string Tryz.underlying9 t2
      simp at e2
      subst e2
      have g2 : z2.size ≤ K := by rw [d2] at b2; simp only [Rows.uptoBulk] at b2; have : z2.data.toList.length = z2.size := by rw [Array.length_toList]; rfl
                                  omega
      exact ⟨⟨z0, z1, z2⟩, rfl, w2, wf_fit w0, w1⟩
set_option maxRecDepth 100000 in
theorem xattr_cells_o {H : Type} {enc : TypeId × Value → H} {w : World} {base : Nat} {spare : Nat → Bool} {held : Bool} {fuel : Nat} {cs : List Value} {x : DataW H × List MemPlace} (h : DataW.trod enc Tryz.prog w base spare held fuel 77 cs = some x) (hlt : ∀ q ∈ x.2, q.block < w.heap.size) {K : Nat} (hK : Rows.uptoBulk x.1 ≤ K) : ∃ y : XattrP, cs = (xattrC y).toList ∧ ((y.name.size ≤ maxLen ∧ y.val.size ≤ maxLen) ∧ fitS y.at_ ∧ y.name.size ≤ K) := by
  obtain ⟨xs, n, _, rfl, hlen, hxs, hf⟩ := DataW.trod_struct Tryz.underlying77 h
  rw [cells_xattr] at hlen
  have hx : xs.length = 4 := hxs
  match cs, hlen with
  | [v0, v1, v2, v3, v4], _ =>
    match xs, hx with
    | [x0, x1, x2, x3], _ =>
      have t0 : DataW.trod enc Tryz.prog w base spare held n 9 (([v0, v1, v2, v3, v4].drop 0).take (Tryz.prog.cellsOf 9)) = some x0 := hf 0 _ rfl
      rw [cells_s] at t0
      have t1 : DataW.trod enc Tryz.prog w base spare held n 37 (([v0, v1, v2, v3, v4].drop 1).take (Tryz.prog.cellsOf 37)) = some x1 := hf 1 _ rfl
      rw [cells_st] at t1
      have t2 : DataW.trod enc Tryz.prog w base spare held n 9 (([v0, v1, v2, v3, v4].drop 3).take (Tryz.prog.cellsOf 9)) = some x2 := hf 2 _ rfl
      rw [cells_s] at t2
      have t3 : DataW.trod enc Tryz.prog w base spare held n 4 (([v0, v1, v2, v3, v4].drop 4).take (Tryz.prog.cellsOf 4)) = some x3 := hf 3 _ rfl
      rw [cells_b] at t3
      simp only [List.map_cons, List.map_nil, Rows.uptoBulk, Rows.uptoBulkAll] at hK
      have b0 : Rows.uptoBulk x0.1 ≤ K := by omega
      have b1 : Rows.uptoBulk x1.1 ≤ K := by omega
      have b2 : Rows.uptoBulk x2.1 ≤ K := by omega
      have b3 : Rows.uptoBulk x3.1 ≤ K := by omega
      have l1 : ∀ q ∈ x1.2, q.block < w.heap.size := fun q hq => hlt q (by simp [hq])
      obtain ⟨z0, e0, d0, w0⟩ := DataW.trod_string Tryz.underlying9 t0
      simp at e0
      subst e0
      have g0 : z0.size ≤ K := by rw [d0] at b0; simp only [Rows.uptoBulk] at b0; have : z0.data.toList.length = z0.size := by rw [Array.length_toList]; rfl
                                  omega
      obtain ⟨z1, e1, w1⟩ := st_cells t1 l1 b1
      simp at e1
      obtain ⟨rfl, rfl⟩ := e1
      obtain ⟨z2, e2, d2, w2⟩ := DataW.trod_string Tryz.underlying9 t2
      simp at e2
      subst e2
      have g2 : z2.size ≤ K := by rw [d2] at b2; simp only [Rows.uptoBulk] at b2; have : z2.data.toList.length = z2.size := by rw [Array.length_toList]; rfl
                                  omega
      obtain ⟨z3, e3, _⟩ := DataW.trod_bool Tryz.underlying4 t3
      simp at e3
      subst e3
      exact ⟨⟨z0, z1, z2, z3⟩, rfl, ⟨w0, w2⟩, w1, g0⟩
set_option maxRecDepth 100000 in
theorem inode_cells_o {H : Type} {enc : TypeId × Value → H} {w : World} {base : Nat} {spare : Nat → Bool} {held : Bool} {fuel : Nat} {cs : List Value} {x : DataW H × List MemPlace} (h : DataW.trod enc Tryz.prog w base spare held fuel 46 cs = some x) (hlt : ∀ q ∈ x.2, q.block < w.heap.size) {K : Nat} (hK : Rows.uptoBulk x.1 ≤ K) : ∃ y : NodeC, cs = (nodeC y).toList ∧ (NodeFit w y ∧ NilN y ∧ BndN K y.p) := by
  obtain ⟨xs, n, _, rfl, hlen, hxs, hf⟩ := DataW.trod_struct Tryz.underlying46 h
  rw [cells_inode] at hlen
  have hx : xs.length = 7 := hxs
  match cs, hlen with
  | [v0, v1, v2, v3, v4, v5, v6, v7, v8, v9, v10, v11, v12], _ =>
    match xs, hx with
    | [x0, x1, x2, x3, x4, x5, x6], _ =>
      have t0 : DataW.trod enc Tryz.prog w base spare held n 37 (([v0, v1, v2, v3, v4, v5, v6, v7, v8, v9, v10, v11, v12].drop 0).take (Tryz.prog.cellsOf 37)) = some x0 := hf 0 _ rfl
      rw [cells_st] at t0
      have t1 : DataW.trod enc Tryz.prog w base spare held n 3 (([v0, v1, v2, v3, v4, v5, v6, v7, v8, v9, v10, v11, v12].drop 2).take (Tryz.prog.cellsOf 3)) = some x1 := hf 1 _ rfl
      rw [cells_i] at t1
      have t2 : DataW.trod enc Tryz.prog w base spare held n 9 (([v0, v1, v2, v3, v4, v5, v6, v7, v8, v9, v10, v11, v12].drop 3).take (Tryz.prog.cellsOf 9)) = some x2 := hf 2 _ rfl
      rw [cells_s] at t2
      have t3 : DataW.trod enc Tryz.prog w base spare held n 40 (([v0, v1, v2, v3, v4, v5, v6, v7, v8, v9, v10, v11, v12].drop 4).take (Tryz.prog.cellsOf 40)) = some x3 := hf 3 _ rfl
      rw [cells_at] at t3
      have t4 : DataW.trod enc Tryz.prog w base spare held n 42 (([v0, v1, v2, v3, v4, v5, v6, v7, v8, v9, v10, v11, v12].drop 8).take (Tryz.prog.cellsOf 42)) = some x4 := hf 4 _ rfl
      rw [cells_sz] at t4
      have t5 : DataW.trod enc Tryz.prog w base spare held n 43 (([v0, v1, v2, v3, v4, v5, v6, v7, v8, v9, v10, v11, v12].drop 11).take (Tryz.prog.cellsOf 43)) = some x5 := hf 5 _ rfl
      rw [cells_ps] at t5
      have t6 : DataW.trod enc Tryz.prog w base spare held n 44 (([v0, v1, v2, v3, v4, v5, v6, v7, v8, v9, v10, v11, v12].drop 12).take (Tryz.prog.cellsOf 44)) = some x6 := hf 6 _ rfl
      rw [cells_xs] at t6
      simp only [List.map_cons, List.map_nil, Rows.uptoBulk, Rows.uptoBulkAll] at hK
      have b0 : Rows.uptoBulk x0.1 ≤ K := by omega
      have b1 : Rows.uptoBulk x1.1 ≤ K := by omega
      have b2 : Rows.uptoBulk x2.1 ≤ K := by omega
      have b3 : Rows.uptoBulk x3.1 ≤ K := by omega
      have b4 : Rows.uptoBulk x4.1 ≤ K := by omega
      have b5 : Rows.uptoBulk x5.1 ≤ K := by omega
      have b6 : Rows.uptoBulk x6.1 ≤ K := by omega
      have l0 : ∀ q ∈ x0.2, q.block < w.heap.size := fun q hq => hlt q (by simp [hq])
      have l3 : ∀ q ∈ x3.2, q.block < w.heap.size := fun q hq => hlt q (by simp [hq])
      have l4 : ∀ q ∈ x4.2, q.block < w.heap.size := fun q hq => hlt q (by simp [hq])
      have l5 : ∀ q ∈ x5.2, q.block < w.heap.size := fun q hq => hlt q (by simp [hq])
      have l6 : ∀ q ∈ x6.2, q.block < w.heap.size := fun q hq => hlt q (by simp [hq])
      obtain ⟨z0, e0, w0⟩ := st_cells t0 l0 b0
      simp at e0
      obtain ⟨rfl, rfl⟩ := e0
      obtain ⟨z1, e1, _, w1⟩ := DataW.trod_int Tryz.underlying3 t1
      simp at e1
      subst e1
      obtain ⟨z2, e2, d2, w2⟩ := DataW.trod_string Tryz.underlying9 t2
      simp at e2
      subst e2
      have g2 : z2.size ≤ K := by rw [d2] at b2; simp only [Rows.uptoBulk] at b2; have : z2.data.toList.length = z2.size := by rw [Array.length_toList]; rfl
                                  omega
      obtain ⟨z3, y3, u3, e3, w3⟩ := attr_cells t3 l3 b3
      simp at e3
      obtain ⟨rfl, rfl, rfl, rfl⟩ := e3
      obtain ⟨z4, y4, e4, w4⟩ := size_cells t4 l4 b4
      simp at e4
      obtain ⟨rfl, rfl, rfl⟩ := e4
      obtain ⟨A5, n5, c5, ys5, e5, r5, w5, m5, k5, q5, o5⟩ := open_row Tryz.underlying43 cells_piece (by decide) (fun _ => rfl) (fun h1 h2 h3 => piece_cells_o h1 h2 h3) t5 l5 b5
      simp at e5
      subst e5
      obtain ⟨A6, n6, c6, ys6, e6, r6, w6, m6, k6, q6, o6⟩ := open_row Tryz.underlying44 cells_xattr (by decide) (fun _ => rfl) (fun h1 h2 h3 => xattr_cells_o h1 h2 h3) t6 l6 b6
      simp at e6
      subst e6
      exact ⟨⟨⟨z0, z1, z2, z3, y3, u3, z4, y4, ys5, ys6⟩, A5, n5, c5, A6, n6, c6⟩, rfl, ⟨r5, r6, Nat.le_trans m5 (Nat.le_trans k5 (by decide)), Nat.le_trans m6 (Nat.le_trans k6 (by decide)), w2, w3.2.2, fun p hp => (w5 p hp).1, fun p hp => (w6 p hp).1⟩, ⟨o5, o6⟩, by show ys5.length ≤ K; rw [r5.len]; exact q5, by show ys6.length ≤ K; rw [r6.len]; exact q6, fun p hp => (w6 p hp).2.2⟩
set_option maxRecDepth 100000 in
theorem link_cells_o {H : Type} {enc : TypeId × Value → H} {w : World} {base : Nat} {spare : Nat → Bool} {held : Bool} {fuel : Nat} {cs : List Value} {x : DataW H × List MemPlace} (h : DataW.trod enc Tryz.prog w base spare held fuel 51 cs = some x) (hlt : ∀ q ∈ x.2, q.block < w.heap.size) {K : Nat} (hK : Rows.uptoBulk x.1 ≤ K) : ∃ y : LinkP, cs = (linkC y).toList ∧ (y.name.size ≤ maxLen ∧ NumL y ∧ y.name.size ≤ K) := by
  obtain ⟨xs, n, _, rfl, hlen, hxs, hf⟩ := DataW.trod_struct Tryz.underlying51 h
  rw [cells_link] at hlen
  have hx : xs.length = 7 := hxs
  match cs, hlen with
  | [v0, v1, v2, v3, v4, v5, v6, v7, v8, v9, v10, v11, v12, v13, v14, v15, v16, v17, v18, v19, v20, v21, v22, v23, v24], _ =>
    match xs, hx with
    | [x0, x1, x2, x3, x4, x5, x6], _ =>
      have t0 : DataW.trod enc Tryz.prog w base spare held n 37 (([v0, v1, v2, v3, v4, v5, v6, v7, v8, v9, v10, v11, v12, v13, v14, v15, v16, v17, v18, v19, v20, v21, v22, v23, v24].drop 0).take (Tryz.prog.cellsOf 37)) = some x0 := hf 0 _ rfl
      rw [cells_st] at t0
      have t1 : DataW.trod enc Tryz.prog w base spare held n 37 (([v0, v1, v2, v3, v4, v5, v6, v7, v8, v9, v10, v11, v12, v13, v14, v15, v16, v17, v18, v19, v20, v21, v22, v23, v24].drop 2).take (Tryz.prog.cellsOf 37)) = some x1 := hf 1 _ rfl
      rw [cells_st] at t1
      have t2 : DataW.trod enc Tryz.prog w base spare held n 37 (([v0, v1, v2, v3, v4, v5, v6, v7, v8, v9, v10, v11, v12, v13, v14, v15, v16, v17, v18, v19, v20, v21, v22, v23, v24].drop 4).take (Tryz.prog.cellsOf 37)) = some x2 := hf 2 _ rfl
      rw [cells_st] at t2
      have t3 : DataW.trod enc Tryz.prog w base spare held n 37 (([v0, v1, v2, v3, v4, v5, v6, v7, v8, v9, v10, v11, v12, v13, v14, v15, v16, v17, v18, v19, v20, v21, v22, v23, v24].drop 6).take (Tryz.prog.cellsOf 37)) = some x3 := hf 3 _ rfl
      rw [cells_st] at t3
      have t4 : DataW.trod enc Tryz.prog w base spare held n 9 (([v0, v1, v2, v3, v4, v5, v6, v7, v8, v9, v10, v11, v12, v13, v14, v15, v16, v17, v18, v19, v20, v21, v22, v23, v24].drop 8).take (Tryz.prog.cellsOf 9)) = some x4 := hf 4 _ rfl
      rw [cells_s] at t4
      have t5 : DataW.trod enc Tryz.prog w base spare held n 23 (([v0, v1, v2, v3, v4, v5, v6, v7, v8, v9, v10, v11, v12, v13, v14, v15, v16, v17, v18, v19, v20, v21, v22, v23, v24].drop 9).take (Tryz.prog.cellsOf 23)) = some x5 := hf 5 _ rfl
      rw [cells_v] at t5
      have t6 : DataW.trod enc Tryz.prog w base spare held n 23 (([v0, v1, v2, v3, v4, v5, v6, v7, v8, v9, v10, v11, v12, v13, v14, v15, v16, v17, v18, v19, v20, v21, v22, v23, v24].drop 17).take (Tryz.prog.cellsOf 23)) = some x6 := hf 6 _ rfl
      rw [cells_v] at t6
      simp only [List.map_cons, List.map_nil, Rows.uptoBulk, Rows.uptoBulkAll] at hK
      have b0 : Rows.uptoBulk x0.1 ≤ K := by omega
      have b1 : Rows.uptoBulk x1.1 ≤ K := by omega
      have b2 : Rows.uptoBulk x2.1 ≤ K := by omega
      have b3 : Rows.uptoBulk x3.1 ≤ K := by omega
      have b4 : Rows.uptoBulk x4.1 ≤ K := by omega
      have b5 : Rows.uptoBulk x5.1 ≤ K := by omega
      have b6 : Rows.uptoBulk x6.1 ≤ K := by omega
      have l0 : ∀ q ∈ x0.2, q.block < w.heap.size := fun q hq => hlt q (by simp [hq])
      have l1 : ∀ q ∈ x1.2, q.block < w.heap.size := fun q hq => hlt q (by simp [hq])
      have l2 : ∀ q ∈ x2.2, q.block < w.heap.size := fun q hq => hlt q (by simp [hq])
      have l3 : ∀ q ∈ x3.2, q.block < w.heap.size := fun q hq => hlt q (by simp [hq])
      have l5 : ∀ q ∈ x5.2, q.block < w.heap.size := fun q hq => hlt q (by simp [hq])
      have l6 : ∀ q ∈ x6.2, q.block < w.heap.size := fun q hq => hlt q (by simp [hq])
      obtain ⟨z0, e0, w0⟩ := st_cells t0 l0 b0
      simp at e0
      obtain ⟨rfl, rfl⟩ := e0
      obtain ⟨z1, e1, w1⟩ := st_cells t1 l1 b1
      simp at e1
      obtain ⟨rfl, rfl⟩ := e1
      obtain ⟨z2, e2, w2⟩ := st_cells t2 l2 b2
      simp at e2
      obtain ⟨rfl, rfl⟩ := e2
      obtain ⟨z3, e3, w3⟩ := st_cells t3 l3 b3
      simp at e3
      obtain ⟨rfl, rfl⟩ := e3
      obtain ⟨z4, e4, d4, w4⟩ := DataW.trod_string Tryz.underlying9 t4
      simp at e4
      subst e4
      have g4 : z4.size ≤ K := by rw [d4] at b4; simp only [Rows.uptoBulk] at b4; have : z4.data.toList.length = z4.size := by rw [Array.length_toList]; rfl
                                  omega
      obtain ⟨z5, e5, w5⟩ := vec_cells t5
      simp [vecC] at e5
      obtain ⟨rfl, rfl, rfl, rfl, rfl, rfl, rfl, rfl⟩ := e5
      obtain ⟨z6, e6, w6⟩ := vec_cells t6
      simp [vecC] at e6
      obtain ⟨rfl, rfl, rfl, rfl, rfl, rfl, rfl, rfl⟩ := e6
      exact ⟨⟨z0, z1, z2, z3, z4, z5, z6⟩, rfl, w4, ⟨w0, w1, w2, w3, w5, w6⟩, g4⟩
set_option maxRecDepth 100000 in
theorem state_cells {H : Type} {enc : TypeId × Value → H} {w : World} {base : Nat} {spare : Nat → Bool} {held : Bool} {fuel : Nat} {cs : List Value} {x : DataW H × List MemPlace} (h : DataW.trod enc Tryz.prog w base spare held fuel 27 cs = some x) (hlt : ∀ q ∈ x.2, q.block < w.heap.size) {K : Nat} (hK : Rows.uptoBulk x.1 ≤ K) : ∃ y : StateC, cs = (stateC y).toList ∧ (StateFit w y ∧ NilS y ∧ BndS K y) := by
  obtain ⟨xs, n, _, rfl, hlen, hxs, hf⟩ := DataW.trod_struct Tryz.underlying27 h
  rw [cells_state] at hlen
  have hx : xs.length = 3 := hxs
  match cs, hlen with
  | [v0, v1, v2, v3, v4, v5, v6, v7, v8, v9], _ =>
    match xs, hx with
    | [x0, x1, x2], _ =>
      have t0 : DataW.trod enc Tryz.prog w base spare held n 23 (([v0, v1, v2, v3, v4, v5, v6, v7, v8, v9].drop 0).take (Tryz.prog.cellsOf 23)) = some x0 := hf 0 _ rfl
      rw [cells_v] at t0
      have t1 : DataW.trod enc Tryz.prog w base spare held n 24 (([v0, v1, v2, v3, v4, v5, v6, v7, v8, v9].drop 8).take (Tryz.prog.cellsOf 24)) = some x1 := hf 1 _ rfl
      rw [cells_ns] at t1
      have t2 : DataW.trod enc Tryz.prog w base spare held n 25 (([v0, v1, v2, v3, v4, v5, v6, v7, v8, v9].drop 9).take (Tryz.prog.cellsOf 25)) = some x2 := hf 2 _ rfl
      rw [cells_ls] at t2
      simp only [List.map_cons, List.map_nil, Rows.uptoBulk, Rows.uptoBulkAll] at hK
      have b0 : Rows.uptoBulk x0.1 ≤ K := by omega
      have b1 : Rows.uptoBulk x1.1 ≤ K := by omega
      have b2 : Rows.uptoBulk x2.1 ≤ K := by omega
      have l0 : ∀ q ∈ x0.2, q.block < w.heap.size := fun q hq => hlt q (by simp [hq])
      have l1 : ∀ q ∈ x1.2, q.block < w.heap.size := fun q hq => hlt q (by simp [hq])
      have l2 : ∀ q ∈ x2.2, q.block < w.heap.size := fun q hq => hlt q (by simp [hq])
      obtain ⟨z0, e0, w0⟩ := vec_cells t0
      simp [vecC] at e0
      obtain ⟨rfl, rfl, rfl, rfl, rfl, rfl, rfl, rfl⟩ := e0
      obtain ⟨A1, n1, c1, ys1, e1, r1, w1, m1, k1, q1, o1⟩ := open_row Tryz.underlying24 cells_inode (by decide) (fun _ => rfl) (fun h1 h2 h3 => inode_cells_o h1 h2 h3) t1 l1 b1
      simp at e1
      subst e1
      obtain ⟨A2, n2, c2, ys2, e2, r2, w2, m2, k2, q2, o2⟩ := open_row Tryz.underlying25 cells_link (by decide) (fun _ => rfl) (fun h1 h2 h3 => link_cells_o h1 h2 h3) t2 l2 b2
      simp at e2
      subst e2
      exact ⟨⟨z0, A1, n1, c1, A2, n2, c2, ys1, ys2⟩, rfl, ⟨r1, r2, Nat.le_trans m1 (Nat.le_trans k1 (by decide)), Nat.le_trans m2 (Nat.le_trans k2 (by decide)), fun y hy => (w1 y hy).1, fun y hy => (w2 y hy).1⟩, ⟨o1, o2, fun y hy => (w1 y hy).2.1⟩, ⟨q1, q2⟩, fun y hy => (w1 y hy).2.2, fun y hy => (w2 y hy).2.2⟩
theorem okWide_str {P : Program} {W : World} {r : Reach} {b0 : Nat} {t : TypeId} {fs : Array Field} {v : Value} (ht : P.underlying t = some (.struct fs)) (h : Value.okWide P W r b0 t v) : ∃ xs : Array Value, v = .agg xs := by
  simp only [Value.okWide, ht] at h
  cases v <;> simp_all
set_option maxRecDepth 100000 in
theorem open_state {H : Type} {enc : TypeId × Value → H} {w : World} {base b0 : Nat} {r : Reach} {spare : Nat → Bool} {held : Bool} {v : Value} {d : DataW H} {ps : List MemPlace}
    (hv : Value.okWide Tryz.prog w r b0 27 v) (h : DataW.Trod enc Tryz.prog w base spare held 27 v d ps) (hlt : ∀ x ∈ ps, x.block < w.heap.size) : ∃ y : StateC, v = .agg (stateC y) ∧ StateFit w y ∧ NilS y := by
  obtain ⟨xs, rfl⟩ := okWide_str Tryz.underlying27 hv
  obtain ⟨fuel, hf⟩ := h
  obtain ⟨y, hy, ws, wn, _⟩ := state_cells hf hlt (Nat.le_refl _)
  refine ⟨y, ?_, ws, wn⟩
  have h2 : xs.toList = _ := hy
  congr 1
  exact Array.toList_inj.1 h2
end Go.Proofs.YtblogecapegbmaaGreat.Fc
