/- States: what they are, whether they may be, and how they lie in memory. -/
import Derived.Test.YtblogecapegbmaaGreatVcD
import Derived.Deep.MidRow
namespace Go.Proofs.YtblogecapegbmaaGreat.Fc
open Go.RowKit Go.Proofs.YtblogecapegbmaaGreat.Mem Go.Proofs.YtblogecapegbmaaGreat.Vc

/-- A truth value is answered: whether P. -/
def Told (P : Prop) (e : Ending) : Prop := ∃ b, e = .returned (.bool b) ∧ (b = true ↔ P)
theorem told_yes {P : Prop} (h : P) : Told P (.returned (.bool true)) := ⟨true, rfl, ⟨fun _ => h, fun _ => rfl⟩⟩
theorem told_no {P : Prop} (h : ¬ P) : Told P (.returned (.bool false)) := ⟨false, rfl, ⟨(fun e => by cases e), fun k => (h k).elim⟩⟩

structure PieceP where
  i : Int
  at_ : Int × Int
  data : ByteArray
structure XattrP where
  name : ByteArray
  at_ : Int × Int
  val : ByteArray
  gone : Bool
structure NodeP where
  id : Int × Int
  kind : Int
  text : ByteArray
  aat : Int × Int
  mode : Int
  time : Nat
  sat : Int × Int
  n : Int
  ps : List PieceP
  xs : List XattrP
structure LinkP where
  id : Int × Int
  node : Int × Int
  at_ : Int × Int
  par : Int × Int
  name : ByteArray
  al : Nat → Int
  de : Nat → Int
structure StateP where
  seen : Nat → Int
  nodes : List NodeP
  links : List LinkP

/-- Neighbours rise. -/
def Rise {α : Type} (lt : α → α → Prop) (l : List α) : Prop := ∀ i (h : i + 1 < l.length), lt (l[i]'(by omega)) l[i + 1]

/-- An inode, and where its pieces and xattrs lie. -/
structure NodeC where
  p : NodeP
  A1 : Option Addr
  n1 : Nat
  c1 : Nat
  A2 : Option Addr
  n2 : Nat
  c2 : Nat
def pieceC (x : PieceP) : Array Value := #[.int .i64 x.i, .int .i64 x.at_.1, .int .i64 x.at_.2, .string x.data]
def xattrC (x : XattrP) : Array Value := #[.string x.name, .int .i64 x.at_.1, .int .i64 x.at_.2, .string x.val, .bool x.gone]
def nodeC (x : NodeC) : Array Value := #[.int .i64 x.p.id.1, .int .i64 x.p.id.2, .int .i64 x.p.kind, .string x.p.text, .int .i64 x.p.aat.1, .int .i64 x.p.aat.2, .int .i64 x.p.mode, .int .u64 x.p.time, .int .i64 x.p.sat.1, .int .i64 x.p.sat.2, .int .i64 x.p.n, .slice x.A1 x.n1 x.c1, .slice x.A2 x.n2 x.c2]
def linkC (x : LinkP) : Array Value := #[.int .i64 x.id.1, .int .i64 x.id.2, .int .i64 x.node.1, .int .i64 x.node.2, .int .i64 x.at_.1, .int .i64 x.at_.2, .int .i64 x.par.1, .int .i64 x.par.2, .string x.name,
  .int .i64 (x.al 0), .int .i64 (x.al 1), .int .i64 (x.al 2), .int .i64 (x.al 3), .int .i64 (x.al 4), .int .i64 (x.al 5), .int .i64 (x.al 6), .int .i64 (x.al 7),
  .int .i64 (x.de 0), .int .i64 (x.de 1), .int .i64 (x.de 2), .int .i64 (x.de 3), .int .i64 (x.de 4), .int .i64 (x.de 5), .int .i64 (x.de 6), .int .i64 (x.de 7)]

/-- A row of structs of k cells. -/
structure SRow {α : Type} (w : World) (k : Nat) (f : α → Array Value) (A : Option Addr) (n : Nat) (xs : List α) : Prop where
  len : xs.length = n
  cells : 0 < n → ∃ b off, A = some ⟨b, off, none⟩ ∧ b < w.heap.size ∧ ∀ i (h : i < xs.length) j v, (f xs[i])[j]? = some v → w.cell? ⟨b, off + i * k + j, none⟩ = some v
theorem SRow.below {α : Type} {w w' : World} {k : Nat} {f : α → Array Value} {A : Option Addr} {n : Nat} {xs : List α} (h : SRow w k f A n xs) (hb : Below w.heap.size w w') : SRow w' k f A n xs :=
  ⟨h.len, fun hn => by
    obtain ⟨b, off, e, hl, hx⟩ := h.cells hn
    exact ⟨b, off, e, Nat.lt_of_lt_of_le hl hb.size, fun i hi j v hv => (hb.cell (p := ⟨b, off + i * k + j, none⟩) hl).trans (hx i hi j v hv)⟩⟩
theorem SRow.nil {α : Type} (w : World) (k : Nat) (f : α → Array Value) : SRow w k f none 0 [] := ⟨rfl, fun h => absurd h (by omega)⟩

theorem SRow.range {α : Type} {w : World} {k : Nat} {f : α → Array Value} {A : Option Addr} {n : Nat} {xs : List α} (h : SRow w k f A n xs) {i : Nat} (hi : i < n) : ∃ b off, A = some ⟨b, off, none⟩ ∧ b < w.heap.size ∧ ∃ hx : i < xs.length, w.rangeAt b (off + i * k) (f xs[i]).toList := by
  obtain ⟨b, off, e, hl, hx⟩ := h.cells (by omega)
  have hi' : i < xs.length := by rw [h.len]; exact hi
  exact ⟨b, off, e, hl, hi', fun j v hv => hx i hi' j v (by simpa using hv)⟩
theorem row_range_below {w w' : World} {b o : Nat} {cs : List Value} {B : Nat} (h : w.rangeAt b o cs) (hb : Below B w w') (hl : b < B) : w'.rangeAt b o cs :=
  fun j v hv => (hb.cell (p := ⟨b, o + j, none⟩) hl).trans (h j v hv)

structure NodeFit (w : World) (x : NodeC) : Prop where
  ps : SRow w 4 pieceC x.A1 x.n1 x.p.ps
  xs : SRow w 5 xattrC x.A2 x.n2 x.p.xs
  m1 : x.n1 ≤ 9223372036854775807
  m2 : x.n2 ≤ 9223372036854775807
  text : x.p.text.size ≤ maxLen
  time : x.p.time < 18446744073709551616
  pdata : ∀ p ∈ x.p.ps, p.data.size ≤ maxLen
  xdata : ∀ p ∈ x.p.xs, p.name.size ≤ maxLen ∧ p.val.size ≤ maxLen
theorem NodeFit.below {w w' : World} {x : NodeC} (h : NodeFit w x) (hb : Below w.heap.size w w') : NodeFit w' x := ⟨h.ps.below hb, h.xs.below hb, h.m1, h.m2, h.text, h.time, h.pdata, h.xdata⟩

/-- A state, and where its rows lie. -/
structure StateC where
  seen : Nat → Int
  A1 : Option Addr
  n1 : Nat
  c1 : Nat
  A2 : Option Addr
  n2 : Nat
  c2 : Nat
  nodes : List NodeC
  links : List LinkP
def stateC (s : StateC) : Array Value := #[.int .i64 (s.seen 0), .int .i64 (s.seen 1), .int .i64 (s.seen 2), .int .i64 (s.seen 3), .int .i64 (s.seen 4), .int .i64 (s.seen 5), .int .i64 (s.seen 6), .int .i64 (s.seen 7), .slice s.A1 s.n1 s.c1, .slice s.A2 s.n2 s.c2]
def StateC.p (s : StateC) : StateP := ⟨s.seen, s.nodes.map NodeC.p, s.links⟩
structure StateFit (w : World) (s : StateC) : Prop where
  nodes : SRow w 13 nodeC s.A1 s.n1 s.nodes
  links : SRow w 25 linkC s.A2 s.n2 s.links
  m1 : s.n1 ≤ 9223372036854775807
  m2 : s.n2 ≤ 9223372036854775807
  each : ∀ x ∈ s.nodes, NodeFit w x
  names : ∀ x ∈ s.links, x.name.size ≤ maxLen
theorem StateFit.below {w w' : World} {s : StateC} (h : StateFit w s) (hb : Below w.heap.size w w') : StateFit w' s := ⟨h.nodes.below hb, h.links.below hb, h.m1, h.m2, fun x hx => (h.each x hx).below hb, h.names⟩

/-- A piece's cells. -/
theorem piece_cells {w : World} {A : Option Addr} {n : Nat} {xs : List PieceP} (h : SRow w 4 pieceC A n xs) {i : Nat} (hi : i < n) : ∃ b off, A = some ⟨b, off, none⟩ ∧ b < w.heap.size ∧ ∃ hx : i < xs.length,
    w.cell? ⟨b, off + i * 4, none⟩ = some (.int .i64 xs[i].i) ∧ w.cell? ⟨b, off + i * 4 + 1, none⟩ = some (.int .i64 xs[i].at_.1) ∧ w.cell? ⟨b, off + i * 4 + 2, none⟩ = some (.int .i64 xs[i].at_.2) ∧ w.cell? ⟨b, off + i * 4 + 3, none⟩ = some (.string xs[i].data) := by
  obtain ⟨b, off, e, hl, hx⟩ := h.cells (by omega)
  have hi' : i < xs.length := by rw [h.len]; exact hi
  exact ⟨b, off, e, hl, hi', hx i hi' 0 _ rfl, hx i hi' 1 _ rfl, hx i hi' 2 _ rfl, hx i hi' 3 _ rfl⟩
theorem xattr_cells {w : World} {A : Option Addr} {n : Nat} {xs : List XattrP} (h : SRow w 5 xattrC A n xs) {i : Nat} (hi : i < n) : ∃ b off, A = some ⟨b, off, none⟩ ∧ b < w.heap.size ∧ ∃ hx : i < xs.length,
    w.cell? ⟨b, off + i * 5, none⟩ = some (.string xs[i].name) ∧ w.cell? ⟨b, off + i * 5 + 1, none⟩ = some (.int .i64 xs[i].at_.1) ∧ w.cell? ⟨b, off + i * 5 + 2, none⟩ = some (.int .i64 xs[i].at_.2) ∧ w.cell? ⟨b, off + i * 5 + 3, none⟩ = some (.string xs[i].val) ∧ w.cell? ⟨b, off + i * 5 + 4, none⟩ = some (.bool xs[i].gone) := by
  obtain ⟨b, off, e, hl, hx⟩ := h.cells (by omega)
  have hi' : i < xs.length := by rw [h.len]; exact hi
  exact ⟨b, off, e, hl, hi', hx i hi' 0 _ rfl, hx i hi' 1 _ rfl, hx i hi' 2 _ rfl, hx i hi' 3 _ rfl, hx i hi' 4 _ rfl⟩
/-- The cells of an inode at a place. -/
abbrev NodeAt (w : World) (b q : Nat) (x : NodeC) : Prop :=
  (w.cell? ⟨b, q, none⟩ = some (.int .i64 x.p.id.1) ∧ w.cell? ⟨b, q + 1, none⟩ = some (.int .i64 x.p.id.2) ∧ w.cell? ⟨b, q + 2, none⟩ = some (.int .i64 x.p.kind) ∧ w.cell? ⟨b, q + 3, none⟩ = some (.string x.p.text)) ∧
  (w.cell? ⟨b, q + 4, none⟩ = some (.int .i64 x.p.aat.1) ∧ w.cell? ⟨b, q + 5, none⟩ = some (.int .i64 x.p.aat.2) ∧ w.cell? ⟨b, q + 6, none⟩ = some (.int .i64 x.p.mode) ∧ w.cell? ⟨b, q + 7, none⟩ = some (.int .u64 x.p.time)) ∧
  (w.cell? ⟨b, q + 8, none⟩ = some (.int .i64 x.p.sat.1) ∧ w.cell? ⟨b, q + 9, none⟩ = some (.int .i64 x.p.sat.2) ∧ w.cell? ⟨b, q + 10, none⟩ = some (.int .i64 x.p.n)) ∧
  (w.cell? ⟨b, q + 11, none⟩ = some (.slice x.A1 x.n1 x.c1) ∧ w.cell? ⟨b, q + 12, none⟩ = some (.slice x.A2 x.n2 x.c2))
theorem node_cells {w : World} {A : Option Addr} {n : Nat} {xs : List NodeC} (h : SRow w 13 nodeC A n xs) {i : Nat} (hi : i < n) : ∃ b off, A = some ⟨b, off, none⟩ ∧ b < w.heap.size ∧ ∃ hx : i < xs.length, NodeAt w b (off + i * 13) xs[i] := by
  obtain ⟨b, off, e, hl, hx⟩ := h.cells (by omega)
  have hi' : i < xs.length := by rw [h.len]; exact hi
  exact ⟨b, off, e, hl, hi', ⟨hx i hi' 0 _ rfl, hx i hi' 1 _ rfl, hx i hi' 2 _ rfl, hx i hi' 3 _ rfl⟩, ⟨hx i hi' 4 _ rfl, hx i hi' 5 _ rfl, hx i hi' 6 _ rfl, hx i hi' 7 _ rfl⟩, ⟨hx i hi' 8 _ rfl, hx i hi' 9 _ rfl, hx i hi' 10 _ rfl⟩, hx i hi' 11 _ rfl, hx i hi' 12 _ rfl⟩
theorem has_node {w : World} {g : Nat} {t : TypeId} {x : NodeC} (h : Has w g t (nodeC x)) : NodeAt w g 0 x :=
  ⟨⟨h.at_ 0, h.at_ 1, h.at_ 2, h.at_ 3⟩, ⟨h.at_ 4, h.at_ 5, h.at_ 6, h.at_ 7⟩, ⟨h.at_ 8, h.at_ 9, h.at_ 10⟩, h.at_ 11, h.at_ 12⟩
theorem NodeAt.below {w w' : World} {b q : Nat} {x : NodeC} (h : NodeAt w b q x) {B : Nat} (hb : Below B w w') (hl : b < B) : NodeAt w' b q x := by
  obtain ⟨⟨h0, h1, h2, h3⟩, ⟨h4, h5, h6, h7⟩, ⟨h8, h9, h10⟩, h11, h12⟩ := h
  exact ⟨⟨(hb.cell (p := ⟨b, q, none⟩) hl).trans h0, (hb.cell (p := ⟨b, q + 1, none⟩) hl).trans h1, (hb.cell (p := ⟨b, q + 2, none⟩) hl).trans h2, (hb.cell (p := ⟨b, q + 3, none⟩) hl).trans h3⟩,
    ⟨(hb.cell (p := ⟨b, q + 4, none⟩) hl).trans h4, (hb.cell (p := ⟨b, q + 5, none⟩) hl).trans h5, (hb.cell (p := ⟨b, q + 6, none⟩) hl).trans h6, (hb.cell (p := ⟨b, q + 7, none⟩) hl).trans h7⟩,
    ⟨(hb.cell (p := ⟨b, q + 8, none⟩) hl).trans h8, (hb.cell (p := ⟨b, q + 9, none⟩) hl).trans h9, (hb.cell (p := ⟨b, q + 10, none⟩) hl).trans h10⟩,
    (hb.cell (p := ⟨b, q + 11, none⟩) hl).trans h11, (hb.cell (p := ⟨b, q + 12, none⟩) hl).trans h12⟩
/-- The cells of a link at a place. -/
abbrev LinkAt (w : World) (b q : Nat) (x : LinkP) : Prop :=
  (w.cell? ⟨b, q, none⟩ = some (.int .i64 x.id.1) ∧ w.cell? ⟨b, q + 1, none⟩ = some (.int .i64 x.id.2) ∧ w.cell? ⟨b, q + 2, none⟩ = some (.int .i64 x.node.1) ∧ w.cell? ⟨b, q + 3, none⟩ = some (.int .i64 x.node.2) ∧
   w.cell? ⟨b, q + 4, none⟩ = some (.int .i64 x.at_.1) ∧ w.cell? ⟨b, q + 5, none⟩ = some (.int .i64 x.at_.2) ∧ w.cell? ⟨b, q + 6, none⟩ = some (.int .i64 x.par.1) ∧ w.cell? ⟨b, q + 7, none⟩ = some (.int .i64 x.par.2) ∧ w.cell? ⟨b, q + 8, none⟩ = some (.string x.name)) ∧
  (w.cell? ⟨b, q + 9, none⟩ = some (.int .i64 (x.al 0)) ∧ w.cell? ⟨b, q + 10, none⟩ = some (.int .i64 (x.al 1)) ∧ w.cell? ⟨b, q + 11, none⟩ = some (.int .i64 (x.al 2)) ∧ w.cell? ⟨b, q + 12, none⟩ = some (.int .i64 (x.al 3)) ∧
   w.cell? ⟨b, q + 13, none⟩ = some (.int .i64 (x.al 4)) ∧ w.cell? ⟨b, q + 14, none⟩ = some (.int .i64 (x.al 5)) ∧ w.cell? ⟨b, q + 15, none⟩ = some (.int .i64 (x.al 6)) ∧ w.cell? ⟨b, q + 16, none⟩ = some (.int .i64 (x.al 7))) ∧
  (w.cell? ⟨b, q + 17, none⟩ = some (.int .i64 (x.de 0)) ∧ w.cell? ⟨b, q + 18, none⟩ = some (.int .i64 (x.de 1)) ∧ w.cell? ⟨b, q + 19, none⟩ = some (.int .i64 (x.de 2)) ∧ w.cell? ⟨b, q + 20, none⟩ = some (.int .i64 (x.de 3)) ∧
   w.cell? ⟨b, q + 21, none⟩ = some (.int .i64 (x.de 4)) ∧ w.cell? ⟨b, q + 22, none⟩ = some (.int .i64 (x.de 5)) ∧ w.cell? ⟨b, q + 23, none⟩ = some (.int .i64 (x.de 6)) ∧ w.cell? ⟨b, q + 24, none⟩ = some (.int .i64 (x.de 7)))
theorem link_cells {w : World} {A : Option Addr} {n : Nat} {xs : List LinkP} (h : SRow w 25 linkC A n xs) {i : Nat} (hi : i < n) : ∃ b off, A = some ⟨b, off, none⟩ ∧ b < w.heap.size ∧ ∃ hx : i < xs.length, LinkAt w b (off + i * 25) xs[i] := by
  obtain ⟨b, off, e, hl, hx⟩ := h.cells (by omega)
  have hi' : i < xs.length := by rw [h.len]; exact hi
  exact ⟨b, off, e, hl, hi', ⟨hx i hi' 0 _ rfl, hx i hi' 1 _ rfl, hx i hi' 2 _ rfl, hx i hi' 3 _ rfl, hx i hi' 4 _ rfl, hx i hi' 5 _ rfl, hx i hi' 6 _ rfl, hx i hi' 7 _ rfl, hx i hi' 8 _ rfl⟩,
    ⟨hx i hi' 9 _ rfl, hx i hi' 10 _ rfl, hx i hi' 11 _ rfl, hx i hi' 12 _ rfl, hx i hi' 13 _ rfl, hx i hi' 14 _ rfl, hx i hi' 15 _ rfl, hx i hi' 16 _ rfl⟩,
    ⟨hx i hi' 17 _ rfl, hx i hi' 18 _ rfl, hx i hi' 19 _ rfl, hx i hi' 20 _ rfl, hx i hi' 21 _ rfl, hx i hi' 22 _ rfl, hx i hi' 23 _ rfl, hx i hi' 24 _ rfl⟩⟩
theorem LinkAt.below {w w' : World} {b q : Nat} {x : LinkP} (h : LinkAt w b q x) {B : Nat} (hb : Below B w w') (hl : b < B) : LinkAt w' b q x := by
  obtain ⟨⟨h0, h1, h2, h3, h4, h5, h6, h7, h8⟩, ⟨h9, h10, h11, h12, h13, h14, h15, h16⟩, ⟨h17, h18, h19, h20, h21, h22, h23, h24⟩⟩ := h
  exact ⟨⟨(hb.cell (p := ⟨b, q, none⟩) hl).trans h0, (hb.cell (p := ⟨b, q + 1, none⟩) hl).trans h1, (hb.cell (p := ⟨b, q + 2, none⟩) hl).trans h2, (hb.cell (p := ⟨b, q + 3, none⟩) hl).trans h3, (hb.cell (p := ⟨b, q + 4, none⟩) hl).trans h4, (hb.cell (p := ⟨b, q + 5, none⟩) hl).trans h5, (hb.cell (p := ⟨b, q + 6, none⟩) hl).trans h6, (hb.cell (p := ⟨b, q + 7, none⟩) hl).trans h7, (hb.cell (p := ⟨b, q + 8, none⟩) hl).trans h8⟩, ⟨(hb.cell (p := ⟨b, q + 9, none⟩) hl).trans h9, (hb.cell (p := ⟨b, q + 10, none⟩) hl).trans h10, (hb.cell (p := ⟨b, q + 11, none⟩) hl).trans h11, (hb.cell (p := ⟨b, q + 12, none⟩) hl).trans h12, (hb.cell (p := ⟨b, q + 13, none⟩) hl).trans h13, (hb.cell (p := ⟨b, q + 14, none⟩) hl).trans h14, (hb.cell (p := ⟨b, q + 15, none⟩) hl).trans h15, (hb.cell (p := ⟨b, q + 16, none⟩) hl).trans h16⟩, ⟨(hb.cell (p := ⟨b, q + 17, none⟩) hl).trans h17, (hb.cell (p := ⟨b, q + 18, none⟩) hl).trans h18, (hb.cell (p := ⟨b, q + 19, none⟩) hl).trans h19, (hb.cell (p := ⟨b, q + 20, none⟩) hl).trans h20, (hb.cell (p := ⟨b, q + 21, none⟩) hl).trans h21, (hb.cell (p := ⟨b, q + 22, none⟩) hl).trans h22, (hb.cell (p := ⟨b, q + 23, none⟩) hl).trans h23, (hb.cell (p := ⟨b, q + 24, none⟩) hl).trans h24⟩⟩
theorem has_link {w : World} {g : Nat} {t : TypeId} {x : LinkP} (h : Has w g t (linkC x)) : LinkAt w g 0 x :=
  ⟨⟨h.at_ 0, h.at_ 1, h.at_ 2, h.at_ 3, h.at_ 4, h.at_ 5, h.at_ 6, h.at_ 7, h.at_ 8⟩, ⟨h.at_ 9, h.at_ 10, h.at_ 11, h.at_ 12, h.at_ 13, h.at_ 14, h.at_ 15, h.at_ 16⟩, ⟨h.at_ 17, h.at_ 18, h.at_ 19, h.at_ 20, h.at_ 21, h.at_ 22, h.at_ 23, h.at_ 24⟩⟩
/-- The cells of a state at a place. -/
abbrev StateAt (w : World) (b : Nat) (s : StateC) : Prop :=
  (w.cell? ⟨b, 0, none⟩ = some (.int .i64 (s.seen 0)) ∧ w.cell? ⟨b, 1, none⟩ = some (.int .i64 (s.seen 1)) ∧ w.cell? ⟨b, 2, none⟩ = some (.int .i64 (s.seen 2)) ∧ w.cell? ⟨b, 3, none⟩ = some (.int .i64 (s.seen 3)) ∧
   w.cell? ⟨b, 4, none⟩ = some (.int .i64 (s.seen 4)) ∧ w.cell? ⟨b, 5, none⟩ = some (.int .i64 (s.seen 5)) ∧ w.cell? ⟨b, 6, none⟩ = some (.int .i64 (s.seen 6)) ∧ w.cell? ⟨b, 7, none⟩ = some (.int .i64 (s.seen 7))) ∧
  w.cell? ⟨b, 8, none⟩ = some (.slice s.A1 s.n1 s.c1) ∧ w.cell? ⟨b, 9, none⟩ = some (.slice s.A2 s.n2 s.c2)
theorem has_state {w : World} {g : Nat} {t : TypeId} {s : StateC} (h : Has w g t (stateC s)) : StateAt w g s :=
  ⟨⟨h.at_ 0, h.at_ 1, h.at_ 2, h.at_ 3, h.at_ 4, h.at_ 5, h.at_ 6, h.at_ 7⟩, h.at_ 8, h.at_ 9⟩
end Go.Proofs.YtblogecapegbmaaGreat.Fc
