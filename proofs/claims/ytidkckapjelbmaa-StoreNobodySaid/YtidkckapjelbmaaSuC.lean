import Derived.Test.YtidkckapjelbmaaSuB
import Derived.Deep.QuietTactic
import Derived.BigQuiet
import Derived.Deep.Slices

/- Rows of what befalls a store; whether they are short. -/
namespace Go.Proofs.Ytidkckapjelbmaa.Sto
open Go.RowKit
open Oct (Has Chg)
open Rws
open Dv (DoV)

/-- Something that befalls, with the place of its numbers. -/
structure DoC where
  v : DoV
  A : Option Addr
  n : Nat
  c : Nat
structure Fits (w : World) (x : DoC) : Prop where
  row : NumRow w x.A x.n x.v.ks
  len : x.n ≤ x.c
  cap : x.c ≤ maxLen
  str : x.v.s.size ≤ maxLen
  op : -9223372036854775808 ≤ x.v.op ∧ x.v.op ≤ 9223372036854775807
  i : -9223372036854775808 ≤ x.v.i ∧ x.v.i ≤ 9223372036854775807
structure DoRow (w : World) (A : Option Addr) (n : Nat) (xs : List DoC) : Prop where
  len : xs.length = n
  cells : 0 < n → ∃ b off, A = some ⟨b, off, none⟩ ∧ b < w.heap.size ∧ ∀ i (h : i < xs.length), w.cell? ⟨b, off + i * 4, none⟩ = some (.int .i64 xs[i].v.op) ∧ w.cell? ⟨b, off + i * 4 + 1, none⟩ = some (.int .i64 xs[i].v.i) ∧
    w.cell? ⟨b, off + i * 4 + 2, none⟩ = some (.slice xs[i].A xs[i].n xs[i].c) ∧ w.cell? ⟨b, off + i * 4 + 3, none⟩ = some (.string xs[i].v.s)
  each : ∀ x ∈ xs, Fits w x
theorem Fits.below {w w' : World} {x : DoC} (h : Fits w x) (hb : Below w.heap.size w w') : Fits w' x := ⟨h.row.below hb, h.len, h.cap, h.str, h.op, h.i⟩
theorem DoRow.below {w w' : World} {A : Option Addr} {n : Nat} {xs : List DoC} (h : DoRow w A n xs) (hb : Below w.heap.size w w') : DoRow w' A n xs :=
  ⟨h.len, fun hn => by
    obtain ⟨b, off, e, hl, hx⟩ := h.cells hn
    refine ⟨b, off, e, Nat.lt_of_lt_of_le hl hb.size, fun i hi => ?_⟩
    obtain ⟨x0, x1, x2, x3⟩ := hx i hi
    exact ⟨(hb.cell (p := ⟨b, off + i * 4, none⟩) hl).trans x0, (hb.cell (p := ⟨b, off + i * 4 + 1, none⟩) hl).trans x1, (hb.cell (p := ⟨b, off + i * 4 + 2, none⟩) hl).trans x2, (hb.cell (p := ⟨b, off + i * 4 + 3, none⟩) hl).trans x3⟩, fun x hx => (h.each x hx).below hb⟩
/-- A row, and its place. -/
structure Rw where
  A : Option Addr
  n : Nat
  c : Nat
  xs : List DoC
structure ListRow (w : World) (A : Option Addr) (m : Nat) (ls : List Rw) : Prop where
  len : ls.length = m
  cells : 0 < m → ∃ b off, A = some ⟨b, off, none⟩ ∧ b < w.heap.size ∧ ∀ i (h : i < ls.length), w.cell? ⟨b, off + i, none⟩ = some (.slice ls[i].A ls[i].n ls[i].c)
  each : ∀ l ∈ ls, DoRow w l.A l.n l.xs ∧ l.n ≤ 9223372036854775807
/-- Some truth value is answered. -/
def Tells (e : Ending) : Prop := ∃ b, e = .returned (.bool b)
set_option maxRecDepth 100000 in
set_option maxHeartbeats 4000000 in
theorem short_any (A : Option Addr) (m c : Nat) (ls : List Rw) (hm : m ≤ 9223372036854775807) (w : World) (h : ListRow w A m ls) :
    Calls Try.prog 5 #[.slice A m c] w fun e w' => Tells e ∧ Below w.heap.size w w' := by
  have HL := Lib.hid h
  clear h
  go_enter Try.func5, Try.ntmps5
  go_wp2
  go_loopw [3, 4, 10] (fun s a i wr => ∃ j N M : Nat, j ≤ m ∧ i = .int .i64 j ∧ s = .int .i64 N ∧ a = .int .i64 M ∧ N ≤ 24578 ∧ M ≤ 61 ∧ Below w.heap.size w wr) (fun _ _ i _ => m - (intOf i).toNat)
  case atStart => exact ⟨0, 0, 0, Nat.zero_le _, rfl, rfl, rfl, by omega, by omega, Below.refl _ _⟩
  case round =>
    obtain ⟨j, N, M, hj, rfl, rfl, rfl, hN, hM, hb⟩ := hrel
    by_cases hlt : j < m
    · obtain ⟨b, off, rfl, hbl, hcl⟩ := HL.out.cells (by omega)
      have hjx : j < ls.length := by rw [HL.out.len]; exact hlt
      have cx := (hb.cell (p := ⟨b, off + j, none⟩) hbl).trans (hcl j hjx)
      obtain ⟨hr, hn⟩ := HL.out.each _ (List.getElem_mem hjx)
      clear hcl
      generalize ls[j] = l at *
      obtain ⟨B, n, cc, xs⟩ := l
      simp only at cx hr hn
      have HR := Lib.hid hr
      have HB := Lib.hid hb
      clear hr hb
      obtain ⟨wo, hwo⟩ : ∃ wo : World, wo = wr := ⟨_, rfl⟩
      subst hwo
      go_wp2
      clear cx
      go_loopw [3, 4, 7] (fun s a i wr => ∃ k N M : Nat, k ≤ n ∧ i = .int .i64 k ∧ s = .int .i64 N ∧ a = .int .i64 M ∧ N ≤ 24578 ∧ M ≤ 61 ∧ Below w.heap.size w wr) (fun _ _ i _ => n - (intOf i).toNat)
      case atStart => exact ⟨0, N, M, Nat.zero_le _, rfl, rfl, rfl, hN, hM, HB.out⟩
      case round =>
        obtain ⟨k, N2, M2, hk, rfl, rfl, rfl, hN2, hM2, hb2⟩ := hrel
        have HB2 := Lib.hid hb2
        by_cases g1 : (k : Int) < (n : Int)
        · by_cases g2 : (M2 : Int) ≤ 60
          · by_cases g3 : (N2 : Int) ≤ 8192
            · have HG := Lib.hid (And.intro hk (And.intro hN2 (And.intro hM2 (And.intro hj (And.intro hN (And.intro hM (And.intro hlt (And.intro hn hm))))))))
              clear hk hN2 hM2 hj hN hM hlt hm hb2 hbl hjx
              go_wp2
              obtain ⟨b2, off2, rfl, hbl2, hcl2⟩ := HR.out.cells (by omega)
              have hkx : k < xs.length := by rw [HR.out.len]; omega
              obtain ⟨_, _, x2, x3⟩ := hcl2 k hkx
              have x2 := (HB2.out.cell (p := ⟨b2, off2 + k * 4 + 2, none⟩) hbl2).trans x2
              have x3 := (HB2.out.cell (p := ⟨b2, off2 + k * 4 + 3, none⟩) hbl2).trans x3
              clear hcl2
              generalize xs[k] = y at *
              obtain ⟨⟨yo, yi, ys, yk⟩, yA, yn, yc⟩ := y
              simp only at x2 x3
              clear hbl2 hkx
              rcases Nat.lt_trichotomy ys.size 8193 with p1 | p1 | p1
              · have q1 : (ys.size : Int) < 8193 := by omega
                have q2 : ¬ 8193 < (ys.size : Int) := by omega
                have hA : ys.size ≤ 8193 := by omega
                rcases Nat.lt_trichotomy yn 8193 with p2 | p2 | p2
                · have q3 : (yn : Int) < 8193 := by omega
                  have q4 : ¬ 8193 < (yn : Int) := by omega
                  have hB : yn ≤ 8193 := by omega
                  have hE := Lib.hid (And.intro hA hB)
                  clear p1 p2 hA hB
                  go_quiet (fail)
                  go_wp2
                  obtain ⟨hk, hN2, hM2, _⟩ := HG.out
                  obtain ⟨hA, hB⟩ := hE.out
                  refine ⟨⟨k + 1, N2 + (ys.size + yn), M2 + 1, by omega, by go_num, by go_num, by go_num, by omega, by omega, below_drewN HB2.out _⟩, by simp [intOf]; omega⟩
                · have q3 : ¬ (yn : Int) < 8193 := by omega
                  have q4 : ¬ 8193 < (yn : Int) := by omega
                  have hB : yn ≤ 8193 := by omega
                  have hE := Lib.hid (And.intro hA hB)
                  clear p1 p2 hA hB
                  go_quiet (fail)
                  go_wp2
                  obtain ⟨hk, hN2, hM2, _⟩ := HG.out
                  obtain ⟨hA, hB⟩ := hE.out
                  refine ⟨⟨k + 1, N2 + (ys.size + yn), M2 + 1, by omega, by go_num, by go_num, by go_num, by omega, by omega, below_drewN HB2.out _⟩, by simp [intOf]; omega⟩
                · have q3 : ¬ (yn : Int) < 8193 := by omega
                  have q4 : 8193 < (yn : Int) := by omega
                  have hB : 8193 ≤ 8193 := by omega
                  have hE := Lib.hid (And.intro hA hB)
                  clear p1 p2 hA hB
                  go_quiet (fail)
                  go_wp2
                  obtain ⟨hk, hN2, hM2, _⟩ := HG.out
                  obtain ⟨hA, hB⟩ := hE.out
                  refine ⟨⟨k + 1, N2 + (ys.size + 8193), M2 + 1, by omega, by go_num, by go_num, by go_num, by omega, by omega, below_drewN HB2.out _⟩, by simp [intOf]; omega⟩
              · have q1 : ¬ (ys.size : Int) < 8193 := by omega
                have q2 : ¬ 8193 < (ys.size : Int) := by omega
                have hA : ys.size ≤ 8193 := by omega
                rcases Nat.lt_trichotomy yn 8193 with p2 | p2 | p2
                · have q3 : (yn : Int) < 8193 := by omega
                  have q4 : ¬ 8193 < (yn : Int) := by omega
                  have hB : yn ≤ 8193 := by omega
                  have hE := Lib.hid (And.intro hA hB)
                  clear p1 p2 hA hB
                  go_quiet (fail)
                  go_wp2
                  obtain ⟨hk, hN2, hM2, _⟩ := HG.out
                  obtain ⟨hA, hB⟩ := hE.out
                  refine ⟨⟨k + 1, N2 + (ys.size + yn), M2 + 1, by omega, by go_num, by go_num, by go_num, by omega, by omega, below_drewN HB2.out _⟩, by simp [intOf]; omega⟩
                · have q3 : ¬ (yn : Int) < 8193 := by omega
                  have q4 : ¬ 8193 < (yn : Int) := by omega
                  have hB : yn ≤ 8193 := by omega
                  have hE := Lib.hid (And.intro hA hB)
                  clear p1 p2 hA hB
                  go_quiet (fail)
                  go_wp2
                  obtain ⟨hk, hN2, hM2, _⟩ := HG.out
                  obtain ⟨hA, hB⟩ := hE.out
                  refine ⟨⟨k + 1, N2 + (ys.size + yn), M2 + 1, by omega, by go_num, by go_num, by go_num, by omega, by omega, below_drewN HB2.out _⟩, by simp [intOf]; omega⟩
                · have q3 : ¬ (yn : Int) < 8193 := by omega
                  have q4 : 8193 < (yn : Int) := by omega
                  have hB : 8193 ≤ 8193 := by omega
                  have hE := Lib.hid (And.intro hA hB)
                  clear p1 p2 hA hB
                  go_quiet (fail)
                  go_wp2
                  obtain ⟨hk, hN2, hM2, _⟩ := HG.out
                  obtain ⟨hA, hB⟩ := hE.out
                  refine ⟨⟨k + 1, N2 + (ys.size + 8193), M2 + 1, by omega, by go_num, by go_num, by go_num, by omega, by omega, below_drewN HB2.out _⟩, by simp [intOf]; omega⟩
              · have q1 : ¬ (ys.size : Int) < 8193 := by omega
                have q2 : 8193 < (ys.size : Int) := by omega
                have hA : 8193 ≤ 8193 := by omega
                rcases Nat.lt_trichotomy yn 8193 with p2 | p2 | p2
                · have q3 : (yn : Int) < 8193 := by omega
                  have q4 : ¬ 8193 < (yn : Int) := by omega
                  have hB : yn ≤ 8193 := by omega
                  have hE := Lib.hid (And.intro hA hB)
                  clear p1 p2 hA hB
                  go_quiet (fail)
                  go_wp2
                  obtain ⟨hk, hN2, hM2, _⟩ := HG.out
                  obtain ⟨hA, hB⟩ := hE.out
                  refine ⟨⟨k + 1, N2 + (8193 + yn), M2 + 1, by omega, by go_num, by go_num, by go_num, by omega, by omega, below_drewN HB2.out _⟩, by simp [intOf]; omega⟩
                · have q3 : ¬ (yn : Int) < 8193 := by omega
                  have q4 : ¬ 8193 < (yn : Int) := by omega
                  have hB : yn ≤ 8193 := by omega
                  have hE := Lib.hid (And.intro hA hB)
                  clear p1 p2 hA hB
                  go_quiet (fail)
                  go_wp2
                  obtain ⟨hk, hN2, hM2, _⟩ := HG.out
                  obtain ⟨hA, hB⟩ := hE.out
                  refine ⟨⟨k + 1, N2 + (8193 + yn), M2 + 1, by omega, by go_num, by go_num, by go_num, by omega, by omega, below_drewN HB2.out _⟩, by simp [intOf]; omega⟩
                · have q3 : ¬ (yn : Int) < 8193 := by omega
                  have q4 : 8193 < (yn : Int) := by omega
                  have hB : 8193 ≤ 8193 := by omega
                  have hE := Lib.hid (And.intro hA hB)
                  clear p1 p2 hA hB
                  go_quiet (fail)
                  go_wp2
                  obtain ⟨hk, hN2, hM2, _⟩ := HG.out
                  obtain ⟨hA, hB⟩ := hE.out
                  refine ⟨⟨k + 1, N2 + (8193 + 8193), M2 + 1, by omega, by go_num, by go_num, by go_num, by omega, by omega, below_drewN HB2.out _⟩, by simp [intOf]; omega⟩
            · have HG := Lib.hid (And.intro hN2 (And.intro hM2 (And.intro hlt hm)))
              clear hk hN2 hM2 hj hN hM hb2 hn hbl hjx
              go_wp2
              go_roundw
              case rel =>
                obtain ⟨hN2, hM2, hlt, _⟩ := HG.out
                exact ⟨j + 1, N2, M2, by omega, by go_num, rfl, rfl, hN2, hM2, HB2.out⟩
              case measure => simp [intOf]; omega
          · have HG := Lib.hid (And.intro hN2 (And.intro hM2 (And.intro hlt hm)))
            clear hk hN2 hM2 hj hN hM hb2 hn hbl hjx
            go_wp2
            go_roundw
            case rel =>
              obtain ⟨hN2, hM2, hlt, _⟩ := HG.out
              exact ⟨j + 1, N2, M2, by omega, by go_num, rfl, rfl, hN2, hM2, HB2.out⟩
            case measure => simp [intOf]; omega
        · have HG := Lib.hid (And.intro hN2 (And.intro hM2 (And.intro hlt hm)))
          clear hk hN2 hM2 hj hN hM hb2 hn hbl hjx
          go_wp2
          go_roundw
          case rel =>
            obtain ⟨hN2, hM2, hlt, _⟩ := HG.out
            exact ⟨j + 1, N2, M2, by omega, by go_num, rfl, rfl, hN2, hM2, HB2.out⟩
          case measure => simp [intOf]; omega
    · obtain rfl : j = m := by omega
      have HB := Lib.hid hb
      clear hb hj
      by_cases g1 : (M : Int) ≤ 60
      · go_wp2
        go_ret
        exact ⟨⟨_, rfl⟩, HB.out⟩
      · go_wp2
        go_ret
        exact ⟨⟨_, rfl⟩, HB.out⟩
end Go.Proofs.Ytidkckapjelbmaa.Sto

/- What befalls a store, opened: one thing, and a row of things. -/
namespace Go.Proofs.Ytidkckapjelbmaa.Sto
open Go.ChangeShapes Go.WideShapes Go.ChangeAt Go.RowKit
open Rws
open Dv (DoV)

theorem cells_do : Try.prog.cellsOf 35 = 4 := by kernel_rfl
theorem cells_is : Try.prog.cellsOf 23 = 1 := by kernel_rfl
set_option maxRecDepth 100000 in
theorem do_cells {H : Type} {enc : TypeId × Value → H} {w : World} {base : Nat} {spare : Nat → Bool} {held : Bool} {fuel : Nat} {cs : List Value} {x : DataW H × List MemPlace}
    (h : DataW.trod enc Try.prog w base spare held fuel 35 cs = some x) (hlt : ∀ q ∈ x.2, q.block < w.heap.size) :
    ∃ y : DoC, cs = [.int .i64 y.v.op, .int .i64 y.v.i, .slice y.A y.n y.c, .string y.v.s] ∧ Fits w y := by
  obtain ⟨xs, n, _, rfl, hlen, hxs, hf⟩ := DataW.trod_struct Try.underlying35 h
  rw [cells_do] at hlen
  have hx4 : xs.length = 4 := hxs
  match cs, hlen with
  | [v0, v1, v2, v3], _ =>
    match xs, hx4 with
    | [x0, x1, x2, x3], _ =>
      have t0 : DataW.trod enc Try.prog w base spare held n 3 (([v0, v1, v2, v3].drop 0).take (Try.prog.cellsOf 3)) = some x0 := hf 0 _ rfl
      have t1 : DataW.trod enc Try.prog w base spare held n 3 (([v0, v1, v2, v3].drop 1).take (Try.prog.cellsOf 3)) = some x1 := hf 1 _ rfl
      have t2 : DataW.trod enc Try.prog w base spare held n 9 (([v0, v1, v2, v3].drop 3).take (Try.prog.cellsOf 9)) = some x3 := hf 3 _ rfl
      have t3 : DataW.trod enc Try.prog w base spare held n 23 (([v0, v1, v2, v3].drop 2).take (Try.prog.cellsOf 23)) = some x2 := hf 2 _ rfl
      rw [cells_i] at t0 t1
      rw [cells_s] at t2
      rw [cells_is] at t3
      have hl3 : ∀ q ∈ x2.2, q.block < w.heap.size := fun q hq => hlt q (by simp [hq])
      obtain ⟨z0, e0, _, w0⟩ := DataW.trod_int Try.underlying3 t0
      obtain ⟨z1, e1, _, w1⟩ := DataW.trod_int Try.underlying3 t1
      obtain ⟨z2, e2, _, w2⟩ := DataW.trod_string Try.underlying9 t2
      simp at e0 e1 e2
      subst e0 e1 e2
      rcases open_ints Try.underlying23 Try.underlying3 cells_i t3 with ⟨hcs, _⟩ | ⟨a, len, cap, zs, hcs, _, hl, hm, hz, hx, hcell, hwz⟩
      · simp at hcs
        subst hcs
        exact ⟨⟨⟨z0, z1, z2, []⟩, none, 0, 0⟩, rfl, ⟨rfl, fun h => absurd (show 0 < 0 from h) (by omega)⟩, Nat.le_refl _, Nat.zero_le _, w2, wf_i64 w0, wf_i64 w1⟩
      · simp at hcs
        subst hcs
        have hle : len ≤ zs.length := by rw [hz]; split <;> omega
        refine ⟨⟨⟨z0, z1, z2, zs.take len⟩, some a, len, cap⟩, rfl, ⟨by show (zs.take len).length = len; rw [List.length_take]; omega, fun h0 => ?_⟩, hl, hm, w2, wf_i64 w0, wf_i64 w1⟩
        have h0 : 0 < len := h0
        obtain ⟨b, off, spot⟩ := a
        have hspot : spot = none := by simpa [Addr.add] using World.cell?_spot (hcell 0 (by omega))
        subst hspot
        have hbW : b < w.heap.size := hl3 (.cell b off) (by rw [hx]; exact MemPlace.mem_row.2 ⟨0, by omega, by simp⟩)
        refine ⟨b, off, rfl, hbW, fun i hi => ?_⟩
        have hi' : i < len := by simp at hi; omega
        have hc := hcell i (by omega)
        rw [add_plain] at hc
        rw [hc, List.getElem_take]
        simp [List.getD, List.getElem?_eq_getElem (show i < zs.length by omega)]
theorem okWide_agg {P : Program} {W : World} {r : Reach} {b0 : Nat} {t : TypeId} {fs : Array Field} {v : Value} (ht : P.underlying t = some (.struct fs)) (h : Value.okWide P W r b0 t v) : ∃ xs : Array Value, v = .agg xs := by
  simp only [Value.okWide, ht] at h
  cases v <;> simp_all
set_option maxRecDepth 100000 in
theorem open_do {H : Type} {enc : TypeId × Value → H} {w : World} {base b0 : Nat} {r : Reach} {spare : Nat → Bool} {held : Bool} {v : Value} {d : DataW H} {ps : List MemPlace}
    (hv : Value.okWide Try.prog w r b0 35 v) (h : DataW.Trod enc Try.prog w base spare held 35 v d ps) (hlt : ∀ x ∈ ps, x.block < w.heap.size) :
    ∃ y : DoC, v = .agg #[.int .i64 y.v.op, .int .i64 y.v.i, .slice y.A y.n y.c, .string y.v.s] ∧ Fits w y := by
  obtain ⟨xs, rfl⟩ := okWide_agg Try.underlying35 hv
  obtain ⟨fuel, hf⟩ := h
  obtain ⟨y, hy, hfit⟩ := do_cells hf hlt
  refine ⟨y, ?_, hfit⟩
  have h2 : xs.toList = _ := hy
  congr 1
  apply Array.ext'
  rw [h2]
set_option maxRecDepth 100000 in
theorem open_dos {H : Type} {enc : TypeId × Value → H} {w : World} {base b0 : Nat} {r : Reach} {spare : Nat → Bool} {held : Bool} {v : Value} {d : DataW H} {ps : List MemPlace}
    (hv : Value.okWide Try.prog w r b0 22 v) (h : DataW.Trod enc Try.prog w base spare held 22 v d ps) (hlt : ∀ x ∈ ps, x.block < w.heap.size) :
    ∃ A n cap xs, v = .slice A n cap ∧ DoRow w A n xs ∧ n ≤ cap ∧ cap ≤ maxLen := by
  obtain ⟨a0, len, cap, rfl⟩ := okWide_slice Try.underlying22 hv
  obtain ⟨fuel, hf⟩ := h
  rcases Deep.open_slice Try.underlying22 hf with ⟨hcs, hx⟩ | ⟨a, len', cap', m, n, D, Pl, hcs, _, hl, hm, hmm, hx, hcell⟩
  · simp [Value.cells] at hcs
    obtain ⟨rfl, rfl, rfl⟩ := hcs
    exact ⟨none, 0, 0, [], rfl, ⟨rfl, fun h => absurd h (by omega), fun x hx => by cases hx⟩, Nat.le_refl _, Nat.zero_le _⟩
  · simp [Value.cells] at hcs
    obtain ⟨rfl, rfl, rfl⟩ := hcs
    simp only [Prod.mk.injEq] at hx
    obtain ⟨rfl, rfl⟩ := hx
    rw [cells_do] at hcell hlt
    have hle : len ≤ m := by rw [hmm]; split <;> omega
    have hpl : ∀ i, i < m → ∀ q ∈ Pl i, q.block < w.heap.size := fun i hi q hq => hlt q (List.mem_append_right _ (List.mem_flatMap.2 ⟨i, List.mem_range.2 hi, hq⟩))
    have each : ∀ i, i < m → ∃ y : DoC, w.cells? base (a.add (i * 4)) 4 = some [.int .i64 y.v.op, .int .i64 y.v.i, .slice y.A y.n y.c, .string y.v.s] ∧ Fits w y := by
      intro i hi
      obtain ⟨cs', hc, ht⟩ := hcell i hi
      obtain ⟨y, rfl, hfit⟩ := do_cells ht (hpl i hi)
      exact ⟨y, hc, hfit⟩
    have hex : ∃ f : Nat → DoC, ∀ i, i < m → w.cells? base (a.add (i * 4)) 4 = some [.int .i64 (f i).v.op, .int .i64 (f i).v.i, .slice (f i).A (f i).n (f i).c, .string (f i).v.s] ∧ Fits w (f i) := by
      refine ⟨fun i => if h : i < m then (each i h).choose else ⟨⟨0, 0, ⟨#[]⟩, []⟩, none, 0, 0⟩, fun i hi => ?_⟩
      simp only [dif_pos hi]
      exact (each i hi).choose_spec
    obtain ⟨f, hf⟩ := hex
    refine ⟨some a, len, cap, (List.range len).map f, rfl, ⟨by simp, fun h0 => ?_, fun x hx => ?_⟩, hl, hm⟩
    · have c4 : ∀ i, i < m → w.cell? ((a.add (i * 4)).add 0) = some (.int .i64 (f i).v.op) ∧ w.cell? ((a.add (i * 4)).add 1) = some (.int .i64 (f i).v.i) ∧ w.cell? ((a.add (i * 4)).add 2) = some (.slice (f i).A (f i).n (f i).c) ∧ w.cell? ((a.add (i * 4)).add 3) = some (.string (f i).v.s) := by
        intro i hi
        have h1 := (hf i hi).1
        unfold World.cells? at h1
        split at h1
        · rw [show List.range 4 = [0, 1, 2, 3] from rfl] at h1
          simp [Option.bind_eq_some_iff] at h1
          exact h1
        · cases h1
      obtain ⟨b, off, spot⟩ := a
      have hspot : spot = none := by
        have := World.cell?_spot (c4 0 (by omega)).1
        simpa [Addr.add] using this
      subst hspot
      have hbW : b < w.heap.size := hlt (.cell b off) (List.mem_append_left _ (MemPlace.mem_row.2 ⟨0, by omega, by simp⟩))
      refine ⟨b, off, rfl, hbW, fun i hi => ?_⟩
      have hi' : i < len := by simpa using hi
      obtain ⟨c0, c1, c2, c3⟩ := c4 i (by omega)
      simp only [add_plain, List.getElem_map, List.getElem_range] at c0 c1 c2 c3 ⊢
      exact ⟨c0, c1, c2, c3⟩
    · obtain ⟨i, hi, rfl⟩ := List.mem_map.1 hx
      exact (hf i (by have := List.mem_range.1 hi; omega)).2
end Go.Proofs.Ytidkckapjelbmaa.Sto
