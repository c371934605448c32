/- Rows of what befalls a device; whether they are short. -/
import Derived.Test.YtdedbbbgpjhjhacDevG
import Derived.Deep.QuietTactic
import Derived.BigQuiet
namespace Go.Proofs.Ytdedbbbgpjhjhac.Dv
open Go.RowKit
open Mem
open Rws

/-- Something that befalls, with the place of its numbers. -/
structure DoC where
  v : DoV
  A : Option Addr
  n : Nat
  c : Nat
structure Fits (w : World) (x : DoC) : Prop where
  row : NumRow w x.A x.n x.v.ks
  len : x.n ≤ x.c
  cap : x.c ≤ maxLen
  str : x.v.s.size ≤ maxLen
  op : -9223372036854775808 ≤ x.v.op ∧ x.v.op ≤ 9223372036854775807
  i : -9223372036854775808 ≤ x.v.i ∧ x.v.i ≤ 9223372036854775807
structure DoRow (w : World) (A : Option Addr) (n : Nat) (xs : List DoC) : Prop where
  len : xs.length = n
  cells : 0 < n → ∃ b off, A = some ⟨b, off, none⟩ ∧ b < w.heap.size ∧ ∀ i (h : i < xs.length), w.cell? ⟨b, off + i * 4, none⟩ = some (.int .i64 xs[i].v.op) ∧ w.cell? ⟨b, off + i * 4 + 1, none⟩ = some (.int .i64 xs[i].v.i) ∧
    w.cell? ⟨b, off + i * 4 + 2, none⟩ = some (.string xs[i].v.s) ∧ w.cell? ⟨b, off + i * 4 + 3, none⟩ = some (.slice xs[i].A xs[i].n xs[i].c)
  each : ∀ x ∈ xs, Fits w x
theorem Fits.below {w w' : World} {x : DoC} (h : Fits w x) (hb : Below w.heap.size w w') : Fits w' x := ⟨h.row.below hb, h.len, h.cap, h.str, h.op, h.i⟩
theorem DoRow.below {w w' : World} {A : Option Addr} {n : Nat} {xs : List DoC} (h : DoRow w A n xs) (hb : Below w.heap.size w w') : DoRow w' A n xs :=
  ⟨h.len, fun hn => by
    obtain ⟨b, off, e, hl, hx⟩ := h.cells hn
    refine ⟨b, off, e, Nat.lt_of_lt_of_le hl hb.size, fun i hi => ?_⟩
    obtain ⟨x0, x1, x2, x3⟩ := hx i hi
    exact ⟨(hb.cell (p := ⟨b, off + i * 4, none⟩) hl).trans x0, (hb.cell (p := ⟨b, off + i * 4 + 1, none⟩) hl).trans x1, (hb.cell (p := ⟨b, off + i * 4 + 2, none⟩) hl).trans x2, (hb.cell (p := ⟨b, off + i * 4 + 3, none⟩) hl).trans x3⟩, fun x hx => (h.each x hx).below hb⟩
/-- A row, and its place. -/
structure Rw where
  A : Option Addr
  n : Nat
  c : Nat
  xs : List DoC
structure ListRow (w : World) (A : Option Addr) (m : Nat) (ls : List Rw) : Prop where
  len : ls.length = m
  cells : 0 < m → ∃ b off, A = some ⟨b, off, none⟩ ∧ b < w.heap.size ∧ ∀ i (h : i < ls.length), w.cell? ⟨b, off + i, none⟩ = some (.slice ls[i].A ls[i].n ls[i].c)
  each : ∀ l ∈ ls, DoRow w l.A l.n l.xs ∧ l.n ≤ 9223372036854775807
/-- Some truth value is answered. -/
def Tells (e : Ending) : Prop := ∃ b, e = .returned (.bool b)
theorem below_drewN {B : Nat} {a w : World} (h : Below B a w) (n : Nat) : Below B a (w.drewN n) := ⟨h.os, h.tape, h.output, h.size, h.block⟩
set_option maxRecDepth 100000 in
set_option maxHeartbeats 4000000 in
theorem short_any (A : Option Addr) (m c : Nat) (ls : List Rw) (hm : m ≤ 9223372036854775807) (w : World) (h : ListRow w A m ls) :
    Calls Try.prog 10 #[.slice A m c] w fun e w' => Tells e ∧ Below w.heap.size w w' := by
  have HL := Lib.hid h
  clear h
  go_enter Try.func10, Try.ntmps10
  go_wp2
  go_loopw [3, 4, 10] (fun s a i wr => ∃ j N M : Nat, j ≤ m ∧ i = .int .i64 j ∧ s = .int .i64 N ∧ a = .int .i64 M ∧ N ≤ 24578 ∧ M ≤ 81 ∧ Below w.heap.size w wr) (fun _ _ i _ => m - (intOf i).toNat)
  case atStart => exact ⟨0, 0, 0, Nat.zero_le _, rfl, rfl, rfl, by omega, by omega, Below.refl _ _⟩
  case round =>
    obtain ⟨j, N, M, hj, rfl, rfl, rfl, hN, hM, hb⟩ := hrel
    by_cases hlt : j < m
    · obtain ⟨b, off, rfl, hbl, hcl⟩ := HL.out.cells (by omega)
      have hjx : j < ls.length := by rw [HL.out.len]; exact hlt
      have cx := (hb.cell (p := ⟨b, off + j, none⟩) hbl).trans (hcl j hjx)
      obtain ⟨hr, hn⟩ := HL.out.each _ (List.getElem_mem hjx)
      clear hcl
      generalize ls[j] = l at *
      obtain ⟨B, n, cc, xs⟩ := l
      simp only at cx hr hn
      have HR := Lib.hid hr
      have HB := Lib.hid hb
      clear hr hb
      obtain ⟨wo, hwo⟩ : ∃ wo : World, wo = wr := ⟨_, rfl⟩
      subst hwo
      go_wp2
      clear cx
      go_loopw [3, 4, 7] (fun s a i wr => ∃ k N M : Nat, k ≤ n ∧ i = .int .i64 k ∧ s = .int .i64 N ∧ a = .int .i64 M ∧ N ≤ 24578 ∧ M ≤ 81 ∧ Below w.heap.size w wr) (fun _ _ i _ => n - (intOf i).toNat)
      case atStart => exact ⟨0, N, M, Nat.zero_le _, rfl, rfl, rfl, hN, hM, HB.out⟩
      case round =>
        obtain ⟨k, N2, M2, hk, rfl, rfl, rfl, hN2, hM2, hb2⟩ := hrel
        have HB2 := Lib.hid hb2
        by_cases g1 : (k : Int) < (n : Int)
        · by_cases g2 : (M2 : Int) ≤ 80
          · by_cases g3 : (N2 : Int) ≤ 8192
            · have HG := Lib.hid (And.intro hk (And.intro hN2 (And.intro hM2 (And.intro hj (And.intro hN (And.intro hM (And.intro hlt (And.intro hn hm))))))))
              clear hk hN2 hM2 hj hN hM hlt hm hb2 hbl hjx
              go_wp2
              obtain ⟨b2, off2, rfl, hbl2, hcl2⟩ := HR.out.cells (by omega)
              have hkx : k < xs.length := by rw [HR.out.len]; omega
              obtain ⟨_, _, x2, x3⟩ := hcl2 k hkx
              have x2 := (HB2.out.cell (p := ⟨b2, off2 + k * 4 + 2, none⟩) hbl2).trans x2
              have x3 := (HB2.out.cell (p := ⟨b2, off2 + k * 4 + 3, none⟩) hbl2).trans x3
              clear hcl2
              generalize xs[k] = y at *
              obtain ⟨⟨yo, yi, ys, yk⟩, yA, yn, yc⟩ := y
              simp only at x2 x3
              clear hbl2 hkx
              rcases Nat.lt_trichotomy ys.size 8193 with p1 | p1 | p1
              · have q1 : (ys.size : Int) < 8193 := by omega
                have q2 : ¬ 8193 < (ys.size : Int) := by omega
                have hA : ys.size ≤ 8193 := by omega
                rcases Nat.lt_trichotomy yn 8193 with p2 | p2 | p2
                · have q3 : (yn : Int) < 8193 := by omega
                  have q4 : ¬ 8193 < (yn : Int) := by omega
                  have hB : yn ≤ 8193 := by omega
                  have hE := Lib.hid (And.intro hA hB)
                  clear p1 p2 hA hB
                  go_quiet (fail)
                  go_wp2
                  obtain ⟨hk, hN2, hM2, _⟩ := HG.out
                  obtain ⟨hA, hB⟩ := hE.out
                  refine ⟨⟨k + 1, N2 + (ys.size + yn), M2 + 1, by omega, by go_num, by go_num, by go_num, by omega, by omega, below_drewN HB2.out _⟩, by simp [intOf]; omega⟩
                · have q3 : ¬ (yn : Int) < 8193 := by omega
                  have q4 : ¬ 8193 < (yn : Int) := by omega
                  have hB : yn ≤ 8193 := by omega
                  have hE := Lib.hid (And.intro hA hB)
                  clear p1 p2 hA hB
                  go_quiet (fail)
                  go_wp2
                  obtain ⟨hk, hN2, hM2, _⟩ := HG.out
                  obtain ⟨hA, hB⟩ := hE.out
                  refine ⟨⟨k + 1, N2 + (ys.size + yn), M2 + 1, by omega, by go_num, by go_num, by go_num, by omega, by omega, below_drewN HB2.out _⟩, by simp [intOf]; omega⟩
                · have q3 : ¬ (yn : Int) < 8193 := by omega
                  have q4 : 8193 < (yn : Int) := by omega
                  have hB : 8193 ≤ 8193 := by omega
                  have hE := Lib.hid (And.intro hA hB)
                  clear p1 p2 hA hB
                  go_quiet (fail)
                  go_wp2
                  obtain ⟨hk, hN2, hM2, _⟩ := HG.out
                  obtain ⟨hA, hB⟩ := hE.out
                  refine ⟨⟨k + 1, N2 + (ys.size + 8193), M2 + 1, by omega, by go_num, by go_num, by go_num, by omega, by omega, below_drewN HB2.out _⟩, by simp [intOf]; omega⟩
              · have q1 : ¬ (ys.size : Int) < 8193 := by omega
                have q2 : ¬ 8193 < (ys.size : Int) := by omega
                have hA : ys.size ≤ 8193 := by omega
                rcases Nat.lt_trichotomy yn 8193 with p2 | p2 | p2
                · have q3 : (yn : Int) < 8193 := by omega
                  have q4 : ¬ 8193 < (yn : Int) := by omega
                  have hB : yn ≤ 8193 := by omega
                  have hE := Lib.hid (And.intro hA hB)
                  clear p1 p2 hA hB
                  go_quiet (fail)
                  go_wp2
                  obtain ⟨hk, hN2, hM2, _⟩ := HG.out
                  obtain ⟨hA, hB⟩ := hE.out
                  refine ⟨⟨k + 1, N2 + (ys.size + yn), M2 + 1, by omega, by go_num, by go_num, by go_num, by omega, by omega, below_drewN HB2.out _⟩, by simp [intOf]; omega⟩
                · have q3 : ¬ (yn : Int) < 8193 := by omega
                  have q4 : ¬ 8193 < (yn : Int) := by omega
                  have hB : yn ≤ 8193 := by omega
                  have hE := Lib.hid (And.intro hA hB)
                  clear p1 p2 hA hB
                  go_quiet (fail)
                  go_wp2
                  obtain ⟨hk, hN2, hM2, _⟩ := HG.out
                  obtain ⟨hA, hB⟩ := hE.out
                  refine ⟨⟨k + 1, N2 + (ys.size + yn), M2 + 1, by omega, by go_num, by go_num, by go_num, by omega, by omega, below_drewN HB2.out _⟩, by simp [intOf]; omega⟩
                · have q3 : ¬ (yn : Int) < 8193 := by omega
                  have q4 : 8193 < (yn : Int) := by omega
                  have hB : 8193 ≤ 8193 := by omega
                  have hE := Lib.hid (And.intro hA hB)
                  clear p1 p2 hA hB
                  go_quiet (fail)
                  go_wp2
                  obtain ⟨hk, hN2, hM2, _⟩ := HG.out
                  obtain ⟨hA, hB⟩ := hE.out
                  refine ⟨⟨k + 1, N2 + (ys.size + 8193), M2 + 1, by omega, by go_num, by go_num, by go_num, by omega, by omega, below_drewN HB2.out _⟩, by simp [intOf]; omega⟩
              · have q1 : ¬ (ys.size : Int) < 8193 := by omega
                have q2 : 8193 < (ys.size : Int) := by omega
                have hA : 8193 ≤ 8193 := by omega
                rcases Nat.lt_trichotomy yn 8193 with p2 | p2 | p2
                · have q3 : (yn : Int) < 8193 := by omega
                  have q4 : ¬ 8193 < (yn : Int) := by omega
                  have hB : yn ≤ 8193 := by omega
                  have hE := Lib.hid (And.intro hA hB)
                  clear p1 p2 hA hB
                  go_quiet (fail)
                  go_wp2
                  obtain ⟨hk, hN2, hM2, _⟩ := HG.out
                  obtain ⟨hA, hB⟩ := hE.out
                  refine ⟨⟨k + 1, N2 + (8193 + yn), M2 + 1, by omega, by go_num, by go_num, by go_num, by omega, by omega, below_drewN HB2.out _⟩, by simp [intOf]; omega⟩
                · have q3 : ¬ (yn : Int) < 8193 := by omega
                  have q4 : ¬ 8193 < (yn : Int) := by omega
                  have hB : yn ≤ 8193 := by omega
                  have hE := Lib.hid (And.intro hA hB)
                  clear p1 p2 hA hB
                  go_quiet (fail)
                  go_wp2
                  obtain ⟨hk, hN2, hM2, _⟩ := HG.out
                  obtain ⟨hA, hB⟩ := hE.out
                  refine ⟨⟨k + 1, N2 + (8193 + yn), M2 + 1, by omega, by go_num, by go_num, by go_num, by omega, by omega, below_drewN HB2.out _⟩, by simp [intOf]; omega⟩
                · have q3 : ¬ (yn : Int) < 8193 := by omega
                  have q4 : 8193 < (yn : Int) := by omega
                  have hB : 8193 ≤ 8193 := by omega
                  have hE := Lib.hid (And.intro hA hB)
                  clear p1 p2 hA hB
                  go_quiet (fail)
                  go_wp2
                  obtain ⟨hk, hN2, hM2, _⟩ := HG.out
                  obtain ⟨hA, hB⟩ := hE.out
                  refine ⟨⟨k + 1, N2 + (8193 + 8193), M2 + 1, by omega, by go_num, by go_num, by go_num, by omega, by omega, below_drewN HB2.out _⟩, by simp [intOf]; omega⟩
            · have HG := Lib.hid (And.intro hN2 (And.intro hM2 (And.intro hlt hm)))
              clear hk hN2 hM2 hj hN hM hb2 hn hbl hjx
              go_wp2
              go_roundw
              case rel =>
                obtain ⟨hN2, hM2, hlt, _⟩ := HG.out
                exact ⟨j + 1, N2, M2, by omega, by go_num, rfl, rfl, hN2, hM2, HB2.out⟩
              case measure => simp [intOf]; omega
          · have HG := Lib.hid (And.intro hN2 (And.intro hM2 (And.intro hlt hm)))
            clear hk hN2 hM2 hj hN hM hb2 hn hbl hjx
            go_wp2
            go_roundw
            case rel =>
              obtain ⟨hN2, hM2, hlt, _⟩ := HG.out
              exact ⟨j + 1, N2, M2, by omega, by go_num, rfl, rfl, hN2, hM2, HB2.out⟩
            case measure => simp [intOf]; omega
        · have HG := Lib.hid (And.intro hN2 (And.intro hM2 (And.intro hlt hm)))
          clear hk hN2 hM2 hj hN hM hb2 hn hbl hjx
          go_wp2
          go_roundw
          case rel =>
            obtain ⟨hN2, hM2, hlt, _⟩ := HG.out
            exact ⟨j + 1, N2, M2, by omega, by go_num, rfl, rfl, hN2, hM2, HB2.out⟩
          case measure => simp [intOf]; omega
    · obtain rfl : j = m := by omega
      have HB := Lib.hid hb
      clear hb hj
      by_cases g1 : (M : Int) ≤ 80
      · go_wp2
        go_ret
        exact ⟨⟨_, rfl⟩, HB.out⟩
      · go_wp2
        go_ret
        exact ⟨⟨_, rfl⟩, HB.out⟩
end Go.Proofs.Ytdedbbbgpjhjhac.Dv
