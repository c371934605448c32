import Derived.Test.YthejlenafjnmkaaGreatT10
import Derived.Deep.QuietTactic
import Derived.BigQuiet
import Derived.Deep.Slices
import Derived.Test.YthejlenafjnmkaaGreatIMap

/- A store that no call made: nothing befalls it. -/
namespace Go.Proofs.YthejlenafjnmkaaGreat.Sto
open Go.RowKit
open Oct (Has Chg)
open Rws

inductive Nob (w : World) : Option Addr → Prop where
  | none : Nob w none
  | bare (q : Nat) : Has w q 88 #[.int .i64 0, .int .i64 0, .string ⟨#[]⟩, .pointer none, .map none, .map none] → Nob w (some ⟨q, 0, none⟩)
theorem Nob.below {w w' : World} {e : Option Addr} (h : Nob w e) (hb : Below w.heap.size w w') : Nob w' e := by
  cases h with
  | none => exact .none
  | bare q h => exact .bare q (has_blw h hb)
theorem made_no (e : Option Addr) (w : World) (h : Nob w e) :
    Calls Tryz.prog 69 #[.pointer e] w fun x w' => x = .returned (.bool false) ∧ w = w' := by
  cases h with
  | none =>
    go_enter Tryz.func69, Tryz.ntmps69
    go_wp2
    go_ret
    exact ⟨rfl, rfl⟩
  | bare q h =>
    have c3 := Has.at_ h 3
    simp at c3
    go_enter Tryz.func69, Tryz.ntmps69
    go_wp2
    go_ret
    exact ⟨rfl, rfl⟩
theorem put_no (e : Option Addr) (A : Option Addr) (n c : Nat) (t : ByteArray) (w : World) (h : Nob w e) :
    Calls Tryz.prog 28 #[.pointer e, .slice A n c, .string t] w fun x w' => x = .returned (.tuple #[.int .i64 0, .int .i64 200]) ∧ w = w' := by
  have HM := Lib.hid (made_no e w h)
  clear h
  go_enter Tryz.func28, Tryz.ntmps28
  go_wp2_with fail
  refine HM.out.mono ?_
  rintro x w' ⟨rfl, rfl⟩
  go_wp2
  go_ret2
  exact ⟨rfl, rfl⟩
theorem hold_no (e : Option Addr) (i : Int) (w : World) (h : Nob w e) :
    Calls Tryz.prog 29 #[.pointer e, .int .i64 i] w fun x w' => x = .returned (.int .i64 200) ∧ w = w' := by
  have HM := Lib.hid (made_no e w h)
  clear h
  go_enter Tryz.func29, Tryz.ntmps29
  go_wp2_with fail
  refine HM.out.mono ?_
  rintro x w' ⟨rfl, rfl⟩
  go_wp2
  go_ret
  exact ⟨rfl, rfl⟩
theorem drop_no (e : Option Addr) (i : Int) (w : World) (h : Nob w e) :
    Calls Tryz.prog 54 #[.pointer e, .int .i64 i] w fun x w' => x = .returned (.int .i64 200) ∧ w = w' := by
  have HM := Lib.hid (made_no e w h)
  clear h
  go_enter Tryz.func54, Tryz.ntmps54
  go_wp2_with fail
  refine HM.out.mono ?_
  rintro x w' ⟨rfl, rfl⟩
  go_wp2
  go_ret
  exact ⟨rfl, rfl⟩
theorem sweep_no (e : Option Addr) (w : World) (h : Nob w e) :
    Calls Tryz.prog 55 #[.pointer e] w fun x w' => x = .returned (.int .i64 0) ∧ w = w' := by
  have HM := Lib.hid (made_no e w h)
  clear h
  go_enter Tryz.func55, Tryz.ntmps55
  go_wp2_with fail
  refine HM.out.mono ?_
  rintro x w' ⟨rfl, rfl⟩
  go_wp2
  go_ret
  exact ⟨rfl, rfl⟩
theorem commit_no (e : Option Addr) (i : Int) (t : ByteArray) (w : World) (h : Nob w e) :
    Calls Tryz.prog 30 #[.pointer e, .int .i64 i, .string t] w fun x w' => x = .returned (.int .i64 200) ∧ w = w' := by
  have HM := Lib.hid (made_no e w h)
  clear h
  go_enter Tryz.func30, Tryz.ntmps30
  go_wp2_with fail
  refine HM.out.mono ?_
  rintro x w' ⟨rfl, rfl⟩
  go_wp2
  go_ret
  exact ⟨rfl, rfl⟩
theorem root_no (e : Option Addr) (w : World) (h : Nob w e) :
    Calls Tryz.prog 31 #[.pointer e] w fun x w' => x = .returned (.tuple #[.int .i64 0, .string ⟨#[]⟩, .int .i64 0]) ∧ w = w' := by
  have HM := Lib.hid (made_no e w h)
  clear h
  go_enter Tryz.func31, Tryz.ntmps31
  go_wp2_with fail
  refine HM.out.mono ?_
  rintro x w' ⟨rfl, rfl⟩
  go_wp2
  go_ret3
  exact ⟨rfl, rfl⟩
theorem refs_no (e : Option Addr) (i : Int) (w : World) (h : Nob w e) :
    Calls Tryz.prog 43 #[.pointer e, .int .i64 i] w fun x w' => x = .returned (.tuple #[.int .i64 0, .int .i64 0, .bool false]) ∧ w = w' := by
  have HM := Lib.hid (made_no e w h)
  clear h
  go_enter Tryz.func43, Tryz.ntmps43
  go_wp2_with fail
  refine HM.out.mono ?_
  rintro x w' ⟨rfl, rfl⟩
  go_wp2
  go_ret3
  exact ⟨rfl, rfl⟩
theorem live_no (e : Option Addr) (w : World) (h : Nob w e) :
    Calls Tryz.prog 41 #[.pointer e] w fun x w' => x = .returned (.slice none 0 0) ∧ w = w' := by
  have HM := Lib.hid (made_no e w h)
  clear h
  go_enter Tryz.func41, Tryz.ntmps41
  go_wp2_with fail
  refine HM.out.mono ?_
  rintro x w' ⟨rfl, rfl⟩
  go_wp2
  go_ret
  exact ⟨rfl, rfl⟩
theorem free_no (e : Option Addr) (w : World) (h : Nob w e) :
    Calls Tryz.prog 27 #[.pointer e] w fun x w' => x = .returned (.int .i64 0) ∧ w = w' := by
  have HM := Lib.hid (made_no e w h)
  clear h
  go_enter Tryz.func27, Tryz.ntmps27
  go_wp2_with fail
  refine HM.out.mono ?_
  rintro x w' ⟨rfl, rfl⟩
  go_wp2
  go_ret
  exact ⟨rfl, rfl⟩
theorem get_no (e : Option Addr) (i : Int) (w : World) (h : Nob w e) :
    Calls Tryz.prog 32 #[.pointer e, .int .i64 i] w fun x w' => x = .returned (.tuple #[.agg #[.slice none 0 0, .string ⟨#[]⟩], .int .i64 200]) ∧ Below w.heap.size w w' := by
  have hB0 := (Below.refl w.heap.size w).alloc (Nat.le_refl _) (.cells #[.slice none 0 0, .string ⟨#[]⟩] 51)
  have HM := Lib.hid (made_no e _ (h.below hB0))
  have HB0 := Lib.hid hB0
  clear h hB0
  go_enter Tryz.func32, Tryz.ntmps32
  go_wp2_with fail
  refine HM.out.mono ?_
  rintro x w' ⟨rfl, rfl⟩
  go_wp2
  exact bodyPost_ret (v := .tuple #[.agg #[.slice none 0 0, .string ⟨#[]⟩], .int .i64 200]) (by simp [results, Tryz.results32, go_sem]) rfl ⟨rfl, HB0.out⟩
theorem dsize_no (w : World) :
    Calls Tryz.prog 33 #[.pointer none] w fun x w' => x = .returned (.int .i64 0) ∧ w = w' := by
  go_enter Tryz.func33, Tryz.ntmps33
  go_wp2
  go_ret
  exact ⟨rfl, rfl⟩
theorem open_no (w : World) :
    Calls Tryz.prog 18 #[.pointer none] w fun x w' => x = .returned (.tuple #[.pointer none, .int .i64 200]) ∧ w = w' := by
  go_enter Tryz.func18, Tryz.ntmps18
  go_wp2_with fail
  refine (dsize_no _).mono ?_
  rintro x w' ⟨rfl, rfl⟩
  go_wp2
  go_ret2
  exact ⟨rfl, rfl⟩
theorem format_no (t : ByteArray) (w : World) :
    Calls Tryz.prog 10 #[.pointer none, .string t] w fun x w' => x = .returned (.tuple #[.pointer none, .int .i64 200]) ∧ w = w' := by
  go_enter Tryz.func10, Tryz.ntmps10
  go_wp2_with fail
  refine (dsize_no _).mono ?_
  rintro x w' ⟨rfl, rfl⟩
  go_wp2
  go_ret2
  exact ⟨rfl, rfl⟩
end Go.Proofs.YthejlenafjnmkaaGreat.Sto
/- Rows of what befalls a store; whether they are short. -/
namespace Go.Proofs.YthejlenafjnmkaaGreat.Sto
open Go.RowKit
open Oct (Has Chg)
open Rws
open Dv (DoV)

/-- Something that befalls, with the place of its numbers. -/
structure DoC where
  v : DoV
  A : Option Addr
  n : Nat
  c : Nat
structure Fits (w : World) (x : DoC) : Prop where
  row : NumRow w x.A x.n x.v.ks
  len : x.n ≤ x.c
  cap : x.c ≤ maxLen
  str : x.v.s.size ≤ maxLen
  op : -9223372036854775808 ≤ x.v.op ∧ x.v.op ≤ 9223372036854775807
  i : -9223372036854775808 ≤ x.v.i ∧ x.v.i ≤ 9223372036854775807
structure DoRow (w : World) (A : Option Addr) (n : Nat) (xs : List DoC) : Prop where
  len : xs.length = n
  cells : 0 < n → ∃ b off, A = some ⟨b, off, none⟩ ∧ b < w.heap.size ∧ ∀ i (h : i < xs.length), w.cell? ⟨b, off + i * 4, none⟩ = some (.int .i64 xs[i].v.op) ∧ w.cell? ⟨b, off + i * 4 + 1, none⟩ = some (.int .i64 xs[i].v.i) ∧
    w.cell? ⟨b, off + i * 4 + 2, none⟩ = some (.slice xs[i].A xs[i].n xs[i].c) ∧ w.cell? ⟨b, off + i * 4 + 3, none⟩ = some (.string xs[i].v.s)
  each : ∀ x ∈ xs, Fits w x
theorem Fits.below {w w' : World} {x : DoC} (h : Fits w x) (hb : Below w.heap.size w w') : Fits w' x := ⟨h.row.below hb, h.len, h.cap, h.str, h.op, h.i⟩
theorem DoRow.below {w w' : World} {A : Option Addr} {n : Nat} {xs : List DoC} (h : DoRow w A n xs) (hb : Below w.heap.size w w') : DoRow w' A n xs :=
  ⟨h.len, fun hn => by
    obtain ⟨b, off, e, hl, hx⟩ := h.cells hn
    refine ⟨b, off, e, Nat.lt_of_lt_of_le hl hb.size, fun i hi => ?_⟩
    obtain ⟨x0, x1, x2, x3⟩ := hx i hi
    exact ⟨(hb.cell (p := ⟨b, off + i * 4, none⟩) hl).trans x0, (hb.cell (p := ⟨b, off + i * 4 + 1, none⟩) hl).trans x1, (hb.cell (p := ⟨b, off + i * 4 + 2, none⟩) hl).trans x2, (hb.cell (p := ⟨b, off + i * 4 + 3, none⟩) hl).trans x3⟩, fun x hx => (h.each x hx).below hb⟩
/-- A row, and its place. -/
structure Rw where
  A : Option Addr
  n : Nat
  c : Nat
  xs : List DoC
structure ListRow (w : World) (A : Option Addr) (m : Nat) (ls : List Rw) : Prop where
  len : ls.length = m
  cells : 0 < m → ∃ b off, A = some ⟨b, off, none⟩ ∧ b < w.heap.size ∧ ∀ i (h : i < ls.length), w.cell? ⟨b, off + i, none⟩ = some (.slice ls[i].A ls[i].n ls[i].c)
  each : ∀ l ∈ ls, DoRow w l.A l.n l.xs ∧ l.n ≤ 9223372036854775807
/-- Some truth value is answered. -/
def Tells (e : Ending) : Prop := ∃ b, e = .returned (.bool b)
set_option maxRecDepth 100000 in
set_option maxHeartbeats 4000000 in
theorem short_any (A : Option Addr) (m c : Nat) (ls : List Rw) (hm : m ≤ 9223372036854775807) (w : World) (h : ListRow w A m ls) :
    Calls Tryz.prog 5 #[.slice A m c] w fun e w' => Tells e ∧ Below w.heap.size w w' := by
  have HL := Lib.hid h
  clear h
  go_enter Tryz.func5, Tryz.ntmps5
  go_wp2
  go_loopw [3, 4, 10] (fun s a i wr => ∃ j N M : Nat, j ≤ m ∧ i = .int .i64 j ∧ s = .int .i64 N ∧ a = .int .i64 M ∧ N ≤ 24578 ∧ M ≤ 61 ∧ Below w.heap.size w wr) (fun _ _ i _ => m - (intOf i).toNat)
  case atStart => exact ⟨0, 0, 0, Nat.zero_le _, rfl, rfl, rfl, by omega, by omega, Below.refl _ _⟩
  case round =>
    obtain ⟨j, N, M, hj, rfl, rfl, rfl, hN, hM, hb⟩ := hrel
    by_cases hlt : j < m
    · obtain ⟨b, off, rfl, hbl, hcl⟩ := HL.out.cells (by omega)
      have hjx : j < ls.length := by rw [HL.out.len]; exact hlt
      have cx := (hb.cell (p := ⟨b, off + j, none⟩) hbl).trans (hcl j hjx)
      obtain ⟨hr, hn⟩ := HL.out.each _ (List.getElem_mem hjx)
      clear hcl
      generalize ls[j] = l at *
      obtain ⟨B, n, cc, xs⟩ := l
      simp only at cx hr hn
      have HR := Lib.hid hr
      have HB := Lib.hid hb
      clear hr hb
      obtain ⟨wo, hwo⟩ : ∃ wo : World, wo = wr := ⟨_, rfl⟩
      subst hwo
      go_wp2
      clear cx
      go_loopw [3, 4, 7] (fun s a i wr => ∃ k N M : Nat, k ≤ n ∧ i = .int .i64 k ∧ s = .int .i64 N ∧ a = .int .i64 M ∧ N ≤ 24578 ∧ M ≤ 61 ∧ Below w.heap.size w wr) (fun _ _ i _ => n - (intOf i).toNat)
      case atStart => exact ⟨0, N, M, Nat.zero_le _, rfl, rfl, rfl, hN, hM, HB.out⟩
      case round =>
        obtain ⟨k, N2, M2, hk, rfl, rfl, rfl, hN2, hM2, hb2⟩ := hrel
        have HB2 := Lib.hid hb2
        by_cases g1 : (k : Int) < (n : Int)
        · by_cases g2 : (M2 : Int) ≤ 60
          · by_cases g3 : (N2 : Int) ≤ 8192
            · have HG := Lib.hid (And.intro hk (And.intro hN2 (And.intro hM2 (And.intro hj (And.intro hN (And.intro hM (And.intro hlt (And.intro hn hm))))))))
              clear hk hN2 hM2 hj hN hM hlt hm hb2 hbl hjx
              go_wp2
              obtain ⟨b2, off2, rfl, hbl2, hcl2⟩ := HR.out.cells (by omega)
              have hkx : k < xs.length := by rw [HR.out.len]; omega
              obtain ⟨_, _, x2, x3⟩ := hcl2 k hkx
              have x2 := (HB2.out.cell (p := ⟨b2, off2 + k * 4 + 2, none⟩) hbl2).trans x2
              have x3 := (HB2.out.cell (p := ⟨b2, off2 + k * 4 + 3, none⟩) hbl2).trans x3
              clear hcl2
              generalize xs[k] = y at *
              obtain ⟨⟨yo, yi, ys, yk⟩, yA, yn, yc⟩ := y
              simp only at x2 x3
              clear hbl2 hkx
              rcases Nat.lt_trichotomy ys.size 8193 with p1 | p1 | p1
              · have q1 : (ys.size : Int) < 8193 := by omega
                have q2 : ¬ 8193 < (ys.size : Int) := by omega
                have hA : ys.size ≤ 8193 := by omega
                rcases Nat.lt_trichotomy yn 8193 with p2 | p2 | p2
                · have q3 : (yn : Int) < 8193 := by omega
                  have q4 : ¬ 8193 < (yn : Int) := by omega
                  have hB : yn ≤ 8193 := by omega
                  have hE := Lib.hid (And.intro hA hB)
                  clear p1 p2 hA hB
                  go_quiet (fail)
                  go_wp2
                  obtain ⟨hk, hN2, hM2, _⟩ := HG.out
                  obtain ⟨hA, hB⟩ := hE.out
                  refine ⟨⟨k + 1, N2 + (ys.size + yn), M2 + 1, by omega, by go_num, by go_num, by go_num, by omega, by omega, below_drewN HB2.out _⟩, by simp [intOf]; omega⟩
                · have q3 : ¬ (yn : Int) < 8193 := by omega
                  have q4 : ¬ 8193 < (yn : Int) := by omega
                  have hB : yn ≤ 8193 := by omega
                  have hE := Lib.hid (And.intro hA hB)
                  clear p1 p2 hA hB
                  go_quiet (fail)
                  go_wp2
                  obtain ⟨hk, hN2, hM2, _⟩ := HG.out
                  obtain ⟨hA, hB⟩ := hE.out
                  refine ⟨⟨k + 1, N2 + (ys.size + yn), M2 + 1, by omega, by go_num, by go_num, by go_num, by omega, by omega, below_drewN HB2.out _⟩, by simp [intOf]; omega⟩
                · have q3 : ¬ (yn : Int) < 8193 := by omega
                  have q4 : 8193 < (yn : Int) := by omega
                  have hB : 8193 ≤ 8193 := by omega
                  have hE := Lib.hid (And.intro hA hB)
                  clear p1 p2 hA hB
                  go_quiet (fail)
                  go_wp2
                  obtain ⟨hk, hN2, hM2, _⟩ := HG.out
                  obtain ⟨hA, hB⟩ := hE.out
                  refine ⟨⟨k + 1, N2 + (ys.size + 8193), M2 + 1, by omega, by go_num, by go_num, by go_num, by omega, by omega, below_drewN HB2.out _⟩, by simp [intOf]; omega⟩
              · have q1 : ¬ (ys.size : Int) < 8193 := by omega
                have q2 : ¬ 8193 < (ys.size : Int) := by omega
                have hA : ys.size ≤ 8193 := by omega
                rcases Nat.lt_trichotomy yn 8193 with p2 | p2 | p2
                · have q3 : (yn : Int) < 8193 := by omega
                  have q4 : ¬ 8193 < (yn : Int) := by omega
                  have hB : yn ≤ 8193 := by omega
                  have hE := Lib.hid (And.intro hA hB)
                  clear p1 p2 hA hB
                  go_quiet (fail)
                  go_wp2
                  obtain ⟨hk, hN2, hM2, _⟩ := HG.out
                  obtain ⟨hA, hB⟩ := hE.out
                  refine ⟨⟨k + 1, N2 + (ys.size + yn), M2 + 1, by omega, by go_num, by go_num, by go_num, by omega, by omega, below_drewN HB2.out _⟩, by simp [intOf]; omega⟩
                · have q3 : ¬ (yn : Int) < 8193 := by omega
                  have q4 : ¬ 8193 < (yn : Int) := by omega
                  have hB : yn ≤ 8193 := by omega
                  have hE := Lib.hid (And.intro hA hB)
                  clear p1 p2 hA hB
                  go_quiet (fail)
                  go_wp2
                  obtain ⟨hk, hN2, hM2, _⟩ := HG.out
                  obtain ⟨hA, hB⟩ := hE.out
                  refine ⟨⟨k + 1, N2 + (ys.size + yn), M2 + 1, by omega, by go_num, by go_num, by go_num, by omega, by omega, below_drewN HB2.out _⟩, by simp [intOf]; omega⟩
                · have q3 : ¬ (yn : Int) < 8193 := by omega
                  have q4 : 8193 < (yn : Int) := by omega
                  have hB : 8193 ≤ 8193 := by omega
                  have hE := Lib.hid (And.intro hA hB)
                  clear p1 p2 hA hB
                  go_quiet (fail)
                  go_wp2
                  obtain ⟨hk, hN2, hM2, _⟩ := HG.out
                  obtain ⟨hA, hB⟩ := hE.out
                  refine ⟨⟨k + 1, N2 + (ys.size + 8193), M2 + 1, by omega, by go_num, by go_num, by go_num, by omega, by omega, below_drewN HB2.out _⟩, by simp [intOf]; omega⟩
              · have q1 : ¬ (ys.size : Int) < 8193 := by omega
                have q2 : 8193 < (ys.size : Int) := by omega
                have hA : 8193 ≤ 8193 := by omega
                rcases Nat.lt_trichotomy yn 8193 with p2 | p2 | p2
                · have q3 : (yn : Int) < 8193 := by omega
                  have q4 : ¬ 8193 < (yn : Int) := by omega
                  have hB : yn ≤ 8193 := by omega
                  have hE := Lib.hid (And.intro hA hB)
                  clear p1 p2 hA hB
                  go_quiet (fail)
                  go_wp2
                  obtain ⟨hk, hN2, hM2, _⟩ := HG.out
                  obtain ⟨hA, hB⟩ := hE.out
                  refine ⟨⟨k + 1, N2 + (8193 + yn), M2 + 1, by omega, by go_num, by go_num, by go_num, by omega, by omega, below_drewN HB2.out _⟩, by simp [intOf]; omega⟩
                · have q3 : ¬ (yn : Int) < 8193 := by omega
                  have q4 : ¬ 8193 < (yn : Int) := by omega
                  have hB : yn ≤ 8193 := by omega
                  have hE := Lib.hid (And.intro hA hB)
                  clear p1 p2 hA hB
                  go_quiet (fail)
                  go_wp2
                  obtain ⟨hk, hN2, hM2, _⟩ := HG.out
                  obtain ⟨hA, hB⟩ := hE.out
                  refine ⟨⟨k + 1, N2 + (8193 + yn), M2 + 1, by omega, by go_num, by go_num, by go_num, by omega, by omega, below_drewN HB2.out _⟩, by simp [intOf]; omega⟩
                · have q3 : ¬ (yn : Int) < 8193 := by omega
                  have q4 : 8193 < (yn : Int) := by omega
                  have hB : 8193 ≤ 8193 := by omega
                  have hE := Lib.hid (And.intro hA hB)
                  clear p1 p2 hA hB
                  go_quiet (fail)
                  go_wp2
                  obtain ⟨hk, hN2, hM2, _⟩ := HG.out
                  obtain ⟨hA, hB⟩ := hE.out
                  refine ⟨⟨k + 1, N2 + (8193 + 8193), M2 + 1, by omega, by go_num, by go_num, by go_num, by omega, by omega, below_drewN HB2.out _⟩, by simp [intOf]; omega⟩
            · have HG := Lib.hid (And.intro hN2 (And.intro hM2 (And.intro hlt hm)))
              clear hk hN2 hM2 hj hN hM hb2 hn hbl hjx
              go_wp2
              go_roundw
              case rel =>
                obtain ⟨hN2, hM2, hlt, _⟩ := HG.out
                exact ⟨j + 1, N2, M2, by omega, by go_num, rfl, rfl, hN2, hM2, HB2.out⟩
              case measure => simp [intOf]; omega
          · have HG := Lib.hid (And.intro hN2 (And.intro hM2 (And.intro hlt hm)))
            clear hk hN2 hM2 hj hN hM hb2 hn hbl hjx
            go_wp2
            go_roundw
            case rel =>
              obtain ⟨hN2, hM2, hlt, _⟩ := HG.out
              exact ⟨j + 1, N2, M2, by omega, by go_num, rfl, rfl, hN2, hM2, HB2.out⟩
            case measure => simp [intOf]; omega
        · have HG := Lib.hid (And.intro hN2 (And.intro hM2 (And.intro hlt hm)))
          clear hk hN2 hM2 hj hN hM hb2 hn hbl hjx
          go_wp2
          go_roundw
          case rel =>
            obtain ⟨hN2, hM2, hlt, _⟩ := HG.out
            exact ⟨j + 1, N2, M2, by omega, by go_num, rfl, rfl, hN2, hM2, HB2.out⟩
          case measure => simp [intOf]; omega
    · obtain rfl : j = m := by omega
      have HB := Lib.hid hb
      clear hb hj
      by_cases g1 : (M : Int) ≤ 60
      · go_wp2
        go_ret
        exact ⟨⟨_, rfl⟩, HB.out⟩
      · go_wp2
        go_ret
        exact ⟨⟨_, rfl⟩, HB.out⟩
end Go.Proofs.YthejlenafjnmkaaGreat.Sto

/- What befalls a store, opened: one thing, and a row of things. -/
namespace Go.Proofs.YthejlenafjnmkaaGreat.Sto
open Go.ChangeShapes Go.WideShapes Go.ChangeAt Go.RowKit
open Rws
open Dv (DoV)

theorem cells_do : Tryz.prog.cellsOf 42 = 4 := by kernel_rfl
theorem cells_is : Tryz.prog.cellsOf 40 = 1 := by kernel_rfl
set_option maxRecDepth 100000 in
theorem do_cells {H : Type} {enc : TypeId × Value → H} {w : World} {base : Nat} {spare : Nat → Bool} {held : Bool} {fuel : Nat} {cs : List Value} {x : DataW H × List MemPlace}
    (h : DataW.trod enc Tryz.prog w base spare held fuel 42 cs = some x) (hlt : ∀ q ∈ x.2, q.block < w.heap.size) :
    ∃ y : DoC, cs = [.int .i64 y.v.op, .int .i64 y.v.i, .slice y.A y.n y.c, .string y.v.s] ∧ Fits w y := by
  obtain ⟨xs, n, _, rfl, hlen, hxs, hf⟩ := DataW.trod_struct Tryz.underlying42 h
  rw [cells_do] at hlen
  have hx4 : xs.length = 4 := hxs
  match cs, hlen with
  | [v0, v1, v2, v3], _ =>
    match xs, hx4 with
    | [x0, x1, x2, x3], _ =>
      have t0 : DataW.trod enc Tryz.prog w base spare held n 3 (([v0, v1, v2, v3].drop 0).take (Tryz.prog.cellsOf 3)) = some x0 := hf 0 _ rfl
      have t1 : DataW.trod enc Tryz.prog w base spare held n 3 (([v0, v1, v2, v3].drop 1).take (Tryz.prog.cellsOf 3)) = some x1 := hf 1 _ rfl
      have t2 : DataW.trod enc Tryz.prog w base spare held n 9 (([v0, v1, v2, v3].drop 3).take (Tryz.prog.cellsOf 9)) = some x3 := hf 3 _ rfl
      have t3 : DataW.trod enc Tryz.prog w base spare held n 40 (([v0, v1, v2, v3].drop 2).take (Tryz.prog.cellsOf 40)) = some x2 := hf 2 _ rfl
      rw [cells_i] at t0 t1
      rw [cells_s] at t2
      rw [cells_is] at t3
      have hl3 : ∀ q ∈ x2.2, q.block < w.heap.size := fun q hq => hlt q (by simp [hq])
      obtain ⟨z0, e0, _, w0⟩ := DataW.trod_int Tryz.underlying3 t0
      obtain ⟨z1, e1, _, w1⟩ := DataW.trod_int Tryz.underlying3 t1
      obtain ⟨z2, e2, _, w2⟩ := DataW.trod_string Tryz.underlying9 t2
      simp at e0 e1 e2
      subst e0 e1 e2
      rcases open_ints Tryz.underlying40 Tryz.underlying3 cells_i t3 with ⟨hcs, _⟩ | ⟨a, len, cap, zs, hcs, _, hl, hm, hz, hx, hcell, hwz⟩
      · simp at hcs
        subst hcs
        exact ⟨⟨⟨z0, z1, z2, []⟩, none, 0, 0⟩, rfl, ⟨rfl, fun h => absurd (show 0 < 0 from h) (by omega)⟩, Nat.le_refl _, Nat.zero_le _, w2, wf_i64 w0, wf_i64 w1⟩
      · simp at hcs
        subst hcs
        have hle : len ≤ zs.length := by rw [hz]; split <;> omega
        refine ⟨⟨⟨z0, z1, z2, zs.take len⟩, some a, len, cap⟩, rfl, ⟨by show (zs.take len).length = len; rw [List.length_take]; omega, fun h0 => ?_⟩, hl, hm, w2, wf_i64 w0, wf_i64 w1⟩
        have h0 : 0 < len := h0
        obtain ⟨b, off, spot⟩ := a
        have hspot : spot = none := by simpa [Addr.add] using World.cell?_spot (hcell 0 (by omega))
        subst hspot
        have hbW : b < w.heap.size := hl3 (.cell b off) (by rw [hx]; exact MemPlace.mem_row.2 ⟨0, by omega, by simp⟩)
        refine ⟨b, off, rfl, hbW, fun i hi => ?_⟩
        have hi' : i < len := by simp at hi; omega
        have hc := hcell i (by omega)
        rw [add_plain] at hc
        rw [hc, List.getElem_take]
        simp [List.getD, List.getElem?_eq_getElem (show i < zs.length by omega)]
theorem okWide_agg {P : Program} {W : World} {r : Reach} {b0 : Nat} {t : TypeId} {fs : Array Field} {v : Value} (ht : P.underlying t = some (.struct fs)) (h : Value.okWide P W r b0 t v) : ∃ xs : Array Value, v = .agg xs := by
  simp only [Value.okWide, ht] at h
  cases v <;> simp_all
set_option maxRecDepth 100000 in
theorem open_do {H : Type} {enc : TypeId × Value → H} {w : World} {base b0 : Nat} {r : Reach} {spare : Nat → Bool} {held : Bool} {v : Value} {d : DataW H} {ps : List MemPlace}
    (hv : Value.okWide Tryz.prog w r b0 42 v) (h : DataW.Trod enc Tryz.prog w base spare held 42 v d ps) (hlt : ∀ x ∈ ps, x.block < w.heap.size) :
    ∃ y : DoC, v = .agg #[.int .i64 y.v.op, .int .i64 y.v.i, .slice y.A y.n y.c, .string y.v.s] ∧ Fits w y := by
  obtain ⟨xs, rfl⟩ := okWide_agg Tryz.underlying42 hv
  obtain ⟨fuel, hf⟩ := h
  obtain ⟨y, hy, hfit⟩ := do_cells hf hlt
  refine ⟨y, ?_, hfit⟩
  have h2 : xs.toList = _ := hy
  congr 1
  apply Array.ext'
  rw [h2]
set_option maxRecDepth 100000 in
theorem open_dos {H : Type} {enc : TypeId × Value → H} {w : World} {base b0 : Nat} {r : Reach} {spare : Nat → Bool} {held : Bool} {v : Value} {d : DataW H} {ps : List MemPlace}
    (hv : Value.okWide Tryz.prog w r b0 22 v) (h : DataW.Trod enc Tryz.prog w base spare held 22 v d ps) (hlt : ∀ x ∈ ps, x.block < w.heap.size) :
    ∃ A n cap xs, v = .slice A n cap ∧ DoRow w A n xs ∧ n ≤ cap ∧ cap ≤ maxLen := by
  obtain ⟨a0, len, cap, rfl⟩ := okWide_slice Tryz.underlying22 hv
  obtain ⟨fuel, hf⟩ := h
  rcases Deep.open_slice Tryz.underlying22 hf with ⟨hcs, hx⟩ | ⟨a, len', cap', m, n, D, Pl, hcs, _, hl, hm, hmm, hx, hcell⟩
  · simp [Value.cells] at hcs
    obtain ⟨rfl, rfl, rfl⟩ := hcs
    exact ⟨none, 0, 0, [], rfl, ⟨rfl, fun h => absurd h (by omega), fun x hx => by cases hx⟩, Nat.le_refl _, Nat.zero_le _⟩
  · simp [Value.cells] at hcs
    obtain ⟨rfl, rfl, rfl⟩ := hcs
    simp only [Prod.mk.injEq] at hx
    obtain ⟨rfl, rfl⟩ := hx
    rw [cells_do] at hcell hlt
    have hle : len ≤ m := by rw [hmm]; split <;> omega
    have hpl : ∀ i, i < m → ∀ q ∈ Pl i, q.block < w.heap.size := fun i hi q hq => hlt q (List.mem_append_right _ (List.mem_flatMap.2 ⟨i, List.mem_range.2 hi, hq⟩))
    have each : ∀ i, i < m → ∃ y : DoC, w.cells? base (a.add (i * 4)) 4 = some [.int .i64 y.v.op, .int .i64 y.v.i, .slice y.A y.n y.c, .string y.v.s] ∧ Fits w y := by
      intro i hi
      obtain ⟨cs', hc, ht⟩ := hcell i hi
      obtain ⟨y, rfl, hfit⟩ := do_cells ht (hpl i hi)
      exact ⟨y, hc, hfit⟩
    have hex : ∃ f : Nat → DoC, ∀ i, i < m → w.cells? base (a.add (i * 4)) 4 = some [.int .i64 (f i).v.op, .int .i64 (f i).v.i, .slice (f i).A (f i).n (f i).c, .string (f i).v.s] ∧ Fits w (f i) := by
      refine ⟨fun i => if h : i < m then (each i h).choose else ⟨⟨0, 0, ⟨#[]⟩, []⟩, none, 0, 0⟩, fun i hi => ?_⟩
      simp only [dif_pos hi]
      exact (each i hi).choose_spec
    obtain ⟨f, hf⟩ := hex
    refine ⟨some a, len, cap, (List.range len).map f, rfl, ⟨by simp, fun h0 => ?_, fun x hx => ?_⟩, hl, hm⟩
    · have c4 : ∀ i, i < m → w.cell? ((a.add (i * 4)).add 0) = some (.int .i64 (f i).v.op) ∧ w.cell? ((a.add (i * 4)).add 1) = some (.int .i64 (f i).v.i) ∧ w.cell? ((a.add (i * 4)).add 2) = some (.slice (f i).A (f i).n (f i).c) ∧ w.cell? ((a.add (i * 4)).add 3) = some (.string (f i).v.s) := by
        intro i hi
        have h1 := (hf i hi).1
        unfold World.cells? at h1
        split at h1
        · rw [show List.range 4 = [0, 1, 2, 3] from rfl] at h1
          simp [Option.bind_eq_some_iff] at h1
          exact h1
        · cases h1
      obtain ⟨b, off, spot⟩ := a
      have hspot : spot = none := by
        have := World.cell?_spot (c4 0 (by omega)).1
        simpa [Addr.add] using this
      subst hspot
      have hbW : b < w.heap.size := hlt (.cell b off) (List.mem_append_left _ (MemPlace.mem_row.2 ⟨0, by omega, by simp⟩))
      refine ⟨b, off, rfl, hbW, fun i hi => ?_⟩
      have hi' : i < len := by simpa using hi
      obtain ⟨c0, c1, c2, c3⟩ := c4 i (by omega)
      simp only [add_plain, List.getElem_map, List.getElem_range] at c0 c1 c2 c3 ⊢
      exact ⟨c0, c1, c2, c3⟩
    · obtain ⟨i, hi, rfl⟩ := List.mem_map.1 hx
      exact (hf i (by have := List.mem_range.1 hi; omega)).2
end Go.Proofs.YthejlenafjnmkaaGreat.Sto
/- What the law does to a store that none made. -/
namespace Go.Proofs.YthejlenafjnmkaaGreat.Sto
open Go.RowKit
open Oct (Has Chg)
open Rws
open Dv (DoV)

def opM (x : Int) : Int := wrap64 ((IntKind.u64.wrap x).tmod 13)
set_option maxRecDepth 100000 in
theorem op_any (op i : Int) (s v : Value) (w : World) :
    Calls Tryz.prog 13 #[.agg #[.int .i64 op, .int .i64 i, v, s]] w fun e w' => e = .returned (.int .i64 (opM op)) ∧ Below w.heap.size w w' := by
  go_enter Tryz.func13, Tryz.ntmps13
  go_wp2
  go_ret
  exact ⟨rfl, (Below.refl _ w).alloc (Nat.le_refl _) _⟩
set_option maxRecDepth 100000 in
set_option maxHeartbeats 4000000 in
theorem does_no (a : Option Addr) (op i : Int) (s : ByteArray) (A : Option Addr) (n c : Nat) (w : World) (h : Nob w a) (h10 : ¬ 10 < opM op) (h8 : opM op ≠ 8) :
    Calls Tryz.prog 21 #[.pointer a, .pointer none, .agg #[.int .i64 op, .int .i64 i, .slice A n c, .string s]] w fun e w' =>
      e = .returned (.tuple #[.int .i64 0, .agg #[.slice none 0 0, .string ⟨#[]⟩], .int .i64 200]) ∧ Below w.heap.size w w' := by
  have hr0 := (Has.fresh w 42 #[.int .i64 op, .int .i64 i, .slice A n c, .string s]).past (.cells #[.slice none 0 0, .string ⟨#[]⟩] 51)
  have hr1 := Has.fresh (w.alloc (.cells #[.int .i64 op, .int .i64 i, .slice A n c, .string s] 42)) 51 #[.slice none 0 0, .string ⟨#[]⟩]
  rw [World.size_alloc] at hr1
  have hB : Below w.heap.size w ((w.alloc (.cells #[.int .i64 op, .int .i64 i, .slice A n c, .string s] 42)).alloc (.cells #[.slice none 0 0, .string ⟨#[]⟩] 51)) := ((Below.refl _ w).alloc (Nat.le_refl _) _).alloc (by simp) _
  have HO := Lib.hid (op_any op i (.string s) (.slice A n c) ((w.alloc (.cells #[.int .i64 op, .int .i64 i, .slice A n c, .string s] 42)).alloc (.cells #[.slice none 0 0, .string ⟨#[]⟩] 51)))
  have HR0 := Lib.hid hr0
  have HR1 := Lib.hid hr1
  have HB := Lib.hid hB
  have HN := Lib.hid (h.below hB)
  clear h hr0 hr1 hB
  have g8 : (opM op == 8) = false := beq_eq_false_iff_ne.2 h8
  have g11 : (opM op == 11) = false := beq_eq_false_iff_ne.2 (by omega)
  generalize opM op = m at *
  clear h8 h10
  have tail : ∀ w3, Below ((w.alloc (.cells #[.int .i64 op, .int .i64 i, .slice A n c, .string s] 42)).alloc (.cells #[.slice none 0 0, .string ⟨#[]⟩] 51)).heap.size ((w.alloc (.cells #[.int .i64 op, .int .i64 i, .slice A n c, .string s] 42)).alloc (.cells #[.slice none 0 0, .string ⟨#[]⟩] 51)) w3 → Nob w3 a ∧ Has w3 w.heap.size 42 #[.int .i64 op, .int .i64 i, .slice A n c, .string s] ∧ Has w3 (w.heap.size + 1) 51 #[.slice none 0 0, .string ⟨#[]⟩] ∧ Below w.heap.size w w3 := fun w3 hb => ⟨HN.out.below hb, has_blw HR0.out hb, has_blw HR1.out hb, HB.out.trans (hb.mono (by simp; omega))⟩
  have HT := Lib.hid tail
  clear tail
  by_cases k5 : m = 5
  · subst k5
    go_enter Tryz.func21, Tryz.ntmps21
    go_wp2_with fail
    refine HO.out.mono ?_
    rintro e w3 ⟨rfl, hb3⟩
    obtain ⟨hn3, hd3, hk3, hw3⟩ := HT.out w3 hb3
    have HN3 := Lib.hid hn3
    have HK3 := Lib.hid hk3
    have HW3 := Lib.hid hw3
    have d0 := Has.at_ hd3 0
    have d1 := Has.at_ hd3 1
    have d2 := Has.at_ hd3 2
    have d3 := Has.at_ hd3 3
    have j0 := Has.at_ hk3 0
    have j1 := Has.at_ hk3 1
    have f0 := Has.free hk3 0
    have f1 := Has.free hk3 1
    simp at d0 d1 d2 d3 j0 j1
    have h22 := Has.put (Has.put hk3 0 (.slice none 0 0)) 1 (.string ⟨#[]⟩)
    have j2 := Has.at_ h22 0
    have j3 := Has.at_ h22 1
    simp at j2 j3
    have HB4 := Lib.hid (below_cells hw3 (show w.heap.size ≤ w.heap.size + 1 by omega) (.slice none 0 0) (.string ⟨#[]⟩))
    clear hb3 hn3 hd3 hk3 hw3 h22 HO HT
    go_wp2_with fail
    refine (hold_no a i _ HN3.out).mono ?_
    rintro e w4 ⟨rfl, rfl⟩
    go_wp2
    exact bodyPost_ret (v := .tuple #[.int .i64 0, .agg #[.slice none 0 0, .string ⟨#[]⟩], .int .i64 200]) (by simp [results, Tryz.results21, go_sem, j2, j3]) rfl ⟨rfl, HB4.out⟩
  · have t5 : (m == 5) = false := beq_eq_false_iff_ne.2 k5
    by_cases k6 : m = 6
    · subst k6
      go_enter Tryz.func21, Tryz.ntmps21
      go_wp2_with fail
      refine HO.out.mono ?_
      rintro e w3 ⟨rfl, hb3⟩
      obtain ⟨hn3, hd3, hk3, hw3⟩ := HT.out w3 hb3
      have HN3 := Lib.hid hn3
      have HK3 := Lib.hid hk3
      have HW3 := Lib.hid hw3
      have d0 := Has.at_ hd3 0
      have d1 := Has.at_ hd3 1
      have d2 := Has.at_ hd3 2
      have d3 := Has.at_ hd3 3
      have j0 := Has.at_ hk3 0
      have j1 := Has.at_ hk3 1
      have f0 := Has.free hk3 0
      have f1 := Has.free hk3 1
      simp at d0 d1 d2 d3 j0 j1
      have h22 := Has.put (Has.put hk3 0 (.slice none 0 0)) 1 (.string ⟨#[]⟩)
      have j2 := Has.at_ h22 0
      have j3 := Has.at_ h22 1
      simp at j2 j3
      have HB4 := Lib.hid (below_cells hw3 (show w.heap.size ≤ w.heap.size + 1 by omega) (.slice none 0 0) (.string ⟨#[]⟩))
      clear hb3 hn3 hd3 hk3 hw3 h22 HO HT
      go_wp2_with fail
      refine (hold_no a i _ HN3.out).mono ?_
      rintro e w4 ⟨rfl, rfl⟩
      go_wp2
      exact bodyPost_ret (v := .tuple #[.int .i64 0, .agg #[.slice none 0 0, .string ⟨#[]⟩], .int .i64 200]) (by simp [results, Tryz.results21, go_sem, j2, j3]) rfl ⟨rfl, HB4.out⟩
    · have t6 : (m == 6) = false := beq_eq_false_iff_ne.2 k6
      by_cases k7 : m = 7
      · subst k7
        go_enter Tryz.func21, Tryz.ntmps21
        go_wp2_with fail
        refine HO.out.mono ?_
        rintro e w3 ⟨rfl, hb3⟩
        obtain ⟨hn3, hd3, hk3, hw3⟩ := HT.out w3 hb3
        have HN3 := Lib.hid hn3
        have HK3 := Lib.hid hk3
        have HW3 := Lib.hid hw3
        have d0 := Has.at_ hd3 0
        have d1 := Has.at_ hd3 1
        have d2 := Has.at_ hd3 2
        have d3 := Has.at_ hd3 3
        have j0 := Has.at_ hk3 0
        have j1 := Has.at_ hk3 1
        have f0 := Has.free hk3 0
        have f1 := Has.free hk3 1
        simp at d0 d1 d2 d3 j0 j1
        have h22 := Has.put (Has.put hk3 0 (.slice none 0 0)) 1 (.string ⟨#[]⟩)
        have j2 := Has.at_ h22 0
        have j3 := Has.at_ h22 1
        simp at j2 j3
        have HB4 := Lib.hid (below_cells hw3 (show w.heap.size ≤ w.heap.size + 1 by omega) (.slice none 0 0) (.string ⟨#[]⟩))
        clear hb3 hn3 hd3 hk3 hw3 h22 HO HT
        go_wp2_with fail
        refine (drop_no a i _ HN3.out).mono ?_
        rintro e w4 ⟨rfl, rfl⟩
        go_wp2
        exact bodyPost_ret (v := .tuple #[.int .i64 0, .agg #[.slice none 0 0, .string ⟨#[]⟩], .int .i64 200]) (by simp [results, Tryz.results21, go_sem, j2, j3]) rfl ⟨rfl, HB4.out⟩
      · have t7 : (m == 7) = false := beq_eq_false_iff_ne.2 k7
        by_cases k9 : m = 9
        · subst k9
          go_enter Tryz.func21, Tryz.ntmps21
          go_wp2_with fail
          refine HO.out.mono ?_
          rintro e w3 ⟨rfl, hb3⟩
          obtain ⟨hn3, hd3, hk3, hw3⟩ := HT.out w3 hb3
          have HN3 := Lib.hid hn3
          have HK3 := Lib.hid hk3
          have HW3 := Lib.hid hw3
          have d0 := Has.at_ hd3 0
          have d1 := Has.at_ hd3 1
          have d2 := Has.at_ hd3 2
          have d3 := Has.at_ hd3 3
          have j0 := Has.at_ hk3 0
          have j1 := Has.at_ hk3 1
          have f0 := Has.free hk3 0
          have f1 := Has.free hk3 1
          simp at d0 d1 d2 d3 j0 j1
          have h22 := Has.put (Has.put hk3 0 (.slice none 0 0)) 1 (.string ⟨#[]⟩)
          have j2 := Has.at_ h22 0
          have j3 := Has.at_ h22 1
          simp at j2 j3
          have HB4 := Lib.hid (below_cells hw3 (show w.heap.size ≤ w.heap.size + 1 by omega) (.slice none 0 0) (.string ⟨#[]⟩))
          clear hb3 hn3 hd3 hk3 hw3 h22 HO HT
          go_wp2_with fail
          refine (commit_no a i s _ HN3.out).mono ?_
          rintro e w4 ⟨rfl, rfl⟩
          go_wp2
          exact bodyPost_ret (v := .tuple #[.int .i64 0, .agg #[.slice none 0 0, .string ⟨#[]⟩], .int .i64 200]) (by simp [results, Tryz.results21, go_sem, j2, j3]) rfl ⟨rfl, HB4.out⟩
        · have t9 : (m == 9) = false := beq_eq_false_iff_ne.2 k9
          by_cases k10 : m = 10
          · subst k10
            go_enter Tryz.func21, Tryz.ntmps21
            go_wp2_with fail
            refine HO.out.mono ?_
            rintro e w3 ⟨rfl, hb3⟩
            obtain ⟨hn3, hd3, hk3, hw3⟩ := HT.out w3 hb3
            have HN3 := Lib.hid hn3
            have HK3 := Lib.hid hk3
            have HW3 := Lib.hid hw3
            have d0 := Has.at_ hd3 0
            have d1 := Has.at_ hd3 1
            have d2 := Has.at_ hd3 2
            have d3 := Has.at_ hd3 3
            have j0 := Has.at_ hk3 0
            have j1 := Has.at_ hk3 1
            have f0 := Has.free hk3 0
            have f1 := Has.free hk3 1
            simp at d0 d1 d2 d3 j0 j1
            have h22 := Has.put (Has.put hk3 0 (.slice none 0 0)) 1 (.string ⟨#[]⟩)
            have j2 := Has.at_ h22 0
            have j3 := Has.at_ h22 1
            simp at j2 j3
            have HB4 := Lib.hid (below_cells hw3 (show w.heap.size ≤ w.heap.size + 1 by omega) (.slice none 0 0) (.string ⟨#[]⟩))
            clear hb3 hn3 hd3 hk3 hw3 h22 HO HT
            go_wp2_with fail
            refine (get_no a i _ HN3.out).mono ?_
            rintro e w4 ⟨rfl, hb4⟩
            have hk5 : Has (w4.alloc (.cells #[.slice none 0 0, .string ⟨#[]⟩] 51)).drew (w.heap.size + 1) 51 #[.slice none 0 0, .string ⟨#[]⟩] := (has_blw HK3.out hb4).past _
            have hf5 : Has (w4.alloc (.cells #[.slice none 0 0, .string ⟨#[]⟩] 51)).drew w4.heap.size 51 #[.slice none 0 0, .string ⟨#[]⟩] := Has.fresh w4 _ _
            clear j0 j1 j2 j3 f0 f1
            have j0 := Has.at_ hk5 0
            have j1 := Has.at_ hk5 1
            have q0 := Has.at_ hf5 0
            have q1 := Has.at_ hf5 1
            have f0 := Has.free (show Has (w4.alloc (.cells #[.slice none 0 0, .string ⟨#[]⟩] 51)) (w.heap.size + 1) 51 _ from hk5) 0
            have f1 := Has.free (show Has (w4.alloc (.cells #[.slice none 0 0, .string ⟨#[]⟩] 51)) (w.heap.size + 1) 51 _ from hk5) 1
            simp at j0 j1 q0 q1
            have h22 := Has.put (Has.put (show Has (w4.alloc (.cells #[.slice none 0 0, .string ⟨#[]⟩] 51)) (w.heap.size + 1) 51 #[.slice none 0 0, .string ⟨#[]⟩] from hk5) 0 (.slice none 0 0)) 1 (.string ⟨#[]⟩)
            have j2 := Has.at_ h22 0
            have j3 := Has.at_ h22 1
            simp at j2 j3
            have hw4 := HW3.out.trans (hb4.mono HW3.out.size)
            have HB6 := Lib.hid ((below_cells (hw4.alloc hw4.size (.cells #[.slice none 0 0, .string ⟨#[]⟩] 51)) (show w.heap.size ≤ w.heap.size + 1 by omega) (.slice none 0 0) (.string ⟨#[]⟩)).drew)
            clear hk5 hf5 h22 hw4 hb4 HB4
            go_wp2_with fail
            go_region
            go_wp2
            exact bodyPost_ret (v := .tuple #[.int .i64 0, .agg #[.slice none 0 0, .string ⟨#[]⟩], .int .i64 200]) (by simp [results, Tryz.results21, go_sem, j2, j3]) rfl ⟨rfl, HB6.out⟩
          · have t10 : (m == 10) = false := beq_eq_false_iff_ne.2 k10
            go_enter Tryz.func21, Tryz.ntmps21
            go_wp2_with fail
            refine HO.out.mono ?_
            rintro e w3 ⟨rfl, hb3⟩
            obtain ⟨hn3, hd3, hk3, hw3⟩ := HT.out w3 hb3
            have HN3 := Lib.hid hn3
            have HK3 := Lib.hid hk3
            have HW3 := Lib.hid hw3
            have d0 := Has.at_ hd3 0
            have d1 := Has.at_ hd3 1
            have d2 := Has.at_ hd3 2
            have d3 := Has.at_ hd3 3
            have j0 := Has.at_ hk3 0
            have j1 := Has.at_ hk3 1
            have f0 := Has.free hk3 0
            have f1 := Has.free hk3 1
            simp at d0 d1 d2 d3 j0 j1
            have h22 := Has.put (Has.put hk3 0 (.slice none 0 0)) 1 (.string ⟨#[]⟩)
            have j2 := Has.at_ h22 0
            have j3 := Has.at_ h22 1
            simp at j2 j3
            have HB4 := Lib.hid (below_cells hw3 (show w.heap.size ≤ w.heap.size + 1 by omega) (.slice none 0 0) (.string ⟨#[]⟩))
            clear hb3 hn3 hd3 hk3 hw3 h22 HO HT
            go_wp2_with fail
            refine (put_no a A n c s _ HN3.out).mono ?_
            rintro e w4 ⟨rfl, rfl⟩
            go_wp2
            exact bodyPost_ret (v := .tuple #[.int .i64 0, .agg #[.slice none 0 0, .string ⟨#[]⟩], .int .i64 200]) (by simp [results, Tryz.results21, go_sem, j2, j3]) rfl ⟨rfl, HB4.out⟩
end Go.Proofs.YthejlenafjnmkaaGreat.Sto
/- A number is taken out of a map. -/
namespace Go.Proofs.YthejlenafjnmkaaGreat.Mem
open Go.RowKit
open Go.MapKept (IsKey)
open Go.ChangeMaps (setBlock)

theorem mget_erase {l : List MapEntry} {z : Int} {j : Nat} {x : MapEntry} (hn : (l.map (·.key)).Nodup) (hj : l[j]? = some x) (hx : x.key = .int .i64 z) (y : Int) :
    mget (l.eraseIdx j) y = if y = z then none else mget l y := by
  induction l generalizing j with
  | nil => simp at hj
  | cons a l ih =>
    rw [List.map_cons, List.nodup_cons] at hn
    cases j with
    | zero =>
      simp at hj
      subst hj
      rw [List.eraseIdx_cons_zero]
      by_cases hy : y = z
      · rw [if_pos hy, hy]
        exact mget_none fun e he hk => hn.1 (by rw [hx, ← hk]; exact List.mem_map_of_mem he)
      · rw [if_neg hy]
        show _ = if keyIs a.key y = true then some a.val else mget l y
        rw [if_neg]
        intro k
        have k := keyIs_iff.1 k
        rw [hx] at k
        injection k with _ k
        exact hy k.symm
    | succ j =>
      have hj : l[j]? = some x := by simpa using hj
      rw [List.eraseIdx_cons_succ]
      show (if keyIs a.key y = true then some a.val else mget (l.eraseIdx j) y) = if y = z then none else if keyIs a.key y = true then some a.val else mget l y
      rw [ih hn.2 hj]
      by_cases hy : y = z
      · subst hy
        have hk : ¬ keyIs a.key y = true := fun k => hn.1 (by
          rw [keyIs_iff.1 k, ← hx]
          exact List.mem_map_of_mem (f := fun e => e.key) (List.mem_of_getElem? hj))
        rw [if_neg hk, if_pos rfl, if_pos rfl]
      · rw [if_neg hy, if_neg hy]
theorem Good.erase {es : Array MapEntry} {c : Nat} (h : Good es c) (j : Nat) (fs : Array MapEntry) (hf : fs.toList = es.toList.eraseIdx j) : Good fs c := by
  have hs : (es.toList.eraseIdx j).Sublist es.toList := List.eraseIdx_sublist _ _
  refine ⟨fun x hx => ?_, ?_, fun x hx => ?_, ?_⟩
  · rw [hf] at hx
    exact h.keys x (hs.subset hx)
  · rw [hf]
    exact List.Nodup.sublist (hs.map _) h.once
  · rw [hf] at hx
    exact h.born x (hs.subset hx)
  · rw [hf]
    exact List.Nodup.sublist (hs.map _) h.apart
/-- A map has lost entries, at most. -/
def Shr (b : Nat) (w w' : World) : Prop := ∀ es c, w.heap[b]? = some (.map es c) → ∃ es' : Array MapEntry, w'.heap[b]? = some (.map es' c) ∧ es'.toList.Sublist es.toList
theorem Shr.refl (b : Nat) (w : World) : Shr b w w := fun es _ h => ⟨es, h, List.Sublist.refl _⟩
theorem Shr.trans {b : Nat} {w w1 w2 : World} (h : Shr b w w1) (k : Shr b w1 w2) : Shr b w w2 := fun es c e => by
  obtain ⟨es1, e1, s1⟩ := h es c e
  obtain ⟨es2, e2, s2⟩ := k es1 c e1
  exact ⟨es2, e2, s2.trans s1⟩
theorem Shr.of {S : Nat → Prop} {b : Nat} {w w' : World} (hc : Chg S w w') (hb : ¬ S b) : Shr b w w' := fun es _ h => ⟨es, (hc.block b (Array.getElem?_eq_some_iff.1 h).1 hb).trans h, List.Sublist.refl _⟩
theorem Rng.shr {S : Nat → Prop} {w w' : World} {b r : Nat} {m m' : Int → Option Value} {left : Int → Prop} (h : Rng w b r m left) (hc : Chg S w w') (hr : ¬ S r) (hs : Shr b w w') (hm : IMap w' b m') :
    Rng w' b r m' (fun z => left z ∧ (m' z).isSome = true) ∧ cntLeft w' b r ≤ cntLeft w b r := by
  obtain ⟨es, clock, since, seen, c0, h1, h2, h3, h4, h5, h6, h8, h7⟩ := h
  have lr := (Array.getElem?_eq_some_iff.1 h2).1
  obtain ⟨es', e1, hsub⟩ := hs es clock h1
  obtain ⟨es2, c2, m1, m2, m3⟩ := hm
  rw [e1] at m1
  injection m1 with m1
  injection m1 with m1 m1'
  subst m1 m1'
  have h2' := (hc.block r lr hr).trans h2
  refine ⟨⟨es', clock, since, seen, c0, e1, h2', m2, m3, fun x hx => h5 x (hsub.subset hx), h6, h8, fun z => ?_⟩, ?_⟩
  · show (left z ∧ (m' z).isSome = true) ↔ _
    rw [h7 z]
    constructor
    · rintro ⟨⟨x, hx, hk, hb⟩, hz⟩
      rw [← m3 z] at hz
      rcases find_at m2 z with ⟨_, f2, _⟩ | ⟨j, y, _, f4, f5, _⟩
      · rw [f2] at hz; cases hz
      · have hy := List.mem_of_getElem? f4
        have : x = y := key_inj h3.once hx (hsub.subset hy) (by rw [hk, f5])
        subst this
        exact ⟨x, hy, hk, hb⟩
    · rintro ⟨x, hx, hk, hb⟩
      refine ⟨⟨x, hsub.subset hx, hk, hb⟩, ?_⟩
      rw [← m3 z, mget_mem m2.once hx hk]
      rfl
  · unfold cntLeft
    rw [h1, h2, e1, h2']
    show (leftOf es' seen).size ≤ (leftOf es seen).size
    have hf : ∀ u : Array MapEntry, (leftOf u seen).size = (u.toList.filter fun x => !seen.contains x.born).length := by
      intro u
      unfold leftOf
      rw [← Array.length_toList, Array.toList_filter]
    rw [hf, hf]
    exact (hsub.filter _).length_le
theorem IMap.delete {P : Program} {T k e : TypeId} (hT : P.underlying T = some (.map k e)) (hk : P.underlying k = some (.int .i64)) {w : World} {b : Nat} {m : Int → Option Value} (h : IMap w b m) (z : Int) :
    ∃ w2, (∀ ty, (Builtin.delete_ #[T, k] ty #[.map (some b), .int .i64 z]).run P w = .ok (.tuple #[]) w2) ∧ IMap w2 b (fun y => if y = z then none else m y) ∧ Chg (· = b) w w2 ∧ w2.heap.size = w.heap.size ∧ Shr b w w2 := by
  have hbd := h.bound
  obtain ⟨es, c, h1, h2, h3⟩ := h
  have hg := MapKept.run_getObj_map (P := P) h1
  have hc := fun q => MapKept.run_checkKey (P := P) (w := w) hk (isKey z) q 9999
  have hso := fun o => MapKept.run_setObj_map (P := P) o h1
  rcases find_at h2 z with ⟨f1, f2, f3⟩ | ⟨j, x, f1, f4, f5, f2⟩
  · have hf := MapKept.run_findKey (P := P) (w := w) hk f1
    refine ⟨setBlock w b (.map es c), fun ty => ?_, ⟨es, c, by simp [setBlock, hbd], h2, fun y => ?_⟩, chg_setBlock _, by simp [setBlock], fun fs d e => by
        rw [h1] at e
        injection e with e
        injection e with e e'
        subst e e'
        exact ⟨es, by simp [setBlock, hbd], List.Sublist.refl _⟩⟩
    · simp [Builtin.delete_, run_underlying hT, hg, hc, hf, hso, Result.andThen, setBlock]
    · show mget es.toList y = if y = z then none else m y
      by_cases hy : y = z
      · rw [if_pos hy, hy]
        exact f2
      · rw [if_neg hy]
        exact h3 y
  · have hf := MapKept.run_findKey (P := P) (w := w) hk f1
    have hjs : j < es.size := by simpa using (List.getElem?_eq_some_iff.1 f4).1
    have hsub : (es.eraseIdxIfInBounds j).toList = es.toList.eraseIdx j := by
      unfold Array.eraseIdxIfInBounds
      rw [dif_pos hjs]
      simp
    refine ⟨setBlock w b (.map (es.eraseIdxIfInBounds j) c), fun ty => ?_, ⟨es.eraseIdxIfInBounds j, c, by simp [setBlock, hbd], h2.erase j _ hsub, fun y => ?_⟩, chg_setBlock _, by simp [setBlock], fun fs d e => by
        rw [h1] at e
        injection e with e
        injection e with e e'
        subst e e'
        exact ⟨es.eraseIdxIfInBounds j, by simp [setBlock, hbd], by rw [hsub]; exact List.eraseIdx_sublist _ _⟩⟩
    · simp [Builtin.delete_, run_underlying hT, hg, hc, hf, hso, Result.andThen, setBlock]
    · rw [hsub, mget_erase h2.once f4 f5, h3]
end Go.Proofs.YthejlenafjnmkaaGreat.Mem
