/- What is short holds short rows of numbers. -/
import Derived.Test.YtdedbbbgpjhjhacDevH
import Derived.Deep.QuietTactic
import Derived.BigQuiet
namespace Go.Proofs.Ytdedbbbgpjhjhac.Dv
open Go.RowKit
open Mem
open Rws

def AllN (ls : List Rw) : Prop := ∀ l ∈ ls, ∀ x ∈ l.xs, x.n ≤ 8192
/-- Some truth value is answered; of what is short the rows of numbers are. -/
def TellsN (ls : List Rw) (e : Ending) : Prop := ∃ t, e = .returned (.bool t) ∧ (t = true → AllN ls)
def Inn (xs : List DoC) (N M k N2 M2 : Nat) : Prop := N ≤ N2 ∧ M ≤ M2 ∧ (N2 ≤ 8192 → ∀ i, i < k → ∀ x, xs[i]? = some x → x.n ≤ 8192)
theorem inn_next {xs : List DoC} {N M k N2 M2 E : Nat} {y : DoC} (h : Inn xs N M k N2 M2) (hx : xs[k]? = some y) (he : N2 ≤ E) (hy : E ≤ 8192 → y.n ≤ 8192) : Inn xs N M (k + 1) E (M2 + 1) := by
  obtain ⟨h1, h2, h3⟩ := h
  refine ⟨by omega, by omega, fun h4 i hi x hxi => ?_⟩
  by_cases hik : i = k
  · subst hik
    rw [hx] at hxi
    injection hxi with e
    rw [← e]
    exact hy h4
  · exact h3 (by omega) i (by omega) x hxi
theorem out_next {ls : List Rw} {j N M k N2 M2 : Nat} {l : Rw} (hj : ls.take (j + 1) = ls.take j ++ [l]) (h : N ≤ 8192 → M ≤ 80 → AllN (ls.take j)) (hi : Inn l.xs N M k N2 M2) (hk : l.xs.length ≤ k) (h1 : N2 ≤ 8192) (h2 : M2 ≤ 80) : AllN (ls.take (j + 1)) := by
  obtain ⟨g1, g2, g3⟩ := hi
  rw [hj]
  intro r hr x hx
  rcases List.mem_append.1 hr with hr | hr
  · exact h (by omega) (by omega) r hr x hx
  · rw [List.mem_singleton.1 hr] at hx
    obtain ⟨i, hi, e⟩ := List.getElem_of_mem hx
    exact g3 h1 i (by omega) x (by rw [List.getElem?_eq_getElem hi, e])
set_option maxRecDepth 100000 in
set_option maxHeartbeats 4000000 in
theorem short_more (A : Option Addr) (m c : Nat) (ls : List Rw) (hm : m ≤ 9223372036854775807) (w : World) (h : ListRow w A m ls) :
    Calls Try.prog 10 #[.slice A m c] w fun e w' => TellsN ls e ∧ Below w.heap.size w w' := by
  have HL := Lib.hid h
  clear h
  go_enter Try.func10, Try.ntmps10
  go_wp2
  go_loopw [3, 4, 10] (fun s a i wr => ∃ j N M : Nat, j ≤ m ∧ i = .int .i64 j ∧ s = .int .i64 N ∧ a = .int .i64 M ∧ N ≤ 24578 ∧ M ≤ 81 ∧ Hid (N ≤ 8192 → M ≤ 80 → AllN (ls.take j)) ∧ Below w.heap.size w wr) (fun _ _ i _ => m - (intOf i).toNat)
  case atStart => exact ⟨0, 0, 0, Nat.zero_le _, rfl, rfl, rfl, by omega, by omega, Lib.hid (fun _ _ l hl => by cases hl), Below.refl _ _⟩
  case round =>
    obtain ⟨j, N, M, hj, rfl, rfl, rfl, hN, hM, hOut, hb⟩ := hrel
    by_cases hlt : j < m
    · obtain ⟨b, off, rfl, hbl, hcl⟩ := HL.out.cells (by omega)
      have hjx : j < ls.length := by rw [HL.out.len]; exact hlt
      have cx := (hb.cell (p := ⟨b, off + j, none⟩) hbl).trans (hcl j hjx)
      obtain ⟨hr, hn⟩ := HL.out.each _ (List.getElem_mem hjx)
      have HJ := Lib.hid (List.take_succ_eq_append_getElem hjx)
      clear hcl
      generalize ls[j] = l at *
      obtain ⟨B, n, cc, xs⟩ := l
      simp only at cx hr hn
      have HR := Lib.hid hr
      have HB := Lib.hid hb
      clear hr hb
      obtain ⟨wo, hwo⟩ : ∃ wo : World, wo = wr := ⟨_, rfl⟩
      subst hwo
      go_wp2
      clear cx
      go_loopw [3, 4, 7] (fun s a i wr => ∃ k N2 M2 : Nat, k ≤ n ∧ i = .int .i64 k ∧ s = .int .i64 N2 ∧ a = .int .i64 M2 ∧ N2 ≤ 24578 ∧ M2 ≤ 81 ∧ Hid (Inn xs N M k N2 M2) ∧ Below w.heap.size w wr) (fun _ _ i _ => n - (intOf i).toNat)
      case atStart => exact ⟨0, N, M, Nat.zero_le _, rfl, rfl, rfl, hN, hM, Lib.hid ⟨Nat.le_refl _, Nat.le_refl _, fun _ i hi => by omega⟩, HB.out⟩
      case round =>
        obtain ⟨k, N2, M2, hk, rfl, rfl, rfl, hN2, hM2, hIn, hb2⟩ := hrel
        have HB2 := Lib.hid hb2
        by_cases g1 : (k : Int) < (n : Int)
        · by_cases g2 : (M2 : Int) ≤ 80
          · by_cases g3 : (N2 : Int) ≤ 8192
            · have HG := Lib.hid (And.intro hk (And.intro hN2 (And.intro hM2 (And.intro hj (And.intro hN (And.intro hM (And.intro hlt (And.intro hn hm))))))))
              clear hk hN2 hM2 hj hN hM hlt hm hb2 hbl hjx
              go_wp2
              obtain ⟨b2, off2, rfl, hbl2, hcl2⟩ := HR.out.cells (by omega)
              have hkx : k < xs.length := by rw [HR.out.len]; omega
              obtain ⟨_, _, x2, x3⟩ := hcl2 k hkx
              have x2 := (HB2.out.cell (p := ⟨b2, off2 + k * 4 + 2, none⟩) hbl2).trans x2
              have x3 := (HB2.out.cell (p := ⟨b2, off2 + k * 4 + 3, none⟩) hbl2).trans x3
              clear hcl2
              have HXk := Lib.hid (List.getElem?_eq_getElem hkx)
              generalize xs[k] = y at *
              obtain ⟨⟨yo, yi, ys, yk⟩, yA, yn, yc⟩ := y
              simp only at x2 x3
              clear hbl2 hkx
              rcases Nat.lt_trichotomy ys.size 8193 with p1 | p1 | p1
              · have q1 : (ys.size : Int) < 8193 := by omega
                have q2 : ¬ 8193 < (ys.size : Int) := by omega
                have hA : ys.size ≤ 8193 := by omega
                rcases Nat.lt_trichotomy yn 8193 with p2 | p2 | p2
                · have q3 : (yn : Int) < 8193 := by omega
                  have q4 : ¬ 8193 < (yn : Int) := by omega
                  have hB : yn ≤ 8193 := by omega
                  have hE := Lib.hid (And.intro hA hB)
                  clear p1 p2 hA hB
                  go_quiet (fail)
                  go_wp2
                  obtain ⟨hk, hN2, hM2, _⟩ := HG.out
                  obtain ⟨hA, hB⟩ := hE.out
                  refine ⟨⟨k + 1, N2 + (ys.size + yn), M2 + 1, by omega, by go_num, by go_num, by go_num, by omega, by omega, Lib.hid (inn_next hIn.out HXk.out (by omega) (by intro hh; show yn ≤ 8192; omega)), below_drewN HB2.out _⟩, by simp [intOf]; omega⟩
                · have q3 : ¬ (yn : Int) < 8193 := by omega
                  have q4 : ¬ 8193 < (yn : Int) := by omega
                  have hB : yn ≤ 8193 := by omega
                  have hE := Lib.hid (And.intro hA hB)
                  clear p1 p2 hA hB
                  go_quiet (fail)
                  go_wp2
                  obtain ⟨hk, hN2, hM2, _⟩ := HG.out
                  obtain ⟨hA, hB⟩ := hE.out
                  refine ⟨⟨k + 1, N2 + (ys.size + yn), M2 + 1, by omega, by go_num, by go_num, by go_num, by omega, by omega, Lib.hid (inn_next hIn.out HXk.out (by omega) (by intro hh; show yn ≤ 8192; omega)), below_drewN HB2.out _⟩, by simp [intOf]; omega⟩
                · have q3 : ¬ (yn : Int) < 8193 := by omega
                  have q4 : 8193 < (yn : Int) := by omega
                  have hB : 8193 ≤ 8193 := by omega
                  have hE := Lib.hid (And.intro hA hB)
                  clear p1 p2 hA hB
                  go_quiet (fail)
                  go_wp2
                  obtain ⟨hk, hN2, hM2, _⟩ := HG.out
                  obtain ⟨hA, hB⟩ := hE.out
                  refine ⟨⟨k + 1, N2 + (ys.size + 8193), M2 + 1, by omega, by go_num, by go_num, by go_num, by omega, by omega, Lib.hid (inn_next hIn.out HXk.out (by omega) (by intro hh; show yn ≤ 8192; omega)), below_drewN HB2.out _⟩, by simp [intOf]; omega⟩
              · have q1 : ¬ (ys.size : Int) < 8193 := by omega
                have q2 : ¬ 8193 < (ys.size : Int) := by omega
                have hA : ys.size ≤ 8193 := by omega
                rcases Nat.lt_trichotomy yn 8193 with p2 | p2 | p2
                · have q3 : (yn : Int) < 8193 := by omega
                  have q4 : ¬ 8193 < (yn : Int) := by omega
                  have hB : yn ≤ 8193 := by omega
                  have hE := Lib.hid (And.intro hA hB)
                  clear p1 p2 hA hB
                  go_quiet (fail)
                  go_wp2
                  obtain ⟨hk, hN2, hM2, _⟩ := HG.out
                  obtain ⟨hA, hB⟩ := hE.out
                  refine ⟨⟨k + 1, N2 + (ys.size + yn), M2 + 1, by omega, by go_num, by go_num, by go_num, by omega, by omega, Lib.hid (inn_next hIn.out HXk.out (by omega) (by intro hh; show yn ≤ 8192; omega)), below_drewN HB2.out _⟩, by simp [intOf]; omega⟩
                · have q3 : ¬ (yn : Int) < 8193 := by omega
                  have q4 : ¬ 8193 < (yn : Int) := by omega
                  have hB : yn ≤ 8193 := by omega
                  have hE := Lib.hid (And.intro hA hB)
                  clear p1 p2 hA hB
                  go_quiet (fail)
                  go_wp2
                  obtain ⟨hk, hN2, hM2, _⟩ := HG.out
                  obtain ⟨hA, hB⟩ := hE.out
                  refine ⟨⟨k + 1, N2 + (ys.size + yn), M2 + 1, by omega, by go_num, by go_num, by go_num, by omega, by omega, Lib.hid (inn_next hIn.out HXk.out (by omega) (by intro hh; show yn ≤ 8192; omega)), below_drewN HB2.out _⟩, by simp [intOf]; omega⟩
                · have q3 : ¬ (yn : Int) < 8193 := by omega
                  have q4 : 8193 < (yn : Int) := by omega
                  have hB : 8193 ≤ 8193 := by omega
                  have hE := Lib.hid (And.intro hA hB)
                  clear p1 p2 hA hB
                  go_quiet (fail)
                  go_wp2
                  obtain ⟨hk, hN2, hM2, _⟩ := HG.out
                  obtain ⟨hA, hB⟩ := hE.out
                  refine ⟨⟨k + 1, N2 + (ys.size + 8193), M2 + 1, by omega, by go_num, by go_num, by go_num, by omega, by omega, Lib.hid (inn_next hIn.out HXk.out (by omega) (by intro hh; show yn ≤ 8192; omega)), below_drewN HB2.out _⟩, by simp [intOf]; omega⟩
              · have q1 : ¬ (ys.size : Int) < 8193 := by omega
                have q2 : 8193 < (ys.size : Int) := by omega
                have hA : 8193 ≤ 8193 := by omega
                rcases Nat.lt_trichotomy yn 8193 with p2 | p2 | p2
                · have q3 : (yn : Int) < 8193 := by omega
                  have q4 : ¬ 8193 < (yn : Int) := by omega
                  have hB : yn ≤ 8193 := by omega
                  have hE := Lib.hid (And.intro hA hB)
                  clear p1 p2 hA hB
                  go_quiet (fail)
                  go_wp2
                  obtain ⟨hk, hN2, hM2, _⟩ := HG.out
                  obtain ⟨hA, hB⟩ := hE.out
                  refine ⟨⟨k + 1, N2 + (8193 + yn), M2 + 1, by omega, by go_num, by go_num, by go_num, by omega, by omega, Lib.hid (inn_next hIn.out HXk.out (by omega) (by intro hh; show yn ≤ 8192; omega)), below_drewN HB2.out _⟩, by simp [intOf]; omega⟩
                · have q3 : ¬ (yn : Int) < 8193 := by omega
                  have q4 : ¬ 8193 < (yn : Int) := by omega
                  have hB : yn ≤ 8193 := by omega
                  have hE := Lib.hid (And.intro hA hB)
                  clear p1 p2 hA hB
                  go_quiet (fail)
                  go_wp2
                  obtain ⟨hk, hN2, hM2, _⟩ := HG.out
                  obtain ⟨hA, hB⟩ := hE.out
                  refine ⟨⟨k + 1, N2 + (8193 + yn), M2 + 1, by omega, by go_num, by go_num, by go_num, by omega, by omega, Lib.hid (inn_next hIn.out HXk.out (by omega) (by intro hh; show yn ≤ 8192; omega)), below_drewN HB2.out _⟩, by simp [intOf]; omega⟩
                · have q3 : ¬ (yn : Int) < 8193 := by omega
                  have q4 : 8193 < (yn : Int) := by omega
                  have hB : 8193 ≤ 8193 := by omega
                  have hE := Lib.hid (And.intro hA hB)
                  clear p1 p2 hA hB
                  go_quiet (fail)
                  go_wp2
                  obtain ⟨hk, hN2, hM2, _⟩ := HG.out
                  obtain ⟨hA, hB⟩ := hE.out
                  refine ⟨⟨k + 1, N2 + (8193 + 8193), M2 + 1, by omega, by go_num, by go_num, by go_num, by omega, by omega, Lib.hid (inn_next hIn.out HXk.out (by omega) (by intro hh; show yn ≤ 8192; omega)), below_drewN HB2.out _⟩, by simp [intOf]; omega⟩
            · have HG := Lib.hid (And.intro hN2 (And.intro hM2 (And.intro hlt hm)))
              clear hk hN2 hM2 hj hN hM hb2 hn hbl hjx
              go_wp2
              go_roundw
              case rel =>
                obtain ⟨hN2, hM2, hlt, _⟩ := HG.out
                exact ⟨j + 1, N2, M2, by omega, by go_num, rfl, rfl, hN2, hM2, Lib.hid (fun h1 h2 => by exfalso; omega), HB2.out⟩
              case measure => simp [intOf]; omega
          · have HG := Lib.hid (And.intro hN2 (And.intro hM2 (And.intro hlt hm)))
            clear hk hN2 hM2 hj hN hM hb2 hn hbl hjx
            go_wp2
            go_roundw
            case rel =>
              obtain ⟨hN2, hM2, hlt, _⟩ := HG.out
              exact ⟨j + 1, N2, M2, by omega, by go_num, rfl, rfl, hN2, hM2, Lib.hid (fun h1 h2 => by exfalso; omega), HB2.out⟩
            case measure => simp [intOf]; omega
        · have HKn := Lib.hid (show xs.length ≤ k by rw [HR.out.len]; omega)
          have HG := Lib.hid (And.intro hN2 (And.intro hM2 (And.intro hlt hm)))
          clear hk hN2 hM2 hj hN hM hb2 hn hbl hjx
          go_wp2
          go_roundw
          case rel =>
            obtain ⟨hN2, hM2, hlt, _⟩ := HG.out
            exact ⟨j + 1, N2, M2, by omega, by go_num, rfl, rfl, hN2, hM2, Lib.hid (fun h1 h2 => out_next HJ.out hOut.out hIn.out HKn.out h1 h2), HB2.out⟩
          case measure => simp [intOf]; omega
    · obtain rfl : j = m := by omega
      have HB := Lib.hid hb
      clear hb hj
      have hAll := Lib.hid (show N ≤ 8192 → M ≤ 80 → AllN ls from fun h1 h2 => by
        have h := hOut.out h1 h2
        rw [List.take_of_length_le (by rw [HL.out.len]; exact Nat.le_refl _)] at h
        exact h)
      by_cases g1 : (M : Int) ≤ 80
      · by_cases g2 : (N : Int) ≤ 8192
        · have hA := Lib.hid (hAll.out (by omega) (by omega))
          go_wp2
          go_ret
          exact ⟨⟨true, rfl, fun _ => hA.out⟩, HB.out⟩
        · go_wp2
          go_ret
          exact ⟨⟨false, rfl, fun h => by cases h⟩, HB.out⟩
      · go_wp2
        go_ret
        exact ⟨⟨false, rfl, fun h => by cases h⟩, HB.out⟩
end Go.Proofs.Ytdedbbbgpjhjhac.Dv
