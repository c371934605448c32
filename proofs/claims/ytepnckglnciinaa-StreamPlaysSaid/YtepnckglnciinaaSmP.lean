/- Parts that come; stages that no call made: the law StreamNobody walked. -/
import Derived.Test.YtepnckglnciinaaSmO
namespace Go.Proofs.Ytepnckglnciinaa.Sm
open Go.RowKit Go.Proofs.Ytepnckglnciinaa.Mem
set_option linter.unusedVariables false

structure PtP where
  i : Int
  s : ByteArray
def ptC (p : PtP) : Array Value := #[.int .i64 p.i, .string p.s]
theorem ptC_one (p : PtP) : (ptC p).all (·.oneCell') = true := by simp [ptC, Value.oneCell']
structure PRow (w : World) (A : Option Addr) (n : Nat) (ps : List PtP) : Prop where
  len : ps.length = n
  cells : ∀ i c, ps[i]? = some c → ∃ b off, A = some ⟨b, off, none⟩ ∧ b < w.heap.size ∧ w.rangeAt b (off + i * 2) (ptC c).toList
theorem PRow.below {w w' : World} {A : Option Addr} {n : Nat} {ps : List PtP} (h : PRow w A n ps) (hb : Below w.heap.size w w') : PRow w' A n ps :=
  ⟨h.len, fun i c hc => by
    obtain ⟨b, off, e, hl, hr⟩ := h.cells i c hc
    exact ⟨b, off, e, Nat.lt_of_lt_of_le hl hb.size, fun j v hv => (Below.cell hb (p := ⟨b, off + i * 2 + j, none⟩) hl).trans (hr j v hv)⟩⟩
def SmallsIs (ps : List PtP) (w : World) (e : Ending) (w' : World) : Prop := ∃ b, e = .returned (.bool b) ∧ (b = true → ps.length ≤ 120) ∧ w = w'
set_option maxRecDepth 100000 in
set_option maxHeartbeats 4000000 in
theorem smalls_any (A : Option Addr) (n c : Nat) (ps : List PtP) (w : World) (h : PRow w A n ps) (hf : ∀ p ∈ ps, p.s.size ≤ maxLen) (hn : n ≤ maxLen) : Calls Try.prog 17 #[.slice A n c] w (SmallsIs ps w) := by
  have HH := Lib.hid h
  have HLN := Lib.hid h.len
  have HF := Lib.hid hf
  unfold maxLen at hn
  have hn : n ≤ 9223372036854775807 := by simpa using hn
  clear h hf
  go_enter Try.func17, Try.ntmps17
  go_wp2
  go_loop [3, 4] (fun s i => ∃ j : Nat, ∃ z : Int, j ≤ n ∧ j ≤ 121 ∧ i = .int .i64 j ∧ s = .int .i64 z ∧ 0 ≤ z ∧ z ≤ 90000) (fun _ i => n - (intOf i).toNat)
  case atStart => exact ⟨0, 0, by omega, by omega, rfl, rfl, by omega, by omega⟩
  case round =>
    obtain ⟨j, z, hj, hj3, rfl, rfl, hz0, hz1⟩ := hrel
    by_cases hlt : j < n
    · by_cases h3 : j ≤ 120
      · have h3i : (j : Int) ≤ 120 := by omega
        by_cases hz : z ≤ 65536
        · obtain ⟨d, hd⟩ : ∃ d, ps[j]? = some d := ⟨_, List.getElem?_eq_getElem (by rw [HLN.out]; exact hlt)⟩
          obtain ⟨b, off, rfl, hb, hr⟩ := HH.out.cells j d hd
          have cd : w.cell? ⟨b, off + j * 2 + 1, none⟩ = some (.string d.s) := hr 1 _ rfl
          have hsz := HF.out d (List.mem_of_getElem? hd)
          unfold maxLen at hsz
          obtain ⟨m, hm⟩ : ∃ m, m = min (d.s.size : Int) 16384 := ⟨_, rfl⟩
          have hm2 : min (d.s.size : Int) 16384 = m := hm.symm
          have hm0 : 0 ≤ m ∧ m ≤ 16384 := by omega
          clear hr hd hm
          go_wp2
          all_goals
            go_round
            case rel => exact ⟨j + 1, z + m, by omega, by omega, by go_num, (by first | rfl | go_num), by omega, by omega⟩
            case measure => simp [intOf]; omega
        · have hzz : ¬ z ≤ 65536 := hz
          by_cases hn3 : (n : Int) ≤ 120
          · go_wp2
            go_ret
            exact ⟨false, rfl, (fun e => by cases e), rfl⟩
          · go_wp2
            go_ret
            exact ⟨false, rfl, (fun e => by cases e), rfl⟩
      · have h3i : ¬ (j : Int) ≤ 120 := by omega
        have hn3 : ¬ (n : Int) ≤ 120 := by omega
        go_wp2
        go_ret
        exact ⟨false, rfl, (fun e => by cases e), rfl⟩
    · have hlti : ¬ (j : Int) < n := by omega
      obtain rfl : j = n := by omega
      by_cases hn3 : (j : Int) ≤ 120
      · by_cases hz : z ≤ 65536
        · have HL3 := Lib.hid hn3
          go_wp2
          go_ret
          exact ⟨true, rfl, fun _ => by have := HLN.out; have := HL3.out; omega, rfl⟩
        · go_wp2
          go_ret
          exact ⟨false, rfl, (fun e => by cases e), rfl⟩
      · go_wp2
        go_ret
        exact ⟨false, rfl, (fun e => by cases e), rfl⟩
end Go.Proofs.Ytepnckglnciinaa.Sm
