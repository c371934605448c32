/- Are changes few enough to be gone through? -/
import Derived.Test.YtepnckglnciinaaSmP
namespace Go.Proofs.Ytepnckglnciinaa.Sm
open Go.RowKit Go.Proofs.Ytepnckglnciinaa.Mem
set_option linter.unusedVariables false

def sumN (cs : List ChgP) : Nat := (cs.map fun c => min c.key.size 16384 + min c.val.size 16384).sum
theorem sumN_snoc {cs : List ChgP} {j : Nat} {c : ChgP} (h : cs[j]? = some c) : sumN (cs.take (j + 1)) = sumN (cs.take j) + (min c.key.size 16384 + min c.val.size 16384) := by
  obtain ⟨hj, e⟩ := List.getElem?_eq_some_iff.1 h
  unfold sumN
  rw [List.take_succ_eq_append_getElem hj, e]
  simp
theorem putT_le (s : ByteArray) : (Oct.headT (Oct.cutT s).length ++ Oct.cutT s).length ≤ 2 + 4 * min s.size 16384 := by
  rw [List.length_append, Oct.head_len]
  have h : (Oct.cutT s).length = min 65535 s.size := by
    unfold Oct.cutT
    rw [List.length_take]
    rfl
  rw [h]
  omega
theorem putD_le (cs : List ChgP) : (putD cs).length ≤ 4 + 5 * cs.length + 4 * sumN cs := by
  have h : (cs.flatMap putC).length ≤ 5 * cs.length + 4 * sumN cs := by
    induction cs with
    | nil => simp
    | cons c cs ih =>
      have hk := putT_le c.key
      have hv := putT_le c.val
      have hc : (putC c).length ≤ 5 + 4 * (min c.key.size 16384 + min c.val.size 16384) := by
        unfold putC
        simp only [List.length_append, numB_len] at hk hv ⊢
        omega
      have hs : sumN (c :: cs) = min c.key.size 16384 + min c.val.size 16384 + sumN cs := by unfold sumN; simp
      rw [List.flatMap_cons, List.length_append, List.length_cons, hs]
      omega
  unfold putD
  rw [List.length_append, numB_len]
  omega
def SmallIs (cs : List ChgP) (w : World) (e : Ending) (w' : World) : Prop := ∃ b, e = .returned (.bool b) ∧ (b = true → cs.length ≤ 120 ∧ (putD cs).length ≤ 80000) ∧ Below w.heap.size w w'
set_option maxRecDepth 100000 in
set_option maxHeartbeats 4000000 in
theorem small_any (A : Option Addr) (n c : Nat) (cs : List ChgP) (w : World) (h : CRow w A n cs) (hf : ∀ c ∈ cs, c.key.size ≤ maxLen ∧ c.val.size ≤ maxLen) (hn : n ≤ maxLen) : Calls Try.prog 9 #[.slice A n c] w (SmallIs cs w) := by
  have HH := Lib.hid h
  have HLN := Lib.hid h.len
  have HF := Lib.hid hf
  unfold maxLen at hn
  have hn : n ≤ 9223372036854775807 := by simpa using hn
  clear h hf
  go_enter Try.func9, Try.ntmps9
  go_wp2
  go_loopw [3, 4] (fun s i wr => ∃ j : Nat, ∃ z : Nat, j ≤ n ∧ j ≤ 121 ∧ i = .int .i64 j ∧ s = .int .i64 z ∧ Hid (z ≤ 50000) ∧ Hid (z = sumN (cs.take j) ∧ Below w.heap.size w wr)) (fun _ i _ => n - (intOf i).toNat)
  case atStart => exact ⟨0, 0, by omega, by omega, rfl, rfl, Lib.hid (by omega), Lib.hid ⟨rfl, Below.refl _ _⟩⟩
  case round =>
    obtain ⟨j, z, hj, hj3, rfl, rfl, HZ1, HZ⟩ := hrel
    have hz1 := HZ1.out
    by_cases hlt : j < n
    · have hlti : (j : Int) < n := by omega
      by_cases h3 : j ≤ 120
      · have h3i : (j : Int) ≤ 120 := by omega
        by_cases hz : z ≤ 16384
        · have hzi : (z : Int) ≤ 16384 := by omega
          obtain ⟨d, hd⟩ : ∃ d, cs[j]? = some d := ⟨_, List.getElem?_eq_getElem (by rw [HLN.out]; exact hlt)⟩
          obtain ⟨b, off, rfl, hb, hr⟩ := (HH.out.below HZ.out.2).cells j d hd
          have cd0 : wr.cell? ⟨b, off + j * 3, none⟩ = some (.string d.key) := hr 0 _ rfl
          have cd1 : wr.cell? ⟨b, off + j * 3 + 1, none⟩ = some (.string d.val) := hr 1 _ rfl
          have hsz := HF.out d (List.mem_of_getElem? hd)
          have HSN := Lib.hid (sumN_snoc hd)
          unfold maxLen at hsz
          obtain ⟨m1, hm1⟩ : ∃ m1 : Nat, m1 = min d.key.size 16384 := ⟨_, rfl⟩
          obtain ⟨m2, hm2⟩ : ∃ m2 : Nat, m2 = min d.val.size 16384 := ⟨_, rfl⟩
          have hk1 : min (d.key.size : Int) 16384 = m1 := by omega
          have hk2 : min (d.val.size : Int) 16384 = m2 := by omega
          have hb1 : m1 ≤ 16384 := by omega
          have hb2 : m2 ≤ 16384 := by omega
          rw [← hm1, ← hm2] at HSN
          have HZN := Lib.hid (show z + (m1 + m2) ≤ 50000 by omega)
          have a1 : IntKind.i64.wrap ((m1 : Int) + m2) = (m1 : Int) + m2 := by rw [IntKind.wrap_i64]; omega
          have a2 : IntKind.i64.wrap ((z : Int) + ((m1 : Int) + m2)) = (z : Int) + ((m1 : Int) + m2) := by rw [IntKind.wrap_i64]; omega
          clear hr hd hm1 hm2
          go_wp2
          refine wp_region_held_drew (S := fun w' => w'.cell? ⟨b, off + j * 3, none⟩ = some (.string d.key) ∧ w'.cell? ⟨b, off + j * 3 + 1, none⟩ = some (.string d.val)) (by kernel_rfl) ⟨cd0, cd1⟩ (fun hHeld => ?_)
          refine Vc.wpAnyH_read (i := 0) (d := some 19) (v := ?v0) (by rfl) (by rfl) (by kernel_rfl) (by kernel_rfl) (by kernel_rfl) (fun _ _ _ h => h) (by rfl) ?hy0 (by assumption) ?rest0
          case hy0 =>
            intro w hSw
            obtain ⟨hS1, hS2⟩ := hSw
            go_simp
            try with_reducible rfl
          (try simp only [Act.put, List.setIfInBounds_toArray, List.set_cons_zero, List.set_cons_succ])
          refine Vc.wpAnyH_read (i := 1) (d := some 20) (v := ?v1) (by rfl) (by rfl) (by kernel_rfl) (by kernel_rfl) (by kernel_rfl) (fun _ _ _ h => h) (by rfl) ?hy1 (by assumption) ?rest1
          case hy1 =>
            intro w hSw
            obtain ⟨hS1, hS2⟩ := hSw
            go_simp
            try with_reducible rfl
          (try simp only [Act.put, List.setIfInBounds_toArray, List.set_cons_zero, List.set_cons_succ])
          refine Vc.wpAnyH_read (i := 2) (d := some 21) (v := ?v2) (by rfl) (by rfl) (by kernel_rfl) (by kernel_rfl) (by kernel_rfl) (fun _ _ _ h => h) (by rfl) ?hy2 (by assumption) ?rest2
          case hy2 =>
            intro w hSw
            obtain ⟨hS1, hS2⟩ := hSw
            go_simp
            try with_reducible rfl
          (try simp only [Act.put, List.setIfInBounds_toArray, List.set_cons_zero, List.set_cons_succ])
          refine Vc.wpAnyH_read (i := 3) (d := some 22) (v := ?v3) (by rfl) (by rfl) (by kernel_rfl) (by kernel_rfl) (by kernel_rfl) (fun _ _ _ h => h) (by rfl) ?hy3 (by assumption) ?rest3
          case hy3 =>
            intro w hSw
            obtain ⟨hS1, hS2⟩ := hSw
            go_simp
            try with_reducible rfl
          (try simp only [Act.put, List.setIfInBounds_toArray, List.set_cons_zero, List.set_cons_succ])
          refine Vc.wpAnyH_read (i := 4) (d := some 23) (v := ?v4) (by rfl) (by rfl) (by kernel_rfl) (by kernel_rfl) (by kernel_rfl) (fun _ _ _ h => h) (by rfl) ?hy4 (by assumption) ?rest4
          case hy4 =>
            intro w hSw
            obtain ⟨hS1, hS2⟩ := hSw
            go_simp
            try with_reducible rfl
          (try simp only [Act.put, List.setIfInBounds_toArray, List.set_cons_zero, List.set_cons_succ])
          refine Vc.wpAnyH_read (i := 5) (d := some 24) (v := ?v5) (by rfl) (by rfl) (by kernel_rfl) (by kernel_rfl) (by kernel_rfl) (fun _ _ _ h => h) (by rfl) ?hy5 (by assumption) ?rest5
          case hy5 =>
            intro w hSw
            obtain ⟨hS1, hS2⟩ := hSw
            go_simp
            try with_reducible rfl
          (try simp only [Act.put, List.setIfInBounds_toArray, List.set_cons_zero, List.set_cons_succ])
          refine Vc.wpAnyH_read (i := 6) (d := some 25) (v := ?v6) (by rfl) (by rfl) (by kernel_rfl) (by kernel_rfl) (by kernel_rfl) (fun _ _ _ h => h) (by rfl) ?hy6 (by assumption) ?rest6
          case hy6 =>
            intro w hSw
            obtain ⟨hS1, hS2⟩ := hSw
            go_simp
            try with_reducible rfl
          (try simp only [Act.put, List.setIfInBounds_toArray, List.set_cons_zero, List.set_cons_succ])
          refine Vc.wpAnyH_read (i := 7) (d := some 26) (v := ?v7) (by rfl) (by rfl) (by kernel_rfl) (by kernel_rfl) (by kernel_rfl) (fun _ _ _ h => h) (by rfl) ?hy7 (by assumption) ?rest7
          case hy7 =>
            intro w hSw
            obtain ⟨hS1, hS2⟩ := hSw
            go_simp
            try with_reducible rfl
          (try simp only [Act.put, List.setIfInBounds_toArray, List.set_cons_zero, List.set_cons_succ])
          refine Vc.wpAnyH_read (i := 8) (d := some 27) (v := ?v8) (by rfl) (by rfl) (by kernel_rfl) (by kernel_rfl) (by kernel_rfl) (fun _ _ _ h => h) (by rfl) ?hy8 (by assumption) ?rest8
          case hy8 =>
            intro w hSw
            obtain ⟨hS1, hS2⟩ := hSw
            go_simp
            try with_reducible rfl
          (try simp only [Act.put, List.setIfInBounds_toArray, List.set_cons_zero, List.set_cons_succ])
          refine Vc.wpAnyH_read (i := 9) (d := some 28) (v := ?v9) (by rfl) (by rfl) (by kernel_rfl) (by kernel_rfl) (by kernel_rfl) (fun _ _ _ h => h) (by rfl) ?hy9 (by assumption) ?rest9
          case hy9 =>
            intro w hSw
            obtain ⟨hS1, hS2⟩ := hSw
            go_simp
            try with_reducible rfl
          (try simp only [Act.put, List.setIfInBounds_toArray, List.set_cons_zero, List.set_cons_succ])
          refine Vc.wpAnyH_read (i := 10) (d := some 29) (v := ?v10) (by rfl) (by rfl) (by kernel_rfl) (by kernel_rfl) (by kernel_rfl) (fun _ _ _ h => h) (by rfl) ?hy10 (by assumption) ?rest10
          case hy10 =>
            intro w hSw
            obtain ⟨hS1, hS2⟩ := hSw
            go_simp
            try with_reducible rfl
          (try simp only [Act.put, List.setIfInBounds_toArray, List.set_cons_zero, List.set_cons_succ])
          refine Vc.wpAnyH_read (i := 11) (d := some 30) (v := ?v11) (by rfl) (by rfl) (by kernel_rfl) (by kernel_rfl) (by kernel_rfl) (fun _ _ _ h => h) (by rfl) ?hy11 (by assumption) ?rest11
          case hy11 =>
            intro w hSw
            obtain ⟨hS1, hS2⟩ := hSw
            go_simp
            try with_reducible rfl
          (try simp only [Act.put, List.setIfInBounds_toArray, List.set_cons_zero, List.set_cons_succ])
          refine Vc.wpAnyH_read (i := 12) (d := some 31) (v := ?v12) (by rfl) (by rfl) (by kernel_rfl) (by kernel_rfl) (by kernel_rfl) (fun _ _ _ h => h) (by rfl) ?hy12 (by assumption) ?rest12
          case hy12 =>
            intro w hSw
            obtain ⟨hS1, hS2⟩ := hSw
            go_simp
            try with_reducible rfl
          (try simp only [Act.put, List.setIfInBounds_toArray, List.set_cons_zero, List.set_cons_succ])
          refine Vc.wpAnyH_read (i := 13) (d := some 32) (v := ?v13) (by rfl) (by rfl) (by kernel_rfl) (by kernel_rfl) (by kernel_rfl) (fun _ _ _ h => h) (by rfl) ?hy13 (by assumption) ?rest13
          case hy13 =>
            intro w hSw
            obtain ⟨hS1, hS2⟩ := hSw
            go_simp
            try with_reducible rfl
          (try simp only [Act.put, List.setIfInBounds_toArray, List.set_cons_zero, List.set_cons_succ])
          refine Vc.wpAnyH_read (i := 14) (d := some 33) (v := ?v14) (by rfl) (by rfl) (by kernel_rfl) (by kernel_rfl) (by kernel_rfl) (fun _ _ _ h => h) (by rfl) ?hy14 (by assumption) ?rest14
          case hy14 =>
            intro w hSw
            obtain ⟨hS1, hS2⟩ := hSw
            go_simp
            try with_reducible rfl
          (try simp only [Act.put, List.setIfInBounds_toArray, List.set_cons_zero, List.set_cons_succ])
          refine Vc.wpAnyH_read (i := 15) (d := some 34) (v := ?v15) (by rfl) (by rfl) (by kernel_rfl) (by kernel_rfl) (by kernel_rfl) (fun _ _ _ h => h) (by rfl) ?hy15 (by assumption) ?rest15
          case hy15 =>
            intro w hSw
            obtain ⟨hS1, hS2⟩ := hSw
            go_simp
            try with_reducible rfl
          (try simp only [Act.put, List.setIfInBounds_toArray, List.set_cons_zero, List.set_cons_succ])
          refine Vc.wpAnyH_read (i := 16) (d := some 35) (v := ?v16) (by rfl) (by rfl) (by kernel_rfl) (by kernel_rfl) (by kernel_rfl) (fun _ _ _ h => h) (by rfl) ?hy16 (by assumption) ?rest16
          case hy16 =>
            intro w hSw
            obtain ⟨hS1, hS2⟩ := hSw
            go_simp
            try with_reducible rfl
          (try simp only [Act.put, List.setIfInBounds_toArray, List.set_cons_zero, List.set_cons_succ])
          refine Vc.wpAnyH_read (i := 17) (d := some 3) (v := ?v17) (by rfl) (by rfl) (by kernel_rfl) (by kernel_rfl) (by kernel_rfl) (fun _ _ _ h => h) (by rfl) ?hy17 (by assumption) ?rest17
          case hy17 =>
            intro w hSw
            obtain ⟨hS1, hS2⟩ := hSw
            go_simp
            try with_reducible rfl
          (try simp only [Act.put, List.setIfInBounds_toArray, List.set_cons_zero, List.set_cons_succ])
          refine wpAnyH_done (by kernel_rfl) ?_ _
          go_wp2
          go_roundw
          case rel => exact ⟨j + 1, z + (m1 + m2), by omega, by omega, by go_num, (by first | rfl | go_num), HZN, Lib.hid ⟨by rw [HSN.out, ← HZ.out.1], HZ.out.2.drew⟩⟩
          case measure => simp [intOf]; omega
        · have hzi : ¬ (z : Int) ≤ 16384 := by omega
          have HB := Lib.hid HZ.out.2
          by_cases hn3 : (n : Int) ≤ 120
          · go_wp2
            go_ret
            exact ⟨false, rfl, (fun e => by cases e), HB.out⟩
          · go_wp2
            go_ret
            exact ⟨false, rfl, (fun e => by cases e), HB.out⟩
      · have h3i : ¬ (j : Int) ≤ 120 := by omega
        have hn3 : ¬ (n : Int) ≤ 120 := by omega
        have HB := Lib.hid HZ.out.2
        go_wp2
        go_ret
        exact ⟨false, rfl, (fun e => by cases e), HB.out⟩
    · have hlti : ¬ (j : Int) < n := by omega
      obtain rfl : j = n := by omega
      have HB := Lib.hid HZ.out.2
      by_cases hn3 : (j : Int) ≤ 120
      · by_cases hz : z ≤ 16384
        · have hzi : (z : Int) ≤ 16384 := by omega
          have HL3 := Lib.hid (show cs.length ≤ 120 ∧ (putD cs).length ≤ 80000 from by
            have e := HZ.out.1
            have hl := HLN.out
            rw [← hl, List.take_length] at e
            have := putD_le cs
            omega)
          go_wp2
          go_ret
          exact ⟨true, rfl, fun _ => HL3.out, HB.out⟩
        · have hzi : ¬ (z : Int) ≤ 16384 := by omega
          go_wp2
          go_ret
          exact ⟨false, rfl, (fun e => by cases e), HB.out⟩
      · go_wp2
        go_ret
        exact ⟨false, rfl, (fun e => by cases e), HB.out⟩
end Go.Proofs.Ytepnckglnciinaa.Sm
