/- Messages on their way: the law's example, and which rows are gone through. -/
import Derived.Test.YtjbbifmjhagfiaaNtN
namespace Go.Proofs.Ytjbbifmjhagfiaa.Nt
open Go.RowKit Go.Proofs.Ytjbbifmjhagfiaa.Mem Go.Proofs.Ytjbbifmjhagfiaa.Vc
set_option linter.unusedVariables false

def sameP (k : Int) : MsgP := ⟨3, 0, k, 0, (0, 0), (0, 0), 0, 0, fun _ => 0, ⟨#[]⟩⟩
theorem sameP_ok {k : Int} (h1 : 1 ≤ k) (h2 : k ≤ 7) : OkM (sameP k) := by
  refine ⟨⟨⟨show (1 : Int) ≤ 3 by decide, show (3 : Int) ≤ 4 by decide⟩, ⟨show (0 : Int) ≤ 0 by decide, show (0 : Int) ≤ 7 by decide⟩, ⟨?_, h2⟩, ?_, ⟨show (0 : Int) ≤ 0 by decide, show (0 : Int) ≤ 2 by decide⟩, show goodB (fun _ => 0) = true by decide⟩, .inl ⟨rfl, rfl⟩, .inl ⟨rfl, rfl⟩, ?_, kind_0 (show ¬ (3 : Int) = 1 by decide) (show ¬ (3 : Int) = 2 by decide) (show ¬ (3 : Int) = 4 by decide)⟩
  · show (0 : Int) ≤ k; omega
  · show (0 : Int) ≠ k; omega
  · exact sameM_of rfl
theorem same_any (k : Int) (w : World) : Calls Try.prog 43 #[.int .i64 k] w fun e w' => e = .returned (.agg (msgC (sameP k))) ∧ Below w.heap.size w w' := by
  have hal := alloc_msg
  have HR := Lib.hid (Has.fresh w 36 (msgC msg0))
  go_enter Try.func43, Try.ntmps43
  go_wp2_with (first | ((with_reducible refine Who.wpList_alloc 36 2 rfl rfl rfl (msgC msg0) hal ?_); (try simp only [Act.put, List.setIfInBounds_toArray, List.set_cons_zero, List.set_cons_succ]); (try simp only [World.size_alloc])) | ((with_reducible refine Who.wpList_storeC 36 (.tmp 2) (.tmp 4) rfl w.heap.size 0 (msgC (sameP k)) ?_); refine And.intro ⟨rfl, by rfl, by rfl, info_size _, msgC_one _⟩ (And.intro (Who.has_there HR.out rfl) ?_); (try simp only [Act.put, List.setIfInBounds_toArray, List.set_cons_zero, List.set_cons_succ])))
  refine bodyPost_ret (v := .agg (msgC (sameP k))) (Who.results_cell Try.results43 _ _ w.heap.size 0 (msgC (sameP k)) _ (by rfl) (Who.has_range (Who.has_over HR.out rfl)) Try.underlying36 rfl (info_size _)) rfl ⟨rfl, Who.below_setCells ((Below.refl w.heap.size w).alloc (Nat.le_refl _) (.cells (msgC msg0) 36)) (Nat.le_refl _) 0 _⟩
/-- A row of what befalls messages, as the law gets it. -/
structure DRow (w : World) (A : Option Addr) (n : Nat) (ds : List DoP) : Prop where
  len : ds.length = n
  cells : ∀ i d, ds[i]? = some d → ∃ b off, A = some ⟨b, off, none⟩ ∧ b < w.heap.size ∧ w.rangeAt b (off + i * 21) (doC d).toList ∧ d.m.data.size ≤ maxLen
theorem DRow.below {w w' : World} {A : Option Addr} {n : Nat} {ds : List DoP} (h : DRow w A n ds) (hb : Below w.heap.size w w') : DRow w' A n ds :=
  ⟨h.len, fun i d hd => by
    obtain ⟨b, off, e, hl, hr, hz⟩ := h.cells i d hd
    exact ⟨b, off, e, Nat.lt_of_lt_of_le hl hb.size, fun j v hv => (Below.cell hb (p := ⟨b, off + i * 21 + j, none⟩) hl).trans (hr j v hv), hz⟩⟩
def ShortIs (ds : List DoP) (w : World) (e : Ending) (w' : World) : Prop := ∃ b, e = .returned (.bool b) ∧ (b = true → ds.length ≤ 300) ∧ w = w'
set_option maxRecDepth 100000 in
set_option maxHeartbeats 4000000 in
theorem short_any (A : Option Addr) (n c : Nat) (ds : List DoP) (w : World) (h : DRow w A n ds) (hn : n ≤ maxLen) : Calls Try.prog 10 #[.slice A n c] w (ShortIs ds w) := by
  have HH := Lib.hid h
  have HLN := Lib.hid h.len
  unfold maxLen at hn
  have hn : n ≤ 9223372036854775807 := by simpa using hn
  clear h
  go_enter Try.func10, Try.ntmps10
  go_wp2
  go_loop [3, 4] (fun s i => ∃ j : Nat, ∃ z : Int, j ≤ n ∧ j ≤ 301 ∧ i = .int .i64 j ∧ s = .int .i64 z ∧ 0 ≤ z ∧ z ≤ 40000) (fun _ i => n - (intOf i).toNat)
  case atStart => exact ⟨0, 0, by omega, by omega, rfl, rfl, by omega, by omega⟩
  case round =>
    obtain ⟨j, z, hj, hj3, rfl, rfl, hz0, hz1⟩ := hrel
    by_cases hlt : j < n
    · by_cases h3 : j ≤ 300
      · have h3i : (j : Int) ≤ 300 := by omega
        by_cases hz : z ≤ 16384
        · obtain ⟨d, hd⟩ : ∃ d, ds[j]? = some d := ⟨_, List.getElem?_eq_getElem (by rw [HLN.out]; exact hlt)⟩
          obtain ⟨b, off, rfl, hb, hr, hsz⟩ := HH.out.cells j d hd
          have cd : w.cell? ⟨b, off + j * 21 + 20, none⟩ = some (.string d.m.data) := hr 20 _ rfl
          unfold maxLen at hsz
          have cd2 : w.cell? ⟨b, off + j * 21 + 2 + 18, none⟩ = some (.string d.m.data) := cd
          clear hr hd
          by_cases hq : d.m.data.size < 16384
          · have q1 : (d.m.data.size : Int) < 16384 := by omega
            have q2 : ¬ (16384 : Int) < d.m.data.size := by omega
            go_wp2
            all_goals
              go_round
              case rel => exact ⟨j + 1, z + d.m.data.size, by omega, by omega, by go_num, (by first | rfl | go_num), by omega, by omega⟩
              case measure => simp [intOf]; omega
          · have q1 : ¬ (d.m.data.size : Int) < 16384 := by omega
            by_cases hq2 : d.m.data.size = 16384
            · have q3 : (d.m.data.size : Int) = 16384 := by omega
              have q2 : ¬ (16384 : Int) < d.m.data.size := by omega
              go_wp2
              all_goals
                go_round
                case rel => exact ⟨j + 1, z + 16384, by omega, by omega, by go_num, (by first | rfl | (simp only [q3]; rfl) | go_num), by omega, by omega⟩
                case measure => simp [intOf]; omega
            · have q2 : (16384 : Int) < d.m.data.size := by omega
              go_wp2
              all_goals
                go_round
                case rel => exact ⟨j + 1, z + 16384, by omega, by omega, by go_num, (by first | rfl | go_num), by omega, by omega⟩
                case measure => simp [intOf]; omega
        · have hzz : ¬ z ≤ 16384 := hz
          by_cases hn3 : (n : Int) ≤ 300
          · go_wp2
            go_ret
            exact ⟨false, rfl, (fun e => by cases e), rfl⟩
          · go_wp2
            go_ret
            exact ⟨false, rfl, (fun e => by cases e), rfl⟩
      · have h3i : ¬ (j : Int) ≤ 300 := by omega
        have hn3 : ¬ (n : Int) ≤ 300 := by omega
        go_wp2
        go_ret
        exact ⟨false, rfl, (fun e => by cases e), rfl⟩
    · have hlti : ¬ (j : Int) < n := by omega
      obtain rfl : j = n := by omega
      by_cases hn3 : (j : Int) ≤ 300
      · by_cases hz : z ≤ 16384
        · have HL3 := Lib.hid hn3
          go_wp2
          go_ret
          exact ⟨true, rfl, fun _ => by have := HLN.out; have := HL3.out; omega, rfl⟩
        · go_wp2
          go_ret
          exact ⟨false, rfl, (fun e => by cases e), rfl⟩
      · go_wp2
        go_ret
        exact ⟨false, rfl, (fun e => by cases e), rfl⟩
end Go.Proofs.Ytjbbifmjhagfiaa.Nt
