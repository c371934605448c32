/- The walks of the laws of the sums. -/
import Derived.Test.YthbpnbllcbemfabCrcAwake
import Derived.Handy
namespace Go.Proofs.Ythbpnbllcbemfab.CrcW
open Go.RowKit
open Go.Proofs.Ythbpnbllcbemfab.CrcM

theorem u64_nat (n : Int) (h : (Lit.int .u64 n).wf = true) : ∃ k : Nat, n = k ∧ k < 18446744073709551616 := by
  have hx : 0 ≤ n ∧ n ≤ 18446744073709551615 := by simpa [Lit.wf, IntKind.min, IntKind.max, IntKind.signed, IntKind.bits] using h
  exact ⟨n.toNat, by omega, by omega⟩

set_option maxHeartbeats 400000 in
theorem sums_walk (a0 : Int) (s : ByteArray) (w0 : (Lit.int .u64 a0).wf = true) (w1 : s.size ≤ maxLen) (w : World) :
    Calls Try.prog 7 #[.int .u64 a0, .string s] w fun e w' => e = .returned (.bool true) ∧ Below w.heap.size w w' := by
  obtain ⟨c, rfl, hc⟩ := u64_nat a0 w0
  clear w0
  by_cases hl : 4096 < s.size
  · go_enter Try.func7, Try.ntmps7
    go_wp2_with fail
    refine (awake_any _).mono ?_
    rintro e w1 ⟨rfl, hb1⟩
    go_wp2
    go_ret
    exact ⟨rfl, hb1⟩
  · have ht : (((more c s.data.toList : Nat) : Int) == ((more c s.data.toList : Nat) : Int)) = true := by simp
    go_enter Try.func7, Try.ntmps7
    go_wp2_with fail
    refine (more_any c hc s w1 _).mono ?_
    rintro e w1 ⟨rfl, rfl⟩
    go_wp2_with fail
    refine (rmore_any c hc s (by assumption) _).mono ?_
    rintro e w1 ⟨rfl, rfl⟩
    go_wp2_with fail
    refine (of_any s (by assumption) _).mono ?_
    rintro e w1 ⟨rfl, rfl⟩
    go_wp2_with fail
    refine (rof_any s (by assumption) _).mono ?_
    rintro e w1 ⟨rfl, rfl⟩
    go_wp2_with fail
    refine (awake_any _).mono ?_
    rintro e w1 ⟨rfl, hb1⟩
    go_wp2
    go_ret
    exact ⟨rfl, hb1⟩

set_option maxHeartbeats 400000 in
theorem parts_walk (a0 : Int) (a b : ByteArray) (w0 : (Lit.int .u64 a0).wf = true) (w1 : a.size ≤ maxLen) (w2 : b.size ≤ maxLen) (w : World) :
    Calls Try.prog 9 #[.int .u64 a0, .string a, .string b] w fun e w' => e = .returned (.bool true) ∧ Below w.heap.size w w' := by
  obtain ⟨c, rfl, hc⟩ := u64_nat a0 w0
  clear w0
  by_cases hl : 4096 < a.size
  · go_enter Try.func9, Try.ntmps9
    go_wp2_with fail
    refine (awake_any _).mono ?_
    rintro e w1 ⟨rfl, hb1⟩
    go_wp2
    go_ret
    exact ⟨rfl, hb1⟩
  · by_cases hl2 : 4096 < b.size
    · go_enter Try.func9, Try.ntmps9
      go_wp2_with fail
      refine (awake_any _).mono ?_
      rintro e w1 ⟨rfl, hb1⟩
      go_wp2
      go_ret
      exact ⟨rfl, hb1⟩
    · have ht : (((more c (a.data.toList ++ b.data.toList) : Nat) : Int) == ((more (more c a.data.toList) b.data.toList : Nat) : Int)) = true := by rw [more_append]; simp
      have hs : (a ++ b).size ≤ maxLen := by rw [ByteArray.size_append]; unfold maxLen; omega
      go_enter Try.func9, Try.ntmps9
      go_wp2_with fail
      refine (more_any c hc (a ++ b) hs _).mono ?_
      rintro e w1 ⟨rfl, rfl⟩
      go_wp2_with fail
      refine (more_any c hc a (by assumption) _).mono ?_
      rintro e w1 ⟨rfl, rfl⟩
      go_wp2_with fail
      refine (more_any _ (more_lt _ _) b (by assumption) _).mono ?_
      rintro e w1 ⟨rfl, rfl⟩
      go_wp2_with fail
      refine (awake_any _).mono ?_
      rintro e w1 ⟨rfl, hb1⟩
      go_wp2
      go_ret
      exact ⟨rfl, hb1⟩
end Go.Proofs.Ythbpnbllcbemfab.CrcW
