/- The walk of the law CrcSeals. -/
import Derived.Test.YthbpnbllcbemfabCrcAwake
namespace Go.Proofs.Ythbpnbllcbemfab.CrcW
open Go.RowKit
open Go.Proofs.Ythbpnbllcbemfab.CrcM

theorem below_two {B : Nat} {a b c : World} (h : Below B a b) (hB : B ≤ b.heap.size) (k : Below b.heap.size b c) : Below B a c := h.trans (k.mono hB)

set_option maxHeartbeats 400000 in
theorem seals_long (b s : ByteArray) (hb : ¬ 4096 < b.size) (hs : ¬ 4096 < s.size) (h8 : 8 ≤ s.size) (w : World) :
    Calls Try.prog 8 #[.string b, .string s] w fun e w' => e = .returned (.bool true) ∧ Below w.heap.size w w' := by
  have hz := sealB_size b
  have hi := Lib.hid (headB_seal b)
  have ho := Lib.hid (openB_seal b)
  go_enter Try.func8, Try.ntmps8
  go_wp2_with fail
  refine (open_long s h8 (by omega) _).mono ?_
  rintro e w1 ⟨rfl, hb1⟩
  go_wp2_with fail
  refine (ropen_long s h8 (by omega) _).mono ?_
  rintro e w2 ⟨rfl, hb2⟩
  go_wp2_with fail
  refine (seal_any b (by omega) _).mono ?_
  rintro e w3 ⟨rfl, hb3⟩
  go_wp2_with fail
  refine (open_long (sealB b) (by omega) (by omega) _).mono ?_
  rintro e w4 ⟨rfl, hb4⟩
  rw [hi.out, ho.out]
  go_wp2_with fail
  refine (seal_any b (by omega) _).mono ?_
  rintro e w5 ⟨rfl, hb5⟩
  go_wp2_with fail
  refine (rseal_any b (by omega) _).mono ?_
  rintro e w6 ⟨rfl, hb6⟩
  go_wp2_with fail
  refine (awake_any _).mono ?_
  rintro e w7 ⟨rfl, hb7⟩
  go_wp2
  go_ret
  have h12 := below_two hb1 hb1.size hb2
  have h13 := below_two h12 h12.size hb3
  have h14 := below_two h13 h13.size hb4
  have h15 := below_two h14 h14.size hb5
  have h16 := below_two h15 h15.size hb6
  exact ⟨rfl, below_two h16 h16.size hb7⟩
set_option maxHeartbeats 400000 in
theorem seals_short (b s : ByteArray) (hb : ¬ 4096 < b.size) (hs : ¬ 4096 < s.size) (h8 : s.size < 8) (w : World) :
    Calls Try.prog 8 #[.string b, .string s] w fun e w' => e = .returned (.bool true) ∧ Below w.heap.size w w' := by
  have hz := sealB_size b
  have hi := Lib.hid (headB_seal b)
  have ho := Lib.hid (openB_seal b)
  go_enter Try.func8, Try.ntmps8
  go_wp2_with fail
  refine (open_short s h8 _).mono ?_
  rintro e w1 ⟨rfl, rfl⟩
  go_wp2_with fail
  refine (ropen_short s h8 _).mono ?_
  rintro e w1 ⟨rfl, rfl⟩
  go_wp2_with fail
  refine (seal_any b (by omega) _).mono ?_
  rintro e w3 ⟨rfl, hb3⟩
  go_wp2_with fail
  refine (open_long (sealB b) (by omega) (by omega) _).mono ?_
  rintro e w4 ⟨rfl, hb4⟩
  rw [hi.out, ho.out]
  go_wp2_with fail
  refine (seal_any b (by omega) _).mono ?_
  rintro e w5 ⟨rfl, hb5⟩
  go_wp2_with fail
  refine (rseal_any b (by omega) _).mono ?_
  rintro e w6 ⟨rfl, hb6⟩
  go_wp2_with fail
  refine (awake_any _).mono ?_
  rintro e w7 ⟨rfl, hb7⟩
  go_wp2
  go_ret
  have h14 := below_two hb3 hb3.size hb4
  have h15 := below_two h14 h14.size hb5
  have h16 := below_two h15 h15.size hb6
  exact ⟨rfl, below_two h16 h16.size hb7⟩
theorem seals_walk (b s : ByteArray) (_w0 : b.size ≤ maxLen) (_w1 : s.size ≤ maxLen) (w : World) :
    Calls Try.prog 8 #[.string b, .string s] w fun e w' => e = .returned (.bool true) ∧ Below w.heap.size w w' := by
  by_cases hb : 4096 < b.size
  · go_enter Try.func8, Try.ntmps8
    go_wp2_with fail
    refine (awake_any _).mono ?_
    rintro e w1 ⟨rfl, hb1⟩
    go_wp2
    go_ret
    exact ⟨rfl, hb1⟩
  · by_cases hs : 4096 < s.size
    · go_enter Try.func8, Try.ntmps8
      go_wp2_with fail
      refine (awake_any _).mono ?_
      rintro e w1 ⟨rfl, hb1⟩
      go_wp2
      go_ret
      exact ⟨rfl, hb1⟩
    · by_cases h8 : 8 ≤ s.size
      · exact seals_long b s hb hs h8 w
      · exact seals_short b s hb hs (by omega) w
end Go.Proofs.Ythbpnbllcbemfab.CrcW
