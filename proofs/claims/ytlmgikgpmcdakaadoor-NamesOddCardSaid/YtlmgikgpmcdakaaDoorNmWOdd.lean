/- NamesOdd, walked. -/
import Derived.Test.YtlmgikgpmcdakaaDoorNmStamp
import Derived.Test.YtlmgikgpmcdakaaDoorNmO
namespace Go.Proofs.YtlmgikgpmcdakaaDoor.Nm
open Go.RowKit Go.Proofs.YtlmgikgpmcdakaaDoor.Mem

theorem rodd_b (t w : Int) (W : World) (_ : Tabs W) : Calls Tryd.prog 26 #[.agg #[.int .i64 t, .int .i64 w]] W fun e W' => e = .returned (.string (oddB t w)) ∧ Below W.heap.size W W' := rodd_any t w W
theorem ans_form (s : ByteArray) : ∃ (a b : Int) (ok : Bool), ofAns s = .tuple #[.agg #[.int .i64 a, .int .i64 b], .bool ok] := by
  unfold ofAns
  by_cases h : oddL (timeOf s) (whoOf s) = s.data.toList
  · exact ⟨_, _, true, if_pos h⟩
  · exact ⟨_, _, false, if_neg h⟩
set_option maxHeartbeats 8000000 in
set_option maxRecDepth 100000 in
theorem odd_walk (W : World) (t w : Int) (s : ByteArray) (_ : (Lit.int .i64 t).wf = true) (_ : (Lit.int .i64 w).wf = true) (_ : s.size ≤ maxLen) (hT : Tabs W) :
    Calls Tryd.prog 6 #[.agg #[.int .i64 t, .int .i64 w], .string s] W fun e w' => e = .returned (.bool true) ∧ Below W.heap.size W w' := by
  have AW := Lib.hid (fun w h => awake_true w h)
  have HT := Lib.hid hT
  have HB := Lib.hid ((Below.refl W.heap.size W).alloc (Nat.le_refl _) (.cells #[.int .i64 t, .int .i64 w] 38))
  have ha0 := Has.fresh W 38 #[.int .i64 t, .int .i64 w]
  clear hT
  by_cases h4 : 4096 < s.size
  · have h4i : 4096 < (s.size : Int) := by omega
    clear h4
    go_enter Tryd.func6, Tryd.ntmps6
    go_wp2_with fail
    refine (AW.out _ (HT.out.self HB.out)).mono ?_
    rintro e w2 ⟨rfl, hb⟩
    go_wp2
    go_ret
    exact ⟨rfl, HB.out.trans (hb.mono HB.out.size)⟩
  · have h4i : ¬ 4096 < (s.size : Int) := by omega
    have F1 := Lib.hid (fun W h => of_any s (by omega) W h)
    have F2 := Lib.hid (fun W => rof_any s W)
    obtain ⟨a, b, ok, he⟩ := ans_form s
    rw [he] at F1 F2
    have O1 := Lib.hid (fun W h => odd_b t w W h)
    have O2 := Lib.hid (fun W h => rodd_b t w W h)
    clear h4 he
    go_enter Tryd.func6, Tryd.ntmps6
    go_wp2_with fail
    refine (F1.out _ (HT.out.self HB.out)).mono ?_
    rintro e w1 ⟨rfl, hb⟩
    have hb1 := HB.out.trans (hb.mono HB.out.size)
    replace ha0 := ha0.below hb
    clear hb
    have hi1 := Has.fresh w1 38 #[.int .i64 a, .int .i64 b]
    replace ha0 := ha0.past (.cells #[.int .i64 a, .int .i64 b] 38)
    have hb2 := hb1.alloc hb1.size (.cells #[.int .i64 a, .int .i64 b] 38)
    go_wp2_with fail
    refine (F2.out _).mono ?_
    rintro e w2 ⟨rfl, hb⟩
    replace hb2 := hb2.trans (hb.mono hb2.size)
    replace ha0 := ha0.below hb
    replace hi1 := hi1.below hb
    clear hb hb1
    have hj := Has.fresh w2 38 #[.int .i64 a, .int .i64 b]
    replace ha0 := ha0.past (.cells #[.int .i64 a, .int .i64 b] 38)
    replace hi1 := hi1.past (.cells #[.int .i64 a, .int .i64 b] 38)
    replace hb2 := hb2.alloc hb2.size (.cells #[.int .i64 a, .int .i64 b] 38)
    replace ha0 := ha0.drew
    replace hi1 := hi1.drew
    replace hj := hj.drew
    replace hb2 := hb2.drew
    go_wp2_with fail
    go_region_held3 (fun w' => w'.cell? ⟨W.heap.size, 0, none⟩ = some (.int .i64 t) ∧ w'.cell? ⟨W.heap.size, 1, none⟩ = some (.int .i64 w) ∧ w'.cell? ⟨w1.heap.size, 0, none⟩ = some (.int .i64 a) ∧ w'.cell? ⟨w1.heap.size, 1, none⟩ = some (.int .i64 b) ∧ w'.cell? ⟨w2.heap.size, 0, none⟩ = some (.int .i64 a) ∧ w'.cell? ⟨w2.heap.size, 1, none⟩ = some (.int .i64 b)) (exact ⟨Has.at_ ha0 0, Has.at_ ha0 1, Has.at_ hi1 0, Has.at_ hi1 1, Has.at_ hj 0, Has.at_ hj 1⟩) (first | (go_at_call 25; refine (O1.out _ (HT.out.self hb2)).mono ?_; rintro e w' ⟨rfl, hb⟩; replace ha0 := ha0.below hb; replace hi1 := hi1.below hb; replace hj := hj.below hb; replace hb2 := hb2.trans (hb.mono hb2.size); clear hb) | (go_at_call 26; refine (O2.out _ (HT.out.self hb2)).mono ?_; rintro e w' ⟨rfl, hb⟩; replace ha0 := ha0.below hb; replace hi1 := hi1.below hb; replace hj := hj.below hb; replace hb2 := hb2.trans (hb.mono hb2.size); clear hb) | (go_at_call 10; refine (AW.out _ (HT.out.self hb2)).mono ?_; rintro e w' ⟨rfl, hb⟩; replace ha0 := ha0.below hb; replace hi1 := hi1.below hb; replace hj := hj.below hb; replace hb2 := hb2.trans (hb.mono hb2.size); clear hb))
    all_goals go_wp2_with fail
    all_goals go_ret
    all_goals exact ⟨rfl, hb2⟩
end Go.Proofs.YtlmgikgpmcdakaaDoor.Nm
