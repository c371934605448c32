/- The law StreamWindows walked. -/
import Derived.Test.YtepnckglnciinaaSmM
namespace Go.Proofs.Ytepnckglnciinaa.Sm
open Go.RowKit Go.Proofs.Ytepnckglnciinaa.Mem
set_option linter.unusedVariables false

theorem wf_i64 {n : Int} (h : (Lit.int .i64 n).wf = true) : -9223372036854775808 ≤ n ∧ n ≤ 9223372036854775807 := by
  simpa [Lit.wf, IntKind.min, IntKind.max, IntKind.signed, IntKind.bits] using h
set_option maxRecDepth 100000 in
set_option maxRecDepth 100000 in
set_option maxHeartbeats 4000000 in
theorem windows_walk (f t : Int) (hf : (Lit.int .i64 f).wf = true) (ht : (Lit.int .i64 t).wf = true) (W : World) : Calls Try.prog 4 #[.int .i64 f, .int .i64 t] W fun e w' => e = .returned (.bool true) ∧ Below W.heap.size W w' := by
  have HW := Lib.hid (window_any f t (wf_i64 hf) (wf_i64 ht) W)
  have HR := Lib.hid (fun w => rwindow_any f t (wf_i64 hf) (wf_i64 ht) w)
  clear hf ht
  go_enter Try.func4, Try.ntmps4
  go_wp2_with fail
  refine HW.out.mono ?_
  rintro e w1 ⟨u1, rfl, hu1, hb⟩
  have HB1 := Lib.hid hb
  obtain ⟨A1, c1, rfl, hr1⟩ := hu1.row
  have HR1 := Lib.hid hr1
  have hlen : (winL f t).length ≤ 4 := by unfold winL; rw [rangeL_len]; exact winN_le f t
  obtain ⟨l, hl⟩ : ∃ l, l = winL f t := ⟨_, rfl⟩
  have HL := Lib.hid hl
  rw [← hl] at HR1 hlen ⊢
  clear hu1 hb hr1 hl
  go_wp2_with fail
  refine (HR.out w1).mono ?_
  rintro e w2 ⟨u2, rfl, hu2, hb⟩
  rw [← HL.out] at hu2
  have HB2 := Lib.hid (HB1.out.trans (hb.mono HB1.out.size))
  obtain ⟨A2, c2, rfl, hr2⟩ := hu2.row
  have HE := Lib.hid (eqi_any A1 A2 l.length l.length c1 c2 l l (by omega) w2 (HR1.out.below hb) hr2)
  clear hu2 hb hr2
  go_wp2_with fail
  refine HE.out.mono ?_
  rintro e w3 ⟨rfl, hb⟩
  have HB3 := Lib.hid (HB2.out.trans (hb.mono HB2.out.size))
  clear hb
  go_wp2_with fail
  refine (awake_any w3).mono ?_
  rintro e w4 ⟨rfl, hb⟩
  have HB4 := Lib.hid (HB3.out.trans (hb.mono HB3.out.size))
  clear hb
  go_wp2
  go_ret
  exact ⟨rfl, HB4.out⟩
end Go.Proofs.Ytepnckglnciinaa.Sm
