/- The law StreamCuts walked. -/
import Derived.Test.YtepnckglnciinaaSmT
import Derived.Test.YtepnckglnciinaaSmR
import Derived.Test.YtepnckglnciinaaSmM
namespace Go.Proofs.Ytepnckglnciinaa.Sm
open Go.RowKit Go.Proofs.Ytepnckglnciinaa.Mem
set_option linter.unusedVariables false

theorem cutN_len : ∀ (k : Nat) (s : ByteArray), (cutN k s).length ≤ k
  | 0, s => by simp [cutN]
  | k + 1, s => by
    unfold cutN
    split
    · simp
    · rw [List.length_cons]
      have := cutN_len k (s.extract (min s.size 512) s.size)
      omega
theorem cut_len (s : ByteArray) : (cutL s).length ≤ s.size := cutN_len _ _
set_option maxRecDepth 100000 in
set_option maxHeartbeats 4000000 in
theorem cuts_walk (W : World) (A : Option Addr) (n c : Nat) (cs : List ChgP) (h : CRow W A n cs) (hf : ∀ y ∈ cs, y.key.size ≤ maxLen ∧ y.val.size ≤ maxLen) (hn : n ≤ c) (hc : c ≤ maxLen) : Calls Try.prog 3 #[.slice A n c] W fun e w' => e = .returned (.bool true) ∧ Below W.heap.size W w' := by
  have HS := Lib.hid (small_any A n c cs W h hf (Nat.le_trans hn hc))
  have HR := Lib.hid h
  clear h hf hn hc
  go_enter Try.func3, Try.ntmps3
  go_wp2_with fail
  refine HS.out.mono ?_
  rintro e w1 ⟨b, rfl, hbn, hb⟩
  have HB1 := Lib.hid hb
  have HR1 := Lib.hid (HR.out.below hb)
  clear hb
  cases b with
  | false =>
    clear hbn
    go_wp2_with fail
    refine (awake_any _).mono ?_
    rintro e w4 ⟨rfl, hb⟩
    have HB4 := Lib.hid (HB1.out.trans (hb.mono HB1.out.size))
    clear hb
    go_wp2
    go_ret
    exact ⟨rfl, HB4.out⟩
  | true =>
    obtain ⟨h1, h2⟩ := hbn rfl
    have hl := HR1.out.len
    have HC := Lib.hid (cut_any A n c cs w1 HR1.out (by omega) (by omega))
    have HSZ := Lib.hid h2
    have HN := Lib.hid (show n ≤ 800000 by omega)
    clear hbn h1 h2 hl
    go_wp2_with fail
    refine HC.out.mono ?_
    rintro e w2 ⟨u2, rfl, hu2, hb⟩
    have HB2 := Lib.hid (HB1.out.trans (hb.mono HB1.out.size))
    have HR2 := Lib.hid (HR1.out.below hb)
    have HU2 := Lib.hid hu2
    have HC2 := Lib.hid (rcut_any A n c cs w2 HR2.out HN.out (by have := HSZ.out; omega))
    obtain ⟨A2, c2, rfl, _⟩ := hu2.row
    clear hb hu2
    go_wp2_with fail
    refine HC2.out.mono ?_
    rintro e w3 ⟨u3, rfl, hu3, hb⟩
    have HB3 := Lib.hid (HB2.out.trans (hb.mono HB2.out.size))
    obtain ⟨A3, c3, rfl, hr3⟩ := hu3.row
    obtain ⟨l, hlq⟩ : ∃ l, l = cutL ⟨(putD cs).toArray⟩ := ⟨_, rfl⟩
    have hcl : (cutL ⟨(putD cs).toArray⟩).length ≤ 800000 := by
      have h := cut_len ⟨(putD cs).toArray⟩
      have := HSZ.out
      have e : (⟨(putD cs).toArray⟩ : ByteArray).size = (putD cs).length := by simp [ByteArray.size]
      omega
    have HE := Lib.hid (eqs_own _ _ _ _ _ _ (by omega) w3 (own1_below HU2.out hb) hu3)
    rw [decide_eq_true rfl] at HE
    clear hb hu3 hr3 hcl
    rw [← hlq] at HE ⊢
    clear hlq
    go_wp2_with fail
    refine HE.out.mono ?_
    rintro e w4 ⟨rfl, hb⟩
    have HB4 := Lib.hid (HB3.out.trans (hb.mono HB3.out.size))
    clear hb
    go_wp2_with fail
    refine (awake_any _).mono ?_
    rintro e w5 ⟨rfl, hb⟩
    have HB5 := Lib.hid (HB4.out.trans (hb.mono HB4.out.size))
    clear hb
    go_wp2
    go_ret
    exact ⟨rfl, HB5.out⟩
end Go.Proofs.Ytepnckglnciinaa.Sm
