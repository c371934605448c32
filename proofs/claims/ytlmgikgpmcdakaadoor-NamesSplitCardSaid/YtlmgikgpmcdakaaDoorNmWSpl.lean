/- NamesSplit, walked. -/
import Derived.Test.YtlmgikgpmcdakaaDoorNmS
namespace Go.Proofs.YtlmgikgpmcdakaaDoor.Nm
open Go.RowKit Go.Proofs.YtlmgikgpmcdakaaDoor.Mem Go.Proofs.YtlmgikgpmcdakaaDoor.Rws

/-- Two answers of a parent that agree: an error, or names in rows of their own. -/
theorem par_both {p : ByteArray} {B : Nat} {e e2 : Ending} {w w2 : World} (h : ParEnds p B e w) (h2 : RParEnds p e2 w2) :
    ∃ (A A2 : Option Addr) (c c2 : Nat) (L : List ByteArray) (x : ByteArray), L.length ≤ 8 ∧ e = .returned (.tuple #[.slice A L.length c, .string x, .int .i64 (parErr p)]) ∧ TxtRow w A L.length L ∧
      e2 = .returned (.tuple #[.slice A2 L.length c2, .string x, .int .i64 (parErr p)]) ∧ TxtRow w2 A2 L.length L := by
  rcases h with ⟨h, he⟩ | ⟨h, _, g, L, x, hL, _, he, hx⟩
  · rcases h2 with ⟨_, he2⟩ | ⟨k, _⟩
    · exact ⟨none, none, 0, 0, [], ⟨#[]⟩, by simp, he, ⟨rfl, fun h => absurd h (by simp)⟩, he2, ⟨rfl, fun h => absurd h (by simp)⟩⟩
    · exact absurd k h
  · rcases h2 with ⟨k, _⟩ | ⟨_, A, c, L2, x2, hL2, he2, hr⟩
    · exact absurd h k
    · have e1 := List.append_inj' (hL.symm.trans hL2) (by simp)
      obtain ⟨rfl, e3⟩ := e1
      injection e3 with e3 _
      subst e3
      have h8 := splitL_le p
      rw [hL] at h8
      refine ⟨_, _, _, _, L, x, by simp at h8; omega, by rw [h]; exact he, txt_front hx, by rw [h]; exact he2, hr⟩
set_option maxHeartbeats 4000000 in
set_option maxRecDepth 100000 in
theorem split_walk (W : World) (s : ByteArray) (_ : s.size ≤ maxLen) (hT : Tabs W) :
    Calls Tryd.prog 3 #[.string s] W fun e w' => e = .returned (.bool true) ∧ Below W.heap.size W w' := by
  have AW := Lib.hid (fun w h => awake_true w h)
  have AW0 := Lib.hid (awake_true W hT)
  have HT := Lib.hid hT
  by_cases h4 : 4096 < s.size
  · have h4i : 4096 < (s.size : Int) := by omega
    clear hT
    go_enter Tryd.func3, Tryd.ntmps3
    go_wp2_with fail
    refine AW0.out.mono ?_
    rintro e w1 ⟨rfl, hb⟩
    go_wp2
    go_ret
    exact ⟨rfl, hb⟩
  · have h4i : ¬ 4096 < (s.size : Int) := by omega
    have C1 := Lib.hid (split_any s (by omega) W hT)
    have C2 := Lib.hid (fun w => rsplit_any s (by omega) w)
    have C3 := Lib.hid (fun w h => parent_any s (by omega) w h)
    have C4 := Lib.hid (fun w => rparent_any s (by omega) w)
    have C5 := Lib.hid (fun w => good_any s (by omega) w)
    have C6 := Lib.hid (fun w => rgood_any s (by omega) w)
    have h8 := Lib.hid (Nat.le_trans (splitL_le s) (by decide : 8 ≤ 9223372036854775807))
    clear hT
    go_enter Tryd.func3, Tryd.ntmps3
    go_wp2_with fail
    refine C1.out.mono ?_
    rintro e w1 ⟨⟨v1, rfl, hs1⟩, hb1⟩
    obtain ⟨A1, rfl, r1, _⟩ := strs_row hs1
    clear hs1 C1
    go_wp2_with fail
    refine (C2.out _).mono ?_
    rintro e w2 ⟨⟨v2, rfl, A2, c2, rfl, _, r2⟩, hb⟩
    have hb2 := hb1.trans (hb.mono hb1.size)
    replace r1 := r1.below hb
    clear hb hb1 C2
    go_wp2_with fail
    refine (C3.out _ (HT.out.self hb2)).mono ?_
    rintro e w3 ⟨he3, hb⟩
    have hb3 := hb2.trans (hb.mono hb2.size)
    replace r1 := r1.below hb
    replace r2 := r2.below hb
    clear hb hb2 C3
    have HE3 := Lib.hid he3
    obtain ⟨x3, y3, z3, rfl⟩ : ∃ x y z, e = .returned (.tuple #[x, y, z]) := by
      rcases he3 with ⟨_, h⟩ | ⟨_, _, _, _, _, _, _, h, _⟩
      · exact ⟨_, _, _, h⟩
      · exact ⟨_, _, _, h⟩
    clear he3
    go_wp2_with fail
    refine (C4.out _).mono ?_
    rintro e w4 ⟨he4, hb⟩
    obtain ⟨A3, A4, c3, c4, L, x, hL8, e3, r3, rfl, r4⟩ := par_both HE3.out he4
    injection e3 with e3
    injection e3 with e3
    have e31 : x3 = _ := congrArg (fun a : Array Value => a[0]!) e3
    have e32 : y3 = _ := congrArg (fun a : Array Value => a[1]!) e3
    have e33 : z3 = _ := congrArg (fun a : Array Value => a[2]!) e3
    subst e31
    subst e32
    subst e33
    have hb4 := hb3.trans (hb.mono hb3.size)
    replace r1 := r1.below hb
    replace r2 := r2.below hb
    replace r3 := r3.below hb
    have HL8 := Lib.hid (Nat.le_trans hL8 (by decide : 8 ≤ 9223372036854775807))
    clear hb hb3 HE3 he4 C4 e3 hL8
    generalize splitErr s = n1 at *
    generalize parErr s = n2 at *
    go_wp2_with fail
    refine (C5.out _).mono ?_
    rintro e w5 ⟨rfl, hb⟩
    have hb5 := hb4.trans (hb.mono hb4.size)
    replace r1 := r1.below hb
    replace r2 := r2.below hb
    replace r3 := r3.below hb
    replace r4 := r4.below hb
    clear hb hb4 C5
    go_wp2_with fail
    refine (C6.out _).mono ?_
    rintro e w6 ⟨rfl, hw⟩
    rw [hw]
    clear hw C6
    generalize goodM s.data.toList = n3 at *
    go_wp2_with fail
    refine (eqs A1 A2 _ _ _ c2 (splitL s) (splitL s) h8.out h8.out w5 r1 r2).mono ?_
    rintro e w7 ⟨rfl, q, hq⟩
    rw [decide_eq_true rfl]
    have hb := below_drewN (Below.refl w5.heap.size w5) q
    rw [← hq] at hb
    have hb7 := hb5.trans (hb.mono hb5.size)
    replace r3 := r3.below hb
    replace r4 := r4.below hb
    clear hb hb5 hq r1 r2
    go_wp2_with fail
    refine (eqs A3 A4 _ _ c3 c4 L L HL8.out HL8.out w7 r3 r4).mono ?_
    rintro e w8 ⟨rfl, q, hq⟩
    rw [decide_eq_true rfl]
    have hb := below_drewN (Below.refl w7.heap.size w7) q
    rw [← hq] at hb
    have hb8 := hb7.trans (hb.mono hb7.size)
    clear hb hb7 hq r3 r4
    go_wp2_with fail
    refine (AW.out _ (HT.out.self hb8)).mono ?_
    rintro e w9 ⟨rfl, hb⟩
    go_wp2
    go_ret
    exact ⟨rfl, hb8.trans (hb.mono hb8.size)⟩
end Go.Proofs.YtlmgikgpmcdakaaDoor.Nm
