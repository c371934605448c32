/- NamesBack, walked. -/
import Derived.Test.YtlmgikgpmcdakaaDoorNmQ
namespace Go.Proofs.YtlmgikgpmcdakaaDoor.Nm
open Go.RowKit Go.Proofs.YtlmgikgpmcdakaaDoor.Mem Go.Proofs.YtlmgikgpmcdakaaDoor.Rws

theorem inter_length : ∀ (L : List (List UInt8)), (([47] : List UInt8).intercalate L).length ≤ (L.map List.length).sum + L.length
  | [] => by simp [List.intercalate]
  | [y] => by rw [inter_one]; simp
  | y :: z :: Y => by
    rw [inter_cons]
    have := inter_length (z :: Y)
    simp at this ⊢
    omega
theorem mem_le_sum : ∀ (l : List Nat) (x : Nat), x ∈ l → x ≤ l.sum
  | [], x, h => by cases h
  | a :: l, x, h => by
    rw [List.sum_cons]
    rcases List.mem_cons.1 h with rfl | h
    · omega
    · have := mem_le_sum l x h
      omega
theorem sum_min (l : List ByteArray) (h : sumL l ≤ 4096) : ((l.map (·.data.toList)).map List.length).sum = sumL l := by
  unfold sumL at *
  rw [List.map_map]
  congr 1
  apply List.map_congr_left
  intro x hx
  have : min x.size 4097 ≤ (l.map fun x => min x.size 4097).sum := mem_le_sum _ _ (List.mem_map.2 ⟨x, hx, rfl⟩)
  show x.data.toList.length = _
  have e : x.data.toList.length = x.size := by simp
  omega
theorem short_join (l : List ByteArray) (h : shortB l = true) : (Lib.join (l.map (·.data.toList)) [47]).length ≤ 10000 := by
  unfold shortB at h
  simp only [Bool.and_eq_true, decide_eq_true_eq] at h
  have h1 := inter_length (l.map (·.data.toList))
  rw [sum_min l h.2, List.length_map] at h1
  unfold Lib.join
  omega
set_option maxHeartbeats 4000000 in
set_option maxRecDepth 100000 in
/-- The law's second half: a text that is split is joined as it was. -/
theorem back_walk (W : World) (A : Option Addr) (n c : Nat) (l : List ByteArray) (s : ByteArray)
    (h : TxtRow W A n l) (_ : A = none → n = 0 ∧ c = 0) (hnc : n ≤ c) (hcm : c ≤ maxLen) (_ : ∀ x ∈ l, x.size ≤ maxLen) (_ : s.size ≤ maxLen) (hT : Tabs W) :
    Calls Tryd.prog 7 #[.slice A n c, .string s] W fun e w' => e = .returned (.bool true) ∧ Below W.heap.size W w' := by
  have hn : n ≤ 9223372036854775807 := Nat.le_trans hnc hcm
  have S1 := Lib.hid (short_any A n c l hn W h)
  have AW0 := Lib.hid (awake_true W hT)
  have AW := Lib.hid (fun w h => awake_true w h)
  have HT := Lib.hid hT
  cases hs1 : shortB l with
  | false =>
    rw [hs1] at S1
    clear hT
    go_enter Tryd.func7, Tryd.ntmps7
    go_wp2_with fail
    refine S1.out.mono ?_
    rintro e w1 ⟨rfl, hw⟩
    rw [hw]
    go_wp2_with fail
    refine AW0.out.mono ?_
    rintro e w2 ⟨rfl, hb⟩
    go_wp2
    go_ret
    exact ⟨rfl, hb⟩
  | true =>
    rw [hs1] at S1
    by_cases h4 : 4096 < s.size
    · have h4i : 4096 < (s.size : Int) := by omega
      clear hT
      go_enter Tryd.func7, Tryd.ntmps7
      go_wp2_with fail
      refine S1.out.mono ?_
      rintro e w1 ⟨rfl, hw⟩
      rw [hw]
      go_wp2_with fail
      refine AW0.out.mono ?_
      rintro e w2 ⟨rfl, hb⟩
      go_wp2
      go_ret
      exact ⟨rfl, hb⟩
    · have h4i : ¬ 4096 < (s.size : Int) := by omega
      have hlen := short_join l hs1
      have J1 := Lib.hid (join_any A n c l hnc hlen W h hT)
      have hjs : (joinB l).size ≤ 4294967280 := by
        show Array.size _ ≤ _
        simp
        omega
      have SP := Lib.hid (fun w h => split_any (joinB l) hjs w h)
      have SS := Lib.hid (fun w h => split_any s (by omega) w h)
      have hll : l.length ≤ 9223372036854775807 := by rw [h.1]; exact hn
      clear hjs hT
      have hjl : splitErr s = 0 → (Lib.join ((splitL s).map (·.data.toList)) [47]).length ≤ 10000 := fun hz => by
        have := congrArg (fun b : ByteArray => b.data.toList.length) (join_split s hz).1
        simp [joinB] at this
        omega
      have HJL := Lib.hid hjl
      clear hjl
      cases hje : joinErr l == 0 with
      | true =>
        have hj := beq_iff_eq.1 hje
        obtain ⟨hz, hq⟩ := join_back l hj
        rw [hj, if_pos rfl] at J1
        clear hje hj
        go_enter Tryd.func7, Tryd.ntmps7
        go_wp2_with fail
        refine S1.out.mono ?_
        rintro e w1 ⟨rfl, hw⟩
        rw [hw]
        go_wp2_with fail
        refine J1.out.mono ?_
        rintro e w2 ⟨rfl, hb⟩
        go_wp2_with fail
        refine (SP.out _ (HT.out.self hb)).mono ?_
        rintro e w3 ⟨⟨v, rfl, hs⟩, hb2⟩
        rw [hz]
        obtain ⟨A2, rfl, hr, _⟩ := strs_row hs
        rw [hq] at hr ⊢
        have hb3 := hb.trans (hb2.mono hb.size)
        clear hb hb2 hs
        go_wp2_with fail
        refine (eqs A2 A l.length n l.length c l l hll hn w3 hr (h.below hb3)).mono ?_
        rintro e w4 ⟨rfl, q, rfl⟩
        rw [decide_eq_true rfl]
        have hb4 := below_drewN hb3 q
        clear hb3 hr
        generalize w3.drewN q = w4 at *
        by_cases hse : splitErr s = 0
        · go_wp2_with fail
          refine (SS.out _ (HT.out.self hb4)).mono ?_
          rintro e w5 ⟨⟨v, rfl, hs⟩, hb5⟩
          obtain ⟨A3, rfl, hr3, _⟩ := strs_row hs
          obtain ⟨hj1, hj2⟩ := join_split s hse
          have hb6 := hb4.trans (hb5.mono hb4.size)
          have J2 := join_any A3 (splitL s).length (splitL s).length (splitL s) (Nat.le_refl _) (HJL.out hse) w5 hr3 (HT.out.self hb6)
          rw [hj2, if_pos rfl, hj1] at J2
          have J3 := Lib.hid J2
          rw [hse]
          clear hb5 hb4 J2 hs hr3 hj1 hj2
          generalize splitL s = k at *
          go_wp2_with fail
          refine J3.out.mono ?_
          rintro e w6 ⟨rfl, hb7⟩
          have hb8 := hb6.trans (hb7.mono hb6.size)
          go_wp2_with fail
          refine (AW.out _ (HT.out.self hb8)).mono ?_
          rintro e w7 ⟨rfl, hb9⟩
          go_wp2
          go_ret
          exact ⟨rfl, hb8.trans (hb9.mono hb8.size)⟩
        · have hnil : splitL s = [] := by unfold splitL; rw [if_neg]; rintro ⟨a, _⟩; exact hse a
          go_wp2_with fail
          refine (SS.out _ (HT.out.self hb4)).mono ?_
          rintro e w5 ⟨⟨v, rfl, hs⟩, hb5⟩
          rw [hnil] at hs
          have hv : v = .slice none 0 0 := by
            rcases hs with ⟨_, hv⟩ | ⟨hv, _⟩
            · exact hv
            · exact absurd rfl hv
          subst hv
          have hb6 := hb4.trans (hb5.mono hb4.size)
          clear hs hb4 hb5
          generalize splitErr s = m at *
          go_wp2_with fail
          refine (AW.out _ (HT.out.self hb6)).mono ?_
          rintro e w7 ⟨rfl, hb9⟩
          go_wp2
          go_ret
          exact ⟨rfl, hb6.trans (hb9.mono hb6.size)⟩
      | false =>
        have hj : ¬ joinErr l = 0 := fun h => by rw [h] at hje; simp at hje
        rw [if_neg hj] at J1
        clear hje
        generalize joinErr l = je at *
        go_enter Tryd.func7, Tryd.ntmps7
        go_wp2_with fail
        refine S1.out.mono ?_
        rintro e w1 ⟨rfl, hw⟩
        rw [hw]
        go_wp2_with fail
        refine J1.out.mono ?_
        rintro e w4 ⟨rfl, hb4⟩
        by_cases hse : splitErr s = 0
        · go_wp2_with fail
          refine (SS.out _ (HT.out.self hb4)).mono ?_
          rintro e w5 ⟨⟨v, rfl, hs⟩, hb5⟩
          obtain ⟨A3, rfl, hr3, _⟩ := strs_row hs
          obtain ⟨hj1, hj2⟩ := join_split s hse
          have hb6 := hb4.trans (hb5.mono hb4.size)
          have J2 := join_any A3 (splitL s).length (splitL s).length (splitL s) (Nat.le_refl _) (HJL.out hse) w5 hr3 (HT.out.self hb6)
          rw [hj2, if_pos rfl, hj1] at J2
          have J3 := Lib.hid J2
          rw [hse]
          clear hb5 hb4 J2 hs hr3 hj1 hj2
          generalize splitL s = k at *
          go_wp2_with fail
          refine J3.out.mono ?_
          rintro e w6 ⟨rfl, hb7⟩
          have hb8 := hb6.trans (hb7.mono hb6.size)
          go_wp2_with fail
          refine (AW.out _ (HT.out.self hb8)).mono ?_
          rintro e w7 ⟨rfl, hb9⟩
          go_wp2
          go_ret
          exact ⟨rfl, hb8.trans (hb9.mono hb8.size)⟩
        · have hnil : splitL s = [] := by unfold splitL; rw [if_neg]; rintro ⟨a, _⟩; exact hse a
          go_wp2_with fail
          refine (SS.out _ (HT.out.self hb4)).mono ?_
          rintro e w5 ⟨⟨v, rfl, hs⟩, hb5⟩
          rw [hnil] at hs
          have hv : v = .slice none 0 0 := by
            rcases hs with ⟨_, hv⟩ | ⟨hv, _⟩
            · exact hv
            · exact absurd rfl hv
          subst hv
          have hb6 := hb4.trans (hb5.mono hb4.size)
          clear hs hb4 hb5
          generalize splitErr s = m at *
          go_wp2_with fail
          refine (AW.out _ (HT.out.self hb6)).mono ?_
          rintro e w7 ⟨rfl, hb9⟩
          go_wp2
          go_ret
          exact ⟨rfl, hb6.trans (hb9.mono hb6.size)⟩
end Go.Proofs.YtlmgikgpmcdakaaDoor.Nm
