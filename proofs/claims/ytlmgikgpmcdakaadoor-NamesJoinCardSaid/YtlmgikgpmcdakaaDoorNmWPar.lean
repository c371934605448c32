/- NamesParents, walked. -/
import Derived.Test.YtlmgikgpmcdakaaDoorNmM
import Derived.Laws.AppendOwn
import Derived.OwnWalk
namespace Go.Proofs.YtlmgikgpmcdakaaDoor.Nm
open Go.RowKit Go.Proofs.YtlmgikgpmcdakaaDoor.Mem Go.Proofs.YtlmgikgpmcdakaaDoor.Rws

theorem info_str : (Tryd.prog.info? 9).map (fun i => (i.zero, i.size, i.bytes)) = some (some (.string ⟨#[]⟩), 1, 16) := by kernel_rfl
/-- Some of a row of texts, by themselves. -/
theorem clone_any (g : Nat) (L : List ByteArray) (x : ByteArray) (hL : L.length ≤ 8) (w : World) (h : Has w g 9 ((L ++ [x]).map Value.string).toArray) :
    Calls Tryd.prog 19 #[.slice (some ⟨g, 0, none⟩) L.length L.length] w fun e w' => ∃ v, e = .returned v ∧ w'.ownsRow w.heap.size 9 1 v L.length (L.map Value.string) ∧ Below w.heap.size w w' := by
  cases L with
  | nil =>
    refine (Tryd.slices_Clone_string_zero ⟨g, 0, none⟩ 0 w).mono ?_
    rintro e w' ⟨v, he, ho, _, hb⟩
    exact ⟨v, he, ho, hb⟩
  | cons a L =>
    refine (Tryd.slices_Clone_string g 0 (a :: L).length (a :: L).length (a :: L ++ [x]) w (by simp) (by omega) (cells_of h)).mono ?_
    rintro e w' ⟨v, he, ho, _, hb⟩
    refine ⟨v, he, ?_, hb⟩
    rw [List.take_left'] at ho
    · exact ho
    · rfl
theorem wpList_when {P : Program} {ops : Array Oper} {rest : List Oper} {o : Oper} {a : Act} {w : World} {Q : Exit → Act → World → Prop} (hg : Region.wanted o (yielded ops a.tmps) = true)
    (h : ∀ K : Act → World → Prop, (∀ a w, wpList P ops Q rest a w → K a w) → o.wp P a w K Q) : wpList P ops Q (o :: rest) a w :=
  wpList_step fun K hK => by rw [if_pos hg]; exact h K hK
theorem row_of {w : World} {B : Nat} {v : Value} {n : Nat} {l : List ByteArray} (h : w.ownsRow B 9 1 v n (l.map Value.string)) : ∃ A c, v = .slice A n c ∧ TxtRow w A n l := by
  have hl : l.length = n := by have := h.1; simpa using this
  rcases h.2 with ⟨rfl, h0⟩ | ⟨g, cap, cur, rfl, _, hg, hc, hm, hs, hx⟩
  · subst h0
    exact ⟨none, 0, rfl, hl, fun h => absurd h (by omega)⟩
  · refine ⟨some ⟨g, 0, none⟩, cap, rfl, hl, fun _ => ⟨g, 0, rfl, (Array.getElem?_eq_some_iff.1 hg).1, fun i hi => ?_⟩⟩
    have e : w.cell? ⟨g, 0 + i, none⟩ = cur[i]? := by
      rw [Nat.zero_add]
      simp only [World.cell?, hg]
      simp
    rw [e]
    have h2 := congrArg (·[i]?) hx
    simp only [Nat.mul_one, List.getElem?_map, List.getElem?_eq_getElem hi, Option.map_some] at h2
    rw [List.getElem?_take_of_lt (by omega)] at h2
    simpa using h2
theorem txt_of {w : World} {g : Nat} {L : List ByteArray} {t : TypeId} (h : Has w g t (L.map Value.string).toArray) : TxtRow w (some ⟨g, 0, none⟩) L.length L :=
  ⟨rfl, fun _ => ⟨g, 0, rfl, h.bound, fun i hi => by rw [cells_of h i hi]; simp [List.getD, List.getElem?_eq_getElem hi]⟩⟩
theorem txt_front {w : World} {g : Nat} {L : List ByteArray} {x : ByteArray} {t : TypeId} (h : Has w g t ((L ++ [x]).map Value.string).toArray) : TxtRow w (some ⟨g, 0, none⟩) L.length L :=
  ⟨rfl, fun _ => ⟨g, 0, rfl, h.bound, fun i hi => by
    rw [cells_of h i (by simp; omega)]
    simp [List.getD, List.getElem?_append_left hi, List.getElem?_eq_getElem hi]⟩⟩
theorem within_front (L : List ByteArray) (x : ByteArray) : withinB (L ++ [x]) L = true ∧ withinB L (L ++ [x]) = false := by
  unfold withinB
  constructor
  · simp
  · rw [decide_eq_false (p := (L ++ [x]).length ≤ L.length) (by simp)]
    rfl
set_option maxHeartbeats 4000000 in
set_option maxRecDepth 100000 in
theorem parents_walk (W : World) (s : ByteArray) (_hw : s.size ≤ maxLen) (hT : Tabs W) :
    Calls Tryd.prog 9 #[.string s] W fun e w' => e = .returned (.bool true) ∧ Below W.heap.size W w' := by
  have AW := Lib.hid (fun w h => awake_true w h)
  have HT := Lib.hid hT
  by_cases h4 : 4096 < s.size
  · have h4i : 4096 < (s.size : Int) := by omega
    have AW0 := Lib.hid (awake_true W hT)
    go_enter Tryd.func9, Tryd.ntmps9
    go_wp2_with fail
    refine AW0.out.mono ?_
    rintro e w1 ⟨rfl, hb⟩
    go_wp2
    go_ret
    exact ⟨rfl, hb⟩
  · have h4i : ¬ 4096 < (s.size : Int) := by omega
    have P := Lib.hid (parent_any s (by omega) W hT)
    have S := Lib.hid (fun w h => split_any s (by omega) w h)
    clear hT
    go_enter Tryd.func9, Tryd.ntmps9
    go_wp2_with fail
    refine P.out.mono ?_
    rintro e w1 ⟨he, hb⟩
    rcases he with ⟨hne, rfl⟩ | ⟨he0, hz, g, L, x, hL, hg, rfl, hx⟩
    · generalize parErr s = n at *
      go_wp2_with fail
      refine (AW.out _ (HT.out.self hb)).mono ?_
      rintro e w2 ⟨rfl, hb2⟩
      go_wp2
      go_ret
      exact ⟨rfl, hb.trans (hb2.mono hb.size)⟩
    · have hlen : (L ++ [x]).length = L.length + 1 := by simp
      have h8 : L.length ≤ 8 := by
        have := splitL_le s
        rw [hL, hlen] at this
        omega
      have hwf := within_front L x
      go_wp2_with fail
      refine (S.out _ (HT.out.self hb)).mono ?_
      rintro e w2 ⟨⟨v, rfl, hs⟩, hb2⟩
      rw [hz, hL] at *
      rcases hs with ⟨hs, _⟩ | ⟨_, g2, hg2, rfl, hy⟩
      · simp at hs
      have hx2 := hx.below hb2
      have hb3 := hb.trans (hb2.mono hb.size)
      clear hb hb2 hx
      go_wp2_with fail
      refine (clone_any g L x h8 _ hx2).mono ?_
      rintro e w3 ⟨v, rfl, ho, hb4⟩
      obtain ⟨i0, hi, hz0, hz1, hz2⟩ := info_parts info_str
      have HI := Lib.hid (And.intro hi (And.intro hz0 (And.intro hz1 hz2)))
      have ho4 := ho.alloc (.cells #[.string x] 9)
      have hn4 : ∀ j u, [Value.string x][j]? = some u → (w3.alloc (.cells #[.string x] 9)).cell? ((⟨w3.heap.size, 0, none⟩ : Addr).add j) = some u := by
        intro j u hu
        rcases j with _ | j
        · injection hu with hu
          subst hu
          exact Has.at_ (Has.fresh w3 9 #[.string x]) 0
        · cases hu
      have h14 : ∀ u ∈ [Value.string x], u.oneCell' = true := by intro u hu; rw [List.mem_singleton.1 hu]; rfl
      have hm4 : L.length + 1 ≤ maxLen := by unfold maxLen; omega
      have hbs4 : (L.length + 1) * 16 ≤ 140737488355328 := by omega
      have hba : w2.heap.size ≤ (w3.alloc (.cells #[.string x] 9)).heap.size := Nat.le_trans hb4.size (by simp)
      clear hi hz0 hz1 hz2
      have HA := Lib.hid (And.intro ho4 (And.intro hn4 (And.intro h14 (And.intro hm4 (And.intro hbs4 hba)))))
      clear ho4 hn4 h14 hm4 hbs4 hba
      go_wp2_with (at_builtin; go_loud (refine wpList_when (by rfl) fun _ hK => wp_append_own (w3.alloc (.cells #[.string x] 9)) (.tmp 39) (.tmp 41) _ rfl w2.heap.size 9 i0 (.string ⟨#[]⟩) 1 16 Tryd.underlying23 HI.out.1 HI.out.2.1 HI.out.2.2.1 HI.out.2.2.2 rfl (by decide) v L.length (L.map Value.string) rfl HA.out.1 ⟨w3.heap.size, 0, none⟩ 1 1 [.string x] rfl rfl HA.out.2.1 HA.out.2.2.1 HA.out.2.2.2.1 HA.out.2.2.2.2.1 HA.out.2.2.2.2.2 (fun v2 w5 o2 gr _ => hK _ _ ?_)))
      have hbx := (hb4.alloc hb4.size (.cells #[.string x] 9)).grown gr HA.out.2.2.2.2.2 (fun q hq => (World.ownsRow.lt HA.out.1 q hq).1)
      have hy5 := txt_of (hy.below hbx)
      have hx5 := txt_front (hx2.below hbx)
      have hb5 := hb3.trans (hbx.mono hb3.size)
      obtain ⟨A2, c2, rfl, hr⟩ := row_of (l := L ++ [x]) (by rw [List.map_append]; exact o2)
      rw [hlen] at hy5
      clear hbx hy hx2 hb3 HA HI ho o2 gr hb4
      refine (eqs A2 (some ⟨g2, 0, none⟩) (L.length + 1) (L.length + 1) c2 (L.length + 1) (L ++ [x]) (L ++ [x]) (by omega) (by omega) w5 hr hy5).mono ?_
      rintro e w6 ⟨rfl, q, hq⟩
      rw [decide_eq_true rfl]
      have hb6 := below_drewN (Below.refl w5.heap.size w5) q
      rw [← hq] at hb6
      have hy6 := hy5.below hb6
      have hx6 := hx5.below hb6
      have hb7 := hb5.trans (hb6.mono hb5.size)
      clear hq hb6 hb5 hy5 hx5 hr
      go_wp2_with fail
      refine (within_any (some ⟨g2, 0, none⟩) (some ⟨g, 0, none⟩) (L.length + 1) L.length (L.length + 1) L.length (L ++ [x]) L (by omega) (by omega) w6 hy6 hx6).mono ?_
      rintro e w7 ⟨rfl, q, hq⟩
      rw [hwf.1]
      have hb6 := below_drewN (Below.refl w6.heap.size w6) q
      rw [← hq] at hb6
      have hy7 := hy6.below hb6
      have hx7 := hx6.below hb6
      have hb8 := hb7.trans (hb6.mono hb7.size)
      clear hq hb6 hb7 hy6 hx6
      go_wp2_with fail
      refine (within_any (some ⟨g, 0, none⟩) (some ⟨g2, 0, none⟩) L.length (L.length + 1) L.length (L.length + 1) L (L ++ [x]) (by omega) (by omega) w7 hx7 hy7).mono ?_
      rintro e w8 ⟨rfl, q, hq⟩
      rw [hwf.2]
      have hb6 := below_drewN (Below.refl w7.heap.size w7) q
      rw [← hq] at hb6
      have hb9 := hb8.trans (hb6.mono hb8.size)
      clear hq hb6 hb8 hy7 hx7
      go_wp2_with fail
      refine (AW.out _ (HT.out.self hb9)).mono ?_
      rintro e w9 ⟨rfl, hb⟩
      go_wp2
      go_ret
      exact ⟨rfl, hb9.trans (hb.mono hb9.size)⟩
end Go.Proofs.YtlmgikgpmcdakaaDoor.Nm
