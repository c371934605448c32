/- slices.Delete of one message out of a row that one owns. -/
import Derived.Test.YtjbbifmjhagfiaaNtJ
import Derived.Lib.Walk
import Derived.Sort.WalkB12
import Derived.Lib.SliceRun
import Derived.Lib.SlicesDelete
namespace Go.Proofs.Ytjbbifmjhagfiaa.Nt
open Go.RowKit Go.Proofs.Ytjbbifmjhagfiaa.Mem Go.Proofs.Ytjbbifmjhagfiaa.Vc
set_option linter.unusedVariables false

theorem zero_msg (w : World) : (zeroValue 36).run Try.prog w = .ok (.agg (msgC msg0)) w := by
  have h := info_msg
  cases hi : Try.prog.info? 36 with
  | none => rw [hi] at h; simp at h
  | some i =>
    rw [hi] at h
    simp at h
    simp [zeroValue, typeInfo, hi, h.1]
theorem run_clear_msg (w : World) (ty : TypeId) (b o c : Nat) (hc : w.there b o 19) :
    (Builtin.clear_ #[28] ty #[.slice (some ⟨b, o, none⟩) 1 c]).run Try.prog w = .ok (.tuple #[]) (w.setCells b o (mL msg0)) := by
  have hz : (Builtin.zeroCells (Value.agg (msgC msg0)).cells 1).toList = mL msg0 := by kernel_rfl
  have hst := run_storeCells_cells (P := Try.prog) b o (mL msg0) 0 w (fun j hj => by have := (hc j (by rw [mL_len] at hj; exact hj)).1; simpa using this) (fun j hj => by have := (hc j (by rw [mL_len] at hj; exact hj)).2; simpa using this) (fun v hv => (Array.all_eq_true_iff_forall_mem.1 (msgC_one msg0)) v (by simpa [mL] using hv))
  simp only [Nat.add_zero] at hst
  simp [Builtin.clear_, run_underlying Try.underlying28]
  change ((Sem.run Try.prog (storeCells ⟨b, o, none⟩ (Builtin.zeroCells (Value.agg (msgC msg0)).cells 1).toList) w).andThen fun a w' => Result.ok (Value.tuple #[]) w') = _
  rw [hz, hst]
  rfl
theorem lay_list (d : Array Value) (a : Nat) (xs : List Value) (h : a + xs.length ≤ d.size) : (Lib.lay d a xs).toList = d.toList.take a ++ xs ++ d.toList.drop (a + xs.length) := by
  apply List.ext_getElem?
  intro j
  rw [Array.getElem?_toList, Lib.lay_get? _ _ _ _ h]
  have hl : (d.toList.take a).length = a := by simp; omega
  by_cases c1 : j < a
  · rw [if_neg (by omega), List.append_assoc, List.getElem?_append_left (by omega), List.getElem?_take, if_pos c1, Array.getElem?_toList]
  · by_cases c2 : j < a + xs.length
    · rw [if_pos (by omega), List.append_assoc, List.getElem?_append_right (by omega), hl, List.getElem?_append_left (by omega)]
    · rw [if_neg (by omega), List.getElem?_append_right (by simp; omega), List.length_append, hl, List.getElem?_drop, show a + xs.length + (j - (a + xs.length)) = j by omega, Array.getElem?_toList]
theorem erase_flat (ms : List MsgP) (k : Nat) : (ms.eraseIdx k).flatMap mL = (ms.flatMap mL).take (k * 19) ++ (ms.flatMap mL).drop ((k + 1) * 19) := by
  rw [List.eraseIdx_eq_take_drop_succ, List.flatMap_append, flat_take mL_len, flat_drop mL_len]
/-- The row behind it. -/
theorem del_row {w w1 : World} {B g cap k : Nat} {ms : List MsgP} {cur : Array Value} (hk : k < ms.length) (hw : Has w g 36 cur) (hB : B ≤ g) (hn : ms.length ≤ cap) (hm : cap ≤ maxLen) (hs : cur.size = cap * 19) (ht : cur.toList.take (ms.length * 19) = ms.flatMap mL)
    (hw1 : Has w1 g 36 (Lib.lay (Lib.lay cur (k * 19) ((ms.flatMap mL).drop ((k + 1) * 19))) ((ms.length - 1) * 19) (mL msg0))) : MOwn w1 B (.slice (some ⟨g, 0, none⟩) (ms.length - 1) cap) (ms.eraseIdx k) := by
  have hlen : (ms.eraseIdx k).length = ms.length - 1 := by rw [List.length_eraseIdx, if_pos hk]
  have hfl : (ms.flatMap mL).length = ms.length * 19 := flat_len mL_len ms
  have hnl : ((ms.flatMap mL).drop ((k + 1) * 19)).length = (ms.length - 1 - k) * 19 := by rw [List.length_drop, hfl]; omega
  refine ⟨by rw [flat_len mL_len, hlen], .inr ⟨g, cap, _, by rw [hlen], hB, hw1, by rw [hlen]; omega, hm, by rw [Lib.lay_size, Lib.lay_size, hs], ?_⟩⟩
  rw [hlen, lay_list _ _ _ (by rw [Lib.lay_size, mL_len, hs]; omega), lay_list _ _ _ (by rw [hnl, hs]; omega), erase_flat]
  have hb : ((cur.toList.take (k * 19) ++ (ms.flatMap mL).drop ((k + 1) * 19) ++ cur.toList.drop (k * 19 + ((ms.flatMap mL).drop ((k + 1) * 19)).length)).take ((ms.length - 1) * 19)) = cur.toList.take (k * 19) ++ (ms.flatMap mL).drop ((k + 1) * 19) := by
    rw [List.take_append_of_le_length (by rw [List.length_append, hnl, List.length_take]; simp; omega)]
    exact List.take_of_length_le (by rw [List.length_append, hnl, List.length_take]; simp; omega)
  rw [hb, List.append_assoc, List.take_append_of_le_length (by rw [List.length_append, hnl, List.length_take]; simp; omega), List.take_of_length_le (by rw [List.length_append, hnl, List.length_take]; simp; omega)]
  congr 1
  rw [← ht, List.take_take]
  congr 1
  omega
set_option maxRecDepth 100000 in
set_option maxHeartbeats 2000000 in
theorem del_any (B : Nat) (v : Value) (ms : List MsgP) (k : Nat) (w : World) (h : MOwn w B v ms) (hk : k < ms.length) (hl : ms.length ≤ 160) :
    Calls Try.prog 68 #[v, .int .i64 k, .int .i64 (k + 1)] w fun e w' => ∃ v', e = .returned v' ∧ MOwn w' B v' (ms.eraseIdx k) ∧ Chg (fun j => v.ownBlock = some j) w w' ∧ v'.ownBlock = v.ownBlock := by
  rcases h.2 with ⟨e, e0⟩ | ⟨g, cap, cur, rfl, hB, hw, hn, hm, hs, ht⟩
  · omega
  have hw : Has w g 36 cur := hw
  have hfl : (ms.flatMap mL).length = ms.length * 19 := flat_len mL_len ms
  obtain ⟨n, hnn⟩ : ∃ n, n = ms.length := ⟨_, rfl⟩
  obtain ⟨news, hnews⟩ : ∃ x, x = (ms.flatMap mL).drop ((k + 1) * 19) := ⟨_, rfl⟩
  have hnl : news.length = (n - (k + 1)) * 19 := by rw [hnews, List.length_drop, hfl, hnn]; omega
  have hcurT : cur.toList.take (n * 19) = ms.flatMap mL := by rw [hnn]; exact ht
  -- where what is moved stands
  obtain ⟨A, hA, hsrc⟩ : ∃ A : Addr, (if cap = k + 1 then some (⟨g, 0, none⟩ : Addr) else some ⟨g, (k + 1) * 19, none⟩) = some A ∧ Hid (∀ t u, news[t]? = some u → w.drew.cell? (A.add t) = some u) := by
    by_cases hc : cap = k + 1
    · refine ⟨⟨g, 0, none⟩, by simp [hc], fun t u hu => ?_⟩
      have h0 : news.length = 0 := by rw [hnl]; omega
      rw [List.length_eq_zero_iff.1 h0] at hu
      simp at hu
    · refine ⟨⟨g, (k + 1) * 19, none⟩, by simp [hc], fun t u hu => ?_⟩
      rw [hnews, List.getElem?_drop] at hu
      have hcells := World.ownsRow.cells h (g := g) rfl ((k + 1) * 19 + t) u hu
      have ha : (⟨g, 0, none⟩ : Addr).add ((k + 1) * 19 + t) = (⟨g, (k + 1) * 19, none⟩ : Addr).add t := by
        unfold Addr.add
        split <;> split <;> simp_all
      rw [ha] at hcells
      exact hcells
  have s2 : Hid (∀ u ∈ news, u.oneCell' = true) := by
    intro u hu
    rw [hnews] at hu
    have hu2 := List.mem_of_mem_drop hu
    obtain ⟨x, _, hx⟩ := List.mem_flatMap.1 hu2
    exact (Array.all_eq_true_iff_forall_mem.1 (msgC_one x)) u (by simpa [mL] using hx)
  have s3 : Hid (∀ t, t < news.length → (w.drew.cell? ⟨g, 0 + k * 19 + t, none⟩).isSome = true ∧ w.drew.frozen? ⟨g, 0 + k * 19 + t, none⟩ = false) := by
    intro t ht2
    refine ⟨?_, hw.drew.free _⟩
    rw [hw.drew.at_]
    simp
    rw [hnl] at ht2
    rw [hs]
    omega
  obtain ⟨W1, hW1⟩ : ∃ W1, W1 = w.drew.setCells g (0 + k * 19) news := ⟨_, rfl⟩
  have hH1 : Has W1 g 36 (Lib.lay cur (k * 19) news) := by rw [hW1, Nat.zero_add]; exact Who.has_setCells news (k * 19) _ _ hw.drew
  have hcl : ∀ ty, (Builtin.clear_ #[28] ty #[.slice (some ⟨g, (n - 1) * 19, none⟩) 1 (cap - (n - 1))]).run Try.prog W1 = .ok (.tuple #[]) (W1.setCells g ((n - 1) * 19) (mL msg0)) := fun ty =>
    run_clear_msg W1 ty g _ _ (fun j hj => ⟨by rw [hH1.at_]; simp [Lib.lay_size, hs]; omega, hH1.free _⟩)
  have HE := Lib.hid (show MOwn (W1.setCells g ((n - 1) * 19) (mL msg0)) B (.slice (some ⟨g, 0, none⟩) (n - 1) cap) (ms.eraseIdx k) from by
    rw [hnn]
    exact del_row hk hw hB hn hm hs ht (by rw [← hnews, ← hnn]; exact Who.has_setCells (mL msg0) ((n - 1) * 19) _ _ hH1))
  have HCg := Lib.hid (show Chg (fun j => Value.ownBlock (.slice (some ⟨g, 0, none⟩) ms.length cap) = some j) w (W1.setCells g ((n - 1) * 19) (mL msg0)) from by
    have c0 : Chg (· = g) w W1 := by rw [hW1]; exact ((Chg.refl (· = g) w).drew).trans (Who.chg_setCells g news _ _)
    exact (c0.trans (Who.chg_setCells g (mL msg0) _ _)).mono (fun j e => by rw [e]; rfl))
  have HW := Lib.hid hW1
  have HNL := Lib.hid hnl
  obtain ⟨i0, hi, hz0, hz1, hz2⟩ := info_parts info_msg
  have HX := Lib.hid (And.intro hi hz1)
  rw [← hnn] at hk hn hl HCg
  rw [← hnn]
  have k1 : ((k : Int) == (k : Int) + 1) = false := beq_eq_false_iff_ne.2 (by omega)
  have k2 : (k : Int) + 1 ≤ n := by omega
  have k3 : (n : Int) ≤ cap := by omega
  unfold maxLen at hm
  clear h hw hs ht hfl hnews hcurT hH1 hW1 hnl hi hz0 hz1 hz2 hnn hB
  go_enter Try.func68, Try.ntmps68
  go_wp2_with fail
  have k7 : k ≤ cap := by omega
  have k8 : k + 1 ≤ n := by omega
  have k9 : k + 1 ≤ cap := by omega
  refine wp_region_held_drew (S := fun _ => True) (by kernel_rfl) trivial (fun hHeld => ?_)
  refine Vc.wpAnyH_read (i := 0) (d := some 20) (v := ?v0) (by rfl) (by rfl) (by kernel_rfl) (by kernel_rfl) (by kernel_rfl) (fun _ _ _ h => h) (by rfl) ?hy0 (by assumption) ?rest0
  case hy0 =>
    intro w hSw
    go_simp
    try with_reducible rfl
  (try simp only [Act.put, List.setIfInBounds_toArray, List.set_cons_zero, List.set_cons_succ])
  refine Vc.wpAnyH_read (i := 1) (d := some 21) (v := ?v1) (by rfl) (by rfl) (by kernel_rfl) (by kernel_rfl) (by kernel_rfl) (fun _ _ _ h => h) (by rfl) ?hy1 (by assumption) ?rest1
  case hy1 =>
    intro w hSw
    go_simp
    try with_reducible rfl
  (try simp only [Act.put, List.setIfInBounds_toArray, List.set_cons_zero, List.set_cons_succ])
  refine Vc.wpAnyH_read (i := 2) (d := some 22) (v := ?v2) (by rfl) (by rfl) (by kernel_rfl) (by kernel_rfl) (by kernel_rfl) (fun _ _ _ h => h) (by rfl) ?hy2 (by assumption) ?rest2
  case hy2 =>
    intro w hSw
    go_simp
    try with_reducible rfl
  (try simp only [Act.put, List.setIfInBounds_toArray, List.set_cons_zero, List.set_cons_succ])
  refine Vc.wpAnyH_read (i := 3) (d := some 23) (v := ?v3) (by rfl) (by rfl) (by kernel_rfl) (by kernel_rfl) (by kernel_rfl) (fun _ _ _ h => h) (by rfl) ?hy3 (by assumption) ?rest3
  case hy3 =>
    intro w hSw
    go_simp
    try with_reducible rfl
  (try simp only [Act.put, List.setIfInBounds_toArray, List.set_cons_zero, List.set_cons_succ])
  refine Vc.wpAnyH_read (i := 4) (d := some 24) (v := ?v4) (by rfl) (by rfl) (by kernel_rfl) (by kernel_rfl) (by kernel_rfl) (fun _ _ _ h => h) (by rfl) ?hy4 (by assumption) ?rest4
  case hy4 =>
    intro w hSw
    go_simp
    try with_reducible rfl
  (try simp only [Act.put, List.setIfInBounds_toArray, List.set_cons_zero, List.set_cons_succ])
  refine Vc.wpAnyH_read (i := 5) (d := some 25) (v := (.slice (some A) (n - (k + 1)) (cap - (k + 1)))) (by rfl) (by rfl) (by kernel_rfl) (by kernel_rfl) (by kernel_rfl) (fun _ _ _ h => h) (by rfl) ?hy5 (by assumption) ?rest5
  case hy5 =>
    intro w hSw
    go_simp
    try (intro hx; exfalso; omega)
    try with_reducible rfl
  (try simp only [Act.put, List.setIfInBounds_toArray, List.set_cons_zero, List.set_cons_succ])
  refine wpAnyH_ready (rs := [6]) (by kernel_rfl) (by simp) ?_
  refine AllReadyH.cons rfl (fun K hK => ?_) AllReadyH.nil
  refine step_append_room (by rfl) (.tmp 22) (.tmp 25) 28 (by rfl) 36 i0 19 Try.underlying28 HX.out.1 HX.out.2 g 0 k cap (by rfl) A (n - (k + 1)) (cap - (k + 1)) news (by rfl) HNL.out hsrc.out s2.out (by omega) s3.out ?_
  rw [← HW.out, show k + (n - (k + 1)) = n - 1 by omega]
  go_simp
  refine hK.out _ _ trivial (fun hHeld => ?_)
  clear hK K
  (try simp only [Act.put, List.setIfInBounds_toArray, List.set_cons_zero, List.set_cons_succ])
  refine Vc.wpAnyH_read (i := 7) (d := some 0) (v := ?v7) (by rfl) (by rfl) (by kernel_rfl) (by kernel_rfl) (by kernel_rfl) (fun _ _ _ h => h) (by rfl) ?hy7 (by assumption) ?rest7
  case hy7 =>
    intro w hSw
    go_simp
    try with_reducible rfl
  (try simp only [Act.put, List.setIfInBounds_toArray, List.set_cons_zero, List.set_cons_succ])
  refine wpAnyH_done (by kernel_rfl) ?_ _
  have k4 : ((n - 1 : Nat) : Int) ≤ n := by omega
  have k5 : n - (n - 1) = 1 := by omega
  have k6 : ¬ cap = n - 1 := by omega
  go_wp2
  go_ret
  exact ⟨_, rfl, HE.out, HCg.out, rfl⟩
end Go.Proofs.Ytjbbifmjhagfiaa.Nt
