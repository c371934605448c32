/- The document's eye, asked a whole row: the walk. -/
import Derived.Test.YtancbkmgbhigpaaRdOne
namespace Go.Proofs.Ytancbkmgbhigpaa.Vc
open Go.RowKit Go.Proofs.Ytancbkmgbhigpaa.Oct

theorem Rye.past {w : World} {x : Nat} {B : ByteArray} {a : Nat} {d : Bool} {y : Int} (h : Rye w x B a d y) (o : Obj) : Rye (w.alloc o) x B a d y := Oct.Has.past h o

theorem asked_num {B : ByteArray} {xs : List (Int × Int)} {j : Nat} (hj : j < xs.length) {s : St} (hs : asked B (xs.take j) = s) (hw : s.why = none) {v : Int} {r : ByteArray} (ha : ask s.rest xs[j].1 xs[j].2 = .num v r) : asked B (xs.take (j + 1)) = ⟨s.nums ++ [v], s.txts, r, none⟩ := by
  rw [asked_snoc B xs j hj, hs]
  unfold adv
  rw [hw]
  simp only [ha]
theorem asked_txt {B : ByteArray} {xs : List (Int × Int)} {j : Nat} (hj : j < xs.length) {s : St} (hs : asked B (xs.take j) = s) (hw : s.why = none) {t r : ByteArray} (ha : ask s.rest xs[j].1 xs[j].2 = .txt t r) : asked B (xs.take (j + 1)) = ⟨s.nums, s.txts ++ [t], r, none⟩ := by
  rw [asked_snoc B xs j hj, hs]
  unfold adv
  rw [hw]
  simp only [ha]
theorem asked_still {B : ByteArray} {xs : List (Int × Int)} {j : Nat} (hj : j < xs.length) {s : St} (hs : asked B (xs.take j) = s) (hw : s.why = none) {r : ByteArray} (ha : ask s.rest xs[j].1 xs[j].2 = .still r) : asked B (xs.take (j + 1)) = ⟨s.nums, s.txts, r, none⟩ := by
  rw [asked_snoc B xs j hj, hs]
  unfold adv
  rw [hw]
  simp only [ha]

set_option maxRecDepth 100000 in
set_option maxHeartbeats 8000000 in
theorem also_any (x : Nat) (B : ByteArray) (hB : B.size ≤ 8192) (A : Option Addr) (n c : Nat) (xs : List (Int × Int)) (hn : n ≤ 1000) (w : World) (h : LookRow w A n xs) (hA : 0 < n → ∀ b off, A = some ⟨b, off, none⟩ → b ≠ x) (hk : Rye w x B 0 false 0) :
    Calls Try.prog 5 #[.pointer (some ⟨x, 0, none⟩), .slice A n c] w (Also w x B xs) := by
  obtain ⟨i0, hi, hz0, hz1, hz2⟩ := info_parts info_i
  have HI := Lib.hid (And.intro hi (And.intro hz0 (And.intro hz1 hz2)))
  clear hi hz0 hz1 hz2
  obtain ⟨j0, hi, hz0, hz1, hz2⟩ := info_parts info_s
  have HJ := Lib.hid (And.intro hi (And.intro hz0 (And.intro hz1 hz2)))
  clear hi hz0 hz1 hz2
  have HX := Lib.hid h
  have HA := Lib.hid hA
  have bx := Oct.Has.bound hk
  have HK0 := Lib.hid (show EyeAt w x B (asked B (xs.take 0)) from ⟨0, Nat.zero_le _, by simp [asked], hk⟩)
  clear h hA hk
  go_enter Try.func5, Try.ntmps5
  go_wp2
  go_loopw [4, 5, 13] (fun u v i wr => ∃ j : Nat, j ≤ n ∧ i = .int .i64 j ∧ Hid ((asked B (xs.take j)).why = none) ∧ Hid (OwnI wr w.heap.size u (asked B (xs.take j)).nums) ∧ Hid (OwnS wr w.heap.size v (asked B (xs.take j)).txts) ∧ Hid (EyeAt wr x B (asked B (xs.take j))) ∧ Hid (Chg (· = x) w wr)) (fun _ _ i _ => n - (intOf i).toNat)
  case atStart => exact ⟨0, Nat.zero_le _, rfl, Lib.hid rfl, Lib.hid (World.ownsRow_nil _ _ _ _), Lib.hid (World.ownsRow_nil _ _ _ _), HK0, Lib.hid (Chg.refl _ _)⟩
  case round =>
    obtain ⟨j, hj, rfl, HW0, HU, HV, HE, HC⟩ := hrel
    clear HK0
    by_cases hlt : j < n
    · have HX1 := look_chg HX.out HC.out (fun b off e => HA.out (by omega) b off e)
      obtain ⟨b, off, rfl, hbl, hcl⟩ := HX1.2 (by omega)
      have hjx : j < xs.length := by rw [HX1.1]; exact hlt
      have HJX := Lib.hid hjx
      obtain ⟨c1, c2⟩ := hcl j hjx
      have hlen := asked_len B xs j (by omega)
      obtain ⟨s, hs⟩ : ∃ s, asked B (xs.take j) = s := ⟨_, rfl⟩
      rw [hs] at HW0 HU HV HE hlen
      have HS := Lib.hid hs
      have HLEN := Lib.hid (show s.nums.length + s.txts.length ≤ 1000 by omega)
      have HW := HW0
      have he := HE.out
      unfold EyeAt at he
      rw [HW.out] at he
      obtain ⟨a, ha, hr, hk⟩ := he
      obtain ⟨op, hop⟩ : ∃ op, xs[j].1 = op := ⟨_, rfl⟩
      obtain ⟨m, hmm⟩ : ∃ m, xs[j].2 = m := ⟨_, rfl⟩
      replace c1 := c1.trans (congrArg (fun z => some (Value.int .i64 z)) hop)
      replace c2 := c2.trans (congrArg (fun z => some (Value.int .i64 z)) hmm)
      have hk1 := Lib.hid (Rye.past hk (.cells #[.int .i64 op, .int .i64 m] 37))
      have hU1 := Lib.hid (World.ownsRow.alloc HU.out (.cells #[.int .i64 op, .int .i64 m] 37))
      have hV1 := Lib.hid (World.ownsRow.alloc HV.out (.cells #[.int .i64 op, .int .i64 m] 37))
      have hC1 := Lib.hid (HC.out.alloc (.cells #[.int .i64 op, .int .i64 m] 37))
      have HLB := Lib.hid (Oct.Has.fresh wr 37 #[.int .i64 op, .int .i64 m])
      have bk := Oct.Has.bound hk
      clear HU HV HE HC hcl hs hk hlen HW0 HX1
      have HQ := Lib.hid (show ask s.rest xs[j].1 xs[j].2 = ask (B.extract a B.size) op m by rw [hr, hop, hmm])
      have hra := Lib.hid ha
      clear hr hop hmm
      by_cases k0 : (bits .and .i64 op 7 == 0) = true
      · have HD := Lib.hid (rnum_got x a m B hB ha _ hk1.out)
        cases hg : gotNum (B.extract a B.size) m with
        | num v r =>
          have HG := Lib.hid hg
          have HASK := Lib.hid (show ask s.rest xs[j].1 xs[j].2 = .num v r from by rw [HQ.out]; unfold ask kind; simp only [k0, if_true, HG.out, Ask.of])
          rw [hg] at HD
          clear hg
          go_wp2_with fail
          refine (HD.out).mono ?_
          rintro e w2 hd
          obtain ⟨a2, rfl, ha2, hr2, hk2, hc2⟩ := hd
          obtain ⟨e0, e1, e2⟩ := Rye.cells hk2
          have hl2 := Oct.Has.over HLB.out hc2 (show wr.heap.size ≠ x by omega)
          have l0 := Oct.Has.at_ hl2 0
          have l1 := Oct.Has.at_ hl2 1
          simp at l0 l1
          have HU2 := Lib.hid (own_chg hU1.out hc2 (fun k hk => by omega))
          have HV2 := Lib.hid (own_chg hV1.out hc2 (fun k hk => by omega))
          have HC2 := Lib.hid ((hC1.out.trans hc2).alloc (.cells #[.int .i64 v] 3))
          have HK2 := Lib.hid (Oct.Has.past hk2 (.cells #[.int .i64 v] 3))
          have HN2 := Lib.hid (show ∀ q u, [(.int .i64 v : Value)][q]? = some u → (w2.alloc (.cells #[.int .i64 v] 3)).cell? ((⟨w2.heap.size, 0, none⟩ : Addr).add q) = some u from cell_one_new w2 _ _)
          have H1 := Lib.hid (show ∀ u ∈ [(.int .i64 v : Value)], u.oneCell' = true by intro u hu; rw [List.mem_singleton.1 hu]; rfl)
          have H2 := Lib.hid (show s.nums.length + 1 ≤ maxLen by have := HLEN.out; unfold maxLen; omega)
          have H3 := Lib.hid (show (s.nums.length + 1) * 8 ≤ 140737488355328 by have := HLEN.out; omega)
          have H4 := Lib.hid (show w.heap.size ≤ (w2.alloc (.cells #[.int .i64 v] 3)).heap.size from HC2.out.size)
          have bx2 := Oct.Has.bound hk2
          clear hc2 hk2 hl2
          go_wp2_with (at_builtin; (refine wpList_append_own (w2.alloc (.cells #[.int .i64 v] 3)) rfl (.tmp 63) (.tmp 65) _ rfl w.heap.size 3 i0 (.int .i64 0) 1 8 Try.underlying29 HI.out.1 HI.out.2.1 HI.out.2.2.1 HI.out.2.2.2 rfl (by decide) _ _ _ rfl (World.ownsRow.alloc HU2.out _) ⟨w2.heap.size, 0, none⟩ 1 1 [.int .i64 v] rfl rfl HN2.out H1.out H2.out H3.out H4.out ?_))
          intro v2 w3 o2 b2 _
          have hne := rows_apart HV2.out HU2.out (by decide)
          have hown := fun q hq => (World.ownsRow.lt HU2.out q hq).1
          have hC3 := chg_grown HC2.out b2 hown
          have hK3 := has_grown HK2.out b2 (fun e => by have := hown x e.symm; omega)
          have hO3 := HV2.out.alloc (.cells #[.int .i64 v] 3) |>.kept b2 hne
          have hS3 := asked_num HJX.out HS.out HW.out HASK.out
          clear hne hown
          go_wp2
          go_roundw
          case rel =>
            refine ⟨j + 1, by omega, by go_num, Lib.hid (by rw [hS3]), Lib.hid ?_, Lib.hid ?_, Lib.hid ?_, Lib.hid hC3⟩
            · rw [hS3]
              unfold OwnI; rw [List.length_append, List.map_append]; exact o2
            · rw [hS3]
              exact hO3
            · rw [hS3]
              exact ⟨a2, ha2, hr2, hK3⟩
          case measure => simp [intOf]; omega
        | txt t r =>
          exact (gotNum_txt hg).elim
        | bad r y =>
          have HG := Lib.hid hg
          have HASK := Lib.hid (show ask s.rest xs[j].1 xs[j].2 = .bad r y from by rw [HQ.out]; unfold ask kind; simp only [k0, if_true, HG.out, Ask.of])
          rw [hg] at HD
          clear hg
          go_wp2_with fail
          refine (HD.out).mono ?_
          rintro e w2 hd
          obtain ⟨a2, rfl, hk2, hc2⟩ := hd
          obtain ⟨e0, e1, e2⟩ := Rye.cells hk2
          have HU2 := Lib.hid (own_chg hU1.out hc2 (fun k hk => by omega))
          have HV2 := Lib.hid (own_chg hV1.out hc2 (fun k hk => by omega))
          have HC2 := Lib.hid (hC1.out.trans hc2)
          have HK2 := Lib.hid (show ∃ a, Rye w2 x B a true y from ⟨a2, hk2⟩)
          clear hc2 hk2
          go_wp2
          go_ret3
          exact also_bad HJX.out HS.out HW.out HASK.out HU2.out HV2.out HK2.out HC2.out
      · have k0 : (bits .and .i64 op 7 == 0) = false := Bool.eq_false_iff.2 k0
        by_cases k1 : (bits .and .i64 op 7 == 1) = true
        · have HD := Lib.hid (rtext_got x a m B hB ha _ hk1.out)
          cases hg : gotText (B.extract a B.size) m with
          | num v r =>
            exact (gotText_num hg).elim
          | txt t r =>
            have HG := Lib.hid hg
            have HASK := Lib.hid (show ask s.rest xs[j].1 xs[j].2 = .txt t r from by rw [HQ.out]; unfold ask kind; simp only [k0, k1, if_true, if_false, Bool.false_eq_true, HG.out, Ask.of])
            rw [hg] at HD
            clear hg
            go_wp2_with fail
            refine (HD.out).mono ?_
            rintro e w2 hd
            obtain ⟨a2, rfl, ha2, hr2, hk2, hc2⟩ := hd
            obtain ⟨e0, e1, e2⟩ := Rye.cells hk2
            have hl2 := Oct.Has.over HLB.out hc2 (show wr.heap.size ≠ x by omega)
            have l0 := Oct.Has.at_ hl2 0
            have l1 := Oct.Has.at_ hl2 1
            simp at l0 l1
            have HU2 := Lib.hid (own_chg hU1.out hc2 (fun k hk => by omega))
            have HV2 := Lib.hid (own_chg hV1.out hc2 (fun k hk => by omega))
            have HC2 := Lib.hid ((hC1.out.trans hc2).alloc (.cells #[.string t] 9))
            have HK2 := Lib.hid (Oct.Has.past hk2 (.cells #[.string t] 9))
            have HN2 := Lib.hid (show ∀ q u, [(.string t : Value)][q]? = some u → (w2.alloc (.cells #[.string t] 9)).cell? ((⟨w2.heap.size, 0, none⟩ : Addr).add q) = some u from cell_one_new w2 _ _)
            have H1 := Lib.hid (show ∀ u ∈ [(.string t : Value)], u.oneCell' = true by intro u hu; rw [List.mem_singleton.1 hu]; rfl)
            have H2 := Lib.hid (show s.txts.length + 1 ≤ maxLen by have := HLEN.out; unfold maxLen; omega)
            have H3 := Lib.hid (show (s.txts.length + 1) * 16 ≤ 140737488355328 by have := HLEN.out; omega)
            have H4 := Lib.hid (show w.heap.size ≤ (w2.alloc (.cells #[.string t] 9)).heap.size from HC2.out.size)
            have bx2 := Oct.Has.bound hk2
            clear hc2 hk2 hl2
            go_wp2_with (at_builtin; (refine wpList_append_own (w2.alloc (.cells #[.string t] 9)) rfl (.tmp 70) (.tmp 72) _ rfl w.heap.size 9 j0 (.string ⟨#[]⟩) 1 16 Try.underlying30 HJ.out.1 HJ.out.2.1 HJ.out.2.2.1 HJ.out.2.2.2 rfl (by decide) _ _ _ rfl (World.ownsRow.alloc HV2.out _) ⟨w2.heap.size, 0, none⟩ 1 1 [.string t] rfl rfl HN2.out H1.out H2.out H3.out H4.out ?_))
            intro v2 w3 o2 b2 _
            have hne := rows_apart HU2.out HV2.out (by decide)
            have hown := fun q hq => (World.ownsRow.lt HV2.out q hq).1
            have hC3 := chg_grown HC2.out b2 hown
            have hK3 := has_grown HK2.out b2 (fun e => by have := hown x e.symm; omega)
            have hO3 := HU2.out.alloc (.cells #[.string t] 9) |>.kept b2 hne
            have hS3 := asked_txt HJX.out HS.out HW.out HASK.out
            clear hne hown
            go_wp2
            go_roundw
            case rel =>
              refine ⟨j + 1, by omega, by go_num, Lib.hid (by rw [hS3]), Lib.hid ?_, Lib.hid ?_, Lib.hid ?_, Lib.hid hC3⟩
              · rw [hS3]
                exact hO3
              · rw [hS3]
                unfold OwnS; rw [List.length_append, List.map_append]; exact o2
              · rw [hS3]
                exact ⟨a2, ha2, hr2, hK3⟩
            case measure => simp [intOf]; omega
          | bad r y =>
            have HG := Lib.hid hg
            have HASK := Lib.hid (show ask s.rest xs[j].1 xs[j].2 = .bad r y from by rw [HQ.out]; unfold ask kind; simp only [k0, k1, if_true, if_false, Bool.false_eq_true, HG.out, Ask.of])
            rw [hg] at HD
            clear hg
            go_wp2_with fail
            refine (HD.out).mono ?_
            rintro e w2 hd
            obtain ⟨a2, rfl, hk2, hc2⟩ := hd
            obtain ⟨e0, e1, e2⟩ := Rye.cells hk2
            have HU2 := Lib.hid (own_chg hU1.out hc2 (fun k hk => by omega))
            have HV2 := Lib.hid (own_chg hV1.out hc2 (fun k hk => by omega))
            have HC2 := Lib.hid (hC1.out.trans hc2)
            have HK2 := Lib.hid (show ∃ a, Rye w2 x B a true y from ⟨a2, hk2⟩)
            clear hc2 hk2
            go_wp2
            go_ret3
            exact also_bad HJX.out HS.out HW.out HASK.out HU2.out HV2.out HK2.out HC2.out
        · have k1 : (bits .and .i64 op 7 == 1) = false := Bool.eq_false_iff.2 k1
          by_cases k2 : (bits .and .i64 op 7 == 2) = true
          · have HD := Lib.hid (rraw_got x a m B hB ha _ hk1.out)
            cases hg : gotRaw (B.extract a B.size) m with
            | num v r =>
              exact (gotRaw_num hg).elim
            | txt t r =>
              have HG := Lib.hid hg
              have HASK := Lib.hid (show ask s.rest xs[j].1 xs[j].2 = .txt t r from by rw [HQ.out]; unfold ask kind; simp only [k0, k1, k2, if_true, if_false, Bool.false_eq_true, HG.out, Ask.of])
              rw [hg] at HD
              clear hg
              go_wp2_with fail
              refine (HD.out).mono ?_
              rintro e w2 hd
              obtain ⟨a2, rfl, ha2, hr2, hk2, hc2⟩ := hd
              obtain ⟨e0, e1, e2⟩ := Rye.cells hk2
              have hl2 := Oct.Has.over HLB.out hc2 (show wr.heap.size ≠ x by omega)
              have l0 := Oct.Has.at_ hl2 0
              have l1 := Oct.Has.at_ hl2 1
              simp at l0 l1
              have HU2 := Lib.hid (own_chg hU1.out hc2 (fun k hk => by omega))
              have HV2 := Lib.hid (own_chg hV1.out hc2 (fun k hk => by omega))
              have HC2 := Lib.hid ((hC1.out.trans hc2).alloc (.cells #[.string t] 9))
              have HK2 := Lib.hid (Oct.Has.past hk2 (.cells #[.string t] 9))
              have HN2 := Lib.hid (show ∀ q u, [(.string t : Value)][q]? = some u → (w2.alloc (.cells #[.string t] 9)).cell? ((⟨w2.heap.size, 0, none⟩ : Addr).add q) = some u from cell_one_new w2 _ _)
              have H1 := Lib.hid (show ∀ u ∈ [(.string t : Value)], u.oneCell' = true by intro u hu; rw [List.mem_singleton.1 hu]; rfl)
              have H2 := Lib.hid (show s.txts.length + 1 ≤ maxLen by have := HLEN.out; unfold maxLen; omega)
              have H3 := Lib.hid (show (s.txts.length + 1) * 16 ≤ 140737488355328 by have := HLEN.out; omega)
              have H4 := Lib.hid (show w.heap.size ≤ (w2.alloc (.cells #[.string t] 9)).heap.size from HC2.out.size)
              have bx2 := Oct.Has.bound hk2
              clear hc2 hk2 hl2
              go_wp2_with (at_builtin; (refine wpList_append_own (w2.alloc (.cells #[.string t] 9)) rfl (.tmp 70) (.tmp 72) _ rfl w.heap.size 9 j0 (.string ⟨#[]⟩) 1 16 Try.underlying30 HJ.out.1 HJ.out.2.1 HJ.out.2.2.1 HJ.out.2.2.2 rfl (by decide) _ _ _ rfl (World.ownsRow.alloc HV2.out _) ⟨w2.heap.size, 0, none⟩ 1 1 [.string t] rfl rfl HN2.out H1.out H2.out H3.out H4.out ?_))
              intro v2 w3 o2 b2 _
              have hne := rows_apart HU2.out HV2.out (by decide)
              have hown := fun q hq => (World.ownsRow.lt HV2.out q hq).1
              have hC3 := chg_grown HC2.out b2 hown
              have hK3 := has_grown HK2.out b2 (fun e => by have := hown x e.symm; omega)
              have hO3 := HU2.out.alloc (.cells #[.string t] 9) |>.kept b2 hne
              have hS3 := asked_txt HJX.out HS.out HW.out HASK.out
              clear hne hown
              go_wp2
              go_roundw
              case rel =>
                refine ⟨j + 1, by omega, by go_num, Lib.hid (by rw [hS3]), Lib.hid ?_, Lib.hid ?_, Lib.hid ?_, Lib.hid hC3⟩
                · rw [hS3]
                  exact hO3
                · rw [hS3]
                  unfold OwnS; rw [List.length_append, List.map_append]; exact o2
                · rw [hS3]
                  exact ⟨a2, ha2, hr2, hK3⟩
              case measure => simp [intOf]; omega
            | bad r y =>
              have HG := Lib.hid hg
              have HASK := Lib.hid (show ask s.rest xs[j].1 xs[j].2 = .bad r y from by rw [HQ.out]; unfold ask kind; simp only [k0, k1, k2, if_true, if_false, Bool.false_eq_true, HG.out, Ask.of])
              rw [hg] at HD
              clear hg
              go_wp2_with fail
              refine (HD.out).mono ?_
              rintro e w2 hd
              obtain ⟨a2, rfl, hk2, hc2⟩ := hd
              obtain ⟨e0, e1, e2⟩ := Rye.cells hk2
              have HU2 := Lib.hid (own_chg hU1.out hc2 (fun k hk => by omega))
              have HV2 := Lib.hid (own_chg hV1.out hc2 (fun k hk => by omega))
              have HC2 := Lib.hid (hC1.out.trans hc2)
              have HK2 := Lib.hid (show ∃ a, Rye w2 x B a true y from ⟨a2, hk2⟩)
              clear hc2 hk2
              go_wp2
              go_ret3
              exact also_bad HJX.out HS.out HW.out HASK.out HU2.out HV2.out HK2.out HC2.out
          · have k2 : (bits .and .i64 op 7 == 2) = false := Bool.eq_false_iff.2 k2
            by_cases k3 : (bits .and .i64 op 7 == 3) = true
            · have HASK := Lib.hid (show ask s.rest xs[j].1 xs[j].2 = .num ((B.extract a B.size).size : Nat) (B.extract a B.size) from by rw [HQ.out]; unfold ask kind; simp only [k0, k1, k2, k3, if_true, if_false, Bool.false_eq_true])
              have HD := Lib.hid (rleft_any x a B hB ha _ hk1.out)
              obtain ⟨v, hvv⟩ : ∃ v : Int, (((B.extract a B.size).size : Nat) : Int) = v := ⟨_, rfl⟩
              rw [hvv] at HASK
              rw [hvv] at HD
              clear hvv
              go_wp2_with fail
              refine HD.out.mono ?_
              rintro e w2 hd
              replace hd : ∃ a2, e = Ending.returned (.int .i64 v) ∧ a2 ≤ B.size ∧ B.extract a B.size = B.extract a2 B.size ∧ Rye w2 x B a2 false 0 ∧ Chg (· = x) (wr.alloc (.cells #[.int .i64 op, .int .i64 m] 37)) w2 := ⟨a, hd.1, hra.out, rfl, hd.2.1, hd.2.2⟩
              clear HD
              obtain ⟨a2, rfl, ha2, hr2, hk2, hc2⟩ := hd
              obtain ⟨e0, e1, e2⟩ := Rye.cells hk2
              have hl2 := Oct.Has.over HLB.out hc2 (show wr.heap.size ≠ x by omega)
              have l0 := Oct.Has.at_ hl2 0
              have l1 := Oct.Has.at_ hl2 1
              simp at l0 l1
              have HU2 := Lib.hid (own_chg hU1.out hc2 (fun k hk => by omega))
              have HV2 := Lib.hid (own_chg hV1.out hc2 (fun k hk => by omega))
              have HC2 := Lib.hid ((hC1.out.trans hc2).alloc (.cells #[.int .i64 v] 3))
              have HK2 := Lib.hid (Oct.Has.past hk2 (.cells #[.int .i64 v] 3))
              have HN2 := Lib.hid (show ∀ q u, [(.int .i64 v : Value)][q]? = some u → (w2.alloc (.cells #[.int .i64 v] 3)).cell? ((⟨w2.heap.size, 0, none⟩ : Addr).add q) = some u from cell_one_new w2 _ _)
              have H1 := Lib.hid (show ∀ u ∈ [(.int .i64 v : Value)], u.oneCell' = true by intro u hu; rw [List.mem_singleton.1 hu]; rfl)
              have H2 := Lib.hid (show s.nums.length + 1 ≤ maxLen by have := HLEN.out; unfold maxLen; omega)
              have H3 := Lib.hid (show (s.nums.length + 1) * 8 ≤ 140737488355328 by have := HLEN.out; omega)
              have H4 := Lib.hid (show w.heap.size ≤ (w2.alloc (.cells #[.int .i64 v] 3)).heap.size from HC2.out.size)
              have bx2 := Oct.Has.bound hk2
              clear hc2 hk2 hl2
              go_wp2_with (at_builtin; (refine wpList_append_own (w2.alloc (.cells #[.int .i64 v] 3)) rfl (.tmp 63) (.tmp 65) _ rfl w.heap.size 3 i0 (.int .i64 0) 1 8 Try.underlying29 HI.out.1 HI.out.2.1 HI.out.2.2.1 HI.out.2.2.2 rfl (by decide) _ _ _ rfl (World.ownsRow.alloc HU2.out _) ⟨w2.heap.size, 0, none⟩ 1 1 [.int .i64 v] rfl rfl HN2.out H1.out H2.out H3.out H4.out ?_))
              intro v2 w3 o2 b2 _
              have hne := rows_apart HV2.out HU2.out (by decide)
              have hown := fun q hq => (World.ownsRow.lt HU2.out q hq).1
              have hC3 := chg_grown HC2.out b2 hown
              have hK3 := has_grown HK2.out b2 (fun e => by have := hown x e.symm; omega)
              have hO3 := HV2.out.alloc (.cells #[.int .i64 v] 3) |>.kept b2 hne
              have hS3 := asked_num HJX.out HS.out HW.out HASK.out
              clear hne hown
              go_wp2
              go_roundw
              case rel =>
                refine ⟨j + 1, by omega, by go_num, Lib.hid (by rw [hS3]), Lib.hid ?_, Lib.hid ?_, Lib.hid ?_, Lib.hid hC3⟩
                · rw [hS3]
                  unfold OwnI; rw [List.length_append, List.map_append]; exact o2
                · rw [hS3]
                  exact hO3
                · rw [hS3]
                  exact ⟨a2, ha2, hr2, hK3⟩
              case measure => simp [intOf]; omega
            · have k3 : (bits .and .i64 op 7 == 3) = false := Bool.eq_false_iff.2 k3
              by_cases k4 : (bits .and .i64 op 7 == 4) = true
              · have HASK := Lib.hid (show ask s.rest xs[j].1 xs[j].2 = .bad (B.extract a B.size) m from by rw [HQ.out]; unfold ask kind; simp only [k0, k1, k2, k3, k4, if_true, if_false, Bool.false_eq_true])
                have HD := Lib.hid (rfail_any x B a m _ hk1.out)
                go_wp2_with fail
                refine HD.out.mono ?_
                rintro e w2 ⟨rfl, hk2, hc2⟩
                obtain ⟨e0, e1, e2⟩ := Rye.cells hk2
                have HU2 := Lib.hid (own_chg hU1.out hc2 (fun k hk => by omega))
                have HV2 := Lib.hid (own_chg hV1.out hc2 (fun k hk => by omega))
                have HC2 := Lib.hid (hC1.out.trans hc2)
                have HK2 := Lib.hid (show ∃ a, Rye w2 x B a true m from ⟨a, hk2⟩)
                clear hc2 hk2
                go_wp2
                go_ret3
                exact also_bad HJX.out HS.out HW.out HASK.out HU2.out HV2.out HK2.out HC2.out
              · have k4 : (bits .and .i64 op 7 == 4) = false := Bool.eq_false_iff.2 k4
                have HASK := Lib.hid (show ask s.rest xs[j].1 xs[j].2 = .still (B.extract a B.size) from by rw [HQ.out]; unfold ask kind; simp only [k0, k1, k2, k3, k4, if_false, Bool.false_eq_true])
                have hS3 := asked_still HJX.out HS.out HW.out HASK.out
                have HS3 := Lib.hid hS3
                clear hS3
                obtain ⟨e0, e1, e2⟩ := Rye.cells hk1.out
                go_wp2
                go_roundw
                case rel =>
                  refine ⟨j + 1, by omega, by go_num, Lib.hid (by rw [HS3.out]), Lib.hid ?_, Lib.hid ?_, Lib.hid ?_, Lib.hid hC1.out⟩
                  · rw [HS3.out]; exact hU1.out
                  · rw [HS3.out]; exact hV1.out
                  · rw [HS3.out]; exact ⟨a, hra.out, rfl, hk1.out⟩
                case measure => simp [intOf]; omega
    · obtain rfl : j = n := by omega
      have hfull : xs.take j = xs := List.take_of_length_le (by rw [HX.out.1]; exact Nat.le_refl _)
      rw [hfull] at HW0 HU HV HE
      go_wp2
      go_ret3
      exact ⟨_, _, by rw [HW0.out]; rfl, HU.out, HV.out, HE.out, HC.out⟩
end Go.Proofs.Ytancbkmgbhigpaa.Vc
