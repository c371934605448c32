/- Looking by an eye that does not look: rows of noughts and of empty texts. -/
import Derived.Test.YtancbkmgbhigpaaOctIdle
import Derived.Lib.AppendStr
namespace Go.Proofs.Ytancbkmgbhigpaa.Oct
open Go.RowKit

theorem info_i : (Try.prog.info? 3).map (fun i => (i.zero, i.size, i.bytes)) = some (some (.int .i64 0), 1, 8) := by kernel_rfl
theorem info_s : (Try.prog.info? 9).map (fun i => (i.zero, i.size, i.bytes)) = some (some (.string ⟨#[]⟩), 1, 16) := by kernel_rfl
/-- What is asked, as it came in. -/
def LookRow (w : World) (A : Option Addr) (n : Nat) (xs : List (Int × Int)) : Prop :=
  xs.length = n ∧ (0 < n → ∃ b off, A = some ⟨b, off, none⟩ ∧ b < w.heap.size ∧ ∀ i (h : i < xs.length), w.cell? ⟨b, off + i * 2, none⟩ = some (.int .i64 xs[i].1) ∧ w.cell? ⟨b, off + i * 2 + 1, none⟩ = some (.int .i64 xs[i].2))
theorem LookRow.below {w w' : World} {A : Option Addr} {n : Nat} {xs : List (Int × Int)} (h : LookRow w A n xs) (hb : Below w.heap.size w w') : LookRow w' A n xs :=
  ⟨h.1, fun hn => by
    obtain ⟨b, off, e, hl, hx⟩ := h.2 hn
    exact ⟨b, off, e, Nat.lt_of_lt_of_le hl hb.size, fun i hi => ⟨(hb.cell (p := ⟨b, off + i * 2, none⟩) hl).trans (hx i hi).1, (hb.cell (p := ⟨b, off + i * 2 + 1, none⟩) hl).trans (hx i hi).2⟩⟩⟩
def Noughts (w : World) (B : Nat) (v : Value) (p : Nat) : Prop := w.ownsRow B 3 1 v p (List.replicate p (.int .i64 0))
def Empties (w : World) (B : Nat) (v : Value) (p : Nat) : Prop := w.ownsRow B 9 1 v p (List.replicate p (.string ⟨#[]⟩))
theorem rows_apart {w : World} {B e f p q : Nat} {u v : Value} {xs ys : List Value} (h : w.ownsRow B e 1 u p xs) (k : w.ownsRow B f 1 v q ys) (hne : e ≠ f) : u.ownBlock = none ∨ u.ownBlock ≠ v.ownBlock := by
  rcases h.2 with ⟨rfl, _⟩ | ⟨g, c, cur, rfl, _, hh, _⟩
  · exact .inl rfl
  · rcases k.2 with ⟨rfl, _⟩ | ⟨g', c', cur', rfl, _, hk, _⟩
    · exact .inr (by simp [Value.ownBlock])
    · refine .inr fun he => ?_
      simp [Value.ownBlock] at he
      subst he
      rw [hh] at hk
      injection hk with hk
      injection hk with _ h2
      exact hne h2
theorem noughts_step {w : World} {B p : Nat} {v : Value} (h : w.ownsRow B 3 1 v (p + 1) (List.replicate p (.int .i64 0) ++ [.int .i64 0])) : Noughts w B v (p + 1) := by
  unfold Noughts
  rw [List.replicate_succ']
  exact h
theorem empties_step {w : World} {B p : Nat} {v : Value} (h : w.ownsRow B 9 1 v (p + 1) (List.replicate p (.string ⟨#[]⟩) ++ [.string ⟨#[]⟩])) : Empties w B v (p + 1) := by
  unfold Empties
  rw [List.replicate_succ']
  exact h
set_option maxRecDepth 100000 in
set_option maxHeartbeats 4000000 in
theorem looks_idle (e : Option Addr) (A : Option Addr) (n c : Nat) (xs : List (Int × Int)) (hn : n ≤ 1000) (w : World) (h : LookRow w A n xs) (he : Idle w e) :
    Calls Try.prog 9 #[.pointer e, .slice A n c] w fun x w' => ∃ u v p q, x = .returned (.tuple #[u, v]) ∧ p + q ≤ n ∧ Noughts w' w.heap.size u p ∧ Empties w' w.heap.size v q ∧ Below w.heap.size w w' := by
  obtain ⟨i0, hi, hz0, hz1, hz2⟩ := info_parts info_i
  have HI := Lib.hid (And.intro hi (And.intro hz0 (And.intro hz1 hz2)))
  clear hi hz0 hz1 hz2
  obtain ⟨j0, hi, hz0, hz1, hz2⟩ := info_parts info_s
  have HJ := Lib.hid (And.intro hi (And.intro hz0 (And.intro hz1 hz2)))
  clear hi hz0 hz1 hz2
  have HX := Lib.hid h
  have HE := Lib.hid he
  clear h he
  go_enter Try.func9, Try.ntmps9
  go_wp2
  go_loopw [4, 5, 10] (fun u v i wr => ∃ j p q : Nat, j ≤ n ∧ i = .int .i64 j ∧ p + q ≤ j ∧ Noughts wr w.heap.size u p ∧ Empties wr w.heap.size v q ∧ Below w.heap.size w wr) (fun _ _ i _ => n - (intOf i).toNat)
  case atStart => exact ⟨0, 0, 0, Nat.zero_le _, rfl, Nat.le_refl _, World.ownsRow_nil _ _ _ _, World.ownsRow_nil _ _ _ _, Below.refl _ _⟩
  case round =>
    obtain ⟨j, p, q, hj, rfl, hpq, hu, hv, hb⟩ := hrel
    by_cases hlt : j < n
    · obtain ⟨b, off, rfl, hbl, hcl⟩ := HX.out.2 (by omega)
      have hjx : j < xs.length := by rw [HX.out.1]; exact hlt
      obtain ⟨c1, c2⟩ := hcl j hjx
      have c1 := (hb.cell (p := ⟨b, off + j * 2, none⟩) hbl).trans c1
      have c2 := (hb.cell (p := ⟨b, off + j * 2 + 1, none⟩) hbl).trans c2
      clear hcl
      generalize xs[j] = lk at *
      obtain ⟨op, m⟩ := lk
      simp only at c1 c2
      have hb1 := hb.alloc hb.size (.cells #[.int .i64 op, .int .i64 m] 37)
      have hU := Lib.hid (World.ownsRow.alloc hu (.cells #[.int .i64 op, .int .i64 m] 37))
      have hV := Lib.hid (World.ownsRow.alloc hv (.cells #[.int .i64 op, .int .i64 m] 37))
      have hE1 := Lib.hid (HE.out.below hb1)
      have hk4 := Lib.hid (fun (x : Value) (t : TypeId) => show w.heap.size ≤ ((wr.alloc (.cells #[.int .i64 op, .int .i64 m] 37)).alloc (.cells #[x] t)).heap.size from Nat.le_trans hb1.size (by simp))
      have hN := Lib.hid (fun (x : Value) (t : TypeId) => show ∀ j u, [x][j]? = some u → ((wr.alloc (.cells #[.int .i64 op, .int .i64 m] 37)).alloc (.cells #[x] t)).cell? ((⟨wr.heap.size + 1, 0, none⟩ : Addr).add j) = some u from by have h := cell_one_new (wr.alloc (.cells #[.int .i64 op, .int .i64 m] 37)) x t; rw [World.size_alloc] at h; exact h)
      have HI1 := Lib.hid (show ∀ u ∈ [Value.int .i64 0], u.oneCell' = true by intro u hu; rw [List.mem_singleton.1 hu]; rfl)
      have HJ1 := Lib.hid (show ∀ u ∈ [Value.string ⟨#[]⟩], u.oneCell' = true by intro u hu; rw [List.mem_singleton.1 hu]; rfl)
      have hU2 := Lib.hid (show p + 1 ≤ maxLen by unfold maxLen; omega)
      have hU3 := Lib.hid (show (p + 1) * 8 ≤ 140737488355328 by omega)
      have hV2 := Lib.hid (show q + 1 ≤ maxLen by unfold maxLen; omega)
      have hV3 := Lib.hid (show (q + 1) * 16 ≤ 140737488355328 by omega)
      clear hu hv hb
      by_cases k0 : (bits .and .i64 op 7 == 0) = true
      · go_wp2_with fail
        refine (num_idle e m _ hE1.out).mono ?_
        rintro x w' ⟨rfl, rfl⟩
        go_wp2_with (at_builtin; go_loud (refine wpList_append_own ((wr.alloc (.cells #[.int .i64 op, .int .i64 m] 37)).alloc (.cells #[.int .i64 0] 3)) rfl (.tmp 19) (.tmp 24) _ rfl w.heap.size 3 i0 (.int .i64 0) 1 8 Try.underlying29 HI.out.1 HI.out.2.1 HI.out.2.2.1 HI.out.2.2.2 rfl (by decide) _ p (List.replicate p (.int .i64 0)) rfl (World.ownsRow.alloc hU.out _) ⟨wr.heap.size + 1, 0, none⟩ 1 1 [.int .i64 0] rfl rfl (hN.out _ _) HI1.out hU2.out hU3.out (hk4.out _ _) ?_))
        intro v2 w2 o2 b2 _
        have hne := rows_apart hV.out hU.out (by decide)
        have hB2 := (hb1.alloc hb1.size (.cells #[.int .i64 0] 3)).grown b2 (hk4.out _ _) (fun q hq => (World.ownsRow.lt hU.out q hq).1)
        have hK := hV.out.alloc (.cells #[.int .i64 0] 3) |>.kept b2 hne
        go_wp2
        go_roundw
        case rel => exact ⟨j + 1, p + 1, q, by omega, by go_num, by omega, noughts_step o2, hK, hB2⟩
        case measure => simp [intOf]; omega
      · have k0 : (bits .and .i64 op 7 == 0) = false := Bool.eq_false_iff.2 k0
        by_cases k1 : (bits .and .i64 op 7 == 1) = true
        · go_wp2_with fail
          refine (text_idle e m _ hE1.out).mono ?_
          rintro x w' ⟨rfl, rfl⟩
          go_wp2_with (at_builtin; (refine wpList_append_own ((wr.alloc (.cells #[.int .i64 op, .int .i64 m] 37)).alloc (.cells #[.string ⟨#[]⟩] 9)) rfl (.tmp 28) (.tmp 33) _ rfl w.heap.size 9 j0 (.string ⟨#[]⟩) 1 16 Try.underlying30 HJ.out.1 HJ.out.2.1 HJ.out.2.2.1 HJ.out.2.2.2 rfl (by decide) _ q (List.replicate q (.string ⟨#[]⟩)) rfl (World.ownsRow.alloc hV.out _) ⟨wr.heap.size + 1, 0, none⟩ 1 1 [.string ⟨#[]⟩] rfl rfl (hN.out _ _) HJ1.out hV2.out hV3.out (hk4.out _ _) ?_))
          intro v2 w2 o2 b2 _
          have hne := rows_apart hU.out hV.out (by decide)
          have hB2 := (hb1.alloc hb1.size (.cells #[.string ⟨#[]⟩] 9)).grown b2 (hk4.out _ _) (fun q hq => (World.ownsRow.lt hV.out q hq).1)
          have hK := hU.out.alloc (.cells #[.string ⟨#[]⟩] 9) |>.kept b2 hne
          go_wp2
          go_roundw
          case rel => exact ⟨j + 1, p, q + 1, by omega, by go_num, by omega, hK, empties_step o2, hB2⟩
          case measure => simp [intOf]; omega
        · have k1 : (bits .and .i64 op 7 == 1) = false := Bool.eq_false_iff.2 k1
          by_cases k2 : (bits .and .i64 op 7 == 2) = true
          · go_wp2_with fail
            refine (raw_idle e m _ hE1.out).mono ?_
            rintro x w' ⟨rfl, rfl⟩
            go_wp2_with (at_builtin; (refine wpList_append_own ((wr.alloc (.cells #[.int .i64 op, .int .i64 m] 37)).alloc (.cells #[.string ⟨#[]⟩] 9)) rfl (.tmp 37) (.tmp 42) _ rfl w.heap.size 9 j0 (.string ⟨#[]⟩) 1 16 Try.underlying30 HJ.out.1 HJ.out.2.1 HJ.out.2.2.1 HJ.out.2.2.2 rfl (by decide) _ q (List.replicate q (.string ⟨#[]⟩)) rfl (World.ownsRow.alloc hV.out _) ⟨wr.heap.size + 1, 0, none⟩ 1 1 [.string ⟨#[]⟩] rfl rfl (hN.out _ _) HJ1.out hV2.out hV3.out (hk4.out _ _) ?_))
            intro v2 w2 o2 b2 _
            have hne := rows_apart hU.out hV.out (by decide)
            have hB2 := (hb1.alloc hb1.size (.cells #[.string ⟨#[]⟩] 9)).grown b2 (hk4.out _ _) (fun q hq => (World.ownsRow.lt hV.out q hq).1)
            have hK := hU.out.alloc (.cells #[.string ⟨#[]⟩] 9) |>.kept b2 hne
            go_wp2
            go_roundw
            case rel => exact ⟨j + 1, p, q + 1, by omega, by go_num, by omega, hK, empties_step o2, hB2⟩
            case measure => simp [intOf]; omega
          · have k2 : (bits .and .i64 op 7 == 2) = false := Bool.eq_false_iff.2 k2
            by_cases k3 : (bits .and .i64 op 7 == 3) = true
            · go_wp2_with fail
              refine (left_idle e _ hE1.out).mono ?_
              rintro x w' ⟨rfl, rfl⟩
              go_wp2_with (at_builtin; (refine wpList_append_own ((wr.alloc (.cells #[.int .i64 op, .int .i64 m] 37)).alloc (.cells #[.int .i64 0] 3)) rfl (.tmp 46) (.tmp 49) _ rfl w.heap.size 3 i0 (.int .i64 0) 1 8 Try.underlying29 HI.out.1 HI.out.2.1 HI.out.2.2.1 HI.out.2.2.2 rfl (by decide) _ p (List.replicate p (.int .i64 0)) rfl (World.ownsRow.alloc hU.out _) ⟨wr.heap.size + 1, 0, none⟩ 1 1 [.int .i64 0] rfl rfl (hN.out _ _) HI1.out hU2.out hU3.out (hk4.out _ _) ?_))
              intro v2 w2 o2 b2 _
              have hne := rows_apart hV.out hU.out (by decide)
              have hB2 := (hb1.alloc hb1.size (.cells #[.int .i64 0] 3)).grown b2 (hk4.out _ _) (fun q hq => (World.ownsRow.lt hU.out q hq).1)
              have hK := hV.out.alloc (.cells #[.int .i64 0] 3) |>.kept b2 hne
              go_wp2
              go_roundw
              case rel => exact ⟨j + 1, p + 1, q, by omega, by go_num, by omega, noughts_step o2, hK, hB2⟩
              case measure => simp [intOf]; omega
            · have k3 : (bits .and .i64 op 7 == 3) = false := Bool.eq_false_iff.2 k3
              by_cases k4 : (bits .and .i64 op 7 == 4) = true
              · go_wp2_with fail
                refine (fail_idle e m _ hE1.out).mono ?_
                rintro x w' ⟨rfl, rfl⟩
                go_wp2
                go_roundw
                case rel => exact ⟨j + 1, p, q, by omega, by go_num, by omega, hU.out, hV.out, hb1⟩
                case measure => simp [intOf]; omega
              · have k4 : (bits .and .i64 op 7 == 4) = false := Bool.eq_false_iff.2 k4
                go_wp2
                go_roundw
                case rel => exact ⟨j + 1, p, q, by omega, by go_num, by omega, hU.out, hV.out, hb1⟩
                case measure => simp [intOf]; omega
    · obtain rfl : j = n := by omega
      go_wp2
      go_ret2
      exact ⟨_, _, p, q, rfl, hpq, hu, hv, hb⟩
end Go.Proofs.Ytancbkmgbhigpaa.Oct
