/- The law StreamAll walked. -/
import Derived.Test.YtepnckglnciinaaSmN
namespace Go.Proofs.Ytepnckglnciinaa.Sm
open Go.RowKit Go.Proofs.Ytepnckglnciinaa.Mem
set_option linter.unusedVariables false

theorem rangeL_add (a : Int) (n k : Nat) : rangeL a n ++ rangeL (a + (n : Int)) k = rangeL a (n + k) := by
  induction k with
  | zero => simp [rangeL]
  | succ k ih => rw [rangeL_snoc, ← List.append_assoc, ih, ← Nat.add_assoc, rangeL_snoc, Int.add_assoc]; simp
theorem rangeL_get (a : Int) (n i : Nat) (h : i < n) : (rangeL a n)[i]? = some (a + (i : Int)) := by simp [rangeL, h]
theorem grown_cell {w w' : World} {row : Option Nat} (hg : w.grownBy w' row) {p : Addr} (hb : p.block < w.heap.size) (hne : ¬ row = some p.block) : w'.cell? p = w.cell? p := by
  unfold World.cell?
  rw [hg.block p.block hb (fun e => hne e.symm)]
structure AllI (W wr : World) (u : Value) (a n : Nat) : Prop where
  below : Below W.heap.size W wr
  row : wr.ownsRow W.heap.size 3 1 u a ((rangeL 0 a).map (Value.int .i64))
  le : a ≤ n
theorem AllI.own {W wr : World} {u : Value} {a n : Nat} (h : AllI W wr u a n) : OwnI wr W.heap.size u (rangeL 0 a) := by
  unfold OwnI
  rw [rangeL_len]
  exact h.row
theorem own_news {w : World} {B : Nat} {v : Value} {l : List Int} (h : OwnI w B v l) (h0 : 0 < l.length) : ∃ g c, v = .slice (some ⟨g, 0, none⟩) l.length c ∧ ∀ j u, (l.map (Value.int .i64))[j]? = some u → w.cell? ((⟨g, 0, none⟩ : Addr).add j) = some u := by
  rcases h.2 with ⟨e, e0⟩ | ⟨g, cap, cur, e, _⟩
  · omega
  · exact ⟨g, cap, e, fun j u hu => World.ownsRow.cells h (g := g) (by rw [e]; rfl) j u hu⟩
theorem AllI.step {W wr w1 w2 : World} {u v : Value} {a n k : Nat} (h : AllI W wr u a n) (hb : Below wr.heap.size wr w1) (hk : a + k ≤ n)
    (ho : w2.ownsRow W.heap.size 3 1 v (a + k) ((rangeL 0 a).map (Value.int .i64) ++ (rangeL (a : Int) k).map (Value.int .i64))) (hg : w1.grownBy w2 u.ownBlock) : AllI W w2 v (a + k) n := by
  have hb1 := h.below.trans (hb.mono h.below.size)
  refine ⟨hb1.grown hg hb1.size (fun q hq => (World.ownsRow.lt h.row q hq).1), ?_, hk⟩
  rw [← rangeL_add, List.map_append, Int.zero_add]
  exact ho
set_option maxRecDepth 100000 in
set_option maxHeartbeats 4000000 in
theorem all_walk (total : Int) (ht : (Lit.int .i64 total).wf = true) (W : World) : Calls Try.prog 7 #[.int .i64 total] W fun e w' => e = .returned (.bool true) ∧ Below W.heap.size W w' := by
  obtain ⟨i0, hi, hz0, hz1, hz2⟩ := info_parts info_i
  have HII := Lib.hid (And.intro hi (And.intro hz0 (And.intro hz1 hz2)))
  clear hi hz0 hz1 hz2
  obtain ⟨U, hU⟩ : ∃ U, U = IntKind.u64.wrap total := ⟨_, rfl⟩
  have hU0 : 0 ≤ U := by rw [hU]; exact wrap_u64_nonneg total
  have hU2 : IntKind.u64.wrap total = U := hU.symm
  have hmod : U.tmod 200 = U % 200 := Int.tmod_eq_emod_of_nonneg hU0
  have a1 : IntKind.i64.wrap (U % 200) = U % 200 := by rw [IntKind.wrap_i64]; omega
  have a2 : IntKind.i64.wrap (1 + U % 200) = 1 + U % 200 := by rw [IntKind.wrap_i64]; omega
  have a3 : IntKind.u64.wrap (U % 200) = U % 200 := by unfold IntKind.wrap; simp [IntKind.signed, IntKind.bits]; omega
  obtain ⟨n, hn⟩ : ∃ n : Nat, (n : Int) = 1 + U % 200 := ⟨(1 + U % 200).toNat, by omega⟩
  have hn2 : 1 + U % 200 = n := hn.symm
  have hn9 : n ≤ 200 := by omega
  have hn1 : 1 ≤ n := by omega
  have HN := Lib.hid (And.intro hn1 hn9)
  clear hU hn hU0
  go_enter Try.func7, Try.ntmps7
  go_wp2
  have HMID := Lib.hid (show AllI W W (.slice none 0 0) 0 n from ⟨Below.refl _ _, own1_nil _ _ _, by omega⟩)
  clear hmod a1 a2 a3 hU2 hn1 ht
  go_loopw [4, 5] (fun s i wr => ∃ a : Nat, ∃ u : Value, i = .int .i64 a ∧ s = u ∧ Hid (AllI W wr u a n)) (fun _ i _ => n - (intOf i).toNat)
  case atStart => exact ⟨0, _, rfl, rfl, HMID⟩
  case round =>
    obtain ⟨a, u, rfl, rfl, HI⟩ := hrel
    obtain ⟨Au, cu, rfl⟩ := own1_sl HI.out.row
    have han : (a : Int) ≤ n := by have := HI.out.le; omega
    have hn9i : (n : Int) ≤ 200 := by omega
    by_cases hlt : a < n
    · have hlti : (a : Int) < n := by omega
      have HLT := Lib.hid hlt
      have HW := Lib.hid (window_any a n (by omega) (by omega) wr)
      obtain ⟨k, hk⟩ : ∃ k, k = winN a n := ⟨_, rfl⟩
      have hk1 : 1 ≤ k ∧ k ≤ 4 ∧ a + k ≤ n := by
        have h1 := Int.emod_nonneg (a : Int) (show (4 : Int) ≠ 0 by decide)
        have h2 := Int.emod_lt_of_pos (a : Int) (show (0 : Int) < 4 by decide)
        rw [hk]
        unfold winN
        rw [if_pos ⟨by omega, hlti⟩]
        omega
      have hwl : winL a n = rangeL a k := by unfold winL; rw [hk]
      rw [hwl] at HW
      have HK := Lib.hid hk1
      clear hk hwl
      go_wp2_with fail
      refine HW.out.mono ?_
      rintro e w1 ⟨v, rfl, hv, hb⟩
      obtain ⟨g, c, rfl, hnews⟩ := own_news hv (by rw [rangeL_len]; omega)
      rw [rangeL_len]
      have HNW := Lib.hid hnews
      have HGL := Lib.hid (show wr.heap.size ≤ g ∧ g < w1.heap.size from World.ownsRow.lt hv g rfl)
      have HB1 := Lib.hid hb
      have HO := Lib.hid (own1_below HI.out.row hb)
      have HS := Lib.hid (Nat.le_trans HI.out.below.size hb.size)
      have k0 : ((k : Int) == 0) = false := beq_eq_false_iff_ne.2 (by omega)
      have k4 : ¬ (4 : Int) < k := by omega
      have k1 : IntKind.i64.wrap ((k : Int) - 1) = (k : Int) - 1 := by rw [IntKind.wrap_i64]; omega
      have k2 : ((k - 1 : Nat) : Int) = (k : Int) - 1 := by omega
      have k3 : k ≠ 0 := by omega
      clear hv hnews hb hk1
      go_wp2_with (at_builtin; refine wpList_append_own _ rfl (.tmp 34) (.tmp 35) 29 rfl W.heap.size 3 i0 (.int .i64 0) 1 8 Try.underlying29 HII.out.1 HII.out.2.1 HII.out.2.2.1 HII.out.2.2.2 rfl (by decide) (.slice Au a cu) a ((rangeL 0 a).map (Value.int .i64)) rfl HO.out ⟨g, 0, none⟩ k c ((rangeL (a : Int) k).map (Value.int .i64)) rfl (by rw [List.length_map, rangeL_len]; simp) HNW.out ?c1 (by unfold maxLen; have := HK.out; omega) (by have := HK.out; omega) HS.out ?_)
      case c1 =>
        intro u hu
        obtain ⟨z, _, rfl⟩ := List.mem_map.1 hu
        rfl
      intro v2 w2 o2 g2 _
      have HQ := Lib.hid (AllI.step HI.out HB1.out HK.out.2.2 o2 g2)
      have x0 : w2.cell? ⟨g, k - 1, none⟩ = some (.int .i64 ((a : Int) + ((k - 1 : Nat) : Int))) := by
        have h1 := HNW.out (k - 1) (.int .i64 ((a : Int) + ((k - 1 : Nat) : Int))) (by rw [List.getElem?_map, rangeL_get _ _ _ (by have := HK.out; omega)]; rfl)
        have ha : (⟨g, 0, none⟩ : Addr).add (k - 1) = ⟨g, k - 1, none⟩ := by
          unfold Addr.add
          split
          · next h => rw [h]
          · simp
        rw [ha] at h1
        rw [grown_cell g2 (p := ⟨g, k - 1, none⟩) HGL.out.2 (fun e => by have h2 := (World.ownsRow.lt HI.out.row g e).2; have := HGL.out.1; omega)]
        exact h1
      have hk3 : ((k : Int) - 1).toNat = k - 1 := by omega
      obtain ⟨A2, c2, rfl⟩ := own1_sl o2
      clear o2 g2
      go_wp2
      go_roundw
      case rel => exact ⟨a + k, _, by congr 1; omega, rfl, HQ⟩
      case measure => have := HK.out; have := HLT.out; simp [intOf]; omega
    · have hlti : ¬ (a : Int) < n := by omega
      have hai : (a : Int) = n := by omega
      obtain rfl : a = n := by have := HI.out.le; omega
      obtain ⟨A2, c2, e2, hrow⟩ := HI.out.own.row
      rw [rangeL_len] at e2 hrow
      injection e2 with e3 e4 e5
      subst e3
      have HRW := Lib.hid hrow
      clear hrow e4 e5
      go_wp2
      obtain ⟨wd, hwd⟩ : ∃ wd : World, wd = wr := ⟨_, rfl⟩
      subst hwd
      go_loopw [46] (fun i wr => ∃ j : Nat, j ≤ a ∧ i = .int .i64 j ∧ Hid (Below wd.heap.size wd wr)) (fun i _ => a - (intOf i).toNat)
      case atStart => exact ⟨0, by omega, rfl, Lib.hid (Below.refl _ _)⟩
      case round =>
        obtain ⟨j, hj, rfl, HBW⟩ := hrel
        by_cases hltj : j < a
        · have HLJ := Lib.hid (show j + 1 ≤ a from hltj)
          obtain ⟨b, off, rfl, hbl, hcl⟩ := (HRW.out.below HBW.out).2 (by omega)
          have j1 : j < (rangeL 0 a).length := by rw [rangeL_len]; exact hltj
          have x0 := hcl j j1
          have e0 : (rangeL 0 a)[j] = (j : Int) := by
            have h := rangeL_get 0 a j hltj
            rw [List.getElem?_eq_getElem j1] at h
            injection h with h
            rw [h]; omega
          rw [e0] at x0
          have hltji : (j : Int) < a := by omega
          clear hcl hbl e0 j1
          go_wp2
          go_roundw
          case rel => exact ⟨j + 1, HLJ.out, by go_num, HBW⟩
          case measure => have := HLJ.out; simp [intOf]; omega
        · have hltji : ¬ (j : Int) < a := by omega
          obtain rfl : j = a := by omega
          have HBL := Lib.hid (HI.out.below.trans (HBW.out.mono HI.out.below.size))
          go_wp2_with fail
          refine (awake_any _).mono ?_
          rintro e w4 ⟨rfl, hb⟩
          have HB4 := Lib.hid (HBL.out.trans (hb.mono HBL.out.size))
          clear hb
          go_wp2
          go_ret
          exact ⟨rfl, HB4.out⟩
end Go.Proofs.Ytepnckglnciinaa.Sm
