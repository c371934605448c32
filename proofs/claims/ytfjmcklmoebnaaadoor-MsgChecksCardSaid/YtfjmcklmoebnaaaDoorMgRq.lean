/- The document's stamps and vectors behind bytes. -/
import Derived.Test.YtfjmcklmoebnaaaDoorStRPut
import Derived.Test.YtfjmcklmoebnaaaDoorVcQ
import Derived.Test.YtfjmcklmoebnaaaDoorVcB
namespace Go.Proofs.YtfjmcklmoebnaaaDoor.Vc
open Go.RowKit Go.Proofs.YtfjmcklmoebnaaaDoor.Oct

theorem rput_num {A : Option Addr} {n cap k : Nat} {l : List UInt8} {w : World} (x : Int) (hn : n ≤ 1048000) (h1 : 1 ≤ k) (h8 : k ≤ 8) (h : RowB w A n l) (h0 : A = none → n = 0 ∧ cap = 0) :
    Calls Tryd.prog 41 #[.slice A n cap, .int .i64 x, .int .i64 k] w fun e w' => ∃ v, e = .returned v ∧ Owns w' w.heap.size v (l ++ numB x k) ∧ Below w.heap.size w w' := by
  have h2 := rput_any A n cap x k l hn w h h0
  rw [if_neg (by omega)] at h2
  exact h2
theorem has_grown {w w' : World} {g : Nat} {t : TypeId} {cs : Array Value} {row : Option Nat} (h : Oct.Has w g t cs) (hg : w.grownBy w' row) (hr : some g = row → False) : Oct.Has w' g t cs := by
  unfold Oct.Has at *
  rw [hg.block g (Array.getElem?_eq_some_iff.1 h).1 hr]
  exact h
set_option maxRecDepth 100000 in
set_option maxHeartbeats 2000000 in
theorem rput_vec (A : Option Addr) (n cap : Nat) (x : Nat → Int) (l : List UInt8) (hn : n ≤ 500000) (w : World) (h : RowB w A n l) (h0 : A = none → n = 0 ∧ cap = 0) :
    Calls Tryd.prog 39 #[.slice A n cap, .agg (vecC x)] w fun e w' => ∃ v, e = .returned v ∧ Owns w' w.heap.size v (l ++ vecB x) ∧ Below w.heap.size w w' := by
  obtain ⟨i0, hi, hz0, hz1, hz2⟩ := info_parts info_u8
  have HI := Lib.hid (And.intro hi (And.intro hz0 (And.intro hz1 hz2)))
  clear hi hz0 hz1 hz2
  have HX := Lib.hid (Oct.Has.past (Oct.Has.fresh w 25 (vecC x)) (.cells #[] 5))
  have HB := Lib.hid (((Below.refl w.heap.size w).alloc (Nat.le_refl _) (.cells (vecC x) 25)).alloc (by simp) (.cells #[] 5))
  have HL := Lib.hid h.1
  have HC1 := Lib.hid (show (l.map bv).length = n * 1 by rw [List.length_map, h.1, Nat.mul_one])
  have HC2 := Lib.hid (show 0 + n ≤ maxLen by unfold maxLen; omega)
  have HC3 := Lib.hid (show (0 + n) * 1 ≤ 140737488355328 by omega)
  have ho0 := World.ownsRow_made (base := w.heap.size) (e := 5) (size := 1) (w.alloc (.cells (vecC x) 25)) #[] 0 (by simp) (Nat.zero_le _) (by simp)
  rw [World.size_alloc] at ho0
  have HO := Lib.hid ho0
  clear ho0
  cases A with
  | none =>
    obtain ⟨rfl, rfl⟩ := h0 rfl
    obtain rfl : l = [] := List.eq_nil_of_length_eq_zero h.1
    clear h h0
    go_enter Tryd.func39, Tryd.ntmps39
    go_wp2_with (at_builtin; refine wpList_append_own_none rfl _ _ _ rfl w.heap.size 5 i0 1 Tryd.underlying41 HI.out.1 _ 0 [] rfl HO.out rfl ?_)
    go_wp2
    go_loopw [5, 10] (fun v i wr => ∃ k : Nat, k ≤ 8 ∧ i = .int .i64 k ∧ Hid (Owns wr w.heap.size v ([] ++ vecTo x k)) ∧ Hid (Oct.Has wr w.heap.size 25 (vecC x)) ∧ Hid (Below w.heap.size w wr)) (fun _ i _ => 8 - (intOf i).toNat)
    case atStart => exact ⟨0, by omega, rfl, HO, HX, HB⟩
    case round =>
      obtain ⟨k, hk, rfl, HOk, HXk, HBk⟩ := hrel
      by_cases hlt : k < 8
      · have k1 : (k : Int) < 8 := by omega
        obtain ⟨A1, c1, rfl, r1, n1⟩ := owns_lens HOk.out
        have hl : ([] ++ vecTo x k).length = 6 * k := by rw [List.nil_append, vecTo_len]
        rw [hl] at r1 n1 ⊢
        have HP := Lib.hid (rput_num (k := 6) (x k) (by omega) (by omega) (by omega) r1 n1)
        have cx := has_vec_at HXk.out hlt
        clear r1 n1 hl
        go_wp2_with fail
        refine HP.out.mono ?_
        rintro e w2 ⟨v, rfl, ho, hb⟩
        rw [List.append_assoc] at ho
        have HO2 := Lib.hid (show Owns w2 w.heap.size v ([] ++ vecTo x (k + 1)) from owns_mono ho HBk.out.size)
        have HX2 := Lib.hid (Oct.Has.over HXk.out (Chg.of_below hb (fun _ => False)) (fun k => k))
        have HB2 := Lib.hid (HBk.out.trans (hb.mono HBk.out.size))
        clear ho hb cx
        go_wp2
        go_roundw
        case rel => exact ⟨k + 1, by omega, by go_num, HO2, HX2, HB2⟩
        case measure => simp [intOf]; omega
      · obtain rfl : k = 8 := by omega
        go_wp2
        go_ret
        exact ⟨_, rfl, HOk.out, HBk.out⟩
  | some ad =>
    have HR := Lib.hid (row_news (h.below HB.out))
    have HC4 := Lib.hid (show w.heap.size ≤ ((w.alloc (.cells (vecC x) 25)).alloc (.cells #[] 5)).heap.size by simp; omega)
    clear h h0
    go_enter Tryd.func39, Tryd.ntmps39
    go_wp2_with (at_builtin; refine wpList_append_own ((w.alloc (.cells (vecC x) 25)).alloc (.cells #[] 5)) rfl _ _ _ rfl w.heap.size 5 i0 (.int .u8 0) 1 1 Tryd.underlying41 HI.out.1 HI.out.2.1 HI.out.2.2.1 HI.out.2.2.2 rfl (by decide) _ 0 [] rfl HO.out ad n cap (l.map bv) rfl HC1.out HR.out (bytes_one l) HC2.out HC3.out HC4.out ?_)
    intro v w1 o1 b1 _
    have HO1 := Lib.hid (show Owns w1 w.heap.size v (l ++ vecTo x 0) by
      unfold Owns
      rw [vecTo, List.append_nil, HL.out]
      simpa using o1)
    have hbb : ∀ k, (Value.slice (some ⟨w.heap.size + 1, 0, none⟩) 0 0).ownBlock = some k → w.heap.size ≤ k := fun k hk => by
      simp [Value.ownBlock] at hk
      omega
    have HB1 := Lib.hid (HB.out.grown b1 (by simp; omega) hbb)
    have HX1 := Lib.hid (has_grown HX.out b1 (by intro e; simp [Value.ownBlock] at e))
    clear o1 b1 hbb
    go_wp2
    go_loopw [5, 10] (fun v i wr => ∃ k : Nat, k ≤ 8 ∧ i = .int .i64 k ∧ Hid (Owns wr w.heap.size v (l ++ vecTo x k)) ∧ Hid (Oct.Has wr w.heap.size 25 (vecC x)) ∧ Hid (Below w.heap.size w wr)) (fun _ i _ => 8 - (intOf i).toNat)
    case atStart => exact ⟨0, by omega, rfl, HO1, HX1, HB1⟩
    case round =>
      obtain ⟨k, hk, rfl, HOk, HXk, HBk⟩ := hrel
      by_cases hlt : k < 8
      · have k1 : (k : Int) < 8 := by omega
        obtain ⟨A1, c1, rfl, r1, n1⟩ := owns_lens HOk.out
        have hl : (l ++ vecTo x k).length = n + 6 * k := by rw [List.length_append, vecTo_len, HL.out]
        rw [hl] at r1 n1 ⊢
        have HP := Lib.hid (rput_num (k := 6) (x k) (by omega) (by omega) (by omega) r1 n1)
        have cx := has_vec_at HXk.out hlt
        clear r1 n1 hl
        go_wp2_with fail
        refine HP.out.mono ?_
        rintro e w2 ⟨v, rfl, ho, hb⟩
        rw [List.append_assoc] at ho
        have HO2 := Lib.hid (show Owns w2 w.heap.size v (l ++ vecTo x (k + 1)) from owns_mono ho HBk.out.size)
        have HX2 := Lib.hid (Oct.Has.over HXk.out (Chg.of_below hb (fun _ => False)) (fun k => k))
        have HB2 := Lib.hid (HBk.out.trans (hb.mono HBk.out.size))
        clear ho hb cx
        go_wp2
        go_roundw
        case rel => exact ⟨k + 1, by omega, by go_num, HO2, HX2, HB2⟩
        case measure => simp [intOf]; omega
      · obtain rfl : k = 8 := by omega
        go_wp2
        go_ret
        exact ⟨_, rfl, HOk.out, HBk.out⟩
end Go.Proofs.YtfjmcklmoebnaaaDoor.Vc
