/- The document's Put: contract. -/
import Derived.Test.YtfjmcklmoebnaaaDoorStPutT
namespace Go.Proofs.YtfjmcklmoebnaaaDoor.Oct
open Go.RowKit

theorem Owns.below {w w' : World} {B : Nat} {v : Value} {l : List UInt8} (h : Owns w B v l) (hb : Below w.heap.size w w') : Owns w' B v l := by
  obtain ⟨hl, h⟩ := h
  refine ⟨hl, ?_⟩
  rcases h with h | ⟨g, c, cur, e, hB, hh, h1, h2, h3, h4⟩
  · exact .inl h
  · exact .inr ⟨g, c, cur, e, hB, (hb.block g (Array.getElem?_eq_some_iff.1 hh).1).trans hh, h1, h2, h3, h4⟩
theorem Owns.mono {w : World} {B C : Nat} {v : Value} {l : List UInt8} (h : Owns w C v l) (hb : B ≤ C) : Owns w B v l := by
  obtain ⟨hl, h⟩ := h
  refine ⟨hl, ?_⟩
  rcases h with h | ⟨g, c, cur, e, hB, hr⟩
  · exact .inl h
  · exact .inr ⟨g, c, cur, e, Nat.le_trans hb hB, hr⟩
theorem owns_built (w : World) (B : Nat) (hB : B ≤ w.heap.size) (b : UInt8) : Owns (w.alloc (.cells #[bv b] 5)) B (.slice (some ⟨w.heap.size, 0, none⟩) 1 1) [b] :=
  ⟨rfl, .inr ⟨w.heap.size, 1, #[bv b], rfl, hB, Array.getElem?_push_size, Nat.le_refl _, by unfold maxLen; omega, rfl, rfl⟩⟩
theorem putL_cons (U j : Nat) : putL U (j + 1) = UInt8.ofNat (U / 256 ^ j % 256) :: putL U j := by
  unfold putL
  rw [List.range_succ_eq_map, List.map_cons, List.map_map]
  congr 1
  · rw [show 8 * (j + 1 - 1 - 0) = 8 * j by omega, Nat.pow_mul]
  · apply List.map_congr_left
    intro i _
    show UInt8.ofNat (U / 2 ^ (8 * (j + 1 - 1 - (i + 1))) % 256) = _
    rw [show j + 1 - 1 - (i + 1) = j - 1 - i by omega]
theorem Owns.news {w : World} {B : Nat} {g c n : Nat} {l : List UInt8} (h : Owns w B (.slice (some ⟨g, 0, none⟩) n c) l) : ∀ j u, (l.map bv)[j]? = some u → w.cell? ((⟨g, 0, none⟩ : Addr).add j) = some u :=
  World.ownsRow.cells h rfl
set_option maxRecDepth 100000 in
set_option maxHeartbeats 400000 in
theorem rput_out_some (ad : Addr) (n c : Nat) (x k : Int) (l : List UInt8) (hn : n ≤ 1048000) (hk : k < 1 ∨ 8 < k) (w : World) (h : RowB w (some ad) n l) :
    Calls Tryd.prog 41 #[.slice (some ad) n c, .int .i64 x, .int .i64 k] w fun e w' => ∃ v, e = .returned v ∧ Owns w' w.heap.size v l ∧ Below w.heap.size w w' := by
  obtain ⟨i0, hi, hz0, hz1, hz2⟩ := info_parts info_u8
  have HI := Lib.hid (And.intro hi (And.intro hz0 (And.intro hz1 hz2)))
  clear hi hz0 hz1 hz2
  have HB := Lib.hid ((Below.refl w.heap.size w).alloc (Nat.le_refl _) (.cells #[] 5))
  have HR := Lib.hid (row_news (h.below HB.out))
  have HL := Lib.hid h.1
  have HC1 := Lib.hid (show (l.map bv).length = n * 1 by rw [List.length_map, h.1, Nat.mul_one])
  have HC2 := Lib.hid (show 0 + n ≤ maxLen by unfold maxLen; omega)
  have HC3 := Lib.hid (show (0 + n) * 1 ≤ 140737488355328 by omega)
  have HC4 := Lib.hid (show w.heap.size ≤ (w.alloc (.cells #[] 5)).heap.size by simp)
  clear h
  by_cases h1 : k < 1
  · clear hk
    go_enter Tryd.func41, Tryd.ntmps41
    go_wp2_with (at_builtin; refine wpList_append_own (w.alloc (.cells #[] 5)) rfl _ _ _ rfl w.heap.size 5 i0 (.int .u8 0) 1 1 Tryd.underlying41 HI.out.1 HI.out.2.1 HI.out.2.2.1 HI.out.2.2.2 rfl (by decide) _ 0 [] rfl (World.ownsRow_made w #[] 0 (Nat.le_refl _) (Nat.zero_le _) (by simp)) ad n c (l.map bv) rfl HC1.out HR.out (bytes_one l) HC2.out HC3.out HC4.out ?_)
    intro v w1 o1 b1 _
    go_wp2
    go_ret
    refine ⟨v, rfl, ?_, HB.out.grown b1 (by simp) (fun k hk => ?_)⟩
    · unfold Owns
      rw [HL.out]
      simpa using o1
    · simp [Value.ownBlock] at hk
      omega
  · have h2 : 8 < k := by omega
    clear hk
    go_enter Tryd.func41, Tryd.ntmps41
    go_wp2_with (at_builtin; refine wpList_append_own (w.alloc (.cells #[] 5)) rfl _ _ _ rfl w.heap.size 5 i0 (.int .u8 0) 1 1 Tryd.underlying41 HI.out.1 HI.out.2.1 HI.out.2.2.1 HI.out.2.2.2 rfl (by decide) _ 0 [] rfl (World.ownsRow_made w #[] 0 (Nat.le_refl _) (Nat.zero_le _) (by simp)) ad n c (l.map bv) rfl HC1.out HR.out (bytes_one l) HC2.out HC3.out HC4.out ?_)
    intro v w1 o1 b1 _
    go_wp2
    go_ret
    refine ⟨v, rfl, ?_, HB.out.grown b1 (by simp) (fun k hk => ?_)⟩
    · unfold Owns
      rw [HL.out]
      simpa using o1
    · simp [Value.ownBlock] at hk
      omega
set_option maxRecDepth 100000 in
set_option maxHeartbeats 400000 in
theorem rput_out_none (x k : Int) (hk : k < 1 ∨ 8 < k) (w : World) :
    Calls Tryd.prog 41 #[.slice none 0 0, .int .i64 x, .int .i64 k] w fun e w' => ∃ v, e = .returned v ∧ Owns w' w.heap.size v [] ∧ Below w.heap.size w w' := by
  obtain ⟨i0, hi, hz0, hz1, hz2⟩ := info_parts info_u8
  have HI := Lib.hid (And.intro hi (And.intro hz0 (And.intro hz1 hz2)))
  have HO := Lib.hid (World.ownsRow_made (base := w.heap.size) (e := 5) (size := 1) w #[] 0 (Nat.le_refl _) (Nat.zero_le _) (by simp))
  clear hi hz0 hz1 hz2
  by_cases h1 : k < 1
  · clear hk
    go_enter Tryd.func41, Tryd.ntmps41
    go_wp2_with (at_builtin; refine wpList_append_own_none rfl _ _ _ rfl w.heap.size 5 i0 1 Tryd.underlying41 HI.out.1 _ 0 [] rfl HO.out rfl ?_)
    go_wp2
    go_ret
    exact ⟨_, rfl, HO.out, (Below.refl _ w).alloc (Nat.le_refl _) _⟩
  · have h2 : 8 < k := by omega
    clear hk
    go_enter Tryd.func41, Tryd.ntmps41
    go_wp2_with (at_builtin; refine wpList_append_own_none rfl _ _ _ rfl w.heap.size 5 i0 1 Tryd.underlying41 HI.out.1 _ 0 [] rfl HO.out rfl ?_)
    go_wp2
    go_ret
    exact ⟨_, rfl, HO.out, (Below.refl _ w).alloc (Nat.le_refl _) _⟩
theorem nil_len {U j : Nat} (h : (putL U j).length = 0) : j = 0 := by rw [putL_len] at h; exact h
set_option maxRecDepth 100000 in
set_option maxHeartbeats 1000000 in
/-- The loop and what stands behind it, of an own row that holds the bytes ahead. -/
theorem rput_in_some (ad : Addr) (n c k : Nat) (x : Int) (l : List UInt8) (hn : n ≤ 1048000) (h1 : 1 ≤ k) (h8 : k ≤ 8) (w : World) (h : RowB w (some ad) n l) :
    Calls Tryd.prog 41 #[.slice (some ad) n c, .int .i64 x, .int .i64 k] w fun e w' => ∃ v, e = .returned v ∧ Owns w' w.heap.size v (l ++ putL (IntKind.u64.wrap x).toNat k) ∧ Below w.heap.size w w' := by
  obtain ⟨i0, hi, hz0, hz1, hz2⟩ := info_parts info_u8
  have HI := Lib.hid (And.intro hi (And.intro hz0 (And.intro hz1 hz2)))
  clear hi hz0 hz1 hz2
  have HB := Lib.hid ((Below.refl w.heap.size w).alloc (Nat.le_refl _) (.cells #[] 5))
  have HR := Lib.hid (row_news (h.below HB.out))
  have HL := Lib.hid h.1
  have HC1 := Lib.hid (show (l.map bv).length = n * 1 by rw [List.length_map, h.1, Nat.mul_one])
  have HC2 := Lib.hid (show 0 + n ≤ maxLen by unfold maxLen; omega)
  have HC3 := Lib.hid (show (0 + n) * 1 ≤ 140737488355328 by omega)
  have HC4 := Lib.hid (show w.heap.size ≤ (w.alloc (.cells #[] 5)).heap.size by simp)
  have hu0 : 0 ≤ IntKind.u64.wrap x := wrap_u64_nonneg x
  obtain ⟨U, hU⟩ := Int.eq_ofNat_of_zero_le hu0
  have hUl : U < 18446744073709551616 := by
    rw [IntKind.wrap_u64] at hU
    omega
  have hwr : ∀ i, IntKind.u64.wrap ((U / 256 ^ i : Nat) : Int) = ((U / 256 ^ i : Nat) : Int) := by
    intro i
    have := Nat.div_le_self U (256 ^ i)
    rw [IntKind.wrap_u64]
    generalize U / 256 ^ i = q at *
    omega
  have HWR := Lib.hid hwr
  rw [hU, Int.toNat_natCast]
  clear h hu0 hwr hUl
  go_enter Tryd.func41, Tryd.ntmps41
  go_wp2_with (at_builtin; refine wpList_append_own (w.alloc (.cells #[] 5)) rfl _ _ _ rfl w.heap.size 5 i0 (.int .u8 0) 1 1 Tryd.underlying41 HI.out.1 HI.out.2.1 HI.out.2.2.1 HI.out.2.2.2 rfl (by decide) _ 0 [] rfl (World.ownsRow_made w #[] 0 (Nat.le_refl _) (Nat.zero_le _) (by simp)) ad n c (l.map bv) rfl HC1.out HR.out (bytes_one l) HC2.out HC3.out HC4.out ?_)
  intro vo w1 o1 b1 _
  have B1 := HB.out.grown b1 (by simp) (fun k hk => by simp [Value.ownBlock] at hk; omega)
  have hout : Owns w1 w.heap.size vo l := by
    unfold Owns
    rw [HL.out]
    simpa using o1
  have HOut := Lib.hid hout
  have HB1 := Lib.hid B1
  clear o1 b1 HR HC1 HC2 HC3 HC4 HB hout B1
  go_wp2
  go_loopw [8, 9, 23] (fun u v i wr => ∃ j : Nat, j ≤ k ∧ i = .int .i64 j ∧ u = .int .u64 ((U / 256 ^ j : Nat) : Int) ∧ Owns wr w1.heap.size v (putL U j) ∧ Below w1.heap.size w1 wr) (fun _ _ i _ => k - (intOf i).toNat)
  case atStart => exact ⟨0, Nat.zero_le _, rfl, by simp, World.ownsRow_nil _ _ _ _, Below.refl _ _⟩
  case round =>
    obtain ⟨j, hj, rfl, rfl, ho, hb⟩ := hrel
    by_cases hlt : j < k
    · have hnx := Lib.hid (putL_cons U j)
      have hdv := Lib.hid (show (((U / 256 ^ j : Nat) : Int) / 256) = ((U / 256 ^ (j + 1) : Nat) : Int) by rw [Nat.pow_succ, ← Nat.div_div_eq_div_mul]; omega)
      have hbv := Lib.hid (byte_val (U / 256 ^ j))
      have hwb := hb.size
      have hown := Lib.hid ho
      generalize U / 256 ^ j = m at *
      rcases ho.2 with ⟨rfl, h0⟩ | ⟨g, c0, cur, rfl, hg, hh, _⟩
      · obtain rfl : j = 0 := nil_len (U := U) (by rw [h0])
        have hO := Lib.hid (owns_built wr w1.heap.size hb.size (UInt8.ofNat (m % 256)))
        rw [hbv.out] at hO
        clear ho h0 hown
        go_wp2_with (at_builtin; (refine wpList_append_own_none rfl _ _ _ rfl w1.heap.size 5 i0 1 Tryd.underlying41 HI.out.1 _ 1 _ rfl hO.out rfl ?_))
        go_wp2
        go_roundw
        case rel => exact ⟨1, by omega, rfl, by rw [hdv.out, HWR.out], by rw [hnx.out]; exact hO.out, hb.alloc hb.size _⟩
        case measure => simp [intOf]; omega
      · have hO := Lib.hid (owns_built wr w1.heap.size hb.size (UInt8.ofNat (m % 256)))
        rw [hbv.out] at hO
        have e1 : (putL U j).length = j := putL_len U j
        rw [e1] at ho hown
        have hnw := Lib.hid (fun (x : Value) => (hown.out.below ((Below.refl wr.heap.size wr).alloc (Nat.le_refl _) (.cells #[x] 5))).news)
        have hk1 := Lib.hid (show ((putL U j).map bv).length = j * 1 by rw [List.length_map, e1, Nat.mul_one])
        have hk2 := Lib.hid (show 1 + j ≤ maxLen by unfold maxLen; omega)
        have hk3 := Lib.hid (show (1 + j) * 1 ≤ 140737488355328 by omega)
        have hk4 := Lib.hid (fun (x : Value) => show w1.heap.size ≤ (wr.alloc (.cells #[x] 5)).heap.size by simp; omega)
        rw [e1]
        clear ho hown hh e1
        go_wp2_with (at_builtin; (refine wpList_append_own (wr.alloc (.cells #[.int .u8 ((m : Int) % 256)] 5)) rfl _ _ _ rfl w1.heap.size 5 i0 (.int .u8 0) 1 1 Tryd.underlying41 HI.out.1 HI.out.2.1 HI.out.2.2.1 HI.out.2.2.2 rfl (by decide) _ 1 _ rfl hO.out ⟨g, 0, none⟩ j c0 ((putL U j).map bv) rfl hk1.out (hnw.out _) (bytes_one _) hk2.out hk3.out (hk4.out _) ?_))
        intro v2 w2 o2 b2 _
        go_wp2
        go_roundw
        case rel =>
          refine ⟨j + 1, by omega, by go_num, by rw [hdv.out, HWR.out], ?_, (hb.alloc hb.size _).grown b2 (by simp; omega) (fun q hq => by simp [Value.ownBlock] at hq; omega)⟩
          rw [hnx.out]
          unfold Owns
          rw [List.length_cons, putL_len, Nat.add_comm j 1, List.map_cons]
          exact o2
        case measure => simp [intOf]; omega
    · obtain rfl : j = k := by omega
      have hout := HOut.out.below (hb.mono (Nat.le_refl _))
      rcases ho.2 with ⟨rfl, h0⟩ | ⟨g, c0, cur, rfl, hg, hh, _⟩
      · exact absurd h0 (by rw [putL_len]; omega)
      · have e1 : (putL U j).length = j := putL_len U j
        have hown := Lib.hid ho
        rw [e1] at hown
        have hnw := Lib.hid hown.out.news
        have hO := Lib.hid hout
        have hk1 := Lib.hid (show ((putL U j).map bv).length = j * 1 by rw [List.length_map, e1, Nat.mul_one])
        have hk2 := Lib.hid (show l.length + j ≤ maxLen by rw [HL.out]; unfold maxLen; omega)
        have hk3 := Lib.hid (show (l.length + j) * 1 ≤ 140737488355328 by rw [HL.out]; omega)
        have hk4 := Lib.hid (show w.heap.size ≤ wr.heap.size from Nat.le_trans HB1.out.size hb.size)
        rw [e1]
        clear ho hh e1 hout
        go_wp2_with (at_builtin; (refine wpList_append_own wr rfl _ _ _ rfl w.heap.size 5 i0 (.int .u8 0) 1 1 Tryd.underlying41 HI.out.1 HI.out.2.1 HI.out.2.2.1 HI.out.2.2.2 rfl (by decide) _ l.length _ rfl hO.out ⟨g, 0, none⟩ j c0 ((putL U j).map bv) rfl hk1.out hnw.out (bytes_one _) hk2.out hk3.out hk4.out ?_))
        intro v2 w2 o2 b2 _
        go_wp2
        go_ret
        have hbw := HB1.out.trans (hb.mono HB1.out.size)
        refine ⟨v2, rfl, ?_, hbw.grown b2 hbw.size (fun q hq => (World.ownsRow.lt hO.out q hq).1)⟩
        unfold Owns
        rw [List.length_append, putL_len, List.map_append]
        exact o2
set_option maxRecDepth 100000 in
set_option maxHeartbeats 1000000 in
theorem rput_in_none (k : Nat) (x : Int) (h1 : 1 ≤ k) (h8 : k ≤ 8) (w : World) :
    Calls Tryd.prog 41 #[.slice none 0 0, .int .i64 x, .int .i64 k] w fun e w' => ∃ v, e = .returned v ∧ Owns w' w.heap.size v (putL (IntKind.u64.wrap x).toNat k) ∧ Below w.heap.size w w' := by
  obtain ⟨i0, hi, hz0, hz1, hz2⟩ := info_parts info_u8
  have HI := Lib.hid (And.intro hi (And.intro hz0 (And.intro hz1 hz2)))
  clear hi hz0 hz1 hz2
  have HO := Lib.hid (World.ownsRow_made (base := w.heap.size) (e := 5) (size := 1) w #[] 0 (Nat.le_refl _) (Nat.zero_le _) (by simp))
  have hu0 : 0 ≤ IntKind.u64.wrap x := wrap_u64_nonneg x
  obtain ⟨U, hU⟩ := Int.eq_ofNat_of_zero_le hu0
  have hUl : U < 18446744073709551616 := by
    rw [IntKind.wrap_u64] at hU
    omega
  have hwr : ∀ i, IntKind.u64.wrap ((U / 256 ^ i : Nat) : Int) = ((U / 256 ^ i : Nat) : Int) := by
    intro i
    have := Nat.div_le_self U (256 ^ i)
    rw [IntKind.wrap_u64]
    generalize U / 256 ^ i = q at *
    omega
  have HWR := Lib.hid hwr
  rw [hU, Int.toNat_natCast]
  clear hu0 hwr hUl
  go_enter Tryd.func41, Tryd.ntmps41
  obtain ⟨vo, hvo⟩ : ∃ vo : Value, vo = .slice (some ⟨w.heap.size, 0, none⟩) 0 0 := ⟨_, rfl⟩
  obtain ⟨w1, hw1⟩ : ∃ w1 : World, w1 = w.alloc (.cells #[] 5) := ⟨_, rfl⟩
  have HB1 := Lib.hid ((Below.refl w.heap.size w).alloc (Nat.le_refl _) (.cells #[] 5))
  have HOut := Lib.hid (show Owns w1 w.heap.size vo [] by rw [hvo, hw1]; exact HO.out)
  go_wp2_with (at_builtin; refine wpList_append_own_none rfl _ _ _ rfl w.heap.size 5 i0 1 Tryd.underlying41 HI.out.1 _ 0 [] rfl HO.out rfl ?_)
  rw [← hvo, ← hw1]
  rw [← hw1] at HB1
  clear HO hvo hw1
  go_wp2
  go_loopw [8, 9, 23] (fun u v i wr => ∃ j : Nat, j ≤ k ∧ i = .int .i64 j ∧ u = .int .u64 ((U / 256 ^ j : Nat) : Int) ∧ Owns wr w1.heap.size v (putL U j) ∧ Below w1.heap.size w1 wr) (fun _ _ i _ => k - (intOf i).toNat)
  case atStart => exact ⟨0, Nat.zero_le _, rfl, by simp, World.ownsRow_nil _ _ _ _, Below.refl _ _⟩
  case round =>
    obtain ⟨j, hj, rfl, rfl, ho, hb⟩ := hrel
    by_cases hlt : j < k
    · have hnx := Lib.hid (putL_cons U j)
      have hdv := Lib.hid (show (((U / 256 ^ j : Nat) : Int) / 256) = ((U / 256 ^ (j + 1) : Nat) : Int) by rw [Nat.pow_succ, ← Nat.div_div_eq_div_mul]; omega)
      have hbv := Lib.hid (byte_val (U / 256 ^ j))
      have hwb := hb.size
      have hown := Lib.hid ho
      generalize U / 256 ^ j = m at *
      rcases ho.2 with ⟨rfl, h0⟩ | ⟨g, c0, cur, rfl, hg, hh, _⟩
      · obtain rfl : j = 0 := nil_len (U := U) (by rw [h0])
        have hO := Lib.hid (owns_built wr w1.heap.size hb.size (UInt8.ofNat (m % 256)))
        rw [hbv.out] at hO
        clear ho h0 hown
        go_wp2_with (at_builtin; (refine wpList_append_own_none rfl _ _ _ rfl w1.heap.size 5 i0 1 Tryd.underlying41 HI.out.1 _ 1 _ rfl hO.out rfl ?_))
        go_wp2
        go_roundw
        case rel => exact ⟨1, by omega, rfl, by rw [hdv.out, HWR.out], by rw [hnx.out]; exact hO.out, hb.alloc hb.size _⟩
        case measure => simp [intOf]; omega
      · have hO := Lib.hid (owns_built wr w1.heap.size hb.size (UInt8.ofNat (m % 256)))
        rw [hbv.out] at hO
        have e1 : (putL U j).length = j := putL_len U j
        rw [e1] at ho hown
        have hnw := Lib.hid (fun (x : Value) => (hown.out.below ((Below.refl wr.heap.size wr).alloc (Nat.le_refl _) (.cells #[x] 5))).news)
        have hk1 := Lib.hid (show ((putL U j).map bv).length = j * 1 by rw [List.length_map, e1, Nat.mul_one])
        have hk2 := Lib.hid (show 1 + j ≤ maxLen by unfold maxLen; omega)
        have hk3 := Lib.hid (show (1 + j) * 1 ≤ 140737488355328 by omega)
        have hk4 := Lib.hid (fun (x : Value) => show w1.heap.size ≤ (wr.alloc (.cells #[x] 5)).heap.size by simp; omega)
        rw [e1]
        clear ho hown hh e1
        go_wp2_with (at_builtin; (refine wpList_append_own (wr.alloc (.cells #[.int .u8 ((m : Int) % 256)] 5)) rfl _ _ _ rfl w1.heap.size 5 i0 (.int .u8 0) 1 1 Tryd.underlying41 HI.out.1 HI.out.2.1 HI.out.2.2.1 HI.out.2.2.2 rfl (by decide) _ 1 _ rfl hO.out ⟨g, 0, none⟩ j c0 ((putL U j).map bv) rfl hk1.out (hnw.out _) (bytes_one _) hk2.out hk3.out (hk4.out _) ?_))
        intro v2 w2 o2 b2 _
        go_wp2
        go_roundw
        case rel =>
          refine ⟨j + 1, by omega, by go_num, by rw [hdv.out, HWR.out], ?_, (hb.alloc hb.size _).grown b2 (by simp; omega) (fun q hq => by simp [Value.ownBlock] at hq; omega)⟩
          rw [hnx.out]
          unfold Owns
          rw [List.length_cons, putL_len, Nat.add_comm j 1, List.map_cons]
          exact o2
        case measure => simp [intOf]; omega
    · obtain rfl : j = k := by omega
      have hout := HOut.out.below (hb.mono (Nat.le_refl _))
      rcases ho.2 with ⟨rfl, h0⟩ | ⟨g, c0, cur, rfl, hg, hh, _⟩
      · exact absurd h0 (by rw [putL_len]; omega)
      · have e1 : (putL U j).length = j := putL_len U j
        have hown := Lib.hid ho
        rw [e1] at hown
        have hnw := Lib.hid hown.out.news
        have hO := Lib.hid hout
        have hk1 := Lib.hid (show ((putL U j).map bv).length = j * 1 by rw [List.length_map, e1, Nat.mul_one])
        have hk2 := Lib.hid (show 0 + j ≤ maxLen by unfold maxLen; omega)
        have hk3 := Lib.hid (show (0 + j) * 1 ≤ 140737488355328 by omega)
        have hk4 := Lib.hid (show w.heap.size ≤ wr.heap.size from Nat.le_trans HB1.out.size hb.size)
        rw [e1]
        clear ho hh e1 hout
        go_wp2_with (at_builtin; (refine wpList_append_own wr rfl _ _ _ rfl w.heap.size 5 i0 (.int .u8 0) 1 1 Tryd.underlying41 HI.out.1 HI.out.2.1 HI.out.2.2.1 HI.out.2.2.2 rfl (by decide) _ 0 _ rfl hO.out ⟨g, 0, none⟩ j c0 ((putL U j).map bv) rfl hk1.out hnw.out (bytes_one _) hk2.out hk3.out hk4.out ?_))
        intro v2 w2 o2 b2 _
        go_wp2
        go_ret
        have hbw := HB1.out.trans (hb.mono HB1.out.size)
        refine ⟨v2, rfl, ?_, hbw.grown b2 hbw.size (fun q hq => (World.ownsRow.lt hO.out q hq).1)⟩
        unfold Owns
        rw [putL_len]
        simpa using o2
theorem rput_any (A : Option Addr) (n cap : Nat) (x k : Int) (l : List UInt8) (hn : n ≤ 1048000) (w : World) (h : RowB w A n l) (h0 : A = none → n = 0 ∧ cap = 0) :
    Calls Tryd.prog 41 #[.slice A n cap, .int .i64 x, .int .i64 k] w fun e w' => ∃ v, e = .returned v ∧ Owns w' w.heap.size v (if k < 1 ∨ 8 < k then l else l ++ putL (IntKind.u64.wrap x).toNat k.toNat) ∧ Below w.heap.size w w' := by
  cases A with
  | none =>
    obtain ⟨rfl, rfl⟩ := h0 rfl
    obtain rfl : l = [] := List.eq_nil_of_length_eq_zero h.1
    by_cases hk : k < 1 ∨ 8 < k
    · rw [if_pos hk]
      exact rput_out_none x k hk w
    · rw [if_neg hk]
      obtain ⟨m, rfl⟩ := Int.eq_ofNat_of_zero_le (show 0 ≤ k by omega)
      exact rput_in_none m x (by omega) (by omega) w
  | some ad =>
    by_cases hk : k < 1 ∨ 8 < k
    · rw [if_pos hk]
      exact rput_out_some ad n cap x k l hn hk w h
    · rw [if_neg hk]
      obtain ⟨m, rfl⟩ := Int.eq_ofNat_of_zero_le (show 0 ≤ k by omega)
      exact rput_in_some ad n cap m x l hn (by omega) (by omega) w h
theorem put_any (A : Option Addr) (n cap : Nat) (x k : Int) (l : List UInt8) (hn : n ≤ 1048000) (w : World) (h : RowB w A n l) (h0 : A = none → n = 0 ∧ cap = 0) :
    Calls Tryd.prog 34 #[.slice A n cap, .int .i64 x, .int .i64 k] w fun e w' => ∃ v, e = .returned v ∧ Owns w' w.heap.size v (if k < 1 ∨ 8 < k then l else l ++ putL (IntKind.u64.wrap x).toNat k.toNat) ∧ Below w.heap.size w w' := by
  by_cases hk : k < 1 ∨ 8 < k
  · rw [if_pos hk]
    exact put_out A n cap x k l hn hk w h h0
  · rw [if_neg hk]
    obtain ⟨m, rfl⟩ := Int.eq_ofNat_of_zero_le (show 0 ≤ k by omega)
    exact put_in A n cap m x l hn (by omega) (by omega) w h h0
end Go.Proofs.YtfjmcklmoebnaaaDoor.Oct
