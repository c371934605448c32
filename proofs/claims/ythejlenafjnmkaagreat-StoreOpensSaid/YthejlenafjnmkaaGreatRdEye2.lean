/- Numbers, texts, and how many are left, whatever is asked of the document's eye. -/
import Derived.Test.YthejlenafjnmkaaGreatRdEye
namespace Go.Proofs.YthejlenafjnmkaaGreat.Vc
open Go.RowKit Go.Proofs.YthejlenafjnmkaaGreat.Oct

set_option maxRecDepth 100000 in
set_option maxHeartbeats 4000000 in
theorem rnum8 (x a k : Nat) (B : ByteArray) (hB : B.size ≤ 8192) (h1 : 1 ≤ k) (h8 : k ≤ 8) (hn : a + k ≤ B.size) (w : World) (h : Rye w x B a false 0) (V : Nat) (hV : V = numL ((B.data.toList.drop a).take k)) :
    Calls Tryz.prog 88 #[.pointer (some ⟨x, 0, none⟩), .int .i64 k] w fun e w' =>
      if V < 9223372036854775808 then e = .returned (.int .i64 (V : Nat)) ∧ Rye w' x B (a + k) false 0 ∧ Chg (· = x) w w'
      else e = .returned (.int .i64 0) ∧ Rye w' x B (a + k) true 201 ∧ Chg (· = x) w w' := by
  have HRW := Lib.hid (rraw_ok x a k B hB hn w h)
  obtain ⟨c0, c1, c2⟩ := Rye.cells h
  have hz : (B.extract a (a + k)).size = k := by simp; omega
  have hR : (B.extract a (a + k)).data.toList = (B.data.toList.drop a).take k := by
    rw [ByteArray.data_extract]
    simp only [Array.toList_extract, List.extract, Nat.add_sub_cancel_left]
  have hV8 : V < 18446744073709551616 := by rw [hV]; exact num8_lt _ k h8
  rw [← hR] at hV
  generalize B.extract a (a + k) = R at *
  have HV := Lib.hid hV
  have HZ := Lib.hid hz
  have hz8 : R.size ≤ 8 := by omega
  clear hn h hR hz hV
  by_cases hb : V < 9223372036854775808
  · simp only [if_pos hb]
    go_enter Tryz.func88, Tryz.ntmps88
    go_wp2_with fail
    refine HRW.out.mono ?_
    rintro e w1 ⟨rfl, h2, hc⟩
    clear c0 c1 c2 HRW
    go_wp2
    go_loop [6, 25] (fun m i => ∃ j : Nat, j ≤ R.size ∧ i = .int .i64 j ∧ m = .int .u64 (numL (R.data.toList.take j) : Nat)) (fun _ i => R.size - (intOf i).toNat)
    case atStart => exact ⟨0, Nat.zero_le _, rfl, rfl⟩
    case round =>
      obtain ⟨j, hj, rfl, rfl⟩ := hrel
      by_cases hj2 : j < R.size
      · have hlt := numR8 (Nat.le_refl R.size) hz8 hj2
        have hsn : numL (R.data.toList.take (j + 1)) = numL (R.data.toList.take j) * 256 + (R[j]).toNat := by
          rw [List.take_succ_eq_append_getElem (by rw [Array.length_toList]; exact hj2), numL_snoc]
          rfl
        have HS := Lib.hid hsn
        clear hsn
        generalize numL (R.data.toList.take j) = m at *
        have hb2 := (R[j]).toNat_lt
        generalize hbb : (R[j]).toNat = b at *
        have hw : IntKind.u64.wrap (b : Int) = b := by rw [IntKind.wrap_u64]; omega
        have hw2 : IntKind.u64.wrap ((m : Int) * 256) = (m : Int) * 256 := by rw [IntKind.wrap_u64]; omega
        have hw3 : IntKind.u64.wrap ((m : Int) * 256 + b) = (m : Int) * 256 + b := by rw [IntKind.wrap_u64]; omega
        go_wp2
        go_round
        case rel => exact ⟨j + 1, by omega, by go_num, by rw [HS.out]; go_num⟩
        case measure => simp [intOf]; omega
      · obtain rfl : j = R.size := by omega
        have hfull : R.data.toList.take R.size = R.data.toList := List.take_of_length_le (by rw [Array.length_toList]; exact Nat.le_refl _)
        rw [hfull, ← HV.out]
        have w9 : IntKind.i64.wrap (V : Int) = V := by rw [IntKind.wrap_i64]; omega
        have d9 : decide ((9223372036854775808 : Int) ≤ V) = false := decide_eq_false (by omega)
        go_wp2
        go_ret
        exact ⟨rfl, h2, hc⟩
  · simp only [if_neg hb]
    go_enter Tryz.func88, Tryz.ntmps88
    go_wp2_with fail
    refine HRW.out.mono ?_
    rintro e w1 ⟨rfl, h2, hc⟩
    clear c0 c1 c2 HRW
    go_wp2
    go_loop [6, 25] (fun m i => ∃ j : Nat, j ≤ R.size ∧ i = .int .i64 j ∧ m = .int .u64 (numL (R.data.toList.take j) : Nat)) (fun _ i => R.size - (intOf i).toNat)
    case atStart => exact ⟨0, Nat.zero_le _, rfl, rfl⟩
    case round =>
      obtain ⟨j, hj, rfl, rfl⟩ := hrel
      by_cases hj2 : j < R.size
      · have hlt := numR8 (Nat.le_refl R.size) hz8 hj2
        have hsn : numL (R.data.toList.take (j + 1)) = numL (R.data.toList.take j) * 256 + (R[j]).toNat := by
          rw [List.take_succ_eq_append_getElem (by rw [Array.length_toList]; exact hj2), numL_snoc]
          rfl
        have HS := Lib.hid hsn
        clear hsn
        generalize numL (R.data.toList.take j) = m at *
        have hb2 := (R[j]).toNat_lt
        generalize hbb : (R[j]).toNat = b at *
        have hw : IntKind.u64.wrap (b : Int) = b := by rw [IntKind.wrap_u64]; omega
        have hw2 : IntKind.u64.wrap ((m : Int) * 256) = (m : Int) * 256 := by rw [IntKind.wrap_u64]; omega
        have hw3 : IntKind.u64.wrap ((m : Int) * 256 + b) = (m : Int) * 256 + b := by rw [IntKind.wrap_u64]; omega
        go_wp2
        go_round
        case rel => exact ⟨j + 1, by omega, by go_num, by rw [HS.out]; go_num⟩
        case measure => simp [intOf]; omega
      · obtain rfl : j = R.size := by omega
        have hfull : R.data.toList.take R.size = R.data.toList := List.take_of_length_le (by rw [Array.length_toList]; exact Nat.le_refl _)
        rw [hfull, ← HV.out]
        have d9 : decide ((9223372036854775808 : Int) ≤ V) = true := decide_eq_true (by omega)
        have HF := Lib.hid (rfail_any x B (a + k) 201 _ h2)
        go_wp2_with fail
        refine HF.out.mono ?_
        rintro e w3 ⟨rfl, h3, hc3⟩
        go_wp2
        go_ret
        exact ⟨rfl, h3, hc.trans hc3⟩
theorem rnum_width (x a : Nat) (k : Int) (B : ByteArray) (hk : k < 1 ∨ 8 < k) (w : World) (h : Rye w x B a false 0) :
    Calls Tryz.prog 88 #[.pointer (some ⟨x, 0, none⟩), .int .i64 k] w fun e w' => e = .returned (.int .i64 0) ∧ Rye w' x B a true 22 ∧ Chg (· = x) w w' := by
  have HF := Lib.hid (rfail_any x B a 22 _ h)
  obtain ⟨c0, c1, c2⟩ := Rye.cells h
  by_cases h1 : k < 1
  · clear hk
    go_enter Tryz.func88, Tryz.ntmps88
    go_wp2_with fail
    refine HF.out.mono ?_
    rintro e w3 ⟨rfl, h3, hc3⟩
    go_wp2
    go_ret
    exact ⟨rfl, h3, hc3⟩
  · have h2 : 8 < k := hk.resolve_left h1
    clear hk
    go_enter Tryz.func88, Tryz.ntmps88
    go_wp2_with fail
    refine HF.out.mono ?_
    rintro e w3 ⟨rfl, h3, hc3⟩
    go_wp2
    go_ret
    exact ⟨rfl, h3, hc3⟩
theorem rnum_got (x a : Nat) (k : Int) (B : ByteArray) (hB : B.size ≤ 8192) (ha : a ≤ B.size) (w : World) (h : Rye w x B a false 0) :
    Calls Tryz.prog 88 #[.pointer (some ⟨x, 0, none⟩), .int .i64 k] w (RDid (.int .i64 0) (gotNum (B.extract a B.size) k) x B w) := by
  have hz := ext_size B a ha
  unfold gotNum
  by_cases hk : 1 ≤ k ∧ k ≤ 8
  · rw [if_pos hk]
    obtain ⟨m, rfl⟩ := Int.eq_ofNat_of_zero_le (show 0 ≤ k by omega)
    rw [show (m : Int).toNat = m from rfl]
    by_cases hr : (m : Int) ≤ (B.extract a B.size).size
    · rw [if_pos hr]
      have hm : a + m ≤ B.size := by rw [hz] at hr; omega
      have h2 := rnum8 x a m B hB (by omega) (by omega) hm w h _ rfl
      rw [ext_list]
      by_cases hv : numL ((B.data.toList.drop a).take m) < 9223372036854775808
      · simp only [if_pos hv] at h2 ⊢
        refine h2.mono ?_
        rintro e w' ⟨rfl, h3, hc⟩
        exact ⟨a + m, rfl, hm, by rw [ext_ext B a m ha], h3, hc⟩
      · simp only [if_neg hv] at h2 ⊢
        refine h2.mono ?_
        rintro e w' ⟨rfl, h3, hc⟩
        exact ⟨a + m, rfl, h3, hc⟩
    · rw [if_neg hr]
      refine (rnum_short x a m B hB (by omega) (by omega) ha (by rw [hz] at hr; omega) w h).mono ?_
      rintro e w' ⟨rfl, h3, hc⟩
      exact ⟨a, rfl, h3, hc⟩
  · rw [if_neg hk]
    refine (rnum_width x a k B (by omega) w h).mono ?_
    rintro e w' ⟨rfl, h3, hc⟩
    exact ⟨a, rfl, h3, hc⟩
set_option maxHeartbeats 1000000 in
theorem rtext_short (x a : Nat) (most : Int) (B : ByteArray) (hB : B.size ≤ 8192) (ha : a ≤ B.size) (hn : B.size < a + 2) (w : World) (h : Rye w x B a false 0) :
    Calls Tryz.prog 89 #[.pointer (some ⟨x, 0, none⟩), .int .i64 most] w fun e w' => e = .returned (.string ⟨#[]⟩) ∧ Rye w' x B a true 201 ∧ Chg (· = x) w w' := by
  have HN := Lib.hid (rnum_short x a 2 B hB (by omega) (by omega) ha hn w h)
  clear h hn
  by_cases hm : 0 ≤ most
  · have dm : ¬ most < 0 := by omega
    go_enter Tryz.func89, Tryz.ntmps89
    go_wp2_with fail
    refine HN.out.mono ?_
    rintro e w1 ⟨rfl, h1, hc1⟩
    have HRW := Lib.hid (rraw_done x a 0 B 201 w1 h1)
    go_wp2_with fail
    refine HRW.out.mono ?_
    rintro e w2 ⟨rfl, rfl⟩
    go_wp2
    go_ret
    exact ⟨rfl, h1, hc1⟩
  · have dm : most < 0 := by omega
    go_enter Tryz.func89, Tryz.ntmps89
    go_wp2_with fail
    refine HN.out.mono ?_
    rintro e w1 ⟨rfl, h1, hc1⟩
    have HF := Lib.hid (rfail_done x B a 201 203 w1 h1)
    have HRW := Lib.hid (rraw_done x a 0 B 201 w1 h1)
    go_wp2_with fail
    refine HF.out.mono ?_
    rintro e w2 ⟨rfl, rfl⟩
    go_wp2_with fail
    refine HRW.out.mono ?_
    rintro e w2 ⟨rfl, rfl⟩
    go_wp2
    go_ret
    exact ⟨rfl, h1, hc1⟩
set_option maxHeartbeats 1000000 in
theorem rtext_long (x a : Nat) (most : Int) (B : ByteArray) (hB : B.size ≤ 8192) (hn : a + 2 ≤ B.size) (V : Nat) (hV : V = numL ((B.data.toList.drop a).take 2)) (hm : most < (V : Int)) (w : World) (h : Rye w x B a false 0) :
    Calls Tryz.prog 89 #[.pointer (some ⟨x, 0, none⟩), .int .i64 most] w fun e w' => e = .returned (.string ⟨#[]⟩) ∧ Rye w' x B (a + 2) true 203 ∧ Chg (· = x) w w' := by
  have h2 := rnum_ok x a 2 B hB (by omega) (by omega) hn w h
  rw [← hV] at h2
  have HN := Lib.hid h2
  clear h hn h2 hV
  go_enter Tryz.func89, Tryz.ntmps89
  go_wp2_with fail
  refine HN.out.mono ?_
  rintro e w1 ⟨rfl, h1, hc1⟩
  have HF := Lib.hid (rfail_any x B (a + 2) 203 w1 h1)
  go_wp2_with fail
  refine HF.out.mono ?_
  rintro e w2 ⟨rfl, h2, hc2⟩
  have HRW := Lib.hid (rraw_done x (a + 2) V B 203 w2 h2)
  go_wp2_with fail
  refine HRW.out.mono ?_
  rintro e w3 ⟨rfl, rfl⟩
  go_wp2
  go_ret
  exact ⟨rfl, h2, hc1.trans hc2⟩
set_option maxHeartbeats 1000000 in
theorem rtext_in (x a : Nat) (most : Int) (B : ByteArray) (hB : B.size ≤ 8192) (hn : a + 2 ≤ B.size) (V : Nat) (hV : V = numL ((B.data.toList.drop a).take 2)) (hm : (V : Int) ≤ most) (w : World) (h : Rye w x B a false 0) :
    Calls Tryz.prog 89 #[.pointer (some ⟨x, 0, none⟩), .int .i64 most] w (RDid (.string ⟨#[]⟩) (gotRaw (B.extract (a + 2) B.size) V) x B w) := by
  have h2 := rnum_ok x a 2 B hB (by omega) (by omega) hn w h
  rw [← hV] at h2
  have HN := Lib.hid h2
  have HG := Lib.hid (fun W h => rraw_got x (a + 2) (V : Int) B hB hn W h)
  have dm : ¬ most < (V : Int) := by omega
  clear h hn h2 hV
  go_enter Tryz.func89, Tryz.ntmps89
  go_wp2_with fail
  refine HN.out.mono ?_
  rintro e w1 ⟨rfl, h1, hc1⟩
  have HC1 := Lib.hid hc1
  have HG1 := Lib.hid (HG.out _ h1)
  clear h1 hc1 HG
  go_wp2_with fail
  refine HG1.out.mono ?_
  intro e w2 hd
  cases hg : gotRaw (B.extract (a + 2) B.size) V with
  | num v r =>
    unfold gotRaw at hg
    split at hg <;> cases hg
  | txt t r =>
    rw [hg] at hd
    obtain ⟨a2, rfl, ha2, hr2, h2, hc2⟩ := hd
    go_wp2
    go_ret
    unfold RDid
    simp only [hg]
    exact ⟨a2, rfl, ha2, hr2, h2, HC1.out.trans hc2⟩
  | bad r y =>
    rw [hg] at hd
    obtain ⟨a2, rfl, h2, hc2⟩ := hd
    go_wp2
    go_ret
    unfold RDid
    simp only [hg]
    exact ⟨a2, rfl, h2, HC1.out.trans hc2⟩
theorem rtext_got (x a : Nat) (most : Int) (B : ByteArray) (hB : B.size ≤ 8192) (ha : a ≤ B.size) (w : World) (h : Rye w x B a false 0) :
    Calls Tryz.prog 89 #[.pointer (some ⟨x, 0, none⟩), .int .i64 most] w (RDid (.string ⟨#[]⟩) (gotText (B.extract a B.size) most) x B w) := by
  have hz := ext_size B a ha
  unfold gotText
  by_cases h2 : 2 ≤ (B.extract a B.size).size
  · have hn : a + 2 ≤ B.size := by rw [hz] at h2; omega
    rw [if_pos h2, ext_list]
    by_cases hm : ((numL ((B.data.toList.drop a).take 2) : Nat) : Int) ≤ most
    · rw [if_pos hm]
      have h3 := rtext_in x a most B hB hn _ rfl hm w h
      generalize numL ((B.data.toList.drop a).take 2) = V at *
      rw [ext_ext B a 2 ha]
      unfold gotRaw at h3
      rw [ext_size B (a + 2) hn] at h3 ⊢
      by_cases hc : 2 + V ≤ (B.extract a B.size).size
      · rw [if_pos hc]
        rw [if_pos (by rw [hz] at hc; omega)] at h3
        exact h3
      · rw [if_neg hc]
        rw [if_neg (by rw [hz] at hc; omega)] at h3
        exact h3
    · rw [if_neg hm]
      refine (rtext_long x a most B hB hn _ rfl (by omega) w h).mono ?_
      rintro e w' ⟨rfl, h3, hc⟩
      exact ⟨a + 2, rfl, h3, hc⟩
  · rw [if_neg h2]
    refine (rtext_short x a most B hB ha (by rw [hz] at h2; omega) w h).mono ?_
    rintro e w' ⟨rfl, h3, hc⟩
    exact ⟨a, rfl, h3, hc⟩
end Go.Proofs.YthejlenafjnmkaaGreat.Vc
