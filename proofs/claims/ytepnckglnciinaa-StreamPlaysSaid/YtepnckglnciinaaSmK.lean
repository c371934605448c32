/- A stage: New, Has, Whole; stages that no call made. -/
import Derived.Test.YtepnckglnciinaaSmJ
namespace Go.Proofs.Ytepnckglnciinaa.Sm
open Go.RowKit Go.Proofs.Ytepnckglnciinaa.Mem
set_option linter.unusedVariables false

theorem len_map (q : Nat) (es : Array MapEntry) (clock : Nat) (w : World) (ty : TypeId) (h : w.heap[q]? = some (.map es clock)) : (Builtin.len_ #[57] ty #[.map (some q)]).run Try.prog w = .ok (.int .i64 (es.size : Nat)) w :=
  run_len_map w 57 ty q es clock (by kernel_rfl) h
theorem new_bad (T : Int) (h : T < 1 ∨ 4096 < T) (w : World) : Calls Try.prog 18 #[.int .i64 T] w fun e w' => e = .returned (.tuple #[.pointer none, .int .i64 22]) ∧ w = w' := by
  by_cases h1 : T < 1
  · clear h
    go_enter Try.func18, Try.ntmps18
    go_wp2
    exact bodyPost_ret (v := .tuple #[.pointer none, .int .i64 22]) (by simp [results, Try.results18, go_sem]) rfl ⟨rfl, rfl⟩
  · have h2 : 4096 < T := by omega
    clear h
    go_enter Try.func18, Try.ntmps18
    go_wp2
    exact bodyPost_ret (v := .tuple #[.pointer none, .int .i64 22]) (by simp [results, Try.results18, go_sem]) rfl ⟨rfl, rfl⟩
theorem new_good (T : Nat) (h1 : 1 ≤ T) (h2 : T ≤ 4096) (w : World) : Calls Try.prog 18 #[.int .i64 T] w fun e w' => e = .returned (.tuple #[.pointer (some ⟨w.heap.size + 1, 0, none⟩), .int .i64 0]) ∧ StageIs w' (w.heap.size + 1) w.heap.size T (fun _ => none) ∧ Below w.heap.size w w' ∧ w'.heap.size = w.heap.size + 2 := by
  have hmm := @run_makeMap Try.prog
  have t1 : ¬ (T : Int) < 1 := by omega
  have t2 : ¬ 4096 < (T : Int) := by omega
  have hN := Lib.hid (And.intro h1 h2)
  clear h1 h2
  go_enter Try.func18, Try.ntmps18
  go_wp2
  refine bodyPost_ret (v := .tuple #[.pointer (some ⟨w.heap.size + 1, 0, none⟩), .int .i64 0]) (by simp [results, Try.results18, go_sem]) rfl ?_
  refine ⟨rfl, ⟨?_, ?_, fun z hz => (by cases hz), hN.out⟩, ?_, by simp⟩
  · have h := Has.fresh (w.alloc (.map #[] 0)) 59 #[.int .i64 (T : Int), .map (some w.heap.size)]
    rw [World.size_alloc] at h
    exact h
  · exact (IMap.made w).below ((Below.refl _ _).alloc (Nat.le_refl _) _)
  · exact ((Below.refl _ w).alloc (Nat.le_refl _) _).alloc (by simp) _
set_option maxRecDepth 100000 in
theorem hasn_live (g q T : Nat) (m : Int → Option ByteArray) (w : World) (h : StageIs w g q T m) : Calls Try.prog 22 #[.pointer (some ⟨g, 0, none⟩)] w fun e w' => e = .returned (.tuple #[.int .i64 (cntM T m : Nat), .int .i64 T]) ∧ Below w.heap.size w w' := by
  have HM := Lib.hid (made_live g q T m w h)
  obtain ⟨es, clock, hes, hn⟩ := IMap.len h.map h.dom
  have c0 := h.obj.at_ 0
  have c1 := h.obj.at_ 1
  simp at c0 c1
  clear h
  go_enter Try.func22, Try.ntmps22
  go_wp2_with fail
  with_reducible refine HM.out.mono ?_
  rintro e w' ⟨rfl, rfl⟩
  go_wp2
  refine wp_region_held_drew (S := fun w' => w'.cell? ⟨g, 0, none⟩ = some (.int .i64 (T : Int)) ∧ w'.cell? ⟨g, 1, none⟩ = some (.map (some q)) ∧ w'.heap[q]? = some (.map es clock)) (by kernel_rfl) ⟨c0, c1, hes⟩ (fun hHeld => ?_)
  refine Vc.wpAnyH_read (i := 0) (d := some 7) (v := ?va0) (by rfl) (by rfl) (by kernel_rfl) (by kernel_rfl) (by kernel_rfl) (fun _ _ _ h => h) (by rfl) ?hya0 (by assumption) ?resta0
  case hya0 =>
    intro w hSw
    obtain ⟨hS1, hS2, hS3⟩ := hSw
    have hlen := fun ty => len_map q es clock w ty hS3
    go_simp
    try with_reducible rfl
  (try simp only [Act.put, List.setIfInBounds_toArray, List.set_cons_zero, List.set_cons_succ])
  refine Vc.wpAnyH_read (i := 1) (d := some 8) (v := ?va1) (by rfl) (by rfl) (by kernel_rfl) (by kernel_rfl) (by kernel_rfl) (fun _ _ _ h => h) (by rfl) ?hya1 (by assumption) ?resta1
  case hya1 =>
    intro w hSw
    obtain ⟨hS1, hS2, hS3⟩ := hSw
    have hlen := fun ty => len_map q es clock w ty hS3
    go_simp
    try with_reducible rfl
  (try simp only [Act.put, List.setIfInBounds_toArray, List.set_cons_zero, List.set_cons_succ])
  refine Vc.wpAnyH_read (i := 2) (d := some 9) (v := ?va2) (by rfl) (by rfl) (by kernel_rfl) (by kernel_rfl) (by kernel_rfl) (fun _ _ _ h => h) (by rfl) ?hya2 (by assumption) ?resta2
  case hya2 =>
    intro w hSw
    obtain ⟨hS1, hS2, hS3⟩ := hSw
    have hlen := fun ty => len_map q es clock w ty hS3
    go_simp
    try with_reducible rfl
  (try simp only [Act.put, List.setIfInBounds_toArray, List.set_cons_zero, List.set_cons_succ])
  refine Vc.wpAnyH_read (i := 3) (d := some 10) (v := ?va3) (by rfl) (by rfl) (by kernel_rfl) (by kernel_rfl) (by kernel_rfl) (fun _ _ _ h => h) (by rfl) ?hya3 (by assumption) ?resta3
  case hya3 =>
    intro w hSw
    obtain ⟨hS1, hS2, hS3⟩ := hSw
    have hlen := fun ty => len_map q es clock w ty hS3
    go_simp
    try with_reducible rfl
  (try simp only [Act.put, List.setIfInBounds_toArray, List.set_cons_zero, List.set_cons_succ])
  refine Vc.wpAnyH_read (i := 4) (d := some 11) (v := ?va4) (by rfl) (by rfl) (by kernel_rfl) (by kernel_rfl) (by kernel_rfl) (fun _ _ _ h => h) (by rfl) ?hya4 (by assumption) ?resta4
  case hya4 =>
    intro w hSw
    obtain ⟨hS1, hS2, hS3⟩ := hSw
    have hlen := fun ty => len_map q es clock w ty hS3
    go_simp
    try with_reducible rfl
  (try simp only [Act.put, List.setIfInBounds_toArray, List.set_cons_zero, List.set_cons_succ])
  refine Vc.wpAnyH_read (i := 5) (d := some 12) (v := ?va5) (by rfl) (by rfl) (by kernel_rfl) (by kernel_rfl) (by kernel_rfl) (fun _ _ _ h => h) (by rfl) ?hya5 (by assumption) ?resta5
  case hya5 =>
    intro w hSw
    obtain ⟨hS1, hS2, hS3⟩ := hSw
    have hlen := fun ty => len_map q es clock w ty hS3
    go_simp
    try with_reducible rfl
  (try simp only [Act.put, List.setIfInBounds_toArray, List.set_cons_zero, List.set_cons_succ])
  refine Vc.wpAnyH_read (i := 6) (d := some 13) (v := ?va6) (by rfl) (by rfl) (by kernel_rfl) (by kernel_rfl) (by kernel_rfl) (fun _ _ _ h => h) (by rfl) ?hya6 (by assumption) ?resta6
  case hya6 =>
    intro w hSw
    obtain ⟨hS1, hS2, hS3⟩ := hSw
    have hlen := fun ty => len_map q es clock w ty hS3
    go_simp
    try with_reducible rfl
  (try simp only [Act.put, List.setIfInBounds_toArray, List.set_cons_zero, List.set_cons_succ])
  refine Vc.wpAnyH_read (i := 7) (d := some 14) (v := ?va7) (by rfl) (by rfl) (by kernel_rfl) (by kernel_rfl) (by kernel_rfl) (fun _ _ _ h => h) (by rfl) ?hya7 (by assumption) ?resta7
  case hya7 =>
    intro w hSw
    obtain ⟨hS1, hS2, hS3⟩ := hSw
    have hlen := fun ty => len_map q es clock w ty hS3
    go_simp
    try with_reducible rfl
  (try simp only [Act.put, List.setIfInBounds_toArray, List.set_cons_zero, List.set_cons_succ])
  refine Vc.wpAnyH_read (i := 8) (d := some 15) (v := ?va8) (by rfl) (by rfl) (by kernel_rfl) (by kernel_rfl) (by kernel_rfl) (fun _ _ _ h => h) (by rfl) ?hya8 (by assumption) ?resta8
  case hya8 =>
    intro w hSw
    obtain ⟨hS1, hS2, hS3⟩ := hSw
    have hlen := fun ty => len_map q es clock w ty hS3
    go_simp
    try with_reducible rfl
  (try simp only [Act.put, List.setIfInBounds_toArray, List.set_cons_zero, List.set_cons_succ])
  refine Vc.wpAnyH_read (i := 9) (d := some 2) (v := ?va9) (by rfl) (by rfl) (by kernel_rfl) (by kernel_rfl) (by kernel_rfl) (fun _ _ _ h => h) (by rfl) ?hya9 (by assumption) ?resta9
  case hya9 =>
    intro w hSw
    obtain ⟨hS1, hS2, hS3⟩ := hSw
    have hlen := fun ty => len_map q es clock w ty hS3
    go_simp
    try with_reducible rfl
  (try simp only [Act.put, List.setIfInBounds_toArray, List.set_cons_zero, List.set_cons_succ])
  refine Vc.wpAnyH_read (i := 10) (d := some 3) (v := ?va10) (by rfl) (by rfl) (by kernel_rfl) (by kernel_rfl) (by kernel_rfl) (fun _ _ _ h => h) (by rfl) ?hya10 (by assumption) ?resta10
  case hya10 =>
    intro w hSw
    obtain ⟨hS1, hS2, hS3⟩ := hSw
    have hlen := fun ty => len_map q es clock w ty hS3
    go_simp
    try with_reducible rfl
  (try simp only [Act.put, List.setIfInBounds_toArray, List.set_cons_zero, List.set_cons_succ])
  refine wpAnyH_done (by kernel_rfl) ?_ _
  go_wp2
  exact bodyPost_ret (v := .tuple #[.int .i64 (cntM T m : Nat), .int .i64 T]) (by simp [results, Try.results22, go_sem]) rfl ⟨rfl, (Below.refl _ _).drew⟩
set_option maxRecDepth 100000 in
theorem add_dead (p : Option Addr) (i : Int) (s : ByteArray) (w : World) (h : DeadS w p) : Calls Try.prog 20 #[.pointer p, .int .i64 i, .string s] w fun e w' => e = .returned (.tuple #[.bool false, .int .i64 200]) ∧ w = w' := by
  have HM := Lib.hid (made_dead p w h)
  clear h
  go_enter Try.func20, Try.ntmps20
  go_wp2_with fail
  with_reducible refine HM.out.mono ?_
  rintro e w' ⟨rfl, rfl⟩
  go_wp2
  exact bodyPost_ret (v := .tuple #[.bool false, .int .i64 200]) (by simp [results, Try.results20, go_sem]) rfl ⟨rfl, rfl⟩
set_option maxRecDepth 100000 in
theorem hasn_dead (p : Option Addr) (w : World) (h : DeadS w p) : Calls Try.prog 22 #[.pointer p] w fun e w' => e = .returned (.tuple #[.int .i64 0, .int .i64 0]) ∧ w = w' := by
  have HM := Lib.hid (made_dead p w h)
  clear h
  go_enter Try.func22, Try.ntmps22
  go_wp2_with fail
  with_reducible refine HM.out.mono ?_
  rintro e w' ⟨rfl, rfl⟩
  go_wp2
  exact bodyPost_ret (v := .tuple #[.int .i64 0, .int .i64 0]) (by simp [results, Try.results22, go_sem]) rfl ⟨rfl, rfl⟩
set_option maxRecDepth 100000 in
theorem missing_dead (p : Option Addr) (w : World) (h : DeadS w p) : Calls Try.prog 24 #[.pointer p] w fun e w' => e = .returned (.int .i64 0) ∧ w = w' := by
  have HM := Lib.hid (made_dead p w h)
  clear h
  go_enter Try.func24, Try.ntmps24
  go_wp2_with fail
  with_reducible refine HM.out.mono ?_
  rintro e w' ⟨rfl, rfl⟩
  go_wp2
  go_ret
  exact ⟨rfl, rfl⟩
set_option maxRecDepth 100000 in
theorem whole_dead (p : Option Addr) (i : Int) (w : World) (h : DeadS w p) : Calls Try.prog 26 #[.pointer p, .int .i64 i] w fun e w' => e = .returned (.bool false) ∧ w = w' := by
  have HM := Lib.hid (made_dead p w h)
  clear h
  go_enter Try.func26, Try.ntmps26
  go_wp2_with fail
  with_reducible refine HM.out.mono ?_
  rintro e w' ⟨rfl, rfl⟩
  go_wp2
  go_ret
  exact ⟨rfl, rfl⟩
set_option maxRecDepth 100000 in
theorem changes_dead (p : Option Addr) (w : World) (h : DeadS w p) : Calls Try.prog 28 #[.pointer p] w fun e w' => e = .returned (.tuple #[.slice none 0 0, .int .i64 200]) ∧ w = w' := by
  have HM := Lib.hid (made_dead p w h)
  clear h
  go_enter Try.func28, Try.ntmps28
  go_wp2_with fail
  with_reducible refine HM.out.mono ?_
  rintro e w' ⟨rfl, rfl⟩
  go_wp2
  exact bodyPost_ret (v := .tuple #[.slice none 0 0, .int .i64 200]) (by simp [results, Try.results28, go_sem]) rfl ⟨rfl, rfl⟩
/-- Have all come that are sent at once with one? -/
def WholeP (T : Nat) (m : Int → Option ByteArray) (i : Int) : Prop := (0 ≤ i ∧ i < T) ∧ ∀ k ∈ winL (i - i % 4) T, (m k).isSome = true
set_option maxRecDepth 100000 in
set_option maxHeartbeats 4000000 in
theorem whole_live (g q T : Nat) (m : Int → Option ByteArray) (i : Int) (hi : -9223372036854775808 ≤ i ∧ i ≤ 9223372036854775807) (w : World) (h : StageIs w g q T m) : Calls Try.prog 26 #[.pointer (some ⟨g, 0, none⟩), .int .i64 i] w fun e w' => Tolds (WholeP T m i) e ∧ Below w.heap.size w w' := by
  have HM := Lib.hid (made_live g q T m w h)
  have HI := Lib.hid (is_live g q T m i w h)
  have HST := Lib.hid h
  have c0 := h.obj.at_ 0
  simp at c0
  have HIB := Lib.hid hi
  clear h hi
  go_enter Try.func26, Try.ntmps26
  go_wp2_with fail
  with_reducible refine HM.out.mono ?_
  rintro e w' ⟨rfl, rfl⟩
  go_wp2_with fail
  with_reducible refine HI.out.mono ?_
  rintro e w' ⟨rfl, rfl⟩
  cases hb : isB T i with
  | false =>
    have HN := Lib.hid (show ¬ WholeP T m i from fun h => by unfold isB at hb; rw [decide_eq_true h.1.1, decide_eq_true h.1.2] at hb; cases hb)
    clear hb
    go_wp2
    go_ret
    exact ⟨told_f HN.out, Below.refl _ _⟩
  | true =>
    have hin : 0 ≤ i ∧ i < T := by unfold isB at hb; simpa using hb
    have HIN := Lib.hid hin
    have hmod : i.tmod 4 = i % 4 := Int.tmod_eq_emod_of_nonneg hin.1
    have a1 : IntKind.i64.wrap (i - i % 4) = i - i % 4 := by rw [IntKind.wrap_i64]; have := HIB.out; have := Int.emod_nonneg i (show (4 : Int) ≠ 0 by decide); have := Int.emod_lt_of_pos i (show (0 : Int) < 4 by decide); omega
    have HW := Lib.hid (window_any (i - i % 4) T (by have := HIB.out; have := Int.emod_nonneg i (show (4 : Int) ≠ 0 by decide); have := Int.emod_lt_of_pos i (show (0 : Int) < 4 by decide); omega) (by have := HST.out.few; omega) w)
    clear hb hin
    go_wp2_with fail
    refine HW.out.mono ?_
    rintro e w1 ⟨u, rfl, hu, hb⟩
    obtain ⟨l, hl⟩ : ∃ l, l = winL (i - i % 4) T := ⟨_, rfl⟩
    rw [← hl] at hu
    have HL := Lib.hid hl
    obtain ⟨Au, cu, rfl, hrow⟩ := hu.row
    have HRW := Lib.hid hrow
    have HB1 := Lib.hid hb
    have hl9 : l.length ≤ 4 := by rw [hl]; unfold winL; rw [rangeL_len]; exact winN_le _ _
    obtain ⟨n, hn⟩ : ∃ n, n = l.length := ⟨_, rfl⟩
    have HN := Lib.hid hn
    rw [← hn] at hl9 ⊢
    clear hu hb hl hrow hn hmod a1 HW
    go_wp2
    go_loopw [26] (fun z wr => ∃ j : Nat, j ≤ n ∧ z = .int .i64 j ∧ Hid (∀ k ∈ l.take j, (m k).isSome = true) ∧ Hid (Below w1.heap.size w1 wr)) (fun z _ => n - (intOf z).toNat)
    case atStart => exact ⟨0, by omega, rfl, Lib.hid (fun k hk => by simp at hk), Lib.hid (Below.refl _ _)⟩
    case round =>
      obtain ⟨j, hj, rfl, HK, HB⟩ := hrel
      by_cases hlt : j < n
      · have HLT := Lib.hid (show j + 1 ≤ n from hlt)
        have j1 : j < l.length := by rw [← HN.out]; exact hlt
        obtain ⟨b, off, rfl, hbl, hcl⟩ := (HRW.out.below HB.out).2 (by omega)
        have x0 := hcl j j1
        have HH := Lib.hid (has_live g q T m l[j] wr ((HST.out.below HB1.out).below HB.out))
        have HT := Lib.hid (List.take_succ_eq_append_getElem j1)
        have HME := Lib.hid (show l[j] ∈ l from List.getElem_mem j1)
        clear hcl hbl
        generalize l[j] = k at *
        have hlti : (j : Int) < n := by omega
        have hn4 : (n : Int) ≤ 4 := by omega
        clear j1
        cases hm : (m k).isSome with
        | true =>
          have HNX := Lib.hid (show ∀ z ∈ l.take (j + 1), (m z).isSome = true from fun z hz => by
            rw [HT.out] at hz
            rcases List.mem_append.1 hz with h | h
            · exact HK.out z h
            · rw [List.mem_singleton.1 h]; exact hm)
          rw [hm] at HH
          clear hm
          go_wp2_with fail
          with_reducible refine HH.out.mono ?_
          rintro e w3 ⟨rfl, hb⟩
          have HB3 := Lib.hid (HB.out.trans (hb.mono HB.out.size))
          clear hb
          go_wp2
          go_roundw
          case rel => exact ⟨j + 1, HLT.out, by go_num, HNX, HB3⟩
          case measure => have := HLT.out; simp [intOf]; omega
        | false =>
          have HNO := Lib.hid (show ¬ WholeP T m i from fun h => by have h2 := h.2 k (by rw [← HL.out]; exact HME.out); rw [hm] at h2; cases h2)
          rw [hm] at HH
          clear hm
          go_wp2_with fail
          with_reducible refine HH.out.mono ?_
          rintro e w3 ⟨rfl, hb⟩
          have HB3 := Lib.hid (HB1.out.trans ((HB.out.trans (hb.mono HB.out.size)).mono HB1.out.size))
          clear hb
          go_wp2
          go_ret
          exact ⟨told_f HNO.out, HB3.out⟩
      · have hlti : ¬ (j : Int) < n := by omega
        obtain rfl : j = n := by omega
        have HY := Lib.hid (show WholeP T m i from ⟨HIN.out, fun k hk => HK.out k (by rw [HN.out, List.take_length]; rw [← HL.out] at hk; exact hk)⟩)
        have HB3 := Lib.hid (HB1.out.trans (HB.out.mono HB1.out.size))
        go_wp2
        go_ret
        exact ⟨told_t HY.out, HB3.out⟩
end Go.Proofs.Ytepnckglnciinaa.Sm
