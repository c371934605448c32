import Derived.Test.YtfjmcklmoebnaaaDoorMgSn
import Derived.Test.YtfjmcklmoebnaaaDoorMgDg

/- The document's line of any message is what the program's is. -/
namespace Go.Proofs.YtfjmcklmoebnaaaDoor.Mg
open Go.RowKit Go.Proofs.YtfjmcklmoebnaaaDoor.Mem Go.Proofs.YtfjmcklmoebnaaaDoor.Nt
open Go.Proofs.YtfjmcklmoebnaaaDoor.Vc (vecC)
set_option linter.unusedVariables false set_option linter.unusedSimpArgs false

theorem joinB_more (xs : List ByteArray) (a b c : ByteArray) (h : xs ≠ []) (e : (⟨#[32]⟩ : ByteArray) ++ a = c) : joinB (xs ++ [a ++ b]) ⟨#[32]⟩ = joinB xs ⟨#[32]⟩ ++ c ++ b := by
  rw [joinB_snoc _ _ _ h, ← e]
  simp only [← ByteArray.append_assoc]
theorem parts0_join (m : MsgP) (wd : ByteArray) : joinB (parts0 m wd) ⟨#[32]⟩ = wd ++ ⟨#[32]⟩ ++ itoaB m.fr ++ ⟨#[62]⟩ ++ itoaB m.to ++ ⟨#[32, 118]⟩ ++ itoaB m.vol ++ ⟨#[32, 115, 101, 101, 110, 61]⟩ ++ seenB m.seen := by
  show joinB ([wd] ++ [pairB m.fr ⟨#[62]⟩ m.to] ++ [⟨#[118]⟩ ++ itoaB m.vol] ++ [⟨#[115, 101, 101, 110, 61]⟩ ++ seenB m.seen]) ⟨#[32]⟩ = _
  rw [joinB_more _ _ _ _ (by simp) (show (⟨#[32]⟩ : ByteArray) ++ ⟨#[115, 101, 101, 110, 61]⟩ = ⟨#[32, 115, 101, 101, 110, 61]⟩ by rfl), joinB_more _ _ _ _ (by simp) (show (⟨#[32]⟩ : ByteArray) ++ ⟨#[118]⟩ = ⟨#[32, 118]⟩ by rfl), joinB_snoc _ _ _ (by simp), joinB_one, show pairB m.fr ⟨#[62]⟩ m.to = itoaB m.fr ++ ⟨#[62]⟩ ++ itoaB m.to from rfl]
  simp only [← ByteArray.append_assoc]
theorem said_k0 (m : MsgP) (q : m.kind ≠ 1 ∧ m.kind ≠ 2 ∧ m.kind ≠ 3 ∧ m.kind ≠ 4) : saidM m = (⟨#[110, 111, 110, 101]⟩ : ByteArray) ++ ⟨#[32]⟩ ++ itoaB m.fr ++ ⟨#[62]⟩ ++ itoaB m.to ++ ⟨#[32, 118]⟩ ++ itoaB m.vol ++ ⟨#[32, 115, 101, 101, 110, 61]⟩ ++ seenB m.seen := by
  unfold saidM partsM
  rw [if_neg q.1, if_neg q.2.1, if_neg q.2.2.1, if_neg q.2.2.2]
  rw [parts0_join]
theorem said_k1 (m : MsgP) (q : m.kind = 1) : saidM m = (⟨#[97, 115, 107]⟩ : ByteArray) ++ ⟨#[32]⟩ ++ itoaB m.fr ++ ⟨#[62]⟩ ++ itoaB m.to ++ ⟨#[32, 118]⟩ ++ itoaB m.vol ++ ⟨#[32, 115, 101, 101, 110, 61]⟩ ++ seenB m.seen ++ ⟨#[32, 98, 97, 115, 101, 61]⟩ ++ pairB m.base.1 ⟨#[46]⟩ m.base.2 ++ ⟨#[32, 109, 97, 114, 107, 61]⟩ ++ pairB m.mark.1 ⟨#[46]⟩ m.mark.2 ++ ⟨#[32, 102, 114, 111, 109, 61]⟩ ++ itoaB m.ix := by
  unfold saidM partsM
  rw [if_pos q]
  rw [joinB_more _ _ _ _ (by simp [parts0]) (show (⟨#[32]⟩ : ByteArray) ++ ⟨#[102, 114, 111, 109, 61]⟩ = ⟨#[32, 102, 114, 111, 109, 61]⟩ by rfl)]
  rw [joinB_more _ _ _ _ (by simp [parts0]) (show (⟨#[32]⟩ : ByteArray) ++ ⟨#[109, 97, 114, 107, 61]⟩ = ⟨#[32, 109, 97, 114, 107, 61]⟩ by rfl)]
  rw [joinB_more _ _ _ _ (by simp [parts0]) (show (⟨#[32]⟩ : ByteArray) ++ ⟨#[98, 97, 115, 101, 61]⟩ = ⟨#[32, 98, 97, 115, 101, 61]⟩ by rfl)]
  rw [parts0_join]
theorem said_k2 (m : MsgP) (q : m.kind = 2) : saidM m = (⟨#[112, 97, 114, 116]⟩ : ByteArray) ++ ⟨#[32]⟩ ++ itoaB m.fr ++ ⟨#[62]⟩ ++ itoaB m.to ++ ⟨#[32, 118]⟩ ++ itoaB m.vol ++ ⟨#[32, 115, 101, 101, 110, 61]⟩ ++ seenB m.seen ++ ⟨#[32, 98, 97, 115, 101, 61]⟩ ++ pairB m.base.1 ⟨#[46]⟩ m.base.2 ++ ⟨#[32, 109, 97, 114, 107, 61]⟩ ++ pairB m.mark.1 ⟨#[46]⟩ m.mark.2 ++ ⟨#[32, 112, 97, 114, 116, 61]⟩ ++ itoaB m.ix ++ ⟨#[47]⟩ ++ itoaB m.tot ++ ⟨#[32, 98, 121, 116, 101, 115, 61]⟩ ++ itoaB (m.data.size : Int) := by
  unfold saidM partsM
  rw [if_neg (by rw [q]; decide), if_pos q]
  rw [show ∀ (xs : List ByteArray) (a b : ByteArray), xs ++ [a, b] = xs ++ [a] ++ [b] from fun xs a b => by simp]
  rw [joinB_more _ _ _ _ (by simp [parts0]) (show (⟨#[32]⟩ : ByteArray) ++ ⟨#[98, 121, 116, 101, 115, 61]⟩ = ⟨#[32, 98, 121, 116, 101, 115, 61]⟩ by rfl)]
  rw [joinB_more _ _ _ _ (by simp [parts0]) (show (⟨#[32]⟩ : ByteArray) ++ ⟨#[112, 97, 114, 116, 61]⟩ = ⟨#[32, 112, 97, 114, 116, 61]⟩ by rfl)]
  rw [joinB_more _ _ _ _ (by simp [parts0]) (show (⟨#[32]⟩ : ByteArray) ++ ⟨#[109, 97, 114, 107, 61]⟩ = ⟨#[32, 109, 97, 114, 107, 61]⟩ by rfl)]
  rw [joinB_more _ _ _ _ (by simp [parts0]) (show (⟨#[32]⟩ : ByteArray) ++ ⟨#[98, 97, 115, 101, 61]⟩ = ⟨#[32, 98, 97, 115, 101, 61]⟩ by rfl)]
  rw [parts0_join]
  rw [show pairB m.ix ⟨#[47]⟩ m.tot = itoaB m.ix ++ ⟨#[47]⟩ ++ itoaB m.tot from rfl]
  simp only [← ByteArray.append_assoc]
theorem said_k3 (m : MsgP) (q : m.kind = 3) : saidM m = (⟨#[115, 97, 109, 101]⟩ : ByteArray) ++ ⟨#[32]⟩ ++ itoaB m.fr ++ ⟨#[62]⟩ ++ itoaB m.to ++ ⟨#[32, 118]⟩ ++ itoaB m.vol ++ ⟨#[32, 115, 101, 101, 110, 61]⟩ ++ seenB m.seen := by
  unfold saidM partsM
  rw [if_neg (by rw [q]; decide), if_neg (by rw [q]; decide), if_pos q]
  rw [parts0_join]
theorem said_k4 (m : MsgP) (q : m.kind = 4) : saidM m = (⟨#[103, 111, 110, 101]⟩ : ByteArray) ++ ⟨#[32]⟩ ++ itoaB m.fr ++ ⟨#[62]⟩ ++ itoaB m.to ++ ⟨#[32, 118]⟩ ++ itoaB m.vol ++ ⟨#[32, 115, 101, 101, 110, 61]⟩ ++ seenB m.seen ++ ⟨#[32, 109, 97, 114, 107, 61]⟩ ++ pairB m.mark.1 ⟨#[46]⟩ m.mark.2 := by
  unfold saidM partsM
  rw [if_neg (by rw [q]; decide), if_neg (by rw [q]; decide), if_neg (by rw [q]; decide), if_pos q]
  rw [joinB_more _ _ _ _ (by simp [parts0]) (show (⟨#[32]⟩ : ByteArray) ++ ⟨#[109, 97, 114, 107, 61]⟩ = ⟨#[32, 109, 97, 114, 107, 61]⟩ by rfl)]
  rw [parts0_join]
set_option maxRecDepth 100000 in
set_option maxHeartbeats 2000000 in
theorem rsaid_k3 (m : MsgP) (hm : FitM m) (q : m.kind = 3) (w : World) : Calls Tryd.prog 14 #[.agg (msgC m)] w fun e w' => e = .returned (.string (saidM m)) ∧ Below w.heap.size w w' := by
  have hb0 := (Below.refl w.heap.size w).alloc (Nat.le_refl _) (.cells (msgC m) 27)
  have HB0 := Lib.hid hb0
  have HX := Lib.hid (Has.fresh w 27 (msgC m))
  have HD1 := Lib.hid (fun W => digits_any m.fr hm.1.2.1 W)
  have HD2 := Lib.hid (fun W => digits_any m.to hm.1.2.2.1 W)
  have HD3 := Lib.hid (fun W => digits_any m.vol hm.1.2.2.2 W)
  have HSE := Lib.hid (fun W => rseen_any m.seen hm.2.2.2.2.1 W)
  have fd : fitI (m.data.size : Int) := by have := hm.2.2.2.2.2; unfold fitI; omega
  have HTB := Lib.hid (fun W => rtext_any m.base hm.2.1.1 hm.2.1.2 W)
  have HTM := Lib.hid (fun W => rtext_any m.mark hm.2.2.1.1 hm.2.2.1.2 W)
  have HDI := Lib.hid (fun W => digits_any m.ix hm.2.2.2.1.1 W)
  have HDT := Lib.hid (fun W => digits_any m.tot hm.2.2.2.1.2 W)
  have HDD := Lib.hid (fun W => digits_any (m.data.size : Int) fd W)
  have s1 := itoaB_size hm.1.2.1
  have s2 := itoaB_size hm.1.2.2.1
  have s3 := itoaB_size hm.1.2.2.2
  have s4 := seenB_size hm.2.2.2.2.1
  have s5 := pairB_size (s := ⟨#[46]⟩) hm.2.1.1 hm.2.1.2
  have s6 := pairB_size (s := ⟨#[46]⟩) hm.2.2.1.1 hm.2.2.1.2
  have s7 := itoaB_size hm.2.2.2.1.1
  have s8 := itoaB_size hm.2.2.2.1.2
  have s9 := itoaB_size fd
  have zd : (⟨#[46]⟩ : ByteArray).size = 1 := rfl
  have z1 : (⟨#[115, 97, 109, 101]⟩ : ByteArray).size = 4 := rfl
  have z2 : (⟨#[32]⟩ : ByteArray).size = 1 := rfl
  obtain ⟨h1, eh1⟩ : ∃ h1 : ByteArray, h1 = (⟨#[115, 97, 109, 101]⟩ : ByteArray) ++ (⟨#[32]⟩ : ByteArray) := ⟨_, rfl⟩
  have fh1 := congrArg ByteArray.size eh1
  rw [ByteArray.size_append] at fh1
  have ah1 := fun W => run_string_add_sum (P := Tryd.prog) W (⟨#[115, 97, 109, 101]⟩ : ByteArray) (⟨#[32]⟩ : ByteArray) (by omega)
  rw [← eh1] at ah1
  obtain ⟨h2, eh2⟩ : ∃ h2 : ByteArray, h2 = h1 ++ (itoaB m.fr) := ⟨_, rfl⟩
  have fh2 := congrArg ByteArray.size eh2
  rw [ByteArray.size_append] at fh2
  have ah2 := fun W => run_string_add_sum (P := Tryd.prog) W h1 (itoaB m.fr) (by omega)
  rw [← eh2] at ah2
  have z3 : (⟨#[62]⟩ : ByteArray).size = 1 := rfl
  obtain ⟨h3, eh3⟩ : ∃ h3 : ByteArray, h3 = h2 ++ (⟨#[62]⟩ : ByteArray) := ⟨_, rfl⟩
  have fh3 := congrArg ByteArray.size eh3
  rw [ByteArray.size_append] at fh3
  have ah3 := fun W => run_string_add_sum (P := Tryd.prog) W h2 (⟨#[62]⟩ : ByteArray) (by omega)
  rw [← eh3] at ah3
  obtain ⟨h4, eh4⟩ : ∃ h4 : ByteArray, h4 = h3 ++ (itoaB m.to) := ⟨_, rfl⟩
  have fh4 := congrArg ByteArray.size eh4
  rw [ByteArray.size_append] at fh4
  have ah4 := fun W => run_string_add_sum (P := Tryd.prog) W h3 (itoaB m.to) (by omega)
  rw [← eh4] at ah4
  have z4 : (⟨#[32, 118]⟩ : ByteArray).size = 2 := rfl
  obtain ⟨h5, eh5⟩ : ∃ h5 : ByteArray, h5 = h4 ++ (⟨#[32, 118]⟩ : ByteArray) := ⟨_, rfl⟩
  have fh5 := congrArg ByteArray.size eh5
  rw [ByteArray.size_append] at fh5
  have ah5 := fun W => run_string_add_sum (P := Tryd.prog) W h4 (⟨#[32, 118]⟩ : ByteArray) (by omega)
  rw [← eh5] at ah5
  obtain ⟨h6, eh6⟩ : ∃ h6 : ByteArray, h6 = h5 ++ (itoaB m.vol) := ⟨_, rfl⟩
  have fh6 := congrArg ByteArray.size eh6
  rw [ByteArray.size_append] at fh6
  have ah6 := fun W => run_string_add_sum (P := Tryd.prog) W h5 (itoaB m.vol) (by omega)
  rw [← eh6] at ah6
  have z5 : (⟨#[32, 115, 101, 101, 110, 61]⟩ : ByteArray).size = 6 := rfl
  obtain ⟨h7, eh7⟩ : ∃ h7 : ByteArray, h7 = h6 ++ (⟨#[32, 115, 101, 101, 110, 61]⟩ : ByteArray) := ⟨_, rfl⟩
  have fh7 := congrArg ByteArray.size eh7
  rw [ByteArray.size_append] at fh7
  have ah7 := fun W => run_string_add_sum (P := Tryd.prog) W h6 (⟨#[32, 115, 101, 101, 110, 61]⟩ : ByteArray) (by omega)
  rw [← eh7] at ah7
  obtain ⟨h8, eh8⟩ : ∃ h8 : ByteArray, h8 = h7 ++ (seenB m.seen) := ⟨_, rfl⟩
  have fh8 := congrArg ByteArray.size eh8
  rw [ByteArray.size_append] at fh8
  have ah8 := fun W => run_string_add_sum (P := Tryd.prog) W h7 (seenB m.seen) (by omega)
  rw [← eh8] at ah8
  have HEQ := Lib.hid (show h8 = saidM m by rw [said_k3 m q]; rw [eh8, eh7, eh6, eh5, eh4, eh3, eh2, eh1])
  have HQ := Lib.hid (show ∀ V, Below (w.alloc (.cells (msgC m) 27)).heap.size (w.alloc (.cells (msgC m) 27)) V → V.cell? ⟨w.heap.size, 0, none⟩ = some (.int .i64 3) from fun V h => q ▸ (HX.out.below h).at_ 0)
  have HBR := Lib.hid ((Below.refl (w.alloc (.cells (msgC m) 27)).heap.size (w.alloc (.cells (msgC m) 27))).drew)
  have c0 := HQ.out _ (Below.refl _ _)
  have HSB := Lib.hid (show ∀ V, Below (w.alloc (.cells (msgC m) 27)).heap.size (w.alloc (.cells (msgC m) 27)) V → V.cell? ⟨w.heap.size, 1, none⟩ = some (.int .i64 m.fr) ∧ V.cell? ⟨w.heap.size, 2, none⟩ = some (.int .i64 m.to) ∧ V.cell? ⟨w.heap.size, 3, none⟩ = some (.int .i64 m.vol) ∧ V.rangeAt w.heap.size 10 (vecC m.seen).toList from fun V h => ⟨(HX.out.below h).at_ 1, (HX.out.below h).at_ 2, (HX.out.below h).at_ 3, seen_range (HX.out.below h)⟩)
  clear s1 s2 s3 s4 s5 s6 s7 s8 s9 zd fd hb0 z1 z2 fh1 fh2 z3 fh3 fh4 z4 fh5 fh6 z5 fh7 fh8 eh1 eh2 eh3 eh4 eh5 eh6 eh7 eh8 hm q
  go_enter Tryd.func14, Tryd.ntmps14
  go_wp2
  refine wp_region_held_drew (S := fun V => V.cell? ⟨w.heap.size, 1, none⟩ = some (.int .i64 m.fr) ∧ V.cell? ⟨w.heap.size, 2, none⟩ = some (.int .i64 m.to) ∧ V.cell? ⟨w.heap.size, 3, none⟩ = some (.int .i64 m.vol) ∧ V.rangeAt w.heap.size 10 (vecC m.seen).toList) (by kernel_rfl) (HSB.out _ HBR.out) (fun hHeld => ?_)
  refine Vc.wpAnyH_read (i := 0) (d := some 16) (v := ?vy1) (by rfl) (by rfl) (by kernel_rfl) (by kernel_rfl) (by kernel_rfl) (fun _ _ _ h => h) (by rfl) ?hyy1 (by assumption) ?resty1
  case hyy1 =>
    intro w hSw
    obtain ⟨s0, s1, s2, s3⟩ := hSw
    go_simp
    try with_reducible rfl
  (try simp only [Act.put, List.setIfInBounds_toArray, List.set_cons_zero, List.set_cons_succ])
  refine Vc.wpAnyH_read (i := 1) (d := some 17) (v := ?vy2) (by rfl) (by rfl) (by kernel_rfl) (by kernel_rfl) (by kernel_rfl) (fun _ _ _ h => h) (by rfl) ?hyy2 (by assumption) ?resty2
  case hyy2 =>
    intro w hSw
    obtain ⟨s0, s1, s2, s3⟩ := hSw
    go_simp
    try with_reducible rfl
  (try simp only [Act.put, List.setIfInBounds_toArray, List.set_cons_zero, List.set_cons_succ])
  refine Vc.wpAnyH_read (i := 2) (d := some 18) (v := ?vy3) (by rfl) (by rfl) (by kernel_rfl) (by kernel_rfl) (by kernel_rfl) (fun _ _ _ h => h) (by rfl) ?hyy3 (by assumption) ?resty3
  case hyy3 =>
    intro w hSw
    obtain ⟨s0, s1, s2, s3⟩ := hSw
    go_simp
    try with_reducible rfl
  (try simp only [Act.put, List.setIfInBounds_toArray, List.set_cons_zero, List.set_cons_succ])
  refine Vc.wpAnyH_read (i := 3) (d := some 19) (v := ?vy4) (by rfl) (by rfl) (by kernel_rfl) (by kernel_rfl) (by kernel_rfl) (fun _ _ _ h => h) (by rfl) ?hyy4 (by assumption) ?resty4
  case hyy4 =>
    intro w hSw
    obtain ⟨s0, s1, s2, s3⟩ := hSw
    go_simp
    try with_reducible rfl
  (try simp only [Act.put, List.setIfInBounds_toArray, List.set_cons_zero, List.set_cons_succ])
  refine Vc.wpAnyH_read (i := 7) (d := some 23) (v := ?vy5) (by rfl) (by rfl) (by kernel_rfl) (by kernel_rfl) (by kernel_rfl) (fun _ _ _ h => h) (by rfl) ?hyy5 (by assumption) ?resty5
  case hyy5 =>
    intro w hSw
    obtain ⟨s0, s1, s2, s3⟩ := hSw
    go_simp
    try with_reducible rfl
  (try simp only [Act.put, List.setIfInBounds_toArray, List.set_cons_zero, List.set_cons_succ])
  refine Vc.wpAnyH_read (i := 8) (d := some 24) (v := ?vy6) (by rfl) (by rfl) (by kernel_rfl) (by kernel_rfl) (by kernel_rfl) (fun _ _ _ h => h) (by rfl) ?hyy6 (by assumption) ?resty6
  case hyy6 =>
    intro w hSw
    obtain ⟨s0, s1, s2, s3⟩ := hSw
    go_simp
    try with_reducible rfl
  (try simp only [Act.put, List.setIfInBounds_toArray, List.set_cons_zero, List.set_cons_succ])
  refine Vc.wpAnyH_read (i := 12) (d := some 28) (v := ?vy7) (by rfl) (by rfl) (by kernel_rfl) (by kernel_rfl) (by kernel_rfl) (fun _ _ _ h => h) (by rfl) ?hyy7 (by assumption) ?resty7
  case hyy7 =>
    intro w hSw
    obtain ⟨s0, s1, s2, s3⟩ := hSw
    go_simp
    try with_reducible rfl
  (try simp only [Act.put, List.setIfInBounds_toArray, List.set_cons_zero, List.set_cons_succ])
  refine Vc.wpAnyH_read (i := 13) (d := some 29) (v := ?vy8) (by rfl) (by rfl) (by kernel_rfl) (by kernel_rfl) (by kernel_rfl) (fun _ _ _ h => h) (by rfl) ?hyy8 (by assumption) ?resty8
  case hyy8 =>
    intro w hSw
    obtain ⟨s0, s1, s2, s3⟩ := hSw
    go_simp
    try with_reducible rfl
  (try simp only [Act.put, List.setIfInBounds_toArray, List.set_cons_zero, List.set_cons_succ])
  refine Vc.wpAnyH_read (i := 17) (d := some 33) (v := ?vy9) (by rfl) (by rfl) (by kernel_rfl) (by kernel_rfl) (by kernel_rfl) (fun _ _ _ h => h) (by rfl) ?hyy9 (by assumption) ?resty9
  case hyy9 =>
    intro w hSw
    obtain ⟨s0, s1, s2, s3⟩ := hSw
    go_simp
    try with_reducible rfl
  (try simp only [Act.put, List.setIfInBounds_toArray, List.set_cons_zero, List.set_cons_succ])
  refine Vc.wpAnyH_read (i := 18) (d := some 34) (v := .agg (vecC m.seen)) (by rfl) (by rfl) (by kernel_rfl) (by kernel_rfl) (by kernel_rfl) (fun _ _ _ h => h) (by rfl) ?hyy10 (by assumption) ?resty10
  case hyy10 =>
    intro w hSw
    obtain ⟨s0, s1, s2, s3⟩ := hSw
    exact Who.exec_loadA _ rfl rfl s3 Tryd.underlying25 rfl info_vec
  (try simp only [Act.put, List.setIfInBounds_toArray, List.set_cons_zero, List.set_cons_succ])
  refine wpAnyH_ready (rs := [4]) (by kernel_rfl) (by simp) ?_
  refine AllReadyH.cons rfl (fun K hK => ?_) AllReadyH.nil
  go_simp
  go_at_call 32
  refine (HD1.out _).mono ?_
  rintro e w1 ⟨rfl, hb⟩
  have HB1 := Lib.hid (HBR.out.trans (hb.mono HBR.out.size))
  clear hb
  refine hK.out _ _ (HSB.out _ HB1.out) (fun hHeld => ?_)
  clear hK K
  (try simp only [Act.put, List.setIfInBounds_toArray, List.set_cons_zero, List.set_cons_succ])
  refine Vc.wpAnyH_read (i := 5) (d := some 21) (v := ?vy11) (by rfl) (by rfl) (by kernel_rfl) (by kernel_rfl) (by kernel_rfl) (fun _ _ _ h => h) (by rfl) ?hyy11 (by assumption) ?resty11
  case hyy11 =>
    intro w hSw
    obtain ⟨s0, s1, s2, s3⟩ := hSw
    go_simp
    try with_reducible rfl
  (try simp only [Act.put, List.setIfInBounds_toArray, List.set_cons_zero, List.set_cons_succ])
  refine Vc.wpAnyH_read (i := 6) (d := some 22) (v := ?vy12) (by rfl) (by rfl) (by kernel_rfl) (by kernel_rfl) (by kernel_rfl) (fun _ _ _ h => h) (by rfl) ?hyy12 (by assumption) ?resty12
  case hyy12 =>
    intro w hSw
    obtain ⟨s0, s1, s2, s3⟩ := hSw
    go_simp
    try with_reducible rfl
  (try simp only [Act.put, List.setIfInBounds_toArray, List.set_cons_zero, List.set_cons_succ])
  refine wpAnyH_ready (rs := [9]) (by kernel_rfl) (by simp) ?_
  refine AllReadyH.cons rfl (fun K hK => ?_) AllReadyH.nil
  go_simp
  go_at_call 32
  refine (HD2.out _).mono ?_
  rintro e w2 ⟨rfl, hb⟩
  have HB2 := Lib.hid (HB1.out.trans (hb.mono HB1.out.size))
  clear hb
  refine hK.out _ _ (HSB.out _ HB2.out) (fun hHeld => ?_)
  clear hK K
  (try simp only [Act.put, List.setIfInBounds_toArray, List.set_cons_zero, List.set_cons_succ])
  refine Vc.wpAnyH_read (i := 10) (d := some 26) (v := ?vy13) (by rfl) (by rfl) (by kernel_rfl) (by kernel_rfl) (by kernel_rfl) (fun _ _ _ h => h) (by rfl) ?hyy13 (by assumption) ?resty13
  case hyy13 =>
    intro w hSw
    obtain ⟨s0, s1, s2, s3⟩ := hSw
    go_simp
    try with_reducible rfl
  (try simp only [Act.put, List.setIfInBounds_toArray, List.set_cons_zero, List.set_cons_succ])
  refine Vc.wpAnyH_read (i := 11) (d := some 27) (v := ?vy14) (by rfl) (by rfl) (by kernel_rfl) (by kernel_rfl) (by kernel_rfl) (fun _ _ _ h => h) (by rfl) ?hyy14 (by assumption) ?resty14
  case hyy14 =>
    intro w hSw
    obtain ⟨s0, s1, s2, s3⟩ := hSw
    go_simp
    try with_reducible rfl
  (try simp only [Act.put, List.setIfInBounds_toArray, List.set_cons_zero, List.set_cons_succ])
  refine wpAnyH_ready (rs := [14]) (by kernel_rfl) (by simp) ?_
  refine AllReadyH.cons rfl (fun K hK => ?_) AllReadyH.nil
  go_simp
  go_at_call 32
  refine (HD3.out _).mono ?_
  rintro e w3 ⟨rfl, hb⟩
  have HB3 := Lib.hid (HB2.out.trans (hb.mono HB2.out.size))
  clear hb
  refine hK.out _ _ (HSB.out _ HB3.out) (fun hHeld => ?_)
  clear hK K
  (try simp only [Act.put, List.setIfInBounds_toArray, List.set_cons_zero, List.set_cons_succ])
  refine Vc.wpAnyH_read (i := 15) (d := some 31) (v := ?vy15) (by rfl) (by rfl) (by kernel_rfl) (by kernel_rfl) (by kernel_rfl) (fun _ _ _ h => h) (by rfl) ?hyy15 (by assumption) ?resty15
  case hyy15 =>
    intro w hSw
    obtain ⟨s0, s1, s2, s3⟩ := hSw
    go_simp
    try with_reducible rfl
  (try simp only [Act.put, List.setIfInBounds_toArray, List.set_cons_zero, List.set_cons_succ])
  refine Vc.wpAnyH_read (i := 16) (d := some 32) (v := ?vy16) (by rfl) (by rfl) (by kernel_rfl) (by kernel_rfl) (by kernel_rfl) (fun _ _ _ h => h) (by rfl) ?hyy16 (by assumption) ?resty16
  case hyy16 =>
    intro w hSw
    obtain ⟨s0, s1, s2, s3⟩ := hSw
    go_simp
    try with_reducible rfl
  (try simp only [Act.put, List.setIfInBounds_toArray, List.set_cons_zero, List.set_cons_succ])
  refine wpAnyH_ready (rs := [19]) (by kernel_rfl) (by simp) ?_
  refine AllReadyH.cons rfl (fun K hK => ?_) AllReadyH.nil
  go_simp
  go_at_call 16
  refine (HSE.out _).mono ?_
  rintro e w4 ⟨rfl, hb⟩
  have HB4 := Lib.hid (HB3.out.trans (hb.mono HB3.out.size))
  clear hb
  refine hK.out _ _ (HSB.out _ HB4.out) (fun hHeld => ?_)
  clear hK K
  (try simp only [Act.put, List.setIfInBounds_toArray, List.set_cons_zero, List.set_cons_succ])
  refine Vc.wpAnyH_read (i := 20) (d := some 36) (v := ?vy17) (by rfl) (by rfl) (by kernel_rfl) (by kernel_rfl) (by kernel_rfl) (fun _ _ _ h => h) (by rfl) ?hyy17 (by assumption) ?resty17
  case hyy17 =>
    intro w hSw
    obtain ⟨s0, s1, s2, s3⟩ := hSw
    go_simp
    try with_reducible rfl
  (try simp only [Act.put, List.setIfInBounds_toArray, List.set_cons_zero, List.set_cons_succ])
  refine Vc.wpAnyH_read (i := 21) (d := some 3) (v := ?vy18) (by rfl) (by rfl) (by kernel_rfl) (by kernel_rfl) (by kernel_rfl) (fun _ _ _ h => h) (by rfl) ?hyy18 (by assumption) ?resty18
  case hyy18 =>
    intro w hSw
    obtain ⟨s0, s1, s2, s3⟩ := hSw
    go_simp
    try with_reducible rfl
  (try simp only [Act.put, List.setIfInBounds_toArray, List.set_cons_zero, List.set_cons_succ])
  refine wpAnyH_done (by kernel_rfl) ?_ _
  have c4 := HQ.out _ HB4.out
  clear c0 ah1 ah2 ah3 ah4 ah5 ah6 ah7 ah8 HD1 HD2 HD3 HSE
  have HBZ := Lib.hid (HB0.out.trans (HB4.out.mono HB0.out.size))
  go_wp2
  go_ret
  exact ⟨by rw [← HEQ.out]; rfl, HBZ.out⟩
set_option maxRecDepth 100000 in
set_option maxHeartbeats 2000000 in
theorem rsaid_k0 (m : MsgP) (hm : FitM m) (q : m.kind ≠ 1 ∧ m.kind ≠ 2 ∧ m.kind ≠ 3 ∧ m.kind ≠ 4) (w : World) : Calls Tryd.prog 14 #[.agg (msgC m)] w fun e w' => e = .returned (.string (saidM m)) ∧ Below w.heap.size w w' := by
  have hb0 := (Below.refl w.heap.size w).alloc (Nat.le_refl _) (.cells (msgC m) 27)
  have HB0 := Lib.hid hb0
  have HX := Lib.hid (Has.fresh w 27 (msgC m))
  have HD1 := Lib.hid (fun W => digits_any m.fr hm.1.2.1 W)
  have HD2 := Lib.hid (fun W => digits_any m.to hm.1.2.2.1 W)
  have HD3 := Lib.hid (fun W => digits_any m.vol hm.1.2.2.2 W)
  have HSE := Lib.hid (fun W => rseen_any m.seen hm.2.2.2.2.1 W)
  have fd : fitI (m.data.size : Int) := by have := hm.2.2.2.2.2; unfold fitI; omega
  have HTB := Lib.hid (fun W => rtext_any m.base hm.2.1.1 hm.2.1.2 W)
  have HTM := Lib.hid (fun W => rtext_any m.mark hm.2.2.1.1 hm.2.2.1.2 W)
  have HDI := Lib.hid (fun W => digits_any m.ix hm.2.2.2.1.1 W)
  have HDT := Lib.hid (fun W => digits_any m.tot hm.2.2.2.1.2 W)
  have HDD := Lib.hid (fun W => digits_any (m.data.size : Int) fd W)
  have s1 := itoaB_size hm.1.2.1
  have s2 := itoaB_size hm.1.2.2.1
  have s3 := itoaB_size hm.1.2.2.2
  have s4 := seenB_size hm.2.2.2.2.1
  have s5 := pairB_size (s := ⟨#[46]⟩) hm.2.1.1 hm.2.1.2
  have s6 := pairB_size (s := ⟨#[46]⟩) hm.2.2.1.1 hm.2.2.1.2
  have s7 := itoaB_size hm.2.2.2.1.1
  have s8 := itoaB_size hm.2.2.2.1.2
  have s9 := itoaB_size fd
  have zd : (⟨#[46]⟩ : ByteArray).size = 1 := rfl
  have z1 : (⟨#[110, 111, 110, 101]⟩ : ByteArray).size = 4 := rfl
  have z2 : (⟨#[32]⟩ : ByteArray).size = 1 := rfl
  obtain ⟨h1, eh1⟩ : ∃ h1 : ByteArray, h1 = (⟨#[110, 111, 110, 101]⟩ : ByteArray) ++ (⟨#[32]⟩ : ByteArray) := ⟨_, rfl⟩
  have fh1 := congrArg ByteArray.size eh1
  rw [ByteArray.size_append] at fh1
  have ah1 := fun W => run_string_add_sum (P := Tryd.prog) W (⟨#[110, 111, 110, 101]⟩ : ByteArray) (⟨#[32]⟩ : ByteArray) (by omega)
  rw [← eh1] at ah1
  obtain ⟨h2, eh2⟩ : ∃ h2 : ByteArray, h2 = h1 ++ (itoaB m.fr) := ⟨_, rfl⟩
  have fh2 := congrArg ByteArray.size eh2
  rw [ByteArray.size_append] at fh2
  have ah2 := fun W => run_string_add_sum (P := Tryd.prog) W h1 (itoaB m.fr) (by omega)
  rw [← eh2] at ah2
  have z3 : (⟨#[62]⟩ : ByteArray).size = 1 := rfl
  obtain ⟨h3, eh3⟩ : ∃ h3 : ByteArray, h3 = h2 ++ (⟨#[62]⟩ : ByteArray) := ⟨_, rfl⟩
  have fh3 := congrArg ByteArray.size eh3
  rw [ByteArray.size_append] at fh3
  have ah3 := fun W => run_string_add_sum (P := Tryd.prog) W h2 (⟨#[62]⟩ : ByteArray) (by omega)
  rw [← eh3] at ah3
  obtain ⟨h4, eh4⟩ : ∃ h4 : ByteArray, h4 = h3 ++ (itoaB m.to) := ⟨_, rfl⟩
  have fh4 := congrArg ByteArray.size eh4
  rw [ByteArray.size_append] at fh4
  have ah4 := fun W => run_string_add_sum (P := Tryd.prog) W h3 (itoaB m.to) (by omega)
  rw [← eh4] at ah4
  have z4 : (⟨#[32, 118]⟩ : ByteArray).size = 2 := rfl
  obtain ⟨h5, eh5⟩ : ∃ h5 : ByteArray, h5 = h4 ++ (⟨#[32, 118]⟩ : ByteArray) := ⟨_, rfl⟩
  have fh5 := congrArg ByteArray.size eh5
  rw [ByteArray.size_append] at fh5
  have ah5 := fun W => run_string_add_sum (P := Tryd.prog) W h4 (⟨#[32, 118]⟩ : ByteArray) (by omega)
  rw [← eh5] at ah5
  obtain ⟨h6, eh6⟩ : ∃ h6 : ByteArray, h6 = h5 ++ (itoaB m.vol) := ⟨_, rfl⟩
  have fh6 := congrArg ByteArray.size eh6
  rw [ByteArray.size_append] at fh6
  have ah6 := fun W => run_string_add_sum (P := Tryd.prog) W h5 (itoaB m.vol) (by omega)
  rw [← eh6] at ah6
  have z5 : (⟨#[32, 115, 101, 101, 110, 61]⟩ : ByteArray).size = 6 := rfl
  obtain ⟨h7, eh7⟩ : ∃ h7 : ByteArray, h7 = h6 ++ (⟨#[32, 115, 101, 101, 110, 61]⟩ : ByteArray) := ⟨_, rfl⟩
  have fh7 := congrArg ByteArray.size eh7
  rw [ByteArray.size_append] at fh7
  have ah7 := fun W => run_string_add_sum (P := Tryd.prog) W h6 (⟨#[32, 115, 101, 101, 110, 61]⟩ : ByteArray) (by omega)
  rw [← eh7] at ah7
  obtain ⟨h8, eh8⟩ : ∃ h8 : ByteArray, h8 = h7 ++ (seenB m.seen) := ⟨_, rfl⟩
  have fh8 := congrArg ByteArray.size eh8
  rw [ByteArray.size_append] at fh8
  have ah8 := fun W => run_string_add_sum (P := Tryd.prog) W h7 (seenB m.seen) (by omega)
  rw [← eh8] at ah8
  have HEQ := Lib.hid (show h8 = saidM m by rw [said_k0 m q]; rw [eh8, eh7, eh6, eh5, eh4, eh3, eh2, eh1])
  have HQ := Lib.hid (show ∀ V, Below (w.alloc (.cells (msgC m) 27)).heap.size (w.alloc (.cells (msgC m) 27)) V → V.cell? ⟨w.heap.size, 0, none⟩ = some (.int .i64 m.kind) from fun V h => (HX.out.below h).at_ 0)
  have HBR := Lib.hid ((Below.refl (w.alloc (.cells (msgC m) 27)).heap.size (w.alloc (.cells (msgC m) 27))).drew)
  have c0 := HQ.out _ (Below.refl _ _)
  have HSB := Lib.hid (show ∀ V, Below (w.alloc (.cells (msgC m) 27)).heap.size (w.alloc (.cells (msgC m) 27)) V → V.cell? ⟨w.heap.size, 1, none⟩ = some (.int .i64 m.fr) ∧ V.cell? ⟨w.heap.size, 2, none⟩ = some (.int .i64 m.to) ∧ V.cell? ⟨w.heap.size, 3, none⟩ = some (.int .i64 m.vol) ∧ V.rangeAt w.heap.size 10 (vecC m.seen).toList from fun V h => ⟨(HX.out.below h).at_ 1, (HX.out.below h).at_ 2, (HX.out.below h).at_ 3, seen_range (HX.out.below h)⟩)
  have y1 : (m.kind == 1) = false := beq_eq_false_iff_ne.2 q.1
  have y2 : (m.kind == 2) = false := beq_eq_false_iff_ne.2 q.2.1
  have y3 : (m.kind == 3) = false := beq_eq_false_iff_ne.2 q.2.2.1
  have y4 : (m.kind == 4) = false := beq_eq_false_iff_ne.2 q.2.2.2
  clear s1 s2 s3 s4 s5 s6 s7 s8 s9 zd fd hb0 z1 z2 fh1 fh2 z3 fh3 fh4 z4 fh5 fh6 z5 fh7 fh8 eh1 eh2 eh3 eh4 eh5 eh6 eh7 eh8 hm q
  go_enter Tryd.func14, Tryd.ntmps14
  go_wp2
  refine wp_region_held_drew (S := fun V => V.cell? ⟨w.heap.size, 1, none⟩ = some (.int .i64 m.fr) ∧ V.cell? ⟨w.heap.size, 2, none⟩ = some (.int .i64 m.to) ∧ V.cell? ⟨w.heap.size, 3, none⟩ = some (.int .i64 m.vol) ∧ V.rangeAt w.heap.size 10 (vecC m.seen).toList) (by kernel_rfl) (HSB.out _ HBR.out) (fun hHeld => ?_)
  refine Vc.wpAnyH_read (i := 0) (d := some 16) (v := ?vy19) (by rfl) (by rfl) (by kernel_rfl) (by kernel_rfl) (by kernel_rfl) (fun _ _ _ h => h) (by rfl) ?hyy19 (by assumption) ?resty19
  case hyy19 =>
    intro w hSw
    obtain ⟨s0, s1, s2, s3⟩ := hSw
    go_simp
    try with_reducible rfl
  (try simp only [Act.put, List.setIfInBounds_toArray, List.set_cons_zero, List.set_cons_succ])
  refine Vc.wpAnyH_read (i := 1) (d := some 17) (v := ?vy20) (by rfl) (by rfl) (by kernel_rfl) (by kernel_rfl) (by kernel_rfl) (fun _ _ _ h => h) (by rfl) ?hyy20 (by assumption) ?resty20
  case hyy20 =>
    intro w hSw
    obtain ⟨s0, s1, s2, s3⟩ := hSw
    go_simp
    try with_reducible rfl
  (try simp only [Act.put, List.setIfInBounds_toArray, List.set_cons_zero, List.set_cons_succ])
  refine Vc.wpAnyH_read (i := 2) (d := some 18) (v := ?vy21) (by rfl) (by rfl) (by kernel_rfl) (by kernel_rfl) (by kernel_rfl) (fun _ _ _ h => h) (by rfl) ?hyy21 (by assumption) ?resty21
  case hyy21 =>
    intro w hSw
    obtain ⟨s0, s1, s2, s3⟩ := hSw
    go_simp
    try with_reducible rfl
  (try simp only [Act.put, List.setIfInBounds_toArray, List.set_cons_zero, List.set_cons_succ])
  refine Vc.wpAnyH_read (i := 3) (d := some 19) (v := ?vy22) (by rfl) (by rfl) (by kernel_rfl) (by kernel_rfl) (by kernel_rfl) (fun _ _ _ h => h) (by rfl) ?hyy22 (by assumption) ?resty22
  case hyy22 =>
    intro w hSw
    obtain ⟨s0, s1, s2, s3⟩ := hSw
    go_simp
    try with_reducible rfl
  (try simp only [Act.put, List.setIfInBounds_toArray, List.set_cons_zero, List.set_cons_succ])
  refine Vc.wpAnyH_read (i := 7) (d := some 23) (v := ?vy23) (by rfl) (by rfl) (by kernel_rfl) (by kernel_rfl) (by kernel_rfl) (fun _ _ _ h => h) (by rfl) ?hyy23 (by assumption) ?resty23
  case hyy23 =>
    intro w hSw
    obtain ⟨s0, s1, s2, s3⟩ := hSw
    go_simp
    try with_reducible rfl
  (try simp only [Act.put, List.setIfInBounds_toArray, List.set_cons_zero, List.set_cons_succ])
  refine Vc.wpAnyH_read (i := 8) (d := some 24) (v := ?vy24) (by rfl) (by rfl) (by kernel_rfl) (by kernel_rfl) (by kernel_rfl) (fun _ _ _ h => h) (by rfl) ?hyy24 (by assumption) ?resty24
  case hyy24 =>
    intro w hSw
    obtain ⟨s0, s1, s2, s3⟩ := hSw
    go_simp
    try with_reducible rfl
  (try simp only [Act.put, List.setIfInBounds_toArray, List.set_cons_zero, List.set_cons_succ])
  refine Vc.wpAnyH_read (i := 12) (d := some 28) (v := ?vy25) (by rfl) (by rfl) (by kernel_rfl) (by kernel_rfl) (by kernel_rfl) (fun _ _ _ h => h) (by rfl) ?hyy25 (by assumption) ?resty25
  case hyy25 =>
    intro w hSw
    obtain ⟨s0, s1, s2, s3⟩ := hSw
    go_simp
    try with_reducible rfl
  (try simp only [Act.put, List.setIfInBounds_toArray, List.set_cons_zero, List.set_cons_succ])
  refine Vc.wpAnyH_read (i := 13) (d := some 29) (v := ?vy26) (by rfl) (by rfl) (by kernel_rfl) (by kernel_rfl) (by kernel_rfl) (fun _ _ _ h => h) (by rfl) ?hyy26 (by assumption) ?resty26
  case hyy26 =>
    intro w hSw
    obtain ⟨s0, s1, s2, s3⟩ := hSw
    go_simp
    try with_reducible rfl
  (try simp only [Act.put, List.setIfInBounds_toArray, List.set_cons_zero, List.set_cons_succ])
  refine Vc.wpAnyH_read (i := 17) (d := some 33) (v := ?vy27) (by rfl) (by rfl) (by kernel_rfl) (by kernel_rfl) (by kernel_rfl) (fun _ _ _ h => h) (by rfl) ?hyy27 (by assumption) ?resty27
  case hyy27 =>
    intro w hSw
    obtain ⟨s0, s1, s2, s3⟩ := hSw
    go_simp
    try with_reducible rfl
  (try simp only [Act.put, List.setIfInBounds_toArray, List.set_cons_zero, List.set_cons_succ])
  refine Vc.wpAnyH_read (i := 18) (d := some 34) (v := .agg (vecC m.seen)) (by rfl) (by rfl) (by kernel_rfl) (by kernel_rfl) (by kernel_rfl) (fun _ _ _ h => h) (by rfl) ?hyy28 (by assumption) ?resty28
  case hyy28 =>
    intro w hSw
    obtain ⟨s0, s1, s2, s3⟩ := hSw
    exact Who.exec_loadA _ rfl rfl s3 Tryd.underlying25 rfl info_vec
  (try simp only [Act.put, List.setIfInBounds_toArray, List.set_cons_zero, List.set_cons_succ])
  refine wpAnyH_ready (rs := [4]) (by kernel_rfl) (by simp) ?_
  refine AllReadyH.cons rfl (fun K hK => ?_) AllReadyH.nil
  go_simp
  go_at_call 32
  refine (HD1.out _).mono ?_
  rintro e w1 ⟨rfl, hb⟩
  have HB1 := Lib.hid (HBR.out.trans (hb.mono HBR.out.size))
  clear hb
  refine hK.out _ _ (HSB.out _ HB1.out) (fun hHeld => ?_)
  clear hK K
  (try simp only [Act.put, List.setIfInBounds_toArray, List.set_cons_zero, List.set_cons_succ])
  refine Vc.wpAnyH_read (i := 5) (d := some 21) (v := ?vy29) (by rfl) (by rfl) (by kernel_rfl) (by kernel_rfl) (by kernel_rfl) (fun _ _ _ h => h) (by rfl) ?hyy29 (by assumption) ?resty29
  case hyy29 =>
    intro w hSw
    obtain ⟨s0, s1, s2, s3⟩ := hSw
    go_simp
    try with_reducible rfl
  (try simp only [Act.put, List.setIfInBounds_toArray, List.set_cons_zero, List.set_cons_succ])
  refine Vc.wpAnyH_read (i := 6) (d := some 22) (v := ?vy30) (by rfl) (by rfl) (by kernel_rfl) (by kernel_rfl) (by kernel_rfl) (fun _ _ _ h => h) (by rfl) ?hyy30 (by assumption) ?resty30
  case hyy30 =>
    intro w hSw
    obtain ⟨s0, s1, s2, s3⟩ := hSw
    go_simp
    try with_reducible rfl
  (try simp only [Act.put, List.setIfInBounds_toArray, List.set_cons_zero, List.set_cons_succ])
  refine wpAnyH_ready (rs := [9]) (by kernel_rfl) (by simp) ?_
  refine AllReadyH.cons rfl (fun K hK => ?_) AllReadyH.nil
  go_simp
  go_at_call 32
  refine (HD2.out _).mono ?_
  rintro e w2 ⟨rfl, hb⟩
  have HB2 := Lib.hid (HB1.out.trans (hb.mono HB1.out.size))
  clear hb
  refine hK.out _ _ (HSB.out _ HB2.out) (fun hHeld => ?_)
  clear hK K
  (try simp only [Act.put, List.setIfInBounds_toArray, List.set_cons_zero, List.set_cons_succ])
  refine Vc.wpAnyH_read (i := 10) (d := some 26) (v := ?vy31) (by rfl) (by rfl) (by kernel_rfl) (by kernel_rfl) (by kernel_rfl) (fun _ _ _ h => h) (by rfl) ?hyy31 (by assumption) ?resty31
  case hyy31 =>
    intro w hSw
    obtain ⟨s0, s1, s2, s3⟩ := hSw
    go_simp
    try with_reducible rfl
  (try simp only [Act.put, List.setIfInBounds_toArray, List.set_cons_zero, List.set_cons_succ])
  refine Vc.wpAnyH_read (i := 11) (d := some 27) (v := ?vy32) (by rfl) (by rfl) (by kernel_rfl) (by kernel_rfl) (by kernel_rfl) (fun _ _ _ h => h) (by rfl) ?hyy32 (by assumption) ?resty32
  case hyy32 =>
    intro w hSw
    obtain ⟨s0, s1, s2, s3⟩ := hSw
    go_simp
    try with_reducible rfl
  (try simp only [Act.put, List.setIfInBounds_toArray, List.set_cons_zero, List.set_cons_succ])
  refine wpAnyH_ready (rs := [14]) (by kernel_rfl) (by simp) ?_
  refine AllReadyH.cons rfl (fun K hK => ?_) AllReadyH.nil
  go_simp
  go_at_call 32
  refine (HD3.out _).mono ?_
  rintro e w3 ⟨rfl, hb⟩
  have HB3 := Lib.hid (HB2.out.trans (hb.mono HB2.out.size))
  clear hb
  refine hK.out _ _ (HSB.out _ HB3.out) (fun hHeld => ?_)
  clear hK K
  (try simp only [Act.put, List.setIfInBounds_toArray, List.set_cons_zero, List.set_cons_succ])
  refine Vc.wpAnyH_read (i := 15) (d := some 31) (v := ?vy33) (by rfl) (by rfl) (by kernel_rfl) (by kernel_rfl) (by kernel_rfl) (fun _ _ _ h => h) (by rfl) ?hyy33 (by assumption) ?resty33
  case hyy33 =>
    intro w hSw
    obtain ⟨s0, s1, s2, s3⟩ := hSw
    go_simp
    try with_reducible rfl
  (try simp only [Act.put, List.setIfInBounds_toArray, List.set_cons_zero, List.set_cons_succ])
  refine Vc.wpAnyH_read (i := 16) (d := some 32) (v := ?vy34) (by rfl) (by rfl) (by kernel_rfl) (by kernel_rfl) (by kernel_rfl) (fun _ _ _ h => h) (by rfl) ?hyy34 (by assumption) ?resty34
  case hyy34 =>
    intro w hSw
    obtain ⟨s0, s1, s2, s3⟩ := hSw
    go_simp
    try with_reducible rfl
  (try simp only [Act.put, List.setIfInBounds_toArray, List.set_cons_zero, List.set_cons_succ])
  refine wpAnyH_ready (rs := [19]) (by kernel_rfl) (by simp) ?_
  refine AllReadyH.cons rfl (fun K hK => ?_) AllReadyH.nil
  go_simp
  go_at_call 16
  refine (HSE.out _).mono ?_
  rintro e w4 ⟨rfl, hb⟩
  have HB4 := Lib.hid (HB3.out.trans (hb.mono HB3.out.size))
  clear hb
  refine hK.out _ _ (HSB.out _ HB4.out) (fun hHeld => ?_)
  clear hK K
  (try simp only [Act.put, List.setIfInBounds_toArray, List.set_cons_zero, List.set_cons_succ])
  refine Vc.wpAnyH_read (i := 20) (d := some 36) (v := ?vy35) (by rfl) (by rfl) (by kernel_rfl) (by kernel_rfl) (by kernel_rfl) (fun _ _ _ h => h) (by rfl) ?hyy35 (by assumption) ?resty35
  case hyy35 =>
    intro w hSw
    obtain ⟨s0, s1, s2, s3⟩ := hSw
    go_simp
    try with_reducible rfl
  (try simp only [Act.put, List.setIfInBounds_toArray, List.set_cons_zero, List.set_cons_succ])
  refine Vc.wpAnyH_read (i := 21) (d := some 3) (v := ?vy36) (by rfl) (by rfl) (by kernel_rfl) (by kernel_rfl) (by kernel_rfl) (fun _ _ _ h => h) (by rfl) ?hyy36 (by assumption) ?resty36
  case hyy36 =>
    intro w hSw
    obtain ⟨s0, s1, s2, s3⟩ := hSw
    go_simp
    try with_reducible rfl
  (try simp only [Act.put, List.setIfInBounds_toArray, List.set_cons_zero, List.set_cons_succ])
  refine wpAnyH_done (by kernel_rfl) ?_ _
  have c4 := HQ.out _ HB4.out
  clear c0 ah1 ah2 ah3 ah4 ah5 ah6 ah7 ah8 HD1 HD2 HD3 HSE
  have HBZ := Lib.hid (HB0.out.trans (HB4.out.mono HB0.out.size))
  go_wp2
  go_ret
  exact ⟨by rw [← HEQ.out]; rfl, HBZ.out⟩
set_option maxRecDepth 100000 in
set_option maxHeartbeats 2000000 in
theorem rsaid_k4 (m : MsgP) (hm : FitM m) (q : m.kind = 4) (w : World) : Calls Tryd.prog 14 #[.agg (msgC m)] w fun e w' => e = .returned (.string (saidM m)) ∧ Below w.heap.size w w' := by
  have hb0 := (Below.refl w.heap.size w).alloc (Nat.le_refl _) (.cells (msgC m) 27)
  have HB0 := Lib.hid hb0
  have HX := Lib.hid (Has.fresh w 27 (msgC m))
  have HD1 := Lib.hid (fun W => digits_any m.fr hm.1.2.1 W)
  have HD2 := Lib.hid (fun W => digits_any m.to hm.1.2.2.1 W)
  have HD3 := Lib.hid (fun W => digits_any m.vol hm.1.2.2.2 W)
  have HSE := Lib.hid (fun W => rseen_any m.seen hm.2.2.2.2.1 W)
  have fd : fitI (m.data.size : Int) := by have := hm.2.2.2.2.2; unfold fitI; omega
  have HTB := Lib.hid (fun W => rtext_any m.base hm.2.1.1 hm.2.1.2 W)
  have HTM := Lib.hid (fun W => rtext_any m.mark hm.2.2.1.1 hm.2.2.1.2 W)
  have HDI := Lib.hid (fun W => digits_any m.ix hm.2.2.2.1.1 W)
  have HDT := Lib.hid (fun W => digits_any m.tot hm.2.2.2.1.2 W)
  have HDD := Lib.hid (fun W => digits_any (m.data.size : Int) fd W)
  have s1 := itoaB_size hm.1.2.1
  have s2 := itoaB_size hm.1.2.2.1
  have s3 := itoaB_size hm.1.2.2.2
  have s4 := seenB_size hm.2.2.2.2.1
  have s5 := pairB_size (s := ⟨#[46]⟩) hm.2.1.1 hm.2.1.2
  have s6 := pairB_size (s := ⟨#[46]⟩) hm.2.2.1.1 hm.2.2.1.2
  have s7 := itoaB_size hm.2.2.2.1.1
  have s8 := itoaB_size hm.2.2.2.1.2
  have s9 := itoaB_size fd
  have zd : (⟨#[46]⟩ : ByteArray).size = 1 := rfl
  have z1 : (⟨#[103, 111, 110, 101]⟩ : ByteArray).size = 4 := rfl
  have z2 : (⟨#[32]⟩ : ByteArray).size = 1 := rfl
  obtain ⟨h1, eh1⟩ : ∃ h1 : ByteArray, h1 = (⟨#[103, 111, 110, 101]⟩ : ByteArray) ++ (⟨#[32]⟩ : ByteArray) := ⟨_, rfl⟩
  have fh1 := congrArg ByteArray.size eh1
  rw [ByteArray.size_append] at fh1
  have ah1 := fun W => run_string_add_sum (P := Tryd.prog) W (⟨#[103, 111, 110, 101]⟩ : ByteArray) (⟨#[32]⟩ : ByteArray) (by omega)
  rw [← eh1] at ah1
  obtain ⟨h2, eh2⟩ : ∃ h2 : ByteArray, h2 = h1 ++ (itoaB m.fr) := ⟨_, rfl⟩
  have fh2 := congrArg ByteArray.size eh2
  rw [ByteArray.size_append] at fh2
  have ah2 := fun W => run_string_add_sum (P := Tryd.prog) W h1 (itoaB m.fr) (by omega)
  rw [← eh2] at ah2
  have z3 : (⟨#[62]⟩ : ByteArray).size = 1 := rfl
  obtain ⟨h3, eh3⟩ : ∃ h3 : ByteArray, h3 = h2 ++ (⟨#[62]⟩ : ByteArray) := ⟨_, rfl⟩
  have fh3 := congrArg ByteArray.size eh3
  rw [ByteArray.size_append] at fh3
  have ah3 := fun W => run_string_add_sum (P := Tryd.prog) W h2 (⟨#[62]⟩ : ByteArray) (by omega)
  rw [← eh3] at ah3
  obtain ⟨h4, eh4⟩ : ∃ h4 : ByteArray, h4 = h3 ++ (itoaB m.to) := ⟨_, rfl⟩
  have fh4 := congrArg ByteArray.size eh4
  rw [ByteArray.size_append] at fh4
  have ah4 := fun W => run_string_add_sum (P := Tryd.prog) W h3 (itoaB m.to) (by omega)
  rw [← eh4] at ah4
  have z4 : (⟨#[32, 118]⟩ : ByteArray).size = 2 := rfl
  obtain ⟨h5, eh5⟩ : ∃ h5 : ByteArray, h5 = h4 ++ (⟨#[32, 118]⟩ : ByteArray) := ⟨_, rfl⟩
  have fh5 := congrArg ByteArray.size eh5
  rw [ByteArray.size_append] at fh5
  have ah5 := fun W => run_string_add_sum (P := Tryd.prog) W h4 (⟨#[32, 118]⟩ : ByteArray) (by omega)
  rw [← eh5] at ah5
  obtain ⟨h6, eh6⟩ : ∃ h6 : ByteArray, h6 = h5 ++ (itoaB m.vol) := ⟨_, rfl⟩
  have fh6 := congrArg ByteArray.size eh6
  rw [ByteArray.size_append] at fh6
  have ah6 := fun W => run_string_add_sum (P := Tryd.prog) W h5 (itoaB m.vol) (by omega)
  rw [← eh6] at ah6
  have z5 : (⟨#[32, 115, 101, 101, 110, 61]⟩ : ByteArray).size = 6 := rfl
  obtain ⟨h7, eh7⟩ : ∃ h7 : ByteArray, h7 = h6 ++ (⟨#[32, 115, 101, 101, 110, 61]⟩ : ByteArray) := ⟨_, rfl⟩
  have fh7 := congrArg ByteArray.size eh7
  rw [ByteArray.size_append] at fh7
  have ah7 := fun W => run_string_add_sum (P := Tryd.prog) W h6 (⟨#[32, 115, 101, 101, 110, 61]⟩ : ByteArray) (by omega)
  rw [← eh7] at ah7
  obtain ⟨h8, eh8⟩ : ∃ h8 : ByteArray, h8 = h7 ++ (seenB m.seen) := ⟨_, rfl⟩
  have fh8 := congrArg ByteArray.size eh8
  rw [ByteArray.size_append] at fh8
  have ah8 := fun W => run_string_add_sum (P := Tryd.prog) W h7 (seenB m.seen) (by omega)
  rw [← eh8] at ah8
  have z6 : (⟨#[32, 109, 97, 114, 107, 61]⟩ : ByteArray).size = 6 := rfl
  obtain ⟨h9, eh9⟩ : ∃ h9 : ByteArray, h9 = h8 ++ (⟨#[32, 109, 97, 114, 107, 61]⟩ : ByteArray) := ⟨_, rfl⟩
  have fh9 := congrArg ByteArray.size eh9
  rw [ByteArray.size_append] at fh9
  have ah9 := fun W => run_string_add_sum (P := Tryd.prog) W h8 (⟨#[32, 109, 97, 114, 107, 61]⟩ : ByteArray) (by omega)
  rw [← eh9] at ah9
  obtain ⟨h10, eh10⟩ : ∃ h10 : ByteArray, h10 = h9 ++ (pairB m.mark.1 ⟨#[46]⟩ m.mark.2) := ⟨_, rfl⟩
  have fh10 := congrArg ByteArray.size eh10
  rw [ByteArray.size_append] at fh10
  have ah10 := fun W => run_string_add_sum (P := Tryd.prog) W h9 (pairB m.mark.1 ⟨#[46]⟩ m.mark.2) (by omega)
  rw [← eh10] at ah10
  have HEQ := Lib.hid (show h10 = saidM m by rw [said_k4 m q]; rw [eh10, eh9, eh8, eh7, eh6, eh5, eh4, eh3, eh2, eh1])
  have HQ := Lib.hid (show ∀ V, Below (w.alloc (.cells (msgC m) 27)).heap.size (w.alloc (.cells (msgC m) 27)) V → V.cell? ⟨w.heap.size, 0, none⟩ = some (.int .i64 4) from fun V h => q ▸ (HX.out.below h).at_ 0)
  have HBR := Lib.hid ((Below.refl (w.alloc (.cells (msgC m) 27)).heap.size (w.alloc (.cells (msgC m) 27))).drew)
  have c0 := HQ.out _ (Below.refl _ _)
  have HSB := Lib.hid (show ∀ V, Below (w.alloc (.cells (msgC m) 27)).heap.size (w.alloc (.cells (msgC m) 27)) V → V.cell? ⟨w.heap.size, 1, none⟩ = some (.int .i64 m.fr) ∧ V.cell? ⟨w.heap.size, 2, none⟩ = some (.int .i64 m.to) ∧ V.cell? ⟨w.heap.size, 3, none⟩ = some (.int .i64 m.vol) ∧ V.rangeAt w.heap.size 10 (vecC m.seen).toList from fun V h => ⟨(HX.out.below h).at_ 1, (HX.out.below h).at_ 2, (HX.out.below h).at_ 3, seen_range (HX.out.below h)⟩)
  clear s1 s2 s3 s4 s5 s6 s7 s8 s9 zd fd hb0 z1 z2 fh1 fh2 z3 fh3 fh4 z4 fh5 fh6 z5 fh7 fh8 z6 fh9 fh10 eh1 eh2 eh3 eh4 eh5 eh6 eh7 eh8 eh9 eh10 hm q
  go_enter Tryd.func14, Tryd.ntmps14
  go_wp2
  refine wp_region_held_drew (S := fun V => V.cell? ⟨w.heap.size, 1, none⟩ = some (.int .i64 m.fr) ∧ V.cell? ⟨w.heap.size, 2, none⟩ = some (.int .i64 m.to) ∧ V.cell? ⟨w.heap.size, 3, none⟩ = some (.int .i64 m.vol) ∧ V.rangeAt w.heap.size 10 (vecC m.seen).toList) (by kernel_rfl) (HSB.out _ HBR.out) (fun hHeld => ?_)
  refine Vc.wpAnyH_read (i := 0) (d := some 16) (v := ?vy37) (by rfl) (by rfl) (by kernel_rfl) (by kernel_rfl) (by kernel_rfl) (fun _ _ _ h => h) (by rfl) ?hyy37 (by assumption) ?resty37
  case hyy37 =>
    intro w hSw
    obtain ⟨s0, s1, s2, s3⟩ := hSw
    go_simp
    try with_reducible rfl
  (try simp only [Act.put, List.setIfInBounds_toArray, List.set_cons_zero, List.set_cons_succ])
  refine Vc.wpAnyH_read (i := 1) (d := some 17) (v := ?vy38) (by rfl) (by rfl) (by kernel_rfl) (by kernel_rfl) (by kernel_rfl) (fun _ _ _ h => h) (by rfl) ?hyy38 (by assumption) ?resty38
  case hyy38 =>
    intro w hSw
    obtain ⟨s0, s1, s2, s3⟩ := hSw
    go_simp
    try with_reducible rfl
  (try simp only [Act.put, List.setIfInBounds_toArray, List.set_cons_zero, List.set_cons_succ])
  refine Vc.wpAnyH_read (i := 2) (d := some 18) (v := ?vy39) (by rfl) (by rfl) (by kernel_rfl) (by kernel_rfl) (by kernel_rfl) (fun _ _ _ h => h) (by rfl) ?hyy39 (by assumption) ?resty39
  case hyy39 =>
    intro w hSw
    obtain ⟨s0, s1, s2, s3⟩ := hSw
    go_simp
    try with_reducible rfl
  (try simp only [Act.put, List.setIfInBounds_toArray, List.set_cons_zero, List.set_cons_succ])
  refine Vc.wpAnyH_read (i := 3) (d := some 19) (v := ?vy40) (by rfl) (by rfl) (by kernel_rfl) (by kernel_rfl) (by kernel_rfl) (fun _ _ _ h => h) (by rfl) ?hyy40 (by assumption) ?resty40
  case hyy40 =>
    intro w hSw
    obtain ⟨s0, s1, s2, s3⟩ := hSw
    go_simp
    try with_reducible rfl
  (try simp only [Act.put, List.setIfInBounds_toArray, List.set_cons_zero, List.set_cons_succ])
  refine Vc.wpAnyH_read (i := 7) (d := some 23) (v := ?vy41) (by rfl) (by rfl) (by kernel_rfl) (by kernel_rfl) (by kernel_rfl) (fun _ _ _ h => h) (by rfl) ?hyy41 (by assumption) ?resty41
  case hyy41 =>
    intro w hSw
    obtain ⟨s0, s1, s2, s3⟩ := hSw
    go_simp
    try with_reducible rfl
  (try simp only [Act.put, List.setIfInBounds_toArray, List.set_cons_zero, List.set_cons_succ])
  refine Vc.wpAnyH_read (i := 8) (d := some 24) (v := ?vy42) (by rfl) (by rfl) (by kernel_rfl) (by kernel_rfl) (by kernel_rfl) (fun _ _ _ h => h) (by rfl) ?hyy42 (by assumption) ?resty42
  case hyy42 =>
    intro w hSw
    obtain ⟨s0, s1, s2, s3⟩ := hSw
    go_simp
    try with_reducible rfl
  (try simp only [Act.put, List.setIfInBounds_toArray, List.set_cons_zero, List.set_cons_succ])
  refine Vc.wpAnyH_read (i := 12) (d := some 28) (v := ?vy43) (by rfl) (by rfl) (by kernel_rfl) (by kernel_rfl) (by kernel_rfl) (fun _ _ _ h => h) (by rfl) ?hyy43 (by assumption) ?resty43
  case hyy43 =>
    intro w hSw
    obtain ⟨s0, s1, s2, s3⟩ := hSw
    go_simp
    try with_reducible rfl
  (try simp only [Act.put, List.setIfInBounds_toArray, List.set_cons_zero, List.set_cons_succ])
  refine Vc.wpAnyH_read (i := 13) (d := some 29) (v := ?vy44) (by rfl) (by rfl) (by kernel_rfl) (by kernel_rfl) (by kernel_rfl) (fun _ _ _ h => h) (by rfl) ?hyy44 (by assumption) ?resty44
  case hyy44 =>
    intro w hSw
    obtain ⟨s0, s1, s2, s3⟩ := hSw
    go_simp
    try with_reducible rfl
  (try simp only [Act.put, List.setIfInBounds_toArray, List.set_cons_zero, List.set_cons_succ])
  refine Vc.wpAnyH_read (i := 17) (d := some 33) (v := ?vy45) (by rfl) (by rfl) (by kernel_rfl) (by kernel_rfl) (by kernel_rfl) (fun _ _ _ h => h) (by rfl) ?hyy45 (by assumption) ?resty45
  case hyy45 =>
    intro w hSw
    obtain ⟨s0, s1, s2, s3⟩ := hSw
    go_simp
    try with_reducible rfl
  (try simp only [Act.put, List.setIfInBounds_toArray, List.set_cons_zero, List.set_cons_succ])
  refine Vc.wpAnyH_read (i := 18) (d := some 34) (v := .agg (vecC m.seen)) (by rfl) (by rfl) (by kernel_rfl) (by kernel_rfl) (by kernel_rfl) (fun _ _ _ h => h) (by rfl) ?hyy46 (by assumption) ?resty46
  case hyy46 =>
    intro w hSw
    obtain ⟨s0, s1, s2, s3⟩ := hSw
    exact Who.exec_loadA _ rfl rfl s3 Tryd.underlying25 rfl info_vec
  (try simp only [Act.put, List.setIfInBounds_toArray, List.set_cons_zero, List.set_cons_succ])
  refine wpAnyH_ready (rs := [4]) (by kernel_rfl) (by simp) ?_
  refine AllReadyH.cons rfl (fun K hK => ?_) AllReadyH.nil
  go_simp
  go_at_call 32
  refine (HD1.out _).mono ?_
  rintro e w1 ⟨rfl, hb⟩
  have HB1 := Lib.hid (HBR.out.trans (hb.mono HBR.out.size))
  clear hb
  refine hK.out _ _ (HSB.out _ HB1.out) (fun hHeld => ?_)
  clear hK K
  (try simp only [Act.put, List.setIfInBounds_toArray, List.set_cons_zero, List.set_cons_succ])
  refine Vc.wpAnyH_read (i := 5) (d := some 21) (v := ?vy47) (by rfl) (by rfl) (by kernel_rfl) (by kernel_rfl) (by kernel_rfl) (fun _ _ _ h => h) (by rfl) ?hyy47 (by assumption) ?resty47
  case hyy47 =>
    intro w hSw
    obtain ⟨s0, s1, s2, s3⟩ := hSw
    go_simp
    try with_reducible rfl
  (try simp only [Act.put, List.setIfInBounds_toArray, List.set_cons_zero, List.set_cons_succ])
  refine Vc.wpAnyH_read (i := 6) (d := some 22) (v := ?vy48) (by rfl) (by rfl) (by kernel_rfl) (by kernel_rfl) (by kernel_rfl) (fun _ _ _ h => h) (by rfl) ?hyy48 (by assumption) ?resty48
  case hyy48 =>
    intro w hSw
    obtain ⟨s0, s1, s2, s3⟩ := hSw
    go_simp
    try with_reducible rfl
  (try simp only [Act.put, List.setIfInBounds_toArray, List.set_cons_zero, List.set_cons_succ])
  refine wpAnyH_ready (rs := [9]) (by kernel_rfl) (by simp) ?_
  refine AllReadyH.cons rfl (fun K hK => ?_) AllReadyH.nil
  go_simp
  go_at_call 32
  refine (HD2.out _).mono ?_
  rintro e w2 ⟨rfl, hb⟩
  have HB2 := Lib.hid (HB1.out.trans (hb.mono HB1.out.size))
  clear hb
  refine hK.out _ _ (HSB.out _ HB2.out) (fun hHeld => ?_)
  clear hK K
  (try simp only [Act.put, List.setIfInBounds_toArray, List.set_cons_zero, List.set_cons_succ])
  refine Vc.wpAnyH_read (i := 10) (d := some 26) (v := ?vy49) (by rfl) (by rfl) (by kernel_rfl) (by kernel_rfl) (by kernel_rfl) (fun _ _ _ h => h) (by rfl) ?hyy49 (by assumption) ?resty49
  case hyy49 =>
    intro w hSw
    obtain ⟨s0, s1, s2, s3⟩ := hSw
    go_simp
    try with_reducible rfl
  (try simp only [Act.put, List.setIfInBounds_toArray, List.set_cons_zero, List.set_cons_succ])
  refine Vc.wpAnyH_read (i := 11) (d := some 27) (v := ?vy50) (by rfl) (by rfl) (by kernel_rfl) (by kernel_rfl) (by kernel_rfl) (fun _ _ _ h => h) (by rfl) ?hyy50 (by assumption) ?resty50
  case hyy50 =>
    intro w hSw
    obtain ⟨s0, s1, s2, s3⟩ := hSw
    go_simp
    try with_reducible rfl
  (try simp only [Act.put, List.setIfInBounds_toArray, List.set_cons_zero, List.set_cons_succ])
  refine wpAnyH_ready (rs := [14]) (by kernel_rfl) (by simp) ?_
  refine AllReadyH.cons rfl (fun K hK => ?_) AllReadyH.nil
  go_simp
  go_at_call 32
  refine (HD3.out _).mono ?_
  rintro e w3 ⟨rfl, hb⟩
  have HB3 := Lib.hid (HB2.out.trans (hb.mono HB2.out.size))
  clear hb
  refine hK.out _ _ (HSB.out _ HB3.out) (fun hHeld => ?_)
  clear hK K
  (try simp only [Act.put, List.setIfInBounds_toArray, List.set_cons_zero, List.set_cons_succ])
  refine Vc.wpAnyH_read (i := 15) (d := some 31) (v := ?vy51) (by rfl) (by rfl) (by kernel_rfl) (by kernel_rfl) (by kernel_rfl) (fun _ _ _ h => h) (by rfl) ?hyy51 (by assumption) ?resty51
  case hyy51 =>
    intro w hSw
    obtain ⟨s0, s1, s2, s3⟩ := hSw
    go_simp
    try with_reducible rfl
  (try simp only [Act.put, List.setIfInBounds_toArray, List.set_cons_zero, List.set_cons_succ])
  refine Vc.wpAnyH_read (i := 16) (d := some 32) (v := ?vy52) (by rfl) (by rfl) (by kernel_rfl) (by kernel_rfl) (by kernel_rfl) (fun _ _ _ h => h) (by rfl) ?hyy52 (by assumption) ?resty52
  case hyy52 =>
    intro w hSw
    obtain ⟨s0, s1, s2, s3⟩ := hSw
    go_simp
    try with_reducible rfl
  (try simp only [Act.put, List.setIfInBounds_toArray, List.set_cons_zero, List.set_cons_succ])
  refine wpAnyH_ready (rs := [19]) (by kernel_rfl) (by simp) ?_
  refine AllReadyH.cons rfl (fun K hK => ?_) AllReadyH.nil
  go_simp
  go_at_call 16
  refine (HSE.out _).mono ?_
  rintro e w4 ⟨rfl, hb⟩
  have HB4 := Lib.hid (HB3.out.trans (hb.mono HB3.out.size))
  clear hb
  refine hK.out _ _ (HSB.out _ HB4.out) (fun hHeld => ?_)
  clear hK K
  (try simp only [Act.put, List.setIfInBounds_toArray, List.set_cons_zero, List.set_cons_succ])
  refine Vc.wpAnyH_read (i := 20) (d := some 36) (v := ?vy53) (by rfl) (by rfl) (by kernel_rfl) (by kernel_rfl) (by kernel_rfl) (fun _ _ _ h => h) (by rfl) ?hyy53 (by assumption) ?resty53
  case hyy53 =>
    intro w hSw
    obtain ⟨s0, s1, s2, s3⟩ := hSw
    go_simp
    try with_reducible rfl
  (try simp only [Act.put, List.setIfInBounds_toArray, List.set_cons_zero, List.set_cons_succ])
  refine Vc.wpAnyH_read (i := 21) (d := some 3) (v := ?vy54) (by rfl) (by rfl) (by kernel_rfl) (by kernel_rfl) (by kernel_rfl) (fun _ _ _ h => h) (by rfl) ?hyy54 (by assumption) ?resty54
  case hyy54 =>
    intro w hSw
    obtain ⟨s0, s1, s2, s3⟩ := hSw
    go_simp
    try with_reducible rfl
  (try simp only [Act.put, List.setIfInBounds_toArray, List.set_cons_zero, List.set_cons_succ])
  refine wpAnyH_done (by kernel_rfl) ?_ _
  have c4 := HQ.out _ HB4.out
  clear c0 ah1 ah2 ah3 ah4 ah5 ah6 ah7 ah8 HD1 HD2 HD3 HSE
  have HRM := Lib.hid (mark_range (HX.out.below HB4.out))
  go_wp2_with (first | ((with_reducible refine Who.wpList_loadC 23 (.tmp 66) rfl w.heap.size 6 (#[.int .i64 m.mark.1, .int .i64 m.mark.2]) ?_); refine And.intro ⟨by rfl, by rfl, ⟨_, Tryd.underlying23, rfl⟩, info_mark⟩ (And.intro HRM.out ?_); (try simp only [Act.put, List.setIfInBounds_toArray, List.set_cons_zero, List.set_cons_succ])) | fail)
  refine (HTM.out _).mono ?_
  rintro e w6 ⟨rfl, hb⟩
  have HB6 := Lib.hid (HB4.out.trans (hb.mono HB4.out.size))
  clear hb
  have c6 := HQ.out _ HB6.out
  clear c4
  have HBZ := Lib.hid (HB0.out.trans (HB6.out.mono HB0.out.size))
  go_wp2
  go_ret
  exact ⟨by rw [← HEQ.out]; rfl, HBZ.out⟩
set_option maxRecDepth 100000 in
set_option maxHeartbeats 2000000 in
theorem rsaid_k1 (m : MsgP) (hm : FitM m) (q : m.kind = 1) (w : World) : Calls Tryd.prog 14 #[.agg (msgC m)] w fun e w' => e = .returned (.string (saidM m)) ∧ Below w.heap.size w w' := by
  have hb0 := (Below.refl w.heap.size w).alloc (Nat.le_refl _) (.cells (msgC m) 27)
  have HB0 := Lib.hid hb0
  have HX := Lib.hid (Has.fresh w 27 (msgC m))
  have HD1 := Lib.hid (fun W => digits_any m.fr hm.1.2.1 W)
  have HD2 := Lib.hid (fun W => digits_any m.to hm.1.2.2.1 W)
  have HD3 := Lib.hid (fun W => digits_any m.vol hm.1.2.2.2 W)
  have HSE := Lib.hid (fun W => rseen_any m.seen hm.2.2.2.2.1 W)
  have fd : fitI (m.data.size : Int) := by have := hm.2.2.2.2.2; unfold fitI; omega
  have HTB := Lib.hid (fun W => rtext_any m.base hm.2.1.1 hm.2.1.2 W)
  have HTM := Lib.hid (fun W => rtext_any m.mark hm.2.2.1.1 hm.2.2.1.2 W)
  have HDI := Lib.hid (fun W => digits_any m.ix hm.2.2.2.1.1 W)
  have HDT := Lib.hid (fun W => digits_any m.tot hm.2.2.2.1.2 W)
  have HDD := Lib.hid (fun W => digits_any (m.data.size : Int) fd W)
  have s1 := itoaB_size hm.1.2.1
  have s2 := itoaB_size hm.1.2.2.1
  have s3 := itoaB_size hm.1.2.2.2
  have s4 := seenB_size hm.2.2.2.2.1
  have s5 := pairB_size (s := ⟨#[46]⟩) hm.2.1.1 hm.2.1.2
  have s6 := pairB_size (s := ⟨#[46]⟩) hm.2.2.1.1 hm.2.2.1.2
  have s7 := itoaB_size hm.2.2.2.1.1
  have s8 := itoaB_size hm.2.2.2.1.2
  have s9 := itoaB_size fd
  have zd : (⟨#[46]⟩ : ByteArray).size = 1 := rfl
  have z1 : (⟨#[97, 115, 107]⟩ : ByteArray).size = 3 := rfl
  have z2 : (⟨#[32]⟩ : ByteArray).size = 1 := rfl
  obtain ⟨h1, eh1⟩ : ∃ h1 : ByteArray, h1 = (⟨#[97, 115, 107]⟩ : ByteArray) ++ (⟨#[32]⟩ : ByteArray) := ⟨_, rfl⟩
  have fh1 := congrArg ByteArray.size eh1
  rw [ByteArray.size_append] at fh1
  have ah1 := fun W => run_string_add_sum (P := Tryd.prog) W (⟨#[97, 115, 107]⟩ : ByteArray) (⟨#[32]⟩ : ByteArray) (by omega)
  rw [← eh1] at ah1
  obtain ⟨h2, eh2⟩ : ∃ h2 : ByteArray, h2 = h1 ++ (itoaB m.fr) := ⟨_, rfl⟩
  have fh2 := congrArg ByteArray.size eh2
  rw [ByteArray.size_append] at fh2
  have ah2 := fun W => run_string_add_sum (P := Tryd.prog) W h1 (itoaB m.fr) (by omega)
  rw [← eh2] at ah2
  have z3 : (⟨#[62]⟩ : ByteArray).size = 1 := rfl
  obtain ⟨h3, eh3⟩ : ∃ h3 : ByteArray, h3 = h2 ++ (⟨#[62]⟩ : ByteArray) := ⟨_, rfl⟩
  have fh3 := congrArg ByteArray.size eh3
  rw [ByteArray.size_append] at fh3
  have ah3 := fun W => run_string_add_sum (P := Tryd.prog) W h2 (⟨#[62]⟩ : ByteArray) (by omega)
  rw [← eh3] at ah3
  obtain ⟨h4, eh4⟩ : ∃ h4 : ByteArray, h4 = h3 ++ (itoaB m.to) := ⟨_, rfl⟩
  have fh4 := congrArg ByteArray.size eh4
  rw [ByteArray.size_append] at fh4
  have ah4 := fun W => run_string_add_sum (P := Tryd.prog) W h3 (itoaB m.to) (by omega)
  rw [← eh4] at ah4
  have z4 : (⟨#[32, 118]⟩ : ByteArray).size = 2 := rfl
  obtain ⟨h5, eh5⟩ : ∃ h5 : ByteArray, h5 = h4 ++ (⟨#[32, 118]⟩ : ByteArray) := ⟨_, rfl⟩
  have fh5 := congrArg ByteArray.size eh5
  rw [ByteArray.size_append] at fh5
  have ah5 := fun W => run_string_add_sum (P := Tryd.prog) W h4 (⟨#[32, 118]⟩ : ByteArray) (by omega)
  rw [← eh5] at ah5
  obtain ⟨h6, eh6⟩ : ∃ h6 : ByteArray, h6 = h5 ++ (itoaB m.vol) := ⟨_, rfl⟩
  have fh6 := congrArg ByteArray.size eh6
  rw [ByteArray.size_append] at fh6
  have ah6 := fun W => run_string_add_sum (P := Tryd.prog) W h5 (itoaB m.vol) (by omega)
  rw [← eh6] at ah6
  have z5 : (⟨#[32, 115, 101, 101, 110, 61]⟩ : ByteArray).size = 6 := rfl
  obtain ⟨h7, eh7⟩ : ∃ h7 : ByteArray, h7 = h6 ++ (⟨#[32, 115, 101, 101, 110, 61]⟩ : ByteArray) := ⟨_, rfl⟩
  have fh7 := congrArg ByteArray.size eh7
  rw [ByteArray.size_append] at fh7
  have ah7 := fun W => run_string_add_sum (P := Tryd.prog) W h6 (⟨#[32, 115, 101, 101, 110, 61]⟩ : ByteArray) (by omega)
  rw [← eh7] at ah7
  obtain ⟨h8, eh8⟩ : ∃ h8 : ByteArray, h8 = h7 ++ (seenB m.seen) := ⟨_, rfl⟩
  have fh8 := congrArg ByteArray.size eh8
  rw [ByteArray.size_append] at fh8
  have ah8 := fun W => run_string_add_sum (P := Tryd.prog) W h7 (seenB m.seen) (by omega)
  rw [← eh8] at ah8
  have z6 : (⟨#[32, 98, 97, 115, 101, 61]⟩ : ByteArray).size = 6 := rfl
  obtain ⟨h9, eh9⟩ : ∃ h9 : ByteArray, h9 = h8 ++ (⟨#[32, 98, 97, 115, 101, 61]⟩ : ByteArray) := ⟨_, rfl⟩
  have fh9 := congrArg ByteArray.size eh9
  rw [ByteArray.size_append] at fh9
  have ah9 := fun W => run_string_add_sum (P := Tryd.prog) W h8 (⟨#[32, 98, 97, 115, 101, 61]⟩ : ByteArray) (by omega)
  rw [← eh9] at ah9
  obtain ⟨h10, eh10⟩ : ∃ h10 : ByteArray, h10 = h9 ++ (pairB m.base.1 ⟨#[46]⟩ m.base.2) := ⟨_, rfl⟩
  have fh10 := congrArg ByteArray.size eh10
  rw [ByteArray.size_append] at fh10
  have ah10 := fun W => run_string_add_sum (P := Tryd.prog) W h9 (pairB m.base.1 ⟨#[46]⟩ m.base.2) (by omega)
  rw [← eh10] at ah10
  have z7 : (⟨#[32, 109, 97, 114, 107, 61]⟩ : ByteArray).size = 6 := rfl
  obtain ⟨h11, eh11⟩ : ∃ h11 : ByteArray, h11 = h10 ++ (⟨#[32, 109, 97, 114, 107, 61]⟩ : ByteArray) := ⟨_, rfl⟩
  have fh11 := congrArg ByteArray.size eh11
  rw [ByteArray.size_append] at fh11
  have ah11 := fun W => run_string_add_sum (P := Tryd.prog) W h10 (⟨#[32, 109, 97, 114, 107, 61]⟩ : ByteArray) (by omega)
  rw [← eh11] at ah11
  obtain ⟨h12, eh12⟩ : ∃ h12 : ByteArray, h12 = h11 ++ (pairB m.mark.1 ⟨#[46]⟩ m.mark.2) := ⟨_, rfl⟩
  have fh12 := congrArg ByteArray.size eh12
  rw [ByteArray.size_append] at fh12
  have ah12 := fun W => run_string_add_sum (P := Tryd.prog) W h11 (pairB m.mark.1 ⟨#[46]⟩ m.mark.2) (by omega)
  rw [← eh12] at ah12
  have z8 : (⟨#[32, 102, 114, 111, 109, 61]⟩ : ByteArray).size = 6 := rfl
  obtain ⟨h13, eh13⟩ : ∃ h13 : ByteArray, h13 = h12 ++ (⟨#[32, 102, 114, 111, 109, 61]⟩ : ByteArray) := ⟨_, rfl⟩
  have fh13 := congrArg ByteArray.size eh13
  rw [ByteArray.size_append] at fh13
  have ah13 := fun W => run_string_add_sum (P := Tryd.prog) W h12 (⟨#[32, 102, 114, 111, 109, 61]⟩ : ByteArray) (by omega)
  rw [← eh13] at ah13
  obtain ⟨h14, eh14⟩ : ∃ h14 : ByteArray, h14 = h13 ++ (itoaB m.ix) := ⟨_, rfl⟩
  have fh14 := congrArg ByteArray.size eh14
  rw [ByteArray.size_append] at fh14
  have ah14 := fun W => run_string_add_sum (P := Tryd.prog) W h13 (itoaB m.ix) (by omega)
  rw [← eh14] at ah14
  have HEQ := Lib.hid (show h14 = saidM m by rw [said_k1 m q]; rw [eh14, eh13, eh12, eh11, eh10, eh9, eh8, eh7, eh6, eh5, eh4, eh3, eh2, eh1])
  have HQ := Lib.hid (show ∀ V, Below (w.alloc (.cells (msgC m) 27)).heap.size (w.alloc (.cells (msgC m) 27)) V → V.cell? ⟨w.heap.size, 0, none⟩ = some (.int .i64 1) from fun V h => q ▸ (HX.out.below h).at_ 0)
  have HBR := Lib.hid ((Below.refl (w.alloc (.cells (msgC m) 27)).heap.size (w.alloc (.cells (msgC m) 27))).drew)
  have c0 := HQ.out _ (Below.refl _ _)
  have HSB := Lib.hid (show ∀ V, Below (w.alloc (.cells (msgC m) 27)).heap.size (w.alloc (.cells (msgC m) 27)) V → V.cell? ⟨w.heap.size, 1, none⟩ = some (.int .i64 m.fr) ∧ V.cell? ⟨w.heap.size, 2, none⟩ = some (.int .i64 m.to) ∧ V.cell? ⟨w.heap.size, 3, none⟩ = some (.int .i64 m.vol) ∧ V.rangeAt w.heap.size 10 (vecC m.seen).toList from fun V h => ⟨(HX.out.below h).at_ 1, (HX.out.below h).at_ 2, (HX.out.below h).at_ 3, seen_range (HX.out.below h)⟩)
  clear s1 s2 s3 s4 s5 s6 s7 s8 s9 zd fd hb0 z1 z2 fh1 fh2 z3 fh3 fh4 z4 fh5 fh6 z5 fh7 fh8 z6 fh9 fh10 z7 fh11 fh12 z8 fh13 fh14 eh1 eh2 eh3 eh4 eh5 eh6 eh7 eh8 eh9 eh10 eh11 eh12 eh13 eh14 hm q
  go_enter Tryd.func14, Tryd.ntmps14
  go_wp2
  refine wp_region_held_drew (S := fun V => V.cell? ⟨w.heap.size, 1, none⟩ = some (.int .i64 m.fr) ∧ V.cell? ⟨w.heap.size, 2, none⟩ = some (.int .i64 m.to) ∧ V.cell? ⟨w.heap.size, 3, none⟩ = some (.int .i64 m.vol) ∧ V.rangeAt w.heap.size 10 (vecC m.seen).toList) (by kernel_rfl) (HSB.out _ HBR.out) (fun hHeld => ?_)
  refine Vc.wpAnyH_read (i := 0) (d := some 16) (v := ?vy55) (by rfl) (by rfl) (by kernel_rfl) (by kernel_rfl) (by kernel_rfl) (fun _ _ _ h => h) (by rfl) ?hyy55 (by assumption) ?resty55
  case hyy55 =>
    intro w hSw
    obtain ⟨s0, s1, s2, s3⟩ := hSw
    go_simp
    try with_reducible rfl
  (try simp only [Act.put, List.setIfInBounds_toArray, List.set_cons_zero, List.set_cons_succ])
  refine Vc.wpAnyH_read (i := 1) (d := some 17) (v := ?vy56) (by rfl) (by rfl) (by kernel_rfl) (by kernel_rfl) (by kernel_rfl) (fun _ _ _ h => h) (by rfl) ?hyy56 (by assumption) ?resty56
  case hyy56 =>
    intro w hSw
    obtain ⟨s0, s1, s2, s3⟩ := hSw
    go_simp
    try with_reducible rfl
  (try simp only [Act.put, List.setIfInBounds_toArray, List.set_cons_zero, List.set_cons_succ])
  refine Vc.wpAnyH_read (i := 2) (d := some 18) (v := ?vy57) (by rfl) (by rfl) (by kernel_rfl) (by kernel_rfl) (by kernel_rfl) (fun _ _ _ h => h) (by rfl) ?hyy57 (by assumption) ?resty57
  case hyy57 =>
    intro w hSw
    obtain ⟨s0, s1, s2, s3⟩ := hSw
    go_simp
    try with_reducible rfl
  (try simp only [Act.put, List.setIfInBounds_toArray, List.set_cons_zero, List.set_cons_succ])
  refine Vc.wpAnyH_read (i := 3) (d := some 19) (v := ?vy58) (by rfl) (by rfl) (by kernel_rfl) (by kernel_rfl) (by kernel_rfl) (fun _ _ _ h => h) (by rfl) ?hyy58 (by assumption) ?resty58
  case hyy58 =>
    intro w hSw
    obtain ⟨s0, s1, s2, s3⟩ := hSw
    go_simp
    try with_reducible rfl
  (try simp only [Act.put, List.setIfInBounds_toArray, List.set_cons_zero, List.set_cons_succ])
  refine Vc.wpAnyH_read (i := 7) (d := some 23) (v := ?vy59) (by rfl) (by rfl) (by kernel_rfl) (by kernel_rfl) (by kernel_rfl) (fun _ _ _ h => h) (by rfl) ?hyy59 (by assumption) ?resty59
  case hyy59 =>
    intro w hSw
    obtain ⟨s0, s1, s2, s3⟩ := hSw
    go_simp
    try with_reducible rfl
  (try simp only [Act.put, List.setIfInBounds_toArray, List.set_cons_zero, List.set_cons_succ])
  refine Vc.wpAnyH_read (i := 8) (d := some 24) (v := ?vy60) (by rfl) (by rfl) (by kernel_rfl) (by kernel_rfl) (by kernel_rfl) (fun _ _ _ h => h) (by rfl) ?hyy60 (by assumption) ?resty60
  case hyy60 =>
    intro w hSw
    obtain ⟨s0, s1, s2, s3⟩ := hSw
    go_simp
    try with_reducible rfl
  (try simp only [Act.put, List.setIfInBounds_toArray, List.set_cons_zero, List.set_cons_succ])
  refine Vc.wpAnyH_read (i := 12) (d := some 28) (v := ?vy61) (by rfl) (by rfl) (by kernel_rfl) (by kernel_rfl) (by kernel_rfl) (fun _ _ _ h => h) (by rfl) ?hyy61 (by assumption) ?resty61
  case hyy61 =>
    intro w hSw
    obtain ⟨s0, s1, s2, s3⟩ := hSw
    go_simp
    try with_reducible rfl
  (try simp only [Act.put, List.setIfInBounds_toArray, List.set_cons_zero, List.set_cons_succ])
  refine Vc.wpAnyH_read (i := 13) (d := some 29) (v := ?vy62) (by rfl) (by rfl) (by kernel_rfl) (by kernel_rfl) (by kernel_rfl) (fun _ _ _ h => h) (by rfl) ?hyy62 (by assumption) ?resty62
  case hyy62 =>
    intro w hSw
    obtain ⟨s0, s1, s2, s3⟩ := hSw
    go_simp
    try with_reducible rfl
  (try simp only [Act.put, List.setIfInBounds_toArray, List.set_cons_zero, List.set_cons_succ])
  refine Vc.wpAnyH_read (i := 17) (d := some 33) (v := ?vy63) (by rfl) (by rfl) (by kernel_rfl) (by kernel_rfl) (by kernel_rfl) (fun _ _ _ h => h) (by rfl) ?hyy63 (by assumption) ?resty63
  case hyy63 =>
    intro w hSw
    obtain ⟨s0, s1, s2, s3⟩ := hSw
    go_simp
    try with_reducible rfl
  (try simp only [Act.put, List.setIfInBounds_toArray, List.set_cons_zero, List.set_cons_succ])
  refine Vc.wpAnyH_read (i := 18) (d := some 34) (v := .agg (vecC m.seen)) (by rfl) (by rfl) (by kernel_rfl) (by kernel_rfl) (by kernel_rfl) (fun _ _ _ h => h) (by rfl) ?hyy64 (by assumption) ?resty64
  case hyy64 =>
    intro w hSw
    obtain ⟨s0, s1, s2, s3⟩ := hSw
    exact Who.exec_loadA _ rfl rfl s3 Tryd.underlying25 rfl info_vec
  (try simp only [Act.put, List.setIfInBounds_toArray, List.set_cons_zero, List.set_cons_succ])
  refine wpAnyH_ready (rs := [4]) (by kernel_rfl) (by simp) ?_
  refine AllReadyH.cons rfl (fun K hK => ?_) AllReadyH.nil
  go_simp
  go_at_call 32
  refine (HD1.out _).mono ?_
  rintro e w1 ⟨rfl, hb⟩
  have HB1 := Lib.hid (HBR.out.trans (hb.mono HBR.out.size))
  clear hb
  refine hK.out _ _ (HSB.out _ HB1.out) (fun hHeld => ?_)
  clear hK K
  (try simp only [Act.put, List.setIfInBounds_toArray, List.set_cons_zero, List.set_cons_succ])
  refine Vc.wpAnyH_read (i := 5) (d := some 21) (v := ?vy65) (by rfl) (by rfl) (by kernel_rfl) (by kernel_rfl) (by kernel_rfl) (fun _ _ _ h => h) (by rfl) ?hyy65 (by assumption) ?resty65
  case hyy65 =>
    intro w hSw
    obtain ⟨s0, s1, s2, s3⟩ := hSw
    go_simp
    try with_reducible rfl
  (try simp only [Act.put, List.setIfInBounds_toArray, List.set_cons_zero, List.set_cons_succ])
  refine Vc.wpAnyH_read (i := 6) (d := some 22) (v := ?vy66) (by rfl) (by rfl) (by kernel_rfl) (by kernel_rfl) (by kernel_rfl) (fun _ _ _ h => h) (by rfl) ?hyy66 (by assumption) ?resty66
  case hyy66 =>
    intro w hSw
    obtain ⟨s0, s1, s2, s3⟩ := hSw
    go_simp
    try with_reducible rfl
  (try simp only [Act.put, List.setIfInBounds_toArray, List.set_cons_zero, List.set_cons_succ])
  refine wpAnyH_ready (rs := [9]) (by kernel_rfl) (by simp) ?_
  refine AllReadyH.cons rfl (fun K hK => ?_) AllReadyH.nil
  go_simp
  go_at_call 32
  refine (HD2.out _).mono ?_
  rintro e w2 ⟨rfl, hb⟩
  have HB2 := Lib.hid (HB1.out.trans (hb.mono HB1.out.size))
  clear hb
  refine hK.out _ _ (HSB.out _ HB2.out) (fun hHeld => ?_)
  clear hK K
  (try simp only [Act.put, List.setIfInBounds_toArray, List.set_cons_zero, List.set_cons_succ])
  refine Vc.wpAnyH_read (i := 10) (d := some 26) (v := ?vy67) (by rfl) (by rfl) (by kernel_rfl) (by kernel_rfl) (by kernel_rfl) (fun _ _ _ h => h) (by rfl) ?hyy67 (by assumption) ?resty67
  case hyy67 =>
    intro w hSw
    obtain ⟨s0, s1, s2, s3⟩ := hSw
    go_simp
    try with_reducible rfl
  (try simp only [Act.put, List.setIfInBounds_toArray, List.set_cons_zero, List.set_cons_succ])
  refine Vc.wpAnyH_read (i := 11) (d := some 27) (v := ?vy68) (by rfl) (by rfl) (by kernel_rfl) (by kernel_rfl) (by kernel_rfl) (fun _ _ _ h => h) (by rfl) ?hyy68 (by assumption) ?resty68
  case hyy68 =>
    intro w hSw
    obtain ⟨s0, s1, s2, s3⟩ := hSw
    go_simp
    try with_reducible rfl
  (try simp only [Act.put, List.setIfInBounds_toArray, List.set_cons_zero, List.set_cons_succ])
  refine wpAnyH_ready (rs := [14]) (by kernel_rfl) (by simp) ?_
  refine AllReadyH.cons rfl (fun K hK => ?_) AllReadyH.nil
  go_simp
  go_at_call 32
  refine (HD3.out _).mono ?_
  rintro e w3 ⟨rfl, hb⟩
  have HB3 := Lib.hid (HB2.out.trans (hb.mono HB2.out.size))
  clear hb
  refine hK.out _ _ (HSB.out _ HB3.out) (fun hHeld => ?_)
  clear hK K
  (try simp only [Act.put, List.setIfInBounds_toArray, List.set_cons_zero, List.set_cons_succ])
  refine Vc.wpAnyH_read (i := 15) (d := some 31) (v := ?vy69) (by rfl) (by rfl) (by kernel_rfl) (by kernel_rfl) (by kernel_rfl) (fun _ _ _ h => h) (by rfl) ?hyy69 (by assumption) ?resty69
  case hyy69 =>
    intro w hSw
    obtain ⟨s0, s1, s2, s3⟩ := hSw
    go_simp
    try with_reducible rfl
  (try simp only [Act.put, List.setIfInBounds_toArray, List.set_cons_zero, List.set_cons_succ])
  refine Vc.wpAnyH_read (i := 16) (d := some 32) (v := ?vy70) (by rfl) (by rfl) (by kernel_rfl) (by kernel_rfl) (by kernel_rfl) (fun _ _ _ h => h) (by rfl) ?hyy70 (by assumption) ?resty70
  case hyy70 =>
    intro w hSw
    obtain ⟨s0, s1, s2, s3⟩ := hSw
    go_simp
    try with_reducible rfl
  (try simp only [Act.put, List.setIfInBounds_toArray, List.set_cons_zero, List.set_cons_succ])
  refine wpAnyH_ready (rs := [19]) (by kernel_rfl) (by simp) ?_
  refine AllReadyH.cons rfl (fun K hK => ?_) AllReadyH.nil
  go_simp
  go_at_call 16
  refine (HSE.out _).mono ?_
  rintro e w4 ⟨rfl, hb⟩
  have HB4 := Lib.hid (HB3.out.trans (hb.mono HB3.out.size))
  clear hb
  refine hK.out _ _ (HSB.out _ HB4.out) (fun hHeld => ?_)
  clear hK K
  (try simp only [Act.put, List.setIfInBounds_toArray, List.set_cons_zero, List.set_cons_succ])
  refine Vc.wpAnyH_read (i := 20) (d := some 36) (v := ?vy71) (by rfl) (by rfl) (by kernel_rfl) (by kernel_rfl) (by kernel_rfl) (fun _ _ _ h => h) (by rfl) ?hyy71 (by assumption) ?resty71
  case hyy71 =>
    intro w hSw
    obtain ⟨s0, s1, s2, s3⟩ := hSw
    go_simp
    try with_reducible rfl
  (try simp only [Act.put, List.setIfInBounds_toArray, List.set_cons_zero, List.set_cons_succ])
  refine Vc.wpAnyH_read (i := 21) (d := some 3) (v := ?vy72) (by rfl) (by rfl) (by kernel_rfl) (by kernel_rfl) (by kernel_rfl) (fun _ _ _ h => h) (by rfl) ?hyy72 (by assumption) ?resty72
  case hyy72 =>
    intro w hSw
    obtain ⟨s0, s1, s2, s3⟩ := hSw
    go_simp
    try with_reducible rfl
  (try simp only [Act.put, List.setIfInBounds_toArray, List.set_cons_zero, List.set_cons_succ])
  refine wpAnyH_done (by kernel_rfl) ?_ _
  have c4 := HQ.out _ HB4.out
  clear c0 ah1 ah2 ah3 ah4 ah5 ah6 ah7 ah8 HD1 HD2 HD3 HSE
  have HRB := Lib.hid (base_range (HX.out.below HB4.out))
  go_wp2_with (first | ((with_reducible refine Who.wpList_loadC 23 (.tmp 47) rfl w.heap.size 4 (#[.int .i64 m.base.1, .int .i64 m.base.2]) ?_); refine And.intro ⟨by rfl, by rfl, ⟨_, Tryd.underlying23, rfl⟩, info_mark⟩ (And.intro HRB.out ?_); (try simp only [Act.put, List.setIfInBounds_toArray, List.set_cons_zero, List.set_cons_succ])) | fail)
  refine (HTB.out _).mono ?_
  rintro e w5 ⟨rfl, hb⟩
  have HB5 := Lib.hid (HB4.out.trans (hb.mono HB4.out.size))
  clear hb
  have c5 := HQ.out _ HB5.out
  clear c4
  have HRM := Lib.hid (mark_range (HX.out.below HB5.out))
  go_wp2_with (first | ((with_reducible refine Who.wpList_loadC 23 (.tmp 66) rfl w.heap.size 6 (#[.int .i64 m.mark.1, .int .i64 m.mark.2]) ?_); refine And.intro ⟨by rfl, by rfl, ⟨_, Tryd.underlying23, rfl⟩, info_mark⟩ (And.intro HRM.out ?_); (try simp only [Act.put, List.setIfInBounds_toArray, List.set_cons_zero, List.set_cons_succ])) | fail)
  refine (HTM.out _).mono ?_
  rintro e w6 ⟨rfl, hb⟩
  have HB6 := Lib.hid (HB5.out.trans (hb.mono HB5.out.size))
  clear hb
  have c6 := HQ.out _ HB6.out
  clear c5
  have cx : w6.cell? ⟨w.heap.size, 8, none⟩ = some (.int .i64 m.ix) := (HX.out.below HB6.out).at_ 8
  go_wp2_with fail
  refine (HDI.out _).mono ?_
  rintro e w7 ⟨rfl, hb⟩
  have HB7 := Lib.hid (HB6.out.trans (hb.mono HB6.out.size))
  clear hb
  have c7 := HQ.out _ HB7.out
  clear c6
  have HBZ := Lib.hid (HB0.out.trans (HB7.out.mono HB0.out.size))
  go_wp2
  go_ret
  exact ⟨by rw [← HEQ.out]; rfl, HBZ.out⟩
set_option maxRecDepth 100000 in
set_option maxHeartbeats 2000000 in
theorem rsaid_k2 (m : MsgP) (hm : FitM m) (q : m.kind = 2) (w : World) : Calls Tryd.prog 14 #[.agg (msgC m)] w fun e w' => e = .returned (.string (saidM m)) ∧ Below w.heap.size w w' := by
  have hb0 := (Below.refl w.heap.size w).alloc (Nat.le_refl _) (.cells (msgC m) 27)
  have HB0 := Lib.hid hb0
  have HX := Lib.hid (Has.fresh w 27 (msgC m))
  have HD1 := Lib.hid (fun W => digits_any m.fr hm.1.2.1 W)
  have HD2 := Lib.hid (fun W => digits_any m.to hm.1.2.2.1 W)
  have HD3 := Lib.hid (fun W => digits_any m.vol hm.1.2.2.2 W)
  have HSE := Lib.hid (fun W => rseen_any m.seen hm.2.2.2.2.1 W)
  have fd : fitI (m.data.size : Int) := by have := hm.2.2.2.2.2; unfold fitI; omega
  have HTB := Lib.hid (fun W => rtext_any m.base hm.2.1.1 hm.2.1.2 W)
  have HTM := Lib.hid (fun W => rtext_any m.mark hm.2.2.1.1 hm.2.2.1.2 W)
  have HDI := Lib.hid (fun W => digits_any m.ix hm.2.2.2.1.1 W)
  have HDT := Lib.hid (fun W => digits_any m.tot hm.2.2.2.1.2 W)
  have HDD := Lib.hid (fun W => digits_any (m.data.size : Int) fd W)
  have s1 := itoaB_size hm.1.2.1
  have s2 := itoaB_size hm.1.2.2.1
  have s3 := itoaB_size hm.1.2.2.2
  have s4 := seenB_size hm.2.2.2.2.1
  have s5 := pairB_size (s := ⟨#[46]⟩) hm.2.1.1 hm.2.1.2
  have s6 := pairB_size (s := ⟨#[46]⟩) hm.2.2.1.1 hm.2.2.1.2
  have s7 := itoaB_size hm.2.2.2.1.1
  have s8 := itoaB_size hm.2.2.2.1.2
  have s9 := itoaB_size fd
  have zd : (⟨#[46]⟩ : ByteArray).size = 1 := rfl
  have z1 : (⟨#[112, 97, 114, 116]⟩ : ByteArray).size = 4 := rfl
  have z2 : (⟨#[32]⟩ : ByteArray).size = 1 := rfl
  obtain ⟨h1, eh1⟩ : ∃ h1 : ByteArray, h1 = (⟨#[112, 97, 114, 116]⟩ : ByteArray) ++ (⟨#[32]⟩ : ByteArray) := ⟨_, rfl⟩
  have fh1 := congrArg ByteArray.size eh1
  rw [ByteArray.size_append] at fh1
  have ah1 := fun W => run_string_add_sum (P := Tryd.prog) W (⟨#[112, 97, 114, 116]⟩ : ByteArray) (⟨#[32]⟩ : ByteArray) (by omega)
  rw [← eh1] at ah1
  obtain ⟨h2, eh2⟩ : ∃ h2 : ByteArray, h2 = h1 ++ (itoaB m.fr) := ⟨_, rfl⟩
  have fh2 := congrArg ByteArray.size eh2
  rw [ByteArray.size_append] at fh2
  have ah2 := fun W => run_string_add_sum (P := Tryd.prog) W h1 (itoaB m.fr) (by omega)
  rw [← eh2] at ah2
  have z3 : (⟨#[62]⟩ : ByteArray).size = 1 := rfl
  obtain ⟨h3, eh3⟩ : ∃ h3 : ByteArray, h3 = h2 ++ (⟨#[62]⟩ : ByteArray) := ⟨_, rfl⟩
  have fh3 := congrArg ByteArray.size eh3
  rw [ByteArray.size_append] at fh3
  have ah3 := fun W => run_string_add_sum (P := Tryd.prog) W h2 (⟨#[62]⟩ : ByteArray) (by omega)
  rw [← eh3] at ah3
  obtain ⟨h4, eh4⟩ : ∃ h4 : ByteArray, h4 = h3 ++ (itoaB m.to) := ⟨_, rfl⟩
  have fh4 := congrArg ByteArray.size eh4
  rw [ByteArray.size_append] at fh4
  have ah4 := fun W => run_string_add_sum (P := Tryd.prog) W h3 (itoaB m.to) (by omega)
  rw [← eh4] at ah4
  have z4 : (⟨#[32, 118]⟩ : ByteArray).size = 2 := rfl
  obtain ⟨h5, eh5⟩ : ∃ h5 : ByteArray, h5 = h4 ++ (⟨#[32, 118]⟩ : ByteArray) := ⟨_, rfl⟩
  have fh5 := congrArg ByteArray.size eh5
  rw [ByteArray.size_append] at fh5
  have ah5 := fun W => run_string_add_sum (P := Tryd.prog) W h4 (⟨#[32, 118]⟩ : ByteArray) (by omega)
  rw [← eh5] at ah5
  obtain ⟨h6, eh6⟩ : ∃ h6 : ByteArray, h6 = h5 ++ (itoaB m.vol) := ⟨_, rfl⟩
  have fh6 := congrArg ByteArray.size eh6
  rw [ByteArray.size_append] at fh6
  have ah6 := fun W => run_string_add_sum (P := Tryd.prog) W h5 (itoaB m.vol) (by omega)
  rw [← eh6] at ah6
  have z5 : (⟨#[32, 115, 101, 101, 110, 61]⟩ : ByteArray).size = 6 := rfl
  obtain ⟨h7, eh7⟩ : ∃ h7 : ByteArray, h7 = h6 ++ (⟨#[32, 115, 101, 101, 110, 61]⟩ : ByteArray) := ⟨_, rfl⟩
  have fh7 := congrArg ByteArray.size eh7
  rw [ByteArray.size_append] at fh7
  have ah7 := fun W => run_string_add_sum (P := Tryd.prog) W h6 (⟨#[32, 115, 101, 101, 110, 61]⟩ : ByteArray) (by omega)
  rw [← eh7] at ah7
  obtain ⟨h8, eh8⟩ : ∃ h8 : ByteArray, h8 = h7 ++ (seenB m.seen) := ⟨_, rfl⟩
  have fh8 := congrArg ByteArray.size eh8
  rw [ByteArray.size_append] at fh8
  have ah8 := fun W => run_string_add_sum (P := Tryd.prog) W h7 (seenB m.seen) (by omega)
  rw [← eh8] at ah8
  have z6 : (⟨#[32, 98, 97, 115, 101, 61]⟩ : ByteArray).size = 6 := rfl
  obtain ⟨h9, eh9⟩ : ∃ h9 : ByteArray, h9 = h8 ++ (⟨#[32, 98, 97, 115, 101, 61]⟩ : ByteArray) := ⟨_, rfl⟩
  have fh9 := congrArg ByteArray.size eh9
  rw [ByteArray.size_append] at fh9
  have ah9 := fun W => run_string_add_sum (P := Tryd.prog) W h8 (⟨#[32, 98, 97, 115, 101, 61]⟩ : ByteArray) (by omega)
  rw [← eh9] at ah9
  obtain ⟨h10, eh10⟩ : ∃ h10 : ByteArray, h10 = h9 ++ (pairB m.base.1 ⟨#[46]⟩ m.base.2) := ⟨_, rfl⟩
  have fh10 := congrArg ByteArray.size eh10
  rw [ByteArray.size_append] at fh10
  have ah10 := fun W => run_string_add_sum (P := Tryd.prog) W h9 (pairB m.base.1 ⟨#[46]⟩ m.base.2) (by omega)
  rw [← eh10] at ah10
  have z7 : (⟨#[32, 109, 97, 114, 107, 61]⟩ : ByteArray).size = 6 := rfl
  obtain ⟨h11, eh11⟩ : ∃ h11 : ByteArray, h11 = h10 ++ (⟨#[32, 109, 97, 114, 107, 61]⟩ : ByteArray) := ⟨_, rfl⟩
  have fh11 := congrArg ByteArray.size eh11
  rw [ByteArray.size_append] at fh11
  have ah11 := fun W => run_string_add_sum (P := Tryd.prog) W h10 (⟨#[32, 109, 97, 114, 107, 61]⟩ : ByteArray) (by omega)
  rw [← eh11] at ah11
  obtain ⟨h12, eh12⟩ : ∃ h12 : ByteArray, h12 = h11 ++ (pairB m.mark.1 ⟨#[46]⟩ m.mark.2) := ⟨_, rfl⟩
  have fh12 := congrArg ByteArray.size eh12
  rw [ByteArray.size_append] at fh12
  have ah12 := fun W => run_string_add_sum (P := Tryd.prog) W h11 (pairB m.mark.1 ⟨#[46]⟩ m.mark.2) (by omega)
  rw [← eh12] at ah12
  have z8 : (⟨#[32, 112, 97, 114, 116, 61]⟩ : ByteArray).size = 6 := rfl
  obtain ⟨h13, eh13⟩ : ∃ h13 : ByteArray, h13 = h12 ++ (⟨#[32, 112, 97, 114, 116, 61]⟩ : ByteArray) := ⟨_, rfl⟩
  have fh13 := congrArg ByteArray.size eh13
  rw [ByteArray.size_append] at fh13
  have ah13 := fun W => run_string_add_sum (P := Tryd.prog) W h12 (⟨#[32, 112, 97, 114, 116, 61]⟩ : ByteArray) (by omega)
  rw [← eh13] at ah13
  obtain ⟨h14, eh14⟩ : ∃ h14 : ByteArray, h14 = h13 ++ (itoaB m.ix) := ⟨_, rfl⟩
  have fh14 := congrArg ByteArray.size eh14
  rw [ByteArray.size_append] at fh14
  have ah14 := fun W => run_string_add_sum (P := Tryd.prog) W h13 (itoaB m.ix) (by omega)
  rw [← eh14] at ah14
  have z9 : (⟨#[47]⟩ : ByteArray).size = 1 := rfl
  obtain ⟨h15, eh15⟩ : ∃ h15 : ByteArray, h15 = h14 ++ (⟨#[47]⟩ : ByteArray) := ⟨_, rfl⟩
  have fh15 := congrArg ByteArray.size eh15
  rw [ByteArray.size_append] at fh15
  have ah15 := fun W => run_string_add_sum (P := Tryd.prog) W h14 (⟨#[47]⟩ : ByteArray) (by omega)
  rw [← eh15] at ah15
  obtain ⟨h16, eh16⟩ : ∃ h16 : ByteArray, h16 = h15 ++ (itoaB m.tot) := ⟨_, rfl⟩
  have fh16 := congrArg ByteArray.size eh16
  rw [ByteArray.size_append] at fh16
  have ah16 := fun W => run_string_add_sum (P := Tryd.prog) W h15 (itoaB m.tot) (by omega)
  rw [← eh16] at ah16
  have z10 : (⟨#[32, 98, 121, 116, 101, 115, 61]⟩ : ByteArray).size = 7 := rfl
  obtain ⟨h17, eh17⟩ : ∃ h17 : ByteArray, h17 = h16 ++ (⟨#[32, 98, 121, 116, 101, 115, 61]⟩ : ByteArray) := ⟨_, rfl⟩
  have fh17 := congrArg ByteArray.size eh17
  rw [ByteArray.size_append] at fh17
  have ah17 := fun W => run_string_add_sum (P := Tryd.prog) W h16 (⟨#[32, 98, 121, 116, 101, 115, 61]⟩ : ByteArray) (by omega)
  rw [← eh17] at ah17
  obtain ⟨h18, eh18⟩ : ∃ h18 : ByteArray, h18 = h17 ++ (itoaB (m.data.size : Int)) := ⟨_, rfl⟩
  have fh18 := congrArg ByteArray.size eh18
  rw [ByteArray.size_append] at fh18
  have ah18 := fun W => run_string_add_sum (P := Tryd.prog) W h17 (itoaB (m.data.size : Int)) (by omega)
  rw [← eh18] at ah18
  have HEQ := Lib.hid (show h18 = saidM m by rw [said_k2 m q]; rw [eh18, eh17, eh16, eh15, eh14, eh13, eh12, eh11, eh10, eh9, eh8, eh7, eh6, eh5, eh4, eh3, eh2, eh1])
  have HQ := Lib.hid (show ∀ V, Below (w.alloc (.cells (msgC m) 27)).heap.size (w.alloc (.cells (msgC m) 27)) V → V.cell? ⟨w.heap.size, 0, none⟩ = some (.int .i64 2) from fun V h => q ▸ (HX.out.below h).at_ 0)
  have HBR := Lib.hid ((Below.refl (w.alloc (.cells (msgC m) 27)).heap.size (w.alloc (.cells (msgC m) 27))).drew)
  have c0 := HQ.out _ (Below.refl _ _)
  have HSB := Lib.hid (show ∀ V, Below (w.alloc (.cells (msgC m) 27)).heap.size (w.alloc (.cells (msgC m) 27)) V → V.cell? ⟨w.heap.size, 1, none⟩ = some (.int .i64 m.fr) ∧ V.cell? ⟨w.heap.size, 2, none⟩ = some (.int .i64 m.to) ∧ V.cell? ⟨w.heap.size, 3, none⟩ = some (.int .i64 m.vol) ∧ V.rangeAt w.heap.size 10 (vecC m.seen).toList from fun V h => ⟨(HX.out.below h).at_ 1, (HX.out.below h).at_ 2, (HX.out.below h).at_ 3, seen_range (HX.out.below h)⟩)
  clear s1 s2 s3 s4 s5 s6 s7 s8 s9 zd fd hb0 z1 z2 fh1 fh2 z3 fh3 fh4 z4 fh5 fh6 z5 fh7 fh8 z6 fh9 fh10 z7 fh11 fh12 z8 fh13 fh14 z9 fh15 fh16 z10 fh17 fh18 eh1 eh2 eh3 eh4 eh5 eh6 eh7 eh8 eh9 eh10 eh11 eh12 eh13 eh14 eh15 eh16 eh17 eh18 hm q
  go_enter Tryd.func14, Tryd.ntmps14
  go_wp2
  refine wp_region_held_drew (S := fun V => V.cell? ⟨w.heap.size, 1, none⟩ = some (.int .i64 m.fr) ∧ V.cell? ⟨w.heap.size, 2, none⟩ = some (.int .i64 m.to) ∧ V.cell? ⟨w.heap.size, 3, none⟩ = some (.int .i64 m.vol) ∧ V.rangeAt w.heap.size 10 (vecC m.seen).toList) (by kernel_rfl) (HSB.out _ HBR.out) (fun hHeld => ?_)
  refine Vc.wpAnyH_read (i := 0) (d := some 16) (v := ?vy73) (by rfl) (by rfl) (by kernel_rfl) (by kernel_rfl) (by kernel_rfl) (fun _ _ _ h => h) (by rfl) ?hyy73 (by assumption) ?resty73
  case hyy73 =>
    intro w hSw
    obtain ⟨s0, s1, s2, s3⟩ := hSw
    go_simp
    try with_reducible rfl
  (try simp only [Act.put, List.setIfInBounds_toArray, List.set_cons_zero, List.set_cons_succ])
  refine Vc.wpAnyH_read (i := 1) (d := some 17) (v := ?vy74) (by rfl) (by rfl) (by kernel_rfl) (by kernel_rfl) (by kernel_rfl) (fun _ _ _ h => h) (by rfl) ?hyy74 (by assumption) ?resty74
  case hyy74 =>
    intro w hSw
    obtain ⟨s0, s1, s2, s3⟩ := hSw
    go_simp
    try with_reducible rfl
  (try simp only [Act.put, List.setIfInBounds_toArray, List.set_cons_zero, List.set_cons_succ])
  refine Vc.wpAnyH_read (i := 2) (d := some 18) (v := ?vy75) (by rfl) (by rfl) (by kernel_rfl) (by kernel_rfl) (by kernel_rfl) (fun _ _ _ h => h) (by rfl) ?hyy75 (by assumption) ?resty75
  case hyy75 =>
    intro w hSw
    obtain ⟨s0, s1, s2, s3⟩ := hSw
    go_simp
    try with_reducible rfl
  (try simp only [Act.put, List.setIfInBounds_toArray, List.set_cons_zero, List.set_cons_succ])
  refine Vc.wpAnyH_read (i := 3) (d := some 19) (v := ?vy76) (by rfl) (by rfl) (by kernel_rfl) (by kernel_rfl) (by kernel_rfl) (fun _ _ _ h => h) (by rfl) ?hyy76 (by assumption) ?resty76
  case hyy76 =>
    intro w hSw
    obtain ⟨s0, s1, s2, s3⟩ := hSw
    go_simp
    try with_reducible rfl
  (try simp only [Act.put, List.setIfInBounds_toArray, List.set_cons_zero, List.set_cons_succ])
  refine Vc.wpAnyH_read (i := 7) (d := some 23) (v := ?vy77) (by rfl) (by rfl) (by kernel_rfl) (by kernel_rfl) (by kernel_rfl) (fun _ _ _ h => h) (by rfl) ?hyy77 (by assumption) ?resty77
  case hyy77 =>
    intro w hSw
    obtain ⟨s0, s1, s2, s3⟩ := hSw
    go_simp
    try with_reducible rfl
  (try simp only [Act.put, List.setIfInBounds_toArray, List.set_cons_zero, List.set_cons_succ])
  refine Vc.wpAnyH_read (i := 8) (d := some 24) (v := ?vy78) (by rfl) (by rfl) (by kernel_rfl) (by kernel_rfl) (by kernel_rfl) (fun _ _ _ h => h) (by rfl) ?hyy78 (by assumption) ?resty78
  case hyy78 =>
    intro w hSw
    obtain ⟨s0, s1, s2, s3⟩ := hSw
    go_simp
    try with_reducible rfl
  (try simp only [Act.put, List.setIfInBounds_toArray, List.set_cons_zero, List.set_cons_succ])
  refine Vc.wpAnyH_read (i := 12) (d := some 28) (v := ?vy79) (by rfl) (by rfl) (by kernel_rfl) (by kernel_rfl) (by kernel_rfl) (fun _ _ _ h => h) (by rfl) ?hyy79 (by assumption) ?resty79
  case hyy79 =>
    intro w hSw
    obtain ⟨s0, s1, s2, s3⟩ := hSw
    go_simp
    try with_reducible rfl
  (try simp only [Act.put, List.setIfInBounds_toArray, List.set_cons_zero, List.set_cons_succ])
  refine Vc.wpAnyH_read (i := 13) (d := some 29) (v := ?vy80) (by rfl) (by rfl) (by kernel_rfl) (by kernel_rfl) (by kernel_rfl) (fun _ _ _ h => h) (by rfl) ?hyy80 (by assumption) ?resty80
  case hyy80 =>
    intro w hSw
    obtain ⟨s0, s1, s2, s3⟩ := hSw
    go_simp
    try with_reducible rfl
  (try simp only [Act.put, List.setIfInBounds_toArray, List.set_cons_zero, List.set_cons_succ])
  refine Vc.wpAnyH_read (i := 17) (d := some 33) (v := ?vy81) (by rfl) (by rfl) (by kernel_rfl) (by kernel_rfl) (by kernel_rfl) (fun _ _ _ h => h) (by rfl) ?hyy81 (by assumption) ?resty81
  case hyy81 =>
    intro w hSw
    obtain ⟨s0, s1, s2, s3⟩ := hSw
    go_simp
    try with_reducible rfl
  (try simp only [Act.put, List.setIfInBounds_toArray, List.set_cons_zero, List.set_cons_succ])
  refine Vc.wpAnyH_read (i := 18) (d := some 34) (v := .agg (vecC m.seen)) (by rfl) (by rfl) (by kernel_rfl) (by kernel_rfl) (by kernel_rfl) (fun _ _ _ h => h) (by rfl) ?hyy82 (by assumption) ?resty82
  case hyy82 =>
    intro w hSw
    obtain ⟨s0, s1, s2, s3⟩ := hSw
    exact Who.exec_loadA _ rfl rfl s3 Tryd.underlying25 rfl info_vec
  (try simp only [Act.put, List.setIfInBounds_toArray, List.set_cons_zero, List.set_cons_succ])
  refine wpAnyH_ready (rs := [4]) (by kernel_rfl) (by simp) ?_
  refine AllReadyH.cons rfl (fun K hK => ?_) AllReadyH.nil
  go_simp
  go_at_call 32
  refine (HD1.out _).mono ?_
  rintro e w1 ⟨rfl, hb⟩
  have HB1 := Lib.hid (HBR.out.trans (hb.mono HBR.out.size))
  clear hb
  refine hK.out _ _ (HSB.out _ HB1.out) (fun hHeld => ?_)
  clear hK K
  (try simp only [Act.put, List.setIfInBounds_toArray, List.set_cons_zero, List.set_cons_succ])
  refine Vc.wpAnyH_read (i := 5) (d := some 21) (v := ?vy83) (by rfl) (by rfl) (by kernel_rfl) (by kernel_rfl) (by kernel_rfl) (fun _ _ _ h => h) (by rfl) ?hyy83 (by assumption) ?resty83
  case hyy83 =>
    intro w hSw
    obtain ⟨s0, s1, s2, s3⟩ := hSw
    go_simp
    try with_reducible rfl
  (try simp only [Act.put, List.setIfInBounds_toArray, List.set_cons_zero, List.set_cons_succ])
  refine Vc.wpAnyH_read (i := 6) (d := some 22) (v := ?vy84) (by rfl) (by rfl) (by kernel_rfl) (by kernel_rfl) (by kernel_rfl) (fun _ _ _ h => h) (by rfl) ?hyy84 (by assumption) ?resty84
  case hyy84 =>
    intro w hSw
    obtain ⟨s0, s1, s2, s3⟩ := hSw
    go_simp
    try with_reducible rfl
  (try simp only [Act.put, List.setIfInBounds_toArray, List.set_cons_zero, List.set_cons_succ])
  refine wpAnyH_ready (rs := [9]) (by kernel_rfl) (by simp) ?_
  refine AllReadyH.cons rfl (fun K hK => ?_) AllReadyH.nil
  go_simp
  go_at_call 32
  refine (HD2.out _).mono ?_
  rintro e w2 ⟨rfl, hb⟩
  have HB2 := Lib.hid (HB1.out.trans (hb.mono HB1.out.size))
  clear hb
  refine hK.out _ _ (HSB.out _ HB2.out) (fun hHeld => ?_)
  clear hK K
  (try simp only [Act.put, List.setIfInBounds_toArray, List.set_cons_zero, List.set_cons_succ])
  refine Vc.wpAnyH_read (i := 10) (d := some 26) (v := ?vy85) (by rfl) (by rfl) (by kernel_rfl) (by kernel_rfl) (by kernel_rfl) (fun _ _ _ h => h) (by rfl) ?hyy85 (by assumption) ?resty85
  case hyy85 =>
    intro w hSw
    obtain ⟨s0, s1, s2, s3⟩ := hSw
    go_simp
    try with_reducible rfl
  (try simp only [Act.put, List.setIfInBounds_toArray, List.set_cons_zero, List.set_cons_succ])
  refine Vc.wpAnyH_read (i := 11) (d := some 27) (v := ?vy86) (by rfl) (by rfl) (by kernel_rfl) (by kernel_rfl) (by kernel_rfl) (fun _ _ _ h => h) (by rfl) ?hyy86 (by assumption) ?resty86
  case hyy86 =>
    intro w hSw
    obtain ⟨s0, s1, s2, s3⟩ := hSw
    go_simp
    try with_reducible rfl
  (try simp only [Act.put, List.setIfInBounds_toArray, List.set_cons_zero, List.set_cons_succ])
  refine wpAnyH_ready (rs := [14]) (by kernel_rfl) (by simp) ?_
  refine AllReadyH.cons rfl (fun K hK => ?_) AllReadyH.nil
  go_simp
  go_at_call 32
  refine (HD3.out _).mono ?_
  rintro e w3 ⟨rfl, hb⟩
  have HB3 := Lib.hid (HB2.out.trans (hb.mono HB2.out.size))
  clear hb
  refine hK.out _ _ (HSB.out _ HB3.out) (fun hHeld => ?_)
  clear hK K
  (try simp only [Act.put, List.setIfInBounds_toArray, List.set_cons_zero, List.set_cons_succ])
  refine Vc.wpAnyH_read (i := 15) (d := some 31) (v := ?vy87) (by rfl) (by rfl) (by kernel_rfl) (by kernel_rfl) (by kernel_rfl) (fun _ _ _ h => h) (by rfl) ?hyy87 (by assumption) ?resty87
  case hyy87 =>
    intro w hSw
    obtain ⟨s0, s1, s2, s3⟩ := hSw
    go_simp
    try with_reducible rfl
  (try simp only [Act.put, List.setIfInBounds_toArray, List.set_cons_zero, List.set_cons_succ])
  refine Vc.wpAnyH_read (i := 16) (d := some 32) (v := ?vy88) (by rfl) (by rfl) (by kernel_rfl) (by kernel_rfl) (by kernel_rfl) (fun _ _ _ h => h) (by rfl) ?hyy88 (by assumption) ?resty88
  case hyy88 =>
    intro w hSw
    obtain ⟨s0, s1, s2, s3⟩ := hSw
    go_simp
    try with_reducible rfl
  (try simp only [Act.put, List.setIfInBounds_toArray, List.set_cons_zero, List.set_cons_succ])
  refine wpAnyH_ready (rs := [19]) (by kernel_rfl) (by simp) ?_
  refine AllReadyH.cons rfl (fun K hK => ?_) AllReadyH.nil
  go_simp
  go_at_call 16
  refine (HSE.out _).mono ?_
  rintro e w4 ⟨rfl, hb⟩
  have HB4 := Lib.hid (HB3.out.trans (hb.mono HB3.out.size))
  clear hb
  refine hK.out _ _ (HSB.out _ HB4.out) (fun hHeld => ?_)
  clear hK K
  (try simp only [Act.put, List.setIfInBounds_toArray, List.set_cons_zero, List.set_cons_succ])
  refine Vc.wpAnyH_read (i := 20) (d := some 36) (v := ?vy89) (by rfl) (by rfl) (by kernel_rfl) (by kernel_rfl) (by kernel_rfl) (fun _ _ _ h => h) (by rfl) ?hyy89 (by assumption) ?resty89
  case hyy89 =>
    intro w hSw
    obtain ⟨s0, s1, s2, s3⟩ := hSw
    go_simp
    try with_reducible rfl
  (try simp only [Act.put, List.setIfInBounds_toArray, List.set_cons_zero, List.set_cons_succ])
  refine Vc.wpAnyH_read (i := 21) (d := some 3) (v := ?vy90) (by rfl) (by rfl) (by kernel_rfl) (by kernel_rfl) (by kernel_rfl) (fun _ _ _ h => h) (by rfl) ?hyy90 (by assumption) ?resty90
  case hyy90 =>
    intro w hSw
    obtain ⟨s0, s1, s2, s3⟩ := hSw
    go_simp
    try with_reducible rfl
  (try simp only [Act.put, List.setIfInBounds_toArray, List.set_cons_zero, List.set_cons_succ])
  refine wpAnyH_done (by kernel_rfl) ?_ _
  have c4 := HQ.out _ HB4.out
  clear c0 ah1 ah2 ah3 ah4 ah5 ah6 ah7 ah8 HD1 HD2 HD3 HSE
  have HRB := Lib.hid (base_range (HX.out.below HB4.out))
  go_wp2_with (first | ((with_reducible refine Who.wpList_loadC 23 (.tmp 47) rfl w.heap.size 4 (#[.int .i64 m.base.1, .int .i64 m.base.2]) ?_); refine And.intro ⟨by rfl, by rfl, ⟨_, Tryd.underlying23, rfl⟩, info_mark⟩ (And.intro HRB.out ?_); (try simp only [Act.put, List.setIfInBounds_toArray, List.set_cons_zero, List.set_cons_succ])) | fail)
  refine (HTB.out _).mono ?_
  rintro e w5 ⟨rfl, hb⟩
  have HB5 := Lib.hid (HB4.out.trans (hb.mono HB4.out.size))
  clear hb
  have c5 := HQ.out _ HB5.out
  clear c4
  have HRM := Lib.hid (mark_range (HX.out.below HB5.out))
  go_wp2_with (first | ((with_reducible refine Who.wpList_loadC 23 (.tmp 66) rfl w.heap.size 6 (#[.int .i64 m.mark.1, .int .i64 m.mark.2]) ?_); refine And.intro ⟨by rfl, by rfl, ⟨_, Tryd.underlying23, rfl⟩, info_mark⟩ (And.intro HRM.out ?_); (try simp only [Act.put, List.setIfInBounds_toArray, List.set_cons_zero, List.set_cons_succ])) | fail)
  refine (HTM.out _).mono ?_
  rintro e w6 ⟨rfl, hb⟩
  have HB6 := Lib.hid (HB5.out.trans (hb.mono HB5.out.size))
  clear hb
  have c6 := HQ.out _ HB6.out
  clear c5
  have HBS := Lib.hid (HB6.out.drew)
  have HSC := Lib.hid (show ∀ V, Below (w.alloc (.cells (msgC m) 27)).heap.size (w.alloc (.cells (msgC m) 27)) V → V.cell? ⟨w.heap.size, 8, none⟩ = some (.int .i64 m.ix) ∧ V.cell? ⟨w.heap.size, 9, none⟩ = some (.int .i64 m.tot) ∧ V.cell? ⟨w.heap.size, 18, none⟩ = some (.string m.data) from fun V h => ⟨(HX.out.below h).at_ 8, (HX.out.below h).at_ 9, (HX.out.below h).at_ 18⟩)
  go_wp2
  refine wp_region_held_drew (S := fun V => V.cell? ⟨w.heap.size, 8, none⟩ = some (.int .i64 m.ix) ∧ V.cell? ⟨w.heap.size, 9, none⟩ = some (.int .i64 m.tot) ∧ V.cell? ⟨w.heap.size, 18, none⟩ = some (.string m.data)) (by kernel_rfl) (HSC.out _ HBS.out) (fun hHeld => ?_)
  refine Vc.wpAnyH_read (i := 0) (d := some 82) (v := ?vy91) (by rfl) (by rfl) (by kernel_rfl) (by kernel_rfl) (by kernel_rfl) (fun _ _ _ h => h) (by rfl) ?hyy91 (by assumption) ?resty91
  case hyy91 =>
    intro w hSw
    obtain ⟨s0, s1, s2⟩ := hSw
    go_simp
    try with_reducible rfl
  (try simp only [Act.put, List.setIfInBounds_toArray, List.set_cons_zero, List.set_cons_succ])
  refine Vc.wpAnyH_read (i := 1) (d := some 83) (v := ?vy92) (by rfl) (by rfl) (by kernel_rfl) (by kernel_rfl) (by kernel_rfl) (fun _ _ _ h => h) (by rfl) ?hyy92 (by assumption) ?resty92
  case hyy92 =>
    intro w hSw
    obtain ⟨s0, s1, s2⟩ := hSw
    go_simp
    try with_reducible rfl
  (try simp only [Act.put, List.setIfInBounds_toArray, List.set_cons_zero, List.set_cons_succ])
  refine Vc.wpAnyH_read (i := 2) (d := some 84) (v := ?vy93) (by rfl) (by rfl) (by kernel_rfl) (by kernel_rfl) (by kernel_rfl) (fun _ _ _ h => h) (by rfl) ?hyy93 (by assumption) ?resty93
  case hyy93 =>
    intro w hSw
    obtain ⟨s0, s1, s2⟩ := hSw
    go_simp
    try with_reducible rfl
  (try simp only [Act.put, List.setIfInBounds_toArray, List.set_cons_zero, List.set_cons_succ])
  refine Vc.wpAnyH_read (i := 3) (d := some 85) (v := ?vy94) (by rfl) (by rfl) (by kernel_rfl) (by kernel_rfl) (by kernel_rfl) (fun _ _ _ h => h) (by rfl) ?hyy94 (by assumption) ?resty94
  case hyy94 =>
    intro w hSw
    obtain ⟨s0, s1, s2⟩ := hSw
    go_simp
    try with_reducible rfl
  (try simp only [Act.put, List.setIfInBounds_toArray, List.set_cons_zero, List.set_cons_succ])
  refine Vc.wpAnyH_read (i := 7) (d := some 89) (v := ?vy95) (by rfl) (by rfl) (by kernel_rfl) (by kernel_rfl) (by kernel_rfl) (fun _ _ _ h => h) (by rfl) ?hyy95 (by assumption) ?resty95
  case hyy95 =>
    intro w hSw
    obtain ⟨s0, s1, s2⟩ := hSw
    go_simp
    try with_reducible rfl
  (try simp only [Act.put, List.setIfInBounds_toArray, List.set_cons_zero, List.set_cons_succ])
  refine Vc.wpAnyH_read (i := 8) (d := some 90) (v := ?vy96) (by rfl) (by rfl) (by kernel_rfl) (by kernel_rfl) (by kernel_rfl) (fun _ _ _ h => h) (by rfl) ?hyy96 (by assumption) ?resty96
  case hyy96 =>
    intro w hSw
    obtain ⟨s0, s1, s2⟩ := hSw
    go_simp
    try with_reducible rfl
  (try simp only [Act.put, List.setIfInBounds_toArray, List.set_cons_zero, List.set_cons_succ])
  refine Vc.wpAnyH_read (i := 12) (d := some 94) (v := ?vy97) (by rfl) (by rfl) (by kernel_rfl) (by kernel_rfl) (by kernel_rfl) (fun _ _ _ h => h) (by rfl) ?hyy97 (by assumption) ?resty97
  case hyy97 =>
    intro w hSw
    obtain ⟨s0, s1, s2⟩ := hSw
    go_simp
    try with_reducible rfl
  (try simp only [Act.put, List.setIfInBounds_toArray, List.set_cons_zero, List.set_cons_succ])
  refine Vc.wpAnyH_read (i := 13) (d := some 95) (v := ?vy98) (by rfl) (by rfl) (by kernel_rfl) (by kernel_rfl) (by kernel_rfl) (fun _ _ _ h => h) (by rfl) ?hyy98 (by assumption) ?resty98
  case hyy98 =>
    intro w hSw
    obtain ⟨s0, s1, s2⟩ := hSw
    go_simp
    try with_reducible rfl
  (try simp only [Act.put, List.setIfInBounds_toArray, List.set_cons_zero, List.set_cons_succ])
  refine Vc.wpAnyH_read (i := 14) (d := some 96) (v := ?vy99) (by rfl) (by rfl) (by kernel_rfl) (by kernel_rfl) (by kernel_rfl) (fun _ _ _ h => h) (by rfl) ?hyy99 (by assumption) ?resty99
  case hyy99 =>
    intro w hSw
    obtain ⟨s0, s1, s2⟩ := hSw
    go_simp
    try with_reducible rfl
  (try simp only [Act.put, List.setIfInBounds_toArray, List.set_cons_zero, List.set_cons_succ])
  refine wpAnyH_ready (rs := [4]) (by kernel_rfl) (by simp) ?_
  refine AllReadyH.cons rfl (fun K hK => ?_) AllReadyH.nil
  go_simp
  go_at_call 32
  refine (HDI.out _).mono ?_
  rintro e w7 ⟨rfl, hb⟩
  have HB7 := Lib.hid (HBS.out.trans (hb.mono HBS.out.size))
  clear hb
  refine hK.out _ _ (HSC.out _ HB7.out) (fun hHeld => ?_)
  clear hK K
  (try simp only [Act.put, List.setIfInBounds_toArray, List.set_cons_zero, List.set_cons_succ])
  refine Vc.wpAnyH_read (i := 5) (d := some 87) (v := ?vy100) (by rfl) (by rfl) (by kernel_rfl) (by kernel_rfl) (by kernel_rfl) (fun _ _ _ h => h) (by rfl) ?hyy100 (by assumption) ?resty100
  case hyy100 =>
    intro w hSw
    obtain ⟨s0, s1, s2⟩ := hSw
    go_simp
    try with_reducible rfl
  (try simp only [Act.put, List.setIfInBounds_toArray, List.set_cons_zero, List.set_cons_succ])
  refine Vc.wpAnyH_read (i := 6) (d := some 88) (v := ?vy101) (by rfl) (by rfl) (by kernel_rfl) (by kernel_rfl) (by kernel_rfl) (fun _ _ _ h => h) (by rfl) ?hyy101 (by assumption) ?resty101
  case hyy101 =>
    intro w hSw
    obtain ⟨s0, s1, s2⟩ := hSw
    go_simp
    try with_reducible rfl
  (try simp only [Act.put, List.setIfInBounds_toArray, List.set_cons_zero, List.set_cons_succ])
  refine wpAnyH_ready (rs := [9]) (by kernel_rfl) (by simp) ?_
  refine AllReadyH.cons rfl (fun K hK => ?_) AllReadyH.nil
  go_simp
  go_at_call 32
  refine (HDT.out _).mono ?_
  rintro e w8 ⟨rfl, hb⟩
  have HB8 := Lib.hid (HB7.out.trans (hb.mono HB7.out.size))
  clear hb
  refine hK.out _ _ (HSC.out _ HB8.out) (fun hHeld => ?_)
  clear hK K
  (try simp only [Act.put, List.setIfInBounds_toArray, List.set_cons_zero, List.set_cons_succ])
  refine Vc.wpAnyH_read (i := 10) (d := some 92) (v := ?vy102) (by rfl) (by rfl) (by kernel_rfl) (by kernel_rfl) (by kernel_rfl) (fun _ _ _ h => h) (by rfl) ?hyy102 (by assumption) ?resty102
  case hyy102 =>
    intro w hSw
    obtain ⟨s0, s1, s2⟩ := hSw
    go_simp
    try with_reducible rfl
  (try simp only [Act.put, List.setIfInBounds_toArray, List.set_cons_zero, List.set_cons_succ])
  refine Vc.wpAnyH_read (i := 11) (d := some 93) (v := ?vy103) (by rfl) (by rfl) (by kernel_rfl) (by kernel_rfl) (by kernel_rfl) (fun _ _ _ h => h) (by rfl) ?hyy103 (by assumption) ?resty103
  case hyy103 =>
    intro w hSw
    obtain ⟨s0, s1, s2⟩ := hSw
    go_simp
    try with_reducible rfl
  (try simp only [Act.put, List.setIfInBounds_toArray, List.set_cons_zero, List.set_cons_succ])
  refine wpAnyH_ready (rs := [15]) (by kernel_rfl) (by simp) ?_
  refine AllReadyH.cons rfl (fun K hK => ?_) AllReadyH.nil
  go_simp
  go_at_call 32
  refine (HDD.out _).mono ?_
  rintro e w9 ⟨rfl, hb⟩
  have HB9 := Lib.hid (HB8.out.trans (hb.mono HB8.out.size))
  clear hb
  refine hK.out _ _ (HSC.out _ HB9.out) (fun hHeld => ?_)
  clear hK K
  (try simp only [Act.put, List.setIfInBounds_toArray, List.set_cons_zero, List.set_cons_succ])
  refine Vc.wpAnyH_read (i := 16) (d := some 98) (v := ?vy104) (by rfl) (by rfl) (by kernel_rfl) (by kernel_rfl) (by kernel_rfl) (fun _ _ _ h => h) (by rfl) ?hyy104 (by assumption) ?resty104
  case hyy104 =>
    intro w hSw
    obtain ⟨s0, s1, s2⟩ := hSw
    go_simp
    try with_reducible rfl
  (try simp only [Act.put, List.setIfInBounds_toArray, List.set_cons_zero, List.set_cons_succ])
  refine Vc.wpAnyH_read (i := 17) (d := some 3) (v := ?vy105) (by rfl) (by rfl) (by kernel_rfl) (by kernel_rfl) (by kernel_rfl) (fun _ _ _ h => h) (by rfl) ?hyy105 (by assumption) ?resty105
  case hyy105 =>
    intro w hSw
    obtain ⟨s0, s1, s2⟩ := hSw
    go_simp
    try with_reducible rfl
  (try simp only [Act.put, List.setIfInBounds_toArray, List.set_cons_zero, List.set_cons_succ])
  refine wpAnyH_done (by kernel_rfl) ?_ _
  have HBZ := Lib.hid (HB0.out.trans (HB9.out.mono HB0.out.size))
  go_wp2
  go_ret
  exact ⟨by rw [← HEQ.out]; rfl, HBZ.out⟩
theorem rsaid_any (m : MsgP) (hm : FitM m) (w : World) : Calls Tryd.prog 14 #[.agg (msgC m)] w fun e w' => e = .returned (.string (saidM m)) ∧ Below w.heap.size w w' := by
  by_cases h1 : m.kind = 1
  · exact rsaid_k1 m hm h1 w
  · by_cases h2 : m.kind = 2
    · exact rsaid_k2 m hm h2 w
    · by_cases h3 : m.kind = 3
      · exact rsaid_k3 m hm h3 w
      · by_cases h4 : m.kind = 4
        · exact rsaid_k4 m hm h4 w
        · exact rsaid_k0 m hm ⟨h1, h2, h3, h4⟩ w
end Go.Proofs.YtfjmcklmoebnaaaDoor.Mg
/- Whether any message may be, it bare, and its line: the law MsgChecks walked. -/
namespace Go.Proofs.YtfjmcklmoebnaaaDoor.Mg
open Go.RowKit Go.Proofs.YtfjmcklmoebnaaaDoor.Mem Go.Proofs.YtfjmcklmoebnaaaDoor.Nt
open Go.Proofs.YtfjmcklmoebnaaaDoor.Vc (vecC)
set_option linter.unusedVariables false set_option linter.unusedSimpArgs false

set_option maxRecDepth 100000 in
set_option maxHeartbeats 2000000 in
theorem checks_walk (W : World) (m : MsgP) (hm : FitM m) (hT : Tabs W) : Calls Tryd.prog 3 #[.agg (msgC m)] W fun e w' => e = .returned (.bool true) ∧ Below W.heap.size W w' := by
  have hb0 := (Below.refl W.heap.size W).alloc (Nat.le_refl _) (.cells (msgC m) 27)
  have HB0 := Lib.hid hb0
  have HX := Lib.hid (Has.fresh W 27 (msgC m))
  have HT0 := Lib.hid (hT.self hb0)
  have x0 : (W.alloc (.cells (msgC m) 27)).cell? ⟨W.heap.size, 18, none⟩ = some (.string m.data) := HX.out.at_ 18
  have hs := hm.2.2.2.2.2
  clear hb0 hT
  go_enter Tryd.func3, Tryd.ntmps3
  by_cases h4 : (4096 : Int) < m.data.size
  · clear hs hm
    go_wp2_with fail
    refine (awake_any _ HT0.out).mono ?_
    rintro e wz ⟨rfl, hb⟩
    have HBZ := Lib.hid (HB0.out.trans (hb.mono HB0.out.size))
    clear hb
    go_wp2
    go_ret
    exact ⟨rfl, HBZ.out⟩
  · have HSE0 := Lib.hid (fun V (h : Tabs V) => seen_any m.seen hm.2.2.2.2.1 V h)
    have HSR0 := Lib.hid (fun V => rseen_any m.seen hm.2.2.2.2.1 V)
    have HTX0 := Lib.hid (fun V (h : Tabs V) => text_any m hm V h)
    have HTR0 := Lib.hid (fun V => rsaid_any m hm V)
    have HC0 := Lib.hid (fun V => check_any m V)
    have HCR0 := Lib.hid (fun V => rcheck_any m V)
    obtain ⟨B, hB⟩ : ∃ B, B = bareM m := ⟨_, rfl⟩
    have HBA0 := Lib.hid (fun V => bare_any m V)
    have HBB0 := Lib.hid (fun V => rbare_any m V)
    obtain ⟨T, hT⟩ : ∃ T, T = saidM m := ⟨_, rfl⟩
    obtain ⟨Z, hZ⟩ : ∃ Z, Z = seenB m.seen := ⟨_, rfl⟩
    obtain ⟨E, hE⟩ : ∃ E, E = errM m := ⟨_, rfl⟩
    have HSE := Lib.hid (hZ ▸ HSE0.out)
    have HSR := Lib.hid (hZ ▸ HSR0.out)
    have HTX := Lib.hid (hT ▸ HTX0.out)
    have HTR := Lib.hid (hT ▸ HTR0.out)
    have HC := Lib.hid (hE ▸ HC0.out)
    have HCR := Lib.hid (hE ▸ HCR0.out)
    have HBA := Lib.hid (hB ▸ HBA0.out)
    have HBB := Lib.hid (hB ▸ HBB0.out)
    have heq : ∀ V, (binOp .eql 27 (.agg (msgC B)) (.agg (msgC B))).run Tryd.prog V = .ok (.bool true) V := fun V => by rw [eql_msg, sameM_of rfl]
    have HBR := Lib.hid ((Below.refl (W.alloc (.cells (msgC m) 27)).heap.size (W.alloc (.cells (msgC m) 27))).drew)
    have HTB := Lib.hid (fun V (h : Below (W.alloc (.cells (msgC m) 27)).heap.size (W.alloc (.cells (msgC m) 27)) V) => HT0.out.self h)
    have HSB := Lib.hid (show ∀ V, Below (W.alloc (.cells (msgC m) 27)).heap.size (W.alloc (.cells (msgC m) 27)) V → V.rangeAt W.heap.size 0 (msgC m).toList ∧ V.rangeAt W.heap.size 10 (vecC m.seen).toList from fun V h => ⟨Who.has_range (HX.out.below h), seen_range (HX.out.below h)⟩)
    clear HSE0 HSR0 HTX0 HTR0 HC0 HCR0 HBA0 HBB0 hs hm hB hT hZ hE
    go_wp2
    refine wp_region_held_drew (S := fun V => V.rangeAt W.heap.size 0 (msgC m).toList ∧ V.rangeAt W.heap.size 10 (vecC m.seen).toList) (by kernel_rfl) (HSB.out _ HBR.out) (fun hHeld => ?_)
    refine Vc.wpAnyH_read (i := 0) (d := some 8) (v := .agg (msgC m)) (by rfl) (by rfl) (by kernel_rfl) (by kernel_rfl) (by kernel_rfl) (fun _ _ _ h => h) (by rfl) ?hyy1 (by assumption) ?resty1
    case hyy1 =>
      intro w hSw
      obtain ⟨s0, s1⟩ := hSw
      exact Who.exec_loadA _ rfl rfl s0 Tryd.underlying27 rfl (info_size _)
    (try simp only [Act.put, List.setIfInBounds_toArray, List.set_cons_zero, List.set_cons_succ])
    refine Vc.wpAnyH_read (i := 2) (d := some 10) (v := .agg (msgC m)) (by rfl) (by rfl) (by kernel_rfl) (by kernel_rfl) (by kernel_rfl) (fun _ _ _ h => h) (by rfl) ?hyy2 (by assumption) ?resty2
    case hyy2 =>
      intro w hSw
      obtain ⟨s0, s1⟩ := hSw
      exact Who.exec_loadA _ rfl rfl s0 Tryd.underlying27 rfl (info_size _)
    (try simp only [Act.put, List.setIfInBounds_toArray, List.set_cons_zero, List.set_cons_succ])
    refine wpAnyH_ready (rs := [1]) (by kernel_rfl) (by simp) ?_
    refine AllReadyH.cons rfl (fun K hK => ?_) AllReadyH.nil
    go_simp
    go_at_call 9
    refine (HC.out _).mono ?_
    rintro e w1 ⟨rfl, hb⟩
    have HB1 := Lib.hid (HBR.out.trans (hb.mono HBR.out.size))
    clear hb
    refine hK.out _ _ (HSB.out _ HB1.out) (fun hHeld => ?_)
    clear hK K
    (try simp only [Act.put, List.setIfInBounds_toArray, List.set_cons_zero, List.set_cons_succ])
    refine wpAnyH_ready (rs := [3]) (by kernel_rfl) (by simp) ?_
    refine AllReadyH.cons rfl (fun K hK => ?_) AllReadyH.nil
    go_simp
    go_at_call 10
    refine (HCR.out _).mono ?_
    rintro e w2 ⟨rfl, hb⟩
    have HB2 := Lib.hid (HB1.out.trans (hb.mono HB1.out.size))
    clear hb
    refine hK.out _ _ (HSB.out _ HB2.out) (fun hHeld => ?_)
    clear hK K
    (try simp only [Act.put, List.setIfInBounds_toArray, List.set_cons_zero, List.set_cons_succ])
    refine Vc.wpAnyH_read (i := 4) (d := some 12) (v := .bool true) (by rfl) (by rfl) (by kernel_rfl) (by kernel_rfl) (by kernel_rfl) (fun _ _ _ h => h) (by rfl) ?hyy3 (by assumption) ?resty3
    case hyy3 =>
      intro w hSw
      obtain ⟨s0, s1⟩ := hSw
      go_simp
      try with_reducible rfl
    (try simp only [Act.put, List.setIfInBounds_toArray, List.set_cons_zero, List.set_cons_succ])
    refine Vc.wpAnyH_read (i := 5) (d := some 13) (v := ?vy4) (by rfl) (by rfl) (by kernel_rfl) (by kernel_rfl) (by kernel_rfl) (fun _ _ _ h => h) (by rfl) ?hyy4 (by assumption) ?resty4
    case hyy4 =>
      intro w hSw
      obtain ⟨s0, s1⟩ := hSw
      go_simp
      try with_reducible rfl
    (try simp only [Act.put, List.setIfInBounds_toArray, List.set_cons_zero, List.set_cons_succ])
    refine Vc.wpAnyH_read (i := 6) (d := some 14) (v := .agg (msgC m)) (by rfl) (by rfl) (by kernel_rfl) (by kernel_rfl) (by kernel_rfl) (fun _ _ _ h => h) (by rfl) ?hyy5 (by assumption) ?resty5
    case hyy5 =>
      intro w hSw
      obtain ⟨s0, s1⟩ := hSw
      exact Who.exec_loadA _ rfl rfl s0 Tryd.underlying27 rfl (info_size _)
    (try simp only [Act.put, List.setIfInBounds_toArray, List.set_cons_zero, List.set_cons_succ])
    refine Vc.wpAnyH_read (i := 8) (d := some 16) (v := .agg (msgC m)) (by rfl) (by rfl) (by kernel_rfl) (by kernel_rfl) (by kernel_rfl) (fun _ _ _ h => h) (by rfl) ?hyy6 (by assumption) ?resty6
    case hyy6 =>
      intro w hSw
      obtain ⟨s0, s1⟩ := hSw
      exact Who.exec_loadA _ rfl rfl s0 Tryd.underlying27 rfl (info_size _)
    (try simp only [Act.put, List.setIfInBounds_toArray, List.set_cons_zero, List.set_cons_succ])
    refine wpAnyH_ready (rs := [7]) (by kernel_rfl) (by simp) ?_
    refine AllReadyH.cons rfl (fun K hK => ?_) AllReadyH.nil
    go_simp
    go_at_call 11
    refine (HBA.out _).mono ?_
    rintro e w3 ⟨rfl, hb⟩
    have HB3 := Lib.hid (HB2.out.trans (hb.mono HB2.out.size))
    clear hb
    refine hK.out _ _ (HSB.out _ HB3.out) (fun hHeld => ?_)
    clear hK K
    (try simp only [Act.put, List.setIfInBounds_toArray, List.set_cons_zero, List.set_cons_succ])
    refine wpAnyH_ready (rs := [9]) (by kernel_rfl) (by simp) ?_
    refine AllReadyH.cons rfl (fun K hK => ?_) AllReadyH.nil
    go_simp
    go_at_call 12
    refine (HBB.out _).mono ?_
    rintro e w4 ⟨rfl, hb⟩
    have HB4 := Lib.hid (HB3.out.trans (hb.mono HB3.out.size))
    clear hb
    refine hK.out _ _ (HSB.out _ HB4.out) (fun hHeld => ?_)
    clear hK K
    (try simp only [Act.put, List.setIfInBounds_toArray, List.set_cons_zero, List.set_cons_succ])
    refine Vc.wpAnyH_read (i := 10) (d := some 18) (v := .bool true) (by rfl) (by rfl) (by kernel_rfl) (by kernel_rfl) (by kernel_rfl) (fun _ _ _ h => h) (by rfl) ?hyy7 (by assumption) ?resty7
    case hyy7 =>
      intro w hSw
      obtain ⟨s0, s1⟩ := hSw
      exact (show (execOp _ _).run _ _ = _ by go_simp)
    (try simp only [Act.put, List.setIfInBounds_toArray, List.set_cons_zero, List.set_cons_succ])
    refine Vc.wpAnyH_read (i := 11) (d := some 19) (v := ?vy8) (by rfl) (by rfl) (by kernel_rfl) (by kernel_rfl) (by kernel_rfl) (fun _ _ _ h => h) (by rfl) ?hyy8 (by assumption) ?resty8
    case hyy8 =>
      intro w hSw
      obtain ⟨s0, s1⟩ := hSw
      go_simp
      try with_reducible rfl
    (try simp only [Act.put, List.setIfInBounds_toArray, List.set_cons_zero, List.set_cons_succ])
    refine Vc.wpAnyH_read (i := 12) (d := some 20) (v := ?vy9) (by rfl) (by rfl) (by kernel_rfl) (by kernel_rfl) (by kernel_rfl) (fun _ _ _ h => h) (by rfl) ?hyy9 (by assumption) ?resty9
    case hyy9 =>
      intro w hSw
      obtain ⟨s0, s1⟩ := hSw
      go_simp
      try with_reducible rfl
    (try simp only [Act.put, List.setIfInBounds_toArray, List.set_cons_zero, List.set_cons_succ])
    refine Vc.wpAnyH_read (i := 13) (d := some 21) (v := .agg (msgC m)) (by rfl) (by rfl) (by kernel_rfl) (by kernel_rfl) (by kernel_rfl) (fun _ _ _ h => h) (by rfl) ?hyy10 (by assumption) ?resty10
    case hyy10 =>
      intro w hSw
      obtain ⟨s0, s1⟩ := hSw
      exact Who.exec_loadA _ rfl rfl s0 Tryd.underlying27 rfl (info_size _)
    (try simp only [Act.put, List.setIfInBounds_toArray, List.set_cons_zero, List.set_cons_succ])
    refine Vc.wpAnyH_read (i := 15) (d := some 23) (v := .agg (msgC m)) (by rfl) (by rfl) (by kernel_rfl) (by kernel_rfl) (by kernel_rfl) (fun _ _ _ h => h) (by rfl) ?hyy11 (by assumption) ?resty11
    case hyy11 =>
      intro w hSw
      obtain ⟨s0, s1⟩ := hSw
      exact Who.exec_loadA _ rfl rfl s0 Tryd.underlying27 rfl (info_size _)
    (try simp only [Act.put, List.setIfInBounds_toArray, List.set_cons_zero, List.set_cons_succ])
    refine wpAnyH_ready (rs := [14]) (by kernel_rfl) (by simp) ?_
    refine AllReadyH.cons rfl (fun K hK => ?_) AllReadyH.nil
    go_simp
    go_at_call 13
    refine (HTX.out _ (HTB.out _ HB4.out)).mono ?_
    rintro e w5 ⟨rfl, hb⟩
    have HB5 := Lib.hid (HB4.out.trans (hb.mono HB4.out.size))
    clear hb
    refine hK.out _ _ (HSB.out _ HB5.out) (fun hHeld => ?_)
    clear hK K
    (try simp only [Act.put, List.setIfInBounds_toArray, List.set_cons_zero, List.set_cons_succ])
    refine wpAnyH_ready (rs := [16]) (by kernel_rfl) (by simp) ?_
    refine AllReadyH.cons rfl (fun K hK => ?_) AllReadyH.nil
    go_simp
    go_at_call 14
    refine (HTR.out _).mono ?_
    rintro e w6 ⟨rfl, hb⟩
    have HB6 := Lib.hid (HB5.out.trans (hb.mono HB5.out.size))
    clear hb
    refine hK.out _ _ (HSB.out _ HB6.out) (fun hHeld => ?_)
    clear hK K
    (try simp only [Act.put, List.setIfInBounds_toArray, List.set_cons_zero, List.set_cons_succ])
    refine Vc.wpAnyH_read (i := 17) (d := some 25) (v := .bool true) (by rfl) (by rfl) (by kernel_rfl) (by kernel_rfl) (by kernel_rfl) (fun _ _ _ h => h) (by rfl) ?hyy12 (by assumption) ?resty12
    case hyy12 =>
      intro w hSw
      obtain ⟨s0, s1⟩ := hSw
      go_simp
      try with_reducible rfl
    (try simp only [Act.put, List.setIfInBounds_toArray, List.set_cons_zero, List.set_cons_succ])
    refine Vc.wpAnyH_read (i := 18) (d := some 26) (v := ?vy13) (by rfl) (by rfl) (by kernel_rfl) (by kernel_rfl) (by kernel_rfl) (fun _ _ _ h => h) (by rfl) ?hyy13 (by assumption) ?resty13
    case hyy13 =>
      intro w hSw
      obtain ⟨s0, s1⟩ := hSw
      go_simp
      try with_reducible rfl
    (try simp only [Act.put, List.setIfInBounds_toArray, List.set_cons_zero, List.set_cons_succ])
    refine Vc.wpAnyH_read (i := 19) (d := some 27) (v := ?vy14) (by rfl) (by rfl) (by kernel_rfl) (by kernel_rfl) (by kernel_rfl) (fun _ _ _ h => h) (by rfl) ?hyy14 (by assumption) ?resty14
    case hyy14 =>
      intro w hSw
      obtain ⟨s0, s1⟩ := hSw
      go_simp
      try with_reducible rfl
    (try simp only [Act.put, List.setIfInBounds_toArray, List.set_cons_zero, List.set_cons_succ])
    refine Vc.wpAnyH_read (i := 20) (d := some 28) (v := ?vy15) (by rfl) (by rfl) (by kernel_rfl) (by kernel_rfl) (by kernel_rfl) (fun _ _ _ h => h) (by rfl) ?hyy15 (by assumption) ?resty15
    case hyy15 =>
      intro w hSw
      obtain ⟨s0, s1⟩ := hSw
      go_simp
      try with_reducible rfl
    (try simp only [Act.put, List.setIfInBounds_toArray, List.set_cons_zero, List.set_cons_succ])
    refine Vc.wpAnyH_read (i := 21) (d := some 29) (v := .agg (vecC m.seen)) (by rfl) (by rfl) (by kernel_rfl) (by kernel_rfl) (by kernel_rfl) (fun _ _ _ h => h) (by rfl) ?hyy16 (by assumption) ?resty16
    case hyy16 =>
      intro w hSw
      obtain ⟨s0, s1⟩ := hSw
      exact Who.exec_loadA _ rfl rfl s1 Tryd.underlying25 rfl info_vec
    (try simp only [Act.put, List.setIfInBounds_toArray, List.set_cons_zero, List.set_cons_succ])
    refine Vc.wpAnyH_read (i := 23) (d := some 31) (v := ?vy17) (by rfl) (by rfl) (by kernel_rfl) (by kernel_rfl) (by kernel_rfl) (fun _ _ _ h => h) (by rfl) ?hyy17 (by assumption) ?resty17
    case hyy17 =>
      intro w hSw
      obtain ⟨s0, s1⟩ := hSw
      go_simp
      try with_reducible rfl
    (try simp only [Act.put, List.setIfInBounds_toArray, List.set_cons_zero, List.set_cons_succ])
    refine Vc.wpAnyH_read (i := 24) (d := some 32) (v := .agg (vecC m.seen)) (by rfl) (by rfl) (by kernel_rfl) (by kernel_rfl) (by kernel_rfl) (fun _ _ _ h => h) (by rfl) ?hyy18 (by assumption) ?resty18
    case hyy18 =>
      intro w hSw
      obtain ⟨s0, s1⟩ := hSw
      exact Who.exec_loadA _ rfl rfl s1 Tryd.underlying25 rfl info_vec
    (try simp only [Act.put, List.setIfInBounds_toArray, List.set_cons_zero, List.set_cons_succ])
    refine wpAnyH_ready (rs := [22]) (by kernel_rfl) (by simp) ?_
    refine AllReadyH.cons rfl (fun K hK => ?_) AllReadyH.nil
    go_simp
    go_at_call 15
    refine (HSE.out _ (HTB.out _ HB6.out)).mono ?_
    rintro e w7 ⟨rfl, hb⟩
    have HB7 := Lib.hid (HB6.out.trans (hb.mono HB6.out.size))
    clear hb
    refine hK.out _ _ (HSB.out _ HB7.out) (fun hHeld => ?_)
    clear hK K
    (try simp only [Act.put, List.setIfInBounds_toArray, List.set_cons_zero, List.set_cons_succ])
    refine wpAnyH_ready (rs := [25]) (by kernel_rfl) (by simp) ?_
    refine AllReadyH.cons rfl (fun K hK => ?_) AllReadyH.nil
    go_simp
    go_at_call 16
    refine (HSR.out _).mono ?_
    rintro e w8 ⟨rfl, hb⟩
    have HB8 := Lib.hid (HB7.out.trans (hb.mono HB7.out.size))
    clear hb
    refine hK.out _ _ (HSB.out _ HB8.out) (fun hHeld => ?_)
    clear hK K
    (try simp only [Act.put, List.setIfInBounds_toArray, List.set_cons_zero, List.set_cons_succ])
    refine Vc.wpAnyH_read (i := 26) (d := some 34) (v := .bool true) (by rfl) (by rfl) (by kernel_rfl) (by kernel_rfl) (by kernel_rfl) (fun _ _ _ h => h) (by rfl) ?hyy19 (by assumption) ?resty19
    case hyy19 =>
      intro w hSw
      obtain ⟨s0, s1⟩ := hSw
      go_simp
      try with_reducible rfl
    (try simp only [Act.put, List.setIfInBounds_toArray, List.set_cons_zero, List.set_cons_succ])
    refine Vc.wpAnyH_read (i := 27) (d := some 35) (v := ?vy20) (by rfl) (by rfl) (by kernel_rfl) (by kernel_rfl) (by kernel_rfl) (fun _ _ _ h => h) (by rfl) ?hyy20 (by assumption) ?resty20
    case hyy20 =>
      intro w hSw
      obtain ⟨s0, s1⟩ := hSw
      go_simp
      try with_reducible rfl
    (try simp only [Act.put, List.setIfInBounds_toArray, List.set_cons_zero, List.set_cons_succ])
    refine Vc.wpAnyH_read (i := 28) (d := some 36) (v := ?vy21) (by rfl) (by rfl) (by kernel_rfl) (by kernel_rfl) (by kernel_rfl) (fun _ _ _ h => h) (by rfl) ?hyy21 (by assumption) ?resty21
    case hyy21 =>
      intro w hSw
      obtain ⟨s0, s1⟩ := hSw
      go_simp
      try with_reducible rfl
    (try simp only [Act.put, List.setIfInBounds_toArray, List.set_cons_zero, List.set_cons_succ])
    refine wpAnyH_ready (rs := [29]) (by kernel_rfl) (by simp) ?_
    refine AllReadyH.cons rfl (fun K hK => ?_) AllReadyH.nil
    go_simp
    go_at_call 8
    refine (awake_any _ (HTB.out _ HB8.out)).mono ?_
    rintro e w9 ⟨rfl, hb⟩
    have HB9 := Lib.hid (HB8.out.trans (hb.mono HB8.out.size))
    clear hb
    refine hK.out _ _ (HSB.out _ HB9.out) (fun hHeld => ?_)
    clear hK K
    (try simp only [Act.put, List.setIfInBounds_toArray, List.set_cons_zero, List.set_cons_succ])
    refine Vc.wpAnyH_read (i := 30) (d := some 38) (v := ?vy22) (by rfl) (by rfl) (by kernel_rfl) (by kernel_rfl) (by kernel_rfl) (fun _ _ _ h => h) (by rfl) ?hyy22 (by assumption) ?resty22
    case hyy22 =>
      intro w hSw
      obtain ⟨s0, s1⟩ := hSw
      go_simp
      try with_reducible rfl
    (try simp only [Act.put, List.setIfInBounds_toArray, List.set_cons_zero, List.set_cons_succ])
    refine Vc.wpAnyH_read (i := 31) (d := some 2) (v := ?vy23) (by rfl) (by rfl) (by kernel_rfl) (by kernel_rfl) (by kernel_rfl) (fun _ _ _ h => h) (by rfl) ?hyy23 (by assumption) ?resty23
    case hyy23 =>
      intro w hSw
      obtain ⟨s0, s1⟩ := hSw
      go_simp
      try with_reducible rfl
    (try simp only [Act.put, List.setIfInBounds_toArray, List.set_cons_zero, List.set_cons_succ])
    refine wpAnyH_done (by kernel_rfl) ?_ _
    have HBZ := Lib.hid (HB0.out.trans (HB9.out.mono HB0.out.size))
    go_wp2
    go_ret
    exact ⟨rfl, HBZ.out⟩
end Go.Proofs.YtfjmcklmoebnaaaDoor.Mg
