/- The law NetNobody walked. -/
import Derived.Test.YtdjdaljhdjcjlabNtQ
namespace Go.Proofs.Ytdjdaljhdjcjlab.Nt
open Go.RowKit Go.Proofs.Ytdjdaljhdjcjlab.Mem Go.Proofs.Ytdjdaljhdjcjlab.Vc
set_option linter.unusedVariables false

set_option maxRecDepth 100000 in
set_option maxHeartbeats 4000000 in
theorem does_dead (p : Option Addr) (d : DoP) (w : World) (h : Dead w p) : Calls Try.prog 9 #[.pointer p, .agg (doC d)] w fun e w' => e = .returned (.tuple #[.agg (msgC msg0), .int .i64 200]) ∧ Below w.heap.size w w' := by
  have hal := alloc_msg
  have HB := Lib.hid (((Below.refl w.heap.size w).alloc (Nat.le_refl _) (.cells (doC d) 35)).alloc (by simp) (.cells (msgC msg0) 33))
  have HD := Lib.hid (show Has ((w.alloc (.cells (doC d) 35)).alloc (.cells (msgC msg0) 33)) w.heap.size 35 (doC d) from (Has.fresh w 35 (doC d)).past _)
  have HR := Lib.hid (show Has ((w.alloc (.cells (doC d) 35)).alloc (.cells (msgC msg0) 33)) (w.heap.size + 1) 33 (msgC msg0) from by have h := Has.fresh (w.alloc (.cells (doC d) 35)) 33 (msgC msg0); rw [World.size_alloc] at h; exact h)
  have HI := Lib.hid (h.below HB.out)
  have b0 : (doC d)[0]? = some (.int .i64 d.op) := rfl
  have b1 : (doC d)[1]? = some (.int .i64 d.k) := rfl
  obtain ⟨a, ha⟩ : ∃ a, a = opA d := ⟨_, rfl⟩
  have ha2 : bits .and .i64 d.op 7 = a := ha.symm
  clear h ha
  go_enter Try.func9, Try.ntmps9
  by_cases q4 : a = 4
  · have e4 : (a == 4) = true := beq_iff_eq.2 q4
    clear q4
    go_wp2_with ((with_reducible refine Who.wpList_alloc 33 4 rfl rfl rfl (msgC msg0) hal ?_); (try simp only [Act.put, List.setIfInBounds_toArray, List.set_cons_zero, List.set_cons_succ]); (try simp only [World.size_alloc]))
    with_reducible refine (peek_dead p d.k _ HI.out).mono ?_
    rintro e w2 ⟨rfl, hb⟩
    have HR2 := Lib.hid (HR.out.below hb)
    have HB2 := Lib.hid (HB.out.trans (hb.mono HB.out.size))
    clear hb
    go_wp2_with ((with_reducible refine Who.wpList_storeC 33 (.tmp 4) (.tmp 15) rfl (w.heap.size + 1) 0 (msgC msg0) ?_); refine And.intro ⟨rfl, by rfl, by rfl, info_size _, msgC_one _⟩ (And.intro (Who.has_there HR2.out rfl) ?_); (try simp only [Act.put, List.setIfInBounds_toArray, List.set_cons_zero, List.set_cons_succ]))
    refine bodyPost_ret (v := .tuple #[.agg (msgC msg0), .int .i64 200]) (Who.results_cell_tmp Try.results9 _ _ (w.heap.size + 1) 0 (msgC msg0) _ (by rfl) (Who.has_range (Who.has_over HR2.out rfl)) Try.underlying33 rfl (info_size _)) rfl ⟨rfl, Who.below_setCells HB2.out (by omega) 0 _⟩
  have e4 : (a == 4) = false := beq_eq_false_iff_ne.2 q4
  clear q4
  by_cases q5 : a = 5
  · have e5 : (a == 5) = true := beq_iff_eq.2 q5
    clear q5
    go_wp2_with ((with_reducible refine Who.wpList_alloc 33 4 rfl rfl rfl (msgC msg0) hal ?_); (try simp only [Act.put, List.setIfInBounds_toArray, List.set_cons_zero, List.set_cons_succ]); (try simp only [World.size_alloc]))
    with_reducible refine (take_dead p d.k _ HI.out).mono ?_
    rintro e w2 ⟨rfl, hb⟩
    have HR2 := Lib.hid (HR.out.below hb)
    have HB2 := Lib.hid (HB.out.trans (hb.mono HB.out.size))
    clear hb
    go_wp2_with ((with_reducible refine Who.wpList_storeC 33 (.tmp 4) (.tmp 23) rfl (w.heap.size + 1) 0 (msgC msg0) ?_); refine And.intro ⟨rfl, by rfl, by rfl, info_size _, msgC_one _⟩ (And.intro (Who.has_there HR2.out rfl) ?_); (try simp only [Act.put, List.setIfInBounds_toArray, List.set_cons_zero, List.set_cons_succ]))
    refine bodyPost_ret (v := .tuple #[.agg (msgC msg0), .int .i64 200]) (Who.results_cell_tmp Try.results9 _ _ (w.heap.size + 1) 0 (msgC msg0) _ (by rfl) (Who.has_range (Who.has_over HR2.out rfl)) Try.underlying33 rfl (info_size _)) rfl ⟨rfl, Who.below_setCells HB2.out (by omega) 0 _⟩
  have e5 : (a == 5) = false := beq_eq_false_iff_ne.2 q5
  clear q5
  by_cases q6 : a = 6
  · have e6 : (a == 6) = true := beq_iff_eq.2 q6
    clear q6
    go_wp2_with ((with_reducible refine Who.wpList_alloc 33 4 rfl rfl rfl (msgC msg0) hal ?_); (try simp only [Act.put, List.setIfInBounds_toArray, List.set_cons_zero, List.set_cons_succ]); (try simp only [World.size_alloc]))
    with_reducible refine (lose_dead p d.k _ HI.out).mono ?_
    rintro e w2 ⟨rfl, hb⟩
    have HR2 := Lib.hid (HR.out.below hb)
    have HB2 := Lib.hid (HB.out.trans (hb.mono HB.out.size))
    clear hb
    go_wp2_with ((with_reducible refine Who.wpList_storeC 33 (.tmp 4) (.tmp 27) rfl (w.heap.size + 1) 0 (msgC msg0) ?_); refine And.intro ⟨rfl, by rfl, by rfl, info_size _, msgC_one _⟩ (And.intro (Who.has_there HR2.out rfl) ?_); (try simp only [Act.put, List.setIfInBounds_toArray, List.set_cons_zero, List.set_cons_succ]))
    refine bodyPost_ret (v := .tuple #[.agg (msgC msg0), .int .i64 200]) (Who.results_cell_tmp Try.results9 _ _ (w.heap.size + 1) 0 (msgC msg0) _ (by rfl) (Who.has_range (Who.has_over HR2.out rfl)) Try.underlying33 rfl (info_size _)) rfl ⟨rfl, Who.below_setCells HB2.out (by omega) 0 _⟩
  have e6 : (a == 6) = false := beq_eq_false_iff_ne.2 q6
  clear q6
  by_cases q7 : a = 7
  · have e7 : (a == 7) = true := beq_iff_eq.2 q7
    clear q7
    go_wp2_with ((with_reducible refine Who.wpList_alloc 33 4 rfl rfl rfl (msgC msg0) hal ?_); (try simp only [Act.put, List.setIfInBounds_toArray, List.set_cons_zero, List.set_cons_succ]); (try simp only [World.size_alloc]))
    with_reducible refine (double_dead p d.k _ HI.out).mono ?_
    rintro e w2 ⟨rfl, hb⟩
    have HR2 := Lib.hid (HR.out.below hb)
    have HB2 := Lib.hid (HB.out.trans (hb.mono HB.out.size))
    clear hb
    go_wp2_with ((with_reducible refine Who.wpList_storeC 33 (.tmp 4) (.tmp 34) rfl (w.heap.size + 1) 0 (msgC msg0) ?_); refine And.intro ⟨rfl, by rfl, by rfl, info_size _, msgC_one _⟩ (And.intro (Who.has_there HR2.out rfl) ?_); (try simp only [Act.put, List.setIfInBounds_toArray, List.set_cons_zero, List.set_cons_succ]))
    refine bodyPost_ret (v := .tuple #[.agg (msgC msg0), .int .i64 200]) (Who.results_cell_tmp Try.results9 _ _ (w.heap.size + 1) 0 (msgC msg0) _ (by rfl) (Who.has_range (Who.has_over HR2.out rfl)) Try.underlying33 rfl (info_size _)) rfl ⟨rfl, Who.below_setCells HB2.out (by omega) 0 _⟩
  have e7 : (a == 7) = false := beq_eq_false_iff_ne.2 q7
  clear q7
  go_wp2_with (first | ((with_reducible refine Who.wpList_alloc 33 4 rfl rfl rfl (msgC msg0) hal ?_); (try simp only [Act.put, List.setIfInBounds_toArray, List.set_cons_zero, List.set_cons_succ]); (try simp only [World.size_alloc])) | ((with_reducible refine Who.wpList_loadC 33 (.tmp 41) rfl w.heap.size 2 (msgC d.m) ?_); refine And.intro ⟨by rfl, by rfl, ⟨_, Try.underlying33, rfl⟩, info_size _⟩ (And.intro (do_range HD.out) ?_); (try simp only [Act.put, List.setIfInBounds_toArray, List.set_cons_zero, List.set_cons_succ])))
  with_reducible refine (send_dead p d.m _ HI.out).mono ?_
  rintro e w2 ⟨rfl, hb⟩
  have HR2 := Lib.hid (HR.out.below hb)
  have HB2 := Lib.hid (HB.out.trans (hb.mono HB.out.size))
  clear hb
  go_wp2_with ((with_reducible refine Who.wpList_storeC 33 (.tmp 4) (.tmp 39) rfl (w.heap.size + 1) 0 (msgC msg0) ?_); refine And.intro ⟨rfl, by rfl, by rfl, info_size _, msgC_one _⟩ (And.intro (Who.has_there HR2.out rfl) ?_); (try simp only [Act.put, List.setIfInBounds_toArray, List.set_cons_zero, List.set_cons_succ]))
  refine bodyPost_ret (v := .tuple #[.agg (msgC msg0), .int .i64 200]) (Who.results_cell_tmp Try.results9 _ _ (w.heap.size + 1) 0 (msgC msg0) _ (by rfl) (Who.has_range (Who.has_over HR2.out rfl)) Try.underlying33 rfl (info_size _)) rfl ⟨rfl, Who.below_setCells HB2.out (by omega) 0 _⟩
theorem fill_do (d : DoP) : Instr.fill (fun i => some (i * 21, 21)) ((Array.range (1 * 21)).map ((Value.agg (doC do0)).cells[· % (Value.agg (doC do0)).cells.size]!)) [(0, Value.agg (doC d))] = some (doC d) := by kernel_rfl
theorem info_do3 : (Try.prog.info? 35).map (fun i => (i.zero, i.size, i.bytes)) = some (some (.agg (doC do0)), 21, 176) := by kernel_rfl
theorem wpList_build_do {ops : Array Oper} {rest : List Oper} {o : Oper} {a : Act} {w : World} {Q : Exit → Act → World → Prop} (x : Operand) (ho : o.op = .buildSlice 22 1 #[(0, x)]) (d : DoP)
    (h : (o.guard = none ∧ a.eval x = .agg (doC d)) ∧ wpList Try.prog ops Q rest (a.put o.dst (.slice (some ⟨w.heap.size, 0, none⟩) 1 1)) (w.alloc (.cells (doC d) 35))) : wpList Try.prog ops Q (o :: rest) a w := by
  obtain ⟨⟨h1, h2⟩, h3⟩ := h
  obtain ⟨i, q0, q1, q2, q3⟩ := info_parts info_do3
  refine wpList_buildSlice h1 22 35 1 _ ho (doC d) i _ Try.underlying22 q0 q1 (by omega) (by omega) ?_ h3
  have e : (#[(0, x)] : Array (Nat × Operand)).map (fun (i, x) => (i, a.eval x)) = #[(0, .agg (doC d))] := by simp [h2]
  rw [e, q2]
  exact fill_do d
theorem neq_zero (w : World) : (binOp .neq 33 (.agg (msgC msg0)) (.agg #[.int .i64 0, .int .i64 0, .int .i64 0, .int .i64 0, .int .i64 0, .int .i64 0, .int .i64 0, .int .i64 0, .int .i64 0, .int .i64 0, .int .i64 0, .int .i64 0, .int .i64 0, .int .i64 0, .int .i64 0, .int .i64 0, .int .i64 0, .int .i64 0, .string ⟨#[]⟩])).run Try.prog w = .ok (.bool false) w := by
  have h := neq_msg msg0 msg0 w
  rw [sameM_of rfl] at h
  exact h
/-- What is so ahead of each of the two. -/
structure NobI (W wr : World) (d : DoP) (q b : Nat) : Prop where
  below : Below W.heap.size W wr
  box : Has wr W.heap.size 35 (doC d)
  row : Has wr q 25 #[.pointer none, .pointer (some ⟨b, 0, none⟩)]
  net : Has wr b 44 #[.bool false, .slice none 0 0, .int .i64 0, .int .i64 0]
theorem NobI.step {W wr w' : World} {d : DoP} {q b : Nat} (h : NobI W wr d q b) (hb : Below wr.heap.size wr w') : NobI W w' d q b := ⟨h.below.trans (hb.mono h.below.size), h.box.below hb, h.row.below hb, h.net.below hb⟩
def zeroN : Array Value := #[.bool false, .slice none 0 0, .int .i64 0, .int .i64 0]
set_option maxRecDepth 100000 in
set_option maxHeartbeats 8000000 in
theorem nob_walk (W : World) (d : DoP) (hd : d.m.data.size ≤ maxLen) : Calls Try.prog 5 #[.agg (doC d)] W fun e w' => e = .returned (.bool true) ∧ Below W.heap.size W w' := by
  have hal := alloc_msg
  have HAW := Lib.hid (fun w => awake_any w)
  have HB0 := Lib.hid ((Below.refl W.heap.size W).alloc (Nat.le_refl _) (.cells (doC d) 35))
  have HX := Lib.hid (Has.fresh W 35 (doC d))
  have HB1 := Lib.hid (HB0.out.alloc (by simp) (.cells (doC d) 35))
  have HX1 := Lib.hid (HX.out.past (.cells (doC d) 35))
  have HY := Lib.hid (show Has ((W.alloc (.cells (doC d) 35)).alloc (.cells (doC d) 35)) (W.heap.size + 1) 35 (doC d) from by have h := Has.fresh (W.alloc (.cells (doC d) 35)) 35 (doC d); rw [World.size_alloc] at h; exact h)
  have HSH := Lib.hid (short_any (some ⟨W.heap.size + 1, 0, none⟩) 1 1 [d] ((W.alloc (.cells (doC d) 35)).alloc (.cells (doC d) 35)) ⟨rfl, fun i e he => by
    have hi : i = 0 := by have := (List.getElem?_eq_some_iff.1 he).1; simp at this; exact this
    subst hi
    have he2 : d = e := by simpa using he
    subst he2
    exact ⟨W.heap.size + 1, 0, rfl, HY.out.bound, by simpa using Who.has_range HY.out, hd⟩⟩ (by unfold maxLen; decide))
  clear hd
  go_enter Try.func5, Try.ntmps5
  go_wp2_with (first | ((with_reducible refine Who.wpList_loadC 35 (.tmp 1) rfl W.heap.size 0 (doC d) ?_); refine And.intro ⟨by rfl, by rfl, ⟨_, Try.underlying35, rfl⟩, info_do⟩ (And.intro (Who.has_range HX.out) ?_); (try simp only [Act.put, List.setIfInBounds_toArray, List.set_cons_zero, List.set_cons_succ])) | ((with_reducible refine wpList_build_do (.tmp 10) rfl d ?_); refine And.intro ⟨rfl, by rfl⟩ ?_; (try simp only [Act.put, List.setIfInBounds_toArray, List.set_cons_zero, List.set_cons_succ]); (try simp only [World.size_alloc])))
  with_reducible refine HSH.out.mono ?_
  rintro e w0 ⟨b, rfl, -, hw⟩
  have HW := Lib.hid hw
  clear hw
  cases b with
  | false =>
    go_wp2_with fail
    with_reducible refine (HAW.out _).mono ?_
    rintro e w1 ⟨rfl, hb⟩
    have HB := Lib.hid ((show Below W.heap.size W w0 from HW.out ▸ HB1.out).trans (hb.mono (show Below W.heap.size W w0 from HW.out ▸ HB1.out).size))
    clear hb
    go_wp2
    go_ret
    exact ⟨rfl, HB.out⟩
  | true =>
    obtain ⟨g, hg⟩ : ∃ g, g = w0.heap.size := ⟨_, rfl⟩
    have hB0 : Below W.heap.size W w0 := HW.out ▸ HB1.out
    have hX0 : Has w0 W.heap.size 35 (doC d) := HW.out ▸ HX1.out
    have HI0 := Lib.hid (show NobI W ((w0.alloc (.cells #[.bool false, .slice none 0 0, .int .i64 0, .int .i64 0] 44)).alloc (.cells #[.pointer none, .pointer (some ⟨w0.heap.size, 0, none⟩)] 25)) d (w0.heap.size + 1) w0.heap.size from
      ⟨(hB0.alloc hB0.size _).alloc (by have := hB0.size; simp; omega) _, (hX0.past _).past _, by
        have h := Has.fresh (w0.alloc (.cells #[.bool false, .slice none 0 0, .int .i64 0, .int .i64 0] 44)) 25 #[.pointer none, .pointer (some ⟨w0.heap.size, 0, none⟩)]
        rw [World.size_alloc] at h
        exact h, (Has.fresh w0 44 _).past _⟩)
    clear hB0 hX0 hg
    go_wp2
    go_loopw [19] (fun i wr => ∃ j : Nat, j ≤ 2 ∧ i = .int .i64 j ∧ Hid (NobI W wr d (w0.heap.size + 1) w0.heap.size)) (fun i _ => 2 - (intOf i).toNat)
    case atStart => exact ⟨0, by omega, rfl, HI0⟩
    case round =>
      obtain ⟨j, hj, rfl, HI⟩ := hrel
      by_cases hlt : j < 2
      · have hlti : (j : Int) < 2 := by omega
        obtain ⟨p, c0, hp⟩ : ∃ p, wr.cell? ⟨w0.heap.size + 1, j, none⟩ = some (.pointer p) ∧ Dead wr p := by
          match j, hlt with
          | 0, _ => exact ⟨none, HI.out.row.at_ 0, .inl rfl⟩
          | 1, _ => exact ⟨_, HI.out.row.at_ 1, .inr ⟨_, rfl, HI.out.net⟩⟩
        have HP := Lib.hid hp
        have HLT := Lib.hid hlt
        have HD1 := Lib.hid (does_dead p d wr hp)
        clear hp
        go_wp2_with ((with_reducible refine Who.wpList_loadC 35 (.tmp 1) rfl W.heap.size 0 (doC d) ?_); refine And.intro ⟨by rfl, by rfl, ⟨_, Try.underlying35, rfl⟩, info_do⟩ (And.intro (Who.has_range HI.out.box) ?_); (try simp only [Act.put, List.setIfInBounds_toArray, List.set_cons_zero, List.set_cons_succ]))
        with_reducible refine HD1.out.mono ?_
        rintro e w2 ⟨rfl, hb⟩
        have hb2 := hb.alloc hb.size (.cells (msgC msg0) 33)
        have HM := Lib.hid (Has.fresh w2 33 (msgC msg0))
        have HBK := Lib.hid hb2
        have HC := Lib.hid (count_dead p _ (HP.out.below hb2))
        clear hb hb2
        go_wp2_with ((with_reducible refine Who.wpList_newC 33 5 (.tmp 27) rfl rfl rfl (msgC msg0) (msgC msg0) ?_); refine And.intro ⟨rfl, rfl, rfl, hal, by rfl, by rfl, info_size _, rfl, msgC_one _⟩ ?_; (try simp only [Act.put, List.setIfInBounds_toArray, List.set_cons_zero, List.set_cons_succ]))
        with_reducible refine HC.out.mono ?_
        rintro e w3 ⟨rfl, hb⟩
        have HM3 := Lib.hid (HM.out.below hb)
        have HB3 := Lib.hid (HBK.out.trans (hb.mono HBK.out.size))
        have hq := neq_zero
        have HK := Lib.hid (clone_dead p _ (HP.out.below HB3.out))
        clear hb
        go_wp2_with ((with_reducible refine Who.wpList_loadC 33 (.tmp 5) rfl w2.heap.size 0 (msgC msg0) ?_); refine And.intro ⟨by rfl, by rfl, ⟨_, Try.underlying33, rfl⟩, info_size _⟩ (And.intro (Who.has_range HM3.out) ?_); (try simp only [Act.put, List.setIfInBounds_toArray, List.set_cons_zero, List.set_cons_succ]))
        with_reducible refine HK.out.mono ?_
        rintro e w4 ⟨rfl, hb⟩
        have HN := Lib.hid (HI.out.step (HB3.out.trans (hb.mono HB3.out.size)))
        clear hb
        go_wp2
        go_roundw
        case rel => exact ⟨j + 1, HLT.out, by go_num, HN⟩
        case measure => have := HLT.out; simp [intOf]; omega
      · have hlti : ¬ (j : Int) < 2 := by omega
        go_wp2_with fail
        with_reducible refine (HAW.out _).mono ?_
        rintro e w1 ⟨rfl, hb⟩
        have HB := Lib.hid (HI.out.below.trans (hb.mono HI.out.below.size))
        clear hb
        go_wp2
        go_ret
        exact ⟨rfl, HB.out⟩
end Go.Proofs.Ytdjdaljhdjcjlab.Nt
