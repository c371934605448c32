/- Model: the example. -/
import Derived.Test.YtigkdoicmcdbhaaGreatMdI
import Derived.Great.BuildSlice
namespace Go.Proofs.YtigkdoicmcdbhaaGreat.Md
open Go.RowKit Go.Proofs.YtigkdoicmcdbhaaGreat.Mem
open Go.Proofs.YtigkdoicmcdbhaaGreat.Fc (PieceP XattrP LinkP NodeC pieceC xattrC linkC nodeC stateC)
open Go.Proofs.YtigkdoicmcdbhaaGreat.Sr (EOwn GrewE zeroS)
open Go.Proofs.YtigkdoicmcdbhaaGreat.Stab (EOut eown_nil eown_sl)
open Go.Proofs.YtigkdoicmcdbhaaGreat.Stl (IdxIs any_take any_hit isId filter_yes filter_no filter_len eown_below eown_mono)
open Go.Proofs.YtigkdoicmcdbhaaGreat.Vc (vecC stC eql_st neq_st)
set_option linter.unusedVariables false set_option linter.unusedSimpArgs false

def evA : Fc.EventC := ⟨(1, 0), 0, fun _ => 0, ⟨fun _ => 0, none, 0, 0, none, 0, 0, [], []⟩⟩
def evB : Fc.EventC := ⟨(2, 1), 0, fun i => if i = 0 then 1 else 0, ⟨fun _ => 0, none, 0, 0, none, 0, 0, [], []⟩⟩
theorem last_ex : lastE [evA, evB] = some evB := by kernel_rfl
theorem bef_ab : befB evA evB = true := by kernel_rfl
theorem bef_ba : befB evB evA = false := by kernel_rfl
theorem srow_two {w : World} {g : Nat} {t : TypeId} {a b : Fc.EventC} (h : Has w g t (Fc.eventC a ++ Fc.eventC b)) : Fc.SRow w 21 Fc.eventC (some ⟨g, 0, none⟩) 2 [a, b] := by
  refine ⟨rfl, fun _ => ⟨g, 0, rfl, h.bound, fun i hi j v hv => ?_⟩⟩
  have hj : j < 21 := by
    obtain ⟨q, _⟩ := Array.getElem?_eq_some_iff.1 hv
    exact q
  rw [show 0 + i * 21 + j = i * 21 + j by omega, h.at_]
  match i, hi with
  | 0, _ =>
    rw [Array.getElem?_append_left (by show 0 * 21 + j < 21; omega), show 0 * 21 + j = j by omega]
    simpa using hv
  | 1, _ =>
    rw [Array.getElem?_append_right (by show 21 ≤ 1 * 21 + j; omega), show 1 * 21 + j - (Fc.eventC a).size = j by show 1 * 21 + j - 21 = j; omega]
    simpa using hv
  | i + 2, hi => simp at hi; omega
theorem fill_two : Instr.fill (fun i => some (i * 21, 21)) ((Array.range (2 * 21)).map ((Value.agg (Fc.eventC Sr.zeroE)).cells[· % (Value.agg (Fc.eventC Sr.zeroE)).cells.size]!)) [(0, Value.agg (Fc.eventC evA)), (1, Value.agg (Fc.eventC evB))] = some (Fc.eventC evA ++ Fc.eventC evB) := by kernel_rfl
theorem wpList_build_two {ops : Array Oper} {rest : List Oper} {o : Oper} {a : Act} {w : World} {Q : Exit → Act → World → Prop} (x y : Operand) (ho : o.op = .buildSlice 22 2 #[(0, x), (1, y)])
    (h : (Region.wanted o (yielded ops a.tmps) = true ∧ a.eval x = .agg (Fc.eventC evA) ∧ a.eval y = .agg (Fc.eventC evB)) ∧ wpList Tryz.prog ops Q rest (a.put o.dst (.slice (some ⟨w.heap.size, 0, none⟩) 2 2)) (w.alloc (.cells (Fc.eventC evA ++ Fc.eventC evB) 34))) : wpList Tryz.prog ops Q (o :: rest) a w := by
  obtain ⟨⟨h1, h2, h2'⟩, h3⟩ := h
  obtain ⟨i, q0, q1, q2, q3⟩ := Sr.info_parts_ev
  refine wpList_step fun K hK => ?_
  rw [if_pos h1]
  refine wp_buildSlice 22 34 2 _ ho (Fc.eventC evA ++ Fc.eventC evB) i _ Tryz.underlying22 q0 q1 (by omega) (by omega) ?_ (hK _ _ h3)
  have e1 : (#[(0, x), (1, y)] : Array (Nat × Operand)).map (fun (i, x) => (i, a.eval x)) = #[(0, .agg (Fc.eventC evA)), (1, .agg (Fc.eventC evB))] := by simp [h2, h2']
  rw [e1, q2]
  exact fill_two
set_option maxRecDepth 100000 in
set_option maxHeartbeats 4000000 in
theorem awake_any (w : World) : Calls Tryz.prog 5 #[] w fun e w' => e = .returned (.bool true) ∧ Below w.heap.size w w' := by
  have halv := Sr.alloc_event
  have hb3 : Below w.heap.size w (((w.alloc (.cells (Fc.eventC evA) 34)).alloc (.cells (Fc.eventC evB) 34)).alloc (.cells (Fc.eventC evA ++ Fc.eventC evB) 34)) := (((Below.refl w.heap.size w).alloc (Nat.le_refl _) _).alloc (by simp) _).alloc (by simp; omega) _
  have HB3 := Lib.hid hb3
  have HA1 := Lib.hid (show Has ((w.alloc (.cells (Fc.eventC evA) 34)).alloc (.cells (Fc.eventC evB) 34)) w.heap.size 34 (Fc.eventC evA) from (Has.fresh w 34 (Fc.eventC evA)).past _)
  have HA2 := Lib.hid (show Has ((w.alloc (.cells (Fc.eventC evA) 34)).alloc (.cells (Fc.eventC evB) 34)) (w.heap.size + 1) 34 (Fc.eventC evB) from freshAt 34 _ (by simp))
  have HA := Lib.hid (HA1.out.past (.cells (Fc.eventC evA ++ Fc.eventC evB) 34))
  have HB := Lib.hid (HA2.out.past (.cells (Fc.eventC evA ++ Fc.eventC evB) 34))
  have HR := Lib.hid (srow_two (show Has (((w.alloc (.cells (Fc.eventC evA) 34)).alloc (.cells (Fc.eventC evB) 34)).alloc (.cells (Fc.eventC evA ++ Fc.eventC evB) 34)) (w.heap.size + 1 + 1) 34 (Fc.eventC evA ++ Fc.eventC evB) from freshAt 34 _ (by simp)))
  have HL := Lib.hid (last_any (some ⟨w.heap.size + 1 + 1, 0, none⟩) 2 2 [evA, evB] (by decide) (((w.alloc (.cells (Fc.eventC evA) 34)).alloc (.cells (Fc.eventC evB) 34)).alloc (.cells (Fc.eventC evA ++ Fc.eventC evB) 34)) HR.out)
  clear hb3
  go_enter Tryz.func5, Tryz.ntmps5
  go_wp2_with (first | ((with_reducible refine Who.wpList_newC 34 1 (.tmp 6) rfl rfl rfl (Fc.eventC Sr.zeroE) (Fc.eventC evA) ?_); refine And.intro ⟨rfl, rfl, rfl, halv, by rfl, by rfl, Sr.info_event, rfl, Sr.event_one _⟩ ?_; (try simp only [Act.put, List.setIfInBounds_toArray, List.set_cons_zero, List.set_cons_succ]); (try simp only [World.size_alloc])) | ((with_reducible refine Who.wpList_newC 34 2 (.tmp 9) rfl rfl rfl (Fc.eventC Sr.zeroE) (Fc.eventC evB) ?_); refine And.intro ⟨rfl, rfl, rfl, halv, by rfl, by rfl, Sr.info_event, rfl, Sr.event_one _⟩ ?_; (try simp only [Act.put, List.setIfInBounds_toArray, List.set_cons_zero, List.set_cons_succ]); (try simp only [World.size_alloc])) | ((with_reducible refine Who.wpList_loadC 34 (.tmp 1) rfl (w.heap.size) 0 (Fc.eventC evA) ?_); refine And.intro ⟨by rfl, by rfl, ⟨_, Tryz.underlying34, rfl⟩, Sr.info_event⟩ (And.intro (Who.has_range HA1.out) ?_); (try simp only [Act.put, List.setIfInBounds_toArray, List.set_cons_zero, List.set_cons_succ])) | ((with_reducible refine Who.wpList_loadC 34 (.tmp 2) rfl ((w.heap.size + 1)) 0 (Fc.eventC evB) ?_); refine And.intro ⟨by rfl, by rfl, ⟨_, Tryz.underlying34, rfl⟩, Sr.info_event⟩ (And.intro (Who.has_range HA2.out) ?_); (try simp only [Act.put, List.setIfInBounds_toArray, List.set_cons_zero, List.set_cons_succ])) | ((with_reducible refine wpList_build_two (.tmp 11) (.tmp 12) rfl ?_); refine And.intro ⟨by rfl, by rfl, by rfl⟩ ?_; (try simp only [Act.put, List.setIfInBounds_toArray, List.set_cons_zero, List.set_cons_succ]); (try simp only [World.size_alloc])) | fail)
  refine HL.out.mono ?_
  rintro q w4 ⟨rfl, hb⟩
  rw [last_ex]
  have hb4 := HB3.out.trans (hb.mono HB3.out.size)
  have HB5 := Lib.hid (hb4.alloc hb4.size (.cells (Fc.eventC evB) 34))
  have HA5 := Lib.hid ((HA.out.below hb).past (.cells (Fc.eventC evB) 34))
  have HC5 := Lib.hid ((HB.out.below hb).past (.cells (Fc.eventC evB) 34))
  have HD5 := Lib.hid (Has.fresh w4 34 (Fc.eventC evB))
  have HFN := Lib.hid (fun V => fold_nil V)
  have HEM := Lib.hid (fun V => Fc.empty_any V)
  have HSM := Lib.hid (fun g1 g2 V h1 h2 => fsame_any g1 g2 V h1 h2)
  have HP1 := Lib.hid (fun V => before_any evA evB V)
  have HP2 := Lib.hid (fun V => before_any evB evA V)
  have q1 := fun W => Smr.eref_st 2 1 W
  clear hb hb4 HB3 HA1 HA2 HA HB HR HL
  simp only [Option.getD_some, Option.isSome_some]
  go_wp2_with (first | ((with_reducible refine Who.wpList_newC 34 3 (.tmp 15) rfl rfl rfl (Fc.eventC Sr.zeroE) (Fc.eventC evB) ?_); refine And.intro ⟨rfl, rfl, rfl, halv, by rfl, by rfl, Sr.info_event, rfl, Sr.event_one _⟩ ?_; (try simp only [Act.put, List.setIfInBounds_toArray, List.set_cons_zero, List.set_cons_succ]); (try simp only [World.size_alloc])) | ((with_reducible refine Who.wpList_alloc 34 3 rfl rfl rfl (Fc.eventC Sr.zeroE) halv ?_); (try simp only [Act.put, List.setIfInBounds_toArray, List.set_cons_zero, List.set_cons_succ]); (try simp only [World.size_alloc])) | fail)
  refine (HFN.out _).mono ?_
  rintro q w6 ⟨g1, rfl, hs, hg, hb⟩
  have HB6 := Lib.hid (HB5.out.trans (hb.mono HB5.out.size))
  have HA6 := Lib.hid (HA5.out.below hb)
  have HC6 := Lib.hid (HC5.out.below hb)
  have HD6 := Lib.hid (HD5.out.below hb)
  have HS6 := Lib.hid hs
  clear hb hs hg HB5 HA5 HC5 HD5
  go_wp2_with fail
  refine (HEM.out _).mono ?_
  rintro q w7 ⟨g2, rfl, hs, hg, hb⟩
  have HB7 := Lib.hid (HB6.out.trans (hb.mono HB6.out.size))
  have HA7 := Lib.hid (HA6.out.below hb)
  have HC7 := Lib.hid (HC6.out.below hb)
  have HD7 := Lib.hid (HD6.out.below hb)
  have HS7 := Lib.hid (HS6.out.below hb)
  have HT7 := Lib.hid hs
  clear hb hs hg HB6 HA6 HC6 HD6 HS6
  go_wp2_with fail
  refine (HSM.out _ _ _ HS7.out HT7.out).mono ?_
  rintro q w8 ⟨rfl, hb⟩
  have HB8 := Lib.hid (HB7.out.trans (hb.mono HB7.out.size))
  have HA8 := Lib.hid (HA7.out.below hb)
  have HC8 := Lib.hid (HC7.out.below hb)
  have HD8 := Lib.hid (HD7.out.below hb)
  clear hb HB7 HA7 HC7 HD7 HS7 HT7
  go_wp2_with (first | ((with_reducible refine Who.wpList_loadC 34 (.tmp 1) rfl (w.heap.size) 0 (Fc.eventC evA) ?_); refine And.intro ⟨by rfl, by rfl, ⟨_, Tryz.underlying34, rfl⟩, Sr.info_event⟩ (And.intro (Who.has_range HA8.out) ?_); (try simp only [Act.put, List.setIfInBounds_toArray, List.set_cons_zero, List.set_cons_succ])) | ((with_reducible refine Who.wpList_loadC 34 (.tmp 2) rfl ((w.heap.size + 1)) 0 (Fc.eventC evB) ?_); refine And.intro ⟨by rfl, by rfl, ⟨_, Tryz.underlying34, rfl⟩, Sr.info_event⟩ (And.intro (Who.has_range HC8.out) ?_); (try simp only [Act.put, List.setIfInBounds_toArray, List.set_cons_zero, List.set_cons_succ])) | fail)
  refine (HP1.out _).mono ?_
  rintro q w9 ⟨rfl, hb⟩
  rw [bef_ab]
  have HB9 := Lib.hid (HB8.out.trans (hb.mono HB8.out.size))
  have HA9 := Lib.hid (HA8.out.below hb)
  have HC9 := Lib.hid (HC8.out.below hb)
  have HD9 := Lib.hid (HD8.out.below hb)
  clear hb HB8 HA8 HC8 HD8
  go_wp2_with (first | ((with_reducible refine Who.wpList_loadC 34 (.tmp 1) rfl (w.heap.size) 0 (Fc.eventC evA) ?_); refine And.intro ⟨by rfl, by rfl, ⟨_, Tryz.underlying34, rfl⟩, Sr.info_event⟩ (And.intro (Who.has_range HA9.out) ?_); (try simp only [Act.put, List.setIfInBounds_toArray, List.set_cons_zero, List.set_cons_succ])) | ((with_reducible refine Who.wpList_loadC 34 (.tmp 2) rfl ((w.heap.size + 1)) 0 (Fc.eventC evB) ?_); refine And.intro ⟨by rfl, by rfl, ⟨_, Tryz.underlying34, rfl⟩, Sr.info_event⟩ (And.intro (Who.has_range HC9.out) ?_); (try simp only [Act.put, List.setIfInBounds_toArray, List.set_cons_zero, List.set_cons_succ])) | fail)
  refine (HP2.out _).mono ?_
  rintro q w10 ⟨rfl, hb⟩
  rw [bef_ba]
  have HB10 := Lib.hid (HB9.out.trans (hb.mono HB9.out.size))
  have HC10 := Lib.hid (HC9.out.below hb)
  have HD10 := Lib.hid (HD9.out.below hb)
  clear hb HB9 HA9 HC9 HD9
  go_wp2_with (first | ((with_reducible refine Who.wpList_loadC 26 (.tmp 35) rfl (w4.heap.size) 0 (#[.int .i64 2, .int .i64 1]) ?_); refine And.intro ⟨by rfl, by rfl, ⟨_, Tryz.underlying26, rfl⟩, Sr.info_st⟩ (And.intro (Smr.rangeOf HD10.out 0 _ (Smr.rat2 (ev := evB))) ?_); (try simp only [Act.put, List.setIfInBounds_toArray, List.set_cons_zero, List.set_cons_succ])) | ((with_reducible refine Who.wpList_loadC 26 (.tmp 37) rfl ((w.heap.size + 1)) 0 (#[.int .i64 2, .int .i64 1]) ?_); refine And.intro ⟨by rfl, by rfl, ⟨_, Tryz.underlying26, rfl⟩, Sr.info_st⟩ (And.intro (Smr.rangeOf HC10.out 0 _ (Smr.rat2 (ev := evB))) ?_); (try simp only [Act.put, List.setIfInBounds_toArray, List.set_cons_zero, List.set_cons_succ])) | fail)
  go_ret
  exact ⟨rfl, HB10.out⟩
end Go.Proofs.YtigkdoicmcdbhaaGreat.Md
