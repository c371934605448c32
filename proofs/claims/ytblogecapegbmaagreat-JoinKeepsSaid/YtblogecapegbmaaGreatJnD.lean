/- Join: the first of numbers that is not 0; how registers stand. -/
import Derived.Test.YtblogecapegbmaaGreatJnC
import Derived.Deep.RegionHeld3
import Derived.BigRegion
namespace Go.Proofs.YtblogecapegbmaaGreat.Jn
open Go.RowKit Go.Proofs.YtblogecapegbmaaGreat.Mem Go.Sort
open Go.Proofs.YtblogecapegbmaaGreat.Vc (lessB joinV stC vecC)
set_option linter.unusedVariables false set_option linter.unusedSimpArgs false

/-- How two stand, as a number. -/
def sgn {α : Type} (lt : α → α → Bool) (a b : α) : Int := if lt a b = true then -1 else if lt b a = true then 1 else 0
theorem sgn_pos {α : Type} {lt : α → α → Bool} (h : KLt lt) (a b : α) : 0 < sgn lt a b ↔ lt b a = true := by
 unfold sgn
 cases h1 : lt a b with
 | true =>
  cases h2 : lt b a with
  | true => have := h.trans h1 h2; rw [h.irr] at this; cases this
  | false => simp
 | false => cases h2 : lt b a <;> simp
theorem sgn_zero {α : Type} {lt : α → α → Bool} (h : KLt lt) (a b : α) : sgn lt a b = 0 ↔ a = b := by
 unfold sgn
 constructor
 ·intro k
  cases h1 : lt a b with
  | true => simp [h1] at k
  | false =>
   cases h2 : lt b a with
   | true => simp [h1, h2] at k
   | false => exact h.tot _ _ h1 h2
 ·rintro rfl
  simp [h.irr]
def orF : List Int → Int
 | [] => 0
 | x :: r => if x = 0 then orF r else x
theorem sgn_lex {α β : Type} [DecidableEq α] {l1 : α → α → Bool} (h1 : KLt l1) (l2 : β → β → Bool) (a b : α) : ∀ c d : β, sgn (lexLt l1 l2) (a, c) (b, d) = orF [sgn l1 a b, sgn l2 c d] := fun c d => by
 by_cases e : a = b
 ·subst e
  have z : sgn l1 a a = 0 := (sgn_zero h1 a a).2 rfl
  unfold orF
  rw [if_pos z]
  unfold orF orF
  simp only [sgn, lexLt, h1.irr, Bool.false_or, decide_true, Bool.true_and]
  split <;> simp
 ·have e2 : ¬ b = a := fun q => e q.symm
  have z : ¬ sgn l1 a b = 0 := fun q => e ((sgn_zero h1 a b).1 q)
  unfold orF
  rw [if_neg z]
  simp [sgn, lexLt, e, e2]
theorem sgn_lex3 {α β γ : Type} [DecidableEq α] [DecidableEq β] {l1 : α → α → Bool} {l2 : β → β → Bool} (h1 : KLt l1) (h2 : KLt l2) (l3 : γ → γ → Bool) (a b : α) (c d : β) (e f : γ) : orF [sgn l1 a b, sgn l2 c d, sgn l3 e f] = sgn (lexLt l1 (lexLt l2 l3)) (a, (c, e)) (b, (d, f)) := by
 rw [sgn_lex h1, sgn_lex h2]
 unfold orF
 split
 ·next q =>
  show orF [sgn l2 c d, sgn l3 e f] = orF [orF [sgn l2 c d, sgn l3 e f]]
  generalize orF [sgn l2 c d, sgn l3 e f] = z
  unfold orF orF
  split <;> simp_all
 ·rfl
theorem or_step {l : List Int} {j : Nat} (h : j < l.length) (hz : l[j] = 0) (e : orF (l.drop j) = orF l) : orF (l.drop (j + 1)) = orF l := by
 rw [← e, List.drop_eq_getElem_cons h]
 show _ = orF (l[j] :: _)
 unfold orF
 rw [if_pos hz]
 cases l.drop (j + 1) <;> rfl
theorem or_hit {l : List Int} {j : Nat} (h : j < l.length) (hz : ¬ l[j] = 0) (e : orF (l.drop j) = orF l) : orF l = l[j] := by
 rw [← e, List.drop_eq_getElem_cons h]
 show orF (l[j] :: _) = _
 unfold orF
 rw [if_neg hz]
set_option maxRecDepth 100000 in
set_option maxHeartbeats 1000000 in
theorem or_any (g : Nat) (l : List Int) (n : Nat) (hn : n = l.length) (W : World) (h : Has W g 3 (l.map (Value.int .i64)).toArray) (hs : n < 4000000 := by decide) : Calls Tryz.prog 113 #[.slice (some ⟨g, 0, none⟩) n n] W fun e W' => e = .returned (.int .i64 (orF l)) ∧ W' = W := by
 have HC := Lib.hid (show ∀ j (hj : j < l.length), W.cell? ⟨g, j, none⟩ = some (.int .i64 l[j]) from fun j hj => by rw [h.at_]; simp [hj])
 have HL := Lib.hid hn
 clear h hn
 go_enter Tryz.func113, Tryz.ntmps113
 go_wp2
 go_loop [8] (fun i => ∃ j : Nat, i = .int .i64 j ∧ j ≤ n ∧ Hid (orF (l.drop j) = orF l)) (fun i => n - (intOf i).toNat)
 case atStart => exact ⟨0, rfl, Nat.zero_le _, Lib.hid rfl⟩
 case round =>
  obtain ⟨j, rfl, hj, HR⟩ := hrel
  by_cases hlt : j < n
  ·have hl : j < l.length := HL.out ▸ hlt
   have c1 := HC.out j hl
   have HS := Lib.hid (or_step hl)
   have HH := Lib.hid (or_hit hl)
   generalize l[j] = v at *
   by_cases hz : v = 0
   ·subst hz
    have HZ := Lib.hid (HS.out rfl HR.out)
    clear HR hl
    go_wp2
    go_round
    case rel => exact ⟨j + 1, by go_num, by omega, HZ⟩
    case measure => simp [intOf]; omega
   ·have HZ := Lib.hid (HH.out hz HR.out)
    have hz2 : (v == 0) = false := beq_eq_false_iff_ne.2 hz
    clear HR hl
    go_wp2
    go_ret
    exact ⟨by rw [HZ.out]; rfl, rfl⟩
  ·have HZ := Lib.hid (show orF l = 0 by
    have := HR.out
    rw [List.drop_of_length_le (by have := HL.out; omega)] at this
    exact this.symm)
   go_wp2
   go_ret
   exact ⟨by rw [HZ.out]; rfl, rfl⟩
theorem gone_any (a b : Bool) (W : World) : Calls Tryz.prog 124 #[.bool a, .bool b] W fun e W' => e = .returned (.int .i64 (sgn boolLt a b)) ∧ W' = W := by
 cases a <;> cases b
 all_goals
  go_enter Tryz.func124, Tryz.ntmps124
  go_wp2
  go_ret
  exact ⟨rfl, rfl⟩
def attrC (a : St × (Int × Nat)) : Array Value := #[.int .i64 a.1.1, .int .i64 a.1.2, .int .i64 a.2.1, .int .u64 (a.2.2 : Nat)]
def sizeC (z : St × Int) : Array Value := #[.int .i64 z.1.1, .int .i64 z.1.2, .int .i64 z.2]
theorem attrs_rng0 {w : World} {g : Nat} {t : TypeId} {x : St × (Int × Nat)} (h : Has w g t (attrC x)) : w.rangeAt g 0 (#[.int .i64 x.1.1, .int .i64 x.1.2] : Array Value).toList := fun j v hv => by
 have hj : j < 2 := by
  have := (List.getElem?_eq_some_iff.1 hv).1
  simpa using this
 rw [h.at_ (0 + j)]
 match j, hj with
 | 0, _ => exact hv
 | 1, _ => exact hv
set_option maxRecDepth 100000 in
set_option maxHeartbeats 2000000 in
theorem attrs_any (x y : St × (Int × Nat)) (W : World) : Calls Tryz.prog 76 #[.agg (attrC x), .agg (attrC y)] W fun e W' => e = .returned (.int .i64 (sgn ltA x y)) ∧ Grows W W' := by
 have hc0 := fun V => stamps_grew x.1.1 x.1.2 y.1.1 y.1.2 V
 unfold stC at hc0
 have HC0 := Lib.hid hc0
 clear hc0
 have HC1 := Lib.hid (fun V => cmpI_any x.2.1 y.2.1 V)
 have HC2 := Lib.hid (fun V => cmpU_any x.2.2 y.2.2 V)
 have HG0 := Lib.hid (((Grows.refl W).alloc (.cells (attrC x) 40)).alloc (.cells (attrC y) 40))
 have HX0 := Lib.hid ((Has.fresh W 40 (attrC x)).past (.cells (attrC y) 40))
 have n1 : Has ((W.alloc (.cells (attrC x) 40)).alloc (.cells (attrC y) 40)) (W.heap.size + 1) 40 (attrC y) := by have q := Has.fresh (W.alloc (.cells (attrC x) 40)) 40 (attrC y); rw [World.size_alloc] at q; exact q
 have HY0 := Lib.hid n1
 clear n1
 have HSS := Lib.hid (show ∀ V, Has V W.heap.size 40 (attrC x) → Has V (W.heap.size + 1) 40 (attrC y) → (fun V => V.rangeAt W.heap.size 0 (#[.int .i64 x.1.1, .int .i64 x.1.2] : Array Value).toList ∧ V.rangeAt (W.heap.size + 1) 0 (#[.int .i64 y.1.1, .int .i64 y.1.2] : Array Value).toList ∧ V.cell? ⟨W.heap.size, 2, none⟩ = some (.int .i64 x.2.1) ∧ V.cell? ⟨(W.heap.size + 1), 2, none⟩ = some (.int .i64 y.2.1) ∧ V.cell? ⟨W.heap.size, 3, none⟩ = some (.int .u64 (x.2.2 : Nat)) ∧ V.cell? ⟨(W.heap.size + 1), 3, none⟩ = some (.int .u64 (y.2.2 : Nat))) V from fun V h1 h2 => ⟨attrs_rng0 h1, attrs_rng0 h2, h1.at_ 2, h2.at_ 2, h1.at_ 3, h2.at_ 3⟩)
 have HO := Lib.hid (show orF [sgn stLt x.1 y.1, sgn intLt x.2.1 y.2.1, sgn natLt x.2.2 y.2.2] = sgn ltA x y from sgn_lex3 klt_st klt_int _ _ _ _ _ _ _)
 go_enter Tryz.func76, Tryz.ntmps76
 go_wp2_with fail
 refine wp_region_held_drew (S := fun V => V.rangeAt W.heap.size 0 (#[.int .i64 x.1.1, .int .i64 x.1.2] : Array Value).toList ∧ V.rangeAt (W.heap.size + 1) 0 (#[.int .i64 y.1.1, .int .i64 y.1.2] : Array Value).toList ∧ V.cell? ⟨W.heap.size, 2, none⟩ = some (.int .i64 x.2.1) ∧ V.cell? ⟨(W.heap.size + 1), 2, none⟩ = some (.int .i64 y.2.1) ∧ V.cell? ⟨W.heap.size, 3, none⟩ = some (.int .u64 (x.2.2 : Nat)) ∧ V.cell? ⟨(W.heap.size + 1), 3, none⟩ = some (.int .u64 (y.2.2 : Nat))) (by kernel_rfl) (HSS.out _ HX0.out.drew HY0.out.drew) (fun hHeld => ?_)
 refine Vc.wpAnyH_rd (i := 0) (d := some 5) (v := ?v1) ?hy1 ?rest1
 case hy1 =>
  intro w hSw
  obtain ⟨s0, s1, s2, s3, s4, s5⟩ := hSw
  go_simp
  try with_reducible rfl
 refine Vc.wpAnyH_rd (i := 1) (d := some 6) (v := .agg (#[.int .i64 x.1.1, .int .i64 x.1.2])) ?hy2 ?rest2
 case hy2 =>
  intro w hSw
  exact Who.exec_loadA _ rfl rfl hSw.1 Tryz.underlying37 rfl info_st
 refine Vc.wpAnyH_rd (i := 2) (d := some 7) (v := ?v3) ?hy3 ?rest3
 case hy3 =>
  intro w hSw
  obtain ⟨s0, s1, s2, s3, s4, s5⟩ := hSw
  go_simp
  try with_reducible rfl
 refine Vc.wpAnyH_rd (i := 3) (d := some 8) (v := .agg (#[.int .i64 y.1.1, .int .i64 y.1.2])) ?hy4 ?rest4
 case hy4 =>
  intro w hSw
  exact Who.exec_loadA _ rfl rfl hSw.2.1 Tryz.underlying37 rfl info_st
 refine Vc.wpAnyH_rd (i := 5) (d := some 10) (v := ?v5) ?hy5 ?rest5
 case hy5 =>
  intro w hSw
  obtain ⟨s0, s1, s2, s3, s4, s5⟩ := hSw
  go_simp
  try with_reducible rfl
 refine Vc.wpAnyH_rd (i := 6) (d := some 11) (v := ?v6) ?hy6 ?rest6
 case hy6 =>
  intro w hSw
  obtain ⟨s0, s1, s2, s3, s4, s5⟩ := hSw
  go_simp
  try with_reducible rfl
 refine Vc.wpAnyH_rd (i := 7) (d := some 12) (v := ?v7) ?hy7 ?rest7
 case hy7 =>
  intro w hSw
  obtain ⟨s0, s1, s2, s3, s4, s5⟩ := hSw
  go_simp
  try with_reducible rfl
 refine Vc.wpAnyH_rd (i := 8) (d := some 13) (v := ?v8) ?hy8 ?rest8
 case hy8 =>
  intro w hSw
  obtain ⟨s0, s1, s2, s3, s4, s5⟩ := hSw
  go_simp
  try with_reducible rfl
 refine Vc.wpAnyH_rd (i := 10) (d := some 15) (v := ?v9) ?hy9 ?rest9
 case hy9 =>
  intro w hSw
  obtain ⟨s0, s1, s2, s3, s4, s5⟩ := hSw
  go_simp
  try with_reducible rfl
 refine Vc.wpAnyH_rd (i := 11) (d := some 16) (v := ?v10) ?hy10 ?rest10
 case hy10 =>
  intro w hSw
  obtain ⟨s0, s1, s2, s3, s4, s5⟩ := hSw
  go_simp
  try with_reducible rfl
 refine Vc.wpAnyH_rd (i := 12) (d := some 17) (v := ?v11) ?hy11 ?rest11
 case hy11 =>
  intro w hSw
  obtain ⟨s0, s1, s2, s3, s4, s5⟩ := hSw
  go_simp
  try with_reducible rfl
 refine Vc.wpAnyH_rd (i := 13) (d := some 18) (v := ?v12) ?hy12 ?rest12
 case hy12 =>
  intro w hSw
  obtain ⟨s0, s1, s2, s3, s4, s5⟩ := hSw
  go_simp
  try with_reducible rfl
 refine wpAnyH_ready (rs := [4]) (by kernel_rfl) (by simp) ?_
 refine AllReadyH.cons rfl (fun K hK => ?_) AllReadyH.nil
 go_simp
 go_at_call 74
 refine (HC0.out _).mono ?_
 rintro e w1 ⟨rfl, hg⟩
 have HG1 := Lib.hid (HG0.out.drew.trans hg)
 have HX1 := Lib.hid (HX0.out.drew.below hg.1)
 have HY1 := Lib.hid (HY0.out.drew.below hg.1)
 clear hg
 refine hK.out _ _ (HSS.out _ HX1.out HY1.out) (fun hHeld => ?_)
 clear hK K
 refine wpAnyH_ready (rs := [9]) (by kernel_rfl) (by simp) ?_
 refine AllReadyH.cons rfl (fun K hK => ?_) AllReadyH.nil
 go_simp
 go_at_call 114
 refine (HC1.out _).mono ?_
 rintro e w2 ⟨rfl, rfl⟩
 have HG2 := HG1
 have HX2 := HX1
 have HY2 := HY1
 refine hK.out _ _ (HSS.out _ HX2.out HY2.out) (fun hHeld => ?_)
 clear hK K
 refine wpAnyH_ready (rs := [14]) (by kernel_rfl) (by simp) ?_
 refine AllReadyH.cons rfl (fun K hK => ?_) AllReadyH.nil
 go_simp
 go_at_call 115
 refine (HC2.out _).mono ?_
 rintro e w3 ⟨rfl, rfl⟩
 have HG3 := HG2
 have HX3 := HX2
 have HY3 := HY2
 refine hK.out _ _ (HSS.out _ HX3.out HY3.out) (fun hHeld => ?_)
 clear hK K
 refine wpAnyH_ready (rs := [15]) (by kernel_rfl) (by simp) ?_
 refine AllReadyH.cons rfl (fun K hK => ?_) AllReadyH.nil
 go_simp
 refine hK.out _ _ (HSS.out _ (HX3.out.past _) (HY3.out.past _)) (fun hHeld => ?_)
 clear hK K
 refine wpAnyH_ready (rs := [16]) (by kernel_rfl) (by simp) ?_
 refine AllReadyH.cons rfl (fun K hK => ?_) AllReadyH.nil
 go_simp
 go_at_call 113
 refine (or_any w3.heap.size [sgn stLt x.1 y.1, sgn intLt x.2.1 y.2.1, sgn natLt x.2.2 y.2.2] 3 rfl _ (Has.fresh w3 3 _)).mono ?_
 rintro e w9 ⟨rfl, rfl⟩
 refine hK.out _ _ (HSS.out _ (HX3.out.past _) (HY3.out.past _)) (fun hHeld => ?_)
 clear hK K
 refine Vc.wpAnyH_rd (i := 17) (d := some 4) (v := ?v13) ?hy13 ?rest13
 case hy13 =>
  intro w hSw
  go_simp
  try with_reducible rfl
 refine wpAnyH_done (by kernel_rfl) ?_ _
 have HZ := Lib.hid (HG3.out.alloc (.cells #[.int .i64 (sgn stLt x.1 y.1), .int .i64 (sgn intLt x.2.1 y.2.1), .int .i64 (sgn natLt x.2.2 y.2.2)] 3))
 go_wp2
 go_ret
 exact ⟨by rw [← HO.out]; rfl, HZ.out⟩

theorem sizes_rng0 {w : World} {g : Nat} {t : TypeId} {x : St × Int} (h : Has w g t (sizeC x)) : w.rangeAt g 0 (#[.int .i64 x.1.1, .int .i64 x.1.2] : Array Value).toList := fun j v hv => by
 have hj : j < 2 := by
  have := (List.getElem?_eq_some_iff.1 hv).1
  simpa using this
 rw [h.at_ (0 + j)]
 match j, hj with
 | 0, _ => exact hv
 | 1, _ => exact hv
set_option maxRecDepth 100000 in
set_option maxHeartbeats 2000000 in
theorem sizes_any (x y : St × Int) (W : World) : Calls Tryz.prog 78 #[.agg (sizeC x), .agg (sizeC y)] W fun e W' => e = .returned (.int .i64 (sgn ltZ x y)) ∧ Grows W W' := by
 have hc0 := fun V => stamps_grew x.1.1 x.1.2 y.1.1 y.1.2 V
 unfold stC at hc0
 have HC0 := Lib.hid hc0
 clear hc0
 have HC1 := Lib.hid (fun V => cmpI_any x.2 y.2 V)
 have HG0 := Lib.hid (((Grows.refl W).alloc (.cells (sizeC x) 42)).alloc (.cells (sizeC y) 42))
 have HX0 := Lib.hid ((Has.fresh W 42 (sizeC x)).past (.cells (sizeC y) 42))
 have n1 : Has ((W.alloc (.cells (sizeC x) 42)).alloc (.cells (sizeC y) 42)) (W.heap.size + 1) 42 (sizeC y) := by have q := Has.fresh (W.alloc (.cells (sizeC x) 42)) 42 (sizeC y); rw [World.size_alloc] at q; exact q
 have HY0 := Lib.hid n1
 clear n1
 have HSS := Lib.hid (show ∀ V, Has V W.heap.size 42 (sizeC x) → Has V (W.heap.size + 1) 42 (sizeC y) → (fun V => V.rangeAt W.heap.size 0 (#[.int .i64 x.1.1, .int .i64 x.1.2] : Array Value).toList ∧ V.rangeAt (W.heap.size + 1) 0 (#[.int .i64 y.1.1, .int .i64 y.1.2] : Array Value).toList ∧ V.cell? ⟨W.heap.size, 2, none⟩ = some (.int .i64 x.2) ∧ V.cell? ⟨(W.heap.size + 1), 2, none⟩ = some (.int .i64 y.2)) V from fun V h1 h2 => ⟨sizes_rng0 h1, sizes_rng0 h2, h1.at_ 2, h2.at_ 2⟩)
 have HO := Lib.hid (show orF [sgn stLt x.1 y.1, sgn intLt x.2 y.2] = sgn ltZ x y from (sgn_lex klt_st _ _ _ _ _).symm)
 go_enter Tryz.func78, Tryz.ntmps78
 go_wp2_with fail
 refine wp_region_held_drew (S := fun V => V.rangeAt W.heap.size 0 (#[.int .i64 x.1.1, .int .i64 x.1.2] : Array Value).toList ∧ V.rangeAt (W.heap.size + 1) 0 (#[.int .i64 y.1.1, .int .i64 y.1.2] : Array Value).toList ∧ V.cell? ⟨W.heap.size, 2, none⟩ = some (.int .i64 x.2) ∧ V.cell? ⟨(W.heap.size + 1), 2, none⟩ = some (.int .i64 y.2)) (by kernel_rfl) (HSS.out _ HX0.out.drew HY0.out.drew) (fun hHeld => ?_)
 refine Vc.wpAnyH_rd (i := 0) (d := some 5) (v := ?v14) ?hy14 ?rest14
 case hy14 =>
  intro w hSw
  obtain ⟨s0, s1, s2, s3⟩ := hSw
  go_simp
  try with_reducible rfl
 refine Vc.wpAnyH_rd (i := 1) (d := some 6) (v := .agg (#[.int .i64 x.1.1, .int .i64 x.1.2])) ?hy15 ?rest15
 case hy15 =>
  intro w hSw
  exact Who.exec_loadA _ rfl rfl hSw.1 Tryz.underlying37 rfl info_st
 refine Vc.wpAnyH_rd (i := 2) (d := some 7) (v := ?v16) ?hy16 ?rest16
 case hy16 =>
  intro w hSw
  obtain ⟨s0, s1, s2, s3⟩ := hSw
  go_simp
  try with_reducible rfl
 refine Vc.wpAnyH_rd (i := 3) (d := some 8) (v := .agg (#[.int .i64 y.1.1, .int .i64 y.1.2])) ?hy17 ?rest17
 case hy17 =>
  intro w hSw
  exact Who.exec_loadA _ rfl rfl hSw.2.1 Tryz.underlying37 rfl info_st
 refine Vc.wpAnyH_rd (i := 5) (d := some 10) (v := ?v18) ?hy18 ?rest18
 case hy18 =>
  intro w hSw
  obtain ⟨s0, s1, s2, s3⟩ := hSw
  go_simp
  try with_reducible rfl
 refine Vc.wpAnyH_rd (i := 6) (d := some 11) (v := ?v19) ?hy19 ?rest19
 case hy19 =>
  intro w hSw
  obtain ⟨s0, s1, s2, s3⟩ := hSw
  go_simp
  try with_reducible rfl
 refine Vc.wpAnyH_rd (i := 7) (d := some 12) (v := ?v20) ?hy20 ?rest20
 case hy20 =>
  intro w hSw
  obtain ⟨s0, s1, s2, s3⟩ := hSw
  go_simp
  try with_reducible rfl
 refine Vc.wpAnyH_rd (i := 8) (d := some 13) (v := ?v21) ?hy21 ?rest21
 case hy21 =>
  intro w hSw
  obtain ⟨s0, s1, s2, s3⟩ := hSw
  go_simp
  try with_reducible rfl
 refine wpAnyH_ready (rs := [4]) (by kernel_rfl) (by simp) ?_
 refine AllReadyH.cons rfl (fun K hK => ?_) AllReadyH.nil
 go_simp
 go_at_call 74
 refine (HC0.out _).mono ?_
 rintro e w1 ⟨rfl, hg⟩
 have HG1 := Lib.hid (HG0.out.drew.trans hg)
 have HX1 := Lib.hid (HX0.out.drew.below hg.1)
 have HY1 := Lib.hid (HY0.out.drew.below hg.1)
 clear hg
 refine hK.out _ _ (HSS.out _ HX1.out HY1.out) (fun hHeld => ?_)
 clear hK K
 refine wpAnyH_ready (rs := [9]) (by kernel_rfl) (by simp) ?_
 refine AllReadyH.cons rfl (fun K hK => ?_) AllReadyH.nil
 go_simp
 go_at_call 114
 refine (HC1.out _).mono ?_
 rintro e w2 ⟨rfl, rfl⟩
 have HG2 := HG1
 have HX2 := HX1
 have HY2 := HY1
 refine hK.out _ _ (HSS.out _ HX2.out HY2.out) (fun hHeld => ?_)
 clear hK K
 refine wpAnyH_ready (rs := [10]) (by kernel_rfl) (by simp) ?_
 refine AllReadyH.cons rfl (fun K hK => ?_) AllReadyH.nil
 go_simp
 refine hK.out _ _ (HSS.out _ (HX2.out.past _) (HY2.out.past _)) (fun hHeld => ?_)
 clear hK K
 refine wpAnyH_ready (rs := [11]) (by kernel_rfl) (by simp) ?_
 refine AllReadyH.cons rfl (fun K hK => ?_) AllReadyH.nil
 go_simp
 go_at_call 113
 refine (or_any w2.heap.size [sgn stLt x.1 y.1, sgn intLt x.2 y.2] 2 rfl _ (Has.fresh w2 3 _)).mono ?_
 rintro e w9 ⟨rfl, rfl⟩
 refine hK.out _ _ (HSS.out _ (HX2.out.past _) (HY2.out.past _)) (fun hHeld => ?_)
 clear hK K
 refine Vc.wpAnyH_rd (i := 12) (d := some 4) (v := ?v22) ?hy22 ?rest22
 case hy22 =>
  intro w hSw
  go_simp
  try with_reducible rfl
 refine wpAnyH_done (by kernel_rfl) ?_ _
 have HZ := Lib.hid (HG2.out.alloc (.cells #[.int .i64 (sgn stLt x.1 y.1), .int .i64 (sgn intLt x.2 y.2)] 3))
 go_wp2
 go_ret
 exact ⟨by rw [← HO.out]; rfl, HZ.out⟩

theorem pieceOrder_rng0 {w : World} {g : Nat} {t : TypeId} {x : Fc.PieceP} (h : Has w g t (Fc.pieceC x)) : w.rangeAt g 1 (#[.int .i64 x.at_.1, .int .i64 x.at_.2] : Array Value).toList := fun j v hv => by
 have hj : j < 2 := by
  have := (List.getElem?_eq_some_iff.1 hv).1
  simpa using this
 rw [h.at_ (1 + j)]
 match j, hj with
 | 0, _ => exact hv
 | 1, _ => exact hv
set_option maxRecDepth 100000 in
set_option maxHeartbeats 2000000 in
theorem pieceOrder_any (x y : Fc.PieceP) (W : World) : Calls Tryz.prog 83 #[.agg (Fc.pieceC x), .agg (Fc.pieceC y)] W fun e W' => e = .returned (.int .i64 (sgn ltP (regP x) (regP y))) ∧ Grows W W' := by
 have hc0 := fun V => stamps_grew x.at_.1 x.at_.2 y.at_.1 y.at_.2 V
 unfold stC at hc0
 have HC0 := Lib.hid hc0
 clear hc0
 have HC1 := Lib.hid (fun V => cmpS_any x.data y.data V)
 have HG0 := Lib.hid (((Grows.refl W).alloc (.cells (Fc.pieceC x) 74)).alloc (.cells (Fc.pieceC y) 74))
 have HX0 := Lib.hid ((Has.fresh W 74 (Fc.pieceC x)).past (.cells (Fc.pieceC y) 74))
 have n1 : Has ((W.alloc (.cells (Fc.pieceC x) 74)).alloc (.cells (Fc.pieceC y) 74)) (W.heap.size + 1) 74 (Fc.pieceC y) := by have q := Has.fresh (W.alloc (.cells (Fc.pieceC x) 74)) 74 (Fc.pieceC y); rw [World.size_alloc] at q; exact q
 have HY0 := Lib.hid n1
 clear n1
 have HSS := Lib.hid (show ∀ V, Has V W.heap.size 74 (Fc.pieceC x) → Has V (W.heap.size + 1) 74 (Fc.pieceC y) → (fun V => V.rangeAt W.heap.size 1 (#[.int .i64 x.at_.1, .int .i64 x.at_.2] : Array Value).toList ∧ V.rangeAt (W.heap.size + 1) 1 (#[.int .i64 y.at_.1, .int .i64 y.at_.2] : Array Value).toList ∧ V.cell? ⟨W.heap.size, 3, none⟩ = some (.string x.data) ∧ V.cell? ⟨(W.heap.size + 1), 3, none⟩ = some (.string y.data)) V from fun V h1 h2 => ⟨pieceOrder_rng0 h1, pieceOrder_rng0 h2, h1.at_ 3, h2.at_ 3⟩)
 have HO := Lib.hid (show orF [sgn stLt x.at_ y.at_, sgn strLt x.data y.data] = sgn ltP (regP x) (regP y) from (sgn_lex klt_st _ _ _ _ _).symm)
 go_enter Tryz.func83, Tryz.ntmps83
 go_wp2_with fail
 refine wp_region_held_drew (S := fun V => V.rangeAt W.heap.size 1 (#[.int .i64 x.at_.1, .int .i64 x.at_.2] : Array Value).toList ∧ V.rangeAt (W.heap.size + 1) 1 (#[.int .i64 y.at_.1, .int .i64 y.at_.2] : Array Value).toList ∧ V.cell? ⟨W.heap.size, 3, none⟩ = some (.string x.data) ∧ V.cell? ⟨(W.heap.size + 1), 3, none⟩ = some (.string y.data)) (by kernel_rfl) (HSS.out _ HX0.out.drew HY0.out.drew) (fun hHeld => ?_)
 refine Vc.wpAnyH_rd (i := 0) (d := some 5) (v := ?v23) ?hy23 ?rest23
 case hy23 =>
  intro w hSw
  obtain ⟨s0, s1, s2, s3⟩ := hSw
  go_simp
  try with_reducible rfl
 refine Vc.wpAnyH_rd (i := 1) (d := some 6) (v := .agg (#[.int .i64 x.at_.1, .int .i64 x.at_.2])) ?hy24 ?rest24
 case hy24 =>
  intro w hSw
  exact Who.exec_loadA _ rfl rfl hSw.1 Tryz.underlying37 rfl info_st
 refine Vc.wpAnyH_rd (i := 2) (d := some 7) (v := ?v25) ?hy25 ?rest25
 case hy25 =>
  intro w hSw
  obtain ⟨s0, s1, s2, s3⟩ := hSw
  go_simp
  try with_reducible rfl
 refine Vc.wpAnyH_rd (i := 3) (d := some 8) (v := .agg (#[.int .i64 y.at_.1, .int .i64 y.at_.2])) ?hy26 ?rest26
 case hy26 =>
  intro w hSw
  exact Who.exec_loadA _ rfl rfl hSw.2.1 Tryz.underlying37 rfl info_st
 refine Vc.wpAnyH_rd (i := 5) (d := some 10) (v := ?v27) ?hy27 ?rest27
 case hy27 =>
  intro w hSw
  obtain ⟨s0, s1, s2, s3⟩ := hSw
  go_simp
  try with_reducible rfl
 refine Vc.wpAnyH_rd (i := 6) (d := some 11) (v := ?v28) ?hy28 ?rest28
 case hy28 =>
  intro w hSw
  obtain ⟨s0, s1, s2, s3⟩ := hSw
  go_simp
  try with_reducible rfl
 refine Vc.wpAnyH_rd (i := 7) (d := some 12) (v := ?v29) ?hy29 ?rest29
 case hy29 =>
  intro w hSw
  obtain ⟨s0, s1, s2, s3⟩ := hSw
  go_simp
  try with_reducible rfl
 refine Vc.wpAnyH_rd (i := 8) (d := some 13) (v := ?v30) ?hy30 ?rest30
 case hy30 =>
  intro w hSw
  obtain ⟨s0, s1, s2, s3⟩ := hSw
  go_simp
  try with_reducible rfl
 refine wpAnyH_ready (rs := [4]) (by kernel_rfl) (by simp) ?_
 refine AllReadyH.cons rfl (fun K hK => ?_) AllReadyH.nil
 go_simp
 go_at_call 74
 refine (HC0.out _).mono ?_
 rintro e w1 ⟨rfl, hg⟩
 have HG1 := Lib.hid (HG0.out.drew.trans hg)
 have HX1 := Lib.hid (HX0.out.drew.below hg.1)
 have HY1 := Lib.hid (HY0.out.drew.below hg.1)
 clear hg
 refine hK.out _ _ (HSS.out _ HX1.out HY1.out) (fun hHeld => ?_)
 clear hK K
 refine wpAnyH_ready (rs := [9]) (by kernel_rfl) (by simp) ?_
 refine AllReadyH.cons rfl (fun K hK => ?_) AllReadyH.nil
 go_simp
 go_at_call 120
 refine (HC1.out _).mono ?_
 rintro e w2 ⟨rfl, rfl⟩
 have HG2 := HG1
 have HX2 := HX1
 have HY2 := HY1
 refine hK.out _ _ (HSS.out _ HX2.out HY2.out) (fun hHeld => ?_)
 clear hK K
 refine wpAnyH_ready (rs := [10]) (by kernel_rfl) (by simp) ?_
 refine AllReadyH.cons rfl (fun K hK => ?_) AllReadyH.nil
 go_simp
 refine hK.out _ _ (HSS.out _ (HX2.out.past _) (HY2.out.past _)) (fun hHeld => ?_)
 clear hK K
 refine wpAnyH_ready (rs := [11]) (by kernel_rfl) (by simp) ?_
 refine AllReadyH.cons rfl (fun K hK => ?_) AllReadyH.nil
 go_simp
 go_at_call 113
 refine (or_any w2.heap.size [sgn stLt x.at_ y.at_, sgn strLt x.data y.data] 2 rfl _ (Has.fresh w2 3 _)).mono ?_
 rintro e w9 ⟨rfl, rfl⟩
 refine hK.out _ _ (HSS.out _ (HX2.out.past _) (HY2.out.past _)) (fun hHeld => ?_)
 clear hK K
 refine Vc.wpAnyH_rd (i := 12) (d := some 4) (v := ?v31) ?hy31 ?rest31
 case hy31 =>
  intro w hSw
  go_simp
  try with_reducible rfl
 refine wpAnyH_done (by kernel_rfl) ?_ _
 have HZ := Lib.hid (HG2.out.alloc (.cells #[.int .i64 (sgn stLt x.at_ y.at_), .int .i64 (sgn strLt x.data y.data)] 3))
 go_wp2
 go_ret
 exact ⟨by rw [← HO.out]; rfl, HZ.out⟩

theorem xattrOrder_rng0 {w : World} {g : Nat} {t : TypeId} {x : Fc.XattrP} (h : Has w g t (Fc.xattrC x)) : w.rangeAt g 1 (#[.int .i64 x.at_.1, .int .i64 x.at_.2] : Array Value).toList := fun j v hv => by
 have hj : j < 2 := by
  have := (List.getElem?_eq_some_iff.1 hv).1
  simpa using this
 rw [h.at_ (1 + j)]
 match j, hj with
 | 0, _ => exact hv
 | 1, _ => exact hv
set_option maxRecDepth 100000 in
set_option maxHeartbeats 2000000 in
theorem xattrOrder_any (x y : Fc.XattrP) (W : World) : Calls Tryz.prog 88 #[.agg (Fc.xattrC x), .agg (Fc.xattrC y)] W fun e W' => e = .returned (.int .i64 (sgn ltX (regX x) (regX y))) ∧ Grows W W' := by
 have hc0 := fun V => stamps_grew x.at_.1 x.at_.2 y.at_.1 y.at_.2 V
 unfold stC at hc0
 have HC0 := Lib.hid hc0
 clear hc0
 have HC1 := Lib.hid (fun V => gone_any x.gone y.gone V)
 have HC2 := Lib.hid (fun V => cmpS_any x.val y.val V)
 have HG0 := Lib.hid (((Grows.refl W).alloc (.cells (Fc.xattrC x) 77)).alloc (.cells (Fc.xattrC y) 77))
 have HX0 := Lib.hid ((Has.fresh W 77 (Fc.xattrC x)).past (.cells (Fc.xattrC y) 77))
 have n1 : Has ((W.alloc (.cells (Fc.xattrC x) 77)).alloc (.cells (Fc.xattrC y) 77)) (W.heap.size + 1) 77 (Fc.xattrC y) := by have q := Has.fresh (W.alloc (.cells (Fc.xattrC x) 77)) 77 (Fc.xattrC y); rw [World.size_alloc] at q; exact q
 have HY0 := Lib.hid n1
 clear n1
 have HSS := Lib.hid (show ∀ V, Has V W.heap.size 77 (Fc.xattrC x) → Has V (W.heap.size + 1) 77 (Fc.xattrC y) → (fun V => V.rangeAt W.heap.size 1 (#[.int .i64 x.at_.1, .int .i64 x.at_.2] : Array Value).toList ∧ V.rangeAt (W.heap.size + 1) 1 (#[.int .i64 y.at_.1, .int .i64 y.at_.2] : Array Value).toList ∧ V.cell? ⟨W.heap.size, 4, none⟩ = some (.bool x.gone) ∧ V.cell? ⟨(W.heap.size + 1), 4, none⟩ = some (.bool y.gone) ∧ V.cell? ⟨W.heap.size, 3, none⟩ = some (.string x.val) ∧ V.cell? ⟨(W.heap.size + 1), 3, none⟩ = some (.string y.val)) V from fun V h1 h2 => ⟨xattrOrder_rng0 h1, xattrOrder_rng0 h2, h1.at_ 4, h2.at_ 4, h1.at_ 3, h2.at_ 3⟩)
 have HO := Lib.hid (show orF [sgn stLt x.at_ y.at_, sgn boolLt x.gone y.gone, sgn strLt x.val y.val] = sgn ltX (regX x) (regX y) from sgn_lex3 klt_st klt_bool _ _ _ _ _ _ _)
 go_enter Tryz.func88, Tryz.ntmps88
 go_wp2_with fail
 refine wp_region_held_drew (S := fun V => V.rangeAt W.heap.size 1 (#[.int .i64 x.at_.1, .int .i64 x.at_.2] : Array Value).toList ∧ V.rangeAt (W.heap.size + 1) 1 (#[.int .i64 y.at_.1, .int .i64 y.at_.2] : Array Value).toList ∧ V.cell? ⟨W.heap.size, 4, none⟩ = some (.bool x.gone) ∧ V.cell? ⟨(W.heap.size + 1), 4, none⟩ = some (.bool y.gone) ∧ V.cell? ⟨W.heap.size, 3, none⟩ = some (.string x.val) ∧ V.cell? ⟨(W.heap.size + 1), 3, none⟩ = some (.string y.val)) (by kernel_rfl) (HSS.out _ HX0.out.drew HY0.out.drew) (fun hHeld => ?_)
 refine Vc.wpAnyH_rd (i := 0) (d := some 5) (v := ?v32) ?hy32 ?rest32
 case hy32 =>
  intro w hSw
  obtain ⟨s0, s1, s2, s3, s4, s5⟩ := hSw
  go_simp
  try with_reducible rfl
 refine Vc.wpAnyH_rd (i := 1) (d := some 6) (v := .agg (#[.int .i64 x.at_.1, .int .i64 x.at_.2])) ?hy33 ?rest33
 case hy33 =>
  intro w hSw
  exact Who.exec_loadA _ rfl rfl hSw.1 Tryz.underlying37 rfl info_st
 refine Vc.wpAnyH_rd (i := 2) (d := some 7) (v := ?v34) ?hy34 ?rest34
 case hy34 =>
  intro w hSw
  obtain ⟨s0, s1, s2, s3, s4, s5⟩ := hSw
  go_simp
  try with_reducible rfl
 refine Vc.wpAnyH_rd (i := 3) (d := some 8) (v := .agg (#[.int .i64 y.at_.1, .int .i64 y.at_.2])) ?hy35 ?rest35
 case hy35 =>
  intro w hSw
  exact Who.exec_loadA _ rfl rfl hSw.2.1 Tryz.underlying37 rfl info_st
 refine Vc.wpAnyH_rd (i := 5) (d := some 10) (v := ?v36) ?hy36 ?rest36
 case hy36 =>
  intro w hSw
  obtain ⟨s0, s1, s2, s3, s4, s5⟩ := hSw
  go_simp
  try with_reducible rfl
 refine Vc.wpAnyH_rd (i := 6) (d := some 11) (v := ?v37) ?hy37 ?rest37
 case hy37 =>
  intro w hSw
  obtain ⟨s0, s1, s2, s3, s4, s5⟩ := hSw
  go_simp
  try with_reducible rfl
 refine Vc.wpAnyH_rd (i := 7) (d := some 12) (v := ?v38) ?hy38 ?rest38
 case hy38 =>
  intro w hSw
  obtain ⟨s0, s1, s2, s3, s4, s5⟩ := hSw
  go_simp
  try with_reducible rfl
 refine Vc.wpAnyH_rd (i := 8) (d := some 13) (v := ?v39) ?hy39 ?rest39
 case hy39 =>
  intro w hSw
  obtain ⟨s0, s1, s2, s3, s4, s5⟩ := hSw
  go_simp
  try with_reducible rfl
 refine Vc.wpAnyH_rd (i := 10) (d := some 15) (v := ?v40) ?hy40 ?rest40
 case hy40 =>
  intro w hSw
  obtain ⟨s0, s1, s2, s3, s4, s5⟩ := hSw
  go_simp
  try with_reducible rfl
 refine Vc.wpAnyH_rd (i := 11) (d := some 16) (v := ?v41) ?hy41 ?rest41
 case hy41 =>
  intro w hSw
  obtain ⟨s0, s1, s2, s3, s4, s5⟩ := hSw
  go_simp
  try with_reducible rfl
 refine Vc.wpAnyH_rd (i := 12) (d := some 17) (v := ?v42) ?hy42 ?rest42
 case hy42 =>
  intro w hSw
  obtain ⟨s0, s1, s2, s3, s4, s5⟩ := hSw
  go_simp
  try with_reducible rfl
 refine Vc.wpAnyH_rd (i := 13) (d := some 18) (v := ?v43) ?hy43 ?rest43
 case hy43 =>
  intro w hSw
  obtain ⟨s0, s1, s2, s3, s4, s5⟩ := hSw
  go_simp
  try with_reducible rfl
 refine wpAnyH_ready (rs := [4]) (by kernel_rfl) (by simp) ?_
 refine AllReadyH.cons rfl (fun K hK => ?_) AllReadyH.nil
 go_simp
 go_at_call 74
 refine (HC0.out _).mono ?_
 rintro e w1 ⟨rfl, hg⟩
 have HG1 := Lib.hid (HG0.out.drew.trans hg)
 have HX1 := Lib.hid (HX0.out.drew.below hg.1)
 have HY1 := Lib.hid (HY0.out.drew.below hg.1)
 clear hg
 refine hK.out _ _ (HSS.out _ HX1.out HY1.out) (fun hHeld => ?_)
 clear hK K
 refine wpAnyH_ready (rs := [9]) (by kernel_rfl) (by simp) ?_
 refine AllReadyH.cons rfl (fun K hK => ?_) AllReadyH.nil
 go_simp
 go_at_call 124
 refine (HC1.out _).mono ?_
 rintro e w2 ⟨rfl, rfl⟩
 have HG2 := HG1
 have HX2 := HX1
 have HY2 := HY1
 refine hK.out _ _ (HSS.out _ HX2.out HY2.out) (fun hHeld => ?_)
 clear hK K
 refine wpAnyH_ready (rs := [14]) (by kernel_rfl) (by simp) ?_
 refine AllReadyH.cons rfl (fun K hK => ?_) AllReadyH.nil
 go_simp
 go_at_call 120
 refine (HC2.out _).mono ?_
 rintro e w3 ⟨rfl, rfl⟩
 have HG3 := HG2
 have HX3 := HX2
 have HY3 := HY2
 refine hK.out _ _ (HSS.out _ HX3.out HY3.out) (fun hHeld => ?_)
 clear hK K
 refine wpAnyH_ready (rs := [15]) (by kernel_rfl) (by simp) ?_
 refine AllReadyH.cons rfl (fun K hK => ?_) AllReadyH.nil
 go_simp
 refine hK.out _ _ (HSS.out _ (HX3.out.past _) (HY3.out.past _)) (fun hHeld => ?_)
 clear hK K
 refine wpAnyH_ready (rs := [16]) (by kernel_rfl) (by simp) ?_
 refine AllReadyH.cons rfl (fun K hK => ?_) AllReadyH.nil
 go_simp
 go_at_call 113
 refine (or_any w3.heap.size [sgn stLt x.at_ y.at_, sgn boolLt x.gone y.gone, sgn strLt x.val y.val] 3 rfl _ (Has.fresh w3 3 _)).mono ?_
 rintro e w9 ⟨rfl, rfl⟩
 refine hK.out _ _ (HSS.out _ (HX3.out.past _) (HY3.out.past _)) (fun hHeld => ?_)
 clear hK K
 refine Vc.wpAnyH_rd (i := 17) (d := some 4) (v := ?v44) ?hy44 ?rest44
 case hy44 =>
  intro w hSw
  go_simp
  try with_reducible rfl
 refine wpAnyH_done (by kernel_rfl) ?_ _
 have HZ := Lib.hid (HG3.out.alloc (.cells #[.int .i64 (sgn stLt x.at_ y.at_), .int .i64 (sgn boolLt x.gone y.gone), .int .i64 (sgn strLt x.val y.val)] 3))
 go_wp2
 go_ret
 exact ⟨by rw [← HO.out]; rfl, HZ.out⟩

theorem places_rng0 {w : World} {g : Nat} {t : TypeId} {x : Fc.LinkP} (h : Has w g t (Fc.linkC x)) : w.rangeAt g 4 (#[.int .i64 x.at_.1, .int .i64 x.at_.2] : Array Value).toList := fun j v hv => by
 have hj : j < 2 := by
  have := (List.getElem?_eq_some_iff.1 hv).1
  simpa using this
 rw [h.at_ (4 + j)]
 match j, hj with
 | 0, _ => exact hv
 | 1, _ => exact hv
theorem places_rng1 {w : World} {g : Nat} {t : TypeId} {x : Fc.LinkP} (h : Has w g t (Fc.linkC x)) : w.rangeAt g 6 (#[.int .i64 x.par.1, .int .i64 x.par.2] : Array Value).toList := fun j v hv => by
 have hj : j < 2 := by
  have := (List.getElem?_eq_some_iff.1 hv).1
  simpa using this
 rw [h.at_ (6 + j)]
 match j, hj with
 | 0, _ => exact hv
 | 1, _ => exact hv
set_option maxRecDepth 100000 in
set_option maxHeartbeats 2000000 in
theorem places_any (x y : Fc.LinkP) (W : World) : Calls Tryz.prog 92 #[.agg (Fc.linkC x), .agg (Fc.linkC y)] W fun e W' => e = .returned (.int .i64 (sgn ltL (plL x) (plL y))) ∧ Grows W W' := by
 have hc0 := fun V => stamps_grew x.at_.1 x.at_.2 y.at_.1 y.at_.2 V
 unfold stC at hc0
 have HC0 := Lib.hid hc0
 clear hc0
 have hc1 := fun V => stamps_grew x.par.1 x.par.2 y.par.1 y.par.2 V
 unfold stC at hc1
 have HC1 := Lib.hid hc1
 clear hc1
 have HC2 := Lib.hid (fun V => cmpS_any x.name y.name V)
 have HG0 := Lib.hid (((Grows.refl W).alloc (.cells (Fc.linkC x) 51)).alloc (.cells (Fc.linkC y) 51))
 have HX0 := Lib.hid ((Has.fresh W 51 (Fc.linkC x)).past (.cells (Fc.linkC y) 51))
 have n1 : Has ((W.alloc (.cells (Fc.linkC x) 51)).alloc (.cells (Fc.linkC y) 51)) (W.heap.size + 1) 51 (Fc.linkC y) := by have q := Has.fresh (W.alloc (.cells (Fc.linkC x) 51)) 51 (Fc.linkC y); rw [World.size_alloc] at q; exact q
 have HY0 := Lib.hid n1
 clear n1
 have HSS := Lib.hid (show ∀ V, Has V W.heap.size 51 (Fc.linkC x) → Has V (W.heap.size + 1) 51 (Fc.linkC y) → (fun V => V.rangeAt W.heap.size 4 (#[.int .i64 x.at_.1, .int .i64 x.at_.2] : Array Value).toList ∧ V.rangeAt (W.heap.size + 1) 4 (#[.int .i64 y.at_.1, .int .i64 y.at_.2] : Array Value).toList ∧ V.rangeAt W.heap.size 6 (#[.int .i64 x.par.1, .int .i64 x.par.2] : Array Value).toList ∧ V.rangeAt (W.heap.size + 1) 6 (#[.int .i64 y.par.1, .int .i64 y.par.2] : Array Value).toList ∧ V.cell? ⟨W.heap.size, 8, none⟩ = some (.string x.name) ∧ V.cell? ⟨(W.heap.size + 1), 8, none⟩ = some (.string y.name)) V from fun V h1 h2 => ⟨places_rng0 h1, places_rng0 h2, places_rng1 h1, places_rng1 h2, h1.at_ 8, h2.at_ 8⟩)
 have HO := Lib.hid (show orF [sgn stLt x.at_ y.at_, sgn stLt x.par y.par, sgn strLt x.name y.name] = sgn ltL (plL x) (plL y) from sgn_lex3 klt_st klt_st _ _ _ _ _ _ _)
 go_enter Tryz.func92, Tryz.ntmps92
 go_wp2_with fail
 refine wp_region_held_drew (S := fun V => V.rangeAt W.heap.size 4 (#[.int .i64 x.at_.1, .int .i64 x.at_.2] : Array Value).toList ∧ V.rangeAt (W.heap.size + 1) 4 (#[.int .i64 y.at_.1, .int .i64 y.at_.2] : Array Value).toList ∧ V.rangeAt W.heap.size 6 (#[.int .i64 x.par.1, .int .i64 x.par.2] : Array Value).toList ∧ V.rangeAt (W.heap.size + 1) 6 (#[.int .i64 y.par.1, .int .i64 y.par.2] : Array Value).toList ∧ V.cell? ⟨W.heap.size, 8, none⟩ = some (.string x.name) ∧ V.cell? ⟨(W.heap.size + 1), 8, none⟩ = some (.string y.name)) (by kernel_rfl) (HSS.out _ HX0.out.drew HY0.out.drew) (fun hHeld => ?_)
 refine Vc.wpAnyH_rd (i := 0) (d := some 5) (v := ?v45) ?hy45 ?rest45
 case hy45 =>
  intro w hSw
  obtain ⟨s0, s1, s2, s3, s4, s5⟩ := hSw
  go_simp
  try with_reducible rfl
 refine Vc.wpAnyH_rd (i := 1) (d := some 6) (v := .agg (#[.int .i64 x.at_.1, .int .i64 x.at_.2])) ?hy46 ?rest46
 case hy46 =>
  intro w hSw
  exact Who.exec_loadA _ rfl rfl hSw.1 Tryz.underlying37 rfl info_st
 refine Vc.wpAnyH_rd (i := 2) (d := some 7) (v := ?v47) ?hy47 ?rest47
 case hy47 =>
  intro w hSw
  obtain ⟨s0, s1, s2, s3, s4, s5⟩ := hSw
  go_simp
  try with_reducible rfl
 refine Vc.wpAnyH_rd (i := 3) (d := some 8) (v := .agg (#[.int .i64 y.at_.1, .int .i64 y.at_.2])) ?hy48 ?rest48
 case hy48 =>
  intro w hSw
  exact Who.exec_loadA _ rfl rfl hSw.2.1 Tryz.underlying37 rfl info_st
 refine Vc.wpAnyH_rd (i := 5) (d := some 10) (v := ?v49) ?hy49 ?rest49
 case hy49 =>
  intro w hSw
  obtain ⟨s0, s1, s2, s3, s4, s5⟩ := hSw
  go_simp
  try with_reducible rfl
 refine Vc.wpAnyH_rd (i := 6) (d := some 11) (v := .agg (#[.int .i64 x.par.1, .int .i64 x.par.2])) ?hy50 ?rest50
 case hy50 =>
  intro w hSw
  exact Who.exec_loadA _ rfl rfl hSw.2.2.1 Tryz.underlying37 rfl info_st
 refine Vc.wpAnyH_rd (i := 7) (d := some 12) (v := ?v51) ?hy51 ?rest51
 case hy51 =>
  intro w hSw
  obtain ⟨s0, s1, s2, s3, s4, s5⟩ := hSw
  go_simp
  try with_reducible rfl
 refine Vc.wpAnyH_rd (i := 8) (d := some 13) (v := .agg (#[.int .i64 y.par.1, .int .i64 y.par.2])) ?hy52 ?rest52
 case hy52 =>
  intro w hSw
  exact Who.exec_loadA _ rfl rfl hSw.2.2.2.1 Tryz.underlying37 rfl info_st
 refine Vc.wpAnyH_rd (i := 10) (d := some 15) (v := ?v53) ?hy53 ?rest53
 case hy53 =>
  intro w hSw
  obtain ⟨s0, s1, s2, s3, s4, s5⟩ := hSw
  go_simp
  try with_reducible rfl
 refine Vc.wpAnyH_rd (i := 11) (d := some 16) (v := ?v54) ?hy54 ?rest54
 case hy54 =>
  intro w hSw
  obtain ⟨s0, s1, s2, s3, s4, s5⟩ := hSw
  go_simp
  try with_reducible rfl
 refine Vc.wpAnyH_rd (i := 12) (d := some 17) (v := ?v55) ?hy55 ?rest55
 case hy55 =>
  intro w hSw
  obtain ⟨s0, s1, s2, s3, s4, s5⟩ := hSw
  go_simp
  try with_reducible rfl
 refine Vc.wpAnyH_rd (i := 13) (d := some 18) (v := ?v56) ?hy56 ?rest56
 case hy56 =>
  intro w hSw
  obtain ⟨s0, s1, s2, s3, s4, s5⟩ := hSw
  go_simp
  try with_reducible rfl
 refine wpAnyH_ready (rs := [4]) (by kernel_rfl) (by simp) ?_
 refine AllReadyH.cons rfl (fun K hK => ?_) AllReadyH.nil
 go_simp
 go_at_call 74
 refine (HC0.out _).mono ?_
 rintro e w1 ⟨rfl, hg⟩
 have HG1 := Lib.hid (HG0.out.drew.trans hg)
 have HX1 := Lib.hid (HX0.out.drew.below hg.1)
 have HY1 := Lib.hid (HY0.out.drew.below hg.1)
 clear hg
 refine hK.out _ _ (HSS.out _ HX1.out HY1.out) (fun hHeld => ?_)
 clear hK K
 refine wpAnyH_ready (rs := [9]) (by kernel_rfl) (by simp) ?_
 refine AllReadyH.cons rfl (fun K hK => ?_) AllReadyH.nil
 go_simp
 go_at_call 74
 refine (HC1.out _).mono ?_
 rintro e w2 ⟨rfl, hg⟩
 have HG2 := Lib.hid (HG1.out.trans hg)
 have HX2 := Lib.hid (HX1.out.below hg.1)
 have HY2 := Lib.hid (HY1.out.below hg.1)
 clear hg
 refine hK.out _ _ (HSS.out _ HX2.out HY2.out) (fun hHeld => ?_)
 clear hK K
 refine wpAnyH_ready (rs := [14]) (by kernel_rfl) (by simp) ?_
 refine AllReadyH.cons rfl (fun K hK => ?_) AllReadyH.nil
 go_simp
 go_at_call 120
 refine (HC2.out _).mono ?_
 rintro e w3 ⟨rfl, rfl⟩
 have HG3 := HG2
 have HX3 := HX2
 have HY3 := HY2
 refine hK.out _ _ (HSS.out _ HX3.out HY3.out) (fun hHeld => ?_)
 clear hK K
 refine wpAnyH_ready (rs := [15]) (by kernel_rfl) (by simp) ?_
 refine AllReadyH.cons rfl (fun K hK => ?_) AllReadyH.nil
 go_simp
 refine hK.out _ _ (HSS.out _ (HX3.out.past _) (HY3.out.past _)) (fun hHeld => ?_)
 clear hK K
 refine wpAnyH_ready (rs := [16]) (by kernel_rfl) (by simp) ?_
 refine AllReadyH.cons rfl (fun K hK => ?_) AllReadyH.nil
 go_simp
 go_at_call 113
 refine (or_any w3.heap.size [sgn stLt x.at_ y.at_, sgn stLt x.par y.par, sgn strLt x.name y.name] 3 rfl _ (Has.fresh w3 3 _)).mono ?_
 rintro e w9 ⟨rfl, rfl⟩
 refine hK.out _ _ (HSS.out _ (HX3.out.past _) (HY3.out.past _)) (fun hHeld => ?_)
 clear hK K
 refine Vc.wpAnyH_rd (i := 17) (d := some 4) (v := ?v57) ?hy57 ?rest57
 case hy57 =>
  intro w hSw
  go_simp
  try with_reducible rfl
 refine wpAnyH_done (by kernel_rfl) ?_ _
 have HZ := Lib.hid (HG3.out.alloc (.cells #[.int .i64 (sgn stLt x.at_ y.at_), .int .i64 (sgn stLt x.par y.par), .int .i64 (sgn strLt x.name y.name)] 3))
 go_wp2
 go_ret
 exact ⟨by rw [← HO.out]; rfl, HZ.out⟩

end Go.Proofs.YtblogecapegbmaaGreat.Jn
