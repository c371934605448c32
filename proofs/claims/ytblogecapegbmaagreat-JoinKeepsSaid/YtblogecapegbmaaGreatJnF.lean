/- Join: kinds of rows; rows of any number as one. -/
import Derived.Test.YtblogecapegbmaaGreatJnE
namespace Go.Proofs.YtblogecapegbmaaGreat.Jn
open Go.RowKit Go.Proofs.YtblogecapegbmaaGreat.Mem Go.Sort
set_option linter.unusedVariables false set_option linter.unusedSimpArgs false

/-- A row, and where it lies. -/
structure RowP (α : Type) where
 A : Option Addr
 n : Nat
 c : Nat
 l : List α
structure RowOk {α : Type} (w : World) (k : Nat) (C : α → Array Value) (p : RowP α) : Prop where
 row : Fc.SRow w k C p.A p.n p.l
 nil : p.A = none → p.n = 0 ∧ p.c = 0
theorem RowOk.below {α : Type} {w w' : World} {k : Nat} {C : α → Array Value} {p : RowP α} (h : RowOk w k C p) (hb : Below w.heap.size w w') : RowOk w' k C p := ⟨h.row.below hb, h.nil⟩
def allR {α : Type} (ps : List (RowP α)) : List α := ps.flatMap RowP.l
def sumR {α : Type} (ps : List (RowP α)) : Nat := (ps.map RowP.n).sum
theorem sumR_snoc {α : Type} (ps : List (RowP α)) (p : RowP α) : sumR (ps ++ [p]) = sumR ps + p.n := by unfold sumR; simp
theorem sumR_take {α : Type} (ps : List (RowP α)) (k : Nat) : sumR (ps.take k) ≤ sumR ps := by
 have h : sumR ps = sumR (ps.take k) + sumR (ps.drop k) := by
  unfold sumR
  rw [← List.sum_append, ← List.map_append, List.take_append_drop]
 omega
theorem allR_snoc {α : Type} (ps : List (RowP α)) (p : RowP α) : allR (ps ++ [p]) = allR ps ++ p.l := by unfold allR; simp
theorem allR_len {α : Type} {w : World} {k : Nat} {C : α → Array Value} {ps : List (RowP α)} (h : ∀ p ∈ ps, RowOk w k C p) : (allR ps).length = sumR ps := by
 induction ps with
 | nil => rfl
 | cons p ps ih =>
  have e1 : allR (p :: ps) = p.l ++ allR ps := rfl
  have e2 : sumR (p :: ps) = p.n + sumR ps := by unfold sumR; simp
  rw [e1, e2, List.length_append, ih (fun q hq => h q (List.mem_cons_of_mem _ hq)), (h p List.mem_cons_self).row.1]
/-- Rows lie side by side in a block. -/
def RowsAt {α : Type} (w : World) (T : Nat) (ps : List (RowP α)) : Prop := T < w.heap.size ∧ ∀ i (h : i < ps.length), w.cell? ⟨T, i, none⟩ = some (.slice ps[i].A ps[i].n ps[i].c)
theorem RowsAt.below {α : Type} {w w' : World} {T : Nat} {ps : List (RowP α)} (h : RowsAt w T ps) {B : Nat} (hb : Below B w w') (hT : T < B := by omega) : RowsAt w' T ps := ⟨Nat.lt_of_lt_of_le h.1 hb.size, fun i hi => (hb.cell (p := ⟨T, i, none⟩) hT).trans (h.2 i hi)⟩
def zeroN : Array Value := #[.int .i64 0, .int .i64 0, .int .i64 0, .string ⟨#[]⟩, .int .i64 0, .int .i64 0, .int .i64 0, .int .u64 0, .int .i64 0, .int .i64 0, .int .i64 0, .slice none 0 0, .slice none 0 0]
theorem kdN : KdOk Tryz.prog 46 24 13 144 Fc.nodeC (fun e => .agg (Fc.nodeC e)) (.agg zeroN) := by
 refine ⟨Tryz.underlying24, ?_, rfl, fun _ => rfl, by decide, by decide, fun x => by simp [Fc.nodeC, Value.oneCell'], fun e => by kernel_rfl⟩
 have h : (Tryz.prog.info? 46).map (fun i => (i.zero, i.size, i.bytes)) = some (some (.agg zeroN), 13, 144) := by kernel_rfl
 cases hh : Tryz.prog.info? 46 with
 | none => rw [hh] at h; cases h
 | some i => rw [hh] at h; simp at h; exact ⟨i, rfl, h⟩
theorem infoN : (Tryz.prog.info? 46).map (·.size) = some 13 := by kernel_rfl
def zeroL : Array Value := #[.int .i64 0, .int .i64 0, .int .i64 0, .int .i64 0, .int .i64 0, .int .i64 0, .int .i64 0, .int .i64 0, .string ⟨#[]⟩, .int .i64 0, .int .i64 0, .int .i64 0, .int .i64 0, .int .i64 0, .int .i64 0, .int .i64 0, .int .i64 0, .int .i64 0, .int .i64 0, .int .i64 0, .int .i64 0, .int .i64 0, .int .i64 0, .int .i64 0, .int .i64 0]
theorem kdL : KdOk Tryz.prog 51 25 25 208 Fc.linkC (fun e => .agg (Fc.linkC e)) (.agg zeroL) := by
 refine ⟨Tryz.underlying25, ?_, rfl, fun _ => rfl, by decide, by decide, fun x => by simp [Fc.linkC, Value.oneCell'], fun e => by kernel_rfl⟩
 have h : (Tryz.prog.info? 51).map (fun i => (i.zero, i.size, i.bytes)) = some (some (.agg zeroL), 25, 208) := by kernel_rfl
 cases hh : Tryz.prog.info? 51 with
 | none => rw [hh] at h; cases h
 | some i => rw [hh] at h; simp at h; exact ⟨i, rfl, h⟩
theorem infoL : (Tryz.prog.info? 51).map (·.size) = some 25 := by kernel_rfl
def zeroP : Array Value := #[.int .i64 0, .int .i64 0, .int .i64 0, .string ⟨#[]⟩]
theorem kdP : KdOk Tryz.prog 74 43 4 40 Fc.pieceC (fun e => .agg (Fc.pieceC e)) (.agg zeroP) := by
 refine ⟨Tryz.underlying43, ?_, rfl, fun _ => rfl, by decide, by decide, fun x => by simp [Fc.pieceC, Value.oneCell'], fun e => by kernel_rfl⟩
 have h : (Tryz.prog.info? 74).map (fun i => (i.zero, i.size, i.bytes)) = some (some (.agg zeroP), 4, 40) := by kernel_rfl
 cases hh : Tryz.prog.info? 74 with
 | none => rw [hh] at h; cases h
 | some i => rw [hh] at h; simp at h; exact ⟨i, rfl, h⟩
theorem infoP : (Tryz.prog.info? 74).map (·.size) = some 4 := by kernel_rfl
def zeroX : Array Value := #[.string ⟨#[]⟩, .int .i64 0, .int .i64 0, .string ⟨#[]⟩, .bool false]
theorem kdX : KdOk Tryz.prog 77 44 5 56 Fc.xattrC (fun e => .agg (Fc.xattrC e)) (.agg zeroX) := by
 refine ⟨Tryz.underlying44, ?_, rfl, fun _ => rfl, by decide, by decide, fun x => by simp [Fc.xattrC, Value.oneCell'], fun e => by kernel_rfl⟩
 have h : (Tryz.prog.info? 77).map (fun i => (i.zero, i.size, i.bytes)) = some (some (.agg zeroX), 5, 56) := by kernel_rfl
 cases hh : Tryz.prog.info? 77 with
 | none => rw [hh] at h; cases h
 | some i => rw [hh] at h; simp at h; exact ⟨i, rfl, h⟩
theorem infoX : (Tryz.prog.info? 77).map (·.size) = some 5 := by kernel_rfl
def rowCP (p : RowP Fc.PieceP) : Array Value := #[.slice p.A p.n p.c]
theorem kdRP : KdOk Tryz.prog 43 111 1 24 rowCP (fun p => .slice p.A p.n p.c) (.slice none 0 0) := by
 refine ⟨Tryz.underlying111, ?_, rfl, fun _ => rfl, by decide, by decide, fun x => by simp [rowCP, Value.oneCell'], fun e => by kernel_rfl⟩
 have h : (Tryz.prog.info? 43).map (fun i => (i.zero, i.size, i.bytes)) = some (some (.slice none 0 0), 1, 24) := by kernel_rfl
 cases hh : Tryz.prog.info? 43 with
 | none => rw [hh] at h; cases h
 | some i => rw [hh] at h; simp at h; exact ⟨i, rfl, h⟩
def rowCX (p : RowP Fc.XattrP) : Array Value := #[.slice p.A p.n p.c]
theorem kdRX : KdOk Tryz.prog 44 112 1 24 rowCX (fun p => .slice p.A p.n p.c) (.slice none 0 0) := by
 refine ⟨Tryz.underlying112, ?_, rfl, fun _ => rfl, by decide, by decide, fun x => by simp [rowCX, Value.oneCell'], fun e => by kernel_rfl⟩
 have h : (Tryz.prog.info? 44).map (fun i => (i.zero, i.size, i.bytes)) = some (some (.slice none 0 0), 1, 24) := by kernel_rfl
 cases hh : Tryz.prog.info? 44 with
 | none => rw [hh] at h; cases h
 | some i => rw [hh] at h; simp at h; exact ⟨i, rfl, h⟩
set_option maxRecDepth 100000 in
theorem growN_any (m : Nat) (hm : m ≤ 500000) (w : World) :
  Calls Tryz.prog 108 #[.slice none 0 0, .int .i64 m] w fun e w' => ∃ v, e = .returned v ∧ OwnK w' w.heap.size 46 13 Fc.nodeC v [] ∧ Below w.heap.size w w' := by
 by_cases h0 : m = 0
 ·subst h0
  go_enter Tryz.func108, Tryz.ntmps108
  go_wp2
  go_ret
  exact ⟨_, rfl, OwnK.nil _ _ _ _ _, Below.refl _ w⟩
 ·obtain ⟨i0, hi, hz0, hz1, hz2⟩ := kdN.hi
  have hr : ∀ ty, (Builtin.append_ #[24, 3] ty #[.slice none 0 0, .int .i64 (m : Int)]).run Tryz.prog w = _ := fun ty => Lib.run_append_nil_zeros (P := Tryz.prog) w 24 3 ty 46 i0 (.agg zeroN) .i64 .i64 Tryz.underlying24 Tryz.underlying3 hi hz0 m (by omega) (by omega) (by omega) (by rw [hz2]; omega)
  have hown := World.ownsRow_made (base := w.heap.size) (e := 46) (size := 13) w.drew (Builtin.zeroCells (Value.agg zeroN).cells m ++ Builtin.zeroCells (Value.agg zeroN).cells (grownCap w m 0 46 - m)) (grownCap w m 0 46) (Nat.le_refl _) (grownCap_le_maxLen _ _ _ _ (by unfold maxLen; omega)) (by
   have := grownCap_ge w m 0 46
   have z1 : zeroN.size = 13 := rfl
   simp [Builtin.zeroCells, Value.cells, z1]
   omega)
  have HO := Lib.hid hown
  have HB := Lib.hid ((Below.refl w.heap.size w).drew.alloc (Nat.le_refl _) (.cells (Builtin.zeroCells (Value.agg zeroN).cells m ++ Builtin.zeroCells (Value.agg zeroN).cells (grownCap w m 0 46 - m)) 46))
  have m0 : 0 < (m : Int) := by omega
  have m1 : (m : Int) ≤ 500000 := by omega
  clear hi hz0 hz1 hz2 hown
  go_enter Tryz.func108, Tryz.ntmps108
  go_wp2_with (at_builtin; refine Lib.wpList_append_run _ rfl _ _ _ _ rfl _ _ rfl rfl _ _ (hr _) ?_)
  go_ret
  exact ⟨_, rfl, HO.out, HB.out⟩
set_option maxRecDepth 100000 in
set_option maxHeartbeats 4000000 in
theorem concatN_any (T d : Nat) (ps : List (RowP Fc.NodeC)) (hlen : ps.length ≤ 500000) (hsum : sumR ps ≤ 500000) (w : World) (hp : RowsAt w T ps) (hps : ∀ p ∈ ps, RowOk w 13 Fc.nodeC p) :
  Calls Tryz.prog 72 #[.slice (some ⟨T, 0, none⟩) ps.length d] w fun e w' => ∃ v, e = .returned v ∧ OwnK w' w.heap.size 46 13 Fc.nodeC v (allR ps) ∧ Below w.heap.size w w' := by
 have HP := Lib.hid hp
 have HS := Lib.hid hps
 have HM := Lib.hid hsum
 clear hp hps hsum
 go_enter Tryz.func72, Tryz.ntmps72
 go_wp2
 go_loop [3, 11] (fun s i => ∃ q : Nat, q ≤ ps.length ∧ i = .int .i64 q ∧ s = .int .i64 (sumR (ps.take q) : Nat)) (fun _ i => ps.length - (intOf i).toNat)
 case atStart => exact ⟨0, Nat.zero_le _, rfl, rfl⟩
 case round =>
  obtain ⟨q, hq, rfl, rfl⟩ := hrel
  by_cases hlt : q < ps.length
  ·have hx := HP.out.2 q hlt
   have HX := Lib.hid (show sumR (ps.take (q + 1)) = sumR (ps.take q) + ps[q].n by rw [List.take_succ_eq_append_getElem hlt, sumR_snoc])
   have HQ := Lib.hid (show sumR (ps.take (q + 1)) ≤ 500000 from Nat.le_trans (sumR_take _ _) HM.out)
   generalize ps[q] = p at *
   obtain ⟨A, n, c, l⟩ := p
   simp only at hx
   simp only at HX
   generalize sumR (ps.take q) = S at *
   have hb1 : S + n ≤ 500000 := by
    have h1 := HX.out
    have h2 := HQ.out
    omega
   have hb3 : (S : Int) + (n : Int) ≤ 500000 := by omega
   have hneg : ¬ (S : Int) + (n : Int) < 0 := by omega
   have hlt' : (q : Int) < (ps.length : Int) := by omega
   clear hb1
   go_wp2
   go_round
   case rel => exact ⟨q + 1, by omega, by go_num, by
    rw [HX.out]
    go_num⟩
   case measure => simp [intOf]; omega
  ·have hkn : q = ps.length := by omega
   have HEnd := Lib.hid (show sumR (ps.take q) = sumR ps by rw [hkn, List.take_of_length_le (Nat.le_refl _)])
   have hg := growN_any (sumR (ps.take q)) (by rw [HEnd.out]; have := HM.out; omega) w
   have HG := Lib.hid hg
   clear hg
   generalize sumR (ps.take q) = S at *
   go_wp2_with fail
   refine HG.out.mono ?_
   rintro e w1 ⟨v, rfl, ho, hb⟩
   have HO0 := Lib.hid ho
   have HB0 := Lib.hid hb
   clear ho hb HG hkn hq hlt HEnd
   go_wp2
   go_loopw [6, 27] (fun v i wr => ∃ q : Nat, q ≤ ps.length ∧ i = .int .i64 q ∧ Hid (OwnK wr w.heap.size 46 13 Fc.nodeC v (allR (ps.take q))) ∧ Hid (Below w.heap.size w wr)) (fun _ i _ => ps.length - (intOf i).toNat)
   case atStart => exact ⟨0, Nat.zero_le _, rfl, HO0, HB0⟩
   case round =>
    obtain ⟨q, hq, rfl, HO, HB⟩ := hrel
    clear HO0 HB0
    by_cases hlt : q < ps.length
    ·have hx := (HP.out.below HB.out HP.out.1).2 q hlt
     have HX := Lib.hid (show allR (ps.take (q + 1)) = allR (ps.take q) ++ ps[q].l by rw [List.take_succ_eq_append_getElem hlt, allR_snoc])
     have HL := Lib.hid (show (allR (ps.take q)).length + ps[q].n ≤ 1000000 by
      rw [allR_len (fun p hp => HS.out p (List.mem_of_mem_take hp))]
      have h1 : sumR (ps.take (q + 1)) = sumR (ps.take q) + ps[q].n := by rw [List.take_succ_eq_append_getElem hlt, sumR_snoc]
      have h2 := sumR_take ps (q + 1)
      have h3 := HM.out
      omega)
     have HPk := Lib.hid ((HS.out _ (List.getElem_mem hlt)).below HB.out)
     generalize ps[q] = p at *
     obtain ⟨A, n, c, l⟩ := p
     simp only at hx HX HL
     have hlt' : (q : Int) < (ps.length : Int) := by omega
     obtain ⟨es, hes⟩ : ∃ es, es = allR (ps.take q) := ⟨_, rfl⟩
     rw [← hes] at HX HL HO
     clear hes
     obtain ⟨A6, c6, rfl, _⟩ := HO.out.any
     go_wp2_with (at_builtin; (with_reducible refine wpl_row (B := w.heap.size) (w0 := w) (u := .slice A6 es.length c6) (es := es) (ys := l) (A := A) (n := n) (c := c) kdN (.tmp 31) (.tmp 32) rfl rfl ?_); refine ⟨⟨rfl, rfl⟩, HO.out, ⟨Nat.le_refl _, HB.out⟩, HL.out, HPk.out.row, HPk.out.nil, ?_⟩)
     intro v1 w2 o2 g2
     have HB2 := Lib.hid g2
     have HO2 := Lib.hid (show OwnK w2 w.heap.size 46 13 Fc.nodeC v1 (allR (ps.take (q + 1))) by rw [HX.out]; exact o2)
     clear o2 g2
     go_wp2
     go_roundw
     case rel => exact ⟨q + 1, by omega, by go_num, HO2, HB2⟩
     case measure => simp [intOf]; omega
    ·have hkn : q = ps.length := by omega
     have HO2 := Lib.hid (show OwnK _ w.heap.size 46 13 Fc.nodeC _ (allR ps) by have h := HO.out; rw [hkn, List.take_of_length_le (Nat.le_refl _)] at h; exact h)
     go_wp2
     go_ret
     exact ⟨_, rfl, HO2.out, HB.out⟩
set_option maxRecDepth 100000 in
theorem growL_any (m : Nat) (hm : m ≤ 500000) (w : World) :
  Calls Tryz.prog 125 #[.slice none 0 0, .int .i64 m] w fun e w' => ∃ v, e = .returned v ∧ OwnK w' w.heap.size 51 25 Fc.linkC v [] ∧ Below w.heap.size w w' := by
 by_cases h0 : m = 0
 ·subst h0
  go_enter Tryz.func125, Tryz.ntmps125
  go_wp2
  go_ret
  exact ⟨_, rfl, OwnK.nil _ _ _ _ _, Below.refl _ w⟩
 ·obtain ⟨i0, hi, hz0, hz1, hz2⟩ := kdL.hi
  have hr : ∀ ty, (Builtin.append_ #[25, 3] ty #[.slice none 0 0, .int .i64 (m : Int)]).run Tryz.prog w = _ := fun ty => Lib.run_append_nil_zeros (P := Tryz.prog) w 25 3 ty 51 i0 (.agg zeroL) .i64 .i64 Tryz.underlying25 Tryz.underlying3 hi hz0 m (by omega) (by omega) (by omega) (by rw [hz2]; omega)
  have hown := World.ownsRow_made (base := w.heap.size) (e := 51) (size := 25) w.drew (Builtin.zeroCells (Value.agg zeroL).cells m ++ Builtin.zeroCells (Value.agg zeroL).cells (grownCap w m 0 51 - m)) (grownCap w m 0 51) (Nat.le_refl _) (grownCap_le_maxLen _ _ _ _ (by unfold maxLen; omega)) (by
   have := grownCap_ge w m 0 51
   have z1 : zeroL.size = 25 := rfl
   simp [Builtin.zeroCells, Value.cells, z1]
   omega)
  have HO := Lib.hid hown
  have HB := Lib.hid ((Below.refl w.heap.size w).drew.alloc (Nat.le_refl _) (.cells (Builtin.zeroCells (Value.agg zeroL).cells m ++ Builtin.zeroCells (Value.agg zeroL).cells (grownCap w m 0 51 - m)) 51))
  have m0 : 0 < (m : Int) := by omega
  have m1 : (m : Int) ≤ 500000 := by omega
  clear hi hz0 hz1 hz2 hown
  go_enter Tryz.func125, Tryz.ntmps125
  go_wp2_with (at_builtin; refine Lib.wpList_append_run _ rfl _ _ _ _ rfl _ _ rfl rfl _ _ (hr _) ?_)
  go_ret
  exact ⟨_, rfl, HO.out, HB.out⟩
set_option maxRecDepth 100000 in
set_option maxHeartbeats 4000000 in
theorem concatL_any (T d : Nat) (ps : List (RowP Fc.LinkP)) (hlen : ps.length ≤ 500000) (hsum : sumR ps ≤ 500000) (w : World) (hp : RowsAt w T ps) (hps : ∀ p ∈ ps, RowOk w 25 Fc.linkC p) :
  Calls Tryz.prog 89 #[.slice (some ⟨T, 0, none⟩) ps.length d] w fun e w' => ∃ v, e = .returned v ∧ OwnK w' w.heap.size 51 25 Fc.linkC v (allR ps) ∧ Below w.heap.size w w' := by
 have HP := Lib.hid hp
 have HS := Lib.hid hps
 have HM := Lib.hid hsum
 clear hp hps hsum
 go_enter Tryz.func89, Tryz.ntmps89
 go_wp2
 go_loop [3, 11] (fun s i => ∃ q : Nat, q ≤ ps.length ∧ i = .int .i64 q ∧ s = .int .i64 (sumR (ps.take q) : Nat)) (fun _ i => ps.length - (intOf i).toNat)
 case atStart => exact ⟨0, Nat.zero_le _, rfl, rfl⟩
 case round =>
  obtain ⟨q, hq, rfl, rfl⟩ := hrel
  by_cases hlt : q < ps.length
  ·have hx := HP.out.2 q hlt
   have HX := Lib.hid (show sumR (ps.take (q + 1)) = sumR (ps.take q) + ps[q].n by rw [List.take_succ_eq_append_getElem hlt, sumR_snoc])
   have HQ := Lib.hid (show sumR (ps.take (q + 1)) ≤ 500000 from Nat.le_trans (sumR_take _ _) HM.out)
   generalize ps[q] = p at *
   obtain ⟨A, n, c, l⟩ := p
   simp only at hx
   simp only at HX
   generalize sumR (ps.take q) = S at *
   have hb1 : S + n ≤ 500000 := by
    have h1 := HX.out
    have h2 := HQ.out
    omega
   have hb3 : (S : Int) + (n : Int) ≤ 500000 := by omega
   have hneg : ¬ (S : Int) + (n : Int) < 0 := by omega
   have hlt' : (q : Int) < (ps.length : Int) := by omega
   clear hb1
   go_wp2
   go_round
   case rel => exact ⟨q + 1, by omega, by go_num, by
    rw [HX.out]
    go_num⟩
   case measure => simp [intOf]; omega
  ·have hkn : q = ps.length := by omega
   have HEnd := Lib.hid (show sumR (ps.take q) = sumR ps by rw [hkn, List.take_of_length_le (Nat.le_refl _)])
   have hg := growL_any (sumR (ps.take q)) (by rw [HEnd.out]; have := HM.out; omega) w
   have HG := Lib.hid hg
   clear hg
   generalize sumR (ps.take q) = S at *
   go_wp2_with fail
   refine HG.out.mono ?_
   rintro e w1 ⟨v, rfl, ho, hb⟩
   have HO0 := Lib.hid ho
   have HB0 := Lib.hid hb
   clear ho hb HG hkn hq hlt HEnd
   go_wp2
   go_loopw [6, 27] (fun v i wr => ∃ q : Nat, q ≤ ps.length ∧ i = .int .i64 q ∧ Hid (OwnK wr w.heap.size 51 25 Fc.linkC v (allR (ps.take q))) ∧ Hid (Below w.heap.size w wr)) (fun _ i _ => ps.length - (intOf i).toNat)
   case atStart => exact ⟨0, Nat.zero_le _, rfl, HO0, HB0⟩
   case round =>
    obtain ⟨q, hq, rfl, HO, HB⟩ := hrel
    clear HO0 HB0
    by_cases hlt : q < ps.length
    ·have hx := (HP.out.below HB.out HP.out.1).2 q hlt
     have HX := Lib.hid (show allR (ps.take (q + 1)) = allR (ps.take q) ++ ps[q].l by rw [List.take_succ_eq_append_getElem hlt, allR_snoc])
     have HL := Lib.hid (show (allR (ps.take q)).length + ps[q].n ≤ 1000000 by
      rw [allR_len (fun p hp => HS.out p (List.mem_of_mem_take hp))]
      have h1 : sumR (ps.take (q + 1)) = sumR (ps.take q) + ps[q].n := by rw [List.take_succ_eq_append_getElem hlt, sumR_snoc]
      have h2 := sumR_take ps (q + 1)
      have h3 := HM.out
      omega)
     have HPk := Lib.hid ((HS.out _ (List.getElem_mem hlt)).below HB.out)
     generalize ps[q] = p at *
     obtain ⟨A, n, c, l⟩ := p
     simp only at hx HX HL
     have hlt' : (q : Int) < (ps.length : Int) := by omega
     obtain ⟨es, hes⟩ : ∃ es, es = allR (ps.take q) := ⟨_, rfl⟩
     rw [← hes] at HX HL HO
     clear hes
     obtain ⟨A6, c6, rfl, _⟩ := HO.out.any
     go_wp2_with (at_builtin; (with_reducible refine wpl_row (B := w.heap.size) (w0 := w) (u := .slice A6 es.length c6) (es := es) (ys := l) (A := A) (n := n) (c := c) kdL (.tmp 31) (.tmp 32) rfl rfl ?_); refine ⟨⟨rfl, rfl⟩, HO.out, ⟨Nat.le_refl _, HB.out⟩, HL.out, HPk.out.row, HPk.out.nil, ?_⟩)
     intro v1 w2 o2 g2
     have HB2 := Lib.hid g2
     have HO2 := Lib.hid (show OwnK w2 w.heap.size 51 25 Fc.linkC v1 (allR (ps.take (q + 1))) by rw [HX.out]; exact o2)
     clear o2 g2
     go_wp2
     go_roundw
     case rel => exact ⟨q + 1, by omega, by go_num, HO2, HB2⟩
     case measure => simp [intOf]; omega
    ·have hkn : q = ps.length := by omega
     have HO2 := Lib.hid (show OwnK _ w.heap.size 51 25 Fc.linkC _ (allR ps) by have h := HO.out; rw [hkn, List.take_of_length_le (Nat.le_refl _)] at h; exact h)
     go_wp2
     go_ret
     exact ⟨_, rfl, HO2.out, HB.out⟩
set_option maxRecDepth 100000 in
theorem growP_any (m : Nat) (hm : m ≤ 500000) (w : World) :
  Calls Tryz.prog 151 #[.slice none 0 0, .int .i64 m] w fun e w' => ∃ v, e = .returned v ∧ OwnK w' w.heap.size 74 4 Fc.pieceC v [] ∧ Below w.heap.size w w' := by
 by_cases h0 : m = 0
 ·subst h0
  go_enter Tryz.func151, Tryz.ntmps151
  go_wp2
  go_ret
  exact ⟨_, rfl, OwnK.nil _ _ _ _ _, Below.refl _ w⟩
 ·obtain ⟨i0, hi, hz0, hz1, hz2⟩ := kdP.hi
  have hr : ∀ ty, (Builtin.append_ #[43, 3] ty #[.slice none 0 0, .int .i64 (m : Int)]).run Tryz.prog w = _ := fun ty => Lib.run_append_nil_zeros (P := Tryz.prog) w 43 3 ty 74 i0 (.agg zeroP) .i64 .i64 Tryz.underlying43 Tryz.underlying3 hi hz0 m (by omega) (by omega) (by omega) (by rw [hz2]; omega)
  have hown := World.ownsRow_made (base := w.heap.size) (e := 74) (size := 4) w.drew (Builtin.zeroCells (Value.agg zeroP).cells m ++ Builtin.zeroCells (Value.agg zeroP).cells (grownCap w m 0 74 - m)) (grownCap w m 0 74) (Nat.le_refl _) (grownCap_le_maxLen _ _ _ _ (by unfold maxLen; omega)) (by
   have := grownCap_ge w m 0 74
   have z1 : zeroP.size = 4 := rfl
   simp [Builtin.zeroCells, Value.cells, z1]
   omega)
  have HO := Lib.hid hown
  have HB := Lib.hid ((Below.refl w.heap.size w).drew.alloc (Nat.le_refl _) (.cells (Builtin.zeroCells (Value.agg zeroP).cells m ++ Builtin.zeroCells (Value.agg zeroP).cells (grownCap w m 0 74 - m)) 74))
  have m0 : 0 < (m : Int) := by omega
  have m1 : (m : Int) ≤ 500000 := by omega
  clear hi hz0 hz1 hz2 hown
  go_enter Tryz.func151, Tryz.ntmps151
  go_wp2_with (at_builtin; refine Lib.wpList_append_run _ rfl _ _ _ _ rfl _ _ rfl rfl _ _ (hr _) ?_)
  go_ret
  exact ⟨_, rfl, HO.out, HB.out⟩
set_option maxRecDepth 100000 in
set_option maxHeartbeats 4000000 in
theorem concatP_any (T d : Nat) (ps : List (RowP Fc.PieceP)) (hlen : ps.length ≤ 500000) (hsum : sumR ps ≤ 500000) (w : World) (hp : RowsAt w T ps) (hps : ∀ p ∈ ps, RowOk w 4 Fc.pieceC p) :
  Calls Tryz.prog 117 #[.slice (some ⟨T, 0, none⟩) ps.length d] w fun e w' => ∃ v, e = .returned v ∧ OwnK w' w.heap.size 74 4 Fc.pieceC v (allR ps) ∧ Below w.heap.size w w' := by
 have HP := Lib.hid hp
 have HS := Lib.hid hps
 have HM := Lib.hid hsum
 clear hp hps hsum
 go_enter Tryz.func117, Tryz.ntmps117
 go_wp2
 go_loop [3, 11] (fun s i => ∃ q : Nat, q ≤ ps.length ∧ i = .int .i64 q ∧ s = .int .i64 (sumR (ps.take q) : Nat)) (fun _ i => ps.length - (intOf i).toNat)
 case atStart => exact ⟨0, Nat.zero_le _, rfl, rfl⟩
 case round =>
  obtain ⟨q, hq, rfl, rfl⟩ := hrel
  by_cases hlt : q < ps.length
  ·have hx := HP.out.2 q hlt
   have HX := Lib.hid (show sumR (ps.take (q + 1)) = sumR (ps.take q) + ps[q].n by rw [List.take_succ_eq_append_getElem hlt, sumR_snoc])
   have HQ := Lib.hid (show sumR (ps.take (q + 1)) ≤ 500000 from Nat.le_trans (sumR_take _ _) HM.out)
   generalize ps[q] = p at *
   obtain ⟨A, n, c, l⟩ := p
   simp only at hx
   simp only at HX
   generalize sumR (ps.take q) = S at *
   have hb1 : S + n ≤ 500000 := by
    have h1 := HX.out
    have h2 := HQ.out
    omega
   have hb3 : (S : Int) + (n : Int) ≤ 500000 := by omega
   have hneg : ¬ (S : Int) + (n : Int) < 0 := by omega
   have hlt' : (q : Int) < (ps.length : Int) := by omega
   clear hb1
   go_wp2
   go_round
   case rel => exact ⟨q + 1, by omega, by go_num, by
    rw [HX.out]
    go_num⟩
   case measure => simp [intOf]; omega
  ·have hkn : q = ps.length := by omega
   have HEnd := Lib.hid (show sumR (ps.take q) = sumR ps by rw [hkn, List.take_of_length_le (Nat.le_refl _)])
   have hg := growP_any (sumR (ps.take q)) (by rw [HEnd.out]; have := HM.out; omega) w
   have HG := Lib.hid hg
   clear hg
   generalize sumR (ps.take q) = S at *
   go_wp2_with fail
   refine HG.out.mono ?_
   rintro e w1 ⟨v, rfl, ho, hb⟩
   have HO0 := Lib.hid ho
   have HB0 := Lib.hid hb
   clear ho hb HG hkn hq hlt HEnd
   go_wp2
   go_loopw [6, 27] (fun v i wr => ∃ q : Nat, q ≤ ps.length ∧ i = .int .i64 q ∧ Hid (OwnK wr w.heap.size 74 4 Fc.pieceC v (allR (ps.take q))) ∧ Hid (Below w.heap.size w wr)) (fun _ i _ => ps.length - (intOf i).toNat)
   case atStart => exact ⟨0, Nat.zero_le _, rfl, HO0, HB0⟩
   case round =>
    obtain ⟨q, hq, rfl, HO, HB⟩ := hrel
    clear HO0 HB0
    by_cases hlt : q < ps.length
    ·have hx := (HP.out.below HB.out HP.out.1).2 q hlt
     have HX := Lib.hid (show allR (ps.take (q + 1)) = allR (ps.take q) ++ ps[q].l by rw [List.take_succ_eq_append_getElem hlt, allR_snoc])
     have HL := Lib.hid (show (allR (ps.take q)).length + ps[q].n ≤ 1000000 by
      rw [allR_len (fun p hp => HS.out p (List.mem_of_mem_take hp))]
      have h1 : sumR (ps.take (q + 1)) = sumR (ps.take q) + ps[q].n := by rw [List.take_succ_eq_append_getElem hlt, sumR_snoc]
      have h2 := sumR_take ps (q + 1)
      have h3 := HM.out
      omega)
     have HPk := Lib.hid ((HS.out _ (List.getElem_mem hlt)).below HB.out)
     generalize ps[q] = p at *
     obtain ⟨A, n, c, l⟩ := p
     simp only at hx HX HL
     have hlt' : (q : Int) < (ps.length : Int) := by omega
     obtain ⟨es, hes⟩ : ∃ es, es = allR (ps.take q) := ⟨_, rfl⟩
     rw [← hes] at HX HL HO
     clear hes
     obtain ⟨A6, c6, rfl, _⟩ := HO.out.any
     go_wp2_with (at_builtin; (with_reducible refine wpl_row (B := w.heap.size) (w0 := w) (u := .slice A6 es.length c6) (es := es) (ys := l) (A := A) (n := n) (c := c) kdP (.tmp 31) (.tmp 32) rfl rfl ?_); refine ⟨⟨rfl, rfl⟩, HO.out, ⟨Nat.le_refl _, HB.out⟩, HL.out, HPk.out.row, HPk.out.nil, ?_⟩)
     intro v1 w2 o2 g2
     have HB2 := Lib.hid g2
     have HO2 := Lib.hid (show OwnK w2 w.heap.size 74 4 Fc.pieceC v1 (allR (ps.take (q + 1))) by rw [HX.out]; exact o2)
     clear o2 g2
     go_wp2
     go_roundw
     case rel => exact ⟨q + 1, by omega, by go_num, HO2, HB2⟩
     case measure => simp [intOf]; omega
    ·have hkn : q = ps.length := by omega
     have HO2 := Lib.hid (show OwnK _ w.heap.size 74 4 Fc.pieceC _ (allR ps) by have h := HO.out; rw [hkn, List.take_of_length_le (Nat.le_refl _)] at h; exact h)
     go_wp2
     go_ret
     exact ⟨_, rfl, HO2.out, HB.out⟩
set_option maxRecDepth 100000 in
theorem growX_any (m : Nat) (hm : m ≤ 500000) (w : World) :
  Calls Tryz.prog 154 #[.slice none 0 0, .int .i64 m] w fun e w' => ∃ v, e = .returned v ∧ OwnK w' w.heap.size 77 5 Fc.xattrC v [] ∧ Below w.heap.size w w' := by
 by_cases h0 : m = 0
 ·subst h0
  go_enter Tryz.func154, Tryz.ntmps154
  go_wp2
  go_ret
  exact ⟨_, rfl, OwnK.nil _ _ _ _ _, Below.refl _ w⟩
 ·obtain ⟨i0, hi, hz0, hz1, hz2⟩ := kdX.hi
  have hr : ∀ ty, (Builtin.append_ #[44, 3] ty #[.slice none 0 0, .int .i64 (m : Int)]).run Tryz.prog w = _ := fun ty => Lib.run_append_nil_zeros (P := Tryz.prog) w 44 3 ty 77 i0 (.agg zeroX) .i64 .i64 Tryz.underlying44 Tryz.underlying3 hi hz0 m (by omega) (by omega) (by omega) (by rw [hz2]; omega)
  have hown := World.ownsRow_made (base := w.heap.size) (e := 77) (size := 5) w.drew (Builtin.zeroCells (Value.agg zeroX).cells m ++ Builtin.zeroCells (Value.agg zeroX).cells (grownCap w m 0 77 - m)) (grownCap w m 0 77) (Nat.le_refl _) (grownCap_le_maxLen _ _ _ _ (by unfold maxLen; omega)) (by
   have := grownCap_ge w m 0 77
   have z1 : zeroX.size = 5 := rfl
   simp [Builtin.zeroCells, Value.cells, z1]
   omega)
  have HO := Lib.hid hown
  have HB := Lib.hid ((Below.refl w.heap.size w).drew.alloc (Nat.le_refl _) (.cells (Builtin.zeroCells (Value.agg zeroX).cells m ++ Builtin.zeroCells (Value.agg zeroX).cells (grownCap w m 0 77 - m)) 77))
  have m0 : 0 < (m : Int) := by omega
  have m1 : (m : Int) ≤ 500000 := by omega
  clear hi hz0 hz1 hz2 hown
  go_enter Tryz.func154, Tryz.ntmps154
  go_wp2_with (at_builtin; refine Lib.wpList_append_run _ rfl _ _ _ _ rfl _ _ rfl rfl _ _ (hr _) ?_)
  go_ret
  exact ⟨_, rfl, HO.out, HB.out⟩
set_option maxRecDepth 100000 in
set_option maxHeartbeats 4000000 in
theorem concatX_any (T d : Nat) (ps : List (RowP Fc.XattrP)) (hlen : ps.length ≤ 500000) (hsum : sumR ps ≤ 500000) (w : World) (hp : RowsAt w T ps) (hps : ∀ p ∈ ps, RowOk w 5 Fc.xattrC p) :
  Calls Tryz.prog 121 #[.slice (some ⟨T, 0, none⟩) ps.length d] w fun e w' => ∃ v, e = .returned v ∧ OwnK w' w.heap.size 77 5 Fc.xattrC v (allR ps) ∧ Below w.heap.size w w' := by
 have HP := Lib.hid hp
 have HS := Lib.hid hps
 have HM := Lib.hid hsum
 clear hp hps hsum
 go_enter Tryz.func121, Tryz.ntmps121
 go_wp2
 go_loop [3, 11] (fun s i => ∃ q : Nat, q ≤ ps.length ∧ i = .int .i64 q ∧ s = .int .i64 (sumR (ps.take q) : Nat)) (fun _ i => ps.length - (intOf i).toNat)
 case atStart => exact ⟨0, Nat.zero_le _, rfl, rfl⟩
 case round =>
  obtain ⟨q, hq, rfl, rfl⟩ := hrel
  by_cases hlt : q < ps.length
  ·have hx := HP.out.2 q hlt
   have HX := Lib.hid (show sumR (ps.take (q + 1)) = sumR (ps.take q) + ps[q].n by rw [List.take_succ_eq_append_getElem hlt, sumR_snoc])
   have HQ := Lib.hid (show sumR (ps.take (q + 1)) ≤ 500000 from Nat.le_trans (sumR_take _ _) HM.out)
   generalize ps[q] = p at *
   obtain ⟨A, n, c, l⟩ := p
   simp only at hx
   simp only at HX
   generalize sumR (ps.take q) = S at *
   have hb1 : S + n ≤ 500000 := by
    have h1 := HX.out
    have h2 := HQ.out
    omega
   have hb3 : (S : Int) + (n : Int) ≤ 500000 := by omega
   have hneg : ¬ (S : Int) + (n : Int) < 0 := by omega
   have hlt' : (q : Int) < (ps.length : Int) := by omega
   clear hb1
   go_wp2
   go_round
   case rel => exact ⟨q + 1, by omega, by go_num, by
    rw [HX.out]
    go_num⟩
   case measure => simp [intOf]; omega
  ·have hkn : q = ps.length := by omega
   have HEnd := Lib.hid (show sumR (ps.take q) = sumR ps by rw [hkn, List.take_of_length_le (Nat.le_refl _)])
   have hg := growX_any (sumR (ps.take q)) (by rw [HEnd.out]; have := HM.out; omega) w
   have HG := Lib.hid hg
   clear hg
   generalize sumR (ps.take q) = S at *
   go_wp2_with fail
   refine HG.out.mono ?_
   rintro e w1 ⟨v, rfl, ho, hb⟩
   have HO0 := Lib.hid ho
   have HB0 := Lib.hid hb
   clear ho hb HG hkn hq hlt HEnd
   go_wp2
   go_loopw [6, 27] (fun v i wr => ∃ q : Nat, q ≤ ps.length ∧ i = .int .i64 q ∧ Hid (OwnK wr w.heap.size 77 5 Fc.xattrC v (allR (ps.take q))) ∧ Hid (Below w.heap.size w wr)) (fun _ i _ => ps.length - (intOf i).toNat)
   case atStart => exact ⟨0, Nat.zero_le _, rfl, HO0, HB0⟩
   case round =>
    obtain ⟨q, hq, rfl, HO, HB⟩ := hrel
    clear HO0 HB0
    by_cases hlt : q < ps.length
    ·have hx := (HP.out.below HB.out HP.out.1).2 q hlt
     have HX := Lib.hid (show allR (ps.take (q + 1)) = allR (ps.take q) ++ ps[q].l by rw [List.take_succ_eq_append_getElem hlt, allR_snoc])
     have HL := Lib.hid (show (allR (ps.take q)).length + ps[q].n ≤ 1000000 by
      rw [allR_len (fun p hp => HS.out p (List.mem_of_mem_take hp))]
      have h1 : sumR (ps.take (q + 1)) = sumR (ps.take q) + ps[q].n := by rw [List.take_succ_eq_append_getElem hlt, sumR_snoc]
      have h2 := sumR_take ps (q + 1)
      have h3 := HM.out
      omega)
     have HPk := Lib.hid ((HS.out _ (List.getElem_mem hlt)).below HB.out)
     generalize ps[q] = p at *
     obtain ⟨A, n, c, l⟩ := p
     simp only at hx HX HL
     have hlt' : (q : Int) < (ps.length : Int) := by omega
     obtain ⟨es, hes⟩ : ∃ es, es = allR (ps.take q) := ⟨_, rfl⟩
     rw [← hes] at HX HL HO
     clear hes
     obtain ⟨A6, c6, rfl, _⟩ := HO.out.any
     go_wp2_with (at_builtin; (with_reducible refine wpl_row (B := w.heap.size) (w0 := w) (u := .slice A6 es.length c6) (es := es) (ys := l) (A := A) (n := n) (c := c) kdX (.tmp 31) (.tmp 32) rfl rfl ?_); refine ⟨⟨rfl, rfl⟩, HO.out, ⟨Nat.le_refl _, HB.out⟩, HL.out, HPk.out.row, HPk.out.nil, ?_⟩)
     intro v1 w2 o2 g2
     have HB2 := Lib.hid g2
     have HO2 := Lib.hid (show OwnK w2 w.heap.size 77 5 Fc.xattrC v1 (allR (ps.take (q + 1))) by rw [HX.out]; exact o2)
     clear o2 g2
     go_wp2
     go_roundw
     case rel => exact ⟨q + 1, by omega, by go_num, HO2, HB2⟩
     case measure => simp [intOf]; omega
    ·have hkn : q = ps.length := by omega
     have HO2 := Lib.hid (show OwnK _ w.heap.size 77 5 Fc.xattrC _ (allR ps) by have h := HO.out; rw [hkn, List.take_of_length_le (Nat.le_refl _)] at h; exact h)
     go_wp2
     go_ret
     exact ⟨_, rfl, HO2.out, HB.out⟩
end Go.Proofs.YtblogecapegbmaaGreat.Jn
