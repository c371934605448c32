/- Join: whole structs stored; the one that stands behind all others. -/
import Derived.Test.YtblogecapegbmaaGreatJnD
import Derived.Test.YtblogecapegbmaaGreatJnF
namespace Go.Proofs.YtblogecapegbmaaGreat.Jn
open Go.RowKit Go.Proofs.YtblogecapegbmaaGreat.Mem Go.Sort
set_option linter.unusedVariables false set_option linter.unusedSimpArgs false

theorem below_step {w a b : World} {g : Nat} (h : Below w.heap.size w a) (c : Chg (· = g) a b) (hg : w.heap.size ≤ g := by omega) : Below w.heap.size w b :=
 ⟨c.os.trans h.os, c.tape.trans h.tape, c.output.trans h.output, Nat.le_trans h.size c.size, fun q hq => (c.block q (Nat.lt_of_lt_of_le hq h.size) (by omega)).trans (h.block q hq)⟩
theorem self_row {j n : Nat} (h : j < n) : ((0 : Int) ≤ (j : Int) ∧ (j : Int) < (n : Int)) ∧ (j : Int).toNat = j := ⟨⟨by omega, by omega⟩, by omega⟩
/-- A whole struct stored over a block that is known. -/
theorem wpList_storeG {P : Program} {ops : Array Oper} {rest : List Oper} {op : Oper} {a : Act} {w : World} {Q : Exit → Act → World → Prop} (ty : TypeId) (x y : Operand) (ho : op.op = .store ty x y) (b : Nat) (C0 C : Array Value)
  (h : (op.guard = none ∧ a.eval x = .pointer (some ⟨b, 0, none⟩) ∧ a.eval y = .agg C ∧ (P.info? ty).map (·.size) = some C.size ∧ C.all (·.oneCell') = true ∧ C0.size = C.size ∧ Has w b ty C0) ∧ ∀ W', Hid (Has W' b ty C) → Hid (Chg (· = b) w W') → wpList P ops Q rest (a.put op.dst undef) W') : wpList P ops Q (op :: rest) a w := by
 obtain ⟨⟨h1, h2, h3, h4, h5, h6, h7⟩, h10⟩ := h
 exact Who.wpList_storeC ty x y ho b 0 C ⟨⟨h1, h2, h3, h4, h5⟩, Who.has_there h7 h6.symm, h10 _ (Lib.hid (Who.has_over h7 h6)) (Lib.hid (Who.chg_setCells b _ 0 _))⟩
/-- What MaxFunc's loop keeps. -/
structure MaxI (w wr : World) (T : TypeId) (Z V : Array Value) : Prop where
 below : Below w.heap.size w wr
 h4 : Has wr w.heap.size T Z
 h5 : Has wr (w.heap.size + 1) T V
theorem MaxI.start (w : World) (T : TypeId) (Z V : Array Value) : MaxI w ((w.alloc (.cells Z T)).alloc (.cells V T)) T Z V := by
 refine ⟨((Below.refl w.heap.size w).alloc (Nat.le_refl _) _).alloc (by simp) _, (Has.fresh w T Z).past _, ?_⟩
 have q := Has.fresh (w.alloc (.cells Z T)) T V
 rw [World.size_alloc] at q
 exact q
theorem MaxI.drew {w wr : World} {T : TypeId} {Z V : Array Value} (h : MaxI w wr T Z V) : MaxI w wr.drew T Z V := ⟨h.below.drew, h.h4, h.h5⟩
theorem MaxI.low {w wr w2 : World} {T : TypeId} {Z V : Array Value} (h : MaxI w wr T Z V) (hb : Below wr.heap.size wr w2) : MaxI w w2 T Z V := ⟨h.below.trans (hb.mono h.below.size), h.h4.below hb, h.h5.below hb⟩
theorem MaxI.put {w wr w2 : World} {T : TypeId} {Z V Y : Array Value} (h : MaxI w wr T Z V) (hx : Has w2 (w.heap.size + 1) T Y) (hc : Chg (· = w.heap.size + 1) wr w2) : MaxI w w2 T Z Y := ⟨below_step h.below hc, h.h4.over hc (by omega), hx⟩
theorem MaxI.fin {w wr w2 : World} {T : TypeId} {Z V : Array Value} (h : MaxI w wr T Z V) (hc : Chg (· = w.heap.size) wr w2) : Below w.heap.size w w2 := below_step h.below hc (Nat.le_refl _)
theorem max_step {α ρ : Type} (lt : ρ → ρ → Bool) (reg : α → ρ) (x : α) (r : List α) (j : Nat) (hj : j < (x :: r).length) (h1 : 1 ≤ j) {v : α} (h : ((x :: r).take j).tail.foldl (fun m y => if lt (reg m) (reg y) = true then y else m) x = v) :
  (lt (reg v) (reg (x :: r)[j]) = true → ((x :: r).take (j + 1)).tail.foldl (fun m y => if lt (reg m) (reg y) = true then y else m) x = (x :: r)[j]) ∧ (¬ lt (reg v) (reg (x :: r)[j]) = true → ((x :: r).take (j + 1)).tail.foldl (fun m y => if lt (reg m) (reg y) = true then y else m) x = v) := by
 cases j with
 | zero => omega
 | succ i =>
  have hi : i < r.length := by simpa using hj
  have e : ((x :: r).take (i + 1 + 1)).tail = ((x :: r).take (i + 1)).tail ++ [r[i]] := by
   simp only [List.take_succ_cons, List.tail_cons]
   exact List.take_succ_eq_append_getElem hi
  rw [e, List.foldl_append, h]
  simp only [List.foldl_cons, List.foldl_nil, List.getElem_cons_succ]
  exact ⟨fun q => by rw [if_pos q], fun q => by rw [if_neg q]⟩
def zeroA : Array Value := #[.int .i64 0, .int .i64 0, .int .i64 0, .int .u64 0]
def zeroZ : Array Value := #[.int .i64 0, .int .i64 0, .int .i64 0]
theorem infoA : (Tryz.prog.info? 40).map (·.size) = some 4 := by kernel_rfl
theorem infoZ : (Tryz.prog.info? 42).map (·.size) = some 3 := by kernel_rfl
theorem allocA (w : World) : (Instr.alloc 40 true (.tuple #[])).run Tryz.prog w = .ok (.pointer (some ⟨w.heap.size, 0, none⟩)) (w.alloc (.cells zeroA 40)) := by
 have hz := Tryz.zeroValue40
 go_simp
 rfl
theorem allocZ (w : World) : (Instr.alloc 42 true (.tuple #[])).run Tryz.prog w = .ok (.pointer (some ⟨w.heap.size, 0, none⟩)) (w.alloc (.cells zeroZ 42)) := by
 have hz := Tryz.zeroValue42
 go_simp
 rfl
theorem allocP (w : World) : (Instr.alloc 74 true (.tuple #[])).run Tryz.prog w = .ok (.pointer (some ⟨w.heap.size, 0, none⟩)) (w.alloc (.cells zeroP 74)) := by
 have hz := Tryz.zeroValue74
 go_simp
 rfl
theorem allocX (w : World) : (Instr.alloc 77 true (.tuple #[])).run Tryz.prog w = .ok (.pointer (some ⟨w.heap.size, 0, none⟩)) (w.alloc (.cells zeroX 77)) := by
 have hz := Tryz.zeroValue77
 go_simp
 rfl
theorem allocL (w : World) : (Instr.alloc 51 true (.tuple #[])).run Tryz.prog w = .ok (.pointer (some ⟨w.heap.size, 0, none⟩)) (w.alloc (.cells zeroL 51)) := by
 have hz := Tryz.zeroValue51
 go_simp
 rfl
theorem allocN (w : World) : (Instr.alloc 46 true (.tuple #[])).run Tryz.prog w = .ok (.pointer (some ⟨w.heap.size, 0, none⟩)) (w.alloc (.cells zeroN 46)) := by
 have hz := Tryz.zeroValue46
 go_simp
 rfl

theorem oneA (x : St × (Int × Nat)) : (attrC x).all (·.oneCell') = true := by simp [attrC, Value.oneCell']
set_option maxRecDepth 100000 in
set_option maxHeartbeats 4000000 in
theorem maxA_any (A : Option Addr) (n c : Nat) (x : St × (Int × Nat)) (r : List (St × (Int × Nat))) (hn : n ≤ 9223372036854775807) (w : World) (h : Fc.SRow w 4 attrC A n (x :: r)) :
  Calls Tryz.prog 112 #[.slice A n c, .func (.func 76) #[] #[]] w fun e w' => e = .returned (.agg (attrC (r.foldl (fun m y => if ltA ((fun y => y) m) ((fun y => y) y) = true then y else m) x))) ∧ Below w.heap.size w w' := by
 have hlen := h.len
 have hn0 : 0 < n := by rw [← hlen]; exact Nat.succ_pos _
 obtain ⟨b, off, rfl, hbl, _, mr0⟩ := h.range hn0
 have mr1 : w.rangeAt b off (attrC x).toList := by rw [Nat.zero_mul, Nat.add_zero] at mr0; exact mr0
 have HR := Lib.hid h
 have HLN := Lib.hid hlen
 have hb1 := (Below.refl w.heap.size w).alloc (Nat.le_refl _) (.cells zeroA 40)
 have HB1 := Lib.hid hb1
 have MR0 := Lib.hid (Fc.row_range_below mr1 hb1 hbl)
 have HM0 := Lib.hid (MaxI.start w 40 zeroA (attrC x))
 have HBL0 := Lib.hid hbl
 clear mr0 mr1 hb1 h hlen
 have n1 : ¬ n < 1 := by omega
 go_enter Tryz.func112, Tryz.ntmps112
 go_wp2_with (first | ((with_reducible refine Who.wpList_alloc 40 4 rfl rfl rfl (zeroA) allocA ?_); (try simp only [World.size_alloc])) | ((with_reducible refine Who.wpList_loadC 40 (.tmp 12) rfl (b) off (attrC x) ?_); refine And.intro ⟨by rfl, by rfl, ⟨_, Tryz.underlying40, rfl⟩, infoA⟩ (And.intro (MR0.out) ?_)) | ((with_reducible refine Who.wpList_newC 40 5 (.tmp 13) rfl rfl rfl (zeroA) (attrC x) ?_); refine And.intro ⟨rfl, rfl, rfl, allocA, by rfl, by rfl, infoA, rfl, oneA _⟩ ?_; (try simp only [World.size_alloc])) | fail)
 go_loopw [6] (fun i wr => ∃ (j : Nat) (v : St × (Int × Nat)), i = .int .i64 j ∧ 1 ≤ j ∧ j ≤ n ∧ Hid (((x :: r).take j).tail.foldl (fun m y => if ltA ((fun y => y) m) ((fun y => y) y) = true then y else m) x = v) ∧ Hid (MaxI w wr 40 zeroA (attrC v))) (fun i _ => n - (intOf i).toNat)
 case atStart => exact ⟨1, x, rfl, Nat.le_refl _, hn0, Lib.hid rfl, HM0⟩
 case round =>
  clear HM0 MR0 HB1 n1
  obtain ⟨j, v, rfl, hj1, hj, HQ0, HM⟩ := hrel
  by_cases hlt : j < n
  ·obtain ⟨b', off', e, hbl2, hx, mr⟩ := (HR.out.below HM.out.below).range (i := j) hlt
   cases e
   have hst := max_step ltA (fun y => y) x r j (by rw [HLN.out]; exact hlt) hj1 HQ0.out
   obtain ⟨y, hy⟩ : ∃ y, y = (x :: r)[j] := ⟨_, rfl⟩
   rw [← hy] at mr hst
   have HST := Lib.hid hst
   have MR := Lib.hid mr
   have HBL := Lib.hid (Nat.lt_of_lt_of_le HBL0.out HM.out.below.size)
   have ho := fun V => attrs_any y v V
   have hzz := sgn_pos klt_A y v
   obtain ⟨z, hze⟩ : ∃ z, z = sgn ltA y v := ⟨_, rfl⟩
   rw [← hze] at hzz
   simp only [← hze] at ho
   have HO := Lib.hid ho
   have HZ := Lib.hid hzz
   have HXJ := Lib.hid (self_row (j := j) (n := n) hlt)
   clear hy mr hst ho hzz hze hx hbl2 HQ0
   go_wp2
   refine wp_region_held_drew (S := fun V => V.rangeAt b (off + j * 4) (attrC y).toList ∧ V.rangeAt (w.heap.size + 1) 0 (attrC v).toList) (by kernel_rfl) ⟨MR.out, Who.has_range HM.out.h5⟩ (fun hHeld => ?_)
   refine Vc.wpAnyH_rd (i := 0) (d := some 20) (v := ?v1) ?hy1 ?rest1
   case hy1 =>
    intro w hSw
    go_simp
    try with_reducible rfl
   refine Vc.wpAnyH_rd (i := 1) (d := some 21) (v := ?v2) ?hy2 ?rest2
   case hy2 =>
    intro w hSw
    go_simp
    try with_reducible rfl
   refine Vc.wpAnyH_rd (i := 2) (d := some 22) (v := ?v3) ?hy3 ?rest3
   case hy3 =>
    intro w hSw
    go_simp
    try with_reducible rfl
   refine Vc.wpAnyH_rd (i := 3) (d := some 23) (v := .pointer (some ⟨b, off + j * 4, none⟩)) ?hy4 ?rest4
   case hy4 =>
    intro w hSw
    go_simp
    all_goals first | (rw [if_pos HXJ.out.1, HXJ.out.2]) | (intro hh; exfalso; omega) | (intro hh; exfalso; have hh2 := hh (by omega); omega)
   refine Vc.wpAnyH_rd (i := 4) (d := some 24) (v := .agg (attrC y)) ?hy5 ?rest5
   case hy5 =>
    intro w hSw
    exact Who.exec_loadA _ rfl rfl hSw.1 Tryz.underlying40 rfl infoA
   refine Vc.wpAnyH_rd (i := 5) (d := some 25) (v := .agg (attrC v)) ?hy6 ?rest6
   case hy6 =>
    intro w hSw
    exact Who.exec_loadA _ rfl rfl hSw.2 Tryz.underlying40 rfl infoA
   refine wpAnyH_ready (rs := [6]) (by kernel_rfl) (by simp) ?_
   refine AllReadyH.cons rfl (fun K hK => ?_) AllReadyH.nil
   go_simp
   go_at_call 76
   refine (HO.out _).mono ?_
   rintro e w2 ⟨rfl, hg⟩
   have HM2 := Lib.hid (HM.out.drew.low hg.1)
   have MR2 := Lib.hid (Fc.row_range_below (w := wr.drew) MR.out hg.1 HBL.out)
   clear hg
   refine hK.out _ _ ⟨MR2.out, Who.has_range HM2.out.h5⟩ (fun hHeld => ?_)
   clear hK K
   by_cases hz : 0 < z
   ·refine Vc.wpAnyH_rd (i := 7) (d := some 27) (v := .bool true) ?hy7 ?rest7
    case hy7 =>
     intro w hSw
     go_simp
     all_goals first | rfl | (simp only [decide_eq_true_eq, decide_eq_false_iff_not]; omega)
    refine wpAnyH_done (by kernel_rfl) ?_ _
    have HQ := Lib.hid (HST.out.1 (HZ.out.1 hz))
    clear hz
    go_wp2_with (first | ((with_reducible refine Who.wpList_loadC 40 (.tmp 30) rfl (b) (off + j * 4) (attrC y) ?_); refine And.intro ⟨by rfl, by rfl, ⟨_, Tryz.underlying40, rfl⟩, infoA⟩ (And.intro (MR2.out) ?_)) | ((with_reducible refine wpList_storeG 40 (.tmp 5) (.tmp 31) rfl (w.heap.size + 1) (attrC v) (attrC y) ?_); refine And.intro ⟨rfl, by rfl, by rfl, infoA, oneA _, rfl, HM2.out.h5⟩ ?_; intro W5 HX5 HC5) | fail)
    have HM3 := Lib.hid (HM2.out.put HX5.out HC5.out)
    go_wp2
    go_roundw
    case rel => exact ⟨j + 1, y, by go_num, by omega, by omega, HQ, HM3⟩
    case measure => simp [intOf]; omega
   ·refine Vc.wpAnyH_rd (i := 7) (d := some 27) (v := .bool false) ?hy8 ?rest8
    case hy8 =>
     intro w hSw
     go_simp
     all_goals first | rfl | (simp only [decide_eq_true_eq, decide_eq_false_iff_not]; omega)
    refine wpAnyH_done (by kernel_rfl) ?_ _
    have HQ := Lib.hid (HST.out.2 (fun q => hz (HZ.out.2 q)))
    clear hz
    go_wp2
    go_roundw
    case rel => exact ⟨j + 1, v, by go_num, by omega, by omega, HQ, HM2⟩
    case measure => simp [intOf]; omega
  ·have HQ := Lib.hid (show r.foldl (fun m y => if ltA ((fun y => y) m) ((fun y => y) y) = true then y else m) x = v by
    have := HQ0.out
    rw [List.take_of_length_le (by rw [HLN.out]; omega)] at this
    exact this)
   clear HQ0
   go_wp2_with (first | ((with_reducible refine Who.wpList_loadC 40 (.tmp 5) rfl (w.heap.size + 1) 0 (attrC v) ?_); refine And.intro ⟨by rfl, by rfl, ⟨_, Tryz.underlying40, rfl⟩, infoA⟩ (And.intro (Who.has_range HM.out.h5) ?_)) | ((with_reducible refine wpList_storeG 40 (.tmp 4) (.tmp 32) rfl (w.heap.size) (zeroA) (attrC v) ?_); refine And.intro ⟨rfl, by rfl, by rfl, infoA, oneA _, rfl, HM.out.h4⟩ ?_; intro W5 HX5 HC5) | fail)
   have HBF := Lib.hid (HM.out.fin HC5.out)
   refine bodyPost_ret (v := .agg (attrC v)) (Who.results_cell (p := 4) (t := 40) rfl _ _ w.heap.size 0 (attrC v) _ (by rfl) (Who.has_range HX5.out) Tryz.underlying40 rfl infoA) rfl ?_
   exact ⟨by rw [HQ.out], HBF.out⟩
set_option maxRecDepth 100000 in
set_option maxHeartbeats 4000000 in
theorem lastA_any (A : Option Addr) (n c : Nat) (x : St × (Int × Nat)) (r : List (St × (Int × Nat))) (hn : n ≤ 9223372036854775807) (w : World) (h : Fc.SRow w 4 attrC A n (x :: r)) :
  Calls Tryz.prog 75 #[.func (.func 76) #[] #[], .slice A n c] w fun e w' => e = .returned (.agg (attrC (r.foldl (fun m y => if ltA ((fun y => y) m) ((fun y => y) y) = true then y else m) x))) ∧ Below w.heap.size w w' := by
 have hb1 := (Below.refl w.heap.size w).alloc (Nat.le_refl _) (.cells zeroA 40)
 have HB1 := Lib.hid hb1
 have HX1 := Lib.hid (Has.fresh w 40 zeroA)
 have HC := Lib.hid (maxA_any A n c x r hn _ (h.below hb1))
 clear h hb1
 obtain ⟨v, hv⟩ : ∃ v, v = r.foldl (fun m y => if ltA ((fun y => y) m) ((fun y => y) y) = true then y else m) x := ⟨_, rfl⟩
 rw [← hv] at HC ⊢
 clear hv
 go_enter Tryz.func75, Tryz.ntmps75
 go_wp2_with (first | ((with_reducible refine Who.wpList_alloc 40 4 rfl rfl rfl (zeroA) allocA ?_); (try simp only [World.size_alloc])) | fail)
 refine HC.out.mono ?_
 rintro e w2 ⟨rfl, hb⟩
 have HB2 := Lib.hid (HB1.out.trans (hb.mono HB1.out.size))
 have HX2 := Lib.hid (HX1.out.below hb)
 clear hb
 go_wp2_with (first | ((with_reducible refine wpList_storeG 40 (.tmp 4) (.tmp 7) rfl (w.heap.size) (zeroA) (attrC v) ?_); refine And.intro ⟨rfl, by rfl, by rfl, infoA, oneA _, rfl, HX2.out⟩ ?_; intro W5 HX5 HC5) | fail)
 have HBF := Lib.hid (below_step HB2.out HC5.out)
 refine bodyPost_ret (v := .agg (attrC v)) (Who.results_cell (p := 4) (t := 40) rfl _ _ w.heap.size 0 (attrC v) _ (by rfl) (Who.has_range HX5.out) Tryz.underlying40 rfl infoA) rfl ?_
 exact ⟨rfl, HBF.out⟩
theorem oneZ (x : St × Int) : (sizeC x).all (·.oneCell') = true := by simp [sizeC, Value.oneCell']
set_option maxRecDepth 100000 in
set_option maxHeartbeats 4000000 in
theorem maxZ_any (A : Option Addr) (n c : Nat) (x : St × Int) (r : List (St × Int)) (hn : n ≤ 9223372036854775807) (w : World) (h : Fc.SRow w 3 sizeC A n (x :: r)) :
  Calls Tryz.prog 116 #[.slice A n c, .func (.func 78) #[] #[]] w fun e w' => e = .returned (.agg (sizeC (r.foldl (fun m y => if ltZ ((fun y => y) m) ((fun y => y) y) = true then y else m) x))) ∧ Below w.heap.size w w' := by
 have hlen := h.len
 have hn0 : 0 < n := by rw [← hlen]; exact Nat.succ_pos _
 obtain ⟨b, off, rfl, hbl, _, mr0⟩ := h.range hn0
 have mr1 : w.rangeAt b off (sizeC x).toList := by rw [Nat.zero_mul, Nat.add_zero] at mr0; exact mr0
 have HR := Lib.hid h
 have HLN := Lib.hid hlen
 have hb1 := (Below.refl w.heap.size w).alloc (Nat.le_refl _) (.cells zeroZ 42)
 have HB1 := Lib.hid hb1
 have MR0 := Lib.hid (Fc.row_range_below mr1 hb1 hbl)
 have HM0 := Lib.hid (MaxI.start w 42 zeroZ (sizeC x))
 have HBL0 := Lib.hid hbl
 clear mr0 mr1 hb1 h hlen
 have n1 : ¬ n < 1 := by omega
 go_enter Tryz.func116, Tryz.ntmps116
 go_wp2_with (first | ((with_reducible refine Who.wpList_alloc 42 4 rfl rfl rfl (zeroZ) allocZ ?_); (try simp only [World.size_alloc])) | ((with_reducible refine Who.wpList_loadC 42 (.tmp 12) rfl (b) off (sizeC x) ?_); refine And.intro ⟨by rfl, by rfl, ⟨_, Tryz.underlying42, rfl⟩, infoZ⟩ (And.intro (MR0.out) ?_)) | ((with_reducible refine Who.wpList_newC 42 5 (.tmp 13) rfl rfl rfl (zeroZ) (sizeC x) ?_); refine And.intro ⟨rfl, rfl, rfl, allocZ, by rfl, by rfl, infoZ, rfl, oneZ _⟩ ?_; (try simp only [World.size_alloc])) | fail)
 go_loopw [6] (fun i wr => ∃ (j : Nat) (v : St × Int), i = .int .i64 j ∧ 1 ≤ j ∧ j ≤ n ∧ Hid (((x :: r).take j).tail.foldl (fun m y => if ltZ ((fun y => y) m) ((fun y => y) y) = true then y else m) x = v) ∧ Hid (MaxI w wr 42 zeroZ (sizeC v))) (fun i _ => n - (intOf i).toNat)
 case atStart => exact ⟨1, x, rfl, Nat.le_refl _, hn0, Lib.hid rfl, HM0⟩
 case round =>
  clear HM0 MR0 HB1 n1
  obtain ⟨j, v, rfl, hj1, hj, HQ0, HM⟩ := hrel
  by_cases hlt : j < n
  ·obtain ⟨b', off', e, hbl2, hx, mr⟩ := (HR.out.below HM.out.below).range (i := j) hlt
   cases e
   have hst := max_step ltZ (fun y => y) x r j (by rw [HLN.out]; exact hlt) hj1 HQ0.out
   obtain ⟨y, hy⟩ : ∃ y, y = (x :: r)[j] := ⟨_, rfl⟩
   rw [← hy] at mr hst
   have HST := Lib.hid hst
   have MR := Lib.hid mr
   have HBL := Lib.hid (Nat.lt_of_lt_of_le HBL0.out HM.out.below.size)
   have ho := fun V => sizes_any y v V
   have hzz := sgn_pos klt_Z y v
   obtain ⟨z, hze⟩ : ∃ z, z = sgn ltZ y v := ⟨_, rfl⟩
   rw [← hze] at hzz
   simp only [← hze] at ho
   have HO := Lib.hid ho
   have HZ := Lib.hid hzz
   have HXJ := Lib.hid (self_row (j := j) (n := n) hlt)
   clear hy mr hst ho hzz hze hx hbl2 HQ0
   go_wp2
   refine wp_region_held_drew (S := fun V => V.rangeAt b (off + j * 3) (sizeC y).toList ∧ V.rangeAt (w.heap.size + 1) 0 (sizeC v).toList) (by kernel_rfl) ⟨MR.out, Who.has_range HM.out.h5⟩ (fun hHeld => ?_)
   refine Vc.wpAnyH_rd (i := 0) (d := some 20) (v := ?v9) ?hy9 ?rest9
   case hy9 =>
    intro w hSw
    go_simp
    try with_reducible rfl
   refine Vc.wpAnyH_rd (i := 1) (d := some 21) (v := ?v10) ?hy10 ?rest10
   case hy10 =>
    intro w hSw
    go_simp
    try with_reducible rfl
   refine Vc.wpAnyH_rd (i := 2) (d := some 22) (v := ?v11) ?hy11 ?rest11
   case hy11 =>
    intro w hSw
    go_simp
    try with_reducible rfl
   refine Vc.wpAnyH_rd (i := 3) (d := some 23) (v := .pointer (some ⟨b, off + j * 3, none⟩)) ?hy12 ?rest12
   case hy12 =>
    intro w hSw
    go_simp
    all_goals first | (rw [if_pos HXJ.out.1, HXJ.out.2]) | (intro hh; exfalso; omega) | (intro hh; exfalso; have hh2 := hh (by omega); omega)
   refine Vc.wpAnyH_rd (i := 4) (d := some 24) (v := .agg (sizeC y)) ?hy13 ?rest13
   case hy13 =>
    intro w hSw
    exact Who.exec_loadA _ rfl rfl hSw.1 Tryz.underlying42 rfl infoZ
   refine Vc.wpAnyH_rd (i := 5) (d := some 25) (v := .agg (sizeC v)) ?hy14 ?rest14
   case hy14 =>
    intro w hSw
    exact Who.exec_loadA _ rfl rfl hSw.2 Tryz.underlying42 rfl infoZ
   refine wpAnyH_ready (rs := [6]) (by kernel_rfl) (by simp) ?_
   refine AllReadyH.cons rfl (fun K hK => ?_) AllReadyH.nil
   go_simp
   go_at_call 78
   refine (HO.out _).mono ?_
   rintro e w2 ⟨rfl, hg⟩
   have HM2 := Lib.hid (HM.out.drew.low hg.1)
   have MR2 := Lib.hid (Fc.row_range_below (w := wr.drew) MR.out hg.1 HBL.out)
   clear hg
   refine hK.out _ _ ⟨MR2.out, Who.has_range HM2.out.h5⟩ (fun hHeld => ?_)
   clear hK K
   by_cases hz : 0 < z
   ·refine Vc.wpAnyH_rd (i := 7) (d := some 27) (v := .bool true) ?hy15 ?rest15
    case hy15 =>
     intro w hSw
     go_simp
     all_goals first | rfl | (simp only [decide_eq_true_eq, decide_eq_false_iff_not]; omega)
    refine wpAnyH_done (by kernel_rfl) ?_ _
    have HQ := Lib.hid (HST.out.1 (HZ.out.1 hz))
    clear hz
    go_wp2_with (first | ((with_reducible refine Who.wpList_loadC 42 (.tmp 30) rfl (b) (off + j * 3) (sizeC y) ?_); refine And.intro ⟨by rfl, by rfl, ⟨_, Tryz.underlying42, rfl⟩, infoZ⟩ (And.intro (MR2.out) ?_)) | ((with_reducible refine wpList_storeG 42 (.tmp 5) (.tmp 31) rfl (w.heap.size + 1) (sizeC v) (sizeC y) ?_); refine And.intro ⟨rfl, by rfl, by rfl, infoZ, oneZ _, rfl, HM2.out.h5⟩ ?_; intro W5 HX5 HC5) | fail)
    have HM3 := Lib.hid (HM2.out.put HX5.out HC5.out)
    go_wp2
    go_roundw
    case rel => exact ⟨j + 1, y, by go_num, by omega, by omega, HQ, HM3⟩
    case measure => simp [intOf]; omega
   ·refine Vc.wpAnyH_rd (i := 7) (d := some 27) (v := .bool false) ?hy16 ?rest16
    case hy16 =>
     intro w hSw
     go_simp
     all_goals first | rfl | (simp only [decide_eq_true_eq, decide_eq_false_iff_not]; omega)
    refine wpAnyH_done (by kernel_rfl) ?_ _
    have HQ := Lib.hid (HST.out.2 (fun q => hz (HZ.out.2 q)))
    clear hz
    go_wp2
    go_roundw
    case rel => exact ⟨j + 1, v, by go_num, by omega, by omega, HQ, HM2⟩
    case measure => simp [intOf]; omega
  ·have HQ := Lib.hid (show r.foldl (fun m y => if ltZ ((fun y => y) m) ((fun y => y) y) = true then y else m) x = v by
    have := HQ0.out
    rw [List.take_of_length_le (by rw [HLN.out]; omega)] at this
    exact this)
   clear HQ0
   go_wp2_with (first | ((with_reducible refine Who.wpList_loadC 42 (.tmp 5) rfl (w.heap.size + 1) 0 (sizeC v) ?_); refine And.intro ⟨by rfl, by rfl, ⟨_, Tryz.underlying42, rfl⟩, infoZ⟩ (And.intro (Who.has_range HM.out.h5) ?_)) | ((with_reducible refine wpList_storeG 42 (.tmp 4) (.tmp 32) rfl (w.heap.size) (zeroZ) (sizeC v) ?_); refine And.intro ⟨rfl, by rfl, by rfl, infoZ, oneZ _, rfl, HM.out.h4⟩ ?_; intro W5 HX5 HC5) | fail)
   have HBF := Lib.hid (HM.out.fin HC5.out)
   refine bodyPost_ret (v := .agg (sizeC v)) (Who.results_cell (p := 4) (t := 42) rfl _ _ w.heap.size 0 (sizeC v) _ (by rfl) (Who.has_range HX5.out) Tryz.underlying42 rfl infoZ) rfl ?_
   exact ⟨by rw [HQ.out], HBF.out⟩
set_option maxRecDepth 100000 in
set_option maxHeartbeats 4000000 in
theorem lastZ_any (A : Option Addr) (n c : Nat) (x : St × Int) (r : List (St × Int)) (hn : n ≤ 9223372036854775807) (w : World) (h : Fc.SRow w 3 sizeC A n (x :: r)) :
  Calls Tryz.prog 77 #[.func (.func 78) #[] #[], .slice A n c] w fun e w' => e = .returned (.agg (sizeC (r.foldl (fun m y => if ltZ ((fun y => y) m) ((fun y => y) y) = true then y else m) x))) ∧ Below w.heap.size w w' := by
 have hb1 := (Below.refl w.heap.size w).alloc (Nat.le_refl _) (.cells zeroZ 42)
 have HB1 := Lib.hid hb1
 have HX1 := Lib.hid (Has.fresh w 42 zeroZ)
 have HC := Lib.hid (maxZ_any A n c x r hn _ (h.below hb1))
 clear h hb1
 obtain ⟨v, hv⟩ : ∃ v, v = r.foldl (fun m y => if ltZ ((fun y => y) m) ((fun y => y) y) = true then y else m) x := ⟨_, rfl⟩
 rw [← hv] at HC ⊢
 clear hv
 go_enter Tryz.func77, Tryz.ntmps77
 go_wp2_with (first | ((with_reducible refine Who.wpList_alloc 42 4 rfl rfl rfl (zeroZ) allocZ ?_); (try simp only [World.size_alloc])) | fail)
 refine HC.out.mono ?_
 rintro e w2 ⟨rfl, hb⟩
 have HB2 := Lib.hid (HB1.out.trans (hb.mono HB1.out.size))
 have HX2 := Lib.hid (HX1.out.below hb)
 clear hb
 go_wp2_with (first | ((with_reducible refine wpList_storeG 42 (.tmp 4) (.tmp 7) rfl (w.heap.size) (zeroZ) (sizeC v) ?_); refine And.intro ⟨rfl, by rfl, by rfl, infoZ, oneZ _, rfl, HX2.out⟩ ?_; intro W5 HX5 HC5) | fail)
 have HBF := Lib.hid (below_step HB2.out HC5.out)
 refine bodyPost_ret (v := .agg (sizeC v)) (Who.results_cell (p := 4) (t := 42) rfl _ _ w.heap.size 0 (sizeC v) _ (by rfl) (Who.has_range HX5.out) Tryz.underlying42 rfl infoZ) rfl ?_
 exact ⟨rfl, HBF.out⟩
theorem oneP (x : Fc.PieceP) : (Fc.pieceC x).all (·.oneCell') = true := by simp [Fc.pieceC, Value.oneCell']
set_option maxRecDepth 100000 in
set_option maxHeartbeats 4000000 in
theorem maxP_any (A : Option Addr) (n c : Nat) (x : Fc.PieceP) (r : List (Fc.PieceP)) (hn : n ≤ 9223372036854775807) (w : World) (h : Fc.SRow w 4 Fc.pieceC A n (x :: r)) :
  Calls Tryz.prog 119 #[.slice A n c, .func (.func 83) #[] #[]] w fun e w' => e = .returned (.agg (Fc.pieceC (r.foldl (fun m y => if ltP (regP m) (regP y) = true then y else m) x))) ∧ Below w.heap.size w w' := by
 have hlen := h.len
 have hn0 : 0 < n := by rw [← hlen]; exact Nat.succ_pos _
 obtain ⟨b, off, rfl, hbl, _, mr0⟩ := h.range hn0
 have mr1 : w.rangeAt b off (Fc.pieceC x).toList := by rw [Nat.zero_mul, Nat.add_zero] at mr0; exact mr0
 have HR := Lib.hid h
 have HLN := Lib.hid hlen
 have hb1 := (Below.refl w.heap.size w).alloc (Nat.le_refl _) (.cells zeroP 74)
 have HB1 := Lib.hid hb1
 have MR0 := Lib.hid (Fc.row_range_below mr1 hb1 hbl)
 have HM0 := Lib.hid (MaxI.start w 74 zeroP (Fc.pieceC x))
 have HBL0 := Lib.hid hbl
 clear mr0 mr1 hb1 h hlen
 have n1 : ¬ n < 1 := by omega
 go_enter Tryz.func119, Tryz.ntmps119
 go_wp2_with (first | ((with_reducible refine Who.wpList_alloc 74 4 rfl rfl rfl (zeroP) allocP ?_); (try simp only [World.size_alloc])) | ((with_reducible refine Who.wpList_loadC 74 (.tmp 12) rfl (b) off (Fc.pieceC x) ?_); refine And.intro ⟨by rfl, by rfl, ⟨_, Tryz.underlying74, rfl⟩, infoP⟩ (And.intro (MR0.out) ?_)) | ((with_reducible refine Who.wpList_newC 74 5 (.tmp 13) rfl rfl rfl (zeroP) (Fc.pieceC x) ?_); refine And.intro ⟨rfl, rfl, rfl, allocP, by rfl, by rfl, infoP, rfl, oneP _⟩ ?_; (try simp only [World.size_alloc])) | fail)
 go_loopw [6] (fun i wr => ∃ (j : Nat) (v : Fc.PieceP), i = .int .i64 j ∧ 1 ≤ j ∧ j ≤ n ∧ Hid (((x :: r).take j).tail.foldl (fun m y => if ltP (regP m) (regP y) = true then y else m) x = v) ∧ Hid (MaxI w wr 74 zeroP (Fc.pieceC v))) (fun i _ => n - (intOf i).toNat)
 case atStart => exact ⟨1, x, rfl, Nat.le_refl _, hn0, Lib.hid rfl, HM0⟩
 case round =>
  clear HM0 MR0 HB1 n1
  obtain ⟨j, v, rfl, hj1, hj, HQ0, HM⟩ := hrel
  by_cases hlt : j < n
  ·obtain ⟨b', off', e, hbl2, hx, mr⟩ := (HR.out.below HM.out.below).range (i := j) hlt
   cases e
   have hst := max_step ltP regP x r j (by rw [HLN.out]; exact hlt) hj1 HQ0.out
   obtain ⟨y, hy⟩ : ∃ y, y = (x :: r)[j] := ⟨_, rfl⟩
   rw [← hy] at mr hst
   have HST := Lib.hid hst
   have MR := Lib.hid mr
   have HBL := Lib.hid (Nat.lt_of_lt_of_le HBL0.out HM.out.below.size)
   have ho := fun V => pieceOrder_any y v V
   have hzz := sgn_pos klt_P (regP y) (regP v)
   obtain ⟨z, hze⟩ : ∃ z, z = sgn ltP (regP y) (regP v) := ⟨_, rfl⟩
   rw [← hze] at hzz
   simp only [← hze] at ho
   have HO := Lib.hid ho
   have HZ := Lib.hid hzz
   have HXJ := Lib.hid (self_row (j := j) (n := n) hlt)
   clear hy mr hst ho hzz hze hx hbl2 HQ0
   go_wp2
   refine wp_region_held_drew (S := fun V => V.rangeAt b (off + j * 4) (Fc.pieceC y).toList ∧ V.rangeAt (w.heap.size + 1) 0 (Fc.pieceC v).toList) (by kernel_rfl) ⟨MR.out, Who.has_range HM.out.h5⟩ (fun hHeld => ?_)
   refine Vc.wpAnyH_rd (i := 0) (d := some 20) (v := ?v17) ?hy17 ?rest17
   case hy17 =>
    intro w hSw
    go_simp
    try with_reducible rfl
   refine Vc.wpAnyH_rd (i := 1) (d := some 21) (v := ?v18) ?hy18 ?rest18
   case hy18 =>
    intro w hSw
    go_simp
    try with_reducible rfl
   refine Vc.wpAnyH_rd (i := 2) (d := some 22) (v := ?v19) ?hy19 ?rest19
   case hy19 =>
    intro w hSw
    go_simp
    try with_reducible rfl
   refine Vc.wpAnyH_rd (i := 3) (d := some 23) (v := .pointer (some ⟨b, off + j * 4, none⟩)) ?hy20 ?rest20
   case hy20 =>
    intro w hSw
    go_simp
    all_goals first | (rw [if_pos HXJ.out.1, HXJ.out.2]) | (intro hh; exfalso; omega) | (intro hh; exfalso; have hh2 := hh (by omega); omega)
   refine Vc.wpAnyH_rd (i := 4) (d := some 24) (v := .agg (Fc.pieceC y)) ?hy21 ?rest21
   case hy21 =>
    intro w hSw
    exact Who.exec_loadA _ rfl rfl hSw.1 Tryz.underlying74 rfl infoP
   refine Vc.wpAnyH_rd (i := 5) (d := some 25) (v := .agg (Fc.pieceC v)) ?hy22 ?rest22
   case hy22 =>
    intro w hSw
    exact Who.exec_loadA _ rfl rfl hSw.2 Tryz.underlying74 rfl infoP
   refine wpAnyH_ready (rs := [6]) (by kernel_rfl) (by simp) ?_
   refine AllReadyH.cons rfl (fun K hK => ?_) AllReadyH.nil
   go_simp
   go_at_call 83
   refine (HO.out _).mono ?_
   rintro e w2 ⟨rfl, hg⟩
   have HM2 := Lib.hid (HM.out.drew.low hg.1)
   have MR2 := Lib.hid (Fc.row_range_below (w := wr.drew) MR.out hg.1 HBL.out)
   clear hg
   refine hK.out _ _ ⟨MR2.out, Who.has_range HM2.out.h5⟩ (fun hHeld => ?_)
   clear hK K
   by_cases hz : 0 < z
   ·refine Vc.wpAnyH_rd (i := 7) (d := some 27) (v := .bool true) ?hy23 ?rest23
    case hy23 =>
     intro w hSw
     go_simp
     all_goals first | rfl | (simp only [decide_eq_true_eq, decide_eq_false_iff_not]; omega)
    refine wpAnyH_done (by kernel_rfl) ?_ _
    have HQ := Lib.hid (HST.out.1 (HZ.out.1 hz))
    clear hz
    go_wp2_with (first | ((with_reducible refine Who.wpList_loadC 74 (.tmp 30) rfl (b) (off + j * 4) (Fc.pieceC y) ?_); refine And.intro ⟨by rfl, by rfl, ⟨_, Tryz.underlying74, rfl⟩, infoP⟩ (And.intro (MR2.out) ?_)) | ((with_reducible refine wpList_storeG 74 (.tmp 5) (.tmp 31) rfl (w.heap.size + 1) (Fc.pieceC v) (Fc.pieceC y) ?_); refine And.intro ⟨rfl, by rfl, by rfl, infoP, oneP _, rfl, HM2.out.h5⟩ ?_; intro W5 HX5 HC5) | fail)
    have HM3 := Lib.hid (HM2.out.put HX5.out HC5.out)
    go_wp2
    go_roundw
    case rel => exact ⟨j + 1, y, by go_num, by omega, by omega, HQ, HM3⟩
    case measure => simp [intOf]; omega
   ·refine Vc.wpAnyH_rd (i := 7) (d := some 27) (v := .bool false) ?hy24 ?rest24
    case hy24 =>
     intro w hSw
     go_simp
     all_goals first | rfl | (simp only [decide_eq_true_eq, decide_eq_false_iff_not]; omega)
    refine wpAnyH_done (by kernel_rfl) ?_ _
    have HQ := Lib.hid (HST.out.2 (fun q => hz (HZ.out.2 q)))
    clear hz
    go_wp2
    go_roundw
    case rel => exact ⟨j + 1, v, by go_num, by omega, by omega, HQ, HM2⟩
    case measure => simp [intOf]; omega
  ·have HQ := Lib.hid (show r.foldl (fun m y => if ltP (regP m) (regP y) = true then y else m) x = v by
    have := HQ0.out
    rw [List.take_of_length_le (by rw [HLN.out]; omega)] at this
    exact this)
   clear HQ0
   go_wp2_with (first | ((with_reducible refine Who.wpList_loadC 74 (.tmp 5) rfl (w.heap.size + 1) 0 (Fc.pieceC v) ?_); refine And.intro ⟨by rfl, by rfl, ⟨_, Tryz.underlying74, rfl⟩, infoP⟩ (And.intro (Who.has_range HM.out.h5) ?_)) | ((with_reducible refine wpList_storeG 74 (.tmp 4) (.tmp 32) rfl (w.heap.size) (zeroP) (Fc.pieceC v) ?_); refine And.intro ⟨rfl, by rfl, by rfl, infoP, oneP _, rfl, HM.out.h4⟩ ?_; intro W5 HX5 HC5) | fail)
   have HBF := Lib.hid (HM.out.fin HC5.out)
   refine bodyPost_ret (v := .agg (Fc.pieceC v)) (Who.results_cell (p := 4) (t := 74) rfl _ _ w.heap.size 0 (Fc.pieceC v) _ (by rfl) (Who.has_range HX5.out) Tryz.underlying74 rfl infoP) rfl ?_
   exact ⟨by rw [HQ.out], HBF.out⟩
set_option maxRecDepth 100000 in
set_option maxHeartbeats 4000000 in
theorem lastP_any (A : Option Addr) (n c : Nat) (x : Fc.PieceP) (r : List (Fc.PieceP)) (hn : n ≤ 9223372036854775807) (w : World) (h : Fc.SRow w 4 Fc.pieceC A n (x :: r)) :
  Calls Tryz.prog 82 #[.func (.func 83) #[] #[], .slice A n c] w fun e w' => e = .returned (.agg (Fc.pieceC (r.foldl (fun m y => if ltP (regP m) (regP y) = true then y else m) x))) ∧ Below w.heap.size w w' := by
 have hb1 := (Below.refl w.heap.size w).alloc (Nat.le_refl _) (.cells zeroP 74)
 have HB1 := Lib.hid hb1
 have HX1 := Lib.hid (Has.fresh w 74 zeroP)
 have HC := Lib.hid (maxP_any A n c x r hn _ (h.below hb1))
 clear h hb1
 obtain ⟨v, hv⟩ : ∃ v, v = r.foldl (fun m y => if ltP (regP m) (regP y) = true then y else m) x := ⟨_, rfl⟩
 rw [← hv] at HC ⊢
 clear hv
 go_enter Tryz.func82, Tryz.ntmps82
 go_wp2_with (first | ((with_reducible refine Who.wpList_alloc 74 4 rfl rfl rfl (zeroP) allocP ?_); (try simp only [World.size_alloc])) | fail)
 refine HC.out.mono ?_
 rintro e w2 ⟨rfl, hb⟩
 have HB2 := Lib.hid (HB1.out.trans (hb.mono HB1.out.size))
 have HX2 := Lib.hid (HX1.out.below hb)
 clear hb
 go_wp2_with (first | ((with_reducible refine wpList_storeG 74 (.tmp 4) (.tmp 7) rfl (w.heap.size) (zeroP) (Fc.pieceC v) ?_); refine And.intro ⟨rfl, by rfl, by rfl, infoP, oneP _, rfl, HX2.out⟩ ?_; intro W5 HX5 HC5) | fail)
 have HBF := Lib.hid (below_step HB2.out HC5.out)
 refine bodyPost_ret (v := .agg (Fc.pieceC v)) (Who.results_cell (p := 4) (t := 74) rfl _ _ w.heap.size 0 (Fc.pieceC v) _ (by rfl) (Who.has_range HX5.out) Tryz.underlying74 rfl infoP) rfl ?_
 exact ⟨rfl, HBF.out⟩
theorem oneX (x : Fc.XattrP) : (Fc.xattrC x).all (·.oneCell') = true := by simp [Fc.xattrC, Value.oneCell']
set_option maxRecDepth 100000 in
set_option maxHeartbeats 4000000 in
theorem maxX_any (A : Option Addr) (n c : Nat) (x : Fc.XattrP) (r : List (Fc.XattrP)) (hn : n ≤ 9223372036854775807) (w : World) (h : Fc.SRow w 5 Fc.xattrC A n (x :: r)) :
  Calls Tryz.prog 123 #[.slice A n c, .func (.func 88) #[] #[]] w fun e w' => e = .returned (.agg (Fc.xattrC (r.foldl (fun m y => if ltX (regX m) (regX y) = true then y else m) x))) ∧ Below w.heap.size w w' := by
 have hlen := h.len
 have hn0 : 0 < n := by rw [← hlen]; exact Nat.succ_pos _
 obtain ⟨b, off, rfl, hbl, _, mr0⟩ := h.range hn0
 have mr1 : w.rangeAt b off (Fc.xattrC x).toList := by rw [Nat.zero_mul, Nat.add_zero] at mr0; exact mr0
 have HR := Lib.hid h
 have HLN := Lib.hid hlen
 have hb1 := (Below.refl w.heap.size w).alloc (Nat.le_refl _) (.cells zeroX 77)
 have HB1 := Lib.hid hb1
 have MR0 := Lib.hid (Fc.row_range_below mr1 hb1 hbl)
 have HM0 := Lib.hid (MaxI.start w 77 zeroX (Fc.xattrC x))
 have HBL0 := Lib.hid hbl
 clear mr0 mr1 hb1 h hlen
 have n1 : ¬ n < 1 := by omega
 go_enter Tryz.func123, Tryz.ntmps123
 go_wp2_with (first | ((with_reducible refine Who.wpList_alloc 77 4 rfl rfl rfl (zeroX) allocX ?_); (try simp only [World.size_alloc])) | ((with_reducible refine Who.wpList_loadC 77 (.tmp 12) rfl (b) off (Fc.xattrC x) ?_); refine And.intro ⟨by rfl, by rfl, ⟨_, Tryz.underlying77, rfl⟩, infoX⟩ (And.intro (MR0.out) ?_)) | ((with_reducible refine Who.wpList_newC 77 5 (.tmp 13) rfl rfl rfl (zeroX) (Fc.xattrC x) ?_); refine And.intro ⟨rfl, rfl, rfl, allocX, by rfl, by rfl, infoX, rfl, oneX _⟩ ?_; (try simp only [World.size_alloc])) | fail)
 go_loopw [6] (fun i wr => ∃ (j : Nat) (v : Fc.XattrP), i = .int .i64 j ∧ 1 ≤ j ∧ j ≤ n ∧ Hid (((x :: r).take j).tail.foldl (fun m y => if ltX (regX m) (regX y) = true then y else m) x = v) ∧ Hid (MaxI w wr 77 zeroX (Fc.xattrC v))) (fun i _ => n - (intOf i).toNat)
 case atStart => exact ⟨1, x, rfl, Nat.le_refl _, hn0, Lib.hid rfl, HM0⟩
 case round =>
  clear HM0 MR0 HB1 n1
  obtain ⟨j, v, rfl, hj1, hj, HQ0, HM⟩ := hrel
  by_cases hlt : j < n
  ·obtain ⟨b', off', e, hbl2, hx, mr⟩ := (HR.out.below HM.out.below).range (i := j) hlt
   cases e
   have hst := max_step ltX regX x r j (by rw [HLN.out]; exact hlt) hj1 HQ0.out
   obtain ⟨y, hy⟩ : ∃ y, y = (x :: r)[j] := ⟨_, rfl⟩
   rw [← hy] at mr hst
   have HST := Lib.hid hst
   have MR := Lib.hid mr
   have HBL := Lib.hid (Nat.lt_of_lt_of_le HBL0.out HM.out.below.size)
   have ho := fun V => xattrOrder_any y v V
   have hzz := sgn_pos klt_X (regX y) (regX v)
   obtain ⟨z, hze⟩ : ∃ z, z = sgn ltX (regX y) (regX v) := ⟨_, rfl⟩
   rw [← hze] at hzz
   simp only [← hze] at ho
   have HO := Lib.hid ho
   have HZ := Lib.hid hzz
   have HXJ := Lib.hid (self_row (j := j) (n := n) hlt)
   clear hy mr hst ho hzz hze hx hbl2 HQ0
   go_wp2
   refine wp_region_held_drew (S := fun V => V.rangeAt b (off + j * 5) (Fc.xattrC y).toList ∧ V.rangeAt (w.heap.size + 1) 0 (Fc.xattrC v).toList) (by kernel_rfl) ⟨MR.out, Who.has_range HM.out.h5⟩ (fun hHeld => ?_)
   refine Vc.wpAnyH_rd (i := 0) (d := some 20) (v := ?v25) ?hy25 ?rest25
   case hy25 =>
    intro w hSw
    go_simp
    try with_reducible rfl
   refine Vc.wpAnyH_rd (i := 1) (d := some 21) (v := ?v26) ?hy26 ?rest26
   case hy26 =>
    intro w hSw
    go_simp
    try with_reducible rfl
   refine Vc.wpAnyH_rd (i := 2) (d := some 22) (v := ?v27) ?hy27 ?rest27
   case hy27 =>
    intro w hSw
    go_simp
    try with_reducible rfl
   refine Vc.wpAnyH_rd (i := 3) (d := some 23) (v := .pointer (some ⟨b, off + j * 5, none⟩)) ?hy28 ?rest28
   case hy28 =>
    intro w hSw
    go_simp
    all_goals first | (rw [if_pos HXJ.out.1, HXJ.out.2]) | (intro hh; exfalso; omega) | (intro hh; exfalso; have hh2 := hh (by omega); omega)
   refine Vc.wpAnyH_rd (i := 4) (d := some 24) (v := .agg (Fc.xattrC y)) ?hy29 ?rest29
   case hy29 =>
    intro w hSw
    exact Who.exec_loadA _ rfl rfl hSw.1 Tryz.underlying77 rfl infoX
   refine Vc.wpAnyH_rd (i := 5) (d := some 25) (v := .agg (Fc.xattrC v)) ?hy30 ?rest30
   case hy30 =>
    intro w hSw
    exact Who.exec_loadA _ rfl rfl hSw.2 Tryz.underlying77 rfl infoX
   refine wpAnyH_ready (rs := [6]) (by kernel_rfl) (by simp) ?_
   refine AllReadyH.cons rfl (fun K hK => ?_) AllReadyH.nil
   go_simp
   go_at_call 88
   refine (HO.out _).mono ?_
   rintro e w2 ⟨rfl, hg⟩
   have HM2 := Lib.hid (HM.out.drew.low hg.1)
   have MR2 := Lib.hid (Fc.row_range_below (w := wr.drew) MR.out hg.1 HBL.out)
   clear hg
   refine hK.out _ _ ⟨MR2.out, Who.has_range HM2.out.h5⟩ (fun hHeld => ?_)
   clear hK K
   by_cases hz : 0 < z
   ·refine Vc.wpAnyH_rd (i := 7) (d := some 27) (v := .bool true) ?hy31 ?rest31
    case hy31 =>
     intro w hSw
     go_simp
     all_goals first | rfl | (simp only [decide_eq_true_eq, decide_eq_false_iff_not]; omega)
    refine wpAnyH_done (by kernel_rfl) ?_ _
    have HQ := Lib.hid (HST.out.1 (HZ.out.1 hz))
    clear hz
    go_wp2_with (first | ((with_reducible refine Who.wpList_loadC 77 (.tmp 30) rfl (b) (off + j * 5) (Fc.xattrC y) ?_); refine And.intro ⟨by rfl, by rfl, ⟨_, Tryz.underlying77, rfl⟩, infoX⟩ (And.intro (MR2.out) ?_)) | ((with_reducible refine wpList_storeG 77 (.tmp 5) (.tmp 31) rfl (w.heap.size + 1) (Fc.xattrC v) (Fc.xattrC y) ?_); refine And.intro ⟨rfl, by rfl, by rfl, infoX, oneX _, rfl, HM2.out.h5⟩ ?_; intro W5 HX5 HC5) | fail)
    have HM3 := Lib.hid (HM2.out.put HX5.out HC5.out)
    go_wp2
    go_roundw
    case rel => exact ⟨j + 1, y, by go_num, by omega, by omega, HQ, HM3⟩
    case measure => simp [intOf]; omega
   ·refine Vc.wpAnyH_rd (i := 7) (d := some 27) (v := .bool false) ?hy32 ?rest32
    case hy32 =>
     intro w hSw
     go_simp
     all_goals first | rfl | (simp only [decide_eq_true_eq, decide_eq_false_iff_not]; omega)
    refine wpAnyH_done (by kernel_rfl) ?_ _
    have HQ := Lib.hid (HST.out.2 (fun q => hz (HZ.out.2 q)))
    clear hz
    go_wp2
    go_roundw
    case rel => exact ⟨j + 1, v, by go_num, by omega, by omega, HQ, HM2⟩
    case measure => simp [intOf]; omega
  ·have HQ := Lib.hid (show r.foldl (fun m y => if ltX (regX m) (regX y) = true then y else m) x = v by
    have := HQ0.out
    rw [List.take_of_length_le (by rw [HLN.out]; omega)] at this
    exact this)
   clear HQ0
   go_wp2_with (first | ((with_reducible refine Who.wpList_loadC 77 (.tmp 5) rfl (w.heap.size + 1) 0 (Fc.xattrC v) ?_); refine And.intro ⟨by rfl, by rfl, ⟨_, Tryz.underlying77, rfl⟩, infoX⟩ (And.intro (Who.has_range HM.out.h5) ?_)) | ((with_reducible refine wpList_storeG 77 (.tmp 4) (.tmp 32) rfl (w.heap.size) (zeroX) (Fc.xattrC v) ?_); refine And.intro ⟨rfl, by rfl, by rfl, infoX, oneX _, rfl, HM.out.h4⟩ ?_; intro W5 HX5 HC5) | fail)
   have HBF := Lib.hid (HM.out.fin HC5.out)
   refine bodyPost_ret (v := .agg (Fc.xattrC v)) (Who.results_cell (p := 4) (t := 77) rfl _ _ w.heap.size 0 (Fc.xattrC v) _ (by rfl) (Who.has_range HX5.out) Tryz.underlying77 rfl infoX) rfl ?_
   exact ⟨by rw [HQ.out], HBF.out⟩
set_option maxRecDepth 100000 in
set_option maxHeartbeats 4000000 in
theorem lastX_any (A : Option Addr) (n c : Nat) (x : Fc.XattrP) (r : List (Fc.XattrP)) (hn : n ≤ 9223372036854775807) (w : World) (h : Fc.SRow w 5 Fc.xattrC A n (x :: r)) :
  Calls Tryz.prog 87 #[.func (.func 88) #[] #[], .slice A n c] w fun e w' => e = .returned (.agg (Fc.xattrC (r.foldl (fun m y => if ltX (regX m) (regX y) = true then y else m) x))) ∧ Below w.heap.size w w' := by
 have hb1 := (Below.refl w.heap.size w).alloc (Nat.le_refl _) (.cells zeroX 77)
 have HB1 := Lib.hid hb1
 have HX1 := Lib.hid (Has.fresh w 77 zeroX)
 have HC := Lib.hid (maxX_any A n c x r hn _ (h.below hb1))
 clear h hb1
 obtain ⟨v, hv⟩ : ∃ v, v = r.foldl (fun m y => if ltX (regX m) (regX y) = true then y else m) x := ⟨_, rfl⟩
 rw [← hv] at HC ⊢
 clear hv
 go_enter Tryz.func87, Tryz.ntmps87
 go_wp2_with (first | ((with_reducible refine Who.wpList_alloc 77 4 rfl rfl rfl (zeroX) allocX ?_); (try simp only [World.size_alloc])) | fail)
 refine HC.out.mono ?_
 rintro e w2 ⟨rfl, hb⟩
 have HB2 := Lib.hid (HB1.out.trans (hb.mono HB1.out.size))
 have HX2 := Lib.hid (HX1.out.below hb)
 clear hb
 go_wp2_with (first | ((with_reducible refine wpList_storeG 77 (.tmp 4) (.tmp 7) rfl (w.heap.size) (zeroX) (Fc.xattrC v) ?_); refine And.intro ⟨rfl, by rfl, by rfl, infoX, oneX _, rfl, HX2.out⟩ ?_; intro W5 HX5 HC5) | fail)
 have HBF := Lib.hid (below_step HB2.out HC5.out)
 refine bodyPost_ret (v := .agg (Fc.xattrC v)) (Who.results_cell (p := 4) (t := 77) rfl _ _ w.heap.size 0 (Fc.xattrC v) _ (by rfl) (Who.has_range HX5.out) Tryz.underlying77 rfl infoX) rfl ?_
 exact ⟨rfl, HBF.out⟩
theorem oneL (x : Fc.LinkP) : (Fc.linkC x).all (·.oneCell') = true := by simp [Fc.linkC, Value.oneCell']
set_option maxRecDepth 100000 in
set_option maxHeartbeats 4000000 in
theorem maxL_any (A : Option Addr) (n c : Nat) (x : Fc.LinkP) (r : List (Fc.LinkP)) (hn : n ≤ 9223372036854775807) (w : World) (h : Fc.SRow w 25 Fc.linkC A n (x :: r)) :
  Calls Tryz.prog 127 #[.slice A n c, .func (.func 92) #[] #[]] w fun e w' => e = .returned (.agg (Fc.linkC (r.foldl (fun m y => if ltL (plL m) (plL y) = true then y else m) x))) ∧ Below w.heap.size w w' := by
 have hlen := h.len
 have hn0 : 0 < n := by rw [← hlen]; exact Nat.succ_pos _
 obtain ⟨b, off, rfl, hbl, _, mr0⟩ := h.range hn0
 have mr1 : w.rangeAt b off (Fc.linkC x).toList := by rw [Nat.zero_mul, Nat.add_zero] at mr0; exact mr0
 have HR := Lib.hid h
 have HLN := Lib.hid hlen
 have hb1 := (Below.refl w.heap.size w).alloc (Nat.le_refl _) (.cells zeroL 51)
 have HB1 := Lib.hid hb1
 have MR0 := Lib.hid (Fc.row_range_below mr1 hb1 hbl)
 have HM0 := Lib.hid (MaxI.start w 51 zeroL (Fc.linkC x))
 have HBL0 := Lib.hid hbl
 clear mr0 mr1 hb1 h hlen
 have n1 : ¬ n < 1 := by omega
 go_enter Tryz.func127, Tryz.ntmps127
 go_wp2_with (first | ((with_reducible refine Who.wpList_alloc 51 4 rfl rfl rfl (zeroL) allocL ?_); (try simp only [World.size_alloc])) | ((with_reducible refine Who.wpList_loadC 51 (.tmp 12) rfl (b) off (Fc.linkC x) ?_); refine And.intro ⟨by rfl, by rfl, ⟨_, Tryz.underlying51, rfl⟩, infoL⟩ (And.intro (MR0.out) ?_)) | ((with_reducible refine Who.wpList_newC 51 5 (.tmp 13) rfl rfl rfl (zeroL) (Fc.linkC x) ?_); refine And.intro ⟨rfl, rfl, rfl, allocL, by rfl, by rfl, infoL, rfl, oneL _⟩ ?_; (try simp only [World.size_alloc])) | fail)
 go_loopw [6] (fun i wr => ∃ (j : Nat) (v : Fc.LinkP), i = .int .i64 j ∧ 1 ≤ j ∧ j ≤ n ∧ Hid (((x :: r).take j).tail.foldl (fun m y => if ltL (plL m) (plL y) = true then y else m) x = v) ∧ Hid (MaxI w wr 51 zeroL (Fc.linkC v))) (fun i _ => n - (intOf i).toNat)
 case atStart => exact ⟨1, x, rfl, Nat.le_refl _, hn0, Lib.hid rfl, HM0⟩
 case round =>
  clear HM0 MR0 HB1 n1
  obtain ⟨j, v, rfl, hj1, hj, HQ0, HM⟩ := hrel
  by_cases hlt : j < n
  ·obtain ⟨b', off', e, hbl2, hx, mr⟩ := (HR.out.below HM.out.below).range (i := j) hlt
   cases e
   have hst := max_step ltL plL x r j (by rw [HLN.out]; exact hlt) hj1 HQ0.out
   obtain ⟨y, hy⟩ : ∃ y, y = (x :: r)[j] := ⟨_, rfl⟩
   rw [← hy] at mr hst
   have HST := Lib.hid hst
   have MR := Lib.hid mr
   have HBL := Lib.hid (Nat.lt_of_lt_of_le HBL0.out HM.out.below.size)
   have ho := fun V => places_any y v V
   have hzz := sgn_pos klt_L (plL y) (plL v)
   obtain ⟨z, hze⟩ : ∃ z, z = sgn ltL (plL y) (plL v) := ⟨_, rfl⟩
   rw [← hze] at hzz
   simp only [← hze] at ho
   have HO := Lib.hid ho
   have HZ := Lib.hid hzz
   have HXJ := Lib.hid (self_row (j := j) (n := n) hlt)
   clear hy mr hst ho hzz hze hx hbl2 HQ0
   go_wp2
   refine wp_region_held_drew (S := fun V => V.rangeAt b (off + j * 25) (Fc.linkC y).toList ∧ V.rangeAt (w.heap.size + 1) 0 (Fc.linkC v).toList) (by kernel_rfl) ⟨MR.out, Who.has_range HM.out.h5⟩ (fun hHeld => ?_)
   refine Vc.wpAnyH_rd (i := 0) (d := some 20) (v := ?v33) ?hy33 ?rest33
   case hy33 =>
    intro w hSw
    go_simp
    try with_reducible rfl
   refine Vc.wpAnyH_rd (i := 1) (d := some 21) (v := ?v34) ?hy34 ?rest34
   case hy34 =>
    intro w hSw
    go_simp
    try with_reducible rfl
   refine Vc.wpAnyH_rd (i := 2) (d := some 22) (v := ?v35) ?hy35 ?rest35
   case hy35 =>
    intro w hSw
    go_simp
    try with_reducible rfl
   refine Vc.wpAnyH_rd (i := 3) (d := some 23) (v := .pointer (some ⟨b, off + j * 25, none⟩)) ?hy36 ?rest36
   case hy36 =>
    intro w hSw
    go_simp
    all_goals first | (rw [if_pos HXJ.out.1, HXJ.out.2]) | (intro hh; exfalso; omega) | (intro hh; exfalso; have hh2 := hh (by omega); omega)
   refine Vc.wpAnyH_rd (i := 4) (d := some 24) (v := .agg (Fc.linkC y)) ?hy37 ?rest37
   case hy37 =>
    intro w hSw
    exact Who.exec_loadA _ rfl rfl hSw.1 Tryz.underlying51 rfl infoL
   refine Vc.wpAnyH_rd (i := 5) (d := some 25) (v := .agg (Fc.linkC v)) ?hy38 ?rest38
   case hy38 =>
    intro w hSw
    exact Who.exec_loadA _ rfl rfl hSw.2 Tryz.underlying51 rfl infoL
   refine wpAnyH_ready (rs := [6]) (by kernel_rfl) (by simp) ?_
   refine AllReadyH.cons rfl (fun K hK => ?_) AllReadyH.nil
   go_simp
   go_at_call 92
   refine (HO.out _).mono ?_
   rintro e w2 ⟨rfl, hg⟩
   have HM2 := Lib.hid (HM.out.drew.low hg.1)
   have MR2 := Lib.hid (Fc.row_range_below (w := wr.drew) MR.out hg.1 HBL.out)
   clear hg
   refine hK.out _ _ ⟨MR2.out, Who.has_range HM2.out.h5⟩ (fun hHeld => ?_)
   clear hK K
   by_cases hz : 0 < z
   ·refine Vc.wpAnyH_rd (i := 7) (d := some 27) (v := .bool true) ?hy39 ?rest39
    case hy39 =>
     intro w hSw
     go_simp
     all_goals first | rfl | (simp only [decide_eq_true_eq, decide_eq_false_iff_not]; omega)
    refine wpAnyH_done (by kernel_rfl) ?_ _
    have HQ := Lib.hid (HST.out.1 (HZ.out.1 hz))
    clear hz
    go_wp2_with (first | ((with_reducible refine Who.wpList_loadC 51 (.tmp 30) rfl (b) (off + j * 25) (Fc.linkC y) ?_); refine And.intro ⟨by rfl, by rfl, ⟨_, Tryz.underlying51, rfl⟩, infoL⟩ (And.intro (MR2.out) ?_)) | ((with_reducible refine wpList_storeG 51 (.tmp 5) (.tmp 31) rfl (w.heap.size + 1) (Fc.linkC v) (Fc.linkC y) ?_); refine And.intro ⟨rfl, by rfl, by rfl, infoL, oneL _, rfl, HM2.out.h5⟩ ?_; intro W5 HX5 HC5) | fail)
    have HM3 := Lib.hid (HM2.out.put HX5.out HC5.out)
    go_wp2
    go_roundw
    case rel => exact ⟨j + 1, y, by go_num, by omega, by omega, HQ, HM3⟩
    case measure => simp [intOf]; omega
   ·refine Vc.wpAnyH_rd (i := 7) (d := some 27) (v := .bool false) ?hy40 ?rest40
    case hy40 =>
     intro w hSw
     go_simp
     all_goals first | rfl | (simp only [decide_eq_true_eq, decide_eq_false_iff_not]; omega)
    refine wpAnyH_done (by kernel_rfl) ?_ _
    have HQ := Lib.hid (HST.out.2 (fun q => hz (HZ.out.2 q)))
    clear hz
    go_wp2
    go_roundw
    case rel => exact ⟨j + 1, v, by go_num, by omega, by omega, HQ, HM2⟩
    case measure => simp [intOf]; omega
  ·have HQ := Lib.hid (show r.foldl (fun m y => if ltL (plL m) (plL y) = true then y else m) x = v by
    have := HQ0.out
    rw [List.take_of_length_le (by rw [HLN.out]; omega)] at this
    exact this)
   clear HQ0
   go_wp2_with (first | ((with_reducible refine Who.wpList_loadC 51 (.tmp 5) rfl (w.heap.size + 1) 0 (Fc.linkC v) ?_); refine And.intro ⟨by rfl, by rfl, ⟨_, Tryz.underlying51, rfl⟩, infoL⟩ (And.intro (Who.has_range HM.out.h5) ?_)) | ((with_reducible refine wpList_storeG 51 (.tmp 4) (.tmp 32) rfl (w.heap.size) (zeroL) (Fc.linkC v) ?_); refine And.intro ⟨rfl, by rfl, by rfl, infoL, oneL _, rfl, HM.out.h4⟩ ?_; intro W5 HX5 HC5) | fail)
   have HBF := Lib.hid (HM.out.fin HC5.out)
   refine bodyPost_ret (v := .agg (Fc.linkC v)) (Who.results_cell (p := 4) (t := 51) rfl _ _ w.heap.size 0 (Fc.linkC v) _ (by rfl) (Who.has_range HX5.out) Tryz.underlying51 rfl infoL) rfl ?_
   exact ⟨by rw [HQ.out], HBF.out⟩
set_option maxRecDepth 100000 in
set_option maxHeartbeats 4000000 in
theorem lastL_any (A : Option Addr) (n c : Nat) (x : Fc.LinkP) (r : List (Fc.LinkP)) (hn : n ≤ 9223372036854775807) (w : World) (h : Fc.SRow w 25 Fc.linkC A n (x :: r)) :
  Calls Tryz.prog 91 #[.func (.func 92) #[] #[], .slice A n c] w fun e w' => e = .returned (.agg (Fc.linkC (r.foldl (fun m y => if ltL (plL m) (plL y) = true then y else m) x))) ∧ Below w.heap.size w w' := by
 have hb1 := (Below.refl w.heap.size w).alloc (Nat.le_refl _) (.cells zeroL 51)
 have HB1 := Lib.hid hb1
 have HX1 := Lib.hid (Has.fresh w 51 zeroL)
 have HC := Lib.hid (maxL_any A n c x r hn _ (h.below hb1))
 clear h hb1
 obtain ⟨v, hv⟩ : ∃ v, v = r.foldl (fun m y => if ltL (plL m) (plL y) = true then y else m) x := ⟨_, rfl⟩
 rw [← hv] at HC ⊢
 clear hv
 go_enter Tryz.func91, Tryz.ntmps91
 go_wp2_with (first | ((with_reducible refine Who.wpList_alloc 51 4 rfl rfl rfl (zeroL) allocL ?_); (try simp only [World.size_alloc])) | fail)
 refine HC.out.mono ?_
 rintro e w2 ⟨rfl, hb⟩
 have HB2 := Lib.hid (HB1.out.trans (hb.mono HB1.out.size))
 have HX2 := Lib.hid (HX1.out.below hb)
 clear hb
 go_wp2_with (first | ((with_reducible refine wpList_storeG 51 (.tmp 4) (.tmp 7) rfl (w.heap.size) (zeroL) (Fc.linkC v) ?_); refine And.intro ⟨rfl, by rfl, by rfl, infoL, oneL _, rfl, HX2.out⟩ ?_; intro W5 HX5 HC5) | fail)
 have HBF := Lib.hid (below_step HB2.out HC5.out)
 refine bodyPost_ret (v := .agg (Fc.linkC v)) (Who.results_cell (p := 4) (t := 51) rfl _ _ w.heap.size 0 (Fc.linkC v) _ (by rfl) (Who.has_range HX5.out) Tryz.underlying51 rfl infoL) rfl ?_
 exact ⟨rfl, HBF.out⟩
end Go.Proofs.YtblogecapegbmaaGreat.Jn
