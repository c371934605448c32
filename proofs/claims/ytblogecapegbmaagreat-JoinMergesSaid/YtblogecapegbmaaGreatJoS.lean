/- Join: ids; the first of which something holds; rows that one owns, changed in place and cut. -/
import Derived.Test.YtblogecapegbmaaGreatJoM
import Derived.Lib.SlicesDelete
import Derived.Lib.SliceRun
namespace Go.Proofs.YtblogecapegbmaaGreat.Jn
open Go.RowKit Go.Proofs.YtblogecapegbmaaGreat.Mem
set_option linter.unusedVariables false set_option linter.unusedSimpArgs false set_option linter.unusedSectionVars false

theorem allocStZ (w : World) : (Instr.alloc 37 true (.tuple #[])).run Tryz.prog w = .ok (.pointer (some ⟨w.heap.size, 0, none⟩)) (w.alloc (.cells #[.int .i64 0, .int .i64 0] 37)) := by
 have hz := Tryz.zeroValue37
 go_simp
set_option maxRecDepth 100000 in
theorem nodeId_any (x : Fc.NodeC) (w : World) : Calls Tryz.prog 50 #[.agg (Fc.nodeC x)] w fun e w' => e = .returned (.agg #[.int .i64 x.p.id.1, .int .i64 x.p.id.2]) ∧ Below w.heap.size w w' := by
 have HX := Lib.hid ((Has.fresh w 46 (Fc.nodeC x)).past (.cells #[.int .i64 0, .int .i64 0] 37))
 have hz := Has.fresh (w.alloc (.cells (Fc.nodeC x) 46)) 37 #[.int .i64 0, .int .i64 0]
 rw [World.size_alloc] at hz
 have HZ := Lib.hid hz
 have HB := Lib.hid (((Below.refl w.heap.size w).alloc (Nat.le_refl _) (.cells (Fc.nodeC x) 46)).alloc (by simp) (.cells #[.int .i64 0, .int .i64 0] 37))
 clear hz
 go_enter Tryz.func50, Tryz.ntmps50
 go_wp2_with (first | ((with_reducible refine Who.wpList_alloc 37 2 rfl rfl rfl (#[.int .i64 0, .int .i64 0]) allocStZ ?_); (try simp only [Act.put, List.setIfInBounds_toArray, List.set_cons_zero, List.set_cons_succ]); (try simp only [World.size_alloc])) | ((with_reducible refine Who.wpList_loadC 37 (.tmp 3) rfl (w.heap.size) 0 (#[.int .i64 x.p.id.1, .int .i64 x.p.id.2]) ?_); refine And.intro ⟨by rfl, by rfl, ⟨_, Tryz.underlying37, rfl⟩, info_st⟩ (And.intro (nodeIds_rng HX.out) ?_)) | ((with_reducible refine wpList_storeG 37 (.tmp 2) (.tmp 4) rfl (w.heap.size + 1) (#[.int .i64 0, .int .i64 0]) (#[.int .i64 x.p.id.1, .int .i64 x.p.id.2]) ?_); refine And.intro ⟨rfl, by rfl, by rfl, info_st, st_one _ _, rfl, HZ.out⟩ ?_; intro W5 HX5 HC5; (try simp only [Act.put, List.setIfInBounds_toArray, List.set_cons_zero, List.set_cons_succ])) | fail)
 have HBF := Lib.hid (below_step HB.out HC5.out (Nat.le_succ _))
 refine bodyPost_ret (v := .agg #[.int .i64 x.p.id.1, .int .i64 x.p.id.2]) (Who.results_cell (p := 2) (t := 37) rfl _ _ (w.heap.size + 1) 0 #[.int .i64 x.p.id.1, .int .i64 x.p.id.2] _ (by rfl) (Who.has_range HX5.out) Tryz.underlying37 rfl info_st) rfl ?_
 exact ⟨rfl, HBF.out⟩
set_option maxRecDepth 100000 in
theorem linkId_any (x : Fc.LinkP) (w : World) : Calls Tryz.prog 52 #[.agg (Fc.linkC x)] w fun e w' => e = .returned (.agg #[.int .i64 x.id.1, .int .i64 x.id.2]) ∧ Below w.heap.size w w' := by
 have HX := Lib.hid ((Has.fresh w 51 (Fc.linkC x)).past (.cells #[.int .i64 0, .int .i64 0] 37))
 have hz := Has.fresh (w.alloc (.cells (Fc.linkC x) 51)) 37 #[.int .i64 0, .int .i64 0]
 rw [World.size_alloc] at hz
 have HZ := Lib.hid hz
 have HB := Lib.hid (((Below.refl w.heap.size w).alloc (Nat.le_refl _) (.cells (Fc.linkC x) 51)).alloc (by simp) (.cells #[.int .i64 0, .int .i64 0] 37))
 clear hz
 go_enter Tryz.func52, Tryz.ntmps52
 go_wp2_with (first | ((with_reducible refine Who.wpList_alloc 37 2 rfl rfl rfl (#[.int .i64 0, .int .i64 0]) allocStZ ?_); (try simp only [Act.put, List.setIfInBounds_toArray, List.set_cons_zero, List.set_cons_succ]); (try simp only [World.size_alloc])) | ((with_reducible refine Who.wpList_loadC 37 (.tmp 3) rfl (w.heap.size) 0 (#[.int .i64 x.id.1, .int .i64 x.id.2]) ?_); refine And.intro ⟨by rfl, by rfl, ⟨_, Tryz.underlying37, rfl⟩, info_st⟩ (And.intro (link_id HX.out) ?_)) | ((with_reducible refine wpList_storeG 37 (.tmp 2) (.tmp 4) rfl (w.heap.size + 1) (#[.int .i64 0, .int .i64 0]) (#[.int .i64 x.id.1, .int .i64 x.id.2]) ?_); refine And.intro ⟨rfl, by rfl, by rfl, info_st, st_one _ _, rfl, HZ.out⟩ ?_; intro W5 HX5 HC5; (try simp only [Act.put, List.setIfInBounds_toArray, List.set_cons_zero, List.set_cons_succ])) | fail)
 have HBF := Lib.hid (below_step HB.out HC5.out (Nat.le_succ _))
 refine bodyPost_ret (v := .agg #[.int .i64 x.id.1, .int .i64 x.id.2]) (Who.results_cell (p := 2) (t := 37) rfl _ _ (w.heap.size + 1) 0 #[.int .i64 x.id.1, .int .i64 x.id.2] _ (by rfl) (Who.has_range HX5.out) Tryz.underlying37 rfl info_st) rfl ?_
 exact ⟨rfl, HBF.out⟩
/-! ### the first -/
def FirstIs {α : Type} (P : α → Bool) (xs : List α) (e : Ending) : Prop := (∃ j, ∃ h : j < xs.length, e = .returned (.int .i64 (j : Nat)) ∧ P xs[j] = true ∧ ∀ y ∈ xs.take j, P y = false) ∨ (e = .returned (.int .i64 (-1)) ∧ ∀ y ∈ xs, P y = false)
theorem take_moreS {α : Type} {P : α → Prop} {l : List α} {j : Nat} {z : α} (h : ∀ y ∈ l.take j, P y) (hj : j < l.length) (hz : l[j] = z) (hp : P z) : ∀ y ∈ l.take (j + 1), P y := fun y hy => by
 rw [List.take_succ_eq_append_getElem hj, hz] at hy
 rcases List.mem_append.1 hy with hy | hy
 ·exact h y hy
 ·rw [List.mem_singleton.1 hy]; exact hp
set_option maxRecDepth 100000 in
set_option maxHeartbeats 2000000 in
theorem firstN_any (A : Option Addr) (n c : Nat) (xs : List Fc.NodeC) (fid : FuncId) (caps : Array Value) (hcf : ∀ args V, (callFunc fid args).run Tryz.prog V = .ok (.enter fid args) V) (P : Fc.NodeC → Bool) (hn : n ≤ 9223372036854775807) (w : World) (hr : Fc.SRow w 13 Fc.nodeC A n xs) (h : ∀ V, Below w.heap.size w V → ∀ x ∈ xs, Calls Tryz.prog fid (#[.agg (Fc.nodeC x)] ++ caps) V fun e V' => e = .returned (.bool (P x)) ∧ Below V.heap.size V V') : Calls Tryz.prog 134 #[.slice A n c, .func (.func fid) #[] caps] w fun e w' => FirstIs P xs e ∧ Below w.heap.size w w' := by
 have HR := Lib.hid hr
 have HG := Lib.hid h
 have HLN := Lib.hid hr.len
 clear hr h
 go_enter Tryz.func134, Tryz.ntmps134
 go_wp2
 go_loopw [8] (fun i wr => ∃ j : Nat, i = .int .i64 j ∧ j ≤ n ∧ Hid (∀ y ∈ xs.take j, P y = false) ∧ Hid (Below w.heap.size w wr)) (fun i _ => n - (intOf i).toNat)
 case atStart => exact ⟨0, rfl, Nat.zero_le _, Lib.hid (fun y hy => by simp at hy), Lib.hid (Below.refl _ _)⟩
 case round =>
  obtain ⟨j, rfl, hj, HF, HB⟩ := hrel
  by_cases hlt : j < n
  ·obtain ⟨b, off, hA, hbl, hx, mr⟩ := (HR.out.below HB.out).range (i := j) hlt
   obtain ⟨y, hy⟩ : ∃ y, xs[j] = y := ⟨_, rfl⟩
   have HTK := Lib.hid (fun h => take_moreS (P := fun y => P y = false) HF.out hx hy h)
   have HYS := Lib.hid (show P y = true → FirstIs P xs (.returned (.int .i64 (j : Nat))) from fun h => .inl ⟨j, hx, rfl, by rw [hy]; exact h, HF.out⟩)
   have HZ := Lib.hid (HG.out _ HB.out y (hy ▸ List.getElem_mem hx))
   rw [hy] at mr
   have MR := Lib.hid mr
   have hlti : (j : Int) < n := by omega
   rw [hA]
   clear hx mr hy hA hbl HF
   go_wp2_with (first | ((with_reducible refine Who.wpList_loadC 46 (.tmp 14) rfl (b) (off + j * 13) (Fc.nodeC y) ?_); refine And.intro ⟨by rfl, by rfl, ⟨_, Tryz.underlying46, rfl⟩, infoN⟩ (And.intro (MR.out) ?_)) | fail)
   refine HZ.out.mono ?_
   rintro e w2 ⟨rfl, hb⟩
   have HB2 := Lib.hid (HB.out.trans (hb.mono HB.out.size))
   clear hb HZ
   cases hq : P y with
   | true =>
    have HQ := Lib.hid (HYS.out hq)
    clear hq
    go_wp2
    go_ret
    exact ⟨HQ.out, HB2.out⟩
   | false =>
    have HQ := Lib.hid (HTK.out hq)
    clear hq
    go_wp2
    go_roundw
    case rel => exact ⟨j + 1, by go_num, by omega, HQ, HB2⟩
    case measure => simp [intOf]; omega
  ·have HQ := Lib.hid (show ∀ y ∈ xs, P y = false from fun y hy => HF.out y (by rw [List.take_of_length_le (by rw [HLN.out]; omega)]; exact hy))
   go_wp2
   go_ret
   exact ⟨.inr ⟨rfl, HQ.out⟩, HB.out⟩
set_option maxRecDepth 100000 in
set_option maxHeartbeats 2000000 in
theorem firstL_any (A : Option Addr) (n c : Nat) (xs : List Fc.LinkP) (fid : FuncId) (caps : Array Value) (hcf : ∀ args V, (callFunc fid args).run Tryz.prog V = .ok (.enter fid args) V) (P : Fc.LinkP → Bool) (hn : n ≤ 9223372036854775807) (w : World) (hr : Fc.SRow w 25 Fc.linkC A n xs) (h : ∀ V, Below w.heap.size w V → ∀ x ∈ xs, Calls Tryz.prog fid (#[.agg (Fc.linkC x)] ++ caps) V fun e V' => e = .returned (.bool (P x)) ∧ Below V.heap.size V V') : Calls Tryz.prog 102 #[.slice A n c, .func (.func fid) #[] caps] w fun e w' => FirstIs P xs e ∧ Below w.heap.size w w' := by
 have HR := Lib.hid hr
 have HG := Lib.hid h
 have HLN := Lib.hid hr.len
 clear hr h
 go_enter Tryz.func102, Tryz.ntmps102
 go_wp2
 go_loopw [8] (fun i wr => ∃ j : Nat, i = .int .i64 j ∧ j ≤ n ∧ Hid (∀ y ∈ xs.take j, P y = false) ∧ Hid (Below w.heap.size w wr)) (fun i _ => n - (intOf i).toNat)
 case atStart => exact ⟨0, rfl, Nat.zero_le _, Lib.hid (fun y hy => by simp at hy), Lib.hid (Below.refl _ _)⟩
 case round =>
  obtain ⟨j, rfl, hj, HF, HB⟩ := hrel
  by_cases hlt : j < n
  ·obtain ⟨b, off, hA, hbl, hx, mr⟩ := (HR.out.below HB.out).range (i := j) hlt
   obtain ⟨y, hy⟩ : ∃ y, xs[j] = y := ⟨_, rfl⟩
   have HTK := Lib.hid (fun h => take_moreS (P := fun y => P y = false) HF.out hx hy h)
   have HYS := Lib.hid (show P y = true → FirstIs P xs (.returned (.int .i64 (j : Nat))) from fun h => .inl ⟨j, hx, rfl, by rw [hy]; exact h, HF.out⟩)
   have HZ := Lib.hid (HG.out _ HB.out y (hy ▸ List.getElem_mem hx))
   rw [hy] at mr
   have MR := Lib.hid mr
   have hlti : (j : Int) < n := by omega
   rw [hA]
   clear hx mr hy hA hbl HF
   go_wp2_with (first | ((with_reducible refine Who.wpList_loadC 51 (.tmp 14) rfl (b) (off + j * 25) (Fc.linkC y) ?_); refine And.intro ⟨by rfl, by rfl, ⟨_, Tryz.underlying51, rfl⟩, info_link⟩ (And.intro (MR.out) ?_)) | fail)
   refine HZ.out.mono ?_
   rintro e w2 ⟨rfl, hb⟩
   have HB2 := Lib.hid (HB.out.trans (hb.mono HB.out.size))
   clear hb HZ
   cases hq : P y with
   | true =>
    have HQ := Lib.hid (HYS.out hq)
    clear hq
    go_wp2
    go_ret
    exact ⟨HQ.out, HB2.out⟩
   | false =>
    have HQ := Lib.hid (HTK.out hq)
    clear hq
    go_wp2
    go_roundw
    case rel => exact ⟨j + 1, by go_num, by omega, HQ, HB2⟩
    case measure => simp [intOf]; omega
  ·have HQ := Lib.hid (show ∀ y ∈ xs, P y = false from fun y hy => HF.out y (by rw [List.take_of_length_le (by rw [HLN.out]; omega)]; exact hy))
   go_wp2
   go_ret
   exact ⟨.inr ⟨rfl, HQ.out⟩, HB.out⟩
/-! ### rows changed in place -/
section
variable {α : Type} {w w' : World} {B : Nat} {E : TypeId} {k g n c : Nat} {C : α → Array Value} {xs : List α}
/-- A whole struct of a row stored anew. -/
theorem OwnK.sets (h : OwnK w B E k C (.slice (some ⟨g, 0, none⟩) n c) xs) (hk : ∀ x, (C x).size = k) (k0 : 0 < k) {j : Nat} {y : α} {cur : Array Value} (hj : j < xs.length) (hcur : Has w g E cur) (hx : Has w' g E (Lib.lay cur (j * k) (C y).toList)) : OwnK w' B E k C (.slice (some ⟨g, 0, none⟩) n c) (xs.set j y) := by
 rcases h.2 with ⟨e, z⟩ | ⟨g2, cap, cur2, e, hB, hw, hn2, hm, hs, ht⟩
 ·cases e
 ·cases e
  have ec : cur2 = cur := by
   have q : w.heap[g]? = some (.cells cur E) := hcur
   rw [q] at hw
   cases hw
   rfl
  subst ec
  have hjk : j * k + (C y).toList.length ≤ cur2.size := by
   have h1 : (j + 1) * k ≤ xs.length * k := Nat.mul_le_mul_right k hj
   have h2 : xs.length * k ≤ c * k := Nat.mul_le_mul_right k hn2
   rw [Nat.add_mul] at h1
   rw [hs, Array.length_toList, hk]
   omega
  refine ⟨by rw [flatC_len hk], .inr ⟨g, c, _, by rw [List.length_set], hB, hx, by rw [List.length_set]; exact hn2, hm, by rw [Lib.lay_size]; exact hs, ?_⟩⟩
  rw [List.length_set]
  refine List.ext_getElem? fun t => ?_
  by_cases hlt : t < xs.length * k
  ·have hm2 := Nat.mod_lt t k0
   have hd : t / k < xs.length := (Nat.div_lt_iff_lt_mul k0).2 hlt
   have et : t = t / k * k + t % k := by rw [Nat.mul_comm]; exact (Nat.div_add_mod t k).symm
   have hd2 : t / k < (xs.set j y).length := by rw [List.length_set]; exact hd
   have e1 := flatC_get (C := C) hk (xs.set j y) (t / k) (t % k) hd2 hm2
   have e2 := flatC_get (C := C) hk xs (t / k) (t % k) hd hm2
   rw [← et] at e1 e2
   rw [e1, List.getElem?_take_of_lt hlt, Array.getElem?_toList, Lib.lay_get? _ _ _ _ hjk]
   by_cases hji : t / k = j
   ·have c1 : j * k ≤ t ∧ t < j * k + (C y).toList.length := by rw [Array.length_toList, hk]; rw [hji] at et; omega
    rw [if_pos c1]
    have e3 : (xs.set j y)[t / k] = y := by simp [hji]
    rw [e3, Array.getElem?_toList, show t - j * k = t % k by rw [hji] at et; omega]
   ·have c1 : ¬ (j * k ≤ t ∧ t < j * k + (C y).toList.length) := by
     rw [Array.length_toList, hk]
     rintro ⟨a1, a2⟩
     apply hji
     have a3 : j ≤ t / k := (Nat.le_div_iff_mul_le k0).2 a1
     have a4 : t / k < j + 1 := (Nat.div_lt_iff_lt_mul k0).2 (by rw [Nat.add_mul]; omega)
     omega
    rw [if_neg c1]
    have e3 : (xs.set j y)[t / k] = xs[t / k] := List.getElem_set_ne (fun q => hji q.symm) _
    rw [e3, ← e2, ← ht, List.getElem?_take_of_lt hlt, Array.getElem?_toList]
  ·rw [List.getElem?_eq_none (by rw [List.length_take]; omega), List.getElem?_eq_none (by rw [flatC_len hk, List.length_set]; omega)]
/-- A row cut behind, whatever becomes of what is cut off. -/
theorem OwnK.cut (h : OwnK w B E k C (.slice (some ⟨g, 0, none⟩) n c) xs) (hk : ∀ x, (C x).size = k) {i : Nat} {cur cur2 : Array Value} (hi : i ≤ xs.length) (hcur : Has w g E cur) (hx : Has w' g E cur2) (hsz : cur2.size = cur.size) (hsame : ∀ t, t < i * k → cur2[t]? = cur[t]?) : OwnK w' B E k C (.slice (some ⟨g, 0, none⟩) i c) (xs.take i) := by
 rcases h.2 with ⟨e, z⟩ | ⟨g2, cap, cur3, e, hB, hw, hn2, hm, hs, ht⟩
 ·cases e
 ·cases e
  have ec : cur3 = cur := by
   have q : w.heap[g]? = some (.cells cur E) := hcur
   rw [q] at hw
   cases hw
   rfl
  subst ec
  have hl : (xs.take i).length = i := by rw [List.length_take]; omega
  have hik : i * k ≤ xs.length * k := Nat.mul_le_mul_right k hi
  refine ⟨by rw [flatC_len hk], .inr ⟨g, c, cur2, by rw [hl], hB, hx, by rw [hl]; omega, hm, by rw [hsz]; exact hs, ?_⟩⟩
  rw [hl]
  have e1 : flatC C xs = flatC C (xs.take i) ++ flatC C (xs.drop i) := by rw [← flatC_app, List.take_append_drop]
  refine List.ext_getElem? fun t => ?_
  by_cases hlt : t < i * k
  ·rw [List.getElem?_take_of_lt hlt, Array.getElem?_toList, hsame t hlt]
   have e2 : (cur3.toList.take (xs.length * k))[t]? = cur3.toList[t]? := List.getElem?_take_of_lt (by omega)
   rw [ht, e1, List.getElem?_append_left (by rw [flatC_len hk, hl]; exact hlt)] at e2
   rw [← Array.getElem?_toList]
   exact e2.symm
  ·rw [List.getElem?_eq_none (by rw [List.length_take]; omega), List.getElem?_eq_none (by rw [flatC_len hk, hl]; omega)]
end
theorem run_clear_any {P : Program} (w : World) (t e ty : TypeId) (z : Value) (ht : P.underlying t = some (.slice e)) (hv : ∀ w, (zeroValue e).run P w = .ok z w) (h1 : ∀ v ∈ (Builtin.zeroCells z.cells 1).toList, True) (b o n c : Nat) (hn : 0 < n)
  (ho : ∀ v ∈ (Builtin.zeroCells z.cells n).toList, v.oneCell' = true)
  (hc : ∀ j, j < (Builtin.zeroCells z.cells n).toList.length → (w.cell? ⟨b, o + j, none⟩).isSome = true) (hf : ∀ j, j < (Builtin.zeroCells z.cells n).toList.length → w.frozen? ⟨b, o + j, none⟩ = false) :
  (Builtin.clear_ #[t] ty #[.slice (some ⟨b, o, none⟩) n c]).run P w = .ok (.tuple #[]) (w.setCells b o (Builtin.zeroCells z.cells n).toList) := by
 have hst := run_storeCells_cells (P := P) b o (Builtin.zeroCells z.cells n).toList 0 w (by simpa using hc) (by simpa using hf) ho
 simp only [Nat.add_zero] at hst
 obtain ⟨m, rfl⟩ : ∃ m, n = m + 1 := ⟨n - 1, by omega⟩
 simp [Builtin.clear_, run_underlying ht, hv, hst]
end Go.Proofs.YtblogecapegbmaaGreat.Jn
