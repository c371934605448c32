/- Clones of devices; what was written since; what is there: contracts. -/
import Derived.Test.YtkbpjegegjgbkaaGreatT13
import Derived.Shelf.SlMaps.Clone
import Derived.Deep.RegionHeld3
import Derived.Laws.AppendOwn
import Derived.Maps.AppendAt
import Derived.Shelf.SlIterI.Nil
import Derived.Shelf.SortM.Plain
import Derived.Shelf.SortM.SortNone
namespace Go.Proofs.YtkbpjegegjgbkaaGreat.Dv
open Go.RowKit
open Mem
open Rws
set_option linter.unusedVariables false

theorem clone_fn : Tryz.prog.funcs[64]? = some Tryz.f64 := by kernel_rfl
set_option maxRecDepth 100000 in
theorem clone_map (b : Nat) (m : Int → Option Value) (w : World) (h : IMap w b m) :
    Calls Tryz.prog 41 #[.map (some b)] w fun e w' => e = .returned (.map (some w.heap.size)) ∧ IMap w' w.heap.size m ∧ Below w.heap.size w w' ∧ w'.heap.size = w.heap.size + 1 := by
  obtain ⟨es, c, h1, h2, h3⟩ := h
  have hq := fun w => run_eql_map_nil_sl (P := Tryz.prog) w 65 _ _ (some b) mapT
  have H23 := Lib.hid (And.intro h2 h3)
  clear h2 h3
  go_enter Tryz.func41, Tryz.ntmps41
  go_wp2
  rw [run_callFunc_extern clone_fn (by kernel_rfl) (by kernel_rfl) (by kernel_rfl) (e := Extern.MapsClone.clone) (by kernel_rfl), run_maps_clone_sl w 65 h1]
  simp only [Result.andThen]
  rw [Oper.upon_value]
  go_wp2
  rw [run_typeAssert_map_sl _ 65 _ _ _ _ mapT]
  simp only [Result.andThen]
  rw [Oper.upon_value]
  go_wp2
  go_ret
  exact ⟨rfl, ⟨es, c, Array.getElem?_push_size, H23.out.1, H23.out.2⟩, (Below.refl _ _).alloc (Nat.le_refl _) _, by simp⟩
set_option maxRecDepth 100000 in
set_option maxHeartbeats 2000000 in
theorem clone_all (p bk bd : Nat) (d : St) (w : World) (h : DevIs w p bk bd d) :
    Calls Tryz.prog 15 #[.pointer (some ⟨p, 0, none⟩)] w fun e w' => e = .returned (.pointer (some ⟨w.heap.size, 0, none⟩)) ∧ DevIs w' w.heap.size (w.heap.size + 1) (w.heap.size + 2) d ∧ Below w.heap.size w w' := by
  have HM := Lib.hid (made_any p bk bd d w h)
  have c0 := Has.at_ h.obj 0
  have c1 := Has.at_ h.obj 1
  have c2 := Has.at_ h.obj 2
  have c3 := Has.at_ h.obj 3
  have c4 := Has.at_ h.obj 4
  simp at c0 c1 c2 c3 c4
  have HH := Lib.hid h
  clear h
  go_enter Tryz.func15, Tryz.ntmps15
  go_wp2_with fail
  refine HM.out.mono ?_
  rintro e w' ⟨rfl, rfl⟩
  obtain ⟨W1, hW1⟩ : ∃ W1 : World, W1 = w.alloc (.cells #[.bool d.on, .int .i64 d.fuse, .int .i64 d.size, .map (some bk), .map (some bd)] 67) := ⟨_, rfl⟩
  have b1 : Below w.heap.size w W1 := by rw [hW1]; exact (Below.refl _ w).alloc (Nat.le_refl _) _
  have hq : Has W1 w.heap.size 67 #[.bool d.on, .int .i64 d.fuse, .int .i64 d.size, .map (some bk), .map (some bd)] := by rw [hW1]; exact Has.fresh w _ _
  have z1 : W1.heap.size = w.heap.size + 1 := by rw [hW1]; simp
  have ho := HH.out.obj.below b1
  have hk := HH.out.kept.below b1
  have hdd := HH.out.dirt.below b1
  go_wp2
  rw [← hW1]
  clear hW1 c0 c1 c2 c3 c4
  have ho := Has.drew ho
  have hq := Has.drew hq
  have HK := Lib.hid hk.drew
  have HD := Lib.hid hdd.drew
  have g : Below W1.heap.size W1.drew W1.drew := Below.refl _ _
  have hpq : p ≠ w.heap.size := Nat.ne_of_lt HH.out.obj.bound
  clear hk hdd
  go_region_held3 (fun w' => w'.cell? ⟨p, 3, none⟩ = some (.map (some bk)) ∧ w'.cell? ⟨p, 4, none⟩ = some (.map (some bd))) (first | exact ⟨Has.at_ ho 3, Has.at_ ho 4⟩ | exact ⟨Has.at_ (Has.keep ho hpq _) 3, Has.at_ (Has.keep ho hpq _) 4⟩ | exact ⟨Has.at_ (Has.keep (Has.keep ho hpq _) hpq _) 3, Has.at_ (Has.keep (Has.keep ho hpq _) hpq _) 4⟩) (first | (go_at_call 41; first | (have hm2 := hm1; refine (clone_map bd _ _ (HD.out.below g)).mono ?_; rintro e w' ⟨rfl, hm3, hb, zz2⟩; replace hm1 := hm2.below hb; clear hm2; replace ho := ho.below hb; replace hq := hq.below hb; replace g := g.trans (hb.mono g.size); clear hb; have fq3 := Has.free hq 3; have fq4 := Has.free hq 4; have cq3 := Has.at_ hq 3; have cq4 := Has.at_ hq 4; simp at cq3 cq4) | (refine (clone_map bk _ _ (HK.out.below g)).mono ?_; rintro e w' ⟨rfl, hm1, hb, zz1⟩; replace ho := ho.below hb; replace hq := hq.below hb; replace g := g.trans (hb.mono g.size); clear hb)))
  go_wp2
  go_ret
  have h := HH.out
  have hc : Chg (· = w.heap.size) w' ((w'.setCell ⟨w.heap.size, 3, none⟩ (.map (some (w.heap.size + 1)))).setCell ⟨w.heap.size, 4, none⟩ (.map (some (w.heap.size + 1 + 1)))) := ((Chg.refl (· = w.heap.size) w').setCell (p := ⟨w.heap.size, 3, none⟩) (.inl rfl) _).setCell (p := ⟨w.heap.size, 4, none⟩) (.inl rfl) _
  refine ⟨rfl, ⟨Has.put (Has.put hq 3 _) 4 _, ?_, ?_, by omega, by omega, by omega, h.lo, h.hi, h.least, h.most⟩, ?_⟩
  · have e : W1.drew.heap.size = w.heap.size + 1 := z1
    rw [e] at hm1
    exact hm1.over hc (by omega)
  · have e : W1.drew.heap.size = w.heap.size + 1 := z1
    rw [zz1, e] at hm3
    exact hm3.over hc (by omega)
  · have g1 : Below w.heap.size w w' := (Below.drew b1).trans (g.mono (Nat.le_trans b1.size (Nat.le_refl _)))
    exact g1.trans (hc.below g1.size (fun k hk hh => by omega))
theorem own_mono {w : World} {B C : Nat} {e : TypeId} {v : Value} {n : Nat} {xs : List Value} (h : w.ownsRow C e 1 v n xs) (hb : B ≤ C) : w.ownsRow B e 1 v n xs := by
  obtain ⟨hl, h⟩ := h
  refine ⟨hl, ?_⟩
  rcases h with h | ⟨g, c, cur, e, hB, hr⟩
  · exact .inl h
  · exact .inr ⟨g, c, cur, e, Nat.le_trans hb hB, hr⟩
end Go.Proofs.YtkbpjegegjgbkaaGreat.Dv
namespace Go.Proofs.YtkbpjegegjgbkaaGreat.Dv
open Go.RowKit Go.Maps Go.Sort Go.Shelf
open Go.WideElems (Fit rd rg rd_mk rg_of)
open Mem
open Rws
set_option linter.unusedVariables false

def keysA_ren : Go.Shelf.Ren := ⟨fun | 7 => 42 | 10 => 65 | n => n, fun | 23 => 65 | 26 => 3 | 3 => 85 | 28 => 79 | 0 => 0 | 27 => 78 | 33 => 82 | 4 => 4 | n => n, fun | n => n⟩
theorem keysA : Go.Proofs.SlLaysZI.n7 Tryz.prog keysA_ren where
  mixed := by kernel_rfl
  f7 := ⟨ "maps.Keys[map[int]crannog/dev.block,int,crannog/dev.block]", by decide, Tryz.func42.trans (congrArg some (by kernel_rfl))⟩
  f10 := ⟨ "maps.Keys[map[int]crannog/dev.block,int,crannog/dev.block]$1", by decide, Tryz.func65.trans (congrArg some (by kernel_rfl))⟩
  t0 := Tryz.underlying0
  a0 := Tryz.isAgg0
  z0 := Tryz.sizeOf0
  v0 := Tryz.zeroValue0
  t4 := Tryz.underlying4
  a4 := Tryz.isAgg4
  z4 := Tryz.sizeOf4
  v4 := Tryz.zeroValue4
  t23 := Tryz.underlying65
  a23 := Tryz.isAgg65
  z23 := Tryz.sizeOf65
  v23 := Tryz.zeroValue65
  t26 := Tryz.underlying3
  a26 := Tryz.isAgg3
  z26 := Tryz.sizeOf3
  v26 := Tryz.zeroValue3
  t27 := Tryz.underlying78
  a27 := Tryz.isAgg78
  z27 := Tryz.sizeOf78
  v27 := Tryz.zeroValue78
  t28 := Tryz.underlying79
  a28 := Tryz.isAgg79
  z28 := Tryz.sizeOf79
  v28 := Tryz.zeroValue79
  t33 := Tryz.underlying82
  a33 := Tryz.isAgg82
  z33 := Tryz.sizeOf82
  v33 := Tryz.zeroValue82
def keysB_ren : Go.Shelf.Ren := ⟨fun | 7 => 37 | 10 => 61 | n => n, fun | 23 => 73 | 26 => 3 | 3 => 81 | 28 => 79 | 0 => 0 | 27 => 78 | 33 => 82 | 4 => 4 | n => n, fun | n => n⟩
theorem keysB : Go.Proofs.SlLaysZI.n7 Tryz.prog keysB_ren where
  mixed := by kernel_rfl
  f7 := ⟨ "maps.Keys[map[int]*crannog/store.node,int,*crannog/store.node]", by decide, Tryz.func37.trans (congrArg some (by kernel_rfl))⟩
  f10 := ⟨ "maps.Keys[map[int]*crannog/store.node,int,*crannog/store.node]$1", by decide, Tryz.func61.trans (congrArg some (by kernel_rfl))⟩
  t0 := Tryz.underlying0
  a0 := Tryz.isAgg0
  z0 := Tryz.sizeOf0
  v0 := Tryz.zeroValue0
  t4 := Tryz.underlying4
  a4 := Tryz.isAgg4
  z4 := Tryz.sizeOf4
  v4 := Tryz.zeroValue4
  t23 := Tryz.underlying73
  a23 := Tryz.isAgg73
  z23 := Tryz.sizeOf73
  v23 := Tryz.zeroValue73
  t26 := Tryz.underlying3
  a26 := Tryz.isAgg3
  z26 := Tryz.sizeOf3
  v26 := Tryz.zeroValue3
  t27 := Tryz.underlying78
  a27 := Tryz.isAgg78
  z27 := Tryz.sizeOf78
  v27 := Tryz.zeroValue78
  t28 := Tryz.underlying79
  a28 := Tryz.isAgg79
  z28 := Tryz.sizeOf79
  v28 := Tryz.zeroValue79
  t33 := Tryz.underlying82
  a33 := Tryz.isAgg82
  z33 := Tryz.sizeOf82
  v33 := Tryz.zeroValue82
def sortedA_ren : Go.Shelf.Ren := ⟨fun | 6 => 36 | 8 => 59 | 9 => 60 | 11 => 74 | 13 => 76 | 12 => 75 | 23 => 96 | 24 => 97 | 14 => 87 | 15 => 88 | 16 => 89 | 17 => 90 | 18 => 91 | 19 => 92 | 20 => 93 | 21 => 94 | 22 => 95 | 25 => 103 | 26 => 104 | 27 => 105 | 28 => 106 | 29 => 107 | 30 => 108 | 31 => 112 | n => n, fun | 26 => 3 | 28 => 79 | 24 => 23 | 0 => 0 | 3 => 3 | 37 => 68 | 48 => 141 | 50 => 130 | 4 => 4 | 40 => 135 | 39 => 134 | 45 => 98 | 5 => 5 | 9 => 9 | 51 => 152 | 55 => 156 | 57 => 161 | 58 => 162 | 33 => 82 | n => n, fun | n => n⟩
theorem sortedA : Go.Proofs.SlLaysZI.n6 Tryz.prog sortedA_ren where
  mixed := by kernel_rfl
  f6 := ⟨ "slices.Sorted[int]", by decide, Tryz.func36.trans (congrArg some (by kernel_rfl))⟩
  f8 := ⟨ "slices.Collect[int]", by decide, Tryz.func59.trans (congrArg some (by kernel_rfl))⟩
  f11 := ⟨ "slices.AppendSeq[[]int,int]", by decide, Tryz.func74.trans (congrArg some (by kernel_rfl))⟩
  t0 := Tryz.underlying0
  a0 := Tryz.isAgg0
  z0 := Tryz.sizeOf0
  v0 := Tryz.zeroValue0
  t24 := Tryz.underlying23
  a24 := Tryz.isAgg23
  z24 := Tryz.sizeOf23
  v24 := Tryz.zeroValue23
  t26 := Tryz.underlying3
  a26 := Tryz.isAgg3
  z26 := Tryz.sizeOf3
  v26 := Tryz.zeroValue3
  t28 := Tryz.underlying79
  a28 := Tryz.isAgg79
  z28 := Tryz.sizeOf79
  v28 := Tryz.zeroValue79
  i26 := by kernel_rfl
def sortA_ren : Go.Shelf.Ren := ⟨fun | 5 => 60 | 8 => 76 | 7 => 75 | 19 => 96 | 20 => 97 | 10 => 87 | 11 => 88 | 12 => 89 | 13 => 90 | 14 => 91 | 15 => 92 | 16 => 93 | 17 => 94 | 18 => 95 | 30 => 103 | 31 => 104 | 32 => 105 | 33 => 106 | 34 => 107 | 35 => 108 | 40 => 112 | n => n, fun | 23 => 23 | 25 => 3 | 3 => 3 | 32 => 68 | 22 => 23 | 0 => 0 | 44 => 141 | 46 => 130 | 4 => 4 | 36 => 135 | 35 => 134 | 41 => 98 | 5 => 5 | 9 => 9 | 53 => 152 | 57 => 156 | 63 => 161 | 64 => 162 | n => n, fun | n => n⟩
theorem sortA : Go.Proofs.SlLaysM.n5 Tryz.prog sortA_ren where
  mixed := by kernel_rfl
  f5 := ⟨ "slices.Sort[[]int,int]", by decide, Tryz.func60.trans (congrArg some (by kernel_rfl))⟩
  f7 := ⟨ "slices.pdqsortOrdered[int]", by decide, Tryz.func75.trans (congrArg some (by kernel_rfl))⟩
  f8 := Tryz.func76.trans (congrArg some (by kernel_rfl))
  f10 := ⟨ "slices.insertionSortOrdered[int]", by decide, Tryz.func87.trans (congrArg some (by kernel_rfl))⟩
  f11 := ⟨ "slices.heapSortOrdered[int]", by decide, Tryz.func88.trans (congrArg some (by kernel_rfl))⟩
  f12 := ⟨ "slices.breakPatternsOrdered[int]", by decide, Tryz.func89.trans (congrArg some (by kernel_rfl))⟩
  f13 := ⟨ "slices.choosePivotOrdered[int]", by decide, Tryz.func90.trans (congrArg some (by kernel_rfl))⟩
  f14 := ⟨ "slices.reverseRangeOrdered[int]", by decide, Tryz.func91.trans (congrArg some (by kernel_rfl))⟩
  f15 := ⟨ "slices.partialInsertionSortOrdered[int]", by decide, Tryz.func92.trans (congrArg some (by kernel_rfl))⟩
  f16 := ⟨ "cmp.Less[int]", by decide, Tryz.func93.trans (congrArg some (by kernel_rfl))⟩
  f17 := ⟨ "slices.partitionEqualOrdered[int]", by decide, Tryz.func94.trans (congrArg some (by kernel_rfl))⟩
  f18 := ⟨ "slices.partitionOrdered[int]", by decide, Tryz.func95.trans (congrArg some (by kernel_rfl))⟩
  f19 := Tryz.func96.trans (congrArg some (by kernel_rfl))
  f20 := Tryz.func97.trans (congrArg some (by kernel_rfl))
  f30 := ⟨ "slices.siftDownOrdered[int]", by decide, Tryz.func103.trans (congrArg some (by kernel_rfl))⟩
  f31 := Tryz.func104.trans (congrArg some (by kernel_rfl))
  f32 := Tryz.func105.trans (congrArg some (by kernel_rfl))
  f33 := ⟨ "slices.medianAdjacentOrdered[int]", by decide, Tryz.func106.trans (congrArg some (by kernel_rfl))⟩
  f34 := ⟨ "slices.medianOrdered[int]", by decide, Tryz.func107.trans (congrArg some (by kernel_rfl))⟩
  f35 := ⟨ "cmp.isNaN[int]", by decide, Tryz.func108.trans (congrArg some (by kernel_rfl))⟩
  f40 := ⟨ "slices.order2Ordered[int]", by decide, Tryz.func112.trans (congrArg some (by kernel_rfl))⟩
  t0 := Tryz.underlying0
  a0 := Tryz.isAgg0
  z0 := Tryz.sizeOf0
  v0 := Tryz.zeroValue0
  t3 := Tryz.underlying3
  a3 := Tryz.isAgg3
  z3 := Tryz.sizeOf3
  v3 := Tryz.zeroValue3
  t4 := Tryz.underlying4
  a4 := Tryz.isAgg4
  z4 := Tryz.sizeOf4
  v4 := Tryz.zeroValue4
  t5 := Tryz.underlying5
  a5 := Tryz.isAgg5
  z5 := Tryz.sizeOf5
  v5 := Tryz.zeroValue5
  t9 := Tryz.underlying9
  a9 := Tryz.isAgg9
  z9 := Tryz.sizeOf9
  v9 := Tryz.zeroValue9
  t22 := Tryz.underlying23
  a22 := Tryz.isAgg23
  z22 := Tryz.sizeOf23
  v22 := Tryz.zeroValue23
  t23 := Tryz.underlying23
  a23 := Tryz.isAgg23
  z23 := Tryz.sizeOf23
  v23 := Tryz.zeroValue23
  t25 := Tryz.underlying3
  a25 := Tryz.isAgg3
  z25 := Tryz.sizeOf3
  v25 := Tryz.zeroValue3
  t32 := Tryz.underlying68
  a32 := Tryz.isAgg68
  z32 := Tryz.sizeOf68
  v32 := Tryz.zeroValue68
  t35 := Tryz.underlying134
  a35 := Tryz.isAgg134
  z35 := Tryz.sizeOf134
  v35 := Tryz.zeroValue134
  t36 := Tryz.underlying135
  a36 := Tryz.isAgg135
  z36 := Tryz.sizeOf135
  v36 := Tryz.zeroValue135
  t41 := Tryz.underlying98
  a41 := Tryz.isAgg98
  z41 := Tryz.sizeOf98
  v41 := Tryz.zeroValue98
  t44 := Tryz.underlying141
  a44 := Tryz.isAgg141
  z44 := Tryz.sizeOf141
  v44 := Tryz.zeroValue141
  t46 := Tryz.underlying130
  a46 := Tryz.isAgg130
  z46 := Tryz.sizeOf130
  v46 := Tryz.zeroValue130
  t53 := Tryz.underlying152
  a53 := Tryz.isAgg152
  z53 := Tryz.sizeOf152
  v53 := Tryz.zeroValue152
  t57 := Tryz.underlying156
  a57 := Tryz.isAgg156
  z57 := Tryz.sizeOf156
  v57 := Tryz.zeroValue156
  t63 := Tryz.underlying161
  a63 := Tryz.isAgg161
  z63 := Tryz.sizeOf161
  v63 := Tryz.zeroValue161
  t64 := Tryz.underlying162
  a64 := Tryz.isAgg162
  z64 := Tryz.sizeOf162
  v64 := Tryz.zeroValue162
theorem sortsA (m : Nat) : AnyZI.SortsIn Tryz.prog sortedA_ren Fence.wide m :=
  ⟨fun blk off cap ss W hH hblk hsz => callsIn_wide.2 (AnyM.slices_Sort_int sortA blk off cap ss W hH hblk hsz), fun p cap W => callsIn_wide.2 (AnyM.slices_Sort_int_none sortA p cap W)⟩
theorem nodup_len : ∀ (K : Nat) (l : List Int), l.Nodup → (∀ z ∈ l, 0 ≤ z ∧ z < (K : Int)) → l.length ≤ K
  | 0, l, _, h => by
    cases l with
    | nil => exact Nat.le_refl _
    | cons a l => have := h a List.mem_cons_self; omega
  | K + 1, l, hn, h => by
    have h1 := nodup_len K (l.erase (K : Int)) (hn.erase _) (fun z hz => by
      have h2 := (hn.mem_erase_iff).1 hz
      have h3 := h z h2.2
      have h4 := h2.1
      omega)
    have h5 := List.length_erase (a := (K : Int)) (l := l)
    split at h5 <;> omega
def anyR : Value → Option (DataW Unit × List MemPlace) := fun _ => some (.nil, [])
def keyI : Value → Int
  | .int _ a => a
  | _ => 0
theorem own_of {w : World} {b : Nat} {m : Int → Option Value} (h : IMap w b m) (K : Nat) (hK : K ≤ 4096) (hk : ∀ z, (m z).isSome = true → 0 ≤ z ∧ z < (K : Int)) :
    ∃ D : DataW Unit, w.ownsMap Tryz.prog 3 anyR b K D ∧ (intKeys D).Nodup ∧ ∀ z, z ∈ intKeys D ↔ (m z).isSome = true := by
  obtain ⟨es, c, h1, h2, h3⟩ := h
  have hes : ∀ x ∈ es.toList, ∃ z : Int, x.key = .int .i64 z ∧ (m z).isSome = true := fun x hx => by
    obtain ⟨z, hz⟩ := h2.keys x hx
    refine ⟨z, hz, ?_⟩
    rw [← h3 z, mget_mem h2.once hx hz]
    rfl
  have hrd : ∀ x ∈ es.toList, ∃ z : Int, x.key = .int .i64 z ∧ (m z).isSome = true ∧ rd Tryz.prog 3 anyR x = some (.int .i64 z, .nil) := fun x hx => by
    obtain ⟨z, hz, hm⟩ := hes x hx
    refine ⟨z, hz, hm, ?_⟩
    obtain ⟨key, val, born⟩ := x
    simp only at hz
    subst hz
    have hb := hk z hm
    have hw : (Lit.int .i64 z).wf = true := by
      simp [Lit.wf, IntKind.min, IntKind.max, IntKind.signed, IntKind.bits]
      omega
    exact rd_mk (yv := (.nil, [])) (by simp [keyOf, Tryz.underlying3, mapKey, hw]) rfl
  have hkm : (es.toList.map (rg Tryz.prog 3 anyR)).map (fun p => Go.intOf p.1) = es.toList.map fun x => keyI x.key := by
    rw [List.map_map]
    refine List.map_congr_left fun x hx => ?_
    obtain ⟨z, hz, _, hr⟩ := hrd x hx
    rw [Function.comp_apply, rg_of hr, hz]
    rfl
  have hperm : (intKeys (.map ((es.toList.map (rg Tryz.prog 3 anyR)).foldr DataW.insert []))).Perm (es.toList.map fun x => keyI x.key) := by
    rw [← hkm]
    exact (WideShapes.sorted_perm _).map _
  have hnd : (es.toList.map fun x => keyI x.key).Nodup := by
    have ho := h2.once
    rw [List.Nodup, List.pairwise_map] at ho ⊢
    refine ho.imp_of_mem fun {x y} hx hy hne e => hne ?_
    obtain ⟨z, hz, _⟩ := hes x hx
    obtain ⟨u, hu, _⟩ := hes y hy
    rw [hz, hu] at e ⊢
    have e : z = u := e
    rw [e]
  have hmem : ∀ z, z ∈ (es.toList.map fun x => keyI x.key) ↔ (m z).isSome = true := fun z => by
    rw [List.mem_map]
    constructor
    · rintro ⟨x, hx, rfl⟩
      obtain ⟨u, hu, hm⟩ := hes x hx
      rw [hu]
      exact hm
    · intro hm
      rcases find_at h2 z with ⟨_, f2, _⟩ | ⟨j, x, _, hj, hx, _⟩
      · rw [h3 z] at f2
        rw [f2] at hm
        cases hm
      · exact ⟨x, List.mem_of_getElem? hj, by rw [hx]; rfl⟩
  have hlen : es.size ≤ K := by
    have := nodup_len K _ hnd fun z hz => hk z ((hmem z).1 hz)
    simpa using this
  refine ⟨_, ⟨es, c, h1, ⟨by unfold maxLen; omega, ⟨h2.born, h2.apart, h2.once⟩, fun x hx => ?_⟩, hlen, rfl⟩, hperm.nodup_iff.2 hnd, fun z => ?_⟩
  · obtain ⟨z, _, _, hr⟩ := hrd x hx
    exact ⟨_, hr⟩
  · rw [hperm.mem_iff, hmem]
/-- The blocks that were written since, rising. -/
def DirtyL (d : St) (l : List Int) : Prop := l.Pairwise (· < ·) ∧ ∀ z, z ∈ l ↔ (d.dirty z).isSome = true
theorem rising_one {l k : List Int} (h : l.Pairwise (· < ·)) (h2 : k.Pairwise (· < ·)) (hm : ∀ z, z ∈ l ↔ z ∈ k) : l = k := by
  have n1 : l.Nodup := h.imp fun hab e => by omega
  have n2 : k.Nodup := h2.imp fun hab e => by omega
  exact List.Perm.eq_of_pairwise (le := fun a b : Int => a < b) (fun a b _ _ h1 h2 => by omega) h h2 ((List.perm_ext_iff_of_nodup n1 n2).2 hm)
theorem dirty_one {d : St} {l k : List Int} (h : DirtyL d l) (h2 : DirtyL d k) : l = k :=
  rising_one h.1 h2.1 fun z => (h.2 z).trans (h2.2 z).symm
/-- What was written lies inside. -/
def InD (d : St) : Prop := ∀ z, (d.dirty z).isSome = true → 0 ≤ z ∧ z < (d.size : Int)
def Ints (w : World) (B : Nat) (v : Value) (l : List Int) : Prop := w.ownsRow B 3 1 v l.length (l.map (Value.int .i64))
theorem sorted_rising {ss : List Int} (h : ss.Nodup) : (ss.mergeSort fun x y => decide (x ≤ y)).Pairwise (· < ·) := by
  have tr : ∀ a b c : Int, decide (a ≤ b) = true → decide (b ≤ c) = true → decide (a ≤ c) = true := fun a b c h1 h2 => by simp only [decide_eq_true_eq] at *; omega
  have to : ∀ a b : Int, (decide (a ≤ b) || decide (b ≤ a)) = true := fun a b => by simp only [Bool.or_eq_true, decide_eq_true_eq]; omega
  have h1 := List.pairwise_mergeSort tr to ss
  have h2 : (ss.mergeSort fun x y => decide (x ≤ y)).Nodup := (List.mergeSort_perm ss _).nodup_iff.2 h
  refine (h1.and h2).imp fun {a b} hab => ?_
  have k1 := of_decide_eq_true hab.1
  have k2 := hab.2
  omega
set_option maxRecDepth 100000 in
set_option maxHeartbeats 1000000 in
theorem dirty_any (p bk bd : Nat) (d : St) (w : World) (h : DevIs w p bk bd d) (hi : InD d) :
    Calls Tryz.prog 17 #[.pointer (some ⟨p, 0, none⟩)] w fun e w' => ∃ v l, e = .returned v ∧ DirtyL d l ∧ Ints w' w.heap.size v l ∧ Below w.heap.size w w' := by
  have HM := Lib.hid (made_any p bk bd d w h)
  have c4 := Has.at_ h.obj 4
  simp at c4
  obtain ⟨D0, hown, hnd, hmem⟩ := own_of h.dirt d.size h.hi (fun z hz => hi z (by unfold vals at hz; cases hq : d.dirty z with
    | none => rw [hq] at hz; cases hz
    | some s => rfl))
  have hsz := hown.size_le
  have hhi := h.hi
  have hbl := hown.lt
  have hseq : SeqGives Fence.wide 2 Tryz.prog 65 #[.pointer (some ⟨w.heap.size, 0, none⟩)] encZ (fun ss => ss.Perm (intKeys D0)) (Maps.size D0) (w.alloc (.cells #[.map (some bd)] 65)) :=
    AnyZI.keys_gives (ρ := keysA_ren) { keysA with } Fence.wide _ trivial rfl (by omega) w.heap.size bd d.size D0 _ (by simp) (by simp) (by
      obtain ⟨es, clock, hb, Ft, hs, hD⟩ := hown
      exact ⟨es, clock, (Below.heap_alloc _ _ bd hbl).trans hb, Ft, hs, hD⟩)
  have cK : ∀ mb W, Calls Tryz.prog 42 #[.map mb] W fun e w' => e = .returned (.func (.func 65) #[] #[.pointer (some ⟨W.heap.size, 0, none⟩)]) ∧ w' = W.alloc (.cells #[.map mb] 65) := fun mb W => (callsIn_wide (n := 5)).1 (AnyZI.keys_in keysA Fence.wide 5 trivial rfl mb W)
  have cS := (callsIn_wide (n := 5)).1 (AnyZI.sorted_in sortedA Fence.wide 5 trivial trivial trivial trivial rfl (by omega) (sortsA _) (enters_of Tryz.func60 (by kernel_rfl) rfl) 65 #[.pointer (some ⟨w.heap.size, 0, none⟩)] trivial (enters_of Tryz.func65 (by kernel_rfl) rfl) _ _ (by unfold maxLen; omega) (by omega) _ hseq)
  change Calls Tryz.prog 36 _ _ _ at cS
  have CS := Lib.hid cS
  have HE := Lib.hid (And.intro hnd hmem)
  clear h hi hown hsz hhi hseq cS hnd hmem hbl
  go_enter Tryz.func17, Tryz.ntmps17
  go_wp2_with fail
  refine HM.out.mono ?_
  rintro e w' ⟨rfl, rfl⟩
  go_wp2_with fail
  refine (cK _ _).mono ?_
  rintro e w' ⟨rfl, rfl⟩
  go_wp2_with fail
  refine CS.out.mono ?_
  rintro e w' ⟨v, ss, rfl, hS, hrow, _, hb⟩
  go_wp2
  go_ret
  have hS : ss.Perm (intKeys D0) := hS
  have hlen : (ss.mergeSort fun x y => decide (x ≤ y)).length = ss.length := (List.mergeSort_perm ss _).length_eq
  refine ⟨v, ss.mergeSort fun x y => decide (x ≤ y), rfl, ⟨sorted_rising (hS.nodup_iff.2 HE.out.1), fun z => ?_⟩, ?_, ((Below.refl _ w).alloc (Nat.le_refl _) _).trans (hb.mono (by simp))⟩
  · rw [(List.mergeSort_perm ss _).mem_iff, hS.mem_iff, HE.out.2]
    unfold vals
    cases d.dirty z <;> rfl
  · unfold Ints
    rw [hlen]
    exact own_mono hrow (by simp)
set_option maxRecDepth 100000 in
set_option maxHeartbeats 1000000 in
theorem live_any (p : Nat) (F : Sto.Fr) (s : Sto.SV) (K : Nat) (hK : K ≤ 4096) (hi : ∀ z, (s.nodes z).isSome = true → 0 ≤ z ∧ z < (K : Int)) (w : World) (h : Sto.StoIs w p F s) :
    Calls Tryz.prog 13 #[.pointer (some ⟨p, 0, none⟩)] w fun e w' => ∃ v l, e = .returned v ∧ (l.Pairwise (· < ·) ∧ ∀ z, z ∈ l ↔ (s.nodes z).isSome = true) ∧ Ints w' w.heap.size v l ∧ Below w.heap.size w w' := by
  have HM := Lib.hid (Sto.made_sto p F s w h)
  have c4 := Has.at_ h.obj 4
  simp at c4
  obtain ⟨D0, hown, hnd, hmem⟩ := own_of h.there K hK (fun z hz => hi z (by rw [Sto.thereM_some] at hz; exact hz))
  have hsz := hown.size_le
  have hhi := hK
  have hbl := hown.lt
  have hseq : SeqGives Fence.wide 2 Tryz.prog 61 #[.pointer (some ⟨w.heap.size, 0, none⟩)] encZ (fun ss => ss.Perm (intKeys D0)) (Maps.size D0) (w.alloc (.cells #[.map (some F.t)] 73)) :=
    AnyZI.keys_gives (ρ := keysB_ren) { keysB with } Fence.wide _ trivial rfl (by omega) w.heap.size F.t K D0 _ (by simp) (by simp) (by
      obtain ⟨es, clock, hb, Ft, hs, hD⟩ := hown
      exact ⟨es, clock, (Below.heap_alloc _ _ F.t hbl).trans hb, Ft, hs, hD⟩)
  have cK : ∀ mb W, Calls Tryz.prog 37 #[.map mb] W fun e w' => e = .returned (.func (.func 61) #[] #[.pointer (some ⟨W.heap.size, 0, none⟩)]) ∧ w' = W.alloc (.cells #[.map mb] 73) := fun mb W => (callsIn_wide (n := 5)).1 (AnyZI.keys_in keysB Fence.wide 5 trivial rfl mb W)
  have cS := (callsIn_wide (n := 5)).1 (AnyZI.sorted_in sortedA Fence.wide 5 trivial trivial trivial trivial rfl (by omega) (sortsA _) (enters_of Tryz.func60 (by kernel_rfl) rfl) 61 #[.pointer (some ⟨w.heap.size, 0, none⟩)] trivial (enters_of Tryz.func61 (by kernel_rfl) rfl) _ _ (by unfold maxLen; omega) (by omega) _ hseq)
  change Calls Tryz.prog 36 _ _ _ at cS
  have CS := Lib.hid cS
  have HE := Lib.hid (And.intro hnd hmem)
  clear h hi hown hsz hhi hseq cS hnd hmem hbl
  go_enter Tryz.func13, Tryz.ntmps13
  go_wp2_with fail
  refine HM.out.mono ?_
  rintro e w' ⟨rfl, rfl⟩
  go_wp2_with fail
  refine (cK _ _).mono ?_
  rintro e w' ⟨rfl, rfl⟩
  go_wp2_with fail
  refine CS.out.mono ?_
  rintro e w' ⟨v, ss, rfl, hS, hrow, _, hb⟩
  go_wp2
  go_ret
  have hS : ss.Perm (intKeys D0) := hS
  have hlen : (ss.mergeSort fun x y => decide (x ≤ y)).length = ss.length := (List.mergeSort_perm ss _).length_eq
  refine ⟨v, ss.mergeSort fun x y => decide (x ≤ y), rfl, ⟨sorted_rising (hS.nodup_iff.2 HE.out.1), fun z => ?_⟩, ?_, ((Below.refl _ w).alloc (Nat.le_refl _) _).trans (hb.mono (by simp))⟩
  · rw [(List.mergeSort_perm ss _).mem_iff, hS.mem_iff, HE.out.2]
    rw [Sto.thereM_some]
  · unfold Ints
    rw [hlen]
    exact own_mono hrow (by simp)
end Go.Proofs.YtkbpjegegjgbkaaGreat.Dv
