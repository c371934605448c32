/- The blocks that were written since: contract of Dirty. -/
import Derived.Test.YtdedbbbgpjhjhacDevK
import Derived.Shelf.SlIterI.Nil
import Derived.Shelf.SortM.Plain
import Derived.Shelf.SortM.SortNone
namespace Go.Proofs.Ytdedbbbgpjhjhac.Dv
open Go.RowKit Go.Maps Go.Sort Go.Shelf
open Go.WideElems (Fit rd rg rd_mk rg_of)
open Mem
open Rws

def keysA_ren : Go.Shelf.Ren := ⟨fun | 7 => 42 | 10 => 51 | n => n, fun | 23 => 67 | 26 => 3 | 3 => 79 | 28 => 76 | 0 => 0 | 27 => 75 | 33 => 80 | 4 => 4 | n => n, fun | n => n⟩
theorem keysA : Go.Proofs.SlLaysZI.n7 Try.prog keysA_ren where
  mixed := by kernel_rfl
  f7 := ⟨ "maps.Keys[map[int]crannog/dev.block,int,crannog/dev.block]", by decide, Try.func42.trans (congrArg some (by kernel_rfl))⟩
  f10 := ⟨ "maps.Keys[map[int]crannog/dev.block,int,crannog/dev.block]$1", by decide, Try.func51.trans (congrArg some (by kernel_rfl))⟩
  t0 := Try.underlying0
  a0 := Try.isAgg0
  z0 := Try.sizeOf0
  v0 := Try.zeroValue0
  t4 := Try.underlying4
  a4 := Try.isAgg4
  z4 := Try.sizeOf4
  v4 := Try.zeroValue4
  t23 := Try.underlying67
  a23 := Try.isAgg67
  z23 := Try.sizeOf67
  v23 := Try.zeroValue67
  t26 := Try.underlying3
  a26 := Try.isAgg3
  z26 := Try.sizeOf3
  v26 := Try.zeroValue3
  t27 := Try.underlying75
  a27 := Try.isAgg75
  z27 := Try.sizeOf75
  v27 := Try.zeroValue75
  t28 := Try.underlying76
  a28 := Try.isAgg76
  z28 := Try.sizeOf76
  v28 := Try.zeroValue76
  t33 := Try.underlying80
  a33 := Try.isAgg80
  z33 := Try.sizeOf80
  v33 := Try.zeroValue80
def sortedA_ren : Go.Shelf.Ren := ⟨fun | 6 => 41 | 8 => 49 | 9 => 50 | 11 => 53 | 13 => 55 | 12 => 54 | 23 => 65 | 24 => 66 | 14 => 56 | 15 => 57 | 16 => 58 | 17 => 59 | 18 => 60 | 19 => 61 | 20 => 62 | 21 => 63 | 22 => 64 | 25 => 67 | 26 => 68 | 27 => 69 | 28 => 70 | 29 => 71 | 30 => 72 | 31 => 73 | n => n, fun | 26 => 3 | 28 => 76 | 24 => 32 | 0 => 0 | 3 => 3 | 37 => 60 | 48 => 100 | 50 => 102 | 4 => 4 | 40 => 92 | 39 => 91 | 45 => 97 | 5 => 5 | 9 => 9 | 51 => 103 | 55 => 107 | 57 => 109 | 58 => 110 | 33 => 80 | n => n, fun | n => n⟩
theorem sortedA : Go.Proofs.SlLaysZI.n6 Try.prog sortedA_ren where
  mixed := by kernel_rfl
  f6 := ⟨ "slices.Sorted[int]", by decide, Try.func41.trans (congrArg some (by kernel_rfl))⟩
  f8 := ⟨ "slices.Collect[int]", by decide, Try.func49.trans (congrArg some (by kernel_rfl))⟩
  f11 := ⟨ "slices.AppendSeq[[]int,int]", by decide, Try.func53.trans (congrArg some (by kernel_rfl))⟩
  t0 := Try.underlying0
  a0 := Try.isAgg0
  z0 := Try.sizeOf0
  v0 := Try.zeroValue0
  t24 := Try.underlying32
  a24 := Try.isAgg32
  z24 := Try.sizeOf32
  v24 := Try.zeroValue32
  t26 := Try.underlying3
  a26 := Try.isAgg3
  z26 := Try.sizeOf3
  v26 := Try.zeroValue3
  t28 := Try.underlying76
  a28 := Try.isAgg76
  z28 := Try.sizeOf76
  v28 := Try.zeroValue76
  i26 := by kernel_rfl
def sortA_ren : Go.Shelf.Ren := ⟨fun | 5 => 50 | 8 => 55 | 7 => 54 | 19 => 65 | 20 => 66 | 10 => 56 | 11 => 57 | 12 => 58 | 13 => 59 | 14 => 60 | 15 => 61 | 16 => 62 | 17 => 63 | 18 => 64 | 30 => 67 | 31 => 68 | 32 => 69 | 33 => 70 | 34 => 71 | 35 => 72 | 40 => 73 | n => n, fun | 23 => 32 | 25 => 3 | 3 => 3 | 32 => 60 | 22 => 32 | 0 => 0 | 44 => 100 | 46 => 102 | 4 => 4 | 36 => 92 | 35 => 91 | 41 => 97 | 5 => 5 | 9 => 9 | 53 => 103 | 57 => 107 | 63 => 109 | 64 => 110 | n => n, fun | n => n⟩
theorem sortA : Go.Proofs.SlLaysM.n5 Try.prog sortA_ren where
  mixed := by kernel_rfl
  f5 := ⟨ "slices.Sort[[]int,int]", by decide, Try.func50.trans (congrArg some (by kernel_rfl))⟩
  f7 := ⟨ "slices.pdqsortOrdered[int]", by decide, Try.func54.trans (congrArg some (by kernel_rfl))⟩
  f8 := Try.func55.trans (congrArg some (by kernel_rfl))
  f10 := ⟨ "slices.insertionSortOrdered[int]", by decide, Try.func56.trans (congrArg some (by kernel_rfl))⟩
  f11 := ⟨ "slices.heapSortOrdered[int]", by decide, Try.func57.trans (congrArg some (by kernel_rfl))⟩
  f12 := ⟨ "slices.breakPatternsOrdered[int]", by decide, Try.func58.trans (congrArg some (by kernel_rfl))⟩
  f13 := ⟨ "slices.choosePivotOrdered[int]", by decide, Try.func59.trans (congrArg some (by kernel_rfl))⟩
  f14 := ⟨ "slices.reverseRangeOrdered[int]", by decide, Try.func60.trans (congrArg some (by kernel_rfl))⟩
  f15 := ⟨ "slices.partialInsertionSortOrdered[int]", by decide, Try.func61.trans (congrArg some (by kernel_rfl))⟩
  f16 := ⟨ "cmp.Less[int]", by decide, Try.func62.trans (congrArg some (by kernel_rfl))⟩
  f17 := ⟨ "slices.partitionEqualOrdered[int]", by decide, Try.func63.trans (congrArg some (by kernel_rfl))⟩
  f18 := ⟨ "slices.partitionOrdered[int]", by decide, Try.func64.trans (congrArg some (by kernel_rfl))⟩
  f19 := Try.func65.trans (congrArg some (by kernel_rfl))
  f20 := Try.func66.trans (congrArg some (by kernel_rfl))
  f30 := ⟨ "slices.siftDownOrdered[int]", by decide, Try.func67.trans (congrArg some (by kernel_rfl))⟩
  f31 := Try.func68.trans (congrArg some (by kernel_rfl))
  f32 := Try.func69.trans (congrArg some (by kernel_rfl))
  f33 := ⟨ "slices.medianAdjacentOrdered[int]", by decide, Try.func70.trans (congrArg some (by kernel_rfl))⟩
  f34 := ⟨ "slices.medianOrdered[int]", by decide, Try.func71.trans (congrArg some (by kernel_rfl))⟩
  f35 := ⟨ "cmp.isNaN[int]", by decide, Try.func72.trans (congrArg some (by kernel_rfl))⟩
  f40 := ⟨ "slices.order2Ordered[int]", by decide, Try.func73.trans (congrArg some (by kernel_rfl))⟩
  t0 := Try.underlying0
  a0 := Try.isAgg0
  z0 := Try.sizeOf0
  v0 := Try.zeroValue0
  t3 := Try.underlying3
  a3 := Try.isAgg3
  z3 := Try.sizeOf3
  v3 := Try.zeroValue3
  t4 := Try.underlying4
  a4 := Try.isAgg4
  z4 := Try.sizeOf4
  v4 := Try.zeroValue4
  t5 := Try.underlying5
  a5 := Try.isAgg5
  z5 := Try.sizeOf5
  v5 := Try.zeroValue5
  t9 := Try.underlying9
  a9 := Try.isAgg9
  z9 := Try.sizeOf9
  v9 := Try.zeroValue9
  t22 := Try.underlying32
  a22 := Try.isAgg32
  z22 := Try.sizeOf32
  v22 := Try.zeroValue32
  t23 := Try.underlying32
  a23 := Try.isAgg32
  z23 := Try.sizeOf32
  v23 := Try.zeroValue32
  t25 := Try.underlying3
  a25 := Try.isAgg3
  z25 := Try.sizeOf3
  v25 := Try.zeroValue3
  t32 := Try.underlying60
  a32 := Try.isAgg60
  z32 := Try.sizeOf60
  v32 := Try.zeroValue60
  t35 := Try.underlying91
  a35 := Try.isAgg91
  z35 := Try.sizeOf91
  v35 := Try.zeroValue91
  t36 := Try.underlying92
  a36 := Try.isAgg92
  z36 := Try.sizeOf92
  v36 := Try.zeroValue92
  t41 := Try.underlying97
  a41 := Try.isAgg97
  z41 := Try.sizeOf97
  v41 := Try.zeroValue97
  t44 := Try.underlying100
  a44 := Try.isAgg100
  z44 := Try.sizeOf100
  v44 := Try.zeroValue100
  t46 := Try.underlying102
  a46 := Try.isAgg102
  z46 := Try.sizeOf102
  v46 := Try.zeroValue102
  t53 := Try.underlying103
  a53 := Try.isAgg103
  z53 := Try.sizeOf103
  v53 := Try.zeroValue103
  t57 := Try.underlying107
  a57 := Try.isAgg107
  z57 := Try.sizeOf107
  v57 := Try.zeroValue107
  t63 := Try.underlying109
  a63 := Try.isAgg109
  z63 := Try.sizeOf109
  v63 := Try.zeroValue109
  t64 := Try.underlying110
  a64 := Try.isAgg110
  z64 := Try.sizeOf110
  v64 := Try.zeroValue110
theorem sortsA (m : Nat) : AnyZI.SortsIn Try.prog sortedA_ren Fence.wide m :=
  ⟨fun blk off cap ss W hH hblk hsz => callsIn_wide.2 (AnyM.slices_Sort_int sortA blk off cap ss W hH hblk hsz), fun p cap W => callsIn_wide.2 (AnyM.slices_Sort_int_none sortA p cap W)⟩
theorem nodup_len : ∀ (K : Nat) (l : List Int), l.Nodup → (∀ z ∈ l, 0 ≤ z ∧ z < (K : Int)) → l.length ≤ K
  | 0, l, _, h => by
    cases l with
    | nil => exact Nat.le_refl _
    | cons a l => have := h a List.mem_cons_self; omega
  | K + 1, l, hn, h => by
    have h1 := nodup_len K (l.erase (K : Int)) (hn.erase _) (fun z hz => by
      have h2 := (hn.mem_erase_iff).1 hz
      have h3 := h z h2.2
      have h4 := h2.1
      omega)
    have h5 := List.length_erase (a := (K : Int)) (l := l)
    split at h5 <;> omega
def anyR : Value → Option (DataW Unit × List MemPlace) := fun _ => some (.nil, [])
def keyI : Value → Int
  | .int _ a => a
  | _ => 0
theorem own_of {w : World} {b : Nat} {m : Int → Option Value} (h : IMap w b m) (K : Nat) (hK : K ≤ 4096) (hk : ∀ z, (m z).isSome = true → 0 ≤ z ∧ z < (K : Int)) :
    ∃ D : DataW Unit, w.ownsMap Try.prog 3 anyR b K D ∧ (intKeys D).Nodup ∧ ∀ z, z ∈ intKeys D ↔ (m z).isSome = true := by
  obtain ⟨es, c, h1, h2, h3⟩ := h
  have hes : ∀ x ∈ es.toList, ∃ z : Int, x.key = .int .i64 z ∧ (m z).isSome = true := fun x hx => by
    obtain ⟨z, hz⟩ := h2.keys x hx
    refine ⟨z, hz, ?_⟩
    rw [← h3 z, mget_mem h2.once hx hz]
    rfl
  have hrd : ∀ x ∈ es.toList, ∃ z : Int, x.key = .int .i64 z ∧ (m z).isSome = true ∧ rd Try.prog 3 anyR x = some (.int .i64 z, .nil) := fun x hx => by
    obtain ⟨z, hz, hm⟩ := hes x hx
    refine ⟨z, hz, hm, ?_⟩
    obtain ⟨key, val, born⟩ := x
    simp only at hz
    subst hz
    have hb := hk z hm
    have hw : (Lit.int .i64 z).wf = true := by
      simp [Lit.wf, IntKind.min, IntKind.max, IntKind.signed, IntKind.bits]
      omega
    exact rd_mk (yv := (.nil, [])) (by simp [keyOf, Try.underlying3, mapKey, hw]) rfl
  have hkm : (es.toList.map (rg Try.prog 3 anyR)).map (fun p => Go.intOf p.1) = es.toList.map fun x => keyI x.key := by
    rw [List.map_map]
    refine List.map_congr_left fun x hx => ?_
    obtain ⟨z, hz, _, hr⟩ := hrd x hx
    rw [Function.comp_apply, rg_of hr, hz]
    rfl
  have hperm : (intKeys (.map ((es.toList.map (rg Try.prog 3 anyR)).foldr DataW.insert []))).Perm (es.toList.map fun x => keyI x.key) := by
    rw [← hkm]
    exact (WideShapes.sorted_perm _).map _
  have hnd : (es.toList.map fun x => keyI x.key).Nodup := by
    have ho := h2.once
    rw [List.Nodup, List.pairwise_map] at ho ⊢
    refine ho.imp_of_mem fun {x y} hx hy hne e => hne ?_
    obtain ⟨z, hz, _⟩ := hes x hx
    obtain ⟨u, hu, _⟩ := hes y hy
    rw [hz, hu] at e ⊢
    have e : z = u := e
    rw [e]
  have hmem : ∀ z, z ∈ (es.toList.map fun x => keyI x.key) ↔ (m z).isSome = true := fun z => by
    rw [List.mem_map]
    constructor
    · rintro ⟨x, hx, rfl⟩
      obtain ⟨u, hu, hm⟩ := hes x hx
      rw [hu]
      exact hm
    · intro hm
      rcases find_at h2 z with ⟨_, f2, _⟩ | ⟨j, x, _, hj, hx, _⟩
      · rw [h3 z] at f2
        rw [f2] at hm
        cases hm
      · exact ⟨x, List.mem_of_getElem? hj, by rw [hx]; rfl⟩
  have hlen : es.size ≤ K := by
    have := nodup_len K _ hnd fun z hz => hk z ((hmem z).1 hz)
    simpa using this
  refine ⟨_, ⟨es, c, h1, ⟨by unfold maxLen; omega, ⟨h2.born, h2.apart, h2.once⟩, fun x hx => ?_⟩, hlen, rfl⟩, hperm.nodup_iff.2 hnd, fun z => ?_⟩
  · obtain ⟨z, _, _, hr⟩ := hrd x hx
    exact ⟨_, hr⟩
  · rw [hperm.mem_iff, hmem]
/-- The blocks that were written since, rising. -/
def DirtyL (d : St) (l : List Int) : Prop := l.Pairwise (· < ·) ∧ ∀ z, z ∈ l ↔ (d.dirty z).isSome = true
theorem rising_one {l k : List Int} (h : l.Pairwise (· < ·)) (h2 : k.Pairwise (· < ·)) (hm : ∀ z, z ∈ l ↔ z ∈ k) : l = k := by
  have n1 : l.Nodup := h.imp fun hab e => by omega
  have n2 : k.Nodup := h2.imp fun hab e => by omega
  exact List.Perm.eq_of_pairwise (le := fun a b : Int => a < b) (fun a b _ _ h1 h2 => by omega) h h2 ((List.perm_ext_iff_of_nodup n1 n2).2 hm)
theorem dirty_one {d : St} {l k : List Int} (h : DirtyL d l) (h2 : DirtyL d k) : l = k :=
  rising_one h.1 h2.1 fun z => (h.2 z).trans (h2.2 z).symm
/-- What was written lies inside. -/
def InD (d : St) : Prop := ∀ z, (d.dirty z).isSome = true → 0 ≤ z ∧ z < (d.size : Int)
def Ints (w : World) (B : Nat) (v : Value) (l : List Int) : Prop := w.ownsRow B 3 1 v l.length (l.map (Value.int .i64))
theorem sorted_rising {ss : List Int} (h : ss.Nodup) : (ss.mergeSort fun x y => decide (x ≤ y)).Pairwise (· < ·) := by
  have tr : ∀ a b c : Int, decide (a ≤ b) = true → decide (b ≤ c) = true → decide (a ≤ c) = true := fun a b c h1 h2 => by simp only [decide_eq_true_eq] at *; omega
  have to : ∀ a b : Int, (decide (a ≤ b) || decide (b ≤ a)) = true := fun a b => by simp only [Bool.or_eq_true, decide_eq_true_eq]; omega
  have h1 := List.pairwise_mergeSort tr to ss
  have h2 : (ss.mergeSort fun x y => decide (x ≤ y)).Nodup := (List.mergeSort_perm ss _).nodup_iff.2 h
  refine (h1.and h2).imp fun {a b} hab => ?_
  have k1 := of_decide_eq_true hab.1
  have k2 := hab.2
  omega
set_option maxRecDepth 100000 in
set_option maxHeartbeats 1000000 in
theorem dirty_any (p bk bd : Nat) (d : St) (w : World) (h : DevIs w p bk bd d) (hi : InD d) :
    Calls Try.prog 18 #[.pointer (some ⟨p, 0, none⟩)] w fun e w' => ∃ v l, e = .returned v ∧ DirtyL d l ∧ Ints w' w.heap.size v l ∧ Below w.heap.size w w' := by
  have HM := Lib.hid (made_any p bk bd d w h)
  have c4 := Has.at_ h.obj 4
  simp at c4
  obtain ⟨D0, hown, hnd, hmem⟩ := own_of h.dirt d.size h.hi (fun z hz => hi z (by unfold vals at hz; cases hq : d.dirty z with
    | none => rw [hq] at hz; cases hz
    | some s => rfl))
  have hsz := hown.size_le
  have hhi := h.hi
  have hbl := hown.lt
  have hseq : SeqGives Fence.wide 2 Try.prog 51 #[.pointer (some ⟨w.heap.size, 0, none⟩)] encZ (fun ss => ss.Perm (intKeys D0)) (Maps.size D0) (w.alloc (.cells #[.map (some bd)] 67)) :=
    AnyZI.keys_gives (ρ := keysA_ren) { keysA with } Fence.wide _ trivial rfl (by omega) w.heap.size bd d.size D0 _ (by simp) (by simp) (by
      obtain ⟨es, clock, hb, Ft, hs, hD⟩ := hown
      exact ⟨es, clock, (Below.heap_alloc _ _ bd hbl).trans hb, Ft, hs, hD⟩)
  have cK : ∀ mb W, Calls Try.prog 42 #[.map mb] W fun e w' => e = .returned (.func (.func 51) #[] #[.pointer (some ⟨W.heap.size, 0, none⟩)]) ∧ w' = W.alloc (.cells #[.map mb] 67) := fun mb W => (callsIn_wide (n := 5)).1 (AnyZI.keys_in keysA Fence.wide 5 trivial rfl mb W)
  have cS := (callsIn_wide (n := 5)).1 (AnyZI.sorted_in sortedA Fence.wide 5 trivial trivial trivial trivial rfl (by omega) (sortsA _) (enters_of Try.func50 (by kernel_rfl) rfl) 51 #[.pointer (some ⟨w.heap.size, 0, none⟩)] trivial (enters_of Try.func51 (by kernel_rfl) rfl) _ _ (by unfold maxLen; omega) (by omega) _ hseq)
  change Calls Try.prog 41 _ _ _ at cS
  have CS := Lib.hid cS
  have HE := Lib.hid (And.intro hnd hmem)
  clear h hi hown hsz hhi hseq cS hnd hmem hbl
  go_enter Try.func18, Try.ntmps18
  go_wp2_with fail
  refine HM.out.mono ?_
  rintro e w' ⟨rfl, rfl⟩
  go_wp2_with fail
  refine (cK _ _).mono ?_
  rintro e w' ⟨rfl, rfl⟩
  go_wp2_with fail
  refine CS.out.mono ?_
  rintro e w' ⟨v, ss, rfl, hS, hrow, _, hb⟩
  go_wp2
  go_ret
  have hS : ss.Perm (intKeys D0) := hS
  have hlen : (ss.mergeSort fun x y => decide (x ≤ y)).length = ss.length := (List.mergeSort_perm ss _).length_eq
  refine ⟨v, ss.mergeSort fun x y => decide (x ≤ y), rfl, ⟨sorted_rising (hS.nodup_iff.2 HE.out.1), fun z => ?_⟩, ?_, ((Below.refl _ w).alloc (Nat.le_refl _) _).trans (hb.mono (by simp))⟩
  · rw [(List.mergeSort_perm ss _).mem_iff, hS.mem_iff, HE.out.2]
    unfold vals
    cases d.dirty z <;> rfl
  · unfold Ints
    rw [hlen]
    exact own_mono hrow (by simp)
end Go.Proofs.Ytdedbbbgpjhjhac.Dv
